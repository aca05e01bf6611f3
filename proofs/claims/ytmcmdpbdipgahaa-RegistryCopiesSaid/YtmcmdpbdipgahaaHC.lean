/-
  Two arrays of bytes are equal; one order of all hashes.
-/
import Derived.Test.YtmcmdpbdipgahaaHA
import Derived.Test.YtmcmdpbdipgahaaHB
import Derived.Deep.MidRow
namespace Go.Proofs.Ytmcmdpbdipgahaa
open Go.RowKit
theorem eq_byte (d : Nat) (a b : Int) (w : World) : (Op.equalIn (d + 1) 5 (.int .u8 a) (.int .u8 b)).run Try.prog w = .ok (a == b) w := by
  have hu : Try.prog.underlying 5 = some (.int .u8) := by kernel_rfl
  rw [Op.equalIn]
  simp [run_underlying hu]
theorem part_byte (xs : List Int) (i : Nat) (h : i < xs.length) (w : World) : (part 5 (ba xs) (i * 1)).run Try.prog w = .ok (.int .u8 (xs.getD i 0)) w := by
  have hu : Try.prog.underlying 5 = some (.int .u8) := by kernel_rfl
  simp [part, isAgg, run_underlying hu, ba, bvals, List.getD, h]
theorem eq_ba (t n d : Nat) (ht : Try.prog.underlying t = some (.array n 5)) (xs ys : List Int) (w : World) (hx : xs.length = n) (hy : ys.length = n) :
    (Op.equalIn (d + 2) t (.agg (ba xs)) (.agg (ba ys))).run Try.prog w = .ok (decide (xs = ys)) w := by
  have z5 := Try.sizeOf5
  rw [Op.equalIn]
  simp only [Sem.run_bind, run_underlying ht, Result.andThen_ok]
  have key : ∀ (L : List Nat) (hL : ∀ i ∈ L, i < n), Sem.run Try.prog (forIn L ((none, ()) : Option Bool × PUnit) fun i r => do
      let a ← part 5 (ba xs) (i * 1)
      let b ← part 5 (ba ys) (i * 1)
      let e ← Op.equalIn (d + 1) 5 a b
      if (!e) = true then pure (ForInStep.done (some false, ())) else pure (ForInStep.yield (none, ()))) w = .ok (if (∀ i ∈ L, xs.getD i 0 = ys.getD i 0) then (none, ()) else (some false, ())) w := by
    intro L
    induction L with
    | nil => intro _; simp
    | cons i L ih =>
      intro hL
      have hi := hL i (by simp)
      rw [List.forIn_cons]
      simp only [Sem.run_bind, part_byte xs i (by omega), part_byte ys i (by omega), Result.andThen_ok, eq_byte]
      by_cases e : xs.getD i 0 = ys.getD i 0
      · have := ih fun j hj => hL j (by simp [hj])
        simp only [e, beq_self_eq_true, Bool.not_true, Bool.false_eq_true, if_false, Sem.run_pure, Result.andThen_ok]
        rw [this]
        have e' : xs[i]?.getD 0 = ys[i]?.getD 0 := e
        simp [e']
      · have e' : ¬ xs[i]?.getD 0 = ys[i]?.getD 0 := e
        simp [e']
  simp only [z5, Result.andThen_ok, Std.Legacy.Range.forIn_eq_forIn_range', Std.Legacy.Range.size, Nat.sub_zero, Nat.add_sub_cancel, Nat.div_one]
  rw [key (List.range' 0 n) (fun i hi => by simp [List.mem_range'] at hi; omega)]
  have hall : (∀ i ∈ List.range' 0 n, xs.getD i 0 = ys.getD i 0) ↔ xs = ys := by
    constructor
    · intro h
      apply List.ext_getElem (by omega)
      intro i h1 h2
      have := h i (by simp [List.mem_range']; omega)
      simpa [List.getD, h1, h2] using this
    · rintro rfl _ _
      rfl
  by_cases e : xs = ys
  · rw [if_pos (hall.2 e)]
    simp [e]
  · rw [if_neg (fun h => e (hall.1 h))]
    simp [e]
end Go.Proofs.Ytmcmdpbdipgahaa

/-
  The document's Num; Of.
-/
namespace Go.Proofs.Ytmcmdpbdipgahaa
open Go.RowKit
set_option maxHeartbeats 1000000 in
theorem c21 (n : Int) (w : Nat) (W : World) (hw : w ≤ 7) :
    Calls Try.prog 63 #[.int .i64 n, .int .i64 w] W fun e W' => ∃ A c, e = .returned (.slice A w c) ∧ W'.ownsRow W.heap.size 5 1 (.slice A w c) w (bvals (digs n w)) ∧ Below W.heap.size W W' := by
  obtain ⟨i0, hi, hz0, hz1, hz2⟩ := info_parts info5
  have HI := Lib.hid hi
  have HI0 := Lib.hid hz0
  have HI1 := Lib.hid hz1
  have HI2 := Lib.hid hz2
  clear hi hz0 hz1 hz2
  go_enter Try.func63, Try.ntmps63
  go_wp2
  go_loopw [5, 6] (fun v i wr => ∃ (k : Nat) (A : Option Addr) (c : Nat), k ≤ w ∧ i = .int .i64 k ∧ v = .slice A k c ∧ wr.ownsRow W.heap.size 5 1 (.slice A k c) k (bvals (digs n k)) ∧ Below W.heap.size W wr) (fun _ i _ => w - (intOf i).toNat)
  case atStart => exact ⟨0, none, 0, Nat.zero_le _, rfl, rfl, own_nil _ _, Below.refl _ _⟩
  case round =>
    obtain ⟨k, A, c, hk, rfl, rfl, hown, hbel⟩ := hrel
    have OW := Lib.hid hown
    have BL := Lib.hid hbel
    clear hown hbel
    by_cases hlt : k < w
    · have h8 : (8 * (k : Int)).toNat = 8 * k := by omega
      have hmin : min (8 * k) 64 = 8 * k := by omega
      have hd : n / 2 ^ (8 * k) % 256 = dig n k := rfl
      go_wp2_with (at_builtin; refine wpList_app rfl (.tmp 12) (.tmp 19) 106 rfl i0 Try.underlying106 HI.out HI0.out HI1.out HI2.out W.heap.size k (.slice A k c) (digs n k) rfl (OW.out.alloc _) (some ⟨wr.heap.size, 0, none⟩) 1 1 [dig n k] rfl (src_one wr (dig n k)) (fun h => by cases h) (by unfold maxLen; omega) (by omega) (by have := BL.out.size; simp; omega) ?_; intro A2 cc2 w2 hown2 hg2 _)
      have b5 : Below W.heap.size W w2 := (BL.out.alloc BL.out.size _).grown hg2 (by have := BL.out.size; simp; omega) (own_base OW.out)
      go_roundw
      case rel => exact ⟨k + 1, A2, cc2, by omega, by go_num, rfl, by rw [digs_succ]; exact hown2, b5⟩
      case measure => simp [intOf]; omega
    · obtain rfl : k = w := by omega
      go_wp2
      go_ret
      exact ⟨A, c, rfl, OW.out, BL.out⟩

end Go.Proofs.Ytmcmdpbdipgahaa

/-
  Of.
-/
namespace Go.Proofs.Ytmcmdpbdipgahaa
open Go.RowKit
/-- parts in memory -/
structure Prts (w : World) (A : Option Addr) (n : Nat) (pa : Nat → Option Addr) (pl pc : Nat → Nat) (px : Nat → List Int) : Prop where
  cell : n = 0 ∨ ∃ g off, A = some ⟨g, off, none⟩ ∧ ∀ i, i < n → w.cell? ⟨g, off + i, none⟩ = some (.slice (pa i) (pl i) (pc i))
  src : ∀ i, i < n → Src w (pa i) (pl i) (px i)
  le : ∀ i, i < n → pl i ≤ pc i ∧ pc i ≤ 9223372036854775807
/-- what is digested -/
def msg (p : Int) (pl : Nat → Nat) (px : Nat → List Int) : Nat → List Int
  | 0 => [p]
  | k + 1 => msg p pl px k ++ digs (pl k) 4 ++ px k
theorem msg_mono (p : Int) (pl : Nat → Nat) (px : Nat → List Int) {k n : Nat} (h : k ≤ n) : (msg p pl px k).length ≤ (msg p pl px n).length := by
  induction n with
  | zero => obtain rfl : k = 0 := by omega
            exact Nat.le_refl _
  | succ n ih =>
    by_cases e : k = n + 1
    · subst e; exact Nat.le_refl _
    · have := ih (by omega)
      rw [msg, List.length_append, List.length_append]
      omega
theorem msg_ge (p : Int) (pl : Nat → Nat) (px : Nat → List Int) (n : Nat) : 4 * n ≤ (msg p pl px n).length := by
  induction n with
  | zero => omega
  | succ n ih => rw [msg, List.length_append, List.length_append, digs_len]; omega
theorem Prts.keep {w W : World} {A : Option Addr} {n : Nat} {pa : Nat → Option Addr} {pl pc : Nat → Nat} {px : Nat → List Int} (h : Prts w A n pa pl pc px) (hb : ∀ k, k < w.heap.size → W.heap[k]? = w.heap[k]?) : Prts W A n pa pl pc px := by
  refine ⟨?_, fun i hi => (h.src i hi).keep hb, h.le⟩
  rcases h.cell with h0 | ⟨g, off, rfl, hc⟩
  · exact .inl h0
  · refine .inr ⟨g, off, rfl, fun i hi => ?_⟩
    rw [World.cell?_of_block (w := w) (w' := W) (a := ⟨g, off + i, none⟩) (hb g (World.block_lt_of_cell? w ⟨g, off + i, none⟩ (hc i hi)))]
    exact hc i hi
theorem sum8 (m : List Int) : ∃ x0 x1 x2 x3 x4 x5 x6 x7, (sha m).take 8 = [x0, x1, x2, x3, x4, x5, x6, x7] ∧ ∀ (w : World) (b : Nat), BA w b 114 (sha m) → w.cell? ⟨b, 0, none⟩ = some (.int .u8 x0) ∧ w.cell? ⟨b, 1, none⟩ = some (.int .u8 x1) ∧ w.cell? ⟨b, 2, none⟩ = some (.int .u8 x2) ∧ w.cell? ⟨b, 3, none⟩ = some (.int .u8 x3) ∧ w.cell? ⟨b, 4, none⟩ = some (.int .u8 x4) ∧ w.cell? ⟨b, 5, none⟩ = some (.int .u8 x5) ∧ w.cell? ⟨b, 6, none⟩ = some (.int .u8 x6) ∧ w.cell? ⟨b, 7, none⟩ = some (.int .u8 x7) := by
  have hl := sha_len m
  generalize sha m = l at *
  match l, hl with
  | x0 :: x1 :: x2 :: x3 :: x4 :: x5 :: x6 :: x7 :: r, hl =>
    refine ⟨x0, x1, x2, x3, x4, x5, x6, x7, rfl, fun w b h => ?_⟩
    exact ⟨ba_cell h 0 (by simp), ba_cell h 1 (by simp), ba_cell h 2 (by simp), ba_cell h 3 (by simp), ba_cell h 4 (by simp), ba_cell h 5 (by simp), ba_cell h 6 (by simp), ba_cell h 7 (by simp)⟩
theorem ba_lit (x0 x1 x2 x3 x4 x5 x6 x7 : Int) : ba [x0, x1, x2, x3, x4, x5, x6, x7] = #[.int .u8 x0, .int .u8 x1, .int .u8 x2, .int .u8 x3, .int .u8 x4, .int .u8 x5, .int .u8 x6, .int .u8 x7] := rfl
theorem z27 (w : World) : (zeroValue 31).run Try.prog w = .ok (.agg (ba (zeros 8))) w := by kernel_rfl
attribute [local irreducible] ua da ba kk sw S8.run rt hs comp splice outB sha

end Go.Proofs.Ytmcmdpbdipgahaa

/-
  The walk of HashParts.
-/
namespace Go.Proofs.Ytmcmdpbdipgahaa
open Go.RowKit
theorem src_own {w : World} {base n : Nat} {A : Option Addr} {c : Nat} {xs : List Int} (h : w.ownsRow base 5 1 (.slice A n c) n (bvals xs)) : Src w A n xs ∧ n ≤ c ∧ (A = none → c = 0) ∧ c ≤ maxLen := by
  obtain ⟨A', c', e, hr, hl, hc⟩ := own_row h
  simp only [Value.slice.injEq] at e
  obtain ⟨rfl, _, rfl⟩ := e
  refine ⟨src_row hl hr, hc, fun ha => ?_, ?_⟩
  · rcases h.2 with ⟨h4, _⟩ | ⟨g, cap, cur, h4, _⟩
    · simp only [Value.slice.injEq] at h4; exact h4.2.2
    · simp only [Value.slice.injEq] at h4; rw [ha] at h4; cases h4.1
  · rcases h.2 with ⟨h4, _⟩ | ⟨g, cap, cur, h4, _, _, _, h5, _⟩
    · simp only [Value.slice.injEq] at h4; rw [h4.2.2]; exact Nat.zero_le _
    · simp only [Value.slice.injEq] at h4; omega
theorem own_one (w : World) (p : Int) : (w.alloc (Obj.cells #[.int .u8 p] 5)).ownsRow w.heap.size 5 1 (.slice (some ⟨w.heap.size, 0, none⟩) 1 1) 1 (bvals [p]) :=
  ⟨rfl, .inr ⟨w.heap.size, 1, #[.int .u8 p], rfl, Nat.le_refl _, heap_alloc_new w _, Nat.le_refl _, by decide, rfl, rfl⟩⟩
theorem num4 (n : Nat) (W : World) : Calls Try.prog 63 #[.int .i64 n, .int .i64 4] W fun e W' => ∃ A c, e = .returned (.slice A 4 c) ∧ W'.ownsRow W.heap.size 5 1 (.slice A 4 c) 4 (bvals (digs n 4)) ∧ Below W.heap.size W W' := c21 n 4 W (by omega)
theorem own_keepB {w W : World} {base n : Nat} {v : Value} {xs : List Value} (h : w.ownsRow base 5 1 v n xs) (hb : Below w.heap.size w W) : W.ownsRow base 5 1 v n xs := own_keep h fun q hq => hb.block q (own_lt h q hq)
theorem copied (y : List Int) (h : y.length = 8) : ((ba (zeros 8)).toList.take 0 ++ (bvals y ++ (ba (zeros 8)).toList.drop (0 + (bvals y).length))).toArray = ba y := by
  have : (bvals y).length = 8 := by simp [bvals, h]
  rw [this]
  simp [ba, zeros, bvals]
theorem msg2 (p : Int) (pl : Nat → Nat) (px : Nat → List Int) : msg p pl px 2 = [p] ++ digs (pl 0) 4 ++ px 0 ++ digs (pl 1) 4 ++ px 1 := rfl
theorem ba_range {w : World} {b : Nat} {t : TypeId} {xs : List Int} (h : BA w b t xs) : w.rangeAt b 0 (bvals xs) := by
  intro j v hv
  have hj : j < xs.length := by
    have := (List.getElem?_eq_some_iff.1 hv).1
    simpa [bvals] using this
  rw [Nat.zero_add, ba_cell h j hj, ← hv]
  simp [bvals, List.getD, hj]
theorem c8cells : ∀ (x : List Int), x.length = 8 → ∃ x0 x1 x2 x3 x4 x5 x6 x7, x = [x0, x1, x2, x3, x4, x5, x6, x7]
  | [x0, x1, x2, x3, x4, x5, x6, x7], _ => ⟨x0, x1, x2, x3, x4, x5, x6, x7, rfl⟩
theorem cells8 {w : World} {b : Nat} {t : TypeId} (x0 x1 x2 x3 x4 x5 x6 x7 : Int) (h : BA w b t [x0, x1, x2, x3, x4, x5, x6, x7]) : w.cell? ⟨b, 0, none⟩ = some (.int .u8 x0) ∧ w.cell? ⟨b, 1, none⟩ = some (.int .u8 x1) ∧ w.cell? ⟨b, 2, none⟩ = some (.int .u8 x2) ∧ w.cell? ⟨b, 3, none⟩ = some (.int .u8 x3) ∧ w.cell? ⟨b, 4, none⟩ = some (.int .u8 x4) ∧ w.cell? ⟨b, 5, none⟩ = some (.int .u8 x5) ∧ w.cell? ⟨b, 6, none⟩ = some (.int .u8 x6) ∧ w.cell? ⟨b, 7, none⟩ = some (.int .u8 x7) :=
  ⟨ba_cell h 0 (by simp), ba_cell h 1 (by simp), ba_cell h 2 (by simp), ba_cell h 3 (by simp), ba_cell h 4 (by simp), ba_cell h 5 (by simp), ba_cell h 6 (by simp), ba_cell h 7 (by simp)⟩
theorem eqT (x0 x1 x2 x3 x4 x5 x6 x7 : Int) (w : World) : (Op.equalIn 10000 31 (.agg #[.int .u8 x0, .int .u8 x1, .int .u8 x2, .int .u8 x3, .int .u8 x4, .int .u8 x5, .int .u8 x6, .int .u8 x7]) (.agg #[.int .u8 x0, .int .u8 x1, .int .u8 x2, .int .u8 x3, .int .u8 x4, .int .u8 x5, .int .u8 x6, .int .u8 x7])).run Try.prog w = .ok true w := by
  have := eq_ba 31 8 9998 Try.underlying31 [x0, x1, x2, x3, x4, x5, x6, x7] [x0, x1, x2, x3, x4, x5, x6, x7] w rfl rfl
  rw [decide_eq_true rfl] at this
  exact this
theorem eqS (m : List Int) (w : World) : (Op.equalIn 10000 114 (.agg (bvals (sha m)).toArray) (.agg (ba (sha m)))).run Try.prog w = .ok true w := by
  have := eq_ba 114 32 9998 Try.underlying114 (sha m) (sha m) w (sha_len m) (sha_len m)
  rw [decide_eq_true rfl] at this
  exact this
end Go.Proofs.Ytmcmdpbdipgahaa

/-
  Two, Zero.
-/
namespace Go.Proofs.Ytmcmdpbdipgahaa
open Go.RowKit
/-- what two hashes digest to -/
def twoM (p : Int) (x y : List Int) : List Int := [p] ++ digs 8 4 ++ x ++ digs 8 4 ++ y
def put8 (w : World) (b : Nat) (x0 x1 x2 x3 x4 x5 x6 x7 : Int) : World := ((((((((w.setCell ⟨b, 0, none⟩ (.int .u8 x0)).setCell ⟨b, 1, none⟩ (.int .u8 x1)).setCell ⟨b, 2, none⟩ (.int .u8 x2)).setCell ⟨b, 3, none⟩ (.int .u8 x3)).setCell ⟨b, 4, none⟩ (.int .u8 x4)).setCell ⟨b, 5, none⟩ (.int .u8 x5)).setCell ⟨b, 6, none⟩ (.int .u8 x6)).setCell ⟨b, 7, none⟩ (.int .u8 x7))
theorem put8_ba {w : World} {b : Nat} (x0 x1 x2 x3 x4 x5 x6 x7 : Int) (h : BA w b 31 (zeros 8)) : BA (put8 w b x0 x1 x2 x3 x4 x5 x6 x7) b 31 [x0, x1, x2, x3, x4, x5, x6, x7] := (ba_set (ba_set (ba_set (ba_set (ba_set (ba_set (ba_set (ba_set h 0 x0) 1 x1) 2 x2) 3 x3) 4 x4) 5 x5) 6 x6) 7 x7)
theorem put8_below {w v : World} {B b : Nat} (x0 x1 x2 x3 x4 x5 x6 x7 : Int) (h : Below B w v) (hb : B ≤ b) : Below B w (put8 v b x0 x1 x2 x3 x4 x5 x6 x7) := ((((((((h.setCell hb _).setCell hb _).setCell hb _).setCell hb _).setCell hb _).setCell hb _).setCell hb _).setCell hb _)
attribute [local irreducible] ua da ba kk sw S8.run rt hs comp splice outB sha msg

theorem ba8 : ba (zeros 8) = #[.int .u8 0, .int .u8 0, .int .u8 0, .int .u8 0, .int .u8 0, .int .u8 0, .int .u8 0, .int .u8 0] := by unfold ba bvals zeros; rfl
end Go.Proofs.Ytmcmdpbdipgahaa
