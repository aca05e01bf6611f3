/-
  Two arrays of bytes are equal; one order of all hashes.
-/
import Derived.Test.YtffaddefnpkcgaaGreatDoorZHA
import Derived.Test.YtffaddefnpkcgaaGreatDoorZHB
import Derived.Deep.MidRow
namespace Go.Proofs.YtffaddefnpkcgaaGreatDoor
open Go.RowKit
theorem eq_byte (d : Nat) (a b : Int) (w : World) : (Op.equalIn (d + 1) 5 (.int .u8 a) (.int .u8 b)).run Tryz.prog w = .ok (a == b) w := by
  have hu : Tryz.prog.underlying 5 = some (.int .u8) := by kernel_rfl
  rw [Op.equalIn]
  simp [run_underlying hu]
theorem part_byte (xs : List Int) (i : Nat) (h : i < xs.length) (w : World) : (part 5 (ba xs) (i * 1)).run Tryz.prog w = .ok (.int .u8 (xs.getD i 0)) w := by
  have hu : Tryz.prog.underlying 5 = some (.int .u8) := by kernel_rfl
  simp [part, isAgg, run_underlying hu, ba, bvals, List.getD, h]
theorem eq_ba (t n d : Nat) (ht : Tryz.prog.underlying t = some (.array n 5)) (xs ys : List Int) (w : World) (hx : xs.length = n) (hy : ys.length = n) :
    (Op.equalIn (d + 2) t (.agg (ba xs)) (.agg (ba ys))).run Tryz.prog w = .ok (decide (xs = ys)) w := by
  have z5 := Tryz.sizeOf5
  rw [Op.equalIn]
  simp only [Sem.run_bind, run_underlying ht, Result.andThen_ok]
  have key : ∀ (L : List Nat) (hL : ∀ i ∈ L, i < n), Sem.run Tryz.prog (forIn L ((none, ()) : Option Bool × PUnit) fun i r => do
      let a ← part 5 (ba xs) (i * 1)
      let b ← part 5 (ba ys) (i * 1)
      let e ← Op.equalIn (d + 1) 5 a b
      if (!e) = true then pure (ForInStep.done (some false, ())) else pure (ForInStep.yield (none, ()))) w = .ok (if (∀ i ∈ L, xs.getD i 0 = ys.getD i 0) then (none, ()) else (some false, ())) w := by
    intro L
    induction L with
    | nil => intro _; simp
    | cons i L ih =>
      intro hL
      have hi := hL i (by simp)
      rw [List.forIn_cons]
      simp only [Sem.run_bind, part_byte xs i (by omega), part_byte ys i (by omega), Result.andThen_ok, eq_byte]
      by_cases e : xs.getD i 0 = ys.getD i 0
      · have := ih fun j hj => hL j (by simp [hj])
        simp only [e, beq_self_eq_true, Bool.not_true, Bool.false_eq_true, if_false, Sem.run_pure, Result.andThen_ok]
        rw [this]
        have e' : xs[i]?.getD 0 = ys[i]?.getD 0 := e
        simp [e']
      · have e' : ¬ xs[i]?.getD 0 = ys[i]?.getD 0 := e
        simp [e']
  simp only [z5, Result.andThen_ok, Std.Legacy.Range.forIn_eq_forIn_range', Std.Legacy.Range.size, Nat.sub_zero, Nat.add_sub_cancel, Nat.div_one]
  rw [key (List.range' 0 n) (fun i hi => by simp [List.mem_range'] at hi; omega)]
  have hall : (∀ i ∈ List.range' 0 n, xs.getD i 0 = ys.getD i 0) ↔ xs = ys := by
    constructor
    · intro h
      apply List.ext_getElem (by omega)
      intro i h1 h2
      have := h i (by simp [List.mem_range']; omega)
      simpa [List.getD, h1, h2] using this
    · rintro rfl _ _
      rfl
  by_cases e : xs = ys
  · rw [if_pos (hall.2 e)]
    simp [e]
  · rw [if_neg (fun h => e (hall.1 h))]
    simp [e]
end Go.Proofs.YtffaddefnpkcgaaGreatDoor
/-
  The document's Num; Of.
-/
namespace Go.Proofs.YtffaddefnpkcgaaGreatDoor
open Go.RowKit
set_option maxHeartbeats 1000000 in
theorem c21 (n : Int) (w : Nat) (W : World) (hw : w ≤ 7) :
    Calls Tryz.prog 31 #[.int .i64 n, .int .i64 w] W fun e W' => ∃ A c, e = .returned (.slice A w c) ∧ W'.ownsRow W.heap.size 5 1 (.slice A w c) w (bvals (digs n w)) ∧ Below W.heap.size W W' := by
  obtain ⟨i0, hi, hz0, hz1, hz2⟩ := info_parts info5
  have HI := Lib.hid hi
  have HI0 := Lib.hid hz0
  have HI1 := Lib.hid hz1
  have HI2 := Lib.hid hz2
  clear hi hz0 hz1 hz2
  go_enter Tryz.func31, Tryz.ntmps31
  go_wp2
  go_loopw [5, 6] (fun v i wr => ∃ (k : Nat) (A : Option Addr) (c : Nat), k ≤ w ∧ i = .int .i64 k ∧ v = .slice A k c ∧ wr.ownsRow W.heap.size 5 1 (.slice A k c) k (bvals (digs n k)) ∧ Below W.heap.size W wr) (fun _ i _ => w - (intOf i).toNat)
  case atStart => exact ⟨0, none, 0, Nat.zero_le _, rfl, rfl, own_nil _ _, Below.refl _ _⟩
  case round =>
    obtain ⟨k, A, c, hk, rfl, rfl, hown, hbel⟩ := hrel
    have OW := Lib.hid hown
    have BL := Lib.hid hbel
    clear hown hbel
    by_cases hlt : k < w
    · have h8 : (8 * (k : Int)).toNat = 8 * k := by omega
      have hmin : min (8 * k) 64 = 8 * k := by omega
      have hd : n / 2 ^ (8 * k) % 256 = dig n k := rfl
      go_wp2_with (at_builtin; refine wpList_app rfl (.tmp 12) (.tmp 19) 42 rfl i0 Tryz.underlying42 HI.out HI0.out HI1.out HI2.out W.heap.size k (.slice A k c) (digs n k) rfl (OW.out.alloc _) (some ⟨wr.heap.size, 0, none⟩) 1 1 [dig n k] rfl (src_one wr (dig n k)) (fun h => by cases h) (by unfold maxLen; omega) (by omega) (by have := BL.out.size; simp; omega) ?_; intro A2 cc2 w2 hown2 hg2 _)
      have b5 : Below W.heap.size W w2 := (BL.out.alloc BL.out.size _).grown hg2 (by have := BL.out.size; simp; omega) (own_base OW.out)
      go_roundw
      case rel => exact ⟨k + 1, A2, cc2, by omega, by go_num, rfl, by rw [digs_succ]; exact hown2, b5⟩
      case measure => simp [intOf]; omega
    · obtain rfl : k = w := by omega
      go_wp2
      go_ret
      exact ⟨A, c, rfl, OW.out, BL.out⟩
end Go.Proofs.YtffaddefnpkcgaaGreatDoor
/-
  Of.
-/
namespace Go.Proofs.YtffaddefnpkcgaaGreatDoor
open Go.RowKit
structure Prts (w : World) (A : Option Addr) (n : Nat) (pa : Nat → Option Addr) (pl pc : Nat → Nat) (px : Nat → List Int) : Prop where
  cell : n = 0 ∨ ∃ g off, A = some ⟨g, off, none⟩ ∧ ∀ i, i < n → w.cell? ⟨g, off + i, none⟩ = some (.slice (pa i) (pl i) (pc i))
  src : ∀ i, i < n → Src w (pa i) (pl i) (px i)
  le : ∀ i, i < n → pl i ≤ pc i ∧ pc i ≤ 9223372036854775807
def msg (p : Int) (pl : Nat → Nat) (px : Nat → List Int) : Nat → List Int
  | 0 => [p]
  | k + 1 => msg p pl px k ++ digs (pl k) 4 ++ px k
theorem msg_mono (p : Int) (pl : Nat → Nat) (px : Nat → List Int) {k n : Nat} (h : k ≤ n) : (msg p pl px k).length ≤ (msg p pl px n).length := by
  induction n with
  | zero => obtain rfl : k = 0 := by omega
            exact Nat.le_refl _
  | succ n ih =>
    by_cases e : k = n + 1
    · subst e; exact Nat.le_refl _
    · have := ih (by omega)
      rw [msg, List.length_append, List.length_append]
      omega
theorem msg_ge (p : Int) (pl : Nat → Nat) (px : Nat → List Int) (n : Nat) : 4 * n ≤ (msg p pl px n).length := by
  induction n with
  | zero => omega
  | succ n ih => rw [msg, List.length_append, List.length_append, digs_len]; omega
theorem Prts.keep {w W : World} {A : Option Addr} {n : Nat} {pa : Nat → Option Addr} {pl pc : Nat → Nat} {px : Nat → List Int} (h : Prts w A n pa pl pc px) (hb : ∀ k, k < w.heap.size → W.heap[k]? = w.heap[k]?) : Prts W A n pa pl pc px := by
  refine ⟨?_, fun i hi => (h.src i hi).keep hb, h.le⟩
  rcases h.cell with h0 | ⟨g, off, rfl, hc⟩
  · exact .inl h0
  · refine .inr ⟨g, off, rfl, fun i hi => ?_⟩
    rw [World.cell?_of_block (w := w) (w' := W) (a := ⟨g, off + i, none⟩) (hb g (World.block_lt_of_cell? w ⟨g, off + i, none⟩ (hc i hi)))]
    exact hc i hi
theorem sum8 (m : List Int) : ∃ x0 x1 x2 x3 x4 x5 x6 x7, (sha m).take 8 = [x0, x1, x2, x3, x4, x5, x6, x7] ∧ ∀ (w : World) (b : Nat), BA w b 107 (sha m) → w.cell? ⟨b, 0, none⟩ = some (.int .u8 x0) ∧ w.cell? ⟨b, 1, none⟩ = some (.int .u8 x1) ∧ w.cell? ⟨b, 2, none⟩ = some (.int .u8 x2) ∧ w.cell? ⟨b, 3, none⟩ = some (.int .u8 x3) ∧ w.cell? ⟨b, 4, none⟩ = some (.int .u8 x4) ∧ w.cell? ⟨b, 5, none⟩ = some (.int .u8 x5) ∧ w.cell? ⟨b, 6, none⟩ = some (.int .u8 x6) ∧ w.cell? ⟨b, 7, none⟩ = some (.int .u8 x7) := by
  have hl := sha_len m
  generalize sha m = l at *
  match l, hl with
  | x0 :: x1 :: x2 :: x3 :: x4 :: x5 :: x6 :: x7 :: r, hl =>
    refine ⟨x0, x1, x2, x3, x4, x5, x6, x7, rfl, fun w b h => ?_⟩
    exact ⟨ba_cell h 0 (by simp), ba_cell h 1 (by simp), ba_cell h 2 (by simp), ba_cell h 3 (by simp), ba_cell h 4 (by simp), ba_cell h 5 (by simp), ba_cell h 6 (by simp), ba_cell h 7 (by simp)⟩
theorem ba_lit (x0 x1 x2 x3 x4 x5 x6 x7 : Int) : ba [x0, x1, x2, x3, x4, x5, x6, x7] = #[.int .u8 x0, .int .u8 x1, .int .u8 x2, .int .u8 x3, .int .u8 x4, .int .u8 x5, .int .u8 x6, .int .u8 x7] := rfl
theorem z27 (w : World) : (zeroValue 29).run Tryz.prog w = .ok (.agg (ba (zeros 8))) w := by kernel_rfl
attribute [local irreducible] ua da ba kk sw S8.run rt hs comp splice outB sha
theorem src_ownL {w : World} {base n : Nat} {A : Option Addr} {c : Nat} {xs : List Int} (h : w.ownsRow base 5 1 (.slice A n c) n (bvals xs)) : Src w A n xs ∧ n ≤ c ∧ (A = none → c = 0) ∧ c ≤ maxLen := by
  obtain ⟨A', c', e, hr, hl, hc⟩ := own_row h
  simp only [Value.slice.injEq] at e
  obtain ⟨rfl, _, rfl⟩ := e
  refine ⟨src_row hl hr, hc, fun ha => ?_, ?_⟩
  · rcases h.2 with ⟨h4, _⟩ | ⟨g, cap, cur, h4, _⟩
    · simp only [Value.slice.injEq] at h4; exact h4.2.2
    · simp only [Value.slice.injEq] at h4; rw [ha] at h4; cases h4.1
  · rcases h.2 with ⟨h4, _⟩ | ⟨g, cap, cur, h4, _, _, _, h5, _⟩
    · simp only [Value.slice.injEq] at h4; rw [h4.2.2]; exact Nat.zero_le _
    · simp only [Value.slice.injEq] at h4; omega
set_option maxHeartbeats 1000000 in
theorem kLow (n : Int) (w : Nat) (W : World) (hw : w ≤ 7) :
    Calls Tryz.prog 57 #[.int .i64 n, .int .i64 w] W fun e W' => ∃ A c, e = .returned (.slice A w c) ∧ W'.ownsRow W.heap.size 5 1 (.slice A w c) w (bvals (digs n w)) ∧ Below W.heap.size W W' := by
  obtain ⟨i0, hi, hz0, hz1, hz2⟩ := info_parts info5
  have HI := Lib.hid hi
  have HI0 := Lib.hid hz0
  have HI1 := Lib.hid hz1
  have HI2 := Lib.hid hz2
  clear hi hz0 hz1 hz2
  go_enter Tryz.func57, Tryz.ntmps57
  go_wp2
  go_loopw [5, 8] (fun v i wr => ∃ (k : Nat) (A : Option Addr) (c : Nat), k ≤ w ∧ i = .int .i64 k ∧ v = .slice A k c ∧ wr.ownsRow W.heap.size 5 1 (.slice A k c) k (bvals (digs n k)) ∧ Below W.heap.size W wr) (fun _ i _ => w - (intOf i).toNat)
  case atStart => exact ⟨0, none, 0, Nat.zero_le _, rfl, rfl, own_nil _ _, Below.refl _ _⟩
  case round =>
    obtain ⟨k, A, c, hk, rfl, rfl, hown, hbel⟩ := hrel
    have OW := Lib.hid hown
    have BL := Lib.hid hbel
    clear hown hbel
    by_cases hlt : k < w
    · have h8 : (8 * (k : Int)).toNat = 8 * k := by omega
      have hmin : min (8 * k) 64 = 8 * k := by omega
      have hd : n / 2 ^ (8 * k) % 256 = dig n k := rfl
      go_wp2_with (at_builtin; refine wpList_app rfl (.tmp 11) (.tmp 17) 42 rfl i0 Tryz.underlying42 HI.out HI0.out HI1.out HI2.out W.heap.size k (.slice A k c) (digs n k) rfl (OW.out.alloc _) (some ⟨wr.heap.size, 0, none⟩) 1 1 [dig n k] rfl (src_one wr (dig n k)) (fun h => by cases h) (by unfold maxLen; omega) (by omega) (by have := BL.out.size; simp; omega) ?_; intro A2 cc2 w2 hown2 hg2 _)
      have b5 : Below W.heap.size W w2 := (BL.out.alloc BL.out.size _).grown hg2 (by have := BL.out.size; simp; omega) (own_base OW.out)
      go_roundw
      case rel => exact ⟨k + 1, A2, cc2, by omega, by go_num, rfl, by rw [digs_succ]; exact hown2, b5⟩
      case measure => simp [intOf]; omega
    · obtain rfl : k = w := by omega
      go_wp2
      go_ret
      exact ⟨A, c, rfl, OW.out, BL.out⟩
set_option maxRecDepth 100000 in
set_option maxHeartbeats 4000000 in
theorem c10 (p : Int) (A : Option Addr) (n cap : Nat) (pa : Nat → Option Addr) (pl pc : Nat → Nat) (px : Nat → List Int) (w : World) (hk : Keys w) (hp : Prts w A n pa pl pc px) (hm : (msg p pl px n).length ≤ 400000) :
    Calls Tryz.prog 56 #[.int .u8 p, .slice A n cap] w fun e w' => e = .returned (.agg (ba ((sha (msg p pl px n)).take 8))) ∧ Below w.heap.size w w' := by
  have h2 := z48
  have h3 := z23
  have h4 := z27
  have HK := Lib.hid hk
  have HP := Lib.hid hp
  have HM := Lib.hid hm
  have hnb : n ≤ 400000 := by have := msg_ge p pl px n; omega
  have HPOS : Hid (0 < w.heap.size) := keys_pos hk
  clear hk hp hm
  obtain ⟨S, hS⟩ : ∃ S, w.heap.size = S := ⟨_, rfl⟩
  go_enter Tryz.func56, Tryz.ntmps56
  go_wp2_with (first
    | (go_at_call 89
       have R0 : Hid (BA (w.alloc (Obj.cells (ba (zeros 8)) 29)) S 29 (zeros 8)) := by subst hS; exact heap_alloc_last w _
       have B0 : Hid (Below S w (w.alloc (Obj.cells (ba (zeros 8)) 29))) := by subst hS; exact (Below.refl _ w).alloc (Nat.le_refl _) _
       generalize w.alloc (Obj.cells (ba (zeros 8)) 29) = w0 at *
       refine (c22 w0).mono ?_
       rintro e w1 ⟨rfl, hb1⟩
       have R1 : Hid (BA w1 S 29 (zeros 8)) := (hb1.block _ (lt_of_block R0.out)).trans R0.out
       have B1 : Hid (Below S w w1) := B0.out.trans (hb1.mono (Nat.le_of_lt (lt_of_block R0.out)))
       have LS : Hid (S < w1.heap.size) := lt_of_block R1.out
       clear hb1
       obtain ⟨D, hD⟩ : ∃ D, w1.heap.size = D := ⟨_, rfl⟩)
    | (refine wpList_store_rowTo rfl 153 (.tmp 5) (.tmp 9) rfl rfl D (da iv (zeros 64) 0) rfl rfl 153 (da (zeros 8) (zeros 64) 0) (by subst hD; exact heap_alloc_last w1 _) (sz s48 (da_size _ _ _ rfl rfl)) (by rw [da_size _ _ _ rfl rfl, da_size _ _ _ rfl rfl]) (da_one _ _ _) ?_
       have D1 : DA (w1.alloc (Obj.cells (da (zeros 8) (zeros 64) 0) 153)) D (zeros 8) (zeros 64) 0 := by subst hD; exact heap_alloc_last w1 _
       generalize hq : (w1.alloc (Obj.cells (da (zeros 8) (zeros 64) 0) 153)).setRow D (da iv (zeros 64) 0) = w2
       have D2 : DA w2 D iv (zeros 64) 0 := by rw [← hq]; exact setRow_heap _ _ _ _ _ _ D1
       have F2 : Hid (Fed w2 D []) := fed_none D2
       have B2 : Hid (Below D w1 w2) := by rw [← hq]; subst hD; exact below_setRow ((Below.refl _ w1).alloc (Nat.le_refl _) _) (Nat.le_refl _) _
       have LD : Hid (S < D) := by show _ < _; rw [← hD]; exact LS.out
       have LW : Hid (w.heap.size = S) := hS
       have R2 : Hid (BA w2 S 29 (zeros 8)) := (B2.out.block S LD.out).trans R1.out
       have BZ2 : Hid (Below S w w2) := B1.out.trans (B2.out.mono (Nat.le_of_lt LD.out))
       have BW : Hid (Below S w w2) := B1.out.trans (B2.out.mono (Nat.le_of_lt LD.out))
       clear hq D1 hS hD
       have DL : Hid (D < w2.heap.size) := lt_of_block D2
       have F3 : Hid (Fed (w2.alloc (Obj.cells #[.int .u8 p] 5)) D []) := fed_below F2.out ((Below.refl w2.heap.size w2).alloc (Nat.le_refl _) _) DL.out
       have K3 : Hid (Keys (w2.alloc (Obj.cells #[.int .u8 p] 5))) := keys_below (keys_below HK.out BW.out (by rw [← LW.out]; exact HPOS.out)) ((Below.refl w2.heap.size w2).alloc (Nat.le_refl _) _) (by have := DL.out; omega)
       have C := Lib.hid (c23 D (some ⟨w2.heap.size, 0, none⟩) 1 1 [] [p] _ F3.out K3.out (by have := LD.out; omega) (src_one w2 p) (fun _ g o e => by cases e; have := DL.out; omega) (by simp) (by omega) (by omega))
       have O3 : Hid (Oth D w2 (w2.alloc (Obj.cells #[.int .u8 p] 5))) := Oth.of_below (Nat.le_of_lt DL.out) ((Below.refl w2.heap.size w2).alloc (Nat.le_refl _) _)
       clear D2)
    | (go_at_call 90
       refine C.out.mono ?_
       rintro e w3 ⟨rfl, hf3, hk3, ho3⟩
       have F4 : Hid (Fed w3 D (msg p pl px 0)) := hf3
       have K4 := Lib.hid hk3
       have O4 : Hid (Oth D w2 w3) := O3.out.trans ho3
       clear hf3 hk3 ho3)
    | fail)
  have BS4 : Hid (Below S w w3) := BW.out.trans (O4.out.below.mono (Nat.le_of_lt LD.out))
  clear R0 B0 R1 B1 LS B2 BW F2 F3 K3 C O3 h2 h4
  go_loopw [15, 7] (fun i _ wr => ∃ k : Nat, k ≤ n ∧ i = .int .i64 k ∧ Fed wr D (msg p pl px k) ∧ Keys wr ∧ Oth D w2 wr) (fun i _ _ => n - (intOf i).toNat)
  case atStart => exact ⟨0, Nat.zero_le _, rfl, F4.out, K4.out, O4.out⟩
  case round =>
    clear F4 K4 O4 BS4
    obtain ⟨k, hk, rfl, hF, hK, hO⟩ := hrel
    have BSW : Hid (Below S w wr) := BZ2.out.trans (hO.below.mono (Nat.le_of_lt LD.out))
    have PW : Hid (Prts wr A n pa pl pc px) := HP.out.keep (fun q hq => BSW.out.block q (by rw [← LW.out]; exact hq))
    have FF := Lib.hid hF
    have KK := Lib.hid hK
    have OO := Lib.hid hO
    clear hF hK hO
    by_cases hlt : k < n
    · obtain ⟨g, off, rfl, hcell⟩ := PW.out.cell.resolve_left (by omega)
      have x0 := hcell k hlt
      have hsrc := PW.out.src k hlt
      obtain ⟨hle, hcp⟩ := PW.out.le k hlt
      have hms := msg_mono p pl px (show k + 1 ≤ n by omega)
      have hlen : (msg p pl px k).length + 4 + pl k ≤ 400000 := by
        have := HM.out
        have e : (msg p pl px (k + 1)).length = (msg p pl px k).length + 4 + (px k).length := by rw [msg, List.length_append, List.length_append, digs_len]
        rw [hsrc.1] at e
        omega
      have HSRC := Lib.hid hsrc
      have HM1 : Hid (msg p pl px (k + 1) = msg p pl px k ++ digs (pl k) 4 ++ px k) := rfl
      have HSA : Hid (0 < pl k → ∀ g o, pa k = some ⟨g, o, none⟩ → g ≠ D) := fun h0 g o e => by
        have := src_lt (HP.out.src k hlt) h0 g o e
        have := LD.out
        have := LW.out
        omega
      have WS : Hid (D < wr.heap.size) := fed_lt FF.out
      have q1 : (k : Int) < (n : Int) := by omega
      have HLT := Lib.hid hlt
      clear hcell hms hsrc
      generalize pl k = lk at *
      generalize pa k = ak at *
      generalize pc k = ck at *
      go_wp2_with (first
        | (go_at_call 57
           refine (kLow lk 4 wr (by decide)).mono ?_
           rintro e wa ⟨A1, c1, rfl, hown, hbl⟩
           have SL := src_ownL hown
           have FA : Fed wa D (msg p pl px k) := fed_below FF.out hbl WS.out
           have KA : Keys wa := keys_below KK.out hbl (by have := WS.out; omega)
           have GA : 0 < 4 → ∀ g o, A1 = some ⟨g, o, none⟩ → g ≠ D := fun _ g o e => by
             have := own_base hown g (by rw [e]; rfl)
             have := WS.out
             omega
           have C1 := Lib.hid (c23 D A1 4 c1 (msg p pl px k) (digs lk 4) wa FA KA (by have := LD.out; omega) SL.1 GA (by omega) SL.2.1 (by have := SL.2.2.2; unfold maxLen at this; omega))
           have OA : Hid (Oth D w2 wa) := OO.out.trans (Oth.of_below (Nat.le_of_lt WS.out) hbl)
           have SA : Hid (Src wa ak lk (px k)) := HSRC.out.keep hbl.block
           clear SL FA KA GA hown hbl)
        | (go_at_call 90
           refine C1.out.mono ?_
           rintro e wm ⟨rfl, hfa, hka, hoa⟩
           clear C1
           have SM : Hid (Src wm ak lk (px k)) := by
             rcases Nat.eq_zero_or_pos lk with h0 | h0
             · exact ⟨HSRC.out.1, .inl h0⟩
             · exact Src.oth SA.out (HSA.out h0) hoa
           have C2 := Lib.hid (c23 D ak lk ck (msg p pl px k ++ digs lk 4) (px k) wm hfa hka (by have := LD.out; omega) SM.out HSA.out (by rw [List.length_append, digs_len]; omega) hle hcp)
           have OM : Hid (Oth D w2 wm) := OA.out.trans hoa
           clear hfa hka hoa)
        | (go_at_call 90
           refine C2.out.mono ?_
           rintro e wb ⟨rfl, hfb, hkb, hob⟩
           have FB : Hid (Fed wb D (msg p pl px (k + 1))) := by rw [HM1.out]; exact hfb
           have KB := Lib.hid hkb
           have OB : Hid (Oth D w2 wb) := OM.out.trans hob
           clear hfb hkb hob)
        | fail)
      go_roundw
      case rel => exact ⟨k + 1, HLT.out, by go_num, FB.out, KB.out, OB.out⟩
      case measure => have := HLT.out; simp [intOf]; omega
    · obtain rfl : k = n := by omega
      have hmk : (msg p pl px k).length ≤ 400000 := HM.out
      have C := Lib.hid (c24 D (msg p pl px k) wr FF.out KK.out (by have := LD.out; omega) (by omega))
      have R5 : Hid (BA wr S 29 (zeros 8)) := (OO.out.below.block S LD.out).trans R2.out
      have hn : ¬ (k : Int) < (k : Int) := by omega
      have hsp : ∀ (Y : Nat) (w : World), (Instr.arrayAt 29 (.slice (some ⟨Y, 0, none⟩) 8 32)).run Tryz.prog w = .ok (.pointer (some ⟨Y, 0, none⟩)) w := fun Y w => by simp [Instr.arrayAt, run_underlying Tryz.underlying29]
      clear hmk
      obtain ⟨m, hmm⟩ : ∃ m, msg p pl px k = m := ⟨_, rfl⟩
      rw [hmm] at C
      have HMM := Lib.hid hmm
      clear hmm FF
      obtain ⟨x0, x1, x2, x3, x4, x5, x6, x7, h8, hc8⟩ := sum8 m
      have H8 := Lib.hid h8
      have HC8 := Lib.hid hc8
      clear h8 hc8
      go_wp2_with (first
        | (go_at_call 91
           refine C.out.mono ?_
           rintro e wc ⟨rfl, hoc⟩
           have R6 : Hid (BA wc S 29 (zeros 8)) := (hoc.below.block S LD.out).trans R5.out
           have BC : Hid (Below S w wc) := BSW.out.trans (hoc.below.mono (Nat.le_of_lt LD.out))
           clear hoc
           obtain ⟨Y, hY⟩ : ∃ Y, wc.heap.size = Y := ⟨_, rfl⟩)
        | (refine wpList_store_rowTo rfl 107 (.tmp 8) (.tmp 26) rfl rfl Y (ba (sha m)) rfl rfl 107 (ba (zeros 32)) (by subst hY; exact heap_alloc_last wc _) (sz s23 (by rw [ba_size, sha_len])) (by rw [ba_size, ba_size, sha_len]; rfl) (ba_one _) ?_
           have Y0 : (wc.alloc (Obj.cells (ba (zeros 32)) 107)).heap[Y]? = some (.cells (ba (zeros 32)) 107 (0, 0)) := by subst hY; exact heap_alloc_last wc _
           generalize hq : (wc.alloc (Obj.cells (ba (zeros 32)) 107)).setRow Y (ba (sha m)) = wd
           have SY : S < Y := by rw [← hY]; exact lt_of_block R6.out
           have R7 : Hid (BA wd S 29 (zeros 8)) := by rw [← hq]; exact (setRow_other _ _ _ _ (by omega)).trans ((Below.heap_alloc _ _ _ (lt_of_block R6.out)).trans R6.out)
           have BD : Hid (Below S w wd) := by rw [← hq]; exact below_setRow (BC.out.alloc (by rw [hY]; omega) _) (by omega) _
           obtain ⟨c0, c1, c2, c3, c4, c5, c6, c7⟩ := HC8.out wd Y (by rw [← hq]; exact setRow_heap _ _ _ _ _ _ Y0)
           clear hq Y0 hY SY)
        | (refine wpList_store_rowTo rfl 29 (.tmp 4) (.tmp 29) rfl rfl S #[.int .u8 x0, .int .u8 x1, .int .u8 x2, .int .u8 x3, .int .u8 x4, .int .u8 x5, .int .u8 x6, .int .u8 x7] rfl rfl 29 (ba (zeros 8)) R7.out (sz s27 rfl) (by rw [ba_size]; rfl) (by rw [← ba_lit]; exact ba_one _) ?_)
        | fail)
      refine bodyPost_ret (v := .agg #[.int .u8 x0, .int .u8 x1, .int .u8 x2, .int .u8 x3, .int .u8 x4, .int .u8 x5, .int .u8 x6, .int .u8 x7]) (results_cell_row rfl _ _ S 29 _ (0, 0) _ rfl (setRow_heap _ _ _ _ _ _ R7.out) Tryz.underlying29 rfl (sz s27 rfl)) rfl ⟨by rw [HMM.out, H8.out, ba_lit], ?_⟩
      rw [LW.out]
      exact below_setRow BD.out (Nat.le_refl _) _
end Go.Proofs.YtffaddefnpkcgaaGreatDoor
/-
  The walk of HashParts.
-/
namespace Go.Proofs.YtffaddefnpkcgaaGreatDoor
open Go.RowKit
theorem src_own {w : World} {base n : Nat} {A : Option Addr} {c : Nat} {xs : List Int} (h : w.ownsRow base 5 1 (.slice A n c) n (bvals xs)) : Src w A n xs ∧ n ≤ c ∧ (A = none → c = 0) ∧ c ≤ maxLen := by
  obtain ⟨A', c', e, hr, hl, hc⟩ := own_row h
  simp only [Value.slice.injEq] at e
  obtain ⟨rfl, _, rfl⟩ := e
  refine ⟨src_row hl hr, hc, fun ha => ?_, ?_⟩
  · rcases h.2 with ⟨h4, _⟩ | ⟨g, cap, cur, h4, _⟩
    · simp only [Value.slice.injEq] at h4; exact h4.2.2
    · simp only [Value.slice.injEq] at h4; rw [ha] at h4; cases h4.1
  · rcases h.2 with ⟨h4, _⟩ | ⟨g, cap, cur, h4, _, _, _, h5, _⟩
    · simp only [Value.slice.injEq] at h4; rw [h4.2.2]; exact Nat.zero_le _
    · simp only [Value.slice.injEq] at h4; omega
theorem own_one (w : World) (p : Int) : (w.alloc (Obj.cells #[.int .u8 p] 5)).ownsRow w.heap.size 5 1 (.slice (some ⟨w.heap.size, 0, none⟩) 1 1) 1 (bvals [p]) :=
  ⟨rfl, .inr ⟨w.heap.size, 1, #[.int .u8 p], rfl, Nat.le_refl _, heap_alloc_new w _, Nat.le_refl _, by decide, rfl, rfl⟩⟩
theorem num4 (n : Nat) (W : World) : Calls Tryz.prog 31 #[.int .i64 n, .int .i64 4] W fun e W' => ∃ A c, e = .returned (.slice A 4 c) ∧ W'.ownsRow W.heap.size 5 1 (.slice A 4 c) 4 (bvals (digs n 4)) ∧ Below W.heap.size W W' := c21 n 4 W (by omega)
theorem own_keepB {w W : World} {base n : Nat} {v : Value} {xs : List Value} (h : w.ownsRow base 5 1 v n xs) (hb : Below w.heap.size w W) : W.ownsRow base 5 1 v n xs := own_keep h fun q hq => hb.block q (own_lt h q hq)
theorem copied (y : List Int) (h : y.length = 8) : ((ba (zeros 8)).toList.take 0 ++ (bvals y ++ (ba (zeros 8)).toList.drop (0 + (bvals y).length))).toArray = ba y := by
  have : (bvals y).length = 8 := by simp [bvals, h]
  rw [this]
  simp [ba, zeros, bvals]
theorem ba_range {w : World} {b : Nat} {t : TypeId} {xs : List Int} (h : BA w b t xs) : w.rangeAt b 0 (bvals xs) := by
  intro j v hv
  have hj : j < xs.length := by
    have := (List.getElem?_eq_some_iff.1 hv).1
    simpa [bvals] using this
  rw [Nat.zero_add, ba_cell h j hj, ← hv]
  simp [bvals, List.getD, hj]
theorem c8cells : ∀ (x : List Int), x.length = 8 → ∃ x0 x1 x2 x3 x4 x5 x6 x7, x = [x0, x1, x2, x3, x4, x5, x6, x7]
  | [x0, x1, x2, x3, x4, x5, x6, x7], _ => ⟨x0, x1, x2, x3, x4, x5, x6, x7, rfl⟩
end Go.Proofs.YtffaddefnpkcgaaGreatDoor
/-
  Two, Zero.
-/
namespace Go.Proofs.YtffaddefnpkcgaaGreatDoor
open Go.RowKit
attribute [local irreducible] ua da ba kk sw S8.run rt hs comp splice outB sha msg
theorem ba8 : ba (zeros 8) = #[.int .u8 0, .int .u8 0, .int .u8 0, .int .u8 0, .int .u8 0, .int .u8 0, .int .u8 0, .int .u8 0] := by unfold ba bvals zeros; rfl
theorem c16 (x : List Int) (w : World) (hx : x.length = 8) : Calls Tryz.prog 77 #[.agg (ba x)] w fun e w' => e = .returned (.bool (decide (x = zeros 8))) ∧ Below w.heap.size w w' := by
  obtain ⟨x0, x1, x2, x3, x4, x5, x6, x7, rfl⟩ := c8cells x hx
  have heq : ∀ w, (Op.equalIn 10000 29 (.agg #[.int .u8 x0, .int .u8 x1, .int .u8 x2, .int .u8 x3, .int .u8 x4, .int .u8 x5, .int .u8 x6, .int .u8 x7]) (.agg #[.int .u8 0, .int .u8 0, .int .u8 0, .int .u8 0, .int .u8 0, .int .u8 0, .int .u8 0, .int .u8 0])).run Tryz.prog w = .ok (decide ([x0, x1, x2, x3, x4, x5, x6, x7] = zeros 8)) w := fun w => by
    have := eq_ba 29 8 9998 Tryz.underlying29 [x0, x1, x2, x3, x4, x5, x6, x7] (zeros 8) w rfl rfl
    rw [ba_lit, ba8] at this
    exact this
  rw [ba_lit]
  go_enter Tryz.func77, Tryz.ntmps77
  go_wp2
  go_ret
  exact ⟨rfl, (Below.refl _ _).alloc (Nat.le_refl _) _⟩
end Go.Proofs.YtffaddefnpkcgaaGreatDoor

