/-
  Rows of bytes: what a slice of bytes reads as; append of bytes onto a row of the call's own; digits of a number without Go.
-/
import Derived.Test.YtmcmdpbdipgahaaRows
import Derived.WalkKit
import Derived.WalkLawsBesides
import Derived.Lib.Hide
import Derived.Defers
import Derived.Recover
import Derived.OneCell
import Derived.Maps.AppendAt
import Derived.Deep.AppendLies
import Derived.Deep.RegionLaw
import Derived.Deep.RegionHeld3
import Derived.OwnWalk
import Derived.StillTailTactics
import Derived.Laws.BytesArg
import Derived.Laws.BitsAllLaws
import Derived.Laws.CopyOwn
import Derived.Laws.MakeOwn
import Derived.BigQuiet
import Derived.BigRegion
import Derived.Deep.QuietTactic
import Derived.IntWalk
import Derived.Great.BuildSlice
import Derived.Deep.WholeRow
import Derived.Deep.Cut
namespace Go.Proofs.Ytmcmdpbdipgahaa
open Go.RowKit

def bvals (xs : List Int) : List Value := xs.map (Value.int .u8)
theorem bvals_one (xs : List Int) : ∀ u ∈ bvals xs, u.oneCell' = true := by
  intro u hu
  simp only [bvals, List.mem_map] at hu
  obtain ⟨x, _, rfl⟩ := hu
  rfl
/-- the bytes xs lie from an address on (where there are none the address may be any) -/
def Row (w : World) (A : Option Addr) (xs : List Int) : Prop :=
  xs = [] ∨ ∃ b off, A = some ⟨b, off, none⟩ ∧ ∀ i, i < xs.length → w.cell? ⟨b, off + i, none⟩ = some (.int .u8 (xs.getD i 0))
/-- each is a byte -/
def Byt (xs : List Int) : Prop := ∀ x ∈ xs, 0 ≤ x ∧ x < 256

theorem row_block {w W : World} {A : Option Addr} {xs : List Int} (h : Row w A xs) (hb : ∀ b off, A = some ⟨b, off, none⟩ → xs ≠ [] → b < w.heap.size → W.heap[b]? = w.heap[b]?) : Row W A xs := by
  rcases h with h | ⟨b, off, rfl, hc⟩
  · exact .inl h
  · cases xs with
    | nil => exact .inl rfl
    | cons x xs =>
      refine .inr ⟨b, off, rfl, fun i hi => ?_⟩
      have h0 := World.block_lt_of_cell? w ⟨b, off + i, none⟩ (hc i hi)
      rw [World.cell?_of_block (w := w) (w' := W) (a := ⟨b, off + i, none⟩) (hb b off rfl (by simp) h0)]
      exact hc i hi
theorem row_below {B : Nat} {w W : World} {A : Option Addr} {xs : List Int} (h : Row w A xs) (hb : Below B w W) (hB : ∀ b off, A = some ⟨b, off, none⟩ → b < B) : Row W A xs :=
  row_block h fun b off e _ _ => hb.block b (hB b off e)
theorem row_belowS {w W : World} {A : Option Addr} {xs : List Int} (h : Row w A xs) (hb : Below w.heap.size w W) : Row W A xs :=
  row_block h fun b _ _ _ hlt => hb.block b hlt
theorem row_take {w : World} {b off : Nat} {xs : List Int} (k : Nat) (h : Row w (some ⟨b, off, none⟩) xs) : Row w (some ⟨b, off, none⟩) (xs.take k) := by
  rcases h with rfl | ⟨b', off', he, hc⟩
  · exact .inl (by simp)
  · cases he
    refine .inr ⟨b, off, rfl, fun i hi => ?_⟩
    rw [List.length_take] at hi
    rw [hc i (by omega)]
    simp [List.getD, List.getElem?_take]
    rw [if_pos (by omega)]
theorem row_drop {w : World} {b off : Nat} {xs : List Int} (k : Nat) (h : Row w (some ⟨b, off, none⟩) xs) : Row w (some ⟨b, off + k, none⟩) (xs.drop k) := by
  rcases h with rfl | ⟨b', off', he, hc⟩
  · exact .inl (by simp)
  · cases he
    refine .inr ⟨b, off + k, rfl, fun i hi => ?_⟩
    rw [List.length_drop] at hi
    rw [Nat.add_assoc, hc (k + i) (by omega)]
    simp [List.getD]

/-- a source of an append -/
def Src (w : World) (A : Option Addr) (m : Nat) (xs : List Int) : Prop :=
  xs.length = m ∧ (m = 0 ∨ ∃ b off, A = some ⟨b, off, none⟩ ∧ ∀ i, i < m → w.cell? ⟨b, off + i, none⟩ = some (.int .u8 (xs.getD i 0)))
theorem src_row {w : World} {A : Option Addr} {xs : List Int} {m : Nat} (hl : xs.length = m) (h : Row w A xs) : Src w A m xs := by
  refine ⟨hl, ?_⟩
  rcases h with rfl | ⟨b, off, rfl, hc⟩
  · exact .inl (by simpa using hl.symm)
  · exact .inr ⟨b, off, rfl, fun i hi => hc i (by omega)⟩
theorem own_row {w : World} {base : Nat} {v : Value} {n : Nat} {xs : List Int} (h : w.ownsRow base 5 1 v n (bvals xs)) : ∃ A cap, v = .slice A n cap ∧ Row w A xs ∧ xs.length = n ∧ n ≤ cap := by
  obtain ⟨hl, hc⟩ := h
  have hl : xs.length = n := by simpa [bvals] using hl
  rcases hc with ⟨rfl, rfl⟩ | ⟨g, cap, cur, rfl, _, hg, hn, _, hs, ht⟩
  · exact ⟨none, 0, rfl, .inl (List.eq_nil_of_length_eq_zero hl), hl, Nat.le_refl _⟩
  · refine ⟨_, cap, rfl, .inr ⟨g, 0, rfl, fun i hi => ?_⟩, hl, hn⟩
    rw [cell_of_row w g (0 + i) cur 5 (0, 0) hg, Nat.zero_add]
    have h1 : (cur.toList.take (n * 1))[i]? = (bvals xs)[i]? := by rw [ht]
    rw [List.getElem?_take, if_pos (by omega)] at h1
    rw [Array.getElem?_toList] at h1
    rw [h1]
    simp [bvals, List.getD, hi]

theorem run_app {P : Program} (w : World) (t ty : TypeId) (i : TypeInfo) (ht : P.underlying t = some (.slice 5)) (hi : P.info? 5 = some i) (hz : i.zero = some (.int .u8 0)) (hsize : i.size = 1) (hby : i.bytes = 1)
    (base n : Nat) (v : Value) (xs : List Int) (hown : w.ownsRow base 5 1 v n (bvals xs)) (A : Option Addr) (m c : Nat) (ys : List Int) (hs : Src w A m ys) (hc : A = none → c = 0)
    (h63 : n + m ≤ maxLen) (hbytes : (n + m) * 1 ≤ 140737488355328) (hbase : base ≤ w.heap.size) :
    ∃ v' w', (Builtin.append_ #[t, t] ty #[v, .slice A m c]).run P w = .ok v' w' ∧ w'.ownsRow base 5 1 v' (n + m) (bvals (xs ++ ys)) ∧ w.grownBy w' v.ownBlock ∧ (v'.ownBlock = v.ownBlock ∨ v'.ownBlock = some w.heap.size) := by
  obtain ⟨hl, hs⟩ := hs
  have hm : bvals (xs ++ ys) = bvals xs ++ bvals ys := by simp [bvals]
  rcases hs with rfl | ⟨b, off, rfl, hcell⟩
  · obtain rfl := List.eq_nil_of_length_eq_zero hl
    cases A with
    | none =>
      obtain rfl := hc rfl
      refine ⟨v, w, ?_, by simpa using hown, World.grownBy.refl w _, .inl rfl⟩
      rcases hown.2 with ⟨rfl, rfl⟩ | ⟨g, cap, cur, rfl, _, _, hnc, _⟩
      · simp [Builtin.append_, run_underlying ht, sizeOf, typeInfo, hi, Builtin.lenOf, Builtin.firstCells]
      · simp [Builtin.append_, run_underlying ht, sizeOf, typeInfo, hi, Builtin.lenOf, Builtin.firstCells, hnc, storeCells]
    | some ad =>
      obtain ⟨v', w', hr, h2, h3, _, h5⟩ := run_append_own_at (P := P) w base t ty 5 i (.int .u8 0) 1 1 ht hi hz hsize hby rfl (by decide) v n (bvals xs) hown ad 0 c (bvals []) rfl (fun j u hu => by simp [bvals] at hu) (bvals_one []) h63 hbytes hbase
      exact ⟨v', w', hr, by rw [hm]; exact h2, h3, h5⟩
  · obtain ⟨v', w', hr, h2, h3, _, h5⟩ := run_append_own_at (P := P) w base t ty 5 i (.int .u8 0) 1 1 ht hi hz hsize hby rfl (by decide) v n (bvals xs) hown ⟨b, off, none⟩ m c (bvals ys) (by simpa [bvals] using hl)
      (fun j u hu => by
        have hj : j < ys.length := by
          rcases Nat.lt_or_ge j ys.length with g | g
          · exact g
          · rw [List.getElem?_eq_none (by simpa [bvals] using g)] at hu; cases hu
        have e : (⟨b, off, none⟩ : Addr).add j = ⟨b, off + j, none⟩ := by unfold Addr.add; split <;> simp_all
        rw [e, hcell j (by omega), ← hu]
        simp [bvals, List.getD, hj]) (bvals_one ys) h63 hbytes hbase
    exact ⟨v', w', hr, by rw [hm]; exact h2, h3, h5⟩

theorem step_app {P : Program} {w : World} {ops : Array Oper} {o : Oper} {a : Act} {K : Act → World → Prop} {Q : Exit → Act → World → Prop} {E : Prop} (hgd : o.guard = none) (s x : Operand) (t : TypeId)
    (ho : o.op = .call { callee := .builtin .append, args := #[s, x], argTypes := #[t, t] })
    (i : TypeInfo) (ht : P.underlying t = some (.slice 5)) (hi : P.info? 5 = some i) (hz : i.zero = some (.int .u8 0)) (hsize : i.size = 1) (hby : i.bytes = 1)
    (base n : Nat) (v : Value) (xs : List Int) (hv : a.eval s = v) (hown : w.ownsRow base 5 1 v n (bvals xs)) (A : Option Addr) (m c : Nat) (ys : List Int) (hx : a.eval x = .slice A m c) (hs : Src w A m ys) (hc : A = none → c = 0)
    (h63 : n + m ≤ maxLen) (hbytes : (n + m) * 1 ≤ 140737488355328) (hbase : base ≤ w.heap.size)
    (h : ∀ A' c' w', w'.ownsRow base 5 1 (.slice A' (n + m) c') (n + m) (bvals (xs ++ ys)) → w.grownBy w' v.ownBlock → ((Value.slice A' (n + m) c').ownBlock = v.ownBlock ∨ (Value.slice A' (n + m) c').ownBlock = some w.heap.size) → K (a.put o.dst (.slice A' (n + m) c')) w') :
    if Region.wanted o (yielded ops a.tmps) = true then Oper.wp P o a w K Q else E := by
  have hw : Region.wanted o (yielded ops a.tmps) = true := by simp [Region.wanted, hgd]
  rw [if_pos hw]
  obtain ⟨v', w', hr, h2, h3, h4⟩ := run_app (P := P) w t o.type i ht hi hz hsize hby base n v xs hown A m c ys hs hc h63 hbytes hbase
  unfold Oper.wp execOp
  simp only [ho, resolve, invoke, builtin, Sem.run_bind, Sem.run_pure, Result.andThen_ok, List.map_toArray, List.map_cons, List.map_nil, hv, hx, hr]
  obtain ⟨A', c', rfl, _⟩ := own_row h2
  exact h A' c' w' h2 h3 h4
theorem wpList_app {P : Program} {w : World} {ops : Array Oper} {rest : List Oper} {o : Oper} {a : Act} {Q : Exit → Act → World → Prop} (hgd : o.guard = none) (s x : Operand) (t : TypeId)
    (ho : o.op = .call { callee := .builtin .append, args := #[s, x], argTypes := #[t, t] })
    (i : TypeInfo) (ht : P.underlying t = some (.slice 5)) (hi : P.info? 5 = some i) (hz : i.zero = some (.int .u8 0)) (hsize : i.size = 1) (hby : i.bytes = 1)
    (base n : Nat) (v : Value) (xs : List Int) (hv : a.eval s = v) (hown : w.ownsRow base 5 1 v n (bvals xs)) (A : Option Addr) (m c : Nat) (ys : List Int) (hx : a.eval x = .slice A m c) (hs : Src w A m ys) (hc : A = none → c = 0)
    (h63 : n + m ≤ maxLen) (hbytes : (n + m) * 1 ≤ 140737488355328) (hbase : base ≤ w.heap.size)
    (h : ∀ A' c' w', w'.ownsRow base 5 1 (.slice A' (n + m) c') (n + m) (bvals (xs ++ ys)) → w.grownBy w' v.ownBlock → ((Value.slice A' (n + m) c').ownBlock = v.ownBlock ∨ (Value.slice A' (n + m) c').ownBlock = some w.heap.size) → wpList P ops Q rest (a.put o.dst (.slice A' (n + m) c')) w') : wpList P ops Q (o :: rest) a w := by
  refine wpList_plain hgd fun K hK => ?_
  obtain ⟨v', w', hr, h2, h3, h4⟩ := run_app (P := P) w t o.type i ht hi hz hsize hby base n v xs hown A m c ys hs hc h63 hbytes hbase
  unfold Oper.wp execOp
  simp only [ho, resolve, invoke, builtin, Sem.run_bind, Sem.run_pure, Result.andThen_ok, List.map_toArray, List.map_cons, List.map_nil, hv, hx, hr]
  obtain ⟨A', c', rfl, _⟩ := own_row h2
  exact hK _ _ (h A' c' w' h2 h3 h4)

theorem info5 : (Try.prog.info? 5).map (fun i => (i.zero, i.size, i.bytes)) = some (some (.int .u8 0), 1, 1) := by kernel_rfl
theorem info_parts {t : TypeId} {z : Value} {s b : Nat} (h : (Try.prog.info? t).map (fun i => (i.zero, i.size, i.bytes)) = some (some z, s, b)) : ∃ i, Try.prog.info? t = some i ∧ i.zero = some z ∧ i.size = s ∧ i.bytes = b := by
  cases hi : Try.prog.info? t with
  | none => rw [hi] at h; cases h
  | some i => rw [hi] at h; simp only [Option.map_some, Option.some.injEq, Prod.mk.injEq] at h; exact ⟨i, rfl, h.1, h.2.1, h.2.2⟩
theorem own_base {w : World} {base n : Nat} {v : Value} {xs : List Value} (h : w.ownsRow base 5 1 v n xs) : ∀ q, v.ownBlock = some q → base ≤ q := by
  intro q hq
  rcases h.2 with ⟨rfl, _⟩ | ⟨g, cap, cur, rfl, hb, _⟩
  · cases hq
  · simp [Value.ownBlock] at hq; omega
theorem own_lt {w : World} {base n : Nat} {v : Value} {xs : List Value} (h : w.ownsRow base 5 1 v n xs) : ∀ q, v.ownBlock = some q → q < w.heap.size := by
  intro q hq
  rcases h.2 with ⟨rfl, _⟩ | ⟨g, cap, cur, rfl, hb, hg, _⟩
  · cases hq
  · simp [Value.ownBlock] at hq; subst hq; exact lt_of_block hg
/-- nothing is owned by nil -/
theorem own_nil (w : World) (base : Nat) : w.ownsRow base 5 1 (.slice none 0 0) 0 (bvals []) := ⟨rfl, .inl ⟨rfl, rfl⟩⟩
/-- what is owned stays owned where its block stands -/
theorem own_keep {w W : World} {base n : Nat} {v : Value} {xs : List Value} (h : w.ownsRow base 5 1 v n xs) (hk : ∀ q, v.ownBlock = some q → W.heap[q]? = w.heap[q]?) : W.ownsRow base 5 1 v n xs := by
  refine ⟨h.1, ?_⟩
  rcases h.2 with h2 | ⟨g, cap, cur, rfl, hb, hg, h3⟩
  · exact .inl h2
  · exact .inr ⟨g, cap, cur, rfl, hb, by rw [hk g rfl]; exact hg, h3⟩
/- digits of a number -/
def dig (n : Int) (j : Nat) : Int := n / 2 ^ (8 * j) % 256
def digs (n : Int) (w : Nat) : List Int := (List.range w).map (dig n)
theorem digs_len (n : Int) (w : Nat) : (digs n w).length = w := by simp [digs]
theorem digs_succ (n : Int) (w : Nat) : digs n (w + 1) = digs n w ++ [dig n w] := by simp [digs, List.range_succ]
theorem dig_byte (n : Int) (j : Nat) : 0 ≤ dig n j ∧ dig n j < 256 := ⟨Int.emod_nonneg _ (by decide), Int.emod_lt_of_pos _ (by decide)⟩
theorem digs_byt (n : Int) (w : Nat) : Byt (digs n w) := by
  intro x hx
  simp only [digs, List.mem_map] at hx
  obtain ⟨j, _, rfl⟩ := hx
  exact dig_byte n j

theorem take_one (xs : List Int) (k : Nat) (h : k < xs.length) : xs.take (k + 1) = xs.take k ++ [xs.getD k 0] := by
  rw [List.take_add_one, List.getElem?_eq_getElem h]
  simp [List.getD, h]
theorem byt_take {xs : List Int} (h : Byt xs) (k : Nat) : Byt (xs.take k) := fun x hx => h x (List.mem_of_mem_take hx)
theorem byt_drop {xs : List Int} (h : Byt xs) (k : Nat) : Byt (xs.drop k) := fun x hx => h x (List.mem_of_mem_drop hx)
theorem byt_getD {xs : List Int} (h : Byt xs) (k : Nat) (hk : k < xs.length) : 0 ≤ xs.getD k 0 ∧ xs.getD k 0 < 256 := by
  have : xs.getD k 0 = xs[k] := by simp [List.getD, hk]
  rw [this]
  exact h _ (List.getElem_mem hk)
theorem src_one (w : World) (x : Int) : Src (w.alloc (Obj.cells #[.int .u8 x] 5)) (some ⟨w.heap.size, 0, none⟩) 1 [x] := by
  refine ⟨rfl, .inr ⟨w.heap.size, 0, rfl, fun i hi => ?_⟩⟩
  obtain rfl : i = 0 := by omega
  simp [go_sem]

theorem own_none (w : World) : (w.alloc (Obj.cells #[] 5)).ownsRow w.heap.size 5 1 (.slice (some ⟨w.heap.size, 0, none⟩) 0 0) 0 (bvals []) :=
  ⟨rfl, .inr ⟨w.heap.size, 0, #[], rfl, Nat.le_refl _, heap_alloc_new w _, Nat.le_refl _, Nat.zero_le _, rfl, rfl⟩⟩
end Go.Proofs.Ytmcmdpbdipgahaa

/-
  Words of 32 bits: turned, right; arrays of words and the digest in memory; begin, rounds.
-/
namespace Go.Proofs.Ytmcmdpbdipgahaa
open Go.RowKit

def rr (x : Int) (n : Nat) : Int := bits .or .u32 (x / 2 ^ n) (x * 2 ^ (32 - n) % 4294967296)
theorem bits_or_comm (k : IntKind) (x y : Int) : bits .or k x y = bits .or k y x := by
  show k.wrap ((BitVec.ofInt _ x ||| BitVec.ofInt _ y).toNat : Int) = k.wrap ((BitVec.ofInt _ y ||| BitVec.ofInt _ x).toNat : Int)
  rw [BitVec.or_comm]
theorem c28 (x : Int) (n : Nat) (w : World) (hn : n ≤ 32) : Calls Try.prog 70 #[.int .u32 x, .int .u64 n] w fun e w' => e = .returned (.int .u32 (rr x n)) ∧ w = w' := by
  have h1 : min n 32 = n := by omega
  have h2 : IntKind.u64.wrap (32 - (n : Int)) = ((32 - n : Nat) : Int) := by rw [IntKind.wrap_u64]; omega
  have h3 : min (32 - n) 32 = 32 - n := by omega
  go_enter Try.func70, Try.ntmps70
  go_wp2
  go_ret
  exact ⟨rfl, rfl⟩
/-- turned to the right by k -/
def rt (x k : Int) : Int := rr x k.toNat
def okR (k : Int) : Bool := decide (0 ≤ k ∧ k ≤ 32) && decide (IntKind.i64.wrap (-k) = -k) && decide (bits .and .u64 (IntKind.u64.wrap (-k)) 31 = ((32 - k.toNat : Nat) : Int))
theorem r28 (x k : Int) (w : World) (h : okR k = true) : Calls Try.prog 70 #[.int .u32 x, .int .u64 k] w fun e w' => e = .returned (.int .u32 (rt x k)) ∧ w = w' := by
  simp only [okR, Bool.and_eq_true, decide_eq_true_eq] at h
  have e : k = (k.toNat : Int) := by omega
  have := c28 x k.toNat w (by omega)
  rw [← e] at this
  exact this
theorem okR7 : okR 7 = true := by decide
theorem okR25 : okR 25 = true := by decide

def uvals (xs : List Int) : List Value := xs.map (Value.int .u32)
def ua (xs : List Int) : Array Value := (uvals xs).toArray
def ba (xs : List Int) : Array Value := (bvals xs).toArray
/-- a digest's cells -/
def da (mx bg : List Int) (n : Int) : Array Value := (uvals mx ++ (bvals bg ++ [Value.int .u64 n])).toArray
def iv : List Int := [1779033703, 3144134277, 1013904242, 2773480762, 1359893119, 2600822924, 528734635, 1541459225]
def zeros (n : Nat) : List Int := List.replicate n 0
def kk : List Int := [1116352408, 1899447441, 3049323471, 3921009573, 961987163, 1508970993, 2453635748, 2870763221, 3624381080, 310598401, 607225278, 1426881987, 1925078388, 2162078206, 2614888103, 3248222580, 3835390401, 4022224774, 264347078, 604807628, 770255983, 1249150122, 1555081692, 1996064986, 2554220882, 2821834349, 2952996808, 3210313671, 3336571891, 3584528711, 113926993, 338241895, 666307205, 773529912, 1294757372, 1396182291, 1695183700, 1986661051, 2177026350, 2456956037, 2730485921, 2820302411, 3259730800, 3345764771, 3516065817, 3600352804, 4094571909, 275423344, 430227734, 506948616, 659060556, 883997877, 958139571, 1322822218, 1537002063, 1747873779, 1955562222, 2024104815, 2227730452, 2361852424, 2428436474, 2756734187, 3204031479, 3329325298]

theorem sz {t : TypeId} {n : Nat} (h : (Try.prog.info? t).map (·.size) = some n) {c : Array Value} (hc : c.size = n) : (Try.prog.info? t).map (·.size) = some c.size := by rw [hc]; exact h
theorem s23 : (Try.prog.info? 114).map (·.size) = some 32 := by kernel_rfl
theorem s27 : (Try.prog.info? 31).map (·.size) = some 8 := by kernel_rfl
theorem s44 : (Try.prog.info? 121).map (·.size) = some 8 := by kernel_rfl
theorem s55 : (Try.prog.info? 122).map (·.size) = some 64 := by kernel_rfl
theorem z55 (w : World) : (zeroValue 122).run Try.prog w = .ok (.agg (ua (zeros 64))) w := by kernel_rfl
theorem z23 (w : World) : (zeroValue 114).run Try.prog w = .ok (.agg (ba (zeros 32))) w := by kernel_rfl
theorem z44 (w : World) : (zeroValue 121).run Try.prog w = .ok (.agg (ua (zeros 8))) w := by kernel_rfl
theorem bu44 (w : World) : (Instr.build 121 #[(0, .int .u32 1779033703), (1, .int .u32 3144134277), (2, .int .u32 1013904242), (3, .int .u32 2773480762), (4, .int .u32 1359893119), (5, .int .u32 2600822924), (6, .int .u32 528734635), (7, .int .u32 1541459225)]).run Try.prog w = .ok (.agg (ua iv)) w := run_build w 121 _ _ (by kernel_rfl)
theorem ua_size (xs : List Int) : (ua xs).size = xs.length := by simp [ua, uvals]
theorem ba_size (xs : List Int) : (ba xs).size = xs.length := by simp [ba, bvals]
theorem da_size (mx bg : List Int) (n : Int) (h : mx.length = 8) (h2 : bg.length = 64) : (da mx bg n).size = 73 := by simp [da, uvals, bvals, h, h2]
theorem ua_one (xs : List Int) : (ua xs).all (·.oneCell') = true := by simp [ua, uvals, Value.oneCell']
theorem ba_one (xs : List Int) : (ba xs).all (·.oneCell') = true := by simp [ba, bvals, Value.oneCell']
theorem da_one (mx bg : List Int) (n : Int) : (da mx bg n).all (·.oneCell') = true := by
  simp only [da, List.all_toArray, List.all_append]
  simp [uvals, bvals, Value.oneCell']
theorem zeros_len (n : Nat) : (zeros n).length = n := by simp [zeros]

set_option maxRecDepth 100000 in
theorem c27 (w : World) : Calls Try.prog 69 #[] w fun e w' => e = .returned (.agg (ua kk)) ∧ Below w.heap.size w w' := by
  have h1 := z55
  have h2 : ∀ w : World, (Instr.build 122 (((kk.zipIdx 0).map fun x => (x.2, Value.int .u32 x.1)).toArray)).run Try.prog w = .ok (.agg (ua kk)) w := fun w => run_build w 122 _ _ (by kernel_rfl)
  go_enter Try.func69, Try.ntmps69
  go_wp2_with (first | (refine wpList_buildFlatArrTo rfl 122 120 64 _ rfl .u32 kk (some 1) rfl Try.underlying122 (by kernel_rfl) (by kernel_rfl) (by kernel_rfl) ?_) | (refine wpList_store_rowTo rfl 122 (.tmp 0) (.tmp 1) rfl rfl w.heap.size (ua kk) rfl rfl 122 (ua (zeros 64)) (heap_alloc_last w _) (sz s55 (ua_size _)) (by rw [ua_size, ua_size]; rfl) (ua_one _) ?_))
  rw [World.setRow_alloc_new]
  go_wp2
  refine bodyPost_ret (v := .agg (ua kk)) (results_cell_row rfl _ _ w.heap.size 122 _ (0, 0) _ rfl (heap_alloc_last w _) Try.underlying122 rfl (sz s55 (ua_size _))) rfl ⟨rfl, (Below.refl _ _).alloc (Nat.le_refl _) _⟩
end Go.Proofs.Ytmcmdpbdipgahaa

/-
  Rows of words and the digest in memory.
-/
namespace Go.Proofs.Ytmcmdpbdipgahaa
open Go.RowKit

def UA (w : World) (b : Nat) (t : TypeId) (xs : List Int) : Prop := w.heap[b]? = some (.cells (ua xs) t (0, 0))
def BA (w : World) (b : Nat) (t : TypeId) (xs : List Int) : Prop := w.heap[b]? = some (.cells (ba xs) t (0, 0))
theorem ua_cell {w : World} {b : Nat} {t : TypeId} {xs : List Int} (h : UA w b t xs) (i : Nat) (hi : i < xs.length) : w.cell? ⟨b, i, none⟩ = some (.int .u32 (xs.getD i 0)) := by
  rw [cell_of_row w b i _ t (0, 0) h]
  simp [ua, uvals, List.getD, hi]
theorem ba_cell {w : World} {b : Nat} {t : TypeId} {xs : List Int} (h : BA w b t xs) (i : Nat) (hi : i < xs.length) : w.cell? ⟨b, i, none⟩ = some (.int .u8 (xs.getD i 0)) := by
  rw [cell_of_row w b i _ t (0, 0) h]
  simp [ba, bvals, List.getD, hi]
theorem free_of {w : World} {b : Nat} {cs : Array Value} {t : TypeId} (h : w.heap[b]? = some (.cells cs t (0, 0))) (i : Nat) : w.frozen? ⟨b, i, none⟩ = false := by
  simp [World.frozen?, h]
theorem set_ua (xs : List Int) (i : Nat) (x : Int) : (ua xs).setIfInBounds i (.int .u32 x) = ua (xs.set i x) := by
  apply Array.ext'
  simp [ua, uvals, List.map_set]
theorem set_ba (xs : List Int) (i : Nat) (x : Int) : (ba xs).setIfInBounds i (.int .u8 x) = ba (xs.set i x) := by
  apply Array.ext'
  simp [ba, bvals, List.map_set]
theorem ua_set {w : World} {b : Nat} {t : TypeId} {xs : List Int} (h : UA w b t xs) (i : Nat) (x : Int) : UA (w.setCell ⟨b, i, none⟩ (.int .u32 x)) b t (xs.set i x) := by
  unfold UA at *
  rw [heap_setCell_same w b i _ t _ h, set_ua]
theorem ba_set {w : World} {b : Nat} {t : TypeId} {xs : List Int} (h : BA w b t xs) (i : Nat) (x : Int) : BA (w.setCell ⟨b, i, none⟩ (.int .u8 x)) b t (xs.set i x) := by
  unfold BA at *
  rw [heap_setCell_same w b i _ t _ h, set_ba]
theorem heap_else {w : World} {b g : Nat} {o : Option Obj} (i : Nat) (u : Value) (hne : b ≠ g) (h : w.heap[b]? = o) : (w.setCell ⟨g, i, none⟩ u).heap[b]? = o := by
  rw [heap_setCell_other w ⟨g, i, none⟩ b u hne]; exact h
end Go.Proofs.Ytmcmdpbdipgahaa

/-
  words: the schedule.
-/
namespace Go.Proofs.Ytmcmdpbdipgahaa
open Go.RowKit

/-- a word of four bytes, the highest first -/
def w4 (a b c d : Int) : Int :=
  bits .or .u32 (bits .or .u32 (bits .or .u32 (IntKind.u32.wrap (IntKind.u32.wrap a * 16777216)) (IntKind.u32.wrap (IntKind.u32.wrap b * 65536))) (IntKind.u32.wrap (IntKind.u32.wrap c * 256))) (IntKind.u32.wrap d)
def word (bg : List Int) (k : Nat) : Int := w4 (bg.getD (4 * k) 0) (bg.getD (4 * k + 1) 0) (bg.getD (4 * k + 2) 0) (bg.getD (4 * k + 3) 0)
def fst (bg : List Int) (k : Nat) : List Int := (List.range k).map (word bg)
theorem fst_len (bg : List Int) (k : Nat) : (fst bg k).length = k := by simp [fst]
theorem fst_succ (bg : List Int) (k : Nat) : fst bg (k + 1) = fst bg k ++ [word bg k] := by simp [fst, List.range_succ]
def sg0 (x : Int) : Int := bits .xor .u32 (bits .xor .u32 (rt x 7) (rt x 18)) (x / 8)
def sg1 (x : Int) : Int := bits .xor .u32 (bits .xor .u32 (rt x 17) (rt x 19)) (x / 1024)
def nxt (ws : List Int) (i : Nat) : Int := (ws.getD (i - 16) 0 + sg0 (ws.getD (i - 15) 0) + ws.getD (i - 7) 0 + sg1 (ws.getD (i - 2) 0)) % 4294967296
def sw (bg : List Int) : Nat → List Int
  | 0 => fst bg 16
  | k + 1 => sw bg k ++ [nxt (sw bg k) (16 + k)]
theorem sw_len (bg : List Int) (k : Nat) : (sw bg k).length = 16 + k := by
  induction k with
  | zero => rw [sw, fst_len]
  | succ k ih => rw [sw, List.length_append, ih]; rfl
theorem set_pad (xs : List Int) (n k : Nat) (x : Int) (hl : xs.length = k) (h : k < n) : (xs ++ zeros (n - k)).set k x = xs ++ [x] ++ zeros (n - (k + 1)) := by
  rw [List.set_append_right _ _ (by omega), hl, Nat.sub_self]
  unfold zeros
  rw [show n - k = (n - (k + 1)) + 1 by omega, List.replicate_succ, List.set_cons_zero]
  simp
theorem getD_pad (xs ys : List Int) (i : Nat) (h : i < xs.length) : (xs ++ ys).getD i 0 = xs.getD i 0 := by
  simp only [List.getD]
  rw [List.getElem?_append_left h]
theorem below_drewN {B : Nat} {w W : World} (h : Below B w W) (n : Nat) : Below B w (W.drewN n) := ⟨h.os, h.tape, h.output, h.size, h.block⟩
end Go.Proofs.Ytmcmdpbdipgahaa

/-
  mix: a chunk is mixed in.
-/
namespace Go.Proofs.Ytmcmdpbdipgahaa
open Go.RowKit

structure S8 where
  a : Int
  b : Int
  c : Int
  d : Int
  e : Int
  f : Int
  g : Int
  h : Int
def S8.l (s : S8) : List Int := [s.a, s.b, s.c, s.d, s.e, s.f, s.g, s.h]
def bs1 (e : Int) : Int := bits .xor .u32 (bits .xor .u32 (rt e 6) (rt e 11)) (rt e 25)
def bs0 (e : Int) : Int := bits .xor .u32 (bits .xor .u32 (rt e 2) (rt e 13)) (rt e 22)
def ch (e f g : Int) : Int := bits .xor .u32 (bits .and .u32 e f) (bits .and .u32 (bits .xor .u32 IntKind.u32.max e) g)
def maj (a b c : Int) : Int := bits .xor .u32 (bits .xor .u32 (bits .and .u32 a b) (bits .and .u32 a c)) (bits .and .u32 b c)
def t1 (s : S8) (k w : Int) : Int := (s.h + bs1 s.e + ch s.e s.f s.g + k + w) % 4294967296
def t2 (s : S8) : Int := (bs0 s.a + maj s.a s.b s.c) % 4294967296
def S8.step (s : S8) (k w : Int) : S8 := ⟨(t1 s k w + t2 s) % 4294967296, s.a, s.b, s.c, (s.d + t1 s k w) % 4294967296, s.e, s.f, s.g⟩
def S8.run (s : S8) (ws : List Int) : Nat → S8
  | 0 => s
  | j + 1 => (s.run ws j).step (kk.getD j 0) (ws.getD j 0)
def S8.add (s r : S8) : S8 := ⟨(s.a + r.a) % 4294967296, (s.b + r.b) % 4294967296, (s.c + r.c) % 4294967296, (s.d + r.d) % 4294967296, (s.e + r.e) % 4294967296, (s.f + r.f) % 4294967296, (s.g + r.g) % 4294967296, (s.h + r.h) % 4294967296⟩
def mixd (xs ys : List Int) (k : Nat) : List Int := (List.range 8).map fun i => if i < k then (xs.getD i 0 + ys.getD i 0) % 4294967296 else xs.getD i 0
theorem mixd_len (xs ys : List Int) (k : Nat) : (mixd xs ys k).length = 8 := by simp [mixd]
theorem mixd_get (xs ys : List Int) (k : Nat) (h : k < 8) : (mixd xs ys k).getD k 0 = xs.getD k 0 := by
  simp [mixd, List.getD, h]
theorem mixd_set (xs ys : List Int) (k : Nat) : (mixd xs ys k).set k ((xs.getD k 0 + ys.getD k 0) % 4294967296) = mixd xs ys (k + 1) := by
  apply List.ext_getElem
  · simp [mixd]
  · intro i h1 h2
    simp only [List.length_set, mixd_len] at h1
    rw [List.getElem_set]
    simp only [mixd, List.getElem_map, List.getElem_range]
    by_cases e : k = i
    · subst e; simp
    · rw [if_neg e]
      by_cases e2 : i < k
      · rw [if_pos e2, if_pos (by omega)]
      · rw [if_neg e2, if_neg (by omega)]
theorem mixd_all (s r : S8) : mixd s.l r.l 8 = (s.add r).l := rfl
theorem mixd_none (s r : S8) : mixd s.l r.l 0 = s.l := rfl
/-- a chunk mixed in -/
def comp (s : S8) (bg : List Int) : S8 := s.add (s.run (sw bg 48) 64)
def Keys (w : World) : Prop := 0 < w.heap.size
theorem keys_below {w W : World} {B : Nat} (h : Keys w) (hb : Below B w W) (_ : 0 < B) : Keys W := Nat.lt_of_lt_of_le h hb.size
theorem c43 : (Try.prog.info? 120).map (·.size) = some 1 := by kernel_rfl
theorem run_index_ua (t n : Nat) (ht : Try.prog.underlying t = some (.array n 120)) (xs : List Int) (j : Nat) (w : World) (hl : xs.length = n) (hj : j < n) :
    (Instr.index t (.agg (ua xs)) (.int .i64 j)).run Try.prog w = .ok (.int .u32 (xs.getD j 0)) w := by
  have hu : Try.prog.underlying 120 = some (.int .u32) := by kernel_rfl
  have hq := c43
  cases hi : Try.prog.info? 120 with
  | none => rw [hi] at hq; cases hq
  | some i =>
    have hs : i.size = 1 := by rw [hi] at hq; simpa using hq
    simp only [Instr.index, asIntOf, Sem.run_bind, Sem.run_pure, Result.andThen_ok, run_underlying ht]
    rw [if_pos (by omega)]
    simp [part, sizeOf, typeInfo, hi, hs, isAgg, run_underlying hu, ua, uvals, List.getD, hl, hj]
theorem S8.run0 (s : S8) (ws : List Int) : s.run ws 0 = s := rfl
theorem S8.run1 (s : S8) (ws : List Int) (j : Nat) : s.run ws (j + 1) = (s.run ws j).step (kk.getD j 0) (ws.getD j 0) := rfl
theorem ua_l (r : S8) : ua r.l = #[.int .u32 r.a, .int .u32 r.b, .int .u32 r.c, .int .u32 r.d, .int .u32 r.e, .int .u32 r.f, .int .u32 r.g, .int .u32 r.h] := rfl
attribute [local irreducible] ua da ba kk sw S8.run rt

end Go.Proofs.Ytmcmdpbdipgahaa
