/-
  Rows of bytes: what a slice of bytes reads as; append of bytes onto a row of the call's own; digits of a number without Go.
-/
import Derived.Test.YtffaddefnpkcgaaGreatDoorRows
import Derived.WalkKit
import Derived.WalkLawsBesides
import Derived.Lib.Hide
import Derived.Defers
import Derived.Recover
import Derived.OneCell
import Derived.Maps.AppendAt
import Derived.Deep.AppendLies
import Derived.Deep.RegionLaw
import Derived.Deep.RegionHeld3
import Derived.OwnWalk
import Derived.StillTailTactics
import Derived.Laws.BytesArg
import Derived.Laws.BitsAllLaws
import Derived.Laws.CopyOwn
import Derived.Laws.MakeOwn
import Derived.BigQuiet
import Derived.BigRegion
import Derived.Deep.QuietTactic
import Derived.IntWalk
import Derived.Great.BuildSlice
import Derived.Deep.WholeRow
import Derived.Deep.Cut
namespace Go.Proofs.YtffaddefnpkcgaaGreatDoor
open Go.RowKit
def bvals (xs : List Int) : List Value := xs.map (Value.int .u8)
theorem bvals_one (xs : List Int) : ∀ u ∈ bvals xs, u.oneCell' = true := by
  intro u hu
  simp only [bvals, List.mem_map] at hu
  obtain ⟨x, _, rfl⟩ := hu
  rfl
def Row (w : World) (A : Option Addr) (xs : List Int) : Prop :=
  xs = [] ∨ ∃ b off, A = some ⟨b, off, none⟩ ∧ ∀ i, i < xs.length → w.cell? ⟨b, off + i, none⟩ = some (.int .u8 (xs.getD i 0))
def Byt (xs : List Int) : Prop := ∀ x ∈ xs, 0 ≤ x ∧ x < 256
theorem row_block {w W : World} {A : Option Addr} {xs : List Int} (h : Row w A xs) (hb : ∀ b off, A = some ⟨b, off, none⟩ → xs ≠ [] → b < w.heap.size → W.heap[b]? = w.heap[b]?) : Row W A xs := by
  rcases h with h | ⟨b, off, rfl, hc⟩
  · exact .inl h
  · cases xs with
    | nil => exact .inl rfl
    | cons x xs =>
      refine .inr ⟨b, off, rfl, fun i hi => ?_⟩
      have h0 := World.block_lt_of_cell? w ⟨b, off + i, none⟩ (hc i hi)
      rw [World.cell?_of_block (w := w) (w' := W) (a := ⟨b, off + i, none⟩) (hb b off rfl (by simp) h0)]
      exact hc i hi
theorem row_take {w : World} {b off : Nat} {xs : List Int} (k : Nat) (h : Row w (some ⟨b, off, none⟩) xs) : Row w (some ⟨b, off, none⟩) (xs.take k) := by
  rcases h with rfl | ⟨b', off', he, hc⟩
  · exact .inl (by simp)
  · cases he
    refine .inr ⟨b, off, rfl, fun i hi => ?_⟩
    rw [List.length_take] at hi
    rw [hc i (by omega)]
    simp [List.getD, List.getElem?_take]
    rw [if_pos (by omega)]
theorem row_drop {w : World} {b off : Nat} {xs : List Int} (k : Nat) (h : Row w (some ⟨b, off, none⟩) xs) : Row w (some ⟨b, off + k, none⟩) (xs.drop k) := by
  rcases h with rfl | ⟨b', off', he, hc⟩
  · exact .inl (by simp)
  · cases he
    refine .inr ⟨b, off + k, rfl, fun i hi => ?_⟩
    rw [List.length_drop] at hi
    rw [Nat.add_assoc, hc (k + i) (by omega)]
    simp [List.getD]
def Src (w : World) (A : Option Addr) (m : Nat) (xs : List Int) : Prop :=
  xs.length = m ∧ (m = 0 ∨ ∃ b off, A = some ⟨b, off, none⟩ ∧ ∀ i, i < m → w.cell? ⟨b, off + i, none⟩ = some (.int .u8 (xs.getD i 0)))
theorem src_row {w : World} {A : Option Addr} {xs : List Int} {m : Nat} (hl : xs.length = m) (h : Row w A xs) : Src w A m xs := by
  refine ⟨hl, ?_⟩
  rcases h with rfl | ⟨b, off, rfl, hc⟩
  · exact .inl (by simpa using hl.symm)
  · exact .inr ⟨b, off, rfl, fun i hi => hc i (by omega)⟩
theorem own_row {w : World} {base : Nat} {v : Value} {n : Nat} {xs : List Int} (h : w.ownsRow base 5 1 v n (bvals xs)) : ∃ A cap, v = .slice A n cap ∧ Row w A xs ∧ xs.length = n ∧ n ≤ cap := by
  obtain ⟨hl, hc⟩ := h
  have hl : xs.length = n := by simpa [bvals] using hl
  rcases hc with ⟨rfl, rfl⟩ | ⟨g, cap, cur, rfl, _, hg, hn, _, hs, ht⟩
  · exact ⟨none, 0, rfl, .inl (List.eq_nil_of_length_eq_zero hl), hl, Nat.le_refl _⟩
  · refine ⟨_, cap, rfl, .inr ⟨g, 0, rfl, fun i hi => ?_⟩, hl, hn⟩
    rw [cell_of_row w g (0 + i) cur 5 (0, 0) hg, Nat.zero_add]
    have h1 : (cur.toList.take (n * 1))[i]? = (bvals xs)[i]? := by rw [ht]
    rw [List.getElem?_take, if_pos (by omega)] at h1
    rw [Array.getElem?_toList] at h1
    rw [h1]
    simp [bvals, List.getD, hi]
theorem run_app {P : Program} (w : World) (t ty : TypeId) (i : TypeInfo) (ht : P.underlying t = some (.slice 5)) (hi : P.info? 5 = some i) (hz : i.zero = some (.int .u8 0)) (hsize : i.size = 1) (hby : i.bytes = 1)
    (base n : Nat) (v : Value) (xs : List Int) (hown : w.ownsRow base 5 1 v n (bvals xs)) (A : Option Addr) (m c : Nat) (ys : List Int) (hs : Src w A m ys) (hc : A = none → c = 0)
    (h63 : n + m ≤ maxLen) (hbytes : (n + m) * 1 ≤ 140737488355328) (hbase : base ≤ w.heap.size) :
    ∃ v' w', (Builtin.append_ #[t, t] ty #[v, .slice A m c]).run P w = .ok v' w' ∧ w'.ownsRow base 5 1 v' (n + m) (bvals (xs ++ ys)) ∧ w.grownBy w' v.ownBlock ∧ (v'.ownBlock = v.ownBlock ∨ v'.ownBlock = some w.heap.size) := by
  obtain ⟨hl, hs⟩ := hs
  have hm : bvals (xs ++ ys) = bvals xs ++ bvals ys := by simp [bvals]
  rcases hs with rfl | ⟨b, off, rfl, hcell⟩
  · obtain rfl := List.eq_nil_of_length_eq_zero hl
    cases A with
    | none =>
      obtain rfl := hc rfl
      refine ⟨v, w, ?_, by simpa using hown, World.grownBy.refl w _, .inl rfl⟩
      rcases hown.2 with ⟨rfl, rfl⟩ | ⟨g, cap, cur, rfl, _, _, hnc, _⟩
      · simp [Builtin.append_, run_underlying ht, sizeOf, typeInfo, hi, Builtin.lenOf, Builtin.firstCells]
      · simp [Builtin.append_, run_underlying ht, sizeOf, typeInfo, hi, Builtin.lenOf, Builtin.firstCells, hnc, storeCells]
    | some ad =>
      obtain ⟨v', w', hr, h2, h3, _, h5⟩ := run_append_own_at (P := P) w base t ty 5 i (.int .u8 0) 1 1 ht hi hz hsize hby rfl (by decide) v n (bvals xs) hown ad 0 c (bvals []) rfl (fun j u hu => by simp [bvals] at hu) (bvals_one []) h63 hbytes hbase
      exact ⟨v', w', hr, by rw [hm]; exact h2, h3, h5⟩
  · obtain ⟨v', w', hr, h2, h3, _, h5⟩ := run_append_own_at (P := P) w base t ty 5 i (.int .u8 0) 1 1 ht hi hz hsize hby rfl (by decide) v n (bvals xs) hown ⟨b, off, none⟩ m c (bvals ys) (by simpa [bvals] using hl)
      (fun j u hu => by
        have hj : j < ys.length := by
          rcases Nat.lt_or_ge j ys.length with g | g
          · exact g
          · rw [List.getElem?_eq_none (by simpa [bvals] using g)] at hu; cases hu
        have e : (⟨b, off, none⟩ : Addr).add j = ⟨b, off + j, none⟩ := by unfold Addr.add; split <;> simp_all
        rw [e, hcell j (by omega), ← hu]
        simp [bvals, List.getD, hj]) (bvals_one ys) h63 hbytes hbase
    exact ⟨v', w', hr, by rw [hm]; exact h2, h3, h5⟩
theorem step_app {P : Program} {w : World} {ops : Array Oper} {o : Oper} {a : Act} {K : Act → World → Prop} {Q : Exit → Act → World → Prop} {E : Prop} (hgd : o.guard = none) (s x : Operand) (t : TypeId)
    (ho : o.op = .call { callee := .builtin .append, args := #[s, x], argTypes := #[t, t] })
    (i : TypeInfo) (ht : P.underlying t = some (.slice 5)) (hi : P.info? 5 = some i) (hz : i.zero = some (.int .u8 0)) (hsize : i.size = 1) (hby : i.bytes = 1)
    (base n : Nat) (v : Value) (xs : List Int) (hv : a.eval s = v) (hown : w.ownsRow base 5 1 v n (bvals xs)) (A : Option Addr) (m c : Nat) (ys : List Int) (hx : a.eval x = .slice A m c) (hs : Src w A m ys) (hc : A = none → c = 0)
    (h63 : n + m ≤ maxLen) (hbytes : (n + m) * 1 ≤ 140737488355328) (hbase : base ≤ w.heap.size)
    (h : ∀ A' c' w', w'.ownsRow base 5 1 (.slice A' (n + m) c') (n + m) (bvals (xs ++ ys)) → w.grownBy w' v.ownBlock → ((Value.slice A' (n + m) c').ownBlock = v.ownBlock ∨ (Value.slice A' (n + m) c').ownBlock = some w.heap.size) → K (a.put o.dst (.slice A' (n + m) c')) w') :
    if Region.wanted o (yielded ops a.tmps) = true then Oper.wp P o a w K Q else E := by
  have hw : Region.wanted o (yielded ops a.tmps) = true := by simp [Region.wanted, hgd]
  rw [if_pos hw]
  obtain ⟨v', w', hr, h2, h3, h4⟩ := run_app (P := P) w t o.type i ht hi hz hsize hby base n v xs hown A m c ys hs hc h63 hbytes hbase
  unfold Oper.wp execOp
  simp only [ho, resolve, invoke, builtin, Sem.run_bind, Sem.run_pure, Result.andThen_ok, List.map_toArray, List.map_cons, List.map_nil, hv, hx, hr]
  obtain ⟨A', c', rfl, _⟩ := own_row h2
  exact h A' c' w' h2 h3 h4
theorem wpList_app {P : Program} {w : World} {ops : Array Oper} {rest : List Oper} {o : Oper} {a : Act} {Q : Exit → Act → World → Prop} (hgd : o.guard = none) (s x : Operand) (t : TypeId)
    (ho : o.op = .call { callee := .builtin .append, args := #[s, x], argTypes := #[t, t] })
    (i : TypeInfo) (ht : P.underlying t = some (.slice 5)) (hi : P.info? 5 = some i) (hz : i.zero = some (.int .u8 0)) (hsize : i.size = 1) (hby : i.bytes = 1)
    (base n : Nat) (v : Value) (xs : List Int) (hv : a.eval s = v) (hown : w.ownsRow base 5 1 v n (bvals xs)) (A : Option Addr) (m c : Nat) (ys : List Int) (hx : a.eval x = .slice A m c) (hs : Src w A m ys) (hc : A = none → c = 0)
    (h63 : n + m ≤ maxLen) (hbytes : (n + m) * 1 ≤ 140737488355328) (hbase : base ≤ w.heap.size)
    (h : ∀ A' c' w', w'.ownsRow base 5 1 (.slice A' (n + m) c') (n + m) (bvals (xs ++ ys)) → w.grownBy w' v.ownBlock → ((Value.slice A' (n + m) c').ownBlock = v.ownBlock ∨ (Value.slice A' (n + m) c').ownBlock = some w.heap.size) → wpList P ops Q rest (a.put o.dst (.slice A' (n + m) c')) w') : wpList P ops Q (o :: rest) a w := by
  refine wpList_plain hgd fun K hK => ?_
  obtain ⟨v', w', hr, h2, h3, h4⟩ := run_app (P := P) w t o.type i ht hi hz hsize hby base n v xs hown A m c ys hs hc h63 hbytes hbase
  unfold Oper.wp execOp
  simp only [ho, resolve, invoke, builtin, Sem.run_bind, Sem.run_pure, Result.andThen_ok, List.map_toArray, List.map_cons, List.map_nil, hv, hx, hr]
  obtain ⟨A', c', rfl, _⟩ := own_row h2
  exact hK _ _ (h A' c' w' h2 h3 h4)
theorem info5 : (Tryz.prog.info? 5).map (fun i => (i.zero, i.size, i.bytes)) = some (some (.int .u8 0), 1, 1) := by kernel_rfl
theorem info_parts {t : TypeId} {z : Value} {s b : Nat} (h : (Tryz.prog.info? t).map (fun i => (i.zero, i.size, i.bytes)) = some (some z, s, b)) : ∃ i, Tryz.prog.info? t = some i ∧ i.zero = some z ∧ i.size = s ∧ i.bytes = b := by
  cases hi : Tryz.prog.info? t with
  | none => rw [hi] at h; cases h
  | some i => rw [hi] at h; simp only [Option.map_some, Option.some.injEq, Prod.mk.injEq] at h; exact ⟨i, rfl, h.1, h.2.1, h.2.2⟩
theorem own_base {w : World} {base n : Nat} {v : Value} {xs : List Value} (h : w.ownsRow base 5 1 v n xs) : ∀ q, v.ownBlock = some q → base ≤ q := by
  intro q hq
  rcases h.2 with ⟨rfl, _⟩ | ⟨g, cap, cur, rfl, hb, _⟩
  · cases hq
  · simp [Value.ownBlock] at hq; omega
theorem own_lt {w : World} {base n : Nat} {v : Value} {xs : List Value} (h : w.ownsRow base 5 1 v n xs) : ∀ q, v.ownBlock = some q → q < w.heap.size := by
  intro q hq
  rcases h.2 with ⟨rfl, _⟩ | ⟨g, cap, cur, rfl, hb, hg, _⟩
  · cases hq
  · simp [Value.ownBlock] at hq; subst hq; exact lt_of_block hg
theorem own_nil (w : World) (base : Nat) : w.ownsRow base 5 1 (.slice none 0 0) 0 (bvals []) := ⟨rfl, .inl ⟨rfl, rfl⟩⟩
theorem own_keep {w W : World} {base n : Nat} {v : Value} {xs : List Value} (h : w.ownsRow base 5 1 v n xs) (hk : ∀ q, v.ownBlock = some q → W.heap[q]? = w.heap[q]?) : W.ownsRow base 5 1 v n xs := by
  refine ⟨h.1, ?_⟩
  rcases h.2 with h2 | ⟨g, cap, cur, rfl, hb, hg, h3⟩
  · exact .inl h2
  · exact .inr ⟨g, cap, cur, rfl, hb, by rw [hk g rfl]; exact hg, h3⟩
def dig (n : Int) (j : Nat) : Int := n / 2 ^ (8 * j) % 256
def digs (n : Int) (w : Nat) : List Int := (List.range w).map (dig n)
theorem digs_len (n : Int) (w : Nat) : (digs n w).length = w := by simp [digs]
theorem digs_succ (n : Int) (w : Nat) : digs n (w + 1) = digs n w ++ [dig n w] := by simp [digs, List.range_succ]
theorem take_one (xs : List Int) (k : Nat) (h : k < xs.length) : xs.take (k + 1) = xs.take k ++ [xs.getD k 0] := by
  rw [List.take_add_one, List.getElem?_eq_getElem h]
  simp [List.getD, h]
theorem byt_take {xs : List Int} (h : Byt xs) (k : Nat) : Byt (xs.take k) := fun x hx => h x (List.mem_of_mem_take hx)
theorem byt_drop {xs : List Int} (h : Byt xs) (k : Nat) : Byt (xs.drop k) := fun x hx => h x (List.mem_of_mem_drop hx)
theorem byt_getD {xs : List Int} (h : Byt xs) (k : Nat) (hk : k < xs.length) : 0 ≤ xs.getD k 0 ∧ xs.getD k 0 < 256 := by
  have : xs.getD k 0 = xs[k] := by simp [List.getD, hk]
  rw [this]
  exact h _ (List.getElem_mem hk)
theorem src_one (w : World) (x : Int) : Src (w.alloc (Obj.cells #[.int .u8 x] 5)) (some ⟨w.heap.size, 0, none⟩) 1 [x] := by
  refine ⟨rfl, .inr ⟨w.heap.size, 0, rfl, fun i hi => ?_⟩⟩
  obtain rfl : i = 0 := by omega
  simp [go_sem]
theorem own_none (w : World) : (w.alloc (Obj.cells #[] 5)).ownsRow w.heap.size 5 1 (.slice (some ⟨w.heap.size, 0, none⟩) 0 0) 0 (bvals []) :=
  ⟨rfl, .inr ⟨w.heap.size, 0, #[], rfl, Nat.le_refl _, heap_alloc_new w _, Nat.le_refl _, Nat.zero_le _, rfl, rfl⟩⟩
end Go.Proofs.YtffaddefnpkcgaaGreatDoor
/-
  Words of 32 bits: turned, right; arrays of words and the digest in memory; begin, rounds.
-/
namespace Go.Proofs.YtffaddefnpkcgaaGreatDoor
open Go.RowKit
def rr (x : Int) (n : Nat) : Int := bits .or .u32 (x / 2 ^ n) (x * 2 ^ (32 - n) % 4294967296)
theorem bits_or_comm (k : IntKind) (x y : Int) : bits .or k x y = bits .or k y x := by
  show k.wrap ((BitVec.ofInt _ x ||| BitVec.ofInt _ y).toNat : Int) = k.wrap ((BitVec.ofInt _ y ||| BitVec.ofInt _ x).toNat : Int)
  rw [BitVec.or_comm]
theorem c28 (x : Int) (n : Nat) (w : World) (hn : n ≤ 32) : Calls Tryz.prog 93 #[.int .u32 x, .int .u64 n] w fun e w' => e = .returned (.int .u32 (rr x n)) ∧ w = w' := by
  have h1 : min n 32 = n := by omega
  have h2 : IntKind.u64.wrap (32 - (n : Int)) = ((32 - n : Nat) : Int) := by rw [IntKind.wrap_u64]; omega
  have h3 : min (32 - n) 32 = 32 - n := by omega
  go_enter Tryz.func93, Tryz.ntmps93
  go_wp2
  go_ret
  exact ⟨rfl, rfl⟩
theorem c42 (x : Int) (n : Nat) (k : Int) (w : World) (hn : n ≤ 32) (hk : bits .and .u64 (IntKind.u64.wrap k) 31 = ((32 - n : Nat) : Int)) : Calls Tryz.prog 135 #[.int .u32 x, .int .i64 k] w fun e w' => e = .returned (.int .u32 (rr x n)) ∧ w = w' := by
  obtain ⟨m, hm⟩ : ∃ m : Nat, 32 - n = m := ⟨_, rfl⟩
  rw [hm] at hk
  have h3 : min m 32 = m := by omega
  have h4 : IntKind.u64.wrap (32 - (m : Int)) = (n : Int) := by rw [IntKind.wrap_u64]; omega
  have h1 : min n 32 = n := by omega
  have HM := Lib.hid hm
  clear hm
  go_enter Tryz.func135, Tryz.ntmps135
  go_wp2
  go_ret
  refine ⟨?_, rfl⟩
  show Ending.returned (Value.int .u32 (bits .or .u32 (x * 2 ^ m % 4294967296) (x / 2 ^ n))) = _
  unfold rr
  rw [HM.out, bits_or_comm]
theorem c39 (x : Int) (n : Nat) (k kn : Int) (w : World) (hn : n ≤ 32) (h1 : IntKind.i64.wrap (-k) = kn) (hk : bits .and .u64 (IntKind.u64.wrap kn) 31 = ((32 - n : Nat) : Int)) : Calls Tryz.prog 129 #[.int .u32 x, .int .i64 k] w fun e w' => e = .returned (.int .u32 (rr x n)) ∧ w = w' := by
  have C := Lib.hid (c42 x n kn w hn hk)
  clear hk
  go_enter Tryz.func129, Tryz.ntmps129
  go_wp2_with fail
  refine C.out.mono ?_; rintro e w' ⟨rfl, rfl⟩
  go_wp2
  go_ret
  exact ⟨rfl, rfl⟩
def rt (x k : Int) : Int := rr x k.toNat
def okR (k : Int) : Bool := decide (0 ≤ k ∧ k ≤ 32) && decide (IntKind.i64.wrap (-k) = -k) && decide (bits .and .u64 (IntKind.u64.wrap (-k)) 31 = ((32 - k.toNat : Nat) : Int))
theorem r39 (x k : Int) (w : World) (h : okR k = true) : Calls Tryz.prog 129 #[.int .u32 x, .int .i64 k] w fun e w' => e = .returned (.int .u32 (rt x k)) ∧ w = w' := by
  simp only [okR, Bool.and_eq_true, decide_eq_true_eq] at h
  exact c39 x k.toNat k (-k) w (by omega) h.1.2 h.2
theorem r28 (x k : Int) (w : World) (h : okR k = true) : Calls Tryz.prog 93 #[.int .u32 x, .int .u64 k] w fun e w' => e = .returned (.int .u32 (rt x k)) ∧ w = w' := by
  simp only [okR, Bool.and_eq_true, decide_eq_true_eq] at h
  have e : k = (k.toNat : Int) := by omega
  have := c28 x k.toNat w (by omega)
  rw [← e] at this
  exact this
def uvals (xs : List Int) : List Value := xs.map (Value.int .u32)
def ua (xs : List Int) : Array Value := (uvals xs).toArray
def ba (xs : List Int) : Array Value := (bvals xs).toArray
def da (mx bg : List Int) (n : Int) : Array Value := (uvals mx ++ (bvals bg ++ [Value.int .u64 n])).toArray
def iv : List Int := [1779033703, 3144134277, 1013904242, 2773480762, 1359893119, 2600822924, 528734635, 1541459225]
def zeros (n : Nat) : List Int := List.replicate n 0
def kk : List Int := [1116352408, 1899447441, 3049323471, 3921009573, 961987163, 1508970993, 2453635748, 2870763221, 3624381080, 310598401, 607225278, 1426881987, 1925078388, 2162078206, 2614888103, 3248222580, 3835390401, 4022224774, 264347078, 604807628, 770255983, 1249150122, 1555081692, 1996064986, 2554220882, 2821834349, 2952996808, 3210313671, 3336571891, 3584528711, 113926993, 338241895, 666307205, 773529912, 1294757372, 1396182291, 1695183700, 1986661051, 2177026350, 2456956037, 2730485921, 2820302411, 3259730800, 3345764771, 3516065817, 3600352804, 4094571909, 275423344, 430227734, 506948616, 659060556, 883997877, 958139571, 1322822218, 1537002063, 1747873779, 1955562222, 2024104815, 2227730452, 2361852424, 2428436474, 2756734187, 3204031479, 3329325298]
theorem sz {t : TypeId} {n : Nat} (h : (Tryz.prog.info? t).map (·.size) = some n) {c : Array Value} (hc : c.size = n) : (Tryz.prog.info? t).map (·.size) = some c.size := by rw [hc]; exact h
theorem s23 : (Tryz.prog.info? 107).map (·.size) = some 32 := by kernel_rfl
theorem s27 : (Tryz.prog.info? 29).map (·.size) = some 8 := by kernel_rfl
theorem s44 : (Tryz.prog.info? 149).map (·.size) = some 8 := by kernel_rfl
theorem s45 : (Tryz.prog.info? 150).map (·.size) = some 64 := by kernel_rfl
theorem s48 : (Tryz.prog.info? 153).map (·.size) = some 73 := by kernel_rfl
theorem s55 : (Tryz.prog.info? 157).map (·.size) = some 64 := by kernel_rfl
theorem z48 (w : World) : (zeroValue 153).run Tryz.prog w = .ok (.agg (da (zeros 8) (zeros 64) 0)) w := by kernel_rfl
theorem z55 (w : World) : (zeroValue 157).run Tryz.prog w = .ok (.agg (ua (zeros 64))) w := by kernel_rfl
theorem z45 (w : World) : (zeroValue 150).run Tryz.prog w = .ok (.agg (ba (zeros 64))) w := by kernel_rfl
theorem z23 (w : World) : (zeroValue 107).run Tryz.prog w = .ok (.agg (ba (zeros 32))) w := by kernel_rfl
theorem z44 (w : World) : (zeroValue 149).run Tryz.prog w = .ok (.agg (ua (zeros 8))) w := by kernel_rfl
theorem bu44 (w : World) : (Instr.build 149 #[(0, .int .u32 1779033703), (1, .int .u32 3144134277), (2, .int .u32 1013904242), (3, .int .u32 2773480762), (4, .int .u32 1359893119), (5, .int .u32 2600822924), (6, .int .u32 528734635), (7, .int .u32 1541459225)]).run Tryz.prog w = .ok (.agg (ua iv)) w := run_build w 149 _ _ (by kernel_rfl)
theorem bu48 (w : World) : (Instr.build 153 #[(0, .agg (ua iv))]).run Tryz.prog w = .ok (.agg (da iv (zeros 64) 0)) w := run_build w 153 _ _ (by kernel_rfl)
theorem ua_size (xs : List Int) : (ua xs).size = xs.length := by simp [ua, uvals]
theorem ba_size (xs : List Int) : (ba xs).size = xs.length := by simp [ba, bvals]
theorem da_size (mx bg : List Int) (n : Int) (h : mx.length = 8) (h2 : bg.length = 64) : (da mx bg n).size = 73 := by simp [da, uvals, bvals, h, h2]
theorem ua_one (xs : List Int) : (ua xs).all (·.oneCell') = true := by simp [ua, uvals, Value.oneCell']
theorem ba_one (xs : List Int) : (ba xs).all (·.oneCell') = true := by simp [ba, bvals, Value.oneCell']
theorem da_one (mx bg : List Int) (n : Int) : (da mx bg n).all (·.oneCell') = true := by
  simp only [da, List.all_toArray, List.all_append]
  simp [uvals, bvals, Value.oneCell']
theorem zeros_len (n : Nat) : (zeros n).length = n := by simp [zeros]
set_option maxRecDepth 100000 in
theorem c22 (w : World) : Calls Tryz.prog 89 #[] w fun e w' => e = .returned (.agg (da iv (zeros 64) 0)) ∧ Below w.heap.size w w' := by
  have h1 := z48
  have h2 := bu44
  have h3 := bu48
  go_enter Tryz.func89, Tryz.ntmps89
  go_wp2_with (refine wpList_store_rowTo rfl 153 (.tmp 0) (.tmp 2) rfl rfl w.heap.size (da iv (zeros 64) 0) rfl rfl 153 (da (zeros 8) (zeros 64) 0) (heap_alloc_last w _) (sz s48 (da_size _ _ _ rfl rfl)) (by rw [da_size _ _ _ rfl rfl, da_size _ _ _ rfl rfl]) (da_one _ _ _) ?_)
  rw [World.setRow_alloc_new]
  go_wp2
  refine bodyPost_ret (v := .agg (da iv (zeros 64) 0)) (results_cell_row rfl _ _ w.heap.size 153 _ (0, 0) _ rfl (heap_alloc_last w _) Tryz.underlying153 rfl (sz s48 (da_size _ _ _ rfl rfl))) rfl ⟨rfl, (Below.refl _ _).alloc (Nat.le_refl _) _⟩
set_option maxRecDepth 100000 in
theorem c27 (w : World) : Calls Tryz.prog 92 #[] w fun e w' => e = .returned (.agg (ua kk)) ∧ Below w.heap.size w w' := by
  have h1 := z55
  have h2 : ∀ w : World, (Instr.build 157 (((kk.zipIdx 0).map fun x => (x.2, Value.int .u32 x.1)).toArray)).run Tryz.prog w = .ok (.agg (ua kk)) w := fun w => run_build w 157 _ _ (by kernel_rfl)
  go_enter Tryz.func92, Tryz.ntmps92
  go_wp2_with (first | (refine wpList_buildFlatArrTo rfl 157 148 64 _ rfl .u32 kk (some 1) rfl Tryz.underlying157 (by kernel_rfl) (by kernel_rfl) (by kernel_rfl) ?_) | (refine wpList_store_rowTo rfl 157 (.tmp 0) (.tmp 1) rfl rfl w.heap.size (ua kk) rfl rfl 157 (ua (zeros 64)) (heap_alloc_last w _) (sz s55 (ua_size _)) (by rw [ua_size, ua_size]; rfl) (ua_one _) ?_))
  rw [World.setRow_alloc_new]
  go_wp2
  refine bodyPost_ret (v := .agg (ua kk)) (results_cell_row rfl _ _ w.heap.size 157 _ (0, 0) _ rfl (heap_alloc_last w _) Tryz.underlying157 rfl (sz s55 (ua_size _))) rfl ⟨rfl, (Below.refl _ _).alloc (Nat.le_refl _) _⟩
end Go.Proofs.YtffaddefnpkcgaaGreatDoor
/-
  Rows of words and the digest in memory.
-/
namespace Go.Proofs.YtffaddefnpkcgaaGreatDoor
open Go.RowKit
def UA (w : World) (b : Nat) (t : TypeId) (xs : List Int) : Prop := w.heap[b]? = some (.cells (ua xs) t (0, 0))
def BA (w : World) (b : Nat) (t : TypeId) (xs : List Int) : Prop := w.heap[b]? = some (.cells (ba xs) t (0, 0))
def DA (w : World) (b : Nat) (mx bg : List Int) (n : Int) : Prop := w.heap[b]? = some (.cells (da mx bg n) 153 (0, 0))
theorem ua_cell {w : World} {b : Nat} {t : TypeId} {xs : List Int} (h : UA w b t xs) (i : Nat) (hi : i < xs.length) : w.cell? ⟨b, i, none⟩ = some (.int .u32 (xs.getD i 0)) := by
  rw [cell_of_row w b i _ t (0, 0) h]
  simp [ua, uvals, List.getD, hi]
theorem ba_cell {w : World} {b : Nat} {t : TypeId} {xs : List Int} (h : BA w b t xs) (i : Nat) (hi : i < xs.length) : w.cell? ⟨b, i, none⟩ = some (.int .u8 (xs.getD i 0)) := by
  rw [cell_of_row w b i _ t (0, 0) h]
  simp [ba, bvals, List.getD, hi]
theorem free_of {w : World} {b : Nat} {cs : Array Value} {t : TypeId} (h : w.heap[b]? = some (.cells cs t (0, 0))) (i : Nat) : w.frozen? ⟨b, i, none⟩ = false := by
  simp [World.frozen?, h]
theorem da_mx {w : World} {b : Nat} {mx bg : List Int} {n : Int} (h : DA w b mx bg n) (hm : mx.length = 8) (i : Nat) (hi : i < 8) : w.cell? ⟨b, i, none⟩ = some (.int .u32 (mx.getD i 0)) := by
  rw [cell_of_row w b i _ 153 (0, 0) h]
  simp only [da, List.getElem?_toArray]
  rw [List.getElem?_append_left (by simp [uvals, hm, hi])]
  simp [uvals, List.getD, show i < mx.length by omega]
theorem da_bg {w : World} {b : Nat} {mx bg : List Int} {n : Int} (h : DA w b mx bg n) (hm : mx.length = 8) (hb : bg.length = 64) (i : Nat) (hi : i < 64) : w.cell? ⟨b, 8 + i, none⟩ = some (.int .u8 (bg.getD i 0)) := by
  rw [cell_of_row w b (8 + i) _ 153 (0, 0) h]
  simp only [da, List.getElem?_toArray]
  rw [List.getElem?_append_right (by simp [uvals, hm])]
  rw [List.getElem?_append_left (by simp [uvals, bvals, hm, hb]; omega)]
  simp [uvals, bvals, List.getD, hm, show i < bg.length by omega]
theorem da_n {w : World} {b : Nat} {mx bg : List Int} {n : Int} (h : DA w b mx bg n) (hm : mx.length = 8) (hb : bg.length = 64) : w.cell? ⟨b, 72, none⟩ = some (.int .u64 n) := by
  rw [cell_of_row w b 72 _ 153 (0, 0) h]
  simp only [da, List.getElem?_toArray]
  rw [List.getElem?_append_right (by simp [uvals, hm])]
  rw [List.getElem?_append_right (by simp [uvals, bvals, hm, hb])]
  simp [uvals, bvals, hm, hb]
theorem set_ua (xs : List Int) (i : Nat) (x : Int) : (ua xs).setIfInBounds i (.int .u32 x) = ua (xs.set i x) := by
  apply Array.ext'
  simp [ua, uvals, List.map_set]
theorem set_ba (xs : List Int) (i : Nat) (x : Int) : (ba xs).setIfInBounds i (.int .u8 x) = ba (xs.set i x) := by
  apply Array.ext'
  simp [ba, bvals, List.map_set]
theorem ua_set {w : World} {b : Nat} {t : TypeId} {xs : List Int} (h : UA w b t xs) (i : Nat) (x : Int) : UA (w.setCell ⟨b, i, none⟩ (.int .u32 x)) b t (xs.set i x) := by
  unfold UA at *
  rw [heap_setCell_same w b i _ t _ h, set_ua]
theorem ba_set {w : World} {b : Nat} {t : TypeId} {xs : List Int} (h : BA w b t xs) (i : Nat) (x : Int) : BA (w.setCell ⟨b, i, none⟩ (.int .u8 x)) b t (xs.set i x) := by
  unfold BA at *
  rw [heap_setCell_same w b i _ t _ h, set_ba]
theorem da_set_mx {w : World} {b : Nat} {mx bg : List Int} {n : Int} (h : DA w b mx bg n) (hm : mx.length = 8) (i : Nat) (hi : i < 8) (x : Int) : DA (w.setCell ⟨b, i, none⟩ (.int .u32 x)) b (mx.set i x) bg n := by
  unfold DA at *
  rw [heap_setCell_same w b i _ 153 _ h]
  congr 2
  apply Array.ext'
  simp only [da, Array.toList_setIfInBounds]
  rw [List.set_append_left _ _ (by simp [uvals, hm, hi])]
  simp [uvals, List.map_set]
theorem da_set_n {w : World} {b : Nat} {mx bg : List Int} {n : Int} (h : DA w b mx bg n) (hm : mx.length = 8) (hb : bg.length = 64) (x : Int) : DA (w.setCell ⟨b, 72, none⟩ (.int .u64 x)) b mx bg x := by
  unfold DA at *
  rw [heap_setCell_same w b 72 _ 153 _ h]
  congr 2
  apply Array.ext'
  simp only [da, Array.toList_setIfInBounds]
  rw [List.set_append_right _ _ (by simp [uvals, hm])]
  rw [List.set_append_right _ _ (by simp [uvals, bvals, hm, hb])]
  simp [uvals, bvals, hm, hb]
theorem heap_else {w : World} {b g : Nat} {o : Option Obj} (i : Nat) (u : Value) (hne : b ≠ g) (h : w.heap[b]? = o) : (w.setCell ⟨g, i, none⟩ u).heap[b]? = o := by
  rw [heap_setCell_other w ⟨g, i, none⟩ b u hne]; exact h
end Go.Proofs.YtffaddefnpkcgaaGreatDoor
/-
  words: the schedule.
-/
namespace Go.Proofs.YtffaddefnpkcgaaGreatDoor
open Go.RowKit
def w4 (a b c d : Int) : Int :=
  bits .or .u32 (bits .or .u32 (bits .or .u32 (IntKind.u32.wrap (IntKind.u32.wrap a * 16777216)) (IntKind.u32.wrap (IntKind.u32.wrap b * 65536))) (IntKind.u32.wrap (IntKind.u32.wrap c * 256))) (IntKind.u32.wrap d)
def word (bg : List Int) (k : Nat) : Int := w4 (bg.getD (4 * k) 0) (bg.getD (4 * k + 1) 0) (bg.getD (4 * k + 2) 0) (bg.getD (4 * k + 3) 0)
def fst (bg : List Int) (k : Nat) : List Int := (List.range k).map (word bg)
theorem fst_len (bg : List Int) (k : Nat) : (fst bg k).length = k := by simp [fst]
theorem fst_succ (bg : List Int) (k : Nat) : fst bg (k + 1) = fst bg k ++ [word bg k] := by simp [fst, List.range_succ]
def sg0 (x : Int) : Int := bits .xor .u32 (bits .xor .u32 (rt x 7) (rt x 18)) (x / 8)
def sg1 (x : Int) : Int := bits .xor .u32 (bits .xor .u32 (rt x 17) (rt x 19)) (x / 1024)
def nxt (ws : List Int) (i : Nat) : Int := (ws.getD (i - 16) 0 + sg0 (ws.getD (i - 15) 0) + ws.getD (i - 7) 0 + sg1 (ws.getD (i - 2) 0)) % 4294967296
def sw (bg : List Int) : Nat → List Int
  | 0 => fst bg 16
  | k + 1 => sw bg k ++ [nxt (sw bg k) (16 + k)]
theorem sw_len (bg : List Int) (k : Nat) : (sw bg k).length = 16 + k := by
  induction k with
  | zero => rw [sw, fst_len]
  | succ k ih => rw [sw, List.length_append, ih]; rfl
theorem set_pad (xs : List Int) (n k : Nat) (x : Int) (hl : xs.length = k) (h : k < n) : (xs ++ zeros (n - k)).set k x = xs ++ [x] ++ zeros (n - (k + 1)) := by
  rw [List.set_append_right _ _ (by omega), hl, Nat.sub_self]
  unfold zeros
  rw [show n - k = (n - (k + 1)) + 1 by omega, List.replicate_succ, List.set_cons_zero]
  simp
theorem getD_pad (xs ys : List Int) (i : Nat) (h : i < xs.length) : (xs ++ ys).getD i 0 = xs.getD i 0 := by
  simp only [List.getD]
  rw [List.getElem?_append_left h]
theorem below_drewN {B : Nat} {w W : World} (h : Below B w W) (n : Nat) : Below B w (W.drewN n) := ⟨h.os, h.tape, h.output, h.size, h.block⟩
set_option maxRecDepth 100000 in
set_option maxHeartbeats 4000000 in
theorem c38 (b : Nat) (mx bg : List Int) (n : Int) (w : World) (hm : mx.length = 8) (hb : bg.length = 64) (h : DA w b mx bg n) :
    Calls Tryz.prog 128 #[.pointer (some ⟨b, 0, none⟩)] w fun e w' => e = .returned (.agg (ua (sw bg 48))) ∧ Below w.heap.size w w' := by
  have h1 := z55
  have HD := Lib.hid h
  have HM := Lib.hid hm
  have HB := Lib.hid hb
  clear h hm hb
  obtain ⟨S, hS⟩ : ∃ S, w.heap.size = S := ⟨_, rfl⟩
  go_enter Tryz.func128, Tryz.ntmps128
  go_wp2
  go_loopw [11, 4, 5] (fun i c s wr => ∃ k : Nat, k ≤ 16 ∧ i = .int .i64 k ∧ UA wr S 157 (zeros 64) ∧ UA wr (S + 1) 157 (fst bg k ++ zeros (64 - k)) ∧ Below S w wr) (fun i _ _ _ => 16 - (intOf i).toNat)
  case atStart =>
    refine ⟨0, by omega, rfl, ?_, ?_, ?_⟩
    · subst hS
      exact (Below.heap_alloc _ _ _ (by simp)).trans (heap_alloc_last w _)
    · subst hS
      show _ = _
      have := heap_alloc_last (w.alloc (Obj.cells (ua (zeros 64)) 157)) (Obj.cells (ua (zeros 64)) 157)
      simp only [World.size_alloc] at this
      exact this
    · subst hS
      exact ((Below.refl _ _).alloc (Nat.le_refl _) _).alloc (by simp) _
  case round =>
    obtain ⟨k, hk, rfl, hT, hU, hbel⟩ := hrel
    by_cases hlt : k < 16
    · have D : DA wr b mx bg n := (hbel.block b (by have := lt_of_block HD.out; omega)).trans HD.out
      have x0 := da_bg D HM.out HB.out (4 * k) (by omega)
      have x1 := da_bg D HM.out HB.out (4 * k + 1) (by omega)
      have x2 := da_bg D HM.out HB.out (4 * k + 2) (by omega)
      have x3 := da_bg D HM.out HB.out (4 * k + 3) (by omega)
      have E : Hid (word bg k = w4 (bg.getD (4 * k) 0) (bg.getD (4 * k + 1) 0) (bg.getD (4 * k + 2) 0) (bg.getD (4 * k + 3) 0)) := rfl
      generalize bg.getD (4 * k) 0 = a0 at *
      generalize bg.getD (4 * k + 1) 0 = a1 at *
      generalize bg.getD (4 * k + 2) 0 = a2 at *
      generalize bg.getD (4 * k + 3) 0 = a3 at *
      have c0 : wr.drew.cell? _ = _ := ua_cell hU k (by rw [List.length_append, fst_len, zeros_len]; omega)
      have f0 : wr.drew.frozen? _ = _ := free_of hU k
      have N1 : Hid (UA (wr.drew.setCell ⟨S + 1, k, none⟩ (.int .u32 (word bg k))) (S + 1) 157 (fst bg (k + 1) ++ zeros (64 - (k + 1)))) := by
        have := ua_set (w := wr.drew) hU k (word bg k)
        rw [set_pad _ _ _ _ (fst_len bg k) (by omega), ← fst_succ] at this
        exact this
      have N2 : Hid (UA (wr.drew.setCell ⟨S + 1, k, none⟩ (.int .u32 (word bg k))) S 157 (zeros 64)) := heap_else k _ (by omega) hT
      have N3 : Hid (Below S w (wr.drew.setCell ⟨S + 1, k, none⟩ (.int .u32 (word bg k)))) := hbel.drew.setCell (by show S ≤ S + 1; omega) _
      rw [E.out] at N1 N2 N3
      clear hU hT hbel D E
      have q1 : (0 : Int) ≤ 4 * (k : Int) := by omega
      have q2 : 4 * (k : Int) ≤ 64 := by omega
      rw [show 8 + (4 * k + 1) = 8 + 4 * k + 1 by omega] at x1
      rw [show 8 + (4 * k + 2) = 8 + 4 * k + 2 by omega] at x2
      rw [show 8 + (4 * k + 3) = 8 + 4 * k + 3 by omega] at x3
      obtain ⟨L, hL⟩ : ∃ L, 64 - 4 * k = L := ⟨_, rfl⟩
      have m0 : 0 < L := by omega
      have m1 : 1 < (L : Int) := by omega
      have m2 : 2 < (L : Int) := by omega
      have m3 : 3 < (L : Int) := by omega
      have l4 : (k : Int) < 64 := by omega
      go_wp2_with fail
      go_still_tail 24, (by kernel_rfl)
      change wpList _ _ _ _ _ wr.drew
      generalize wr.drew = wq at *
      go_wp2
      go_roundw
      case rel => exact ⟨k + 1, by omega, by go_num, N2.out, N1.out, N3.out⟩
      case measure => simp [intOf]; omega
    · have hk16 : k = 16 := by omega
      have HT := Lib.hid hT
      have HU : Hid (UA wr (S + 1) 157 (sw bg 0 ++ zeros 48)) := by subst hk16; exact hU
      have BL := Lib.hid hbel
      have hn : ¬ (k : Int) < 16 := by omega
      clear hT hU hbel hk hlt hk16
      generalize (k : Int) = z16 at *
      go_wp2
      go_loopw [6, 7, 8, 9, 10] (fun i _ _ _ _ wr => ∃ k : Nat, k ≤ 48 ∧ i = .int .i64 ((16 + k : Nat) : Int) ∧ UA wr S 157 (zeros 64) ∧ UA wr (S + 1) 157 (sw bg k ++ zeros (48 - k)) ∧ Below S w wr) (fun i _ _ _ _ _ => 64 - (intOf i).toNat)
      case atStart => exact ⟨0, by omega, rfl, HT.out, HU.out, BL.out⟩
      case round =>
        clear HT HU BL
        obtain ⟨k, hk, rfl, hT, hU, hbel⟩ := hrel
        by_cases hlt : k < 48
        · have hl := sw_len bg k
          have HU := Lib.hid hU
          have HT := Lib.hid hT
          have BL := Lib.hid hbel
          have HL := Lib.hid hl
          have x1 := ua_cell hU (k + 1) (by rw [List.length_append, hl, zeros_len]; omega)
          have x14 := ua_cell hU (k + 14) (by rw [List.length_append, hl, zeros_len]; omega)
          rw [getD_pad _ _ _ (by omega)] at x1 x14
          have E : Hid (nxt (sw bg k) (16 + k) = ((sw bg k).getD k 0 + sg0 ((sw bg k).getD (k + 1) 0) + (sw bg k).getD (k + 9) 0 + sg1 ((sw bg k).getD (k + 14) 0)) % 4294967296) := by
            show _ = _
            unfold nxt
            rw [show 16 + k - 16 = k by omega, show 16 + k - 15 = k + 1 by omega, show 16 + k - 7 = k + 9 by omega, show 16 + k - 2 = k + 14 by omega]
          generalize (sw bg k).getD (k + 1) 0 = a1 at *
          generalize (sw bg k).getD (k + 14) 0 = a14 at *
          clear hU hT hbel hl
          obtain ⟨i, hi⟩ : ∃ i : Nat, 16 + k = i := ⟨_, rfl⟩
          obtain ⟨k1, hk1⟩ : ∃ i : Nat, k + 1 = i := ⟨_, rfl⟩
          obtain ⟨k9, hk9⟩ : ∃ i : Nat, k + 9 = i := ⟨_, rfl⟩
          obtain ⟨k14, hk14⟩ : ∃ i : Nat, k + 14 = i := ⟨_, rfl⟩
          rw [hk1] at x1
          rw [hk14] at x14
          rw [hi]
          have e16 : (i : Int) - 16 = (k : Int) := by omega
          have e15 : (i : Int) - 15 = (k1 : Int) := by omega
          have e7 : (i : Int) - 7 = (k9 : Int) := by omega
          have e2 : (i : Int) - 2 = (k14 : Int) := by omega
          have b0 : (i : Int) < 64 := by omega
          have b1 : (k1 : Int) < 64 := by omega
          have b2 : (k9 : Int) < 64 := by omega
          have b3 : (k14 : Int) < 64 := by omega
          have b4 : (k : Int) < 64 := by omega
          have wk : IntKind.i64.wrap (k : Int) = (k : Int) := by rw [IntKind.wrap_i64]; omega
          have w9 : IntKind.i64.wrap (k9 : Int) = (k9 : Int) := by rw [IntKind.wrap_i64]; omega
          have HI : Hid (16 + k = i) := hi
          have H9 : Hid (k + 9 = k9) := hk9
          clear hk1 hk9 hk14 hi
          go_wp2_with fail
          go_quiet (fail)
          generalize hq : wr.drewN _ = wq
          have U1 : UA wq (S + 1) 157 (sw bg k ++ zeros (48 - k)) := by rw [← hq]; exact HU.out
          have T1 : UA wq S 157 (zeros 64) := by rw [← hq]; exact HT.out
          have L1 : Below S w wq := by rw [← hq]; exact below_drewN BL.out _
          have c0 : wq.drew.cell? _ = _ := ua_cell U1 i (by rw [List.length_append, HL.out, zeros_len]; omega)
          have f0 : wq.drew.frozen? _ = _ := free_of U1 i
          have x0 := ua_cell U1 k (by rw [List.length_append, HL.out, zeros_len]; omega)
          have x9 := ua_cell U1 (k + 9) (by rw [List.length_append, HL.out, zeros_len]; omega)
          rw [getD_pad _ _ _ (by rw [HL.out]; omega)] at x0 x9
          have E := E.out
          rw [H9.out] at x9 E
          generalize (sw bg k).getD k 0 = a0 at *
          generalize (sw bg k).getD k9 0 = a9 at *
          have N1 : Hid (UA (wq.drew.setCell ⟨S + 1, i, none⟩ (.int .u32 (nxt (sw bg k) (16 + k)))) (S + 1) 157 (sw bg (k + 1) ++ zeros (48 - (k + 1)))) := by
            have := ua_set (w := wq.drew) U1 i (nxt (sw bg k) (16 + k))
            rw [← HI.out, show 48 - k = 64 - (16 + k) by omega, set_pad _ 64 (16 + k) _ HL.out (by omega)] at this
            show UA _ _ _ _
            rw [← HI.out, sw, show 48 - (k + 1) = 64 - (16 + k + 1) by omega]
            exact this
          have N2 : Hid (UA (wq.drew.setCell ⟨S + 1, i, none⟩ (.int .u32 (nxt (sw bg k) (16 + k)))) S 157 (zeros 64)) := heap_else _ _ (by omega) T1
          have N3 : Hid (Below S w (wq.drew.setCell ⟨S + 1, i, none⟩ (.int .u32 (nxt (sw bg k) (16 + k))))) := L1.drew.setCell (by show S ≤ S + 1; omega) _
          rw [E] at N1 N2 N3
          clear U1 T1 L1 hq E
          go_wp2_with (go_at_call 129; refine (r39 _ _ _ (by decide)).mono ?_; rintro e w' ⟨rfl, rfl⟩)
          go_still_tail 15, (by kernel_rfl)
          change wpList _ _ _ _ _ wq.drew
          generalize wq.drew = wp at *
          go_wp2
          go_roundw
          case rel => exact ⟨k + 1, by omega, by have := HI.out; go_num, N2.out, N1.out, N3.out⟩
          case measure => simp [intOf]; omega
        · obtain rfl : k = 48 := by omega
          have HU := Lib.hid hU
          have HT := Lib.hid hT
          have BL := Lib.hid hbel
          have U2 : wr.heap[S + 1]? = some (.cells (ua (sw bg 48)) 157 (0, 0)) := by
            have : UA wr (S + 1) 157 (sw bg 48 ++ zeros 0) := hU
            rw [show sw bg 48 ++ zeros 0 = sw bg 48 by simp [zeros]] at this
            exact this
          have HU2 := Lib.hid U2
          clear hU hT hbel U2
          have h64 : (ua (sw bg 48)).size = 64 := by rw [ua_size, sw_len]
          have H64 := Lib.hid h64
          clear h64
          go_wp2_with (first
            | (refine wpList_load_row rfl 157 (.tmp 3) rfl (S + 1) rfl 157 (ua (sw bg 48)) (0, 0) _ HU2.out Tryz.underlying157 rfl (sz s55 H64.out) ?_)
            | (refine wpList_store_rowTo rfl 157 (.tmp 2) (.tmp 88) rfl rfl S (ua (sw bg 48)) rfl rfl 157 (ua (zeros 64)) HT.out (sz s55 H64.out) (by rw [H64.out, ua_size]; rfl) (ua_one _) ?_))
          refine bodyPost_ret (v := .agg (ua (sw bg 48))) (results_cell_row rfl _ _ S 157 _ (0, 0) _ rfl (setRow_heap _ _ _ _ _ _ HT.out) Tryz.underlying157 rfl (sz s55 H64.out)) rfl ⟨rfl, ?_⟩
          rw [hS]
          exact below_setRow BL.out (Nat.le_refl _) _
end Go.Proofs.YtffaddefnpkcgaaGreatDoor
/-
  mix: a chunk is mixed in.
-/
namespace Go.Proofs.YtffaddefnpkcgaaGreatDoor
open Go.RowKit
structure S8 where
  a : Int
  b : Int
  c : Int
  d : Int
  e : Int
  f : Int
  g : Int
  h : Int
def S8.l (s : S8) : List Int := [s.a, s.b, s.c, s.d, s.e, s.f, s.g, s.h]
def bs1 (e : Int) : Int := bits .xor .u32 (bits .xor .u32 (rt e 6) (rt e 11)) (rt e 25)
def bs0 (e : Int) : Int := bits .xor .u32 (bits .xor .u32 (rt e 2) (rt e 13)) (rt e 22)
def ch (e f g : Int) : Int := bits .xor .u32 (bits .and .u32 e f) (bits .and .u32 (bits .xor .u32 IntKind.u32.max e) g)
def maj (a b c : Int) : Int := bits .xor .u32 (bits .xor .u32 (bits .and .u32 a b) (bits .and .u32 a c)) (bits .and .u32 b c)
def t1 (s : S8) (k w : Int) : Int := (s.h + bs1 s.e + ch s.e s.f s.g + k + w) % 4294967296
def t2 (s : S8) : Int := (bs0 s.a + maj s.a s.b s.c) % 4294967296
def S8.step (s : S8) (k w : Int) : S8 := ⟨(t1 s k w + t2 s) % 4294967296, s.a, s.b, s.c, (s.d + t1 s k w) % 4294967296, s.e, s.f, s.g⟩
def S8.run (s : S8) (ws : List Int) : Nat → S8
  | 0 => s
  | j + 1 => (s.run ws j).step (kk.getD j 0) (ws.getD j 0)
def S8.add (s r : S8) : S8 := ⟨(s.a + r.a) % 4294967296, (s.b + r.b) % 4294967296, (s.c + r.c) % 4294967296, (s.d + r.d) % 4294967296, (s.e + r.e) % 4294967296, (s.f + r.f) % 4294967296, (s.g + r.g) % 4294967296, (s.h + r.h) % 4294967296⟩
def mixd (xs ys : List Int) (k : Nat) : List Int := (List.range 8).map fun i => if i < k then (xs.getD i 0 + ys.getD i 0) % 4294967296 else xs.getD i 0
theorem mixd_len (xs ys : List Int) (k : Nat) : (mixd xs ys k).length = 8 := by simp [mixd]
theorem mixd_get (xs ys : List Int) (k : Nat) (h : k < 8) : (mixd xs ys k).getD k 0 = xs.getD k 0 := by
  simp [mixd, List.getD, h]
theorem mixd_set (xs ys : List Int) (k : Nat) : (mixd xs ys k).set k ((xs.getD k 0 + ys.getD k 0) % 4294967296) = mixd xs ys (k + 1) := by
  apply List.ext_getElem
  · simp [mixd]
  · intro i h1 h2
    simp only [List.length_set, mixd_len] at h1
    rw [List.getElem_set]
    simp only [mixd, List.getElem_map, List.getElem_range]
    by_cases e : k = i
    · subst e; simp
    · rw [if_neg e]
      by_cases e2 : i < k
      · rw [if_pos e2, if_pos (by omega)]
      · rw [if_neg e2, if_neg (by omega)]
theorem mixd_all (s r : S8) : mixd s.l r.l 8 = (s.add r).l := rfl
theorem mixd_none (s r : S8) : mixd s.l r.l 0 = s.l := rfl
def comp (s : S8) (bg : List Int) : S8 := s.add (s.run (sw bg 48) 64)
def Keys (w : World) : Prop := ∀ i, i < 64 → w.cell? ⟨0, i, none⟩ = some (.int .u32 (kk.getD i 0))
theorem keys_below {w W : World} {B : Nat} (h : Keys w) (hb : Below B w W) (hB : 0 < B) : Keys W := fun i hi => by rw [hb.cell (p := ⟨0, i, none⟩) hB]; exact h i hi
theorem q39 (x k : Int) (w : World) (h : okR k = true) : Calls Tryz.prog 129 #[.int .u32 x, .int .i64 k] w fun e w' => e = .returned (.int .u32 (rt x k)) ∧ w' = w := (r39 x k w h).mono fun _ _ h => ⟨h.1, h.2.symm⟩
theorem c43 : (Tryz.prog.info? 148).map (·.size) = some 1 := by kernel_rfl
theorem run_index_ua (t n : Nat) (ht : Tryz.prog.underlying t = some (.array n 148)) (xs : List Int) (j : Nat) (w : World) (hl : xs.length = n) (hj : j < n) :
    (Instr.index t (.agg (ua xs)) (.int .i64 j)).run Tryz.prog w = .ok (.int .u32 (xs.getD j 0)) w := by
  have hu : Tryz.prog.underlying 148 = some (.int .u32) := by kernel_rfl
  have hq := c43
  cases hi : Tryz.prog.info? 148 with
  | none => rw [hi] at hq; cases hq
  | some i =>
    have hs : i.size = 1 := by rw [hi] at hq; simpa using hq
    simp only [Instr.index, asIntOf, Sem.run_bind, Sem.run_pure, Result.andThen_ok, run_underlying ht]
    rw [if_pos (by omega)]
    simp [part, sizeOf, typeInfo, hi, hs, isAgg, run_underlying hu, ua, uvals, List.getD, hl, hj]
theorem S8.run0 (s : S8) (ws : List Int) : s.run ws 0 = s := rfl
theorem S8.run1 (s : S8) (ws : List Int) (j : Nat) : s.run ws (j + 1) = (s.run ws j).step (kk.getD j 0) (ws.getD j 0) := rfl
theorem ua_l (r : S8) : ua r.l = #[.int .u32 r.a, .int .u32 r.b, .int .u32 r.c, .int .u32 r.d, .int .u32 r.e, .int .u32 r.f, .int .u32 r.g, .int .u32 r.h] := rfl
attribute [local irreducible] ua da ba kk sw S8.run rt
set_option maxRecDepth 100000 in
set_option maxHeartbeats 800000 in
theorem c33 (b : Nat) (s : S8) (bg : List Int) (n : Int) (w : World) (hb : bg.length = 64) (h : DA w b s.l bg n) (hk : Keys w) (hb0 : 0 < b) :
    Calls Tryz.prog 116 #[.pointer (some ⟨b, 0, none⟩)] w fun e w' => e = .returned (.tuple #[]) ∧ DA w' b (comp s bg).l bg n ∧ Keys w' ∧ Below b w w' ∧ (∀ k, k < w.heap.size → k ≠ b → w'.heap[k]? = w.heap[k]?) := by
  have h1 := z55
  have HD := Lib.hid h
  have HB := Lib.hid hb
  have HK := Lib.hid hk
  have LT : Hid (b < w.heap.size) := lt_of_block h
  have L0 : Hid (0 < b) := hb0
  have C := Lib.hid (c38 b s.l bg n w rfl hb h)
  clear h hb hk hb0
  obtain ⟨ws, hws⟩ : ∃ ws, sw bg 48 = ws := ⟨_, rfl⟩
  have hwl : ws.length = 64 := by rw [← hws, sw_len]
  rw [hws] at C
  have HWS := Lib.hid hws
  have HWL := Lib.hid hwl
  clear hws hwl
  go_enter Tryz.func116, Tryz.ntmps116
  go_wp2_with (first
    | (go_at_call 128; refine C.out.mono ?_; rintro e w1 ⟨rfl, hb1⟩; have B1 := Lib.hid hb1; clear hb1)
    | (refine wpList_store_rowTo rfl 157 (.tmp 2) (.tmp 18) rfl rfl w1.heap.size (ua ws) rfl rfl 157 (ua (zeros 64)) (heap_alloc_last w1 _) (sz s55 (by rw [ua_size, HWL.out])) (by rw [ua_size, ua_size, HWL.out]; rfl) (ua_one _) ?_; rw [World.setRow_alloc_new]))
  have LQ : Hid (w.heap.size ≤ w1.heap.size) := B1.out.size
  generalize hq : w1.alloc (Obj.cells (ua ws) 157) = wq
  have B2 : Hid (Below w.heap.size w wq) := by rw [← hq]; exact B1.out.alloc B1.out.size _
  have U2 : Hid (UA wq w1.heap.size 157 ws) := by rw [← hq]; exact heap_alloc_last w1 _
  have D2 : Hid (DA wq b s.l bg n) := (B2.out.block b LT.out).trans HD.out
  clear hq
  generalize w1.heap.size = q at *
  have x0 : wq.cell? _ = some (.int .u32 s.a) := da_mx D2.out rfl 0 (by decide)
  have x1 : wq.cell? _ = some (.int .u32 s.b) := da_mx D2.out rfl 1 (by decide)
  have x2 : wq.cell? _ = some (.int .u32 s.c) := da_mx D2.out rfl 2 (by decide)
  have x3 : wq.cell? _ = some (.int .u32 s.d) := da_mx D2.out rfl 3 (by decide)
  go_wp2_with fail
  go_quiet (fail)
  clear x0 x1 x2 x3
  generalize hq : wq.drewN _ = wq2
  have B3 : Hid (Below w.heap.size w wq2) := by rw [← hq]; exact below_drewN B2.out _
  have U3 : Hid (UA wq2 q 157 ws) := by rw [← hq]; exact U2.out
  have D3 : Hid (DA wq2 b s.l bg n) := by rw [← hq]; exact D2.out
  clear hq
  have x0 : wq2.cell? _ = some (.int .u32 s.e) := da_mx D3.out rfl 4 (by decide)
  have x1 : wq2.cell? _ = some (.int .u32 s.f) := da_mx D3.out rfl 5 (by decide)
  have x2 : wq2.cell? _ = some (.int .u32 s.g) := da_mx D3.out rfl 6 (by decide)
  have x3 : wq2.cell? _ = some (.int .u32 s.h) := da_mx D3.out rfl 7 (by decide)
  go_wp2_with fail
  go_quiet (fail)
  clear x0 x1 x2 x3
  generalize hq : wq2.drewN _ = wq3
  have B4 : Hid (Below w.heap.size w wq3) := by rw [← hq]; exact below_drewN B3.out _
  have U4 : Hid (UA wq3 q 157 ws) := by rw [← hq]; exact U3.out
  have D4 : Hid (DA wq3 b s.l bg n) := by rw [← hq]; exact D3.out
  have K4 : Hid (Keys wq3) := keys_below HK.out B4.out (Nat.lt_of_lt_of_le L0.out (Nat.le_of_lt LT.out))
  clear hq
  go_wp2_with (refine wpList_load_row rfl 157 (.tmp 2) rfl q rfl 157 (ua ws) (0, 0) _ U4.out Tryz.underlying157 rfl (sz s55 (by rw [ua_size, HWL.out])) ?_)
  clear U2 D2 B2 U3 D3 B3 U4
  go_loopw [60, 11, 12, 13, 14, 3, 4, 5, 6, 7, 8, 9, 10] (fun i _ _ _ _ va vb vc vd ve vf vg vh wr => ∃ (j : Nat) (r : S8), j ≤ 64 ∧ i = .int .i64 j ∧ r = s.run ws j ∧ va = .int .u32 r.a ∧ vb = .int .u32 r.b ∧ vc = .int .u32 r.c ∧ vd = .int .u32 r.d ∧ ve = .int .u32 r.e ∧ vf = .int .u32 r.f ∧ vg = .int .u32 r.g ∧ vh = .int .u32 r.h ∧ DA wr b s.l bg n ∧ Keys wr ∧ Below w.heap.size w wr) (fun i _ _ _ _ _ _ _ _ _ _ _ _ _ => 64 - (intOf i).toNat)
  case atStart => exact ⟨0, s, by omega, rfl, (S8.run0 s ws).symm, rfl, rfl, rfl, rfl, rfl, rfl, rfl, rfl, D4.out, K4.out, B4.out⟩
  case round =>
    clear D4 K4 B4
    obtain ⟨j, r, hj, rfl, hr, rfl, rfl, rfl, rfl, rfl, rfl, rfl, rfl, hD, hK, hbel⟩ := hrel
    by_cases hlt : j < 64
    · have y0 := hK j hlt
      have hix : ∀ w, (Instr.index 157 (.agg (ua ws)) (.int .i64 j)).run Tryz.prog w = .ok (.int .u32 (ws.getD j 0)) w := fun w => run_index_ua 157 64 Tryz.underlying157 ws j w HWL.out hlt
      generalize hkj : kk.getD j 0 = kj at *
      generalize hwj : ws.getD j 0 = wj at *
      have HKJ := Lib.hid hkj
      have HWJ := Lib.hid hwj
      clear hkj hwj
      have DD := Lib.hid hD
      have KK := Lib.hid hK
      have BB := Lib.hid hbel
      have HR := Lib.hid hr
      clear hD hK hbel hr
      obtain ⟨V, hV⟩ : ∃ V, t2 r = V := ⟨_, rfl⟩
      have HVV := Lib.hid hV
      simp only [t2, bs0, maj] at hV
      go_wp2_with fail
      go_quiet (first | (go_at_call 129; refine Calls.quiet_of_same (q39 _ _ _ (by decide))))
      generalize hq : wr.drewN _ = wr2
      have K2 : Hid (Keys wr2) := by rw [← hq]; exact KK.out
      have D2 : Hid (DA wr2 b s.l bg n) := by rw [← hq]; exact DD.out
      have B2 : Hid (Below w.heap.size w wr2) := by rw [← hq]; exact below_drewN BB.out _
      clear hq
      go_wp2_with (go_at_call 129; refine (r39 _ _ _ (by decide)).mono ?_; rintro e w' ⟨rfl, rfl⟩)
      go_roundw
      case rel =>
        have e1 : s.run ws (j + 1) = r.step kj wj := by rw [S8.run1, HKJ.out, HWJ.out, HR.out]
        refine ⟨j + 1, r.step kj wj, by omega, by go_num, e1.symm, ?_, rfl, rfl, rfl, ?_, rfl, rfl, rfl, D2.out, K2.out, B2.out⟩
        · show _ = Value.int .u32 ((t1 r kj wj + t2 r) % 4294967296)
          rw [HVV.out]
          rfl
        · rfl
      case measure => simp [intOf]; omega
    · have HR := Lib.hid hr
      have hj64 : j = 64 := by omega
      have HJ := Lib.hid hj64
      have hn : ¬ (j : Int) < 64 := by omega
      have DD := Lib.hid hD
      have KK := Lib.hid hK
      have BB := Lib.hid hbel
      clear hr hj64 hD hK hbel hlt hj h1
      generalize (j : Int) = z64 at *
      go_wp2_with fail
      go_loopw [131, 15, 16] (fun i _ _ wr => ∃ j : Nat, j ≤ 8 ∧ i = .int .i64 j ∧ DA wr b (mixd s.l r.l j) bg n ∧ Keys wr ∧ Below b w wr ∧ (∀ k, k < w.heap.size → k ≠ b → wr.heap[k]? = w.heap[k]?)) (fun i _ _ _ => 8 - (intOf i).toNat)
      case atStart => exact ⟨0, by omega, rfl, DD.out, KK.out, BB.out.mono (Nat.le_of_lt LT.out), fun k hk _ => BB.out.block k hk⟩
      case round =>
        clear DD KK BB
        obtain ⟨j, hj, rfl, hD, hK, hbel, hoth⟩ := hrel
        by_cases hlt : j < 8
        · have hix : ∀ w, (Instr.index 149 (.agg (ua r.l)) (.int .i64 j)).run Tryz.prog w = .ok (.int .u32 (r.l.getD j 0)) w := fun w => run_index_ua 149 8 Tryz.underlying149 r.l j w rfl hlt
          rw [ua_l] at hix
          have x0 := da_mx hD (mixd_len _ _ _) j hlt
          have f0 : wr.drew.frozen? ⟨b, j, none⟩ = false := free_of hD j
          have x1 : wr.drew.cell? ⟨b, j, none⟩ = _ := x0
          rw [mixd_get _ _ _ hlt] at x0 x1
          have N1 : Hid (DA (wr.drew.setCell ⟨b, j, none⟩ (.int .u32 ((s.l.getD j 0 + r.l.getD j 0) % 4294967296))) b (mixd s.l r.l (j + 1)) bg n) := by
            have := da_set_mx (w := wr.drew) hD (mixd_len _ _ _) j hlt ((s.l.getD j 0 + r.l.getD j 0) % 4294967296)
            rw [mixd_set] at this
            exact this
          have N2 : Hid (Below b w (wr.drew.setCell ⟨b, j, none⟩ (.int .u32 ((s.l.getD j 0 + r.l.getD j 0) % 4294967296)))) := hbel.drew.setCell (Nat.le_refl _) _
          have N3 : Hid (Keys (wr.drew.setCell ⟨b, j, none⟩ (.int .u32 ((s.l.getD j 0 + r.l.getD j 0) % 4294967296)))) := keys_below hK ((Below.refl b wr).drew.setCell (Nat.le_refl _) _) L0.out
          have N4 : Hid (∀ k, k < w.heap.size → k ≠ b → (wr.drew.setCell ⟨b, j, none⟩ (.int .u32 ((s.l.getD j 0 + r.l.getD j 0) % 4294967296))).heap[k]? = w.heap[k]?) := fun k hk hne => heap_else j _ hne (hoth k hk hne)
          have q1 : (j : Int) < 8 := by omega
          clear hD hK hbel hoth
          generalize s.l.getD j 0 = sj at *
          generalize r.l.getD j 0 = rj at *
          go_wp2_with fail
          go_still_tail 11, (by kernel_rfl)
          change wpList _ _ _ _ _ wr.drew
          generalize wr.drew = wp at *
          go_wp2
          go_roundw
          case rel => exact ⟨j + 1, by omega, by go_num, N1.out, N3.out, N2.out, N4.out⟩
          case measure => simp [intOf]; omega
        · obtain rfl : j = 8 := by omega
          have hDD : DA wr b (comp s bg).l bg n := by
            rw [mixd_all] at hD
            unfold comp
            rw [HWS.out, ← HJ.out, ← HR.out]
            exact hD
          have HDD := Lib.hid hDD
          have HKK := Lib.hid hK
          have HBB := Lib.hid hbel
          have HOO := Lib.hid hoth
          clear hD hK hbel hoth hDD
          go_wp2
          go_end0
          exact ⟨rfl, HDD.out, HKK.out, HBB.out, HOO.out⟩
end Go.Proofs.YtffaddefnpkcgaaGreatDoor

