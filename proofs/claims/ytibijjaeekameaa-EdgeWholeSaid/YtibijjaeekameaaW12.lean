/-
  The walk of EdgeWhole.
-/
import Derived.Test.YtibijjaeekameaaW11
import Derived.LoopTactic
namespace Go.Proofs.Ytibijjaeekameaa
open Go.RowKit
open Fl

def gl (z : Int) : Nat := near (z.toNat + 1)
theorem gl_work {z : Int} (h0 : 0 ≤ z) (h : z ≤ 65535) : workZ (gl z) = z + 1 ∧ fineB (gl z) = true ∧ gl z < 2 ^ 64 ∧ floatOfInt .f64 (1 + z) = gl z := by
  obtain ⟨a, b⟩ := work_near (n := z.toNat + 1) (by omega) (by omega)
  refine ⟨by rw [gl, a]; omega, b, near_lt64 (small53 (by omega)), ?_⟩
  rw [floatOf_in (n := 1 + z) (by omega)]
  unfold gl
  congr 1
  omega

theorem wpList_app {P : Program} {w : World} {ops : Array Oper} {rest : List Oper} {o : Oper} {a : Act} {Q : Exit → Act → World → Prop} (hgd : o.guard = none) (s x : Operand) (t : TypeId)
    (ho : o.op = .call { callee := .builtin .append, args := #[s, x], argTypes := #[t, t] })
    (i : TypeInfo) (ht : P.underlying t = some (.slice 23)) (hi : P.info? 23 = some i) (hz : i.zero = some (.float .f64 0)) (hsize : i.size = 1) (hby : i.bytes = 8)
    (base n : Nat) (v : Value) (xs : List Nat) (hv : a.eval s = v) (hown : w.ownsRow base 23 1 v n (fvals xs)) (A : Option Addr) (m c : Nat) (ys : List Nat) (hx : a.eval x = .slice A m c) (hs : Src w A m ys) (hc : A = none → c = 0)
    (h63 : n + m ≤ maxLen) (hbytes : (n + m) * 8 ≤ 140737488355328) (hbase : base ≤ w.heap.size)
    (h : ∀ A' c' w', w'.ownsRow base 23 1 (.slice A' (n + m) c') (n + m) (fvals (xs ++ ys)) → w.grownBy w' v.ownBlock → wpList P ops Q rest (a.put o.dst (.slice A' (n + m) c')) w') : wpList P ops Q (o :: rest) a w := by
  refine wpList_plain hgd fun K hK => ?_
  obtain ⟨v', w', hr, h2, h3, _⟩ := run_app (P := P) w t o.type i ht hi hz hsize hby base n v xs hown A m c ys hs hc h63 hbytes hbase
  unfold Oper.wp execOp
  simp only [ho, resolve, invoke, builtin, Sem.run_bind, Sem.run_pure, Result.andThen_ok, List.map_toArray, List.map_cons, List.map_nil, hv, hx, hr]
  obtain ⟨A', c', rfl, _, _⟩ := own_row h2
  exact hK _ _ (h A' c' w' h2 h3)

theorem src_one (w : World) (x : Nat) : Src (w.alloc (Obj.cells #[.float .f64 x] 23)) (some ⟨w.heap.size, 0, none⟩) 1 [x] := by
  refine ⟨rfl, .inr ⟨w.heap.size, 0, rfl, fun i hi => ?_⟩⟩
  obtain rfl : i = 0 := by omega
  simp [go_sem]
def negB (b : Nat) : Nat := b ^^^ 2 ^ 63
set_option maxRecDepth 100000 in
set_option maxHeartbeats 2000000 in
theorem walkWhole (n0 : Int) (m : Nat) (b off len cap : Nat) (zs : Nat → Int) (w : World) (hm : n0 % 1048576 = m) (hn0 : 0 ≤ n0) (hn1 : n0 < 4294967296) (hl : len ≤ 400) (hcap : len ≤ cap) (hcm : cap ≤ 9223372036854775807)
    (hz : ∀ i, i < len → 0 ≤ zs i ∧ zs i ≤ 65535) (hcell : ∀ i, i < len → w.cell? ⟨b, off + i, none⟩ = some (.int .u16 (zs i))) :
    Calls Try.prog 7 #[.int .u32 n0, .slice (some ⟨b, off, none⟩) len cap] w fun e w' => e = .returned (.bool true) ∧ Below w.heap.size w w' := by
  have hml : m < 1048576 := by omega
  have i1 : infZ 1 = 9218868437227405312 := rfl
  have f1 := (in_yes (n := 1 + (m : Int)) (by omega)).1
  have f2 : floatZ (1 + (m : Int)) = near (m + 1) := by
    rw [(in_yes (n := 1 + (m : Int)) (by omega)).2, show (1 + (m : Int)).toNat = m + 1 by omega]
  obtain ⟨f3, f4⟩ := work_near (n := m + 1) (by omega) (by omega)
  have f3' : workZ (near (m + 1)) = 1 + (m : Int) := by rw [f3]; omega
  have f5 := (work_no (above_none (n := m + 1) (by omega))).2
  have f6 := (work_no (below_none (n := m + 1) (by omega) (by omega))).2
  have f7 := (work_no (b := negB (near (m + 1))) (by unfold negB; rw [neg_none (by omega) (by omega)]; decide)).2
  have l1 := near_63 (n := m + 1) (small53 (by omega))
  have l64 : (2 : Nat) ^ 63 < 2 ^ 64 := by decide
  have L1 : Hid (near (m + 1) < 2 ^ 64) := Nat.lt_trans l1 l64
  have L2 : Hid (near (m + 1) + 1 < 2 ^ 64) := by show near (m + 1) + 1 < 2 ^ 64; omega
  have L3 : Hid (near (m + 1) - 1 < 2 ^ 64) := by show near (m + 1) - 1 < 2 ^ 64; omega
  have L4 : Hid (negB (near (m + 1)) < 2 ^ 64) := Nat.xor_lt_two_pow L1.out l64
  have hneg : ∀ w, Sem.run Try.prog (Op.unary UnOp.neg (.float .f64 (near (m + 1)))) w = .ok (.float .f64 (negB (near (m + 1)))) w := fun _ => rfl
  have HZ := Lib.hid hz
  have HC := Lib.hid hcell
  have M1 := Lib.hid hml
  clear f3 l1 l64 hz hcell
  go_enter Try.func7, Try.ntmps7
  go_wp2_with (first | (go_at_call 9; refine (c9 _).mono ?_; rintro e w' ⟨rfl, rfl⟩) | (go_at_call 16; refine (c16 _ _).mono ?_; rintro e w' ⟨rfl, rfl⟩) | (go_at_call 11; refine (c11 _ _).mono ?_; rintro e w' ⟨rfl, rfl⟩) | (go_at_call 12; refine (c12 _ _ (by first | with_reducible exact L1.out | with_reducible exact L2.out | with_reducible exact L3.out | with_reducible exact L4.out)).mono ?_; rintro e w' ⟨rfl, rfl⟩) | (go_at_call_of 26 (Value.float .f64 9218868437227405312); refine (c26u (m + 1) _ (by omega) (by have := M1.out; omega)).mono ?_; rintro e w' ⟨rfl, rfl⟩) | (go_at_call_of 26 (Value.float .f64 0); refine (c26d (m + 1) _ (by omega) (by have := M1.out; omega)).mono ?_; rintro e w' ⟨rfl, rfl⟩))
  obtain ⟨i0, hi, hz0, hz1, hz2⟩ := info_parts info23
  have HI := Lib.hid hi
  have HI0 := Lib.hid hz0
  have HI1 := Lib.hid hz1
  have HI2 := Lib.hid hz2
  clear hi hz0 hz1 hz2
  have yl : ∃ ys : List Nat, ys.length = len ∧ ∀ i, i < len → ys.getD i 0 = gl (zs i) := ⟨(List.range len).map fun i => gl (zs i), by simp, fun i hi => by simp [List.getD, hi]⟩
  obtain ⟨ys, hyl, hy⟩ := yl
  have YL := Lib.hid hyl
  have HY := Lib.hid hy
  clear hyl hy
  go_loopw [16, 17, 18] (fun s v i wr => ∃ (k : Nat) (A : Option Addr) (c : Nat), k ≤ len ∧ i = .int .i64 k ∧ s = .int .i64 (wsum (ys.take k)) ∧ v = .slice A k c ∧ allFine (ys.take k) = true ∧ wr.ownsRow w.heap.size 23 1 (.slice A k c) k (fvals (ys.take k)) ∧ Below w.heap.size w wr) (fun _ _ i _ => len - (intOf i).toNat)
  case atStart => exact ⟨0, none, 0, Nat.zero_le _, rfl, rfl, rfl, rfl, ⟨rfl, .inl ⟨rfl, rfl⟩⟩, Below.refl _ _⟩
  case round =>
    obtain ⟨k, A, c, hk, rfl, rfl, rfl, hf, hown, hbel⟩ := hrel
    have HF := Lib.hid hf
    clear hf
    by_cases hlt : k < len
    · have hcell := HC.out k hlt
      have hb := World.block_lt_of_cell? w _ hcell
      have hx : wr.cell? ⟨b, off + k, none⟩ = some (.int .u16 (zs k)) := (hbel.cell (p := ⟨b, off + k, none⟩) hb).trans hcell
      obtain ⟨z0, z1⟩ := HZ.out k hlt
      obtain ⟨g1, g2, g3, g4⟩ := gl_work z0 z1
      have hkl : k < ys.length := by rw [YL.out]; exact hlt
      have WT := Lib.hid (wsum_take ys k hkl)
      have FT := Lib.hid (fine_take ys k hkl)
      have TT := Lib.hid (take_succ' ys k hkl)
      rw [HY.out k hlt] at WT FT TT
      have G1 := Lib.hid g1
      have G2 := Lib.hid g2
      have b1 := wsum_bd (ys.take k)
      have b3 : ((ys.take k).length : Int) ≤ k := by rw [List.length_take]; omega
      obtain ⟨b1a, b1b⟩ := b1
      have b4 : wsum (ys.take k) ≤ 1048576 * 400 := by omega
      have OW := Lib.hid hown
      have BL := Lib.hid hbel
      have HB := Lib.hid hb
      clear b1b b3 g1 g2 g3 hcell hb hkl hown hbel
      go_wp2_with (at_builtin; refine wpList_app rfl (.tmp 73) (.tmp 81) 33 rfl i0 Try.underlying33 HI.out HI0.out HI1.out HI2.out w.heap.size k (.slice A k c) (ys.take k) rfl (OW.out.alloc _) (some ⟨wr.heap.size, 0, none⟩) 1 1 [gl (zs k)] rfl (src_one wr (gl (zs k))) (fun h => by cases h) (by unfold maxLen; omega) (by omega) (by have := BL.out.size; simp; omega) ?_; intro A2 cc2 w2 hown2 hg2)
      have b5 : Below w.heap.size w w2 := (BL.out.alloc BL.out.size _).grown hg2 (by have := BL.out.size; simp; omega) (own_base OW.out)
      go_roundw
      case rel => exact ⟨k + 1, A2, cc2, by omega, by go_num, by rw [WT.out, G1.out, Int.add_assoc, Int.add_comm 1 (zs k)], rfl, by rw [FT.out, HF.out, G2.out]; rfl, by rw [TT.out]; exact hown2, b5⟩
      case measure => simp [intOf]; omega
    · have hkl : k = len := by omega
      have ht : ys.take k = ys := List.take_of_length_le (by rw [YL.out]; omega)
      have hrow : Row wr A (ys.take k) ∧ (ys.take k).length = k := by
        obtain ⟨A', c', e, h1, h2⟩ := own_row hown
        simp only [Value.slice.injEq] at e
        obtain ⟨rfl, _, _⟩ := e
        exact ⟨h1, h2⟩
      have hall : ∀ x ∈ ys.take k, x < 2 ^ 64 := by
        intro x hx
        rw [ht] at hx
        obtain ⟨j, hj, rfl⟩ := List.getElem_of_mem hx
        have hj' : j < len := by rw [← YL.out]; exact hj
        have e1 := getD_at ys j hj
        rw [HY.out j hj'] at e1
        rw [← e1]
        obtain ⟨z0, z1⟩ := HZ.out j hj'
        exact (gl_work z0 z1).2.2.1
      have s12 := sum_fine (xs := ys.take k) (by rw [hrow.2]; omega) HF.out
      have RW := Lib.hid hrow
      have HA := Lib.hid hall
      have BL := Lib.hid hbel
      obtain ⟨s1, s2⟩ := s12
      clear hown hrow hall ht hkl hbel
      go_wp2_with (go_at_call 19; refine (c19 A k c (ys.take k) _ RW.out.2 (by omega) HA.out RW.out.1).mono ?_; rintro e w' ⟨rfl, rfl⟩)
      go_ret
      exact ⟨rfl, BL.out⟩
end Go.Proofs.Ytibijjaeekameaa
