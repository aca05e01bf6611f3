/-
  The walk of WireReads.
-/
import Derived.Test.YtjkhbddnbpnmcaaW25
namespace Go.Proofs.Ytjkhbddnbpnmcaa
open Go.RowKit

/-- the world in which Read is called: the three boxes lie in it -/
structure Pre (w wd : World) (Db : Nat) (A1 : Option Addr) (LK c1 : Nat) (bad : Bool) : Prop where
  below : Below w.heap.size w wd
  k : wd.heap[w.heap.size]? = some (.cells #[.slice A1 LK c1] 25 (0, 0))
  x : wd.heap[w.heap.size + 1]? = some (.cells #[.bool bad] 4 (0, 0))
  d : wd.heap[Db]? = some (.cells #[.int .i64 0] 3 (0, 0))
  lt : w.heap.size + 1 < Db
theorem pre_call {w wd : World} {Db : Nat} {A1 : Option Addr} {LK c1 g : Nat} {bad : Bool} {bs ks : List Int} (h : Pre w wd Db A1 LK c1 bad) (hm : LK ≤ 100) (hs : Src w A1 LK ks) (hby : Byt ks) (ht : Trc bs ks LK g)
    (Rb : Nat) (wr : World) (hr : Rdr wr Rb bs) (hge : wd.heap.size ≤ Rb) (hbel : Below wd.heap.size wd wr) :
    Calls Try.prog 19 (#[.pointer (some ⟨Rb, 0, none⟩)] ++ #[.pointer (some ⟨w.heap.size, 0, none⟩), .pointer (some ⟨Db, 0, none⟩), .pointer (some ⟨w.heap.size + 1, 0, none⟩)]) wr fun e w' => EndR LK g bad e ∧ (g < LK ∨ Rdr w' Rb (bs.drop (posF bs ks LK))) ∧ St Rb Db wr w' ∧ w'.heap[Db]? = some (.cells #[.int .i64 g] 3 (0, 0)) := by
  have l1 := lt_of_block h.k
  have l2 := lt_of_block h.x
  have l3 := lt_of_block h.d
  have l4 := h.lt
  refine c19 w wr Rb w.heap.size Db (w.heap.size + 1) A1 LK c1 g bs ks bad hm ⟨Nat.le_refl _, by omega, by omega, by omega, by omega⟩ (by omega) (by omega) hs hby ht ⟨⟨h.below.trans (hbel.mono (by omega)), (hbel.block _ l1).trans h.k, (hbel.block _ l3).trans h.d, ?_⟩, (hbel.block _ l2).trans h.x⟩
  exact hr
/-- Read over it, by how it ends -/
theorem pre_s {w wd : World} {Db : Nat} {A0 A1 : Option Addr} {LB c0 LK c1 g : Nat} {bad : Bool} {bs ks : List Int} (h : Pre w wd Db A1 LK c1 bad) (hm : LK ≤ 100) (hs : Src w A1 LK ks) (hby : Byt ks) (ht : Trc bs ks LK g)
    (hb : Src wd A0 LB bs) (hc : A0 = none → c0 = 0) (hbb : Byt bs) (hl : LB ≤ 20000) (hg : g < LK) :
    Calls Try.prog 12 #[.slice A0 LB c0, .func (.func 19) #[] #[.pointer (some ⟨w.heap.size, 0, none⟩), .pointer (some ⟨Db, 0, none⟩), .pointer (some ⟨w.heap.size + 1, 0, none⟩)]] wd fun e w' => e = .returned (.int .i64 2) ∧ Left Db (some (.cells #[.int .i64 g] 3 (0, 0))) wd w' :=
  c12s 19 _ A0 LB c0 bs Db _ wd hb hc hbb (by omega) (lt_of_block h.d) (fun Rb w => by kernel_rfl) (fun Rb wr hr hge hbel => (pre_call h hm hs hby ht Rb wr hr hge hbel).mono fun e w' q => ⟨by have := q.1; unfold EndR at this; rwa [if_pos hg] at this, q.2.2⟩)
theorem pre_o {w wd : World} {Db : Nat} {A0 A1 : Option Addr} {LB c0 LK c1 : Nat} {bs ks : List Int} (h : Pre w wd Db A1 LK c1 true) (hm : LK ≤ 100) (hs : Src w A1 LK ks) (hby : Byt ks) (ht : Trc bs ks LK LK)
    (hb : Src wd A0 LB bs) (hc : A0 = none → c0 = 0) (hbb : Byt bs) (hl : LB ≤ 20000) :
    Calls Try.prog 12 #[.slice A0 LB c0, .func (.func 19) #[] #[.pointer (some ⟨w.heap.size, 0, none⟩), .pointer (some ⟨Db, 0, none⟩), .pointer (some ⟨w.heap.size + 1, 0, none⟩)]] wd fun e w' => e = .returned (.int .i64 4) ∧ Left Db (some (.cells #[.int .i64 LK] 3 (0, 0))) wd w' :=
  c12o 19 _ A0 LB c0 bs Db _ wd hb hc hbb (by omega) (lt_of_block h.d) (fun Rb w => by kernel_rfl) (fun Rb wr hr hge hbel => (pre_call h hm hs hby ht Rb wr hr hge hbel).mono fun e w' q => ⟨by have := q.1; unfold EndR at this; rwa [if_neg (by omega), if_pos rfl] at this, q.2.2⟩)
theorem pre_y {w wd : World} {Db : Nat} {A0 A1 : Option Addr} {LB c0 LK c1 : Nat} {bs ks : List Int} (h : Pre w wd Db A1 LK c1 false) (hm : LK ≤ 100) (hs : Src w A1 LK ks) (hby : Byt ks) (ht : Trc bs ks LK LK)
    (hb : Src wd A0 LB bs) (hc : A0 = none → c0 = 0) (hbb : Byt bs) (hl : LB ≤ 20000) :
    Calls Try.prog 12 #[.slice A0 LB c0, .func (.func 19) #[] #[.pointer (some ⟨w.heap.size, 0, none⟩), .pointer (some ⟨Db, 0, none⟩), .pointer (some ⟨w.heap.size + 1, 0, none⟩)]] wd fun e w' => e = .returned (.int .i64 (if LB ≤ posF bs ks LK then 0 else 4)) ∧ Left Db (some (.cells #[.int .i64 LK] 3 (0, 0))) wd w' := by
  have e : (if bs.drop (posF bs ks LK) = [] then (0 : Int) else 4) = if LB ≤ posF bs ks LK then 0 else 4 := by
    have hl := hb.1
    simp only [List.drop_eq_nil_iff, hl]
  rw [← e]
  exact c12y 19 _ A0 LB c0 bs (bs.drop (posF bs ks LK)) Db _ wd hb hc hbb (by omega) (lt_of_block h.d) (fun Rb w => by kernel_rfl) (fun Rb wr hr hge hbel => (pre_call h hm hs hby ht Rb wr hr hge hbel).mono fun e w' q => ⟨by have := q.1; unfold EndR at this; rwa [if_neg (by omega), if_neg (by decide)] at this, by
    rcases q.2.1 with q1 | q1
    · omega
    · exact q1, q.2.2⟩)
end Go.Proofs.Ytjkhbddnbpnmcaa
