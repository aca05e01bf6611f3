/-
  WireReads: any bytes, read as whatever: how far it comes, without Go; the function that reads.
-/
import Derived.Test.YtjkhbddnbpnmcaaW24
namespace Go.Proofs.Ytjkhbddnbpnmcaa
open Go.RowKit

def kd (ks : List Int) (i : Nat) : Int := ks.getD i 0 % 10
/-- how many bytes it takes -/
def needN (k : Int) (rest : List Int) : Nat := if k = 9 then (if 4 ≤ rest.length then 4 + (numL (rest.take 4)).toNat else 4) else k.toNat
def badRd (k : Int) (rest : List Int) : Prop := k = 0 ∨ rest.length < needN k rest
def posF (bs ks : List Int) : Nat → Nat
  | 0 => 0
  | i + 1 => posF bs ks i + needN (kd ks i) (bs.drop (posF bs ks i))
structure Trc (bs ks : List Int) (LK g : Nat) : Prop where
  ok : ∀ i, i < g → ¬ badRd (kd ks i) (bs.drop (posF bs ks i))
  gl : g ≤ LK
  bad : g < LK → badRd (kd ks g) (bs.drop (posF bs ks g))
theorem trc_some (bs ks : List Int) (LK : Nat) : ∃ g, Trc bs ks LK g := by
  induction LK with
  | zero => exact ⟨0, fun i hi => by omega, Nat.le_refl _, fun h => by omega⟩
  | succ n ih =>
    obtain ⟨g, h1, h2, h3⟩ := ih
    rcases Nat.lt_or_ge g n with h | h
    · exact ⟨g, h1, by omega, fun _ => h3 h⟩
    · obtain rfl : g = n := by omega
      by_cases hb : badRd (kd ks g) (bs.drop (posF bs ks g))
      · exact ⟨g, h1, by omega, fun _ => hb⟩
      · refine ⟨g + 1, fun i hi => ?_, Nat.le_refl _, fun h => by omega⟩
        rcases Nat.lt_or_ge i g with h' | h'
        · exact h1 i h'
        · obtain rfl : i = g := by omega
          exact hb
theorem Trc.le {bs ks : List Int} {LK g : Nat} (h : Trc bs ks LK g) : ∀ i, i ≤ g → posF bs ks i ≤ bs.length := by
  intro i
  induction i with
  | zero => intro _; exact Nat.zero_le _
  | succ i ih =>
    intro hi
    have h1 := ih (by omega)
    have h2 := h.ok i (by omega)
    unfold badRd at h2
    rw [List.length_drop] at h2
    rw [posF]
    omega
theorem posF_drop (bs ks : List Int) (i : Nat) : bs.drop (posF bs ks (i + 1)) = (bs.drop (posF bs ks i)).drop (needN (kd ks i) (bs.drop (posF bs ks i))) := by
  rw [posF, List.drop_drop]

/-- one read that goes well, for each kind -/
theorem g15 (Rb : Nat) (k : Int) (D : List Int) (w : World) (hk : k = 8) (hb : ¬ badRd k D) (h : Rdr w Rb D) :
    Calls Try.prog 15 #[.pointer (some ⟨Rb, 0, none⟩)] w fun e w' => e = .returned (hval (D.take 8)) ∧ Rdr w' Rb (D.drop (needN k D)) ∧ w.grownBy w' (some Rb) := by
  have hn : needN k D = 8 := by unfold needN; rw [if_neg (by omega), hk]; rfl
  unfold badRd at hb
  rw [hn] at hb ⊢
  exact c15y Rb D w h (by omega)
theorem b15 (Rb : Nat) (k : Int) (D : List Int) (w : World) (hk : k = 8) (hb : badRd k D) (h : Rdr w Rb D) :
    Calls Try.prog 15 #[.pointer (some ⟨Rb, 0, none⟩)] w fun e w' => Short e ∧ w.grownBy w' (some Rb) := by
  have hn : needN k D = 8 := by unfold needN; rw [if_neg (by omega), hk]; rfl
  unfold badRd at hb
  rw [hn] at hb
  exact (c15n Rb D w h (by omega)).mono fun _ _ h => ⟨h.1, h.2.2⟩
theorem g16 (Rb : Nat) (k : Int) (D : List Int) (w : World) (hk : k = 9) (hb : ¬ badRd k D) (h : Rdr w Rb D) :
    Calls Try.prog 16 #[.pointer (some ⟨Rb, 0, none⟩)] w fun e w' => (∃ A n c, e = .returned (.slice A n c)) ∧ Rdr w' Rb (D.drop (needN k D)) ∧ w.grownBy w' (some Rb) := by
  unfold badRd needN at hb
  rw [if_pos hk] at hb
  by_cases h4 : 4 ≤ D.length
  · rw [if_pos h4] at hb
    have hr := (numL_range _ (byt_take h.byt 4)).1
    have hn : needN k D = 4 + (numL (D.take 4)).toNat := by unfold needN; rw [if_pos hk, if_pos h4]
    rw [hn]
    exact (c16y Rb (numL (D.take 4)).toNat D w h (Int.toNat_of_nonneg hr).symm (by omega)).mono fun _ _ ⟨⟨A, c, e, _⟩, h2, h3⟩ => ⟨⟨A, _, c, e⟩, h2, h3⟩
  · rw [if_neg h4] at hb; omega
theorem b16 (Rb : Nat) (k : Int) (D : List Int) (w : World) (hk : k = 9) (hb : badRd k D) (h : Rdr w Rb D) :
    Calls Try.prog 16 #[.pointer (some ⟨Rb, 0, none⟩)] w fun e w' => Short e ∧ w.grownBy w' (some Rb) := by
  have hr := (numL_range _ (byt_take h.byt 4)).1
  unfold badRd needN at hb
  rw [if_pos hk] at hb
  refine (c16n Rb D w h ?_).mono fun _ _ h => ⟨h.1, by rw [← h.2]; exact World.grownBy.refl _ _⟩
  by_cases h4 : 4 ≤ D.length
  · rw [if_pos h4] at hb; right; omega
  · left; omega
theorem g17 (Rb : Nat) (k : Int) (D : List Int) (w : World) (h0 : 0 ≤ k) (h10 : k < 10) (h8 : k ≠ 8) (h9 : k ≠ 9) (hb : ¬ badRd k D) (h : Rdr w Rb D) :
    Calls Try.prog 17 #[.pointer (some ⟨Rb, 0, none⟩), .int .i64 k] w fun e w' => (∃ n, e = .returned (.int .i64 n)) ∧ Rdr w' Rb (D.drop (needN k D)) ∧ w.grownBy w' (some Rb) := by
  have hn : needN k D = k.toNat := by unfold needN; rw [if_neg h9]
  unfold badRd at hb
  rw [hn] at hb ⊢
  obtain ⟨K, rfl⟩ := Int.eq_ofNat_of_zero_le h0
  rw [Int.toNat_natCast] at hb ⊢
  exact (c17y Rb K D w h (by omega) (by omega) (by omega)).mono fun _ _ ⟨e, h2, h3⟩ => ⟨⟨_, e⟩, h2, h3⟩
theorem b17 (Rb : Nat) (k : Int) (D : List Int) (w : World) (h9 : k ≠ 9) (hb : badRd k D) (h : Rdr w Rb D) :
    Calls Try.prog 17 #[.pointer (some ⟨Rb, 0, none⟩), .int .i64 k] w fun e w' => Short e ∧ w.grownBy w' (some Rb) := by
  have hn : needN k D = k.toNat := by unfold needN; rw [if_neg h9]
  unfold badRd at hb
  rw [hn] at hb
  exact (c17n Rb k D w h (by omega)).mono fun _ _ h => ⟨h.1, by rw [← h.2]; exact World.grownBy.refl _ _⟩

/-- what the function has come to -/
structure Rs (w0 : World) (Rb Kb Db Xb : Nat) (sl : Value) (bad : Bool) (d : Int) (bs : List Int) (w : World) : Prop where
  box : Box w0 Rb Kb Db sl 25 (.int .i64 d) 3 bs w
  x : w.heap[Xb]? = some (.cells #[.bool bad] 4 (0, 0))
theorem Rs.grown {w0 : World} {Rb Kb Db Xb : Nat} {sl : Value} {bad : Bool} {d : Int} {bs bs' : List Int} {w w' : World} (h : Rs w0 Rb Kb Db Xb sl bad d bs w) (hF : Far w0 Rb Kb Db) (hx : Xb < Rb) (hg : w.grownBy w' (some Rb)) (hr : Rdr w' Rb bs') : Rs w0 Rb Kb Db Xb sl bad d bs' w' :=
  ⟨h.box.grown hF hg hr, (hg.block Xb (lt_of_block h.x) (by simp; omega)).trans h.x⟩
theorem Rs.set {w0 : World} {Rb Kb Db Xb : Nat} {sl : Value} {bad : Bool} {d : Int} {bs : List Int} {w : World} (d' : Int) (h : Rs w0 Rb Kb Db Xb sl bad d bs w) (hF : Far w0 Rb Kb Db) (hx : Xb ≠ Db) : Rs w0 Rb Kb Db Xb sl bad d' bs (w.setCell ⟨Db, 0, none⟩ (.int .i64 d')) :=
  ⟨h.box.set _ hF (fun z h => by cases h), (Below.heap_setCell _ _ _ _ hx).trans h.x⟩

/-- how it ends -/
def EndR (LK g : Nat) (bad : Bool) (e : Ending) : Prop :=
  if g < LK then Short e else if bad = true then ∃ t, e = .panicked [{ v := .iface 9 t, recovered := false }] else e = .returned (.tuple #[])
set_option maxHeartbeats 4000000 in
theorem c19 (w0 w : World) (Rb Kb Db Xb : Nat) (A : Option Addr) (LK cap g : Nat) (bs ks : List Int) (bad : Bool) (hm : LK ≤ 100) (hF : Far w0 Rb Kb Db) (hx1 : Xb < Rb) (hx2 : Xb ≠ Db) (hs : Src w0 A LK ks) (hby : Byt ks) (ht : Trc bs ks LK g)
    (hB : Rs w0 Rb Kb Db Xb (.slice A LK cap) bad 0 bs w) :
    Calls Try.prog 19 #[.pointer (some ⟨Rb, 0, none⟩), .pointer (some ⟨Kb, 0, none⟩), .pointer (some ⟨Db, 0, none⟩), .pointer (some ⟨Xb, 0, none⟩)] w fun e w' => EndR LK g bad e ∧ (g < LK ∨ Rdr w' Rb (bs.drop (posF bs ks LK))) ∧ St Rb Db w w' ∧ w'.heap[Db]? = some (.cells #[.int .i64 g] 3 (0, 0)) := by
  have HF := Lib.hid hF
  have HS := Lib.hid hs
  have HT := Lib.hid ht
  have HB := Lib.hid hB
  have HY := Lib.hid hby
  have hg := ht.gl
  clear hF hs ht hB hby
  go_enter Try.func19, Try.ntmps19
  go_wp2
  go_loopw [5, 16, 25, 29] (fun i a b c wr => ∃ k : Nat, k ≤ g ∧ i = .int .i64 k ∧ Rs w0 Rb Kb Db Xb (.slice A LK cap) bad k (bs.drop (posF bs ks k)) wr ∧ St Rb Db w wr) (fun i _ _ _ _ => LK - (intOf i).toNat)
  case atStart => exact ⟨0, Nat.zero_le _, rfl, HB.out, St.refl _ _ _⟩
  case round =>
    obtain ⟨k, hk, rfl, hrs, hst⟩ := hrel
    have q0 := cell_of_one hrs.box.l
    have q1 := cell_of_one hrs.box.v
    have q2 := cell_of_one hrs.x
    have RS := Lib.hid hrs
    have ST := Lib.hid hst
    clear hrs hst
    by_cases hlt : k < LK
    · obtain ⟨b, off, rfl, hcell⟩ : ∃ b off, A = some ⟨b, off, none⟩ ∧ ∀ i, i < LK → w0.cell? ⟨b, off + i, none⟩ = some (.int .u8 (ks.getD i 0)) := by
        rcases HS.out.2 with h | h
        · omega
        · exact h
      have hkl : k < ks.length := by rw [HS.out.1]; exact hlt
      have hc0 := hcell k hlt
      have hx0 := byt_getD HY.out k hkl
      have g0 : wr.cell? ⟨b, off + k, none⟩ = some (.int .u8 (ks.getD k 0)) := (RS.out.box.below.cell (p := ⟨b, off + k, none⟩) (World.block_lt_of_cell? w0 _ hc0)).trans hc0
      have hb1 : (0 : Int) ≤ (k : Int) := by omega
      have hb2 : (k : Int) < (LK : Int) := by omega
      have hkd : kd ks k = ks.getD k 0 % 10 := rfl
      obtain ⟨x, hx⟩ : ∃ x, ks.getD k 0 = x := ⟨_, rfl⟩
      rw [hx] at hkd hx0 g0
      obtain ⟨x0, x1⟩ := hx0
      have hrd := RS.out.box.rd
      obtain ⟨q, hq⟩ : ∃ q, kd ks k = q := ⟨_, rfl⟩
      have HQ := Lib.hid hq
      have hq0 : 0 ≤ q := by rw [← hq, hkd]; exact Int.emod_nonneg _ (by decide)
      have hq1 : q < 10 := by rw [← hq, hkd]; exact Int.emod_lt_of_pos _ (by decide)
      rw [hq] at hkd
      have hxq : x % 10 = q := hkd.symm
      clear hc0 hcell hx hkl hkd hq
      by_cases hkg : k < g
      · have hok := HT.out.ok k hkg
        have PD := Lib.hid (posF_drop bs ks k)
        rw [HQ.out] at hok PD
        by_cases k8 : q = 8
        · have C := Lib.hid (g15 Rb q _ wr k8 hok hrd)
          rw [k8] at hxq
          clear hok hrd hq0 hq1 k8
          go_wp2_with (go_at_call 15; refine C.out.mono ?_; rintro e w1 ⟨rfl, h1, h2⟩; have D1 := Lib.hid (RS.out.grown HF.out hx1 h2 h1); have G1 := Lib.hid h2; have p1 := cell_of_one D1.out.box.v; have p2 := free_of_one D1.out.box.v; clear h1 h2)
          go_roundw
          case rel => exact ⟨k + 1, by omega, by go_num, by rw [PD.out]; have := D1.out.set ((k : Int) + 1) HF.out hx2; simpa using this, ST.out.trans ((St.of_grown G1.out).trans (St.of_var (grown_set _)))⟩
          case measure => simp [intOf]; omega
        · by_cases k9 : q = 9
          · have C := Lib.hid (g16 Rb q _ wr k9 hok hrd)
            rw [k9] at hxq
            clear hok hrd hq0 hq1 k8 k9
            go_wp2_with (go_at_call 16; refine C.out.mono ?_; rintro e w1 ⟨⟨A5, n5, c5, rfl⟩, h1, h2⟩; have D1 := Lib.hid (RS.out.grown HF.out hx1 h2 h1); have G1 := Lib.hid h2; have p1 := cell_of_one D1.out.box.v; have p2 := free_of_one D1.out.box.v; clear h1 h2)
            go_roundw
            case rel => exact ⟨k + 1, by omega, by go_num, by rw [PD.out]; have := D1.out.set ((k : Int) + 1) HF.out hx2; simpa using this, ST.out.trans ((St.of_grown G1.out).trans (St.of_var (grown_set _)))⟩
            case measure => simp [intOf]; omega
          · have C := Lib.hid (g17 Rb q _ wr hq0 hq1 k8 k9 hok hrd)
            clear hok hrd
            go_wp2_with (go_at_call 17; refine C.out.mono ?_; rintro e w1 ⟨⟨n5, rfl⟩, h1, h2⟩; have D1 := Lib.hid (RS.out.grown HF.out hx1 h2 h1); have G1 := Lib.hid h2; have p1 := cell_of_one D1.out.box.v; have p2 := free_of_one D1.out.box.v; clear h1 h2)
            go_roundw
            case rel => exact ⟨k + 1, by omega, by go_num, by rw [PD.out]; have := D1.out.set ((k : Int) + 1) HF.out hx2; simpa using this, ST.out.trans ((St.of_grown G1.out).trans (St.of_var (grown_set _)))⟩
            case measure => simp [intOf]; omega
      · obtain rfl : k = g := by omega
        have hbad := HT.out.bad hlt
        rw [HQ.out] at hbad
        have FIN : Hid (∀ e w1, Short e → wr.grownBy w1 (some Rb) → EndR LK k bad e ∧ (k < LK ∨ Rdr w1 Rb (bs.drop (posF bs ks LK))) ∧ St Rb Db w w1 ∧ w1.heap[Db]? = some (.cells #[.int .i64 k] 3 (0, 0))) := fun e w1 he hgr =>
          ⟨by unfold EndR; rw [if_pos hlt]; exact he, .inl hlt, ST.out.trans (St.of_grown hgr), (hgr.block Db (lt_of_block RS.out.box.v) (by have := HF.out.vr; simp; omega)).trans RS.out.box.v⟩
        by_cases k8 : q = 8
        · have C := Lib.hid (b15 Rb q _ wr k8 hbad hrd)
          rw [k8] at hxq
          clear hbad hrd hq0 hq1 k8
          go_wp2_with (go_at_call 15; refine C.out.mono ?_; rintro e w1 ⟨rfl, h2⟩)
          exact ⟨rfl, FIN.out _ _ rfl h2⟩
        · by_cases k9 : q = 9
          · have C := Lib.hid (b16 Rb q _ wr k9 hbad hrd)
            rw [k9] at hxq
            clear hbad hrd hq0 hq1 k8 k9
            go_wp2_with (go_at_call 16; refine C.out.mono ?_; rintro e w1 ⟨rfl, h2⟩)
            exact ⟨rfl, FIN.out _ _ rfl h2⟩
          · have C := Lib.hid (b17 Rb q _ wr k9 hbad hrd)
            clear hbad hrd
            go_wp2_with (go_at_call 17; refine C.out.mono ?_; rintro e w1 ⟨rfl, h2⟩)
            exact ⟨rfl, FIN.out _ _ rfl h2⟩
    · obtain rfl : k = LK := by omega
      obtain rfl : k = g := by omega
      cases bad with
      | true =>
        go_wp2
        exact ⟨rfl, by unfold EndR; rw [if_neg (by omega), if_pos rfl]; exact ⟨_, rfl⟩, .inr RS.out.box.rd, ST.out, RS.out.box.v⟩
      | false =>
        go_wp2
        go_end0
        exact ⟨by unfold EndR; rw [if_neg (by omega), if_neg (by decide)] <;> rfl, .inr RS.out.box.rd, ST.out, RS.out.box.v⟩
end Go.Proofs.Ytjkhbddnbpnmcaa
