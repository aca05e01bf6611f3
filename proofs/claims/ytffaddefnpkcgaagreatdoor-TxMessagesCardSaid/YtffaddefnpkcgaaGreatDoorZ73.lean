/-
  The document's bytes of a row of inputs.
-/
import Derived.Test.YtffaddefnpkcgaaGreatDoorZ70
import Derived.Test.YtffaddefnpkcgaaGreatDoorZW
namespace Go.Proofs.YtffaddefnpkcgaaGreatDoor
open Go.RowKit
set_option maxRecDepth 100000
theorem sch_len_in : inS.length = 298 := by simp [inS, hS, sigS]
attribute [local irreducible] bvals vals cel seg digs enc rwB rcd
set_option maxHeartbeats 4000000 in
theorem dInsB (A0 : Option Addr) (len c0 : Nat) (rs : List (List Int)) (w : World) (hn : rs.length = len) (hr : LRow inS w A0 rs) (ha : AllR inS rs) (hc : len ≤ c0) (h100 : len ≤ 100) :
    Calls Tryz.prog 33 #[.slice A0 len c0] w fun e w' => ∃ A c, e = .returned (.slice A (1 + len * 298) c) ∧ Ob w.heap.size w' A (1 + len * 298) c (encL inS rs) ∧ Below w.heap.size w w' := by
  obtain ⟨S, hS⟩ : ∃ S, w.heap.size = S := ⟨_, rfl⟩
  have HS := Lib.hid hS
  have HN := Lib.hid hn
  have HR := Lib.hid hr
  have HA := Lib.hid ha
  have HC : Hid (len ≤ c0) := Lib.hid hc
  have h1 : IntKind.i64.wrap (len : Int) = (len : Int) := by rw [IntKind.wrap_i64]; omega
  clear hn hr ha
  go_enter Tryz.func33, Tryz.ntmps33
  go_upto_region 2 with (first
    | (go_at_call 31; refine (dNum (len : Int) 1 _ (by decide)).mono ?_; rintro e w1 ⟨A1, c1, rfl, ho, hb⟩; have O1 : Hid (Ob S w1 A1 1 c1 (rwB inS rs 0)) := Lib.hid (by rw [rwB_0, HN.out]; exact ob_low ho (Nat.le_of_eq hS.symm)); have B1 : Hid (Below S w w1) := Lib.hid (by rw [← hS]; exact hb); clear ho hb)
    | fail)
  go_wp2
  go_loopw [3, 4] (fun x i wr => ∃ (k : Nat) (A : Option Addr) (c : Nat), k ≤ len ∧ i = .int .i64 k ∧ x = .slice A (1 + k * 298) c ∧ Ob S wr A (1 + k * 298) c (rwB inS rs k) ∧ Below S w wr) (fun _ i _ => len - (intOf i).toNat)
  case atStart => exact ⟨0, A1, c1, by omega, rfl, rfl, O1.out, B1.out⟩
  case round =>
    obtain ⟨k, A, c, hk, rfl, rfl, hown, hbel⟩ := hrel
    have O2 := Lib.hid hown
    have B2 := Lib.hid hbel
    have WN : Hid (S ≤ wr.heap.size) := Lib.hid (by have := hbel.size; omega)
    clear hown hbel O1 B1
    by_cases hlt : k < len
    · have h2 : (k : Int) < (len : Int) := by omega
      have h3 : IntKind.i64.wrap (k : Int) = (k : Int) := by rw [IntKind.wrap_i64]; omega
      obtain ⟨b, o, rfl, hrow⟩ := lrow_at HR.out (by rw [HN.out]; omega)
      have hk2 := hrow k (by rw [HN.out]; exact hlt)
      rw [show inS.length = 298 from sch_len_in] at hk2
      have hl9 : (rcd rs k).length = 298 := (lrow_len HA.out (show k < rs.length by rw [HN.out]; exact hlt)).trans sch_len_in
      have hbS : b < S := by
        rw [← hS]
        exact World.block_lt_of_cell? w _ (in_at hk2 hl9).2.1
      have RK : Hid (∀ w' : World, (∀ q, q < S → w'.heap[q]? = wr.heap[q]?) → w'.rangeAt b (o + k * 298) (vals inS (rcd rs k))) := Lib.hid fun w' h => range_keep1 hk2 ((h b hbS).trans (B2.out.block b hbS))
      have HE := Lib.hid (rwB_next (S := inS) (show k < rs.length by rw [HN.out]; exact hlt))
      rw [enc_in hl9] at HE
      have HL9 := Lib.hid hl9
      obtain ⟨r, hr⟩ : ∃ r, rcd rs k = r := ⟨_, rfl⟩
      rw [hr] at RK HE HL9
      clear hrow hk2 hl9 hr hbS
      go_wp2_with fail
      rename_i K hK
      have XX : Hid (Below S wr wr.drew) := (Below.refl _ _).drew
      replace O2 := Lib.hid (ob_drew O2.out)
      refine wp_region_held_drew (S := (fun w' : World => ∀ q, q < S → w'.heap[q]? = wr.heap[q]?)) (by kernel_rfl) (by exact fun _ _ => rfl) (fun hHeld => ?_)
      refine tk (i := 0) (v := ?_) rfl (Or.inl ⟨by rfl, ?_⟩) (by assumption) ?_
      rotate_left
      · (intro w hSw; (try dsimp only at hSw); go_simp; try with_reducible rfl)
      simp only [Act.put, ly1, ly3, ly4, ly5, ly6]
      refine tk (i := 1) (v := ?_) rfl (Or.inl ⟨by rfl, ?_⟩) (by assumption) ?_
      rotate_left
      · (intro w hSw; (try dsimp only at hSw); go_simp; try with_reducible rfl)
      simp only [Act.put, ly1, ly2, ly3, ly4, ly5, ly6]
      refine tk (i := 2) (v := ?_) rfl (Or.inl ⟨by rfl, ?_⟩) (by assumption) ?_
      rotate_left
      · (intro w hSw; (try dsimp only at hSw); go_simp; try with_reducible rfl)
      simp only [Act.put, ly1, ly2, ly3, ly4, ly5, ly6]
      refine tk (i := 3) (v := ?_) rfl (Or.inl ⟨by rfl, ?_⟩) (by assumption) ?_
      rotate_left
      · (intro w hSw; (try dsimp only at hSw); go_simp; try with_reducible rfl)
      simp only [Act.put, ly1, ly2, ly3, ly4, ly5, ly6]
      refine tk (i := 4) (v := ?_) rfl (Or.inl ⟨by rfl, ?_⟩) (by assumption) ?_
      rotate_left
      · (intro w hSw; (try dsimp only at hSw); go_simp; try with_reducible rfl)
      simp only [Act.put, ly1, ly2, ly3, ly4, ly5, ly6]
      refine tk (i := 5) (v := ?_) rfl (Or.inl ⟨by rfl, ?_⟩) (by assumption) ?_
      rotate_left
      · (intro w hSw; (try dsimp only at hSw); go_simp; try with_reducible rfl)
      simp only [Act.put, ly1, ly2, ly3, ly4, ly5, ly6]
      refine tk (i := 6) (v := ?_) rfl (Or.inl ⟨by rfl, ?_⟩) (by assumption) ?_
      rotate_left
      · (intro w hSw; (try dsimp only at hSw); go_simp; try with_reducible rfl)
      simp only [Act.put, ly1, ly2, ly3, ly4, ly5, ly6]
      refine tk (i := 8) (v := ?_) rfl (Or.inl ⟨by rfl, ?_⟩) (by assumption) ?_
      rotate_left
      · (intro w hSw; (try dsimp only at hSw); go_simp; try with_reducible rfl)
      simp only [Act.put, ly1, ly2, ly3, ly4, ly5, ly6]
      refine tk (i := 9) (v := ?_) rfl (Or.inl ⟨by rfl, ?_⟩) (by assumption) ?_
      rotate_left
      · (intro w hSw; (try dsimp only at hSw); go_simp; try with_reducible rfl)
      simp only [Act.put, ly1, ly2, ly3, ly4, ly5, ly6]
      refine tk (i := 10) (v := ?_) rfl (Or.inl ⟨by rfl, ?_⟩) (by assumption) ?_
      rotate_left
      · (intro w hSw; (try dsimp only at hSw); go_simp; try with_reducible rfl)
      simp only [Act.put, ly1, ly2, ly3, ly4, ly5, ly6]
      refine tk (i := 11) (v := ?_) rfl (Or.inl ⟨by rfl, ?_⟩) (by assumption) ?_
      rotate_left
      · (intro w hSw; (try dsimp only at hSw); go_simp; try with_reducible rfl)
      simp only [Act.put, ly1, ly2, ly3, ly4, ly5, ly6]
      refine tk (i := 12) (v := ?_) rfl (Or.inl ⟨by rfl, ?_⟩) (by assumption) ?_
      rotate_left
      · (intro w hSw; (try dsimp only at hSw); go_simp; try with_reducible rfl)
      simp only [Act.put, ly1, ly2, ly3, ly4, ly5, ly6]
      refine tk (i := 13) (v := ?_) rfl (Or.inl ⟨by rfl, ?_⟩) (by assumption) ?_
      rotate_left
      · (intro w hSw; (try dsimp only at hSw); have c1 := (in_at (RK.out w hSw) HL9.out).2.1; go_simp; try with_reducible rfl)
      simp only [Act.put, ly1, ly2, ly3, ly4, ly5, ly6]
      refine tk (i := 16) (v := ?_) rfl (Or.inl ⟨by rfl, ?_⟩) (by assumption) ?_
      rotate_left
      · (intro w hSw; (try dsimp only at hSw); go_simp; try with_reducible rfl)
      simp only [Act.put, ly1, ly2, ly3, ly4, ly5, ly6]
      refine tk (i := 17) (v := ?_) rfl (Or.inl ⟨by rfl, ?_⟩) (by assumption) ?_
      rotate_left
      · (intro w hSw; (try dsimp only at hSw); go_simp; try with_reducible rfl)
      simp only [Act.put, ly1, ly2, ly3, ly4, ly5, ly6]
      refine tk (i := 18) (v := ?_) rfl (Or.inl ⟨by rfl, ?_⟩) (by assumption) ?_
      rotate_left
      · (intro w hSw; (try dsimp only at hSw); go_simp; try with_reducible rfl)
      simp only [Act.put, ly1, ly2, ly3, ly4, ly5, ly6]
      refine tk (i := 19) (v := ?_) rfl (Or.inl ⟨by rfl, ?_⟩) (by assumption) ?_
      rotate_left
      · (intro w hSw; (try dsimp only at hSw); go_simp; try with_reducible rfl)
      simp only [Act.put, ly1, ly2, ly3, ly4, ly5, ly6]
      refine tk (i := 20) (v := ?_) rfl (Or.inl ⟨by rfl, ?_⟩) (by assumption) ?_
      rotate_left
      · (intro w hSw; (try dsimp only at hSw); go_simp; try with_reducible rfl)
      simp only [Act.put, ly1, ly2, ly3, ly4, ly5, ly6]
      refine wpAnyH_ready (rs := [7]) (by kernel_rfl) (by simp) ?_
      refine AllReadyH.cons rfl (fun K hK => ?_) AllReadyH.nil
      refine step_ap rfl (.tmp 14) (.tmp 20) rfl (S) (1 + k * 298) _ _ _ rfl O2.out _ (8) _ _ rfl (src_all (in_at (RK.out _ (by exact fun q hq => XX.out.block q hq)) HL9.out).1 (seg_len (by rw [HL9.out]; omega))) (fun h => by cases h) (by omega) (by have := XX.out.size; have := WN.out; omega) ?_
      intro A3 c3 wc1 hob hba hot
      have XN : Hid (Below S wr wc1) := XX.out.trans (hba.mono (by omega))
      have O3 : Hid (Ob S wc1 A3 _ c3 (rwB inS rs k ++ seg r 0 8)) := Lib.hid (hob)
      clear XX hba hob hot hHeld
      have XX := XN
      clear XN
      refine hK.out _ _ (by exact fun q hq => XX.out.block q hq) (fun hHeld => ?_)
      clear hK K
      refine wpAnyH_ready (rs := [14]) (by kernel_rfl) (by simp) ?_
      refine AllReadyH.cons rfl (fun K hK => ?_) AllReadyH.nil
      go_simp
      go_at_call 31
      refine (dNum (cel r 8) 1 _ (by decide)).mono ?_
      rintro e wc2 ⟨AN, cN, rfl, hob, hba⟩
      have XN : Hid (Below S wr wc2) := XX.out.trans (hba.mono (by have := XX.out.size; have := WN.out; omega))
      replace O3 := Lib.hid (ob_keep O3.out hba)
      have ON : Hid (Ob S wc2 AN _ cN (digs (cel r 8) 1)) := Lib.hid (ob_low hob (by have := XX.out.size; have := WN.out; omega))
      clear XX hba hob hHeld
      have XX := XN
      clear XN
      (try go_wp2_with fail)
      refine hK.out _ _ (by exact fun q hq => XX.out.block q hq) (fun hHeld => ?_)
      clear hK K
      refine wpAnyH_ready (rs := [15]) (by kernel_rfl) (by simp) ?_
      refine AllReadyH.cons rfl (fun K hK => ?_) AllReadyH.nil
      refine step_ap rfl (.tmp 21) (.tmp 28) rfl (S) (1 + k * 298 + 8) _ _ _ rfl O3.out _ (1) _ _ rfl (ob_src ON.out) ((ob_cap ON.out).2.2) (by omega) (by have := XX.out.size; have := WN.out; omega) ?_
      intro A4 c4 wc3 hob hba hot
      have XN : Hid (Below S wr wc3) := XX.out.trans (hba.mono (by omega))
      have O4 : Hid (Ob S wc3 A4 _ c4 (rwB inS rs k ++ seg r 0 8 ++ digs (cel r 8) 1)) := Lib.hid (hob)
      clear XX hba hob hot hHeld
      have XX := XN
      clear XN
      refine hK.out _ _ (by exact fun q hq => XX.out.block q hq) (fun hHeld => ?_)
      clear hK K
      refine wpAnyH_ready (rs := [21]) (by kernel_rfl) (by simp) ?_
      refine AllReadyH.cons rfl (fun K hK => ?_) AllReadyH.nil
      refine step_ap rfl (.tmp 29) (.tmp 34) rfl (S) (1 + k * 298 + 8 + 1) _ _ _ rfl O4.out _ (8) _ _ rfl (src_all (in_at (RK.out _ (by exact fun q hq => XX.out.block q hq)) HL9.out).2.2.1 (seg_len (by rw [HL9.out]; omega))) (fun h => by cases h) (by omega) (by have := XX.out.size; have := WN.out; omega) ?_
      intro A5 c5 wc4 hob hba hot
      have XN : Hid (Below S wr wc4) := XX.out.trans (hba.mono (by omega))
      have O5 : Hid (Ob S wc4 A5 _ c5 (rwB inS rs k ++ seg r 0 8 ++ digs (cel r 8) 1 ++ seg r 9 8)) := Lib.hid (hob)
      clear XX hba hob hot hHeld
      have XX := XN
      clear XN
      refine hK.out _ _ (by exact fun q hq => XX.out.block q hq) (fun hHeld => ?_)
      clear hK K
      refine tk (i := 22) (v := ?_) rfl (Or.inl ⟨by rfl, ?_⟩) (by assumption) ?_
      rotate_left
      · (intro w hSw; (try dsimp only at hSw); go_simp; try with_reducible rfl)
      simp only [Act.put, ly1, ly2, ly3, ly4, ly5, ly6]
      refine wpAnyH_done (by kernel_rfl) ?_ _
      show K _ _
      refine hK _ _ ?_
      clear hK K hHeld
      have L7 : Hid ((seg r 17 281).length = 281) := Lib.hid (seg_len (by rw [HL9.out]; decide))
      have R7 := Lib.hid (in_at (RK.out wc4 (by exact fun q hq => XX.out.block q hq)) HL9.out).2.2.2
      have I7 : Hid ((Tryz.prog.info? 58).map (·.size) = some (vals sigS (seg r 17 281)).length) := szL i58 (dsig_len L7.out)
      go_wp2_with (first
        | (refine wpList_load_midG (by rfl) 58 (.tmp 40) rfl b (o + k * 298 + 17) rfl (vals sigS (seg r 17 281)) _ R7.out Tryz.underlying58 rfl I7.out ?_)
        | (go_at_call 70; refine (dSig (seg r 17 281) wc4 L7.out).mono ?_; rintro e w7 ⟨A7, c7, rfl, ho, hb⟩; have O6 := Lib.hid (ob_keep O5.out hb); have O7 : Hid (Ob S w7 A7 281 c7 (enc sigS (seg r 17 281))) := Lib.hid (ob_low ho (by have := XX.out.size; have := WN.out; omega)); have B7 : Hid (Below S wr w7) := Lib.hid (XX.out.trans (hb.mono (by have := XX.out.size; have := WN.out; omega))); clear ho hb)
        | (at_builtin; refine wpList_ap rfl (.tmp 36) (.tmp 42) rfl S (1 + k * 298 + 8 + 1 + 8) _ _ _ rfl O6.out _ 281 _ _ rfl (ob_src O7.out) (ob_cap O7.out).2.2 (by omega) (by have := B7.out.size; have := WN.out; omega) ?_; intro A8 c8 w8 ho hb _; have O8 := Lib.hid ho; have B8 := Lib.hid (B2.out.trans (B7.out.trans hb)); clear ho hb)
        | fail)
      go_roundw
      case rel => exact ⟨k + 1, A8, c8, by omega, by go_num, sl_eq (by omega), ob_eq O8.out (by omega) (by rw [HE.out]; simp only [List.append_assoc]), B8.out⟩
      case measure => simp [intOf]; omega
    · obtain rfl : k = len := by omega
      go_wp2
      go_ret
      exact ⟨A, c, rfl, by rw [HS.out, ← rwB_all, HN.out]; exact O2.out, by rw [HS.out]; exact B2.out⟩
end Go.Proofs.YtffaddefnpkcgaaGreatDoor
namespace Go.Proofs.YtffaddefnpkcgaaGreatDoor
open Go.RowKit
set_option maxRecDepth 100000
theorem z123 (w : World) : (zeroValue 123).run Tryz.prog w = .ok (.agg (vals fwdS (zeros 11)).toArray) w := by kernel_rfl
theorem sch_len_fwd : fwdS.length = 11 := rfl
structure FrG (S G : Nat) (wB w : World) : Prop where
  bel : Below S wB w
  g : w.heap[G]? = wB.heap[G]?
  lt : G < w.heap.size
theorem FrG.call {S G : Nat} {wB w w' : World} (h : FrG S G wB w) (hS : S ≤ wB.heap.size) (hb : Below w.heap.size w w') : FrG S G wB w' :=
  ⟨h.bel.trans (hb.mono (Nat.le_trans hS h.bel.size)), (hb.block G h.lt).trans h.g, Nat.lt_of_lt_of_le h.lt hb.size⟩
theorem FrG.app {S G : Nat} {wB w w' : World} (h : FrG S G wB w) (hb : Below S w w') (hot : ∀ (q : Nat) (cs : Array Value) (T : TypeId), T ≠ 5 → w.heap[q]? = some (.cells cs T (0, 0)) → w'.heap[q]? = w.heap[q]?) {cs : List Value} {T : TypeId} (hG : BL wB G cs T) (hT : T ≠ 5) : FrG S G wB w' :=
  ⟨h.bel.trans hb, (hot G _ T hT (h.g.trans hG)).trans h.g, Nat.lt_of_lt_of_le h.lt hb.size⟩
attribute [local irreducible] bvals vals cel seg digs enc rwB rcd zeros
set_option maxHeartbeats 4000000 in
theorem dFwdsB (A0 : Option Addr) (len c0 : Nat) (rs : List (List Int)) (w : World) (hn : rs.length = len) (hr : LRow fwdS w A0 rs) (ha : AllR fwdS rs) (hc : len ≤ c0) (h100 : len ≤ 100) :
    Calls Tryz.prog 34 #[.slice A0 len c0] w fun e w' => ∃ A c, e = .returned (.slice A (1 + len * 18) c) ∧ Ob w.heap.size w' A (1 + len * 18) c (encL fwdS rs) ∧ Below w.heap.size w w' := by
  obtain ⟨S, hS⟩ : ∃ S, w.heap.size = S := ⟨_, rfl⟩
  have HS := Lib.hid hS
  have HN := Lib.hid hn
  have HR := Lib.hid hr
  have HA := Lib.hid ha
  have HC : Hid (len ≤ c0) := Lib.hid hc
  have h1 : IntKind.i64.wrap (len : Int) = (len : Int) := by rw [IntKind.wrap_i64]; omega
  clear hn hr ha
  go_enter Tryz.func34, Tryz.ntmps34
  go_upto_region 2 with (first
    | (go_at_call 31; refine (dNum (len : Int) 1 _ (by decide)).mono ?_; rintro e w1 ⟨A1, c1, rfl, ho, hb⟩; have O1 : Hid (Ob S w1 A1 1 c1 (rwB fwdS rs 0)) := Lib.hid (by rw [rwB_0, HN.out]; exact ob_low ho (Nat.le_of_eq hS.symm)); have B1 : Hid (Below S w w1) := Lib.hid (by rw [← hS]; exact hb); clear ho hb)
    | fail)
  go_wp2
  go_loopw [3, 4, 5] (fun x i _ wr => ∃ (k : Nat) (A : Option Addr) (c : Nat), k ≤ len ∧ i = .int .i64 k ∧ x = .slice A (1 + k * 18) c ∧ Ob S wr A (1 + k * 18) c (rwB fwdS rs k) ∧ Below S w wr) (fun _ i _ _ => len - (intOf i).toNat)
  case atStart => exact ⟨0, A1, c1, by omega, rfl, rfl, O1.out, B1.out⟩
  case round =>
    obtain ⟨k, A, c, hk, rfl, rfl, hown, hbel⟩ := hrel
    have O2 := Lib.hid hown
    have B2 := Lib.hid hbel
    have WN : Hid (S ≤ wr.heap.size) := Lib.hid (by have := hbel.size; omega)
    clear hown hbel O1 B1
    by_cases hlt : k < len
    · have h2 : (k : Int) < (len : Int) := by omega
      have h3 : IntKind.i64.wrap (k : Int) = (k : Int) := by rw [IntKind.wrap_i64]; omega
      obtain ⟨b, o, rfl, hrow⟩ := lrow_at HR.out (by rw [HN.out]; omega)
      have hk2 := hrow k (by rw [HN.out]; exact hlt)
      rw [show fwdS.length = 11 from sch_len_fwd] at hk2
      have hl9 : (rcd rs k).length = 11 := (lrow_len HA.out (show k < rs.length by rw [HN.out]; exact hlt)).trans sch_len_fwd
      have hbS : b < S := by
        rw [← hS]
        exact World.block_lt_of_cell? w _ (fwd_at hk2 hl9).1
      have RK : Hid (∀ w' : World, (∀ q, q < S → w'.heap[q]? = wr.heap[q]?) → w'.rangeAt b (o + k * 11) (vals fwdS (rcd rs k))) := Lib.hid fun w' h => range_keep1 hk2 ((h b hbS).trans (B2.out.block b hbS))
      have HE := Lib.hid (rwB_next (S := fwdS) (show k < rs.length by rw [HN.out]; exact hlt))
      rw [enc_fwd hl9] at HE
      have HL9 := Lib.hid hl9
      obtain ⟨r, hr⟩ : ∃ r, rcd rs k = r := ⟨_, rfl⟩
      rw [hr] at RK HE HL9
      clear hrow hk2 hl9 hr hbS
      have hz := z123
      have R5 := Lib.hid (RK.out wr (fun _ _ => rfl))
      have I5 : Hid ((Tryz.prog.info? 123).map (·.size) = some (vals fwdS r).length) := szL i123 (vals_len (S := fwdS) HL9.out)
      have HZ : Hid ((vals fwdS (zeros 11)).length = 11) := Lib.hid (vals_len (S := fwdS) (zeros_len 11))
      have HF : Hid ((vals fwdS r).length = 11) := Lib.hid (vals_len (S := fwdS) HL9.out)
      have XA : Hid (BL (wr.alloc (Obj.cells (vals fwdS (zeros 11)).toArray 123)) wr.heap.size (vals fwdS (zeros 11)) 123) := Lib.hid (heap_alloc_last wr _)
      have BG := Lib.hid (below_setRow ((Below.refl wr.heap.size wr).alloc (Nat.le_refl _) (Obj.cells (vals fwdS (zeros 11)).toArray 123)) (Nat.le_refl _) (vals fwdS r).toArray)
      have XG : Hid (BL ((wr.alloc (Obj.cells (vals fwdS (zeros 11)).toArray 123)).setRow wr.heap.size (vals fwdS r).toArray) wr.heap.size (vals fwdS r) 123) := Lib.hid (setRow_heap _ _ _ _ _ _ XA.out)
      go_upto_region 6 with (first
        | (refine wpList_load_midG (by rfl) 123 (.tmp 17) rfl b (o + k * 11) rfl (vals fwdS r) _ R5.out Tryz.underlying123 rfl I5.out ?_)
        | (refine wpList_store_rowTo rfl 123 (.tmp 5) (.tmp 18) rfl rfl wr.heap.size (vals fwdS r).toArray rfl rfl 123 (vals fwdS (zeros 11)).toArray XA.out (szA i123 HF.out) (by rw [List.size_toArray, List.size_toArray, HF.out, HZ.out]) (all_oneCell_toArray (vals_one _ _)) ?_)
        | fail)
      replace O2 := Lib.hid (ob_keep O2.out BG.out)
      replace B2 := Lib.hid (B2.out.trans (BG.out.mono WN.out))
      replace WN : Hid (S ≤ ((wr.alloc (Obj.cells (vals fwdS (zeros 11)).toArray 123)).setRow wr.heap.size (vals fwdS r).toArray).heap.size) := Lib.hid (Nat.le_trans WN.out BG.out.size)
      clear hz R5 I5 HZ HF XA BG RK h2 h3
      generalize wr.heap.size = G at *
      generalize ((wr.alloc (Obj.cells (vals fwdS (zeros 11)).toArray 123)).setRow G (vals fwdS r).toArray) = w5 at *
      rename_i K hK
      have XX : Hid (FrG S G w5 w5.drew) := Lib.hid ⟨(Below.refl _ _).drew, rfl, bl_lt XG.out⟩
      replace O2 := Lib.hid (ob_drew O2.out)
      refine wp_region_held_drew (S := (fun w' : World => (∀ q, q < S → w'.heap[q]? = w5.heap[q]?) ∧ w'.heap[G]? = w5.heap[G]?)) (by kernel_rfl) (by exact ⟨fun _ _ => rfl, rfl⟩) (fun hHeld => ?_)
      refine tk (i := 0) (v := ?_) rfl (Or.inl ⟨by rfl, ?_⟩) (by assumption) ?_
      rotate_left
      · (intro w hSw; (try dsimp only at hSw); go_simp; try with_reducible rfl)
      simp only [Act.put, ly1, ly3, ly4, ly5, ly6]
      refine tk (i := 1) (v := ?_) rfl (Or.inl ⟨by rfl, ?_⟩) (by assumption) ?_
      rotate_left
      · (intro w hSw; (try dsimp only at hSw); go_simp; try with_reducible rfl)
      simp only [Act.put, ly1, ly2, ly3, ly4, ly5, ly6]
      refine tk (i := 2) (v := ?_) rfl (Or.inl ⟨by rfl, ?_⟩) (by assumption) ?_
      rotate_left
      · (intro w hSw; (try dsimp only at hSw); have c1 := fwd_at (range_of (bl_keep XG.out hSw.2)) HL9.out; simp only [Nat.zero_add] at c1; obtain ⟨c10, c11, c12, c13⟩ := c1; go_simp; try with_reducible rfl)
      simp only [Act.put, ly1, ly2, ly3, ly4, ly5, ly6]
      refine tk (i := 5) (v := ?_) rfl (Or.inl ⟨by rfl, ?_⟩) (by assumption) ?_
      rotate_left
      · (intro w hSw; (try dsimp only at hSw); go_simp; try with_reducible rfl)
      simp only [Act.put, ly1, ly2, ly3, ly4, ly5, ly6]
      refine tk (i := 6) (v := ?_) rfl (Or.inl ⟨by rfl, ?_⟩) (by assumption) ?_
      rotate_left
      · (intro w hSw; (try dsimp only at hSw); have c1 := fwd_at (range_of (bl_keep XG.out hSw.2)) HL9.out; simp only [Nat.zero_add] at c1; obtain ⟨c10, c11, c12, c13⟩ := c1; go_simp; try with_reducible rfl)
      simp only [Act.put, ly1, ly2, ly3, ly4, ly5, ly6]
      refine tk (i := 9) (v := ?_) rfl (Or.inl ⟨by rfl, ?_⟩) (by assumption) ?_
      rotate_left
      · (intro w hSw; (try dsimp only at hSw); go_simp; try with_reducible rfl)
      simp only [Act.put, ly1, ly2, ly3, ly4, ly5, ly6]
      refine tk (i := 10) (v := ?_) rfl (Or.inl ⟨by rfl, ?_⟩) (by assumption) ?_
      rotate_left
      · (intro w hSw; (try dsimp only at hSw); go_simp; try with_reducible rfl)
      simp only [Act.put, ly1, ly2, ly3, ly4, ly5, ly6]
      refine tk (i := 12) (v := ?_) rfl (Or.inl ⟨by rfl, ?_⟩) (by assumption) ?_
      rotate_left
      · (intro w hSw; (try dsimp only at hSw); go_simp; try with_reducible rfl)
      simp only [Act.put, ly1, ly2, ly3, ly4, ly5, ly6]
      refine tk (i := 13) (v := ?_) rfl (Or.inl ⟨by rfl, ?_⟩) (by assumption) ?_
      rotate_left
      · (intro w hSw; (try dsimp only at hSw); have c1 := fwd_at (range_of (bl_keep XG.out hSw.2)) HL9.out; simp only [Nat.zero_add] at c1; obtain ⟨c10, c11, c12, c13⟩ := c1; go_simp; try with_reducible rfl)
      simp only [Act.put, ly1, ly2, ly3, ly4, ly5, ly6]
      refine wpAnyH_ready (rs := [3]) (by kernel_rfl) (by simp) ?_
      refine AllReadyH.cons rfl (fun K hK => ?_) AllReadyH.nil
      go_simp
      go_at_call 31
      refine (dNum (cel r 0) 1 _ (by decide)).mono ?_
      rintro e wc1 ⟨AM, cM, rfl, hob, hba⟩
      have XN : Hid (FrG S G w5 wc1) := Lib.hid (XX.out.call WN.out hba)
      replace O2 := Lib.hid (ob_keep O2.out hba)
      have OM : Hid (Ob S wc1 AM _ cM (digs (cel r 0) 1)) := Lib.hid (ob_low hob (by have := XX.out.bel.size; have := WN.out; omega))
      clear XX hba hob hHeld
      have XX := XN
      clear XN
      (try go_wp2_with fail)
      refine hK.out _ _ (by exact ⟨fun q hq => XX.out.bel.block q hq, XX.out.g⟩) (fun hHeld => ?_)
      clear hK K
      refine wpAnyH_ready (rs := [4]) (by kernel_rfl) (by simp) ?_
      refine AllReadyH.cons rfl (fun K hK => ?_) AllReadyH.nil
      refine step_ap rfl (.tmp 19) (.tmp 22) rfl (S) (1 + k * 18) _ _ _ rfl O2.out _ (1) _ _ rfl (ob_src OM.out) ((ob_cap OM.out).2.2) (by omega) (by have := XX.out.bel.size; have := WN.out; omega) ?_
      intro A3 c3 wc2 hob hba hot
      have XN : Hid (FrG S G w5 wc2) := Lib.hid (XX.out.app hba hot XG.out (by decide))
      have O3 : Hid (Ob S wc2 A3 _ c3 (rwB fwdS rs k ++ digs (cel r 0) 1)) := Lib.hid (hob)
      clear XX hba hob hot hHeld
      have XX := XN
      clear XN
      refine hK.out _ _ (by exact ⟨fun q hq => XX.out.bel.block q hq, XX.out.g⟩) (fun hHeld => ?_)
      clear hK K
      refine wpAnyH_ready (rs := [7]) (by kernel_rfl) (by simp) ?_
      refine AllReadyH.cons rfl (fun K hK => ?_) AllReadyH.nil
      go_simp
      go_at_call 31
      refine (dNum (cel r 1) 2 _ (by decide)).mono ?_
      rintro e wc3 ⟨AP, cP, rfl, hob, hba⟩
      have XN : Hid (FrG S G w5 wc3) := Lib.hid (XX.out.call WN.out hba)
      replace O3 := Lib.hid (ob_keep O3.out hba)
      have OP : Hid (Ob S wc3 AP _ cP (digs (cel r 1) 2)) := Lib.hid (ob_low hob (by have := XX.out.bel.size; have := WN.out; omega))
      clear XX hba hob hHeld
      have XX := XN
      clear XN
      (try go_wp2_with fail)
      refine hK.out _ _ (by exact ⟨fun q hq => XX.out.bel.block q hq, XX.out.g⟩) (fun hHeld => ?_)
      clear hK K
      refine wpAnyH_ready (rs := [8]) (by kernel_rfl) (by simp) ?_
      refine AllReadyH.cons rfl (fun K hK => ?_) AllReadyH.nil
      refine step_ap rfl (.tmp 23) (.tmp 26) rfl (S) (1 + k * 18 + 1) _ _ _ rfl O3.out _ (2) _ _ rfl (ob_src OP.out) ((ob_cap OP.out).2.2) (by omega) (by have := XX.out.bel.size; have := WN.out; omega) ?_
      intro A4 c4 wc4 hob hba hot
      have XN : Hid (FrG S G w5 wc4) := Lib.hid (XX.out.app hba hot XG.out (by decide))
      have O4 : Hid (Ob S wc4 A4 _ c4 (rwB fwdS rs k ++ digs (cel r 0) 1 ++ digs (cel r 1) 2)) := Lib.hid (hob)
      clear XX hba hob hot hHeld
      have XX := XN
      clear XN
      refine hK.out _ _ (by exact ⟨fun q hq => XX.out.bel.block q hq, XX.out.g⟩) (fun hHeld => ?_)
      clear hK K
      refine wpAnyH_ready (rs := [11]) (by kernel_rfl) (by simp) ?_
      refine AllReadyH.cons rfl (fun K hK => ?_) AllReadyH.nil
      refine step_ap rfl (.tmp 27) (.tmp 29) rfl (S) (1 + k * 18 + 1 + 2) _ _ _ rfl O4.out _ (8) _ _ rfl (src_all (fwd_at (range_of (bl_keep XG.out XX.out.g)) HL9.out).2.2.1 (seg_len (by rw [HL9.out]; decide))) (fun h => by cases h) (by omega) (by have := XX.out.bel.size; have := WN.out; omega) ?_
      intro A5 c5 wc5 hob hba hot
      have XN : Hid (FrG S G w5 wc5) := Lib.hid (XX.out.app hba hot XG.out (by decide))
      have O5 : Hid (Ob S wc5 A5 _ c5 (rwB fwdS rs k ++ digs (cel r 0) 1 ++ digs (cel r 1) 2 ++ seg r 2 8)) := Lib.hid (hob)
      clear XX hba hob hot hHeld
      have XX := XN
      clear XN
      refine hK.out _ _ (by exact ⟨fun q hq => XX.out.bel.block q hq, XX.out.g⟩) (fun hHeld => ?_)
      clear hK K
      refine wpAnyH_ready (rs := [14]) (by kernel_rfl) (by simp) ?_
      refine AllReadyH.cons rfl (fun K hK => ?_) AllReadyH.nil
      go_simp
      go_at_call 31
      refine (dNum (cel r 10) 7 _ (by decide)).mono ?_
      rintro e wc6 ⟨AR, cR, rfl, hob, hba⟩
      have XN : Hid (FrG S G w5 wc6) := Lib.hid (XX.out.call WN.out hba)
      replace O5 := Lib.hid (ob_keep O5.out hba)
      have OR : Hid (Ob S wc6 AR _ cR (digs (cel r 10) 7)) := Lib.hid (ob_low hob (by have := XX.out.bel.size; have := WN.out; omega))
      clear XX hba hob hHeld
      have XX := XN
      clear XN
      (try go_wp2_with fail)
      refine hK.out _ _ (by exact ⟨fun q hq => XX.out.bel.block q hq, XX.out.g⟩) (fun hHeld => ?_)
      clear hK K
      refine wpAnyH_ready (rs := [15]) (by kernel_rfl) (by simp) ?_
      refine AllReadyH.cons rfl (fun K hK => ?_) AllReadyH.nil
      refine step_ap rfl (.tmp 30) (.tmp 33) rfl (S) (1 + k * 18 + 1 + 2 + 8) _ _ _ rfl O5.out _ (7) _ _ rfl (ob_src OR.out) ((ob_cap OR.out).2.2) (by omega) (by have := XX.out.bel.size; have := WN.out; omega) ?_
      intro A6 c6 wc7 hob hba hot
      have XN : Hid (FrG S G w5 wc7) := Lib.hid (XX.out.app hba hot XG.out (by decide))
      have O6 : Hid (Ob S wc7 A6 _ c6 (rwB fwdS rs k ++ digs (cel r 0) 1 ++ digs (cel r 1) 2 ++ seg r 2 8 ++ digs (cel r 10) 7)) := Lib.hid (hob)
      clear XX hba hob hot hHeld
      have XX := XN
      clear XN
      refine hK.out _ _ (by exact ⟨fun q hq => XX.out.bel.block q hq, XX.out.g⟩) (fun hHeld => ?_)
      clear hK K
      refine tk (i := 16) (v := ?_) rfl (Or.inl ⟨by rfl, ?_⟩) (by assumption) ?_
      rotate_left
      · (intro w hSw; (try dsimp only at hSw); go_simp; try with_reducible rfl)
      simp only [Act.put, ly1, ly2, ly3, ly4, ly5, ly6]
      refine wpAnyH_done (by kernel_rfl) ?_ _
      show K _ _
      refine hK _ _ ?_
      clear hK K hHeld
      go_wp2
      go_roundw
      case rel => exact ⟨k + 1, A6, c6, by omega, by go_num, sl_eq (by omega), ob_eq O6.out (by omega) (by rw [HE.out]; simp only [List.append_assoc]), B2.out.trans XX.out.bel⟩
      case measure => simp [intOf]; omega
    · obtain rfl : k = len := by omega
      go_wp2
      go_ret
      exact ⟨A, c, rfl, by rw [HS.out, ← rwB_all, HN.out]; exact O2.out, by rw [HS.out]; exact B2.out⟩
end Go.Proofs.YtffaddefnpkcgaaGreatDoor
namespace Go.Proofs.YtffaddefnpkcgaaGreatDoor
open Go.RowKit
set_option maxRecDepth 100000
theorem enc_key {S : Sch} {rs : List (List Int)} (h : AllR hS rs) {k : Nat} (hk : k < rs.length) (e : S = hS) : enc S (rcd rs k) = rcd rs k := by
  subst e
  exact enc_b (lrow_len h hk)
attribute [local irreducible] bvals vals cel seg digs enc rwB rcd parC
set_option maxHeartbeats 4000000 in
theorem dParB (t : TxP) (h : TxH) (w : World) (ht : WfT t) (hm : Mem w t h) (h100 : t.keys.length ≤ 100) :
    Calls Tryz.prog 35 #[.agg (parC t h).toArray] w fun e w' => ∃ A c, e = .returned (.slice A (3 + (1 + t.keys.length * 8)) c) ∧ Ob w.heap.size w' A (3 + (1 + t.keys.length * 8)) c (enc parS t.par ++ encL hS t.keys) ∧ Below w.heap.size w w' := by
  obtain ⟨S, hS0⟩ : ∃ S, w.heap.size = S := ⟨_, rfl⟩
  have HS := Lib.hid hS0
  have X : Hid (BL (w.alloc (Obj.cells (parC t h).toArray 27)) S (parC t h) 27) := by rw [← hS0]; exact heap_alloc_last w _
  have B0 : Hid (Below S w (w.alloc (Obj.cells (parC t h).toArray 27))) := by rw [← hS0]; exact (Below.refl _ w).alloc (Nat.le_refl _) _
  have WN : Hid (S + 1 ≤ (w.alloc (Obj.cells (parC t h).toArray 27)).heap.size) := Lib.hid (Nat.le_of_eq (by rw [World.size_alloc, hS0]))
  have LP : Hid (t.par.length = 3) := okT_len ht.par
  have CF : Hid (∀ w' : World, BL w' S (parC t h) 27 → w'.cell? ⟨S, 0, none⟩ = some (.int .i64 ((cel t.par 0))) ∧ w'.cell? ⟨S, 0 + 1, none⟩ = some (.int .i64 ((cel t.par 1))) ∧ w'.cell? ⟨S, 0 + 2, none⟩ = some (.int .i64 ((cel t.par 2))) ∧ w'.cell? ⟨S, 0 + 3, none⟩ = some (.slice h.k.A t.keys.length h.k.c)) := Lib.hid fun w' hb => par_at (range_of hb) LP.out
  simp only [Nat.zero_add] at CF
  obtain ⟨rs, hrs⟩ : ∃ rs, t.keys = rs := ⟨_, rfl⟩
  obtain ⟨len, hlen⟩ : ∃ n, rs.length = n := ⟨_, rfl⟩
  obtain ⟨A0, hA0⟩ : ∃ A0, h.k.A = A0 := ⟨_, rfl⟩
  obtain ⟨c0, hc0⟩ : ∃ c0, h.k.c = c0 := ⟨_, rfl⟩
  have HR : Hid (LRow hS w A0 rs) := Lib.hid (by rw [← hrs, ← hA0]; exact hm.k)
  have HA : Hid (AllR hS rs) := Lib.hid (by rw [← hrs]; exact ht.keys)
  have hc : len ≤ c0 := by rw [← hlen, ← hrs, ← hc0]; exact hm.kc.le
  have HN := Lib.hid hlen
  have HE0 := Lib.hid (enc_par LP.out)
  rw [hrs, hlen] at h100 ⊢
  rw [hrs, hlen, hA0, hc0] at CF
  have h1 : IntKind.i64.wrap (len : Int) = (len : Int) := by rw [IntKind.wrap_i64]; omega
  generalize hp : t.par = p at *
  clear ht hm hrs hlen hA0 hc0 LP hp
  generalize parC t h = P at *
  go_enter Tryz.func35, Tryz.ntmps35
  go_upto_region 1 with (fail)
  generalize (w.alloc (Obj.cells P.toArray 27)) = v at *
  clear hS0
  rename_i K hK
  have XX : Hid (Below (S + 1) v v.drew) := (Below.refl _ _).drew
  refine wp_region_held_drew (S := (fun w' : World => ∀ q, q < (S + 1) → w'.heap[q]? = v.heap[q]?)) (by kernel_rfl) (by exact fun _ _ => rfl) (fun hHeld => ?_)
  refine tk (i := 0) (v := ?_) rfl (Or.inl ⟨by rfl, ?_⟩) (by assumption) ?_
  rotate_left
  · (intro w hSw; (try dsimp only at hSw); go_simp; try with_reducible rfl)
  simp only [Act.put, ly1, ly3, ly4, ly5, ly6]
  refine tk (i := 1) (v := ?_) rfl (Or.inl ⟨by rfl, ?_⟩) (by assumption) ?_
  rotate_left
  · (intro w hSw; (try dsimp only at hSw); have c1 := CF.out w ((hSw S (by omega)).trans X.out); obtain ⟨c10, c11, c12, c13⟩ := c1; go_simp; try with_reducible rfl)
  simp only [Act.put, ly1, ly2, ly3, ly4, ly5, ly6]
  refine tk (i := 3) (v := ?_) rfl (Or.inl ⟨by rfl, ?_⟩) (by assumption) ?_
  rotate_left
  · (intro w hSw; (try dsimp only at hSw); go_simp; try with_reducible rfl)
  simp only [Act.put, ly1, ly2, ly3, ly4, ly5, ly6]
  refine tk (i := 4) (v := ?_) rfl (Or.inl ⟨by rfl, ?_⟩) (by assumption) ?_
  rotate_left
  · (intro w hSw; (try dsimp only at hSw); have c1 := CF.out w ((hSw S (by omega)).trans X.out); obtain ⟨c10, c11, c12, c13⟩ := c1; go_simp; try with_reducible rfl)
  simp only [Act.put, ly1, ly2, ly3, ly4, ly5, ly6]
  refine tk (i := 7) (v := ?_) rfl (Or.inl ⟨by rfl, ?_⟩) (by assumption) ?_
  rotate_left
  · (intro w hSw; (try dsimp only at hSw); go_simp; try with_reducible rfl)
  simp only [Act.put, ly1, ly2, ly3, ly4, ly5, ly6]
  refine tk (i := 8) (v := ?_) rfl (Or.inl ⟨by rfl, ?_⟩) (by assumption) ?_
  rotate_left
  · (intro w hSw; (try dsimp only at hSw); have c1 := CF.out w ((hSw S (by omega)).trans X.out); obtain ⟨c10, c11, c12, c13⟩ := c1; go_simp; try with_reducible rfl)
  simp only [Act.put, ly1, ly2, ly3, ly4, ly5, ly6]
  refine tk (i := 11) (v := ?_) rfl (Or.inl ⟨by rfl, ?_⟩) (by assumption) ?_
  rotate_left
  · (intro w hSw; (try dsimp only at hSw); go_simp; try with_reducible rfl)
  simp only [Act.put, ly1, ly2, ly3, ly4, ly5, ly6]
  refine tk (i := 12) (v := ?_) rfl (Or.inl ⟨by rfl, ?_⟩) (by assumption) ?_
  rotate_left
  · (intro w hSw; (try dsimp only at hSw); have c1 := CF.out w ((hSw S (by omega)).trans X.out); obtain ⟨c10, c11, c12, c13⟩ := c1; go_simp; try with_reducible rfl)
  simp only [Act.put, ly1, ly2, ly3, ly4, ly5, ly6]
  refine tk (i := 13) (v := ?_) rfl (Or.inl ⟨by rfl, ?_⟩) (by assumption) ?_
  rotate_left
  · (intro w hSw; (try dsimp only at hSw); go_simp; try with_reducible rfl)
  simp only [Act.put, ly1, ly2, ly3, ly4, ly5, ly6]
  refine wpAnyH_ready (rs := [2]) (by kernel_rfl) (by simp) ?_
  refine AllReadyH.cons rfl (fun K hK => ?_) AllReadyH.nil
  go_simp
  go_at_call 31
  refine (dNum (cel p 0) 1 _ (by decide)).mono ?_
  rintro e wc1 ⟨A1, c1, rfl, hob, hba⟩
  have XN : Hid (Below (S + 1) v wc1) := XX.out.trans (hba.mono (by have := XX.out.size; have := WN.out; omega))
  have O1 : Hid (Ob (S + 1) wc1 A1 _ c1 (digs (cel p 0) 1)) := Lib.hid (ob_low hob (by have := XX.out.size; have := WN.out; omega))
  clear XX hba hob hHeld
  have XX := XN
  clear XN
  (try go_wp2_with fail)
  refine hK.out _ _ (by exact fun q hq => XX.out.block q hq) (fun hHeld => ?_)
  clear hK K
  refine wpAnyH_ready (rs := [5]) (by kernel_rfl) (by simp) ?_
  refine AllReadyH.cons rfl (fun K hK => ?_) AllReadyH.nil
  go_simp
  go_at_call 31
  refine (dNum (cel p 1) 1 _ (by decide)).mono ?_
  rintro e wc2 ⟨AM, cM, rfl, hob, hba⟩
  have XN : Hid (Below (S + 1) v wc2) := XX.out.trans (hba.mono (by have := XX.out.size; have := WN.out; omega))
  replace O1 := Lib.hid (ob_keep O1.out hba)
  have OM : Hid (Ob (S + 1) wc2 AM _ cM (digs (cel p 1) 1)) := Lib.hid (ob_low hob (by have := XX.out.size; have := WN.out; omega))
  clear XX hba hob hHeld
  have XX := XN
  clear XN
  (try go_wp2_with fail)
  refine hK.out _ _ (by exact fun q hq => XX.out.block q hq) (fun hHeld => ?_)
  clear hK K
  refine wpAnyH_ready (rs := [6]) (by kernel_rfl) (by simp) ?_
  refine AllReadyH.cons rfl (fun K hK => ?_) AllReadyH.nil
  refine step_ap rfl (.tmp 7) (.tmp 10) rfl ((S + 1)) (1) _ _ _ rfl O1.out _ (1) _ _ rfl (ob_src OM.out) ((ob_cap OM.out).2.2) (by omega) (by have := XX.out.size; have := WN.out; omega) ?_
  intro A2 c2 wc3 hob hba hot
  have XN : Hid (Below (S + 1) v wc3) := XX.out.trans (hba.mono (by omega))
  have O2 : Hid (Ob (S + 1) wc3 A2 _ c2 (digs (cel p 0) 1 ++ digs (cel p 1) 1)) := Lib.hid (hob)
  clear XX hba hob hot hHeld
  have XX := XN
  clear XN
  refine hK.out _ _ (by exact fun q hq => XX.out.block q hq) (fun hHeld => ?_)
  clear hK K
  refine wpAnyH_ready (rs := [9]) (by kernel_rfl) (by simp) ?_
  refine AllReadyH.cons rfl (fun K hK => ?_) AllReadyH.nil
  go_simp
  go_at_call 31
  refine (dNum (cel p 2) 1 _ (by decide)).mono ?_
  rintro e wc4 ⟨AP, cP, rfl, hob, hba⟩
  have XN : Hid (Below (S + 1) v wc4) := XX.out.trans (hba.mono (by have := XX.out.size; have := WN.out; omega))
  replace O2 := Lib.hid (ob_keep O2.out hba)
  have OP : Hid (Ob (S + 1) wc4 AP _ cP (digs (cel p 2) 1)) := Lib.hid (ob_low hob (by have := XX.out.size; have := WN.out; omega))
  clear XX hba hob hHeld
  have XX := XN
  clear XN
  (try go_wp2_with fail)
  refine hK.out _ _ (by exact fun q hq => XX.out.block q hq) (fun hHeld => ?_)
  clear hK K
  refine wpAnyH_ready (rs := [10]) (by kernel_rfl) (by simp) ?_
  refine AllReadyH.cons rfl (fun K hK => ?_) AllReadyH.nil
  refine step_ap rfl (.tmp 11) (.tmp 14) rfl ((S + 1)) (1 + 1) _ _ _ rfl O2.out _ (1) _ _ rfl (ob_src OP.out) ((ob_cap OP.out).2.2) (by omega) (by have := XX.out.size; have := WN.out; omega) ?_
  intro A3 c3 wc5 hob hba hot
  have XN : Hid (Below (S + 1) v wc5) := XX.out.trans (hba.mono (by omega))
  have O3 : Hid (Ob (S + 1) wc5 A3 _ c3 (digs (cel p 0) 1 ++ digs (cel p 1) 1 ++ digs (cel p 2) 1)) := Lib.hid (hob)
  clear XX hba hob hot hHeld
  have XX := XN
  clear XN
  refine hK.out _ _ (by exact fun q hq => XX.out.block q hq) (fun hHeld => ?_)
  clear hK K
  refine wpAnyH_ready (rs := [14]) (by kernel_rfl) (by simp) ?_
  refine AllReadyH.cons rfl (fun K hK => ?_) AllReadyH.nil
  go_simp
  go_at_call 31
  refine (dNum (len : Int) 1 _ (by decide)).mono ?_
  rintro e wc6 ⟨AQ, cQ, rfl, hob, hba⟩
  have XN : Hid (Below (S + 1) v wc6) := XX.out.trans (hba.mono (by have := XX.out.size; have := WN.out; omega))
  replace O3 := Lib.hid (ob_keep O3.out hba)
  have OQ : Hid (Ob (S + 1) wc6 AQ _ cQ (digs (len : Int) 1)) := Lib.hid (ob_low hob (by have := XX.out.size; have := WN.out; omega))
  clear XX hba hob hHeld
  have XX := XN
  clear XN
  (try go_wp2_with fail)
  refine hK.out _ _ (by exact fun q hq => XX.out.block q hq) (fun hHeld => ?_)
  clear hK K
  refine wpAnyH_ready (rs := [15]) (by kernel_rfl) (by simp) ?_
  refine AllReadyH.cons rfl (fun K hK => ?_) AllReadyH.nil
  refine step_ap rfl (.tmp 15) (.tmp 19) rfl ((S + 1)) (1 + 1 + 1) _ _ _ rfl O3.out _ (1) _ _ rfl (ob_src OQ.out) ((ob_cap OQ.out).2.2) (by omega) (by have := XX.out.size; have := WN.out; omega) ?_
  intro A5 c5 wc7 hob hba hot
  have XN : Hid (Below (S + 1) v wc7) := XX.out.trans (hba.mono (by omega))
  have O5 : Hid (Ob (S + 1) wc7 A5 _ c5 (digs (cel p 0) 1 ++ digs (cel p 1) 1 ++ digs (cel p 2) 1 ++ digs (len : Int) 1)) := Lib.hid (hob)
  clear XX hba hob hot hHeld
  have XX := XN
  clear XN
  refine hK.out _ _ (by exact fun q hq => XX.out.block q hq) (fun hHeld => ?_)
  clear hK K
  refine tk (i := 16) (v := ?_) rfl (Or.inl ⟨by rfl, ?_⟩) (by assumption) ?_
  rotate_left
  · (intro w hSw; (try dsimp only at hSw); go_simp; try with_reducible rfl)
  simp only [Act.put, ly1, ly2, ly3, ly4, ly5, ly6]
  refine wpAnyH_done (by kernel_rfl) ?_ _
  show K _ _
  refine hK _ _ ?_
  clear hK K hHeld
  have HX : Hid (Ob (S + 1) wc7 A5 (3 + (1 + 0 * 8)) c5 (enc parS p ++ rwB hS rs 0)) := Lib.hid (ob_eq O5.out (by omega) (by rw [rwB_0, HN.out, HE0.out]))
  have HB := Lib.hid XX.out
  clear O5 XX
  simp only [Nat.reduceAdd]
  go_wp2
  go_loopw [3, 4] (fun x i wr => ∃ (k : Nat) (A : Option Addr) (c : Nat), k ≤ len ∧ i = .int .i64 k ∧ x = .slice A (3 + (1 + k * 8)) c ∧ Ob (S + 1) wr A (3 + (1 + k * 8)) c (enc parS p ++ rwB hS rs k) ∧ Below (S + 1) v wr) (fun _ i _ => len - (intOf i).toNat)
  case atStart => exact ⟨0, A5, c5, by omega, rfl, sl_eq (by omega), HX.out, HB.out⟩
  case round =>
    obtain ⟨k, A, c, hk, rfl, rfl, hown, hbel⟩ := hrel
    have O2 := Lib.hid hown
    have B2 := Lib.hid hbel
    have X2 := Lib.hid (bl_keep X.out (hbel.block S (by omega)))
    have kc3 := (CF.out wr X2.out).2.2.2
    clear hown hbel
    by_cases hlt : k < len
    · have h2 : (k : Int) < (len : Int) := by omega
      have h3 : IntKind.i64.wrap (k : Int) = (k : Int) := by rw [IntKind.wrap_i64]; omega
      obtain ⟨b, o, rfl, hrow⟩ := lrow_at HR.out (by rw [HN.out]; omega)
      have hk2 := hrow k (by rw [HN.out]; exact hlt)
      rw [show hS.length = 8 from rfl] at hk2
      have hl8 : (rcd rs k).length = 8 := lrow_len HA.out (show k < rs.length by rw [HN.out]; exact hlt)
      have hbS : b < S := by
        rw [← HS.out]
        have h9 := rg_byt (k := 8) hk2 hl8
        exact World.block_lt_of_cell? w _ (h9 0 _ (List.getElem?_eq_getElem (by unfold bvals; rw [List.length_map]; omega)))
      have SK : Hid (Src wr (some ⟨b, o + k * 8, none⟩) 8 (rcd rs k)) := Lib.hid (src_all (range_keep1 (rg_byt (k := 8) hk2 hl8) ((B2.out.block b (by omega)).trans (B0.out.block b hbS))) hl8)
      have HE := Lib.hid (rwB_next (S := hS) (show k < rs.length by rw [HN.out]; exact hlt))
      rw [enc_key HA.out (by rw [HN.out]; exact hlt) rfl] at HE
      clear hrow hk2 hl8 hbS
      go_wp2_with (first
        | (at_builtin; refine wpList_ap rfl (.tmp 28) (.tmp 33) rfl (S + 1) (3 + (1 + k * 8)) _ _ _ rfl O2.out _ 8 _ _ rfl SK.out (fun h => by cases h) (by omega) (by have := B2.out.size; have := WN.out; omega) ?_; intro A6 c6 w6 ho hb _; have O6 := Lib.hid ho; have B6 := Lib.hid (B2.out.trans hb); clear ho hb)
        | fail)
      go_roundw
      case rel => exact ⟨k + 1, A6, c6, by omega, by go_num, sl_eq (by omega), ob_eq O6.out (by omega) (by rw [HE.out, List.append_assoc]), B6.out⟩
      case measure => simp [intOf]; omega
    · obtain rfl : k = len := by omega
      go_wp2
      go_ret
      exact ⟨A, c, rfl, by rw [HS.out, ← rwB_all, HN.out]; exact ob_low O2.out (by omega), by rw [HS.out]; exact B0.out.trans (B2.out.mono (by omega))⟩
end Go.Proofs.YtffaddefnpkcgaaGreatDoor

