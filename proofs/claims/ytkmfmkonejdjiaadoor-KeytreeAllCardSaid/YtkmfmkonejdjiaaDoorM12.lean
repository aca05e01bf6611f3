/-
  Prove.
-/
import Derived.Test.YtkmfmkonejdjiaaDoorMD
namespace Go.Proofs.YtkmfmkonejdjiaaDoor
open Go.RowKit
/-- what Prove answers where there is a proof -/
def PvR (R : List (List Int)) (w : World) (e : Ending) (w' : World) : Prop := ∃ (A : Option Addr) (c : Nat), e = .returned (.tuple #[.slice A R.length c, .bool true]) ∧ Src w' A (8 * R.length) R.flatten ∧ R.length ≤ c ∧ c ≤ maxLen ∧ Below w.heap.size w w'
def lenV : Value → Nat
  | .slice _ n _ => n
  | _ => 0
attribute [local irreducible] ua da ba kk sw S8.run rt hs comp splice outB sha msg rootF leafH twoH stepsF cutN leadF provL bvals
set_option maxRecDepth 100000 in
set_option maxHeartbeats 4000000 in
/-- where there is none -/
theorem p8no (A : Option Addr) (n cap : Nat) (i : Int) (w : World) (hno : (decide (0 ≤ i) && (decide (i < n) && decide ((n : Int) ≤ 65536))) = false) :
    Calls Tryd.prog 20 #[.slice A n cap, .int .i64 i] w fun e w' => e = .returned (.tuple #[.slice none 0 0, .bool false]) ∧ Below w.heap.size w w' := by
  have C : ∀ w, Calls Tryd.prog 37 #[.int .i64 i, .int .i64 n] w fun e w' => e = .returned (.bool false) ∧ w = w' := fun w => by
    have := p16 i n w
    rw [hno] at this
    exact this.mono fun _ _ h => ⟨h.1, h.2.symm⟩
  have HC := Lib.hid C
  clear C hno
  go_enter Tryd.func20, Tryd.ntmps20
  go_wp2_with (go_at_call 37; refine (HC.out _).mono ?_; rintro e w1 ⟨rfl, rfl⟩)
  go_ret2
  exact ⟨rfl, Below.refl _ _⟩
set_option maxRecDepth 100000 in
set_option maxHeartbeats 8000000 in
/-- where there is one -/
theorem p8 (A : Option Addr) (n cap i : Nat) (l : List Int) (w : World) (hk : Keys w) (hs : Src w A (8 * n) l) (hi : i < n) (h64 : n ≤ 65536) (hcap : n ≤ cap) (hmax : cap ≤ 9223372036854775807) :
    Calls Tryd.prog 20 #[.slice A n cap, .int .i64 i] w (PvR (provL n l i n) w) := by
  have HC : Hid (∀ w, Calls Tryd.prog 37 #[.int .i64 i, .int .i64 n] w fun e w' => e = .returned (.bool true) ∧ w = w') := fun w => by
    have := p16 (i : Int) (n : Int) w
    rw [decide_eq_true (by omega), decide_eq_true (by omega), decide_eq_true (by omega)] at this
    exact this.mono fun _ _ h => ⟨h.1, h.2.symm⟩
  obtain ⟨R, hR⟩ : ∃ R, provL n l i n = R := ⟨_, rfl⟩
  have HR := Lib.hid hR
  have HL : Hid (R.length ≤ 65536) := by
    show _ ≤ _
    rw [← hR, provL_len]
    have := stepsF_le n i n h64 (by omega)
    omega
  rw [hR]
  have HK := Lib.hid hk
  have HP : Hid (0 < w.heap.size) := keys_pos hk
  have H0 : Hid (i < n ∧ n ≤ 65536 ∧ n ≤ cap ∧ cap ≤ 9223372036854775807) := ⟨hi, h64, hcap, hmax⟩
  have HX := Lib.hid hs
  clear hk hs hi h64 hcap hmax hR
  go_enter Tryd.func20, Tryd.ntmps20
  go_wp2_with (go_at_call 37; refine (HC.out _).mono ?_; rintro e w1 ⟨rfl, rfl⟩)
  go_loopw [0, 1, 6, 7, 8] (fun a b p _ _ wr => ∃ (A' : Option Addr) (n' c' i' : Nat) (l' : List Int) (B : Option Addr) (t cb : Nat) (T : List (List Int)), a = .slice A' n' c' ∧ b = .int .i64 i' ∧ p = .slice B t cb ∧ (i' < n' ∧ n' ≤ 65536 ∧ n' ≤ c' ∧ c' ≤ 9223372036854775807) ∧ Src w A' (8 * n') l' ∧ (t = T.length ∧ (∀ x ∈ T, x.length = 8) ∧ provL n' l' i' n' ++ T.reverse = R) ∧ wr.ownsRow w.heap.size 23 8 (.slice B t cb) t (bvals T.flatten) ∧ Below w.heap.size w wr) (fun a _ _ _ _ _ => lenV a)
  case atStart => exact ⟨A, n, cap, i, l, none, 0, 0, [], rfl, rfl, rfl, H0.out, HX.out, ⟨rfl, fun x hx => (by cases hx), (by rw [HR.out]; simp)⟩, own8_nil _ _, Below.refl _ _⟩
  case round =>
    clear H0 HX HR
    obtain ⟨A', n', c', i', l', B, t, cb, T, rfl, rfl, rfl, hin, hsrc, hT, hown, hbel⟩ := hrel
    have HI := Lib.hid hin
    have HX := Lib.hid hsrc
    have HT := Lib.hid hT
    have OW := Lib.hid hown
    have BL := Lib.hid hbel
    have n64 : (n' : Int) ≤ 65536 := by omega
    have i0 : (i' : Int) < 65536 := by omega
    have KW : Hid (∀ w', Below w.heap.size w w' → Keys w') := fun w' hb => keys_below HK.out hb HP.out
    have SW : Hid (∀ w', Below w.heap.size w w' → Src w' A' (8 * n') l') := fun w' hb => HX.out.keep fun q hq => hb.block q hq
    clear hsrc hT hown hbel
    by_cases hn : n' = 1
    · subst hn
      have hTR : T.reverse = R := by
        have := HT.out.2.2
        rw [provL_one] at this
        simpa using this
      have hTl : T.length = R.length := by rw [← hTR, List.length_reverse]
      obtain rfl := HT.out.1
      have C := Lib.hid (p19 w.heap.size B cb T wr HT.out.2.1 (by rw [hTl]; exact HL.out) OW.out)
      have hcb := own8_src OW.out
      have HTR := Lib.hid hTR
      have HTL := Lib.hid hTl
      have HCB := Lib.hid hcb.2
      have HBB : Hid (w.heap.size ≤ wr.heap.size) := BL.out.size
      clear hTR hTl hin hcb
      go_wp2_with (go_at_call 40; refine C.out.mono ?_; rintro e w2 ⟨rfl, hsr, hb2⟩; have HSR := Lib.hid hsr; have HB2 := Lib.hid hb2; clear hsr hb2)
      go_ret2
      refine ⟨B, cb, ?_, ?_, ?_, HCB.out.2, BL.out.trans HB2.out⟩
      · rw [HTL.out]; rfl
      · have := HSR.out
        rw [HTR.out, HTL.out] at this
        exact this
      · rw [← HTL.out]; exact HCB.out.1
    · have hn2 : 2 ≤ n' := by omega
      obtain ⟨c1, c2, c3⟩ := cutN_lo n' hn2 hin.2.1
      have CC : Hid (∀ w, Calls Tryd.prog 38 #[.int .i64 n'] w fun e w' => e = .returned (.int .i64 (cutN n')) ∧ w' = w) := fun w => p17 n' w hn2 HI.out.2.1
      obtain ⟨k, hk⟩ : ∃ k, cutN n' = k := ⟨_, rfl⟩
      have HK2 := Lib.hid hk
      rw [hk] at c1 c2 c3 CC
      obtain ⟨g, o, hA⟩ := src_at HX.out (by omega)
      subst hA
      have s1 := fun w => sl_front g o n' c' k w (by omega) (by omega)
      have s2 := fun w => sl_back g o n' c' k w (by omega) (by omega)
      have q1 : (1 : Int) < (n' : Int) := by omega
      have HC1 : Hid (1 ≤ k ∧ k < n') := ⟨c1, c2⟩
      obtain ⟨n1, hn1⟩ : ∃ q, n' = q + 1 := ⟨n' - 1, by omega⟩
      have HN1 := Lib.hid hn1
      have kk0 : (k : Int) < 65536 := by omega
      obtain ⟨m, hm⟩ : ∃ m, n' - k = m := ⟨_, rfl⟩
      obtain ⟨d, hd⟩ : ∃ d, c' - k = d := ⟨_, rfl⟩
      rw [hm, hd] at s2
      have HM := Lib.hid hm
      have HD := Lib.hid hd
      by_cases hlt : i' < k
      · have q2 : (i' : Int) < (k : Int) := by omega
        have HN : Hid (provL k (l'.take (8 * k)) i' k ++ (T ++ [rootF m (l'.drop (8 * k))]).reverse = R) := by
          show _ = _
          have := HT.out.2.2
          rw [hn1, provL_l n1 i' (n1 + 1) l' (by omega) (by rw [← hn1, hk]; exact hlt), ← hn1, hk, provL_fuel n1 k i' k _ (by omega) (by omega) (by omega), hm] at this
          rw [← this]; simp
        have E1 : Hid (∀ w', Below w.heap.size w w' → Calls Tryd.prog 39 #[.slice (some ⟨g, o + k * 8, none⟩) m d] w' fun e w'' => e = .returned (.agg (ba (rootF m (l'.drop (8 * k))))) ∧ Below w'.heap.size w' w'') := fun w' hb => by
          have := HI.out
          have hx := src_drop (SW.out w' hb) k c2
          rw [hm] at hx
          exact p18 m _ m d _ w' (KW.out w' hb) hx (by omega) (Nat.le_refl _) (by omega) (by omega) (by omega)
        have HH : Hid ((rootF m (l'.drop (8 * k))).length = 8) := rootF_len _ _
        have HS2 : Hid (Src w (some ⟨g, o, none⟩) (8 * k) (l'.take (8 * k))) := src_take HX.out k (by omega)
        have HI2 : Hid (i' < k ∧ k ≤ 65536 ∧ k ≤ c' ∧ c' ≤ 9223372036854775807) := by have := HI.out; exact ⟨hlt, by omega, by omega, by omega⟩
        have h8 : ∀ x ∈ T ++ [rootF m (l'.drop (8 * k))], x.length = 8 := fun x hx => by
          rcases List.mem_append.1 hx with hx | hx
          · exact HT.out.2.1 x hx
          · rw [List.mem_singleton.1 hx]; exact HH.out
        have HT8 := Lib.hid h8
        have HTf : Hid ((T ++ [rootF m (l'.drop (8 * k))]).flatten = T.flatten ++ rootF m (l'.drop (8 * k))) := by show _ = _; simp
        generalize rootF m (l'.drop (8 * k)) = h at *
        obtain ⟨y0, y1, y2, y3, y4, y5, y6, y7, hy8⟩ := c8cells _ HH.out
        have HY8 := Lib.hid hy8
        have E2 : Hid (∀ w', Below w.heap.size w w' → Calls Tryd.prog 39 #[.slice (some ⟨g, o + k * 8, none⟩) m d] w' fun e w'' => e = .returned (.agg #[.int .u8 y0, .int .u8 y1, .int .u8 y2, .int .u8 y3, .int .u8 y4, .int .u8 y5, .int .u8 y6, .int .u8 y7]) ∧ Below w'.heap.size w' w'') := fun w' hb => by
          have := E1.out w' hb
          rw [hy8, ba_lit] at this
          exact this
        clear hy8 E1
        clear hm hd hk hn1 h8 hn hin c1 c2 c3
        go_wp2_with fail
        go_quiet ((go_at_call 38; exact Calls.quiet_of_same (CC.out _)))
        clear s1 s2 CC
        go_wp2_with fail
        refine (E2.out _ (below_drewN BL.out _)).mono ?_
        rintro e w2 ⟨rfl, hb⟩
        have hb1 : Below wr.heap.size wr w2 := ⟨hb.os, hb.tape, hb.output, hb.size, hb.block⟩
        have B2 : Hid (Below w.heap.size w w2) := BL.out.trans (hb1.mono BL.out.size)
        have O2 : Hid (w2.ownsRow w.heap.size 23 8 (.slice B t cb) t (bvals T.flatten)) := own8_keepB OW.out hb1
        have HTL : Hid (t ≤ 65536) := by
          show _ ≤ _
          have h1 := HT.out.1
          have h2 := congrArg List.length HN.out
          have h3 := HL.out
          simp only [List.length_append, List.length_reverse, List.length_singleton] at h2
          omega
        have T3 : Hid (BA (w2.alloc (Obj.cells #[.int .u8 y0, .int .u8 y1, .int .u8 y2, .int .u8 y3, .int .u8 y4, .int .u8 y5, .int .u8 y6, .int .u8 y7] 23)) w2.heap.size 23 h) := by
          show _ = _
          rw [HY8.out, ba_lit]
          exact heap_alloc_last w2 _
        have B3 : Hid (Below w.heap.size w (w2.alloc (Obj.cells #[.int .u8 y0, .int .u8 y1, .int .u8 y2, .int .u8 y3, .int .u8 y4, .int .u8 y5, .int .u8 y6, .int .u8 y7] 23))) := B2.out.alloc B2.out.size _
        have O3 : Hid ((w2.alloc (Obj.cells #[.int .u8 y0, .int .u8 y1, .int .u8 y2, .int .u8 y3, .int .u8 y4, .int .u8 y5, .int .u8 y6, .int .u8 y7] 23)).ownsRow w.heap.size 23 8 (.slice B t cb) t (bvals T.flatten)) := own8_keepB O2.out ((Below.refl _ _).alloc (Nat.le_refl _) _)
        clear hb hb1
        go_wp2_with (at_builtin; refine wpList_app8 rfl (.tmp 31) (.tmp 34) rfl w.heap.size t (.slice B t cb) T.flatten rfl O3.out w2.heap.size 1 h rfl T3.out HH.out HTL.out B3.out.size ?_; intro A2 cc2 w4 hown2 hg2)
        have B4 : Hid (Below w.heap.size w w4) := B3.out.grown hg2 B3.out.size (own8_base O3.out)
        have O4 : Hid (w4.ownsRow w.heap.size 23 8 (.slice A2 (t + 1) cc2) (t + 1) (bvals (T ++ [h]).flatten)) := by rw [HTf.out]; exact hown2
        clear hown2 hg2
        go_roundw
        case rel => exact ⟨some ⟨g, o, none⟩, k, c', i', l'.take (8 * k), A2, t + 1, cc2, T ++ [h], rfl, rfl, rfl, HI2.out, HS2.out, ⟨by rw [HT.out.1]; simp, HT8.out, HN.out⟩, O4.out, B4.out⟩
        case measure => have := HC1.out; simp [lenV]; omega
      · have q2 : ¬ (i' : Int) < (k : Int) := by omega
        obtain ⟨i2, hi2⟩ : ∃ q, i' - k = q := ⟨_, rfl⟩
        have HN : Hid (provL m (l'.drop (8 * k)) i2 m ++ (T ++ [rootF k (l'.take (8 * k))]).reverse = R) := by
          show _ = _
          have := HT.out.2.2
          rw [hn1, provL_r n1 i' (n1 + 1) l' (by omega) (by rw [← hn1, hk]; exact hlt), ← hn1, hk, hm, provL_fuel n1 m (i' - k) m _ (by omega) (by omega) (by omega), hi2] at this
          rw [← this]; simp
        have E1 : Hid (∀ w', Below w.heap.size w w' → Calls Tryd.prog 39 #[.slice (some ⟨g, o, none⟩) k c'] w' fun e w'' => e = .returned (.agg (ba (rootF k (l'.take (8 * k))))) ∧ Below w'.heap.size w' w'') := fun w' hb => by
          have := HI.out
          exact p18 k _ k c' _ w' (KW.out w' hb) (src_take (SW.out w' hb) k (by omega)) (by omega) (Nat.le_refl _) (by omega) (by omega) (by omega)
        have HH : Hid ((rootF k (l'.take (8 * k))).length = 8) := rootF_len _ _
        have HS2 : Hid (Src w (some ⟨g, o + k * 8, none⟩) (8 * m) (l'.drop (8 * k))) := by rw [← hm]; exact src_drop HX.out k c2
        have HI2 : Hid (i2 < m ∧ m ≤ 65536 ∧ m ≤ d ∧ d ≤ 9223372036854775807) := by have := HI.out; exact ⟨by omega, by omega, by omega, by omega⟩
        have V1 : Hid (wrap64 ((i' : Int) - (k : Int)) = (i2 : Int)) := by show _ = _; unfold wrap64; omega
        have HMN : Hid (m < n') := by show _ < _; omega
        have h8 : ∀ x ∈ T ++ [rootF k (l'.take (8 * k))], x.length = 8 := fun x hx => by
          rcases List.mem_append.1 hx with hx | hx
          · exact HT.out.2.1 x hx
          · rw [List.mem_singleton.1 hx]; exact HH.out
        have HT8 := Lib.hid h8
        have HTf : Hid ((T ++ [rootF k (l'.take (8 * k))]).flatten = T.flatten ++ rootF k (l'.take (8 * k))) := by show _ = _; simp
        generalize rootF k (l'.take (8 * k)) = h at *
        obtain ⟨y0, y1, y2, y3, y4, y5, y6, y7, hy8⟩ := c8cells _ HH.out
        have HY8 := Lib.hid hy8
        have E2 : Hid (∀ w', Below w.heap.size w w' → Calls Tryd.prog 39 #[.slice (some ⟨g, o, none⟩) k c'] w' fun e w'' => e = .returned (.agg #[.int .u8 y0, .int .u8 y1, .int .u8 y2, .int .u8 y3, .int .u8 y4, .int .u8 y5, .int .u8 y6, .int .u8 y7]) ∧ Below w'.heap.size w' w'') := fun w' hb => by
          have := E1.out w' hb
          rw [hy8, ba_lit] at this
          exact this
        clear hy8 E1
        clear hm hd hk hn1 h8 hn hin c1 c2 c3 hi2 n64 i0 kk0 hlt
        go_wp2_with fail
        go_quiet ((go_at_call 38; exact Calls.quiet_of_same (CC.out _)))
        clear s1 s2 CC
        go_wp2_with fail
        refine (E2.out _ (below_drewN BL.out _)).mono ?_
        rintro e w2 ⟨rfl, hb⟩
        have hb1 : Below wr.heap.size wr w2 := ⟨hb.os, hb.tape, hb.output, hb.size, hb.block⟩
        have B2 : Hid (Below w.heap.size w w2) := BL.out.trans (hb1.mono BL.out.size)
        have O2 : Hid (w2.ownsRow w.heap.size 23 8 (.slice B t cb) t (bvals T.flatten)) := own8_keepB OW.out hb1
        have HTL : Hid (t ≤ 65536) := by
          show _ ≤ _
          have h1 := HT.out.1
          have h2 := congrArg List.length HN.out
          have h3 := HL.out
          simp only [List.length_append, List.length_reverse, List.length_singleton] at h2
          omega
        have T3 : Hid (BA (w2.alloc (Obj.cells #[.int .u8 y0, .int .u8 y1, .int .u8 y2, .int .u8 y3, .int .u8 y4, .int .u8 y5, .int .u8 y6, .int .u8 y7] 23)) w2.heap.size 23 h) := by
          show _ = _
          rw [HY8.out, ba_lit]
          exact heap_alloc_last w2 _
        have B3 : Hid (Below w.heap.size w (w2.alloc (Obj.cells #[.int .u8 y0, .int .u8 y1, .int .u8 y2, .int .u8 y3, .int .u8 y4, .int .u8 y5, .int .u8 y6, .int .u8 y7] 23))) := B2.out.alloc B2.out.size _
        have O3 : Hid ((w2.alloc (Obj.cells #[.int .u8 y0, .int .u8 y1, .int .u8 y2, .int .u8 y3, .int .u8 y4, .int .u8 y5, .int .u8 y6, .int .u8 y7] 23)).ownsRow w.heap.size 23 8 (.slice B t cb) t (bvals T.flatten)) := own8_keepB O2.out ((Below.refl _ _).alloc (Nat.le_refl _) _)
        clear hb hb1
        go_wp2_with (at_builtin; refine wpList_app8 rfl (.tmp 37) (.tmp 40) rfl w.heap.size t (.slice B t cb) T.flatten rfl O3.out w2.heap.size 1 h rfl T3.out HH.out HTL.out B3.out.size ?_; intro A2 cc2 w4 hown2 hg2)
        have B4 : Hid (Below w.heap.size w w4) := B3.out.grown hg2 B3.out.size (own8_base O3.out)
        have O4 : Hid (w4.ownsRow w.heap.size 23 8 (.slice A2 (t + 1) cc2) (t + 1) (bvals (T ++ [h]).flatten)) := by rw [HTf.out]; exact hown2
        clear hown2 hg2
        go_roundw
        case rel => exact ⟨some ⟨g, o + k * 8, none⟩, m, d, i2, l'.drop (8 * k), A2, t + 1, cc2, T ++ [h], rfl, by rw [V1.out], rfl, HI2.out, HS2.out, ⟨by rw [HT.out.1]; simp, HT8.out, HN.out⟩, O4.out, B4.out⟩
        case measure => have := HMN.out; simp [lenV]; omega
end Go.Proofs.YtkmfmkonejdjiaaDoor
