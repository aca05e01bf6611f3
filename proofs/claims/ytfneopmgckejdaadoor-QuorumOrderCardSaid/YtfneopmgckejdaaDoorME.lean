/-
  The document's Prove.
-/
import Derived.Test.YtfneopmgckejdaaDoorM12
import Derived.Test.YtfneopmgckejdaaDoorMC
namespace Go.Proofs.YtfneopmgckejdaaDoor
open Go.RowKit
/-- what the document's Prove answers where there is a proof: a row of its own -/
def PvO (R : List (List Int)) (w : World) (e : Ending) (w' : World) : Prop := ∃ (A : Option Addr) (c : Nat), e = .returned (.tuple #[.slice A R.length c, .bool true]) ∧ w'.ownsRow w.heap.size 32 8 (.slice A R.length c) R.length (bvals R.flatten) ∧ Below w.heap.size w w'
theorem own8_mono {w : World} {base b2 n : Nat} {v : Value} {xs : List Value} (h : w.ownsRow base 32 8 v n xs) (hb : b2 ≤ base) : w.ownsRow b2 32 8 v n xs := by
  refine ⟨h.1, ?_⟩
  rcases h.2 with h2 | ⟨g, cap, cur, e, hbg, rest⟩
  · exact .inl h2
  · exact .inr ⟨g, cap, cur, e, Nat.le_trans hb hbg, rest⟩
attribute [local irreducible] ua da ba kk sw S8.run rt hs comp splice outB sha msg rootF leafH twoH stepsF cutN leadF provL bvals rootV
set_option maxRecDepth 100000 in
set_option maxHeartbeats 4000000 in
/-- where there is none -/
theorem r9no (A : Option Addr) (n cap : Nat) (i : Int) (w : World) (hno : (decide (0 ≤ i) && (decide (i < n) && decide ((n : Int) ≤ 65536))) = false) :
    Calls Tryd.prog 29 #[.slice A n cap, .int .i64 i] w fun e w' => e = .returned (.tuple #[.slice none 0 0, .bool false]) ∧ Below w.heap.size w w' := by
  by_cases h1 : i < 0
  · clear hno
    go_enter Tryd.func29, Tryd.ntmps29
    go_wp2
    go_ret2
    exact ⟨rfl, Below.refl _ _⟩
  · by_cases h2 : (n : Int) ≤ i
    · clear hno
      go_enter Tryd.func29, Tryd.ntmps29
      go_wp2
      go_ret2
      exact ⟨rfl, Below.refl _ _⟩
    · have h3 : (65536 : Int) < (n : Int) := by
        rw [decide_eq_true (by omega : (0:Int) ≤ i), decide_eq_true (by omega : i < (n : Int))] at hno
        simp at hno
        omega
      clear hno
      go_enter Tryd.func29, Tryd.ntmps29
      go_wp2
      go_ret2
      exact ⟨rfl, Below.refl _ _⟩
set_option maxRecDepth 100000 in
set_option maxHeartbeats 8000000 in
/-- where there is one -/
theorem r9 : ∀ (f : Nat) (A : Option Addr) (n cap i : Nat) (l : List Int) (w : World), Keys w → Src w A (8 * n) l → i < n → n ≤ f → n ≤ 65536 → n ≤ cap → cap ≤ 9223372036854775807 →
    Calls Tryd.prog 29 #[.slice A n cap, .int .i64 i] w (PvO (provL f l i n) w)
  | 0, _, _, _, _, _, _, _, _, hi, hf, _, _, _ => by omega
  | f + 1, A, n, cap, i, l, w, hk, hs, hi, hf, h64, hcap, hmax => by
    have q1 : ¬ (i : Int) < 0 := by omega
    have q2 : ¬ (n : Int) ≤ (i : Int) := by omega
    have q3 : ¬ (65536 : Int) < (n : Int) := by omega
    have HK := Lib.hid hk
    have HX := Lib.hid hs
    have HP : Hid (0 < w.heap.size) := keys_pos hk
    have KW : Hid (∀ w', Below w.heap.size w w' → Keys w') := fun w' hb => keys_below HK.out hb HP.out
    have SW : Hid (∀ w', Below w.heap.size w w' → Src w' A (8 * n) l) := fun w' hb => HX.out.keep fun q hq => hb.block q hq
    by_cases hn : n = 1
    · subst hn
      have HE : Hid (provL (f + 1) l i 1 = []) := provL_one _ _ _
      clear hk hs hi hf h64 hcap hmax
      go_enter Tryd.func29, Tryd.ntmps29
      go_wp2
      go_ret2
      rw [HE.out]
      exact ⟨none, 0, rfl, own8_nil _ _, Below.refl _ _⟩
    · obtain ⟨c1, c2, c3⟩ := cutN_lo n (by omega) h64
      have CC : Hid (∀ w, Calls Tryd.prog 35 #[.int .i64 n] w fun e w' => e = .returned (.int .i64 (cutN n)) ∧ w = w') := fun w => (p20 n w (by omega) h64).mono fun _ _ h => ⟨h.1, h.2.symm⟩
      obtain ⟨k, hk2⟩ : ∃ k, cutN n = k := ⟨_, rfl⟩
      rw [hk2] at c1 c2 c3 CC
      obtain ⟨g, o, hA⟩ := src_at HX.out (by omega)
      subst hA
      have q4 : ¬ (n : Int) = 1 := by omega
      obtain ⟨m, hm⟩ : ∃ m, n - k = m := ⟨_, rfl⟩
      obtain ⟨d, hd⟩ : ∃ d, cap - k = d := ⟨_, rfl⟩
      have s1 := fun w => sl_front g o n cap k w (by omega) (by omega)
      have s2 := fun w => sl_back g o n cap k w (by omega) (by omega)
      rw [hm, hd] at s2
      have HLE : Hid ((provL (f + 1) l i n).length ≤ 65536) := by
        show _ ≤ _
        rw [provL_len]
        have := stepsF_le (f + 1) i n h64 (by omega)
        omega
      by_cases hlt : i < k
      · have q5 : (i : Int) < (k : Int) := by omega
        have HE : Hid (provL (f + 1) l i n = provL f (l.take (8 * k)) i k ++ [rootF m (l.drop (8 * k))]) := by
          show _ = _
          rw [provL_l f i n l (by omega) (by rw [hk2]; exact hlt), hk2, hm]
        have E1 : Hid (∀ w', Below w.heap.size w w' → Calls Tryd.prog 29 #[.slice (some ⟨g, o, none⟩) k cap, .int .i64 i] w' (PvO (provL f (l.take (8 * k)) i k) w')) := fun w' hb => r9 f _ k cap i _ w' (KW.out w' hb) (src_take (SW.out w' hb) k (by omega)) (by omega) (by omega) (by omega) (by omega) (by omega)
        have E2 : Hid (∀ w', Below w.heap.size w w' → Calls Tryd.prog 26 #[.slice (some ⟨g, o + k * 8, none⟩) m d] w' fun e w'' => e = .returned (.agg (ba (rootF m (l.drop (8 * k))))) ∧ Below w'.heap.size w' w'') := fun w' hb => by
          have := r11 _ m d (l.drop (8 * k)) w' (KW.out w' hb) (by have hx := src_drop (SW.out w' hb) k c2; rw [hm] at hx; exact hx) (by omega) (by omega)
          rw [rootV_ok _ (by omega)] at this
          exact this
        have HH : Hid ((rootF m (l.drop (8 * k))).length = 8) := rootF_len _ _
        obtain ⟨P, hP⟩ : ∃ P, provL f (l.take (8 * k)) i k = P := ⟨_, rfl⟩
        rw [hP] at HE E1
        obtain ⟨h, hh⟩ : ∃ h, rootF m (l.drop (8 * k)) = h := ⟨_, rfl⟩
        rw [hh] at HE E2 HH
        obtain ⟨y0, y1, y2, y3, y4, y5, y6, y7, hy8⟩ := c8cells _ HH.out
        have HY8 := Lib.hid hy8
        have E3 : Hid (∀ w', Below w.heap.size w w' → Calls Tryd.prog 26 #[.slice (some ⟨g, o + k * 8, none⟩) m d] w' fun e w'' => e = .returned (.agg #[.int .u8 y0, .int .u8 y1, .int .u8 y2, .int .u8 y3, .int .u8 y4, .int .u8 y5, .int .u8 y6, .int .u8 y7]) ∧ Below w'.heap.size w' w'') := fun w' hb => by
          have := E2.out w' hb
          rw [hy8, ba_lit] at this
          exact this
        have HPL : Hid (P.length ≤ 65536) := by
          have := HLE.out
          rw [HE.out, List.length_append] at this
          show _ ≤ _
          omega
        have HTf : Hid ((P ++ [h]).flatten = P.flatten ++ h) := by show _ = _; simp
        have HTl : Hid ((P ++ [h]).length = P.length + 1) := by show _ = _; simp
        clear hy8 E2 hh hP hm hd hk2 hk hs hi hf h64 hcap hmax hlt c1 c2 c3 hn
        go_enter Tryd.func29, Tryd.ntmps29
        go_wp2_with (first
          | (go_at_call 35; refine (CC.out _).mono ?_; rintro e w1 ⟨rfl, rfl⟩)
          | fail)
        refine (E1.out _ (Below.refl _ _)).mono ?_
        rintro e w1 ⟨A1, cc1, rfl, hown, hb1⟩
        have OW := Lib.hid hown
        have B1 := Lib.hid hb1
        clear hown hb1
        go_wp2_with fail
        refine (E3.out _ B1.out).mono ?_
        rintro e w2 ⟨rfl, hb2⟩
        have B2 : Hid (Below w.heap.size w w2) := B1.out.trans (hb2.mono B1.out.size)
        have O2 : Hid (w2.ownsRow w.heap.size 32 8 (.slice A1 P.length cc1) P.length (bvals P.flatten)) := own8_keepB OW.out hb2
        have T3 : Hid (BA (w2.alloc (Obj.cells #[.int .u8 y0, .int .u8 y1, .int .u8 y2, .int .u8 y3, .int .u8 y4, .int .u8 y5, .int .u8 y6, .int .u8 y7] 32)) w2.heap.size 32 h) := by
          show _ = _
          rw [HY8.out, ba_lit]
          exact heap_alloc_last w2 _
        have B3 : Hid (Below w.heap.size w (w2.alloc (Obj.cells #[.int .u8 y0, .int .u8 y1, .int .u8 y2, .int .u8 y3, .int .u8 y4, .int .u8 y5, .int .u8 y6, .int .u8 y7] 32))) := B2.out.alloc B2.out.size _
        have O3 : Hid ((w2.alloc (Obj.cells #[.int .u8 y0, .int .u8 y1, .int .u8 y2, .int .u8 y3, .int .u8 y4, .int .u8 y5, .int .u8 y6, .int .u8 y7] 32)).ownsRow w.heap.size 32 8 (.slice A1 P.length cc1) P.length (bvals P.flatten)) := own8_keepB O2.out ((Below.refl _ _).alloc (Nat.le_refl _) _)
        clear hb2
        go_wp2_with (at_builtin; refine wpList_app8 rfl (.tmp 41) (.tmp 46) rfl w.heap.size P.length (.slice A1 P.length cc1) P.flatten rfl O3.out w2.heap.size 1 h rfl T3.out HH.out HPL.out B3.out.size ?_; intro A2 cc2 w4 hown2 hg2)
        have B4 : Hid (Below w.heap.size w w4) := B3.out.grown hg2 B3.out.size (own8_base O3.out)
        have O4 := Lib.hid hown2
        clear hown2 hg2
        go_ret2
        rw [HE.out]
        refine ⟨A2, cc2, ?_, ?_, B4.out⟩
        · rw [HTl.out]; rfl
        · rw [HTl.out, HTf.out]; exact O4.out
      · have q5 : ¬ (i : Int) < (k : Int) := by omega
        obtain ⟨i2, hi2⟩ : ∃ q, i - k = q := ⟨_, rfl⟩
        have e1 : IntKind.i64.wrap ((i : Int) - (k : Int)) = (i2 : Int) := by rw [IntKind.wrap_i64]; omega
        have HE : Hid (provL (f + 1) l i n = provL f (l.drop (8 * k)) i2 m ++ [rootF k (l.take (8 * k))]) := by
          show _ = _
          rw [provL_r f i n l (by omega) (by rw [hk2]; exact hlt), hk2, hm, hi2]
        have E1 : Hid (∀ w', Below w.heap.size w w' → Calls Tryd.prog 29 #[.slice (some ⟨g, o + k * 8, none⟩) m d, .int .i64 i2] w' (PvO (provL f (l.drop (8 * k)) i2 m) w')) := fun w' hb => r9 f _ m d i2 _ w' (KW.out w' hb) (by have hx := src_drop (SW.out w' hb) k c2; rw [hm] at hx; exact hx) (by omega) (by omega) (by omega) (by omega) (by omega)
        have E2 : Hid (∀ w', Below w.heap.size w w' → Calls Tryd.prog 26 #[.slice (some ⟨g, o, none⟩) k cap] w' fun e w'' => e = .returned (.agg (ba (rootF k (l.take (8 * k))))) ∧ Below w'.heap.size w' w'') := fun w' hb => by
          have := r11 _ k cap (l.take (8 * k)) w' (KW.out w' hb) (src_take (SW.out w' hb) k (by omega)) (by omega) (by omega)
          rw [rootV_ok _ (by omega)] at this
          exact this
        have HH : Hid ((rootF k (l.take (8 * k))).length = 8) := rootF_len _ _
        obtain ⟨P, hP⟩ : ∃ P, provL f (l.drop (8 * k)) i2 m = P := ⟨_, rfl⟩
        rw [hP] at HE E1
        obtain ⟨h, hh⟩ : ∃ h, rootF k (l.take (8 * k)) = h := ⟨_, rfl⟩
        rw [hh] at HE E2 HH
        obtain ⟨y0, y1, y2, y3, y4, y5, y6, y7, hy8⟩ := c8cells _ HH.out
        have HY8 := Lib.hid hy8
        have E3 : Hid (∀ w', Below w.heap.size w w' → Calls Tryd.prog 26 #[.slice (some ⟨g, o, none⟩) k cap] w' fun e w'' => e = .returned (.agg #[.int .u8 y0, .int .u8 y1, .int .u8 y2, .int .u8 y3, .int .u8 y4, .int .u8 y5, .int .u8 y6, .int .u8 y7]) ∧ Below w'.heap.size w' w'') := fun w' hb => by
          have := E2.out w' hb
          rw [hy8, ba_lit] at this
          exact this
        have HPL : Hid (P.length ≤ 65536) := by
          have := HLE.out
          rw [HE.out, List.length_append] at this
          show _ ≤ _
          omega
        have HTf : Hid ((P ++ [h]).flatten = P.flatten ++ h) := by show _ = _; simp
        have HTl : Hid ((P ++ [h]).length = P.length + 1) := by show _ = _; simp
        clear hy8 E2 hh hP hm hd hk2 hk hs hi hf h64 hcap hmax hlt c1 c2 c3 hn hi2
        go_enter Tryd.func29, Tryd.ntmps29
        go_wp2_with (first
          | (go_at_call 35; refine (CC.out _).mono ?_; rintro e w1 ⟨rfl, rfl⟩)
          | fail)
        refine (E1.out _ (Below.refl _ _)).mono ?_
        rintro e w1 ⟨A1, cc1, rfl, hown, hb1⟩
        have OW := Lib.hid hown
        have B1 := Lib.hid hb1
        clear hown hb1
        go_wp2_with fail
        refine (E3.out _ B1.out).mono ?_
        rintro e w2 ⟨rfl, hb2⟩
        have B2 : Hid (Below w.heap.size w w2) := B1.out.trans (hb2.mono B1.out.size)
        have O2 : Hid (w2.ownsRow w.heap.size 32 8 (.slice A1 P.length cc1) P.length (bvals P.flatten)) := own8_keepB OW.out hb2
        have T3 : Hid (BA (w2.alloc (Obj.cells #[.int .u8 y0, .int .u8 y1, .int .u8 y2, .int .u8 y3, .int .u8 y4, .int .u8 y5, .int .u8 y6, .int .u8 y7] 32)) w2.heap.size 32 h) := by
          show _ = _
          rw [HY8.out, ba_lit]
          exact heap_alloc_last w2 _
        have B3 : Hid (Below w.heap.size w (w2.alloc (Obj.cells #[.int .u8 y0, .int .u8 y1, .int .u8 y2, .int .u8 y3, .int .u8 y4, .int .u8 y5, .int .u8 y6, .int .u8 y7] 32))) := B2.out.alloc B2.out.size _
        have O3 : Hid ((w2.alloc (Obj.cells #[.int .u8 y0, .int .u8 y1, .int .u8 y2, .int .u8 y3, .int .u8 y4, .int .u8 y5, .int .u8 y6, .int .u8 y7] 32)).ownsRow w.heap.size 32 8 (.slice A1 P.length cc1) P.length (bvals P.flatten)) := own8_keepB O2.out ((Below.refl _ _).alloc (Nat.le_refl _) _)
        clear hb2
        go_wp2_with (at_builtin; refine wpList_app8 rfl (.tmp 58) (.tmp 63) rfl w.heap.size P.length (.slice A1 P.length cc1) P.flatten rfl O3.out w2.heap.size 1 h rfl T3.out HH.out HPL.out B3.out.size ?_; intro A2 cc2 w4 hown2 hg2)
        have B4 : Hid (Below w.heap.size w w4) := B3.out.grown hg2 B3.out.size (own8_base O3.out)
        have O4 := Lib.hid hown2
        clear hown2 hg2
        go_ret2
        rw [HE.out]
        refine ⟨A2, cc2, ?_, ?_, B4.out⟩
        · rw [HTl.out]; rfl
        · rw [HTl.out, HTf.out]; exact O4.out
end Go.Proofs.YtfneopmgckejdaaDoor

/-
  Check and the document's at any numbers; a proof leads to its root.
-/
namespace Go.Proofs.YtfneopmgckejdaaDoor
open Go.RowKit
theorem chkB_no {root leaf pr : List Int} {i n : Int} {m : Nat} (h : (decide (0 ≤ i) && (decide (i < n) && decide (n ≤ 65536))) = false) : chkB root leaf i n m pr = false := by unfold chkB; rw [h]; rfl
theorem chkB_yes {root leaf pr : List Int} {i n m : Nat} (hi : i < n) (h : n ≤ 65536) : chkB root leaf i n m pr = (decide (m = stepsF n i n) && decide (leadF n leaf i n m pr = root)) := by
  unfold chkB
  rw [decide_eq_true (by omega : (0 : Int) ≤ (i : Int)), decide_eq_true (by omega : (i : Int) < (n : Int)), decide_eq_true (by omega : (n : Int) ≤ 65536), Int.toNat_natCast, Int.toNat_natCast]
  rfl
theorem may_split (i n : Int) : (decide (0 ≤ i) && (decide (i < n) && decide (n ≤ 65536))) = false ∨ ∃ (a b : Nat), i = a ∧ n = b ∧ a < b ∧ b ≤ 65536 := by
  by_cases h1 : 0 ≤ i
  · by_cases h2 : i < n
    · by_cases h3 : n ≤ 65536
      · exact .inr ⟨i.toNat, n.toNat, by omega, by omega, by omega, by omega⟩
      · exact .inl (by rw [decide_eq_false h3]; simp)
    · exact .inl (by rw [decide_eq_false h2]; simp)
  · exact .inl (by rw [decide_eq_false h1]; simp)
/-- Check: any numbers -/
theorem p12 (root leaf : List Int) (i n : Int) (A : Option Addr) (m cap : Nat) (pr : List Int) (w : World) (hk : Keys w) (hr : root.length = 8) (hl : leaf.length = 8) (hs : Src w A (8 * m) pr) (hcap : m ≤ cap) :
    Calls Tryd.prog 31 #[.agg (ba root), .agg (ba leaf), .int .i64 i, .int .i64 n, .slice A m cap] w fun e w' => e = .returned (.bool (chkB root leaf i n m pr)) ∧ Below w.heap.size w w' := by
  rcases may_split i n with h | ⟨a, b, rfl, rfl, h1, h2⟩
  · rw [chkB_no h]
    exact p12a root leaf i n A m cap w h
  · rw [chkB_yes h1 h2]
    by_cases hm : m = stepsF b a b
    · rw [decide_eq_true hm, Bool.true_and]
      exact p12c root leaf a b A m cap pr w hk hr hl hs h1 h2 hm hcap
    · rw [decide_eq_false hm, Bool.false_and]
      exact p12b root leaf a b A m cap w h1 h2 hm
/-- the document's Check: any numbers -/
theorem r13 (root leaf : List Int) (i n : Int) (A : Option Addr) (m cap : Nat) (pr : List Int) (w : World) (hk : Keys w) (hr : root.length = 8) (hl : leaf.length = 8) (hs : Src w A (8 * m) pr) (hm : m ≤ 1000000) (hcap : m ≤ cap) :
    Calls Tryd.prog 41 #[.agg (ba root), .agg (ba leaf), .int .i64 i, .int .i64 n, .slice A m cap] w fun e w' => e = .returned (.bool (chkB root leaf i n m pr)) ∧ Below w.heap.size w w' := by
  rcases may_split i n with h | ⟨a, b, rfl, rfl, h1, h2⟩
  · rw [chkB_no h]
    exact r13a root leaf i n A m cap w h
  · rw [chkB_yes h1 h2]
    exact r13b root leaf a b A m cap pr w hk hr hl hs h1 h2 hm hcap
theorem drop_take_eight (l : List Int) (k i : Nat) (h : i < k) : ((l.take (8 * k)).drop (8 * i)).take 8 = (l.drop (8 * i)).take 8 := by
  rw [List.drop_take, List.take_take]
  congr 1
  omega
/-- a proof leads to its root -/
theorem lead_prov : ∀ (f : Nat) (l : List Int) (i n : Nat), l.length = 8 * n → i < n → n ≤ f → n ≤ 65536 → leadF f ((l.drop (8 * i)).take 8) i n (stepsF f i n) (provL f l i n).flatten = rootF f l
  | 0, _, _, _, _, hi, hf, _ => by omega
  | f + 1, l, i, n, hl, hi, hf, h64 => by
    by_cases hn : n = 1
    · subst hn
      obtain rfl : i = 0 := by omega
      rw [leadF_one, rootF_one f l hl, Nat.mul_zero, List.drop_zero, List.take_of_length_le (by omega)]
    · obtain ⟨c1, c2, c3⟩ := cutN_lo n (by omega) h64
      rw [rootF_two f l n hl (by omega)]
      have ht : (l.take (8 * cutN n)).length = 8 * cutN n := by rw [List.length_take]; omega
      have hd : (l.drop (8 * cutN n)).length = 8 * (n - cutN n) := by rw [List.length_drop]; omega
      have fl : ∀ (P : List (List Int)) (h : List Int), (∀ x ∈ P, x.length = 8) → ((P ++ [h]).flatten).take (8 * P.length) = P.flatten ∧ ((P ++ [h]).flatten).drop (8 * P.length) = h := fun P h h8 => by
        have e : (P ++ [h]).flatten = P.flatten ++ h := by simp
        have e2 := flat_len P h8
        rw [e, ← e2]
        exact ⟨by simp, by simp⟩
      by_cases h : i < cutN n
      · rw [stepsF_l f i n (by omega) h, provL_l f i n l (by omega) h, leadF_l f _ i n _ _ (by omega) h]
        have hP := fl (provL f (l.take (8 * cutN n)) i (cutN n)) (rootF (n - cutN n) (l.drop (8 * cutN n))) (provL_8 _ _ _ _)
        rw [provL_len] at hP
        rw [hP.1, hP.2, ← drop_take_eight l (cutN n) i h, lead_prov f _ i (cutN n) ht h (by omega) (by omega)]
        rw [rootF_fuel (n - cutN n) f _ (n - cutN n) hd (by omega) (Nat.le_refl _) (by omega) (by omega)]
      · rw [stepsF_r f i n (by omega) h, provL_r f i n l (by omega) h, leadF_r f _ i n _ _ (by omega) h]
        have hP := fl (provL f (l.drop (8 * cutN n)) (i - cutN n) (n - cutN n)) (rootF (cutN n) (l.take (8 * cutN n))) (provL_8 _ _ _ _)
        rw [provL_len] at hP
        have e : (l.drop (8 * i)).take 8 = ((l.drop (8 * cutN n)).drop (8 * (i - cutN n))).take 8 := by rw [List.drop_drop]; congr 2; omega
        rw [hP.1, hP.2, e, lead_prov f _ (i - cutN n) (n - cutN n) hd (by omega) (by omega) (by omega)]
        rw [rootF_fuel (cutN n) f _ (cutN n) ht (by omega) (Nat.le_refl _) (by omega) (by omega)]
end Go.Proofs.YtfneopmgckejdaaDoor
