/-
  The document's Put.
-/
import Derived.Test.YtgagcblddcibkaaDoorS22
import Derived.Deep.RegionHeld3
import Derived.Deep.DeepCutAuto
import Derived.Deep.LoopGhost
namespace Go.Proofs.YtgagcblddcibkaaDoor
open Go.RowKit
open Go.Maps
theorem ownNe {w : World} {base n e k : Nat} {v : Value} {xs : List Value} (h : w.ownsRow base e k v n xs) {q : Nat} (hq : w.heap.size ≤ q) : v.ownBlock ≠ some q := fun e => by
  have := ownG_lt h q e
  omega
theorem Two.snoc {w : World} {S : Nat} {a b : Value} {acc : List (Int × List Int)} {p : Int × List Int} (h : Two w S (acc.length + 1) (acc.length + 1) a b (acc.map Prod.fst ++ [p.1]) (zip8 acc ++ p.2)) : Two w S (acc ++ [p]).length (acc ++ [p]).length a b ((acc ++ [p]).map Prod.fst) (zip8 (acc ++ [p])) := by
  rw [List.length_append, List.map_append, zip8_snoc]
  exact h
theorem stp0 {acc r P : List (Int × List Int)} {p : Int × List Int} {i : Int} {h : List Int} {d : Bool} (hE : acc ++ (if d = true then delL i (p :: r) else insL i h (p :: r)) = P) (ht : (!d && decide (i ≤ p.1)) = false) : acc ++ (if p.1 = i then [] else [p]) ++ (if d = true then delL i r else insL i h r) = P := by
  rw [← hE]
  cases d
  · have hij : ¬ i ≤ p.1 := by simpa using ht
    show acc ++ (if p.1 = i then [] else [p]) ++ insL i h r = acc ++ insL i h (p :: r)
    rw [if_neg (by omega), insL_lt r hij]
    simp
  · show acc ++ (if p.1 = i then [] else [p]) ++ delL i r = acc ++ delL i (p :: r)
    by_cases e : p.1 = i
    · rw [if_pos e, delL_hit r e]; simp
    · rw [if_neg e, delL_miss r e]; simp
theorem stp1 {acc r P : List (Int × List Int)} {p : Int × List Int} {i : Int} {h : List Int} {d : Bool} (hE : acc ++ (if d = true then delL i (p :: r) else insL i h (p :: r)) = P) (ht : (!d && decide (i ≤ p.1)) = true) : acc ++ [(i, h)] ++ (if p.1 = i then [] else [p]) ++ (if true = true then delL i r else insL i h r) = P := by
  rw [← hE]
  cases d
  · have hij : i ≤ p.1 := by simpa using ht
    show acc ++ [(i, h)] ++ (if p.1 = i then [] else [p]) ++ delL i r = acc ++ insL i h (p :: r)
    rw [insL_ge r hij]
    by_cases e : p.1 = i
    · rw [if_pos e, delL_hit r e]; simp
    · rw [if_neg e, delL_miss r e]; simp
  · simp at ht
theorem fin24 {w wx : World} {B M S : Nat} {a b s1 s2 : Value} {P : List (Int × List Int)} (hM : M < S) (hS : w.heap.size = S) (hB : Below S w wx) (hrow : wx.heap[M]? = some (.cells #[s1, s2] 39 (0, 0))) (ht : Two wx (S + 1) P.length P.length a b (P.map Prod.fst) (zip8 P)) :
    (∃ a' b', Lv ((wx.setCell ⟨M, 0, none⟩ a).setCell ⟨M, 1, none⟩ b) (min B M) M a' b' P) ∧ ((wx.setCell ⟨M, 0, none⟩ a).setCell ⟨M, 1, none⟩ b).os = w.os ∧ ((wx.setCell ⟨M, 0, none⟩ a).setCell ⟨M, 1, none⟩ b).tape = w.tape ∧ ((wx.setCell ⟨M, 0, none⟩ a).setCell ⟨M, 1, none⟩ b).output = w.output ∧ w.heap.size ≤ ((wx.setCell ⟨M, 0, none⟩ a).setCell ⟨M, 1, none⟩ b).heap.size ∧ ∀ q, q < w.heap.size → q ≠ M → ((wx.setCell ⟨M, 0, none⟩ a).setCell ⟨M, 1, none⟩ b).heap[q]? = w.heap[q]? := by
  have ho : ∀ q, q ≠ M → ((wx.setCell ⟨M, 0, none⟩ a).setCell ⟨M, 1, none⟩ b).heap[q]? = wx.heap[q]? := fun q hq => (heap_setCell_other _ ⟨M, 1, none⟩ q b hq).trans (heap_setCell_other _ ⟨M, 0, none⟩ q a hq)
  have h1 := heap_setCell_same wx M 0 _ 39 a hrow
  have h2 := heap_setCell_same (wx.setCell ⟨M, 0, none⟩ a) M 1 _ 39 b h1
  have hb1 : Below 0 wx ((wx.setCell ⟨M, 0, none⟩ a).setCell ⟨M, 1, none⟩ b) := ((Below.refl 0 wx).setCell (Nat.zero_le _) _).setCell (Nat.zero_le _) _
  refine ⟨⟨a, b, ⟨h2, Nat.min_le_right _ _, ?_⟩⟩, hb1.os.trans hB.os, hb1.tape.trans hB.tape, hb1.output.trans hB.output, Nat.le_trans hB.size hb1.size, fun q hq hne => (ho q hne).trans (hB.block q (by omega))⟩
  exact (Two.mono ⟨ownG_keep ht.oa fun q hq => ho q (by have := ownG_base ht.oa q hq; omega), ownG_keep ht.ob fun q hq => ho q (by have := ownG_base ht.ob q hq; omega), ht.apart⟩ (by omega))
theorem Two.start (w : World) (S : Nat) : Two w S ([] : List (Int × List Int)).length ([] : List (Int × List Int)).length (.slice none 0 0) (.slice none 0 0) (([] : List (Int × List Int)).map Prod.fst) (zip8 []) := Two.nil w S
attribute [local irreducible] ua da ba kk sw S8.run rt hs comp splice outB sha msg twoM twoN ab MapIs mrow nd upF at8 prfL zip8 bvals ivals
set_option maxRecDepth 100000 in
set_option maxHeartbeats 1600000 in
theorem r24 (B M : Nat) (A1 A2 : Option Addr) (n c1 c2 : Nat) (L : List (Int × List Int)) (i : Int) (h : List Int) (w : World) (hk : Keys w) (hL : LR w M A1 A2 n c1 c2 L) (hG : Good L) (hn : n ≤ 1000) (hh : h.length = 8) (hi : 0 ≤ i ∧ i < 65536) (hB : B ≤ w.heap.size) :
    Calls Tryd.prog 24 #[.pointer (some ⟨M, 0, none⟩), .int .i64 i, .agg (ba h)] w fun e w' => e = .returned (.bool true) ∧ (∃ a b, Lv w' (min B M) M a b (putL L i h)) ∧ w'.os = w.os ∧ w'.tape = w.tape ∧ w'.output = w.output ∧ w.heap.size ≤ w'.heap.size ∧ ∀ q, q < w.heap.size → q ≠ M → w'.heap[q]? = w.heap[q]? := by
  have HL := Lib.hid hL
  have HG := Lib.hid hG
  have HN : Hid (n ≤ 1000) := hn
  have HH := Lib.hid hh
  have HB : Hid (B ≤ w.heap.size) := hB
  have HK := Lib.hid hk
  obtain ⟨S, hS⟩ : ∃ S, w.heap.size = S := ⟨_, rfl⟩
  have HS := Lib.hid hS
  have HMS : Hid (M < S) := by show _ < _; rw [← hS]; exact lt_of_block hL.row
  obtain ⟨h0, h1, h2, h3, h4, h5, h6, h7, hh8⟩ := c8cells h hh
  have HH8 := Lib.hid hh8
  obtain ⟨P, hP⟩ : ∃ P, putL L i h = P := ⟨_, rfl⟩
  have HP := Lib.hid hP
  have HPL : Hid (P.length ≤ 1001) := by
    show _ ≤ _
    have := putL_length L i h
    have := hL.len
    rw [← hP]
    omega
  have HPG : Hid (Good P) := by rw [← hP]; exact hG.put hi hh
  have T0 : Hid ((w.alloc (Obj.cells #[.int .u8 h0, .int .u8 h1, .int .u8 h2, .int .u8 h3, .int .u8 h4, .int .u8 h5, .int .u8 h6, .int .u8 h7] 29)).heap[S]? = some (.cells #[.int .u8 h0, .int .u8 h1, .int .u8 h2, .int .u8 h3, .int .u8 h4, .int .u8 h5, .int .u8 h6, .int .u8 h7] 29 (0, 0))) := by subst hS; exact heap_alloc_last w _
  have B0 : Hid (Below S w (w.alloc (Obj.cells #[.int .u8 h0, .int .u8 h1, .int .u8 h2, .int .u8 h3, .int .u8 h4, .int .u8 h5, .int .u8 h6, .int .u8 h7] 29))) := by subst hS; exact (Below.refl _ w).alloc (Nat.le_refl _) _
  have CX : Hid (∀ w', Calls Tryd.prog 35 #[.agg #[.int .u8 h0, .int .u8 h1, .int .u8 h2, .int .u8 h3, .int .u8 h4, .int .u8 h5, .int .u8 h6, .int .u8 h7]] w' fun e w'' => e = .returned (.bool (decide (h = zeros 8))) ∧ Below w'.heap.size w' w'') := fun w' => by
    have := c35 h w' HH.out
    generalize decide (h = zeros 8) = b at *
    rw [hh8, ba_lit] at this
    exact this
  have i0 : ¬ i < 0 := by omega
  have i1 : ¬ 65536 ≤ i := by omega
  rw [hP, hh8, ba_lit]
  clear hL hG hn hh hB hk hh8 hP hi
  go_enter Tryd.func24, Tryd.ntmps24
  go_wp2_with fail
  clear hS
  generalize w.alloc (Obj.cells #[.int .u8 h0, .int .u8 h1, .int .u8 h2, .int .u8 h3, .int .u8 h4, .int .u8 h5, .int .u8 h6, .int .u8 h7] 29) = w0 at *
  refine (CX.out w0).mono ?_
  rintro e w1 ⟨rfl, hb1⟩
  have L0 : Hid (S < w0.heap.size) := lt_of_block T0.out
  have BW1 : Hid (Below S w w1) := B0.out.trans (hb1.mono (Nat.le_of_lt L0.out))
  have X1 : Hid (w1.heap[S]? = some (.cells #[.int .u8 h0, .int .u8 h1, .int .u8 h2, .int .u8 h3, .int .u8 h4, .int .u8 h5, .int .u8 h6, .int .u8 h7] 29 (0, 0))) := (hb1.block S L0.out).trans T0.out
  have R1 : Hid (LR w1 M A1 A2 n c1 c2 L) := HL.out.keep fun q hq => BW1.out.block q (by rw [← HS.out]; exact hq)
  have L1 : Hid (S < w1.heap.size) := lt_of_block X1.out
  have HD : Hid (decide (h = zeros 8) = decide (h = zeros 8)) := rfl
  have E0 : Hid ([] ++ (if decide (h = zeros 8) = true then delL i (L.drop 0) else insL i h (L.drop 0)) = P) := by
    show _ = _
    rw [← HP.out]
    unfold putL
    rw [List.nil_append, List.drop_zero]
    by_cases e : h = zeros 8
    · rw [decide_eq_true e, if_pos rfl, if_pos e]
    · rw [decide_eq_false e, if_neg (by decide), if_neg e]
  clear hb1 CX T0 B0
  generalize decide (h = zeros 8) = dz at *
  go_wp2_with fail
  go_loopg [7, 8, 9, 10] (n + 1) (fun gk va vb vd kv wr => ∃ (k : Nat) (d : Bool) (acc : List (Int × List Int)), gk = n + 1 - k ∧ k ≤ n ∧ kv = .int .i64 k ∧ vd = .bool d ∧ acc ++ (if d = true then delL i (L.drop k) else insL i h (L.drop k)) = P ∧ Two wr (S + 1) acc.length acc.length va vb (acc.map Prod.fst) (zip8 acc) ∧ Below (S + 1) w1 wr)
  case atStart => exact ⟨0, dz, [], rfl, Nat.zero_le _, rfl, rfl, E0.out, Two.start _ _, Below.refl _ _⟩
  case round =>
    clear E0
    obtain ⟨k, d, acc, hgk, hk, rfl, rfl, hacc, htw, hbel⟩ := hrel
    have HGK := Lib.hid hgk
    have TR := Lib.hid htw
    have BR := Lib.hid hbel
    have EA := Lib.hid hacc
    have HBS : Hid (S + 1 ≤ wr.heap.size) := by show _ ≤ _; have := hbel.size; have := L1.out; omega
    have HNB : Hid (acc.length ≤ 65536) := by
      have := congrArg List.length hacc
      rw [List.length_append] at this
      have := HPL.out
      show _ ≤ _
      omega
    have FR : Hid (∀ w', Below (S + 1) wr w' → ∀ q, q < w.heap.size → w'.heap[q]? = w.heap[q]?) := fun w' hb q hq => (hb.block q (by rw [HS.out] at hq; omega)).trans ((hbel.block q (by rw [HS.out] at hq; omega)).trans (BW1.out.block q (by rw [← HS.out]; exact hq)))
    have RR : Hid (∀ w', Below (S + 1) wr w' → LR w' M A1 A2 n c1 c2 L) := fun w' hb => HL.out.keep (FR.out w' hb)
    have XR : Hid (∀ w', Below (S + 1) wr w' → (w'.cell? ⟨S, 0, none⟩ = some (.int .u8 h0) ∧ w'.cell? ⟨S, 1, none⟩ = some (.int .u8 h1) ∧ w'.cell? ⟨S, 2, none⟩ = some (.int .u8 h2) ∧ w'.cell? ⟨S, 3, none⟩ = some (.int .u8 h3) ∧ w'.cell? ⟨S, 4, none⟩ = some (.int .u8 h4) ∧ w'.cell? ⟨S, 5, none⟩ = some (.int .u8 h5) ∧ w'.cell? ⟨S, 6, none⟩ = some (.int .u8 h6) ∧ w'.cell? ⟨S, 7, none⟩ = some (.int .u8 h7))) := fun w' hb => cellsR h0 h1 h2 h3 h4 h5 h6 h7 (t := 29) ((hb.block S (by omega)).trans ((hbel.block S (by omega)).trans X1.out))
    have X0 : Hid (Below (S + 1) wr wr) := Below.refl _ _
    obtain ⟨m0, m1⟩ := (RR.out wr X0.out).cells
    clear htw hbel hacc hgk
    by_cases hlt : k < n
    · obtain ⟨p, hp⟩ : ∃ p, L[k]? = some p := ⟨L[k]'(by rw [← HL.out.len]; exact hlt), List.getElem?_eq_getElem _⟩
      obtain ⟨g1, g2, e1, e2⟩ := HL.out.places (by omega)
      subst e1
      subst e2
      have x1 := (RR.out wr X0.out).num hp
      have k0 : (0 : Int) ≤ (k : Int) := by omega
      have k1 : (k : Int) < (n : Int) := by omega
      have k2 : (k : Int) < 1000 := by have := HN.out; omega
      have kc1 : (k : Int) < (c1 : Int) := by have := HL.out.cap1.1; omega
      have HKN : Hid (k < n) := hlt
      have HPK := Lib.hid hp
      have HDR : Hid (L.drop k = p :: L.drop (k + 1)) := by
        obtain ⟨hkl, hpe⟩ := List.getElem?_eq_some_iff.1 hp
        rw [← hpe]
        exact List.drop_eq_getElem_cons hkl
      have HP8 : Hid (p.2.length = 8) := (HG.out.all p (List.mem_of_getElem? hp)).1
      obtain ⟨j, hj⟩ : ∃ j, p.1 = j := ⟨_, rfl⟩
      have HJ := Lib.hid hj
      rw [hj] at x1
      clear hk hp hj hlt
      go_upto_region 9 with (fail)
      go_cut [40] (fun t wx => t = .bool (!d && decide (i ≤ j)) ∧ wx = wr)
      case first =>
        by_cases hij : i ≤ j
        · cases d
          · go_wp2_with fail
            go_meet
            exact ⟨by rw [decide_eq_true hij]; rfl, rfl⟩
          · go_wp2_with fail
            go_meet
            exact ⟨rfl, rfl⟩
        · cases d
          · go_wp2_with fail
            go_meet
            exact ⟨by rw [decide_eq_false (by omega)]; rfl, rfl⟩
          · go_wp2_with fail
            go_meet
            exact ⟨rfl, rfl⟩
      case rest =>
        obtain ⟨rfl, rfl⟩ := hcut
        rename World => wr
        obtain ⟨tv, htv⟩ : ∃ tv, (!d && decide (i ≤ j)) = tv := ⟨_, rfl⟩
        have HTV : Hid ((!d && decide (i ≤ p.1)) = tv) := by rw [HJ.out]; exact htv
        rw [htv]
        clear htv
        have EP : Hid (acc ++ (if d = true then delL i (p :: L.drop (k + 1)) else insL i h (p :: L.drop (k + 1))) = P) := by rw [← HDR.out]; exact EA.out
        have KF := XR
        obtain ⟨z0, z1, z2, z3, z4, z5, z6, z7⟩ := XR.out wr X0.out
        go_upto_if 40 with (fail)
        go_cut [7, 8, 9] (fun va2 vb2 vd2 wx => ∃ (d2 : Bool) (acc2 : List (Int × List Int)), vd2 = .bool d2 ∧ acc2 ++ (if p.1 = i then [] else [p]) ++ (if d2 = true then delL i (L.drop (k + 1)) else insL i h (L.drop (k + 1))) = P ∧ Two wx (S + 1) acc2.length acc2.length va2 vb2 (acc2.map Prod.fst) (zip8 acc2) ∧ Below (S + 1) wr wx)
        case first =>
          cases tv
          · have ES := stp0 EP.out HTV.out
            have HES := Lib.hid ES
            clear ES
            go_wp2_with fail
            go_meet
            exact ⟨d, acc, rfl, HES.out, TR.out, X0.out⟩
          · have ES := stp1 EP.out HTV.out
            have HES := Lib.hid ES
            clear ES
            go_wp2_with fail
            go_region_held3 (fun w' => (w'.cell? ⟨S, 0, none⟩ = some (.int .u8 h0) ∧ w'.cell? ⟨S, 1, none⟩ = some (.int .u8 h1) ∧ w'.cell? ⟨S, 2, none⟩ = some (.int .u8 h2) ∧ w'.cell? ⟨S, 3, none⟩ = some (.int .u8 h3) ∧ w'.cell? ⟨S, 4, none⟩ = some (.int .u8 h4) ∧ w'.cell? ⟨S, 5, none⟩ = some (.int .u8 h5) ∧ w'.cell? ⟨S, 6, none⟩ = some (.int .u8 h6) ∧ w'.cell? ⟨S, 7, none⟩ = some (.int .u8 h7))) (first | (with_reducible exact KB.out) | (with_reducible exact KA.out) | (refine KF.out _ ?_; repeat (first | (with_reducible exact X0.out) | (with_reducible exact BA1.out) | (with_reducible refine bl_alloc HBS.out _ ?_) | (with_reducible refine bl_drew ?_))) | go_keep)
              (first
                | ((refine step_appA (by rfl) (.tmp 41) (.tmp 43) (by rfl) (S + 1) acc.length acc.length u7 u8 (acc.map Prod.fst) (zip8 acc) (by rfl) (TR.out.keepK (by repeat (first | (with_reducible exact kp_refl _) | (with_reducible refine kp_alloc _ ?_) | (with_reducible refine kp_drew ?_)))) _ i (by rfl) (by first | exact heap_alloc_last _ _ | exact alloc_mid _ _ _ | exact alloc_last2 _ _ _) HNB.out wr HBS.out (by repeat (first | (with_reducible exact X0.out) | (with_reducible exact BA1.out) | (with_reducible refine bl_alloc HBS.out _ ?_) | (with_reducible refine bl_drew ?_))) ?_; intro ga ca wA hRA hBA hFA; have RA := Lib.hid hRA; have BA1 := Lib.hid hBA; have FA := Lib.hid hFA; have KA := Lib.hid (KF.out wA BA1.out); clear hRA hBA hFA))
                | ((refine step_appB (by rfl) (.tmp 45) (.tmp 47) (by rfl) (S + 1) (acc.length + 1) acc.length (.slice (some ⟨ga, 0, none⟩) (acc.length + 1) ca) u8 ((acc.map Prod.fst) ++ [i]) (zip8 acc) (by rfl) (RA.out.keepK (by repeat (first | (with_reducible exact kp_refl _) | (with_reducible refine kp_alloc _ ?_) | (with_reducible refine kp_drew ?_)))) _ h (by rfl) _ (by first | exact heap_alloc_last _ _ | exact FA.out _ _ (ownNe TR.out.oa (by omega)) (alloc_last2 _ _ _) | exact FA.out _ _ (ownNe TR.out.oa (by omega)) (alloc_mid _ _ _)) (by rw [HH8.out, ba_lit]) HH.out HNB.out wr HBS.out (by repeat (first | (with_reducible exact X0.out) | (with_reducible exact BA1.out) | (with_reducible refine bl_alloc HBS.out _ ?_) | (with_reducible refine bl_drew ?_))) ?_; intro gb cb wB hRB hBB hFB; have RB := Lib.hid hRB; have BB1 := Lib.hid hBB; have KB := Lib.hid (KF.out wB BB1.out); clear hRB hBB hFB)))
            all_goals
              rename_i hHeld
              clear hHeld
              go_wp2_with fail
              go_meet
              exact ⟨true, acc ++ [(i, h)], rfl, HES.out, RB.out.snoc, BB1.out⟩
        case rest =>
          obtain ⟨d2, acc2, rfl, hE2, hT2, hB2⟩ := hcut
          rename World => wx
          have T2 := Lib.hid hT2
          have B2 := Lib.hid hB2
          have E2 := Lib.hid hE2
          have HBX : Hid (S + 1 ≤ wx.heap.size) := Nat.le_trans HBS.out hB2.size
          have BX : Hid (Below (S + 1) w1 wx) := BR.out.trans hB2
          have HNX : Hid (acc2.length ≤ 65536) := by
            have := congrArg List.length hE2
            rw [List.length_append, List.length_append] at this
            have := HPL.out
            show _ ≤ _
            omega
          obtain ⟨y0, y1, y2, y3, y4, y5, y6, y7, hy8⟩ := c8cells p.2 HP8.out
          have HY8 := Lib.hid hy8
          have KF2 : Hid (∀ w', Below (S + 1) wx w' → (w'.cell? ⟨M, 0, none⟩ = some (.slice (some ⟨g1, 0, none⟩) n c1) ∧ w'.cell? ⟨M, 1, none⟩ = some (.slice (some ⟨g2, 0, none⟩) n c2)) ∧ w'.cell? ⟨g1, k, none⟩ = some (.int .i64 j) ∧ (w'.cell? ⟨g2, k * 8, none⟩ = some (.int .u8 y0) ∧ w'.cell? ⟨g2, k * 8 + 1, none⟩ = some (.int .u8 y1) ∧ w'.cell? ⟨g2, k * 8 + 2, none⟩ = some (.int .u8 y2) ∧ w'.cell? ⟨g2, k * 8 + 3, none⟩ = some (.int .u8 y3) ∧ w'.cell? ⟨g2, k * 8 + 4, none⟩ = some (.int .u8 y4) ∧ w'.cell? ⟨g2, k * 8 + 5, none⟩ = some (.int .u8 y5) ∧ w'.cell? ⟨g2, k * 8 + 6, none⟩ = some (.int .u8 y6) ∧ w'.cell? ⟨g2, k * 8 + 7, none⟩ = some (.int .u8 y7))) := fun w' hb =>
            have hR := RR.out w' (B2.out.trans hb)
            ⟨hR.cells, by rw [hR.num HPK.out, HJ.out], hR.hash (fun q hq => (HG.out.all q hq).1) HPK.out HY8.out⟩
          have Y0 : Hid (Below (S + 1) wx wx) := Below.refl _ _
          clear hE2 hT2 hB2 hy8 m0 m1 x1 z0 z1 z2 z3 z4 z5 z6 z7 XR KF
          obtain ⟨⟨m0, m1⟩, x1, t0, t1, t2, t3, t4, t5, t6, t7⟩ := KF2.out wx Y0.out
          have kc2 : (k : Int) < (c2 : Int) := by have := HL.out.cap2.1; omega
          by_cases hji : j = i
          · have HE3 : Hid (acc2 ++ (if d2 = true then delL i (L.drop (k + 1)) else insL i h (L.drop (k + 1))) = P) := by
              have := E2.out
              rw [if_pos (by rw [HJ.out]; exact hji)] at this
              show _ = _
              simpa using this
            go_wp2_with fail
            go_roundg (n + 1 - (k + 1))
            case measure => have := HGK.out; have := HKN.out; omega
            case rel => exact ⟨k + 1, d2, acc2, rfl, HKN.out, by go_num, rfl, HE3.out, T2.out, BX.out⟩
          · have HE3 : Hid ((acc2 ++ [p]) ++ (if d2 = true then delL i (L.drop (k + 1)) else insL i h (L.drop (k + 1))) = P) := by
              have := E2.out
              rw [if_neg (by rw [HJ.out]; exact hji)] at this
              exact this
            go_wp2_with fail
            go_region_held3 (fun w' => (w'.cell? ⟨M, 0, none⟩ = some (.slice (some ⟨g1, 0, none⟩) n c1) ∧ w'.cell? ⟨M, 1, none⟩ = some (.slice (some ⟨g2, 0, none⟩) n c2)) ∧ w'.cell? ⟨g1, k, none⟩ = some (.int .i64 j) ∧ (w'.cell? ⟨g2, k * 8, none⟩ = some (.int .u8 y0) ∧ w'.cell? ⟨g2, k * 8 + 1, none⟩ = some (.int .u8 y1) ∧ w'.cell? ⟨g2, k * 8 + 2, none⟩ = some (.int .u8 y2) ∧ w'.cell? ⟨g2, k * 8 + 3, none⟩ = some (.int .u8 y3) ∧ w'.cell? ⟨g2, k * 8 + 4, none⟩ = some (.int .u8 y4) ∧ w'.cell? ⟨g2, k * 8 + 5, none⟩ = some (.int .u8 y5) ∧ w'.cell? ⟨g2, k * 8 + 6, none⟩ = some (.int .u8 y6) ∧ w'.cell? ⟨g2, k * 8 + 7, none⟩ = some (.int .u8 y7))) (first | (with_reducible exact KB.out) | (with_reducible exact KA.out) | (refine KF2.out _ ?_; repeat (first | (with_reducible exact Y0.out) | (with_reducible exact BA1.out) | (with_reducible refine bl_alloc HBX.out _ ?_) | (with_reducible refine bl_drew ?_))) | go_keep)
              (first
                | ((refine step_appA (by rfl) (.tmp 58) (.tmp 66) (by rfl) (S + 1) acc2.length acc2.length u7 u8 (acc2.map Prod.fst) (zip8 acc2) (by rfl) (T2.out.keepK (by repeat (first | (with_reducible exact kp_refl _) | (with_reducible refine kp_alloc _ ?_) | (with_reducible refine kp_drew ?_)))) _ j (by rfl) (by first | exact heap_alloc_last _ _ | exact alloc_mid _ _ _ | exact alloc_last2 _ _ _) HNX.out wx HBX.out (by repeat (first | (with_reducible exact Y0.out) | (with_reducible exact BA1.out) | (with_reducible refine bl_alloc HBX.out _ ?_) | (with_reducible refine bl_drew ?_))) ?_; intro ga ca wA hRA hBA hFA; have RA := Lib.hid hRA; have BA1 := Lib.hid hBA; have FA := Lib.hid hFA; have KA := Lib.hid (KF2.out wA BA1.out); clear hRA hBA hFA))
                | ((refine step_appB (by rfl) (.tmp 68) (.tmp 76) (by rfl) (S + 1) (acc2.length + 1) acc2.length (.slice (some ⟨ga, 0, none⟩) (acc2.length + 1) ca) u8 ((acc2.map Prod.fst) ++ [j]) (zip8 acc2) (by rfl) (RA.out.keepK (by repeat (first | (with_reducible exact kp_refl _) | (with_reducible refine kp_alloc _ ?_) | (with_reducible refine kp_drew ?_)))) _ p.2 (by rfl) _ (by first | exact heap_alloc_last _ _ | exact FA.out _ _ (ownNe T2.out.oa (by omega)) (alloc_last2 _ _ _) | exact FA.out _ _ (ownNe T2.out.oa (by omega)) (alloc_mid _ _ _)) (by rw [HY8.out, ba_lit]) HP8.out HNX.out wx HBX.out (by repeat (first | (with_reducible exact Y0.out) | (with_reducible exact BA1.out) | (with_reducible refine bl_alloc HBX.out _ ?_) | (with_reducible refine bl_drew ?_))) ?_; intro gb cb wB hRB hBB hFB; have RB := Lib.hid hRB; have BB1 := Lib.hid hBB; have KB := Lib.hid (KF2.out wB BB1.out); clear hRB hBB hFB)))
            all_goals
              rename_i hHeld
              clear hHeld
              go_wp2_with fail
              go_roundg (n + 1 - (k + 1))
              case measure => have := HGK.out; have := HKN.out; omega
              case rel => exact ⟨k + 1, d2, acc2 ++ [p], rfl, HKN.out, by go_num, rfl, HE3.out, by have := RB.out; rw [← HJ.out] at this; exact this.snoc, BX.out.trans BB1.out⟩
    · obtain rfl : k = n := by omega
      have HDK : Hid (L.drop k = []) := List.drop_eq_nil_of_le (by rw [HL.out.len]; exact Nat.le_refl _)
      have BSW : Hid (Below S w wr) := BW1.out.trans (BR.out.mono (by omega))
      have ROW : Hid (wr.heap[M]? = some (.cells #[.slice A1 k c1, .slice A2 k c2] 39 (0, 0))) := (RR.out wr X0.out).row
      have k1 : ¬ (k : Int) < (k : Int) := by omega
      have fz0 := free_of ROW.out 0
      have fz1 := free_of ROW.out 1
      clear hk hlt
      cases d
      · have HE3 : Hid (acc ++ [(i, h)] = P) := by
          have := EA.out
          rw [HDK.out] at this
          exact this
        have KF := XR
        have HKM : Hid (∀ w', Below (S + 1) wr w' → w'.heap[M]? = some (.cells #[.slice A1 k c1, .slice A2 k c2] 39 (0, 0))) := fun w' hb => (RR.out w' hb).row
        obtain ⟨z0, z1, z2, z3, z4, z5, z6, z7⟩ := XR.out wr X0.out
        go_wp2_with fail
        go_region_held3 (fun w' => (w'.cell? ⟨S, 0, none⟩ = some (.int .u8 h0) ∧ w'.cell? ⟨S, 1, none⟩ = some (.int .u8 h1) ∧ w'.cell? ⟨S, 2, none⟩ = some (.int .u8 h2) ∧ w'.cell? ⟨S, 3, none⟩ = some (.int .u8 h3) ∧ w'.cell? ⟨S, 4, none⟩ = some (.int .u8 h4) ∧ w'.cell? ⟨S, 5, none⟩ = some (.int .u8 h5) ∧ w'.cell? ⟨S, 6, none⟩ = some (.int .u8 h6) ∧ w'.cell? ⟨S, 7, none⟩ = some (.int .u8 h7))) (first | (with_reducible exact KB.out) | (with_reducible exact KA.out) | (refine KF.out _ ?_; repeat (first | (with_reducible exact X0.out) | (with_reducible exact BA1.out) | (with_reducible refine bl_alloc HBS.out _ ?_) | (with_reducible refine bl_drew ?_))) | go_keep)
          (first
            | ((refine step_appA (by rfl) (.tmp 80) (.tmp 82) (by rfl) (S + 1) acc.length acc.length u7 u8 (acc.map Prod.fst) (zip8 acc) (by rfl) (TR.out.keepK (by repeat (first | (with_reducible exact kp_refl _) | (with_reducible refine kp_alloc _ ?_) | (with_reducible refine kp_drew ?_)))) _ i (by rfl) (by first | exact heap_alloc_last _ _ | exact alloc_mid _ _ _ | exact alloc_last2 _ _ _) HNB.out wr HBS.out (by repeat (first | (with_reducible exact X0.out) | (with_reducible exact BA1.out) | (with_reducible refine bl_alloc HBS.out _ ?_) | (with_reducible refine bl_drew ?_))) ?_; intro ga ca wA hRA hBA hFA; have RA := Lib.hid hRA; have BA1 := Lib.hid hBA; have FA := Lib.hid hFA; have KA := Lib.hid (KF.out wA BA1.out); clear hRA hBA hFA))
            | ((refine step_appB (by rfl) (.tmp 84) (.tmp 86) (by rfl) (S + 1) (acc.length + 1) acc.length (.slice (some ⟨ga, 0, none⟩) (acc.length + 1) ca) u8 ((acc.map Prod.fst) ++ [i]) (zip8 acc) (by rfl) (RA.out.keepK (by repeat (first | (with_reducible exact kp_refl _) | (with_reducible refine kp_alloc _ ?_) | (with_reducible refine kp_drew ?_)))) _ h (by rfl) _ (by first | exact heap_alloc_last _ _ | exact FA.out _ _ (ownNe TR.out.oa (by omega)) (alloc_last2 _ _ _) | exact FA.out _ _ (ownNe TR.out.oa (by omega)) (alloc_mid _ _ _)) (by rw [HH8.out, ba_lit]) HH.out HNB.out wr HBS.out (by repeat (first | (with_reducible exact X0.out) | (with_reducible exact BA1.out) | (with_reducible refine bl_alloc HBS.out _ ?_) | (with_reducible refine bl_drew ?_))) ?_; intro gb cb wB hRB hBB hFB; have RB := Lib.hid hRB; have BB1 := Lib.hid hBB; have KB := Lib.hid (KF.out wB BB1.out); clear hRB hBB hFB)))
        all_goals
          rename_i hHeld
          clear hHeld
          have ROWB := Lib.hid (HKM.out wB BB1.out)
          have TT : Hid (Two wB (S + 1) P.length P.length (.slice (some ⟨ga, 0, none⟩) (acc.length + 1) ca) (.slice (some ⟨gb, 0, none⟩) (acc.length + 1) cb) (P.map Prod.fst) (zip8 P)) := by rw [← HE3.out]; exact RB.out.snoc
          have BT : Hid (Below S w wB) := BSW.out.trans (BB1.out.mono (by omega))
          clear m0 m1 fz0 fz1 z0 z1 z2 z3 z4 z5 z6 z7
          have m0 : wB.cell? ⟨M, 0, none⟩ = some (.slice A1 k c1) := by rw [cell_of_row wB M 0 _ 39 (0, 0) ROWB.out]; rfl
          have m1 : wB.cell? ⟨M, 1, none⟩ = some (.slice A2 k c2) := by rw [cell_of_row wB M 1 _ 39 (0, 0) ROWB.out]; rfl
          have fz0 := free_of ROWB.out 0
          have fz1 := free_of ROWB.out 1
          go_wp2_with fail
          go_ret
          exact ⟨rfl, fin24 HMS.out HS.out BT.out ROWB.out TT.out⟩
      · have HE3 : Hid (acc = P) := by
          have := EA.out
          rw [HDK.out] at this
          show _ = _
          simpa [delL] using this
        have TT : Hid (Two wr (S + 1) P.length P.length u7 u8 (P.map Prod.fst) (zip8 P)) := by rw [← HE3.out]; exact TR.out
        obtain ⟨A7, c7, h7⟩ := ownG_slice TT.out.oa
        obtain ⟨A8, c8, h8⟩ := ownG_slice TT.out.ob
        subst h7 h8
        go_wp2_with fail
        go_ret
        exact ⟨rfl, fin24 HMS.out HS.out BSW.out ROW.out TT.out⟩
end Go.Proofs.YtgagcblddcibkaaDoor
