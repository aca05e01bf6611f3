/-
  A leaf of an account, where there is one.
-/
import Derived.Test.YtgagcblddcibkaaDoorS13
namespace Go.Proofs.YtgagcblddcibkaaDoor
open Go.RowKit
open Go.Maps
attribute [local irreducible] ua da ba kk sw S8.run rt hs comp splice outB sha msg twoM twoN ab MapIs mrow nd upF at8 prfL okN leafM leafV digs pa4
set_option maxRecDepth 100000 in
set_option maxHeartbeats 4000000 in
theorem p21y (i o0 o1 o2 o3 o4 o5 o6 o7 am no : Int) (w : World) (hk : Keys w) (hz : ¬ [o0, o1, o2, o3, o4, o5, o6, o7] = zeros 8) (hok : (okN i 2 && (okN am 7 && okN no 1)) = true) :
    Calls Tryd.prog 21 #[.int .i64 i, .agg #[.int .u8 o0, .int .u8 o1, .int .u8 o2, .int .u8 o3, .int .u8 o4, .int .u8 o5, .int .u8 o6, .int .u8 o7, .int .i64 am, .int .i64 no]] w fun e w' => e = .returned (.agg (ba (leafV i [o0, o1, o2, o3, o4, o5, o6, o7] am no))) ∧ Below w.heap.size w w' := by
  have h4 := z27
  have HK := Lib.hid hk
  have HPOS : Hid (0 < w.heap.size) := keys_pos hk
  have e3 : okN i 2 = true ∧ okN am 7 = true ∧ okN no 1 = true := by simpa using hok
  have E2 : Hid (∀ w', Calls Tryd.prog 31 #[.int .i64 i, .int .i64 2] w' fun e w'' => e = .returned (.bool (okN i 2)) ∧ w' = w'') := fun w' => by
    have := p31 i 2 w' (by omega)
    rw [show ((2 : Nat) : Int) = 2 from rfl, okN_eq] at this
    exact this
  have E7 : Hid (∀ w', Calls Tryd.prog 31 #[.int .i64 am, .int .i64 7] w' fun e w'' => e = .returned (.bool (okN am 7)) ∧ w' = w'') := fun w' => by
    have := p31 am 7 w' (by omega)
    rw [show ((7 : Nat) : Int) = 7 from rfl, okN_eq] at this
    exact this
  have E1 : Hid (∀ w', Calls Tryd.prog 31 #[.int .i64 no, .int .i64 1] w' fun e w'' => e = .returned (.bool (okN no 1)) ∧ w' = w'') := fun w' => by
    have := p31 no 1 w' (by omega)
    rw [show ((1 : Nat) : Int) = 1 from rfl, okN_eq] at this
    exact this
  have F2 : Hid (∀ w', Calls Tryd.prog 34 #[.int .i64 i, .int .i64 2] w' (DigR i 2 w')) := fun w' => by
    have := p34 i 2 w' (by omega)
    rw [show ((2 : Nat) : Int) = 2 from rfl] at this
    exact this
  have F7 : Hid (∀ w', Calls Tryd.prog 34 #[.int .i64 am, .int .i64 7] w' (DigR am 7 w')) := fun w' => by
    have := p34 am 7 w' (by omega)
    rw [show ((7 : Nat) : Int) = 7 from rfl] at this
    exact this
  have F1 : Hid (∀ w', Calls Tryd.prog 34 #[.int .i64 no, .int .i64 1] w' (DigR no 1 w')) := fun w' => by
    have := p34 no 1 w' (by omega)
    rw [show ((1 : Nat) : Int) = 1 from rfl] at this
    exact this
  have EZ : Hid (∀ w', Calls Tryd.prog 32 #[.agg #[.int .u8 o0, .int .u8 o1, .int .u8 o2, .int .u8 o3, .int .u8 o4, .int .u8 o5, .int .u8 o6, .int .u8 o7]] w' fun e w'' => e = .returned (.bool (decide ([o0, o1, o2, o3, o4, o5, o6, o7] = zeros 8))) ∧ Below w'.heap.size w' w'') := fun w' => by
    have := c16 [o0, o1, o2, o3, o4, o5, o6, o7] w' rfl
    generalize decide ([o0, o1, o2, o3, o4, o5, o6, o7] = zeros 8) = b at *
    rw [ba_lit] at this
    exact this
  rw [e3.1] at E2
  rw [e3.2.1] at E7
  rw [e3.2.2] at E1
  rw [decide_eq_false hz] at EZ
  obtain ⟨x0, x1, x2, x3, x4, x5, x6, x7, h8⟩ := c8cells ((sha (leafM i [o0, o1, o2, o3, o4, o5, o6, o7] am no)).take 8) (by rw [List.length_take, sha_len]; omega)
  have H8 := Lib.hid h8
  rw [leafV_yes hz hok, h8, ba_lit]
  obtain ⟨S, hS⟩ : ∃ S, w.heap.size = S := ⟨_, rfl⟩
  have HS := Lib.hid hS
  have A0 : Hid ((w.alloc (Obj.cells #[.int .u8 o0, .int .u8 o1, .int .u8 o2, .int .u8 o3, .int .u8 o4, .int .u8 o5, .int .u8 o6, .int .u8 o7, .int .i64 am, .int .i64 no] 50)).heap[S]? = some (.cells #[.int .u8 o0, .int .u8 o1, .int .u8 o2, .int .u8 o3, .int .u8 o4, .int .u8 o5, .int .u8 o6, .int .u8 o7, .int .i64 am, .int .i64 no] 50 (0, 0))) := by subst hS; exact heap_alloc_last w _
  have R0 : Hid (BA ((w.alloc (Obj.cells #[.int .u8 o0, .int .u8 o1, .int .u8 o2, .int .u8 o3, .int .u8 o4, .int .u8 o5, .int .u8 o6, .int .u8 o7, .int .i64 am, .int .i64 no] 50)).alloc (Obj.cells (ba (zeros 8)) 29)) (S + 1) 29 (zeros 8)) := by
    show _ = _
    subst hS
    have := heap_alloc_last (w.alloc (Obj.cells #[.int .u8 o0, .int .u8 o1, .int .u8 o2, .int .u8 o3, .int .u8 o4, .int .u8 o5, .int .u8 o6, .int .u8 o7, .int .i64 am, .int .i64 no] 50)) (Obj.cells (ba (zeros 8)) 29)
    simp only [World.size_alloc] at this
    exact this
  have A1 : Hid (((w.alloc (Obj.cells #[.int .u8 o0, .int .u8 o1, .int .u8 o2, .int .u8 o3, .int .u8 o4, .int .u8 o5, .int .u8 o6, .int .u8 o7, .int .i64 am, .int .i64 no] 50)).alloc (Obj.cells (ba (zeros 8)) 29)).heap[S]? = some (.cells #[.int .u8 o0, .int .u8 o1, .int .u8 o2, .int .u8 o3, .int .u8 o4, .int .u8 o5, .int .u8 o6, .int .u8 o7, .int .i64 am, .int .i64 no] 50 (0, 0))) := (Below.heap_alloc _ _ _ (lt_of_block A0.out)).trans A0.out
  have B0 : Hid (Below S w ((w.alloc (Obj.cells #[.int .u8 o0, .int .u8 o1, .int .u8 o2, .int .u8 o3, .int .u8 o4, .int .u8 o5, .int .u8 o6, .int .u8 o7, .int .i64 am, .int .i64 no] 50)).alloc (Obj.cells (ba (zeros 8)) 29))) := by subst hS; exact ((Below.refl _ w).alloc (Nat.le_refl _) _).alloc (by simp) _
  clear hk hz hok e3 h8
  go_enter Tryd.func21, Tryd.ntmps21
  go_wp2_with fail
  clear hS A0
  generalize (w.alloc (Obj.cells #[.int .u8 o0, .int .u8 o1, .int .u8 o2, .int .u8 o3, .int .u8 o4, .int .u8 o5, .int .u8 o6, .int .u8 o7, .int .i64 am, .int .i64 no] 50)).alloc (Obj.cells (ba (zeros 8)) 29) = w0 at *
  have KF : Hid (∀ w', Below w0.heap.size w0 w' → (w'.cell? ⟨S, 0, none⟩ = some (.int .u8 o0) ∧ w'.cell? ⟨S, 1, none⟩ = some (.int .u8 o1) ∧ w'.cell? ⟨S, 2, none⟩ = some (.int .u8 o2) ∧ w'.cell? ⟨S, 3, none⟩ = some (.int .u8 o3) ∧ w'.cell? ⟨S, 4, none⟩ = some (.int .u8 o4) ∧ w'.cell? ⟨S, 5, none⟩ = some (.int .u8 o5) ∧ w'.cell? ⟨S, 6, none⟩ = some (.int .u8 o6) ∧ w'.cell? ⟨S, 7, none⟩ = some (.int .u8 o7) ∧ w'.cell? ⟨S, 8, none⟩ = some (.int .i64 am) ∧ w'.cell? ⟨S, 9, none⟩ = some (.int .i64 no))) := fun w' hb => by
    have h := (hb.block S (by have := lt_of_block R0.out; omega)).trans A1.out
    exact ⟨by rw [cell_of_row w' S 0 _ 50 (0, 0) h]; rfl, by rw [cell_of_row w' S 1 _ 50 (0, 0) h]; rfl, by rw [cell_of_row w' S 2 _ 50 (0, 0) h]; rfl, by rw [cell_of_row w' S 3 _ 50 (0, 0) h]; rfl, by rw [cell_of_row w' S 4 _ 50 (0, 0) h]; rfl, by rw [cell_of_row w' S 5 _ 50 (0, 0) h]; rfl, by rw [cell_of_row w' S 6 _ 50 (0, 0) h]; rfl, by rw [cell_of_row w' S 7 _ 50 (0, 0) h]; rfl, by rw [cell_of_row w' S 8 _ 50 (0, 0) h]; rfl, by rw [cell_of_row w' S 9 _ 50 (0, 0) h]; rfl⟩
  have X0 : Hid (Below w0.heap.size w0 w0) := Below.refl _ _
  have L0 : Hid (S + 1 < w0.heap.size) := lt_of_block R0.out
  obtain ⟨u0, u1, u2, u3, u4, u5, u6, u7, u8, u9⟩ := KF.out w0 X0.out
  go_wp2_with (first
    | (go_at_call 31; refine (E2.out _).mono ?_; rintro e w2 ⟨rfl, rfl⟩; clear E2)
    | (go_at_call 31; refine (E7.out _).mono ?_; rintro e w2 ⟨rfl, rfl⟩; clear E7)
    | (go_at_call 31; refine (E1.out _).mono ?_; rintro e w2 ⟨rfl, rfl⟩; clear E1)
    | (go_at_call 32; refine (EZ.out _).mono ?_; rintro e w1 ⟨rfl, hb1⟩; have X1 := Lib.hid hb1; have R1 : Hid (BA w1 (S + 1) 29 (zeros 8)) := (hb1.block _ L0.out).trans R0.out; clear u0 u1 u2 u3 u4 u5 u6 u7 u8 u9 hb1; obtain ⟨u0, u1, u2, u3, u4, u5, u6, u7, u8, u9⟩ := KF.out w1 X1.out)
    | fail)
  have AW : Hid (w1.heap[S]? = some (.cells #[.int .u8 o0, .int .u8 o1, .int .u8 o2, .int .u8 o3, .int .u8 o4, .int .u8 o5, .int .u8 o6, .int .u8 o7, .int .i64 am, .int .i64 no] 50 (0, 0))) := (X1.out.block S (lt_of_block A1.out)).trans A1.out
  have BW1 : Hid (Below S w w1) := B0.out.trans (X1.out.mono (by have := L0.out; omega))
  have KW1 : Hid (Keys w1) := keys_below HK.out BW1.out (by rw [← HS.out]; exact HPOS.out)
  clear KF X0 R0 A1 B0 EZ X1
  have KF1 : Hid (∀ w' : World, w'.heap[S]? = w1.heap[S]? → (w'.cell? ⟨S, 0, none⟩ = some (.int .u8 o0) ∧ w'.cell? ⟨S, 1, none⟩ = some (.int .u8 o1) ∧ w'.cell? ⟨S, 2, none⟩ = some (.int .u8 o2) ∧ w'.cell? ⟨S, 3, none⟩ = some (.int .u8 o3) ∧ w'.cell? ⟨S, 4, none⟩ = some (.int .u8 o4) ∧ w'.cell? ⟨S, 5, none⟩ = some (.int .u8 o5) ∧ w'.cell? ⟨S, 6, none⟩ = some (.int .u8 o6) ∧ w'.cell? ⟨S, 7, none⟩ = some (.int .u8 o7) ∧ w'.cell? ⟨S, 8, none⟩ = some (.int .i64 am) ∧ w'.cell? ⟨S, 9, none⟩ = some (.int .i64 no))) := fun w' hb => by
    have h := hb.trans AW.out
    exact ⟨by rw [cell_of_row w' S 0 _ 50 (0, 0) h]; rfl, by rw [cell_of_row w' S 1 _ 50 (0, 0) h]; rfl, by rw [cell_of_row w' S 2 _ 50 (0, 0) h]; rfl, by rw [cell_of_row w' S 3 _ 50 (0, 0) h]; rfl, by rw [cell_of_row w' S 4 _ 50 (0, 0) h]; rfl, by rw [cell_of_row w' S 5 _ 50 (0, 0) h]; rfl, by rw [cell_of_row w' S 6 _ 50 (0, 0) h]; rfl, by rw [cell_of_row w' S 7 _ 50 (0, 0) h]; rfl, by rw [cell_of_row w' S 8 _ 50 (0, 0) h]; rfl, by rw [cell_of_row w' S 9 _ 50 (0, 0) h]; rfl⟩
  have HO : Hid (∀ (Aa Ab Ac : Option Addr) (da db dc : Nat) (wa wb wc : World), Below w1.heap.size w1 wc → (∀ k, k < wa.heap.size → wb.heap[k]? = wa.heap[k]?) → (∀ k, k < wb.heap.size → wc.heap[k]? = wb.heap[k]?) → Src wa Aa 2 (digs i 2) → Src wb Ab 7 (digs am 7) → Src wc Ac 1 (digs no 1) → Len4 2 da Aa → Len4 7 db Ab → Len4 1 dc Ac → ∀ w' : World, w'.heap = (wc.alloc (Obj.cells #[.slice Aa 2 da, .slice (some ⟨S, 0, none⟩) 8 8, .slice Ab 7 db, .slice Ac 1 dc] 67)).heap → Calls Tryd.prog 33 #[.int .u8 97, .slice (some ⟨wc.heap.size, 0, none⟩) 4 4] w' fun e w'' => e = .returned (.agg #[.int .u8 x0, .int .u8 x1, .int .u8 x2, .int .u8 x3, .int .u8 x4, .int .u8 x5, .int .u8 x6, .int .u8 x7]) ∧ Below w'.heap.size w' w'') := by
    intro Aa Ab Ac da db dc wa wb wc Xc Fab Fbc Sa Sb Sc Da Db Dc w' hh
    have hk : ∀ k, k < wc.heap.size → w'.heap[k]? = wc.heap[k]? := fun k hk => by rw [hh]; exact Below.heap_alloc wc _ k hk
    have hk1 : ∀ k, k < w1.heap.size → w'.heap[k]? = w1.heap[k]? := fun k h1 => (hk k (Nat.lt_of_lt_of_le h1 Xc.size)).trans (Xc.block k h1)
    have hK : Keys w' := fun j hj => by
      rw [World.cell?_of_block (w := w1) (w' := w') (a := ⟨0, j, none⟩) (hk1 0 (by have := lt_of_block AW.out; omega))]
      exact KW1.out j hj
    have hlast : w'.heap[wc.heap.size]? = some (.cells #[.slice Aa 2 da, .slice (some ⟨S, 0, none⟩) 8 8, .slice Ab 7 db, .slice Ac 1 dc] 67 (0, 0)) := by rw [hh]; exact heap_alloc_last wc _
    have hc := KF1.out w' (hk1 S (lt_of_block AW.out))
    have hs : Src w' (some ⟨S, 0, none⟩) 8 [o0, o1, o2, o3, o4, o5, o6, o7] := src8 o0 o1 o2 o3 o4 o5 o6 o7 fun c h8 => by
      obtain ⟨u0, u1, u2, u3, u4, u5, u6, u7, u8, u9⟩ := hc
      match c, h8 with
      | 0, _ => exact u0
      | 1, _ => exact u1
      | 2, _ => exact u2
      | 3, _ => exact u3
      | 4, _ => exact u4
      | 5, _ => exact u5
      | 6, _ => exact u6
      | 7, _ => exact u7
    have := leafP hK hlast (((Sa.keep Fab).keep Fbc).keep hk) hs ((Sb.keep Fbc).keep hk) (Sc.keep hk) Da Db Dc
    rw [H8.out, ba_lit] at this
    exact this
  have W1 : Hid (Below w1.heap.size w1 w1) := Below.refl _ _
  have LS : Hid (S < w1.heap.size) := lt_of_block AW.out
  have KK0 := Lib.hid (KF1.out w1 rfl)
  have KK1 := Lib.hid (KF1.out w1.drew rfl)
  have L1 : Hid (S + 1 < w1.heap.size) := lt_of_block R1.out
  go_region_held3 (fun w' => (w'.cell? ⟨S, 0, none⟩ = some (.int .u8 o0) ∧ w'.cell? ⟨S, 1, none⟩ = some (.int .u8 o1) ∧ w'.cell? ⟨S, 2, none⟩ = some (.int .u8 o2) ∧ w'.cell? ⟨S, 3, none⟩ = some (.int .u8 o3) ∧ w'.cell? ⟨S, 4, none⟩ = some (.int .u8 o4) ∧ w'.cell? ⟨S, 5, none⟩ = some (.int .u8 o5) ∧ w'.cell? ⟨S, 6, none⟩ = some (.int .u8 o6) ∧ w'.cell? ⟨S, 7, none⟩ = some (.int .u8 o7) ∧ w'.cell? ⟨S, 8, none⟩ = some (.int .i64 am) ∧ w'.cell? ⟨S, 9, none⟩ = some (.int .i64 no))) (first | (with_reducible exact KKy.out) | (with_reducible exact KKc.out) | (with_reducible exact KKb.out) | (with_reducible exact KKa.out) | (with_reducible exact KKz1.out) | (with_reducible exact KKz2.out) | (with_reducible exact KKp.out) | (with_reducible exact KK0.out) | (with_reducible exact KK1.out) | go_keep)
    (first
      | (go_at_call 34; refine (F2.out _).mono ?_; rintro e wa ⟨Aa, da, rfl, hsa, hla, hba⟩; have Xa : Hid (Below w1.heap.size w1 wa) := (by first | exact W1.out.trans (hba.mono W1.out.size) | exact W1.out.drew.trans (hba.mono W1.out.drew.size)); have Sa := Lib.hid hsa; have Da := Lib.hid hla; have KKa := Lib.hid (KF1.out wa (Xa.out.block S LS.out)); clear hsa hla F2 hba)
      | (go_at_call 34; refine (F7.out _).mono ?_; rintro e wb ⟨Ab, db, rfl, hsb, hlb, hbb⟩; have Xb : Hid (Below w1.heap.size w1 wb) := (by first | exact Xa.out.trans (hbb.mono Xa.out.size) | exact Xa.out.drew.trans (hbb.mono Xa.out.drew.size)); have Sb := Lib.hid hsb; have Db := Lib.hid hlb; have KKb := Lib.hid (KF1.out wb (Xb.out.block S LS.out)); have Fb : Hid (∀ k, k < wa.heap.size → wb.heap[k]? = wa.heap[k]?) := fun k hk => hbb.block k hk; clear hsb hlb F7 hbb)
      | (go_at_call 34; refine (F1.out _).mono ?_; rintro e wc ⟨Ac, dc, rfl, hsc, hlc, hbc⟩; have Xc : Hid (Below w1.heap.size w1 wc) := (by first | exact Xb.out.trans (hbc.mono Xb.out.size) | exact Xb.out.drew.trans (hbc.mono Xb.out.drew.size)); have Sc := Lib.hid hsc; have Dc := Lib.hid hlc; have KKc := Lib.hid (KF1.out wc (Xc.out.block S LS.out)); have Fc : Hid (∀ k, k < wb.heap.size → wc.heap[k]? = wb.heap[k]?) := fun k hk => hbc.block k hk; have CO : Hid (∀ w' : World, w'.heap = (wc.alloc (Obj.cells #[.slice Aa 2 da, .slice (some ⟨S, 0, none⟩) 8 8, .slice Ab 7 db, .slice Ac 1 dc] 67)).heap → Calls Tryd.prog 33 #[.int .u8 97, .slice (some ⟨wc.heap.size, 0, none⟩) 4 4] w' fun e w'' => e = .returned (.agg #[.int .u8 x0, .int .u8 x1, .int .u8 x2, .int .u8 x3, .int .u8 x4, .int .u8 x5, .int .u8 x6, .int .u8 x7]) ∧ Below w'.heap.size w' w'') := HO.out Aa Ab Ac da db dc wa wb wc Xc.out Fb.out Fc.out Sa.out Sb.out Sc.out Da.out Db.out Dc.out; have KKz : Hid (∀ w' : World, w'.heap = (wc.alloc (Obj.cells #[.slice Aa 2 da, .slice (some ⟨S, 0, none⟩) 8 8, .slice Ab 7 db, .slice Ac 1 dc] 67)).heap → (w'.cell? ⟨S, 0, none⟩ = some (.int .u8 o0) ∧ w'.cell? ⟨S, 1, none⟩ = some (.int .u8 o1) ∧ w'.cell? ⟨S, 2, none⟩ = some (.int .u8 o2) ∧ w'.cell? ⟨S, 3, none⟩ = some (.int .u8 o3) ∧ w'.cell? ⟨S, 4, none⟩ = some (.int .u8 o4) ∧ w'.cell? ⟨S, 5, none⟩ = some (.int .u8 o5) ∧ w'.cell? ⟨S, 6, none⟩ = some (.int .u8 o6) ∧ w'.cell? ⟨S, 7, none⟩ = some (.int .u8 o7) ∧ w'.cell? ⟨S, 8, none⟩ = some (.int .i64 am) ∧ w'.cell? ⟨S, 9, none⟩ = some (.int .i64 no))) := fun w' hh => KF1.out w' (by rw [hh]; exact (Below.heap_alloc wc _ S (Nat.lt_of_lt_of_le LS.out Xc.out.size)).trans (Xc.out.block S LS.out)); have KKz1 := Lib.hid (KKz.out (wc.alloc (Obj.cells #[.slice Aa 2 da, .slice (some ⟨S, 0, none⟩) 8 8, .slice Ab 7 db, .slice Ac 1 dc] 67)) rfl); have KKz2 := Lib.hid (KKz.out (wc.alloc (Obj.cells #[.slice Aa 2 da, .slice (some ⟨S, 0, none⟩) 8 8, .slice Ab 7 db, .slice Ac 1 dc] 67)).drew rfl); clear hsc hlc F1 hbc)
      | (go_at_call 33; refine (CO.out _ (by rfl)).mono ?_; rintro e wz ⟨rfl, hbz⟩; have KZ : Hid (∀ k, k < wc.heap.size → wz.heap[k]? = wc.heap[k]?) := fun k hk => (hbz.block k (by simp; omega)).trans (Below.heap_alloc wc _ k hk); have RZ : Hid (BA wz (S + 1) 29 (zeros 8)) := (KZ.out _ (Nat.lt_of_lt_of_le L1.out Xc.out.size)).trans ((Xc.out.block _ L1.out).trans R1.out); have BZ : Hid (Below S w wz) := (by first | exact BW1.out.trans (((Xc.out.alloc Xc.out.size _).trans (hbz.mono (by have := Xc.out.size; simp; omega))).mono (by have := L1.out; omega)) | exact BW1.out.trans (((Xc.out.alloc Xc.out.size _).drew.trans (hbz.mono (by have := Xc.out.size; simp; omega))).mono (by have := L1.out; omega))); have hkz : wz.heap[S]? = w1.heap[S]? := (KZ.out S (Nat.lt_of_lt_of_le LS.out Xc.out.size)).trans (Xc.out.block S LS.out); have KKy := Lib.hid (KF1.out wz hkz); have KKp := Lib.hid (KF1.out (((((((((wz.setCell ⟨S + 1, 0, none⟩ (.int .u8 x0)).setCell ⟨S + 1, 1, none⟩ (.int .u8 x1)).setCell ⟨S + 1, 2, none⟩ (.int .u8 x2)).setCell ⟨S + 1, 3, none⟩ (.int .u8 x3)).setCell ⟨S + 1, 4, none⟩ (.int .u8 x4)).setCell ⟨S + 1, 5, none⟩ (.int .u8 x5)).setCell ⟨S + 1, 6, none⟩ (.int .u8 x6)).setCell ⟨S + 1, 7, none⟩ (.int .u8 x7))) ((put8_else x0 x1 x2 x3 x4 x5 x6 x7 (by omega)).trans hkz)); clear hkz; obtain ⟨z0, z1, z2, z3, z4, z5, z6, z7⟩ := cells8 (t := 29) 0 0 0 0 0 0 0 0 RZ.out; have f0 := free_of RZ.out; clear hbz))
  rename_i hHeld
  clear hHeld z0 z1 z2 z3 z4 z5 z6 z7 f0
  have RF : Hid ((put8 wz (S + 1) x0 x1 x2 x3 x4 x5 x6 x7).heap[S + 1]? = some (.cells #[.int .u8 x0, .int .u8 x1, .int .u8 x2, .int .u8 x3, .int .u8 x4, .int .u8 x5, .int .u8 x6, .int .u8 x7] 29 (0, 0))) := by rw [← ba_lit]; exact put8_ba x0 x1 x2 x3 x4 x5 x6 x7 RZ.out
  have BF : Hid (Below S w (put8 wz (S + 1) x0 x1 x2 x3 x4 x5 x6 x7)) := put8_below x0 x1 x2 x3 x4 x5 x6 x7 BZ.out (by omega)
  change Exit.then _ _ Exit.normal _ (put8 wz (S + 1) x0 x1 x2 x3 x4 x5 x6 x7)
  generalize put8 wz (S + 1) x0 x1 x2 x3 x4 x5 x6 x7 = wf at *
  go_wp2
  refine bodyPost_ret (v := .agg #[.int .u8 x0, .int .u8 x1, .int .u8 x2, .int .u8 x3, .int .u8 x4, .int .u8 x5, .int .u8 x6, .int .u8 x7]) (results_cell_row rfl _ _ (S + 1) 29 #[.int .u8 x0, .int .u8 x1, .int .u8 x2, .int .u8 x3, .int .u8 x4, .int .u8 x5, .int .u8 x6, .int .u8 x7] (0, 0) _ rfl RF.out Tryd.underlying29 rfl (sz s27 rfl)) rfl ⟨rfl, ?_⟩
  rw [HS.out]
  exact BF.out
end Go.Proofs.YtgagcblddcibkaaDoor
