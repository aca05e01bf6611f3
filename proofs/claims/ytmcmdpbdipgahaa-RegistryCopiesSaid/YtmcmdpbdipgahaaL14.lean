/-
  The document's own Sign.
-/
import Derived.Test.YtmcmdpbdipgahaaLC
import Derived.Test.YtmcmdpbdipgahaaLE
namespace Go.Proofs.Ytmcmdpbdipgahaa
open Go.RowKit
def oF (seed : List Int) (x : Int) (m : List Int) (i : Nat) : List Int := sec seed x i (bt m i)
def sF (seed : List Int) (x : Int) (m : List Int) (i : Nat) : List Int := mk (sec seed x i (1 - bt m i))
theorem oF_len (seed : List Int) (x : Int) (m : List Int) (i : Nat) : (oF seed x m i).length = 8 := sec_len _ _ _ _
theorem sF_len (seed : List Int) (x : Int) (m : List Int) (i : Nat) : (sF seed x m i).length = 8 := mk_len _
theorem cells8o {w : World} {b t : Nat} (a0 a1 a2 a3 a4 a5 a6 a7 : Int) (h : BA w b t [a0, a1, a2, a3, a4, a5, a6, a7]) : (w.cell? ⟨b, 0, none⟩ = some (.int .u8 a0) ∧ w.cell? ⟨b, 1, none⟩ = some (.int .u8 a1) ∧ w.cell? ⟨b, 2, none⟩ = some (.int .u8 a2) ∧ w.cell? ⟨b, 3, none⟩ = some (.int .u8 a3) ∧ w.cell? ⟨b, 4, none⟩ = some (.int .u8 a4) ∧ w.cell? ⟨b, 5, none⟩ = some (.int .u8 a5) ∧ w.cell? ⟨b, 6, none⟩ = some (.int .u8 a6) ∧ w.cell? ⟨b, 7, none⟩ = some (.int .u8 a7)) := ⟨ba_cell h 0 (show 0 < 8 by decide), ba_cell h 1 (show 1 < 8 by decide), ba_cell h 2 (show 2 < 8 by decide), ba_cell h 3 (show 3 < 8 by decide), ba_cell h 4 (show 4 < 8 by decide), ba_cell h 5 (show 5 < 8 by decide), ba_cell h 6 (show 6 < 8 by decide), ba_cell h 7 (show 7 < 8 by decide)⟩
attribute [local irreducible] ua da ba kk sw S8.run rt hs comp splice outB sha msg bvals cat at8 at16 secM zeros sec keyF marksF mk pubk bt oF sF

set_option maxRecDepth 100000 in
set_option maxHeartbeats 8000000 in
theorem dSign (seed msg8 : List Int) (index x : Int) (w : World) (hs : seed.length = 8) (hw : IntKind.u8.wrap index = x) (hm : msg8.length = 8) (hbt : Byt msg8) :
    Calls Try.prog 60 #[.agg (ba seed), .int .i64 index, .agg (ba msg8)] w fun e w' => e = .returned (.tuple #[.agg (ba (cat (oF seed x msg8) 16)), .agg (ba (cat (sF seed x msg8) 16))]) ∧ Below w.heap.size w w' := by
  have h4 := z27
  have h6 := z128
  have HSL := Lib.hid hs
  have HML := Lib.hid hm
  have HMB := Lib.hid hbt
  have HW := Lib.hid hw
  have HFO := Lib.hid (cat_len _ (oF_len seed x msg8))
  have HFS := Lib.hid (cat_len _ (sF_len seed x msg8))
  obtain ⟨S, hS⟩ : ∃ S, w.heap.size = S := ⟨_, rfl⟩
  have HS := Lib.hid hS
  have E0 := Lib.hid (ba_old (ba_old (ba_old (ba_old (ba_old (ba_new hS seed 31) (Obj.cells (ba msg8) 31)) (Obj.cells (ba (zeros 128)) 95)) (Obj.cells (ba (zeros 128)) 95)) (Obj.cells (ba (zeros 128)) 95)) (Obj.cells (ba (zeros 128)) 95))
  have M0 := Lib.hid (ba_old (ba_old (ba_old (ba_old (ba_new (size_al hS (Obj.cells (ba seed) 31)) msg8 31) (Obj.cells (ba (zeros 128)) 95)) (Obj.cells (ba (zeros 128)) 95)) (Obj.cells (ba (zeros 128)) 95)) (Obj.cells (ba (zeros 128)) 95))
  have O0 := Lib.hid (ba_old (ba_old (ba_old (ba_new (size_al (size_al hS (Obj.cells (ba seed) 31)) (Obj.cells (ba msg8) 31)) (zeros 128) 95) (Obj.cells (ba (zeros 128)) 95)) (Obj.cells (ba (zeros 128)) 95)) (Obj.cells (ba (zeros 128)) 95))
  have H0 := Lib.hid (ba_old (ba_old (ba_new (size_al (size_al (size_al hS (Obj.cells (ba seed) 31)) (Obj.cells (ba msg8) 31)) (Obj.cells (ba (zeros 128)) 95)) (zeros 128) 95) (Obj.cells (ba (zeros 128)) 95)) (Obj.cells (ba (zeros 128)) 95))
  have P0 := Lib.hid (ba_old (ba_new (size_al (size_al (size_al (size_al hS (Obj.cells (ba seed) 31)) (Obj.cells (ba msg8) 31)) (Obj.cells (ba (zeros 128)) 95)) (Obj.cells (ba (zeros 128)) 95)) (zeros 128) 95) (Obj.cells (ba (zeros 128)) 95))
  have Q0 := Lib.hid (ba_new (size_al (size_al (size_al (size_al (size_al hS (Obj.cells (ba seed) 31)) (Obj.cells (ba msg8) 31)) (Obj.cells (ba (zeros 128)) 95)) (Obj.cells (ba (zeros 128)) 95)) (Obj.cells (ba (zeros 128)) 95)) (zeros 128) 95)
  have B0 : Hid (Below S w ((((((w.alloc (Obj.cells (ba seed) 31)).alloc (Obj.cells (ba msg8) 31)).alloc (Obj.cells (ba (zeros 128)) 95)).alloc (Obj.cells (ba (zeros 128)) 95)).alloc (Obj.cells (ba (zeros 128)) 95)).alloc (Obj.cells (ba (zeros 128)) 95))) := by subst hS; exact ((((((Below.refl _ w).alloc (Nat.le_refl _) _).alloc (by simp) _).alloc (by simp; omega) _).alloc (by simp; omega) _).alloc (by simp; omega) _).alloc (by simp; omega) _
  clear hs hm hbt hw
  go_enter Try.func60, Try.ntmps60
  go_wp2_with fail
  clear hS
  generalize ((((((w.alloc (Obj.cells (ba seed) 31)).alloc (Obj.cells (ba msg8) 31)).alloc (Obj.cells (ba (zeros 128)) 95)).alloc (Obj.cells (ba (zeros 128)) 95)).alloc (Obj.cells (ba (zeros 128)) 95)).alloc (Obj.cells (ba (zeros 128)) 95)) = w0 at *
  go_loopw [10] (fun c wr => ∃ s : Nat, s ≤ 16 ∧ c = .int .i64 s ∧ BA wr (S + 4) 95 (cat (oF seed x msg8) s ++ zeros (128 - 8 * s)) ∧ BA wr (S + 5) 95 (cat (sF seed x msg8) s ++ zeros (128 - 8 * s)) ∧ Below (S + 4) w0 wr) (fun c _ => 16 - (intOf c).toNat)
  case atStart => exact ⟨0, by omega, rfl, by rw [cat_zero]; exact P0.out, by rw [cat_zero]; exact Q0.out, Below.refl _ _⟩
  case round =>
    clear P0 Q0
    obtain ⟨s, hs, rfl, hp, hq, hb⟩ := hrel
    have PR := Lib.hid hp
    have QR := Lib.hid hq
    have BR := Lib.hid hb
    clear hp hq hb
    by_cases hlt : s < 16
    · have s0 : (0 : Int) ≤ (s : Int) := by omega
      have s1 : (s : Int) < 16 := by omega
      have HS16 : Hid (s < 16) := hlt
      obtain ⟨b, hb⟩ : ∃ b, bt msg8 s = b := ⟨_, rfl⟩
      obtain ⟨c, hc⟩ : ∃ c, 1 - b = c := ⟨_, rfl⟩
      have hb2 : b = 0 ∨ b = 1 := by rw [← hb]; exact bt_two _ _
      obtain ⟨e0, e1, e2, e3, e4, e5, e6, e7, he⟩ := c8cells seed HSL.out
      obtain ⟨g0, g1, g2, g3, g4, g5, g6, g7, hg⟩ := c8cells msg8 HML.out
      obtain ⟨n, hn⟩ : ∃ n, sec seed x s b = n := ⟨_, rfl⟩
      obtain ⟨y, hy⟩ : ∃ y, sec seed x s c = y := ⟨_, rfl⟩
      obtain ⟨z, hz⟩ : ∃ z, mk y = z := ⟨_, rfl⟩
      have LN : Hid (n.length = 8) := by rw [← hn]; exact sec_len _ _ _ _
      have LZ : Hid (z.length = 8) := by rw [← hz]; exact mk_len _
      have HCO : Hid (cat (oF seed x msg8) (s + 1) = cat (oF seed x msg8) s ++ n) := by show _ = _; rw [cat_succ, show oF seed x msg8 s = n by unfold oF; rw [hb, hn]]
      have HCS : Hid (cat (sF seed x msg8) (s + 1) = cat (sF seed x msg8) s ++ z) := by show _ = _; rw [cat_succ, show sF seed x msg8 s = z by unfold sF; rw [hb, hc, hy, hz]]
      have CLO : Hid ((cat (oF seed x msg8) s).length = s * 8) := by show _ = _; rw [HFO.out]; omega
      have CLS : Hid ((cat (sF seed x msg8) s).length = s * 8) := by show _ = _; rw [HFS.out]; omega
      have C21 : Hid (∀ w', Calls Try.prog 66 #[.agg #[.int .u8 g0, .int .u8 g1, .int .u8 g2, .int .u8 g3, .int .u8 g4, .int .u8 g5, .int .u8 g6, .int .u8 g7], .int .i64 s] w' fun e w'' => e = .returned (.int .i64 b) ∧ Below w'.heap.size w' w'') := fun w' => by
        have := dBit msg8 s w' HML.out HMB.out HS16.out
        rw [hb, hg, ba_lit] at this
        exact this
      have C20 : Hid (∀ w', Calls Try.prog 65 #[.agg #[.int .u8 e0, .int .u8 e1, .int .u8 e2, .int .u8 e3, .int .u8 e4, .int .u8 e5, .int .u8 e6, .int .u8 e7], .int .i64 index, .int .i64 s, .int .i64 b] w' fun e w'' => e = .returned (.agg (ba n)) ∧ Below w'.heap.size w' w'') := fun w' => by
        have := dSec seed index x s b w' HSL.out HW.out HS16.out (by omega)
        rw [hn, he, ba_lit] at this
        exact this
      have D20 : Hid (∀ w', Calls Try.prog 65 #[.agg #[.int .u8 e0, .int .u8 e1, .int .u8 e2, .int .u8 e3, .int .u8 e4, .int .u8 e5, .int .u8 e6, .int .u8 e7], .int .i64 index, .int .i64 s, .int .i64 c] w' fun e w'' => e = .returned (.agg (ba y)) ∧ Below w'.heap.size w' w'') := fun w' => by
        have := dSec seed index x s c w' HSL.out HW.out HS16.out (by omega)
        rw [hy, he, ba_lit] at this
        exact this
      have C15 : Hid (∀ w', Calls Try.prog 67 #[.agg (ba y)] w' fun e w'' => e = .returned (.agg (ba z)) ∧ Below w'.heap.size w' w'') := fun w' => by
        have := dMark y w' (by rw [← hy]; exact sec_len _ _ _ _)
        rw [hz] at this
        exact this
      have b0 : (0 : Int) ≤ (b : Int) := by omega
      have b1 : (b : Int) < 2 := by omega
      have i1 : (1 : Int) - (b : Int) = (c : Int) := by omega
      have i2 : wrap64 (c : Int) = (c : Int) := by unfold wrap64; omega
      have i3 : IntKind.i64.wrap (c : Int) = (c : Int) := by rw [IntKind.wrap_i64]; omega
      have KZ : Hid (∀ w' : World, w'.heap[S]? = w0.heap[S]? → w'.heap[S + 1]? = w0.heap[S + 1]? → (w'.cell? ⟨S, 0, none⟩ = some (.int .u8 e0) ∧ w'.cell? ⟨S, 1, none⟩ = some (.int .u8 e1) ∧ w'.cell? ⟨S, 2, none⟩ = some (.int .u8 e2) ∧ w'.cell? ⟨S, 3, none⟩ = some (.int .u8 e3) ∧ w'.cell? ⟨S, 4, none⟩ = some (.int .u8 e4) ∧ w'.cell? ⟨S, 5, none⟩ = some (.int .u8 e5) ∧ w'.cell? ⟨S, 6, none⟩ = some (.int .u8 e6) ∧ w'.cell? ⟨S, 7, none⟩ = some (.int .u8 e7)) ∧ (w'.cell? ⟨S + 1, 0, none⟩ = some (.int .u8 g0) ∧ w'.cell? ⟨S + 1, 1, none⟩ = some (.int .u8 g1) ∧ w'.cell? ⟨S + 1, 2, none⟩ = some (.int .u8 g2) ∧ w'.cell? ⟨S + 1, 3, none⟩ = some (.int .u8 g3) ∧ w'.cell? ⟨S + 1, 4, none⟩ = some (.int .u8 g4) ∧ w'.cell? ⟨S + 1, 5, none⟩ = some (.int .u8 g5) ∧ w'.cell? ⟨S + 1, 6, none⟩ = some (.int .u8 g6) ∧ w'.cell? ⟨S + 1, 7, none⟩ = some (.int .u8 g7))) := fun v hv hu => ⟨cells8o e0 e1 e2 e3 e4 e5 e6 e7 (by rw [← he]; exact hv.trans E0.out), cells8o g0 g1 g2 g3 g4 g5 g6 g7 (by rw [← hg]; exact hu.trans M0.out)⟩
      have FR : Hid (∀ q, q < S + 4 → wr.heap[q]? = w0.heap[q]?) := fun q hq => BR.out.block q hq
      have LP : Hid (S + 5 < wr.heap.size) := lt_of_block QR.out
      have hsn : (ba n).size = 8 := by rw [ba_size]; exact LN.out
      have hsz : (ba z).size = 8 := by rw [ba_size]; exact LZ.out
      have X0 : Hid (Below wr.heap.size wr wr) := Below.refl _ _
      generalize cat (oF seed x msg8) s = X at *
      generalize cat (sF seed x msg8) s = Y at *
      clear hn hy hz hb hc hlt hs hb2 he hg
      obtain ⟨⟨j0, j1, j2, j3, j4, j5, j6, j7⟩, ⟨k0, k1, k2, k3, k4, k5, k6, k7⟩⟩ := KZ.out wr (FR.out _ (by omega)) (FR.out _ (by omega))
      have K7 := Lib.hid (KZ.out wr.drew (FR.out _ (by omega)) (FR.out _ (by omega)))
      go_wp2_with fail
      go_region_held3 (fun w' => (w'.cell? ⟨S, 0, none⟩ = some (.int .u8 e0) ∧ w'.cell? ⟨S, 1, none⟩ = some (.int .u8 e1) ∧ w'.cell? ⟨S, 2, none⟩ = some (.int .u8 e2) ∧ w'.cell? ⟨S, 3, none⟩ = some (.int .u8 e3) ∧ w'.cell? ⟨S, 4, none⟩ = some (.int .u8 e4) ∧ w'.cell? ⟨S, 5, none⟩ = some (.int .u8 e5) ∧ w'.cell? ⟨S, 6, none⟩ = some (.int .u8 e6) ∧ w'.cell? ⟨S, 7, none⟩ = some (.int .u8 e7)) ∧ (w'.cell? ⟨S + 1, 0, none⟩ = some (.int .u8 g0) ∧ w'.cell? ⟨S + 1, 1, none⟩ = some (.int .u8 g1) ∧ w'.cell? ⟨S + 1, 2, none⟩ = some (.int .u8 g2) ∧ w'.cell? ⟨S + 1, 3, none⟩ = some (.int .u8 g3) ∧ w'.cell? ⟨S + 1, 4, none⟩ = some (.int .u8 g4) ∧ w'.cell? ⟨S + 1, 5, none⟩ = some (.int .u8 g5) ∧ w'.cell? ⟨S + 1, 6, none⟩ = some (.int .u8 g6) ∧ w'.cell? ⟨S + 1, 7, none⟩ = some (.int .u8 g7))) (first | (with_reducible exact K7.out) | (with_reducible exact K8.out) | (with_reducible exact K9.out) | (with_reducible exact KA.out) | (with_reducible exact KB.out) | go_keep)
        (first
          | (go_at_call 66; refine (C21.out _).mono ?_; rintro e wa ⟨rfl, hba⟩; have XA : Hid (Below wr.heap.size wr wa) := X0.out.drew.trans hba; have K8 := Lib.hid (KZ.out wa ((XA.out.block _ (by have := LP.out; omega)).trans (FR.out _ (by omega))) ((XA.out.block _ (by have := LP.out; omega)).trans (FR.out _ (by omega)))); clear hba)
          | (go_at_call 65; refine (C20.out _).mono ?_; rintro e wb ⟨rfl, hbb⟩; have XB : Hid (Below wr.heap.size wr wb) := XA.out.trans (hbb.mono XA.out.size); have K9 := Lib.hid (KZ.out wb ((XB.out.block _ (by have := LP.out; omega)).trans (FR.out _ (by omega))) ((XB.out.block _ (by have := LP.out; omega)).trans (FR.out _ (by omega)))); have PB : Hid (BA wb (S + 4) 95 (X ++ zeros (128 - 8 * s))) := (XB.out.block _ (by have := LP.out; omega)).trans PR.out; have hst := st_mid (ba_there PB.out (s * 8) (ba n).size (by rw [List.length_append, CLO.out, zeros_len, hsn]; have := HS16.out; omega)); have KA := Lib.hid (KZ.out (wb.setCells (S + 4) (s * 8) (bvals n)) ((heap_setCells (by omega) _ _ _).trans ((XB.out.block _ (by have := LP.out; omega)).trans (FR.out _ (by omega)))) ((heap_setCells (by omega) _ _ _).trans ((XB.out.block _ (by have := LP.out; omega)).trans (FR.out _ (by omega))))); clear hbb))
      rename_i hHeld
      clear hHeld
      have PU : Hid (BA (wb.setCells (S + 4) (s * 8) (bvals n)) (S + 4) 95 (cat (oF seed x msg8) (s + 1) ++ zeros (128 - 8 * (s + 1)))) := by
        rw [HCO.out, show 128 - 8 * (s + 1) = 128 - 8 * s - 8 by omega]
        have := set_app (y := n) PB.out CLO.out (by rw [LN.out]; have := HS16.out; omega)
        rw [LN.out] at this
        exact this
      have QU : Hid (BA (wb.setCells (S + 4) (s * 8) (bvals n)) (S + 5) 95 (Y ++ zeros (128 - 8 * s))) := (heap_setCells (by omega) _ _ _).trans ((XB.out.block _ LP.out).trans QR.out)
      have BU : Hid (Below (S + 4) w0 (wb.setCells (S + 4) (s * 8) (bvals n))) := below_setCells (Nat.le_refl _) _ _ (BR.out.trans (XB.out.mono (by have := LP.out; omega)))
      clear j0 j1 j2 j3 j4 j5 j6 j7 k0 k1 k2 k3 k4 k5 k6 k7 hst hsn K7 K8 K9 KA XA PB PR QR BR FR X0 XB LP C20
      generalize wb.setCells (S + 4) (s * 8) (bvals n) = u at *
      have FU : Hid (∀ q, q < S + 4 → u.heap[q]? = w0.heap[q]?) := fun q hq => BU.out.block q hq
      have LU : Hid (S + 5 < u.heap.size) := lt_of_block QU.out
      have X0 : Hid (Below u.heap.size u u) := Below.refl _ _
      obtain ⟨⟨j0, j1, j2, j3, j4, j5, j6, j7⟩, ⟨k0, k1, k2, k3, k4, k5, k6, k7⟩⟩ := KZ.out u (FU.out _ (by omega)) (FU.out _ (by omega))
      have K7 := Lib.hid (KZ.out u.drew (FU.out _ (by omega)) (FU.out _ (by omega)))
      go_wp2_with fail
      go_region_held3 (fun w' => (w'.cell? ⟨S, 0, none⟩ = some (.int .u8 e0) ∧ w'.cell? ⟨S, 1, none⟩ = some (.int .u8 e1) ∧ w'.cell? ⟨S, 2, none⟩ = some (.int .u8 e2) ∧ w'.cell? ⟨S, 3, none⟩ = some (.int .u8 e3) ∧ w'.cell? ⟨S, 4, none⟩ = some (.int .u8 e4) ∧ w'.cell? ⟨S, 5, none⟩ = some (.int .u8 e5) ∧ w'.cell? ⟨S, 6, none⟩ = some (.int .u8 e6) ∧ w'.cell? ⟨S, 7, none⟩ = some (.int .u8 e7)) ∧ (w'.cell? ⟨S + 1, 0, none⟩ = some (.int .u8 g0) ∧ w'.cell? ⟨S + 1, 1, none⟩ = some (.int .u8 g1) ∧ w'.cell? ⟨S + 1, 2, none⟩ = some (.int .u8 g2) ∧ w'.cell? ⟨S + 1, 3, none⟩ = some (.int .u8 g3) ∧ w'.cell? ⟨S + 1, 4, none⟩ = some (.int .u8 g4) ∧ w'.cell? ⟨S + 1, 5, none⟩ = some (.int .u8 g5) ∧ w'.cell? ⟨S + 1, 6, none⟩ = some (.int .u8 g6) ∧ w'.cell? ⟨S + 1, 7, none⟩ = some (.int .u8 g7))) (first | (with_reducible exact K7.out) | (with_reducible exact K8.out) | (with_reducible exact K9.out) | (with_reducible exact KA.out) | (with_reducible exact KB.out) | go_keep)
        (first
          | (go_at_call 66; refine (C21.out _).mono ?_; rintro e wa ⟨rfl, hba⟩; have XA : Hid (Below u.heap.size u wa) := X0.out.drew.trans hba; have K8 := Lib.hid (KZ.out wa ((XA.out.block _ (by have := LU.out; omega)).trans (FU.out _ (by omega))) ((XA.out.block _ (by have := LU.out; omega)).trans (FU.out _ (by omega)))); clear hba)
          | (go_at_call 65; refine (D20.out _).mono ?_; rintro e wb ⟨rfl, hbb⟩; have XB : Hid (Below u.heap.size u wb) := XA.out.trans (hbb.mono XA.out.size); have K9 := Lib.hid (KZ.out wb ((XB.out.block _ (by have := LU.out; omega)).trans (FU.out _ (by omega))) ((XB.out.block _ (by have := LU.out; omega)).trans (FU.out _ (by omega)))); clear hbb)
          | (go_at_call 67; refine (C15.out _).mono ?_; rintro e wc ⟨rfl, hbc⟩; have XC : Hid (Below u.heap.size u wc) := XB.out.trans (hbc.mono XB.out.size); have KA := Lib.hid (KZ.out wc ((XC.out.block _ (by have := LU.out; omega)).trans (FU.out _ (by omega))) ((XC.out.block _ (by have := LU.out; omega)).trans (FU.out _ (by omega)))); have QB : Hid (BA wc (S + 5) 95 (Y ++ zeros (128 - 8 * s))) := (XC.out.block _ LU.out).trans QU.out; have hst := st_mid (ba_there QB.out (s * 8) (ba z).size (by rw [List.length_append, CLS.out, zeros_len, hsz]; have := HS16.out; omega)); have KB := Lib.hid (KZ.out (wc.setCells (S + 5) (s * 8) (bvals z)) ((heap_setCells (by omega) _ _ _).trans ((XC.out.block _ (by have := LU.out; omega)).trans (FU.out _ (by omega)))) ((heap_setCells (by omega) _ _ _).trans ((XC.out.block _ (by have := LU.out; omega)).trans (FU.out _ (by omega))))); clear hbc))
      rename_i hHeld
      clear hHeld
      have QN : Hid (BA (wc.setCells (S + 5) (s * 8) (bvals z)) (S + 5) 95 (cat (sF seed x msg8) (s + 1) ++ zeros (128 - 8 * (s + 1)))) := by
        rw [HCS.out, show 128 - 8 * (s + 1) = 128 - 8 * s - 8 by omega]
        have := set_app (y := z) QB.out CLS.out (by rw [LZ.out]; have := HS16.out; omega)
        rw [LZ.out] at this
        exact this
      have PN : Hid (BA (wc.setCells (S + 5) (s * 8) (bvals z)) (S + 4) 95 (cat (oF seed x msg8) (s + 1) ++ zeros (128 - 8 * (s + 1)))) := (heap_setCells (by omega) _ _ _).trans ((XC.out.block _ (by have := LU.out; omega)).trans PU.out)
      have BN : Hid (Below (S + 4) w0 (wc.setCells (S + 5) (s * 8) (bvals z))) := below_setCells (by omega) _ _ (BU.out.trans (XC.out.mono (by have := LU.out; omega)))
      clear j0 j1 j2 j3 j4 j5 j6 j7 k0 k1 k2 k3 k4 k5 k6 k7 hst hsz K7 K8 K9 KA KB XA XB QB PU QU BU FU KZ
      generalize wc.setCells (S + 5) (s * 8) (bvals z) = v at *
      go_wp2
      go_roundw
      case rel => exact ⟨s + 1, by have := HS16.out; omega, by go_num, PN.out, QN.out, BN.out⟩
      case measure => have := HS16.out; simp [intOf]; omega
    · obtain rfl : s = 16 := by omega
      obtain ⟨y, hy⟩ : ∃ y, cat (oF seed x msg8) 16 = y := ⟨_, rfl⟩
      obtain ⟨z, hz⟩ : ∃ z, cat (sF seed x msg8) 16 = z := ⟨_, rfl⟩
      have HY := Lib.hid hy
      have HZ := Lib.hid hz
      have LY : Hid (y.length = 128) := by rw [← hy]; exact HFO.out 16
      have LZ : Hid (z.length = 128) := by rw [← hz]; exact HFS.out 16
      have PF : Hid (BA wr (S + 4) 95 y) := by
        have : BA wr (S + 4) 95 (cat (oF seed x msg8) 16 ++ zeros 0) := PR.out
        rw [List.eq_nil_of_length_eq_zero (zeros_len 0), List.append_nil, hy] at this
        exact this
      have QF : Hid (BA wr (S + 5) 95 z) := by
        have : BA wr (S + 5) 95 (cat (sF seed x msg8) 16 ++ zeros 0) := QR.out
        rw [List.eq_nil_of_length_eq_zero (zeros_len 0), List.append_nil, hz] at this
        exact this
      have OR : Hid (BA wr (S + 2) 95 (zeros 128)) := (BR.out.block _ (by omega)).trans O0.out
      have HR : Hid (BA wr (S + 3) 95 (zeros 128)) := (BR.out.block _ (by omega)).trans H0.out
      have BW : Hid (Below S w wr) := B0.out.trans (BR.out.mono (by omega))
      clear PR QR hlt hs hy hz HFO HFS BR
      have BR := BW
      clear BW
      go_wp2_with fail
      have hiy : (Try.prog.info? 95).map (·.size) = some (bvals y).length := by rw [q27]; simp [bvals, LY.out]
      have hiz : (Try.prog.info? 95).map (·.size) = some (bvals z).length := by rw [q27]; simp [bvals, LZ.out]
      have LO1 : Hid ((zeros 128).length = y.length) := by show _ = _; rw [zeros_len, LY.out]
      have LH1 : Hid ((zeros 128).length = z.length) := by show _ = _; rw [zeros_len, LZ.out]
      have OD : Hid (BA wr.drew (S + 2) 95 (zeros 128)) := OR.out
      have OE : Hid (BA (wr.drew.setCells (S + 2) 0 (bvals y)) (S + 2) 95 y) := row_set OD.out LO1.out
      have HE : Hid (BA (wr.drew.setCells (S + 2) 0 (bvals y)) (S + 3) 95 (zeros 128)) := (heap_setCells (by omega) _ _ _).trans HR.out
      have PE : Hid (BA (wr.drew.setCells (S + 2) 0 (bvals y)) (S + 4) 95 y) := (heap_setCells (by omega) _ _ _).trans PF.out
      have QE : Hid (BA (wr.drew.setCells (S + 2) 0 (bvals y)) (S + 5) 95 z) := (heap_setCells (by omega) _ _ _).trans QF.out
      have BE : Hid (Below S w (wr.drew.setCells (S + 2) 0 (bvals y))) := below_setCells (by omega) _ _ BR.out.drew
      have lz : (bvals z).length = z.length := by simp [bvals]
      have ly : (bvals y).length = y.length := by simp [bvals]
      refine wp_region_held_drew (S := (fun w' : World => w'.rangeAt (S + 4) 0 (bvals y) ∧ w'.rangeAt (S + 5) 0 (bvals z))) (by kernel_rfl) (by exact ⟨ba_range (t := 95) PF.out, ba_range (t := 95) QF.out⟩) (fun hHeld => ?_)
      refine wpAnyH_take (i := 0) rfl (by kernel_rfl) (by kernel_rfl) (by kernel_rfl) (fun _ _ _ h => h) (yieldsIf_load_mid (by rfl) 95 (.tmp 8) rfl (S + 4) 0 rfl (bvals y) _ (fun w h => h.1) Try.underlying95 rfl hiy) (by assumption) ?_
      simp only [Act.put, List.getElem_toArray, List.getElem_cons_zero, List.setIfInBounds_toArray, List.set_cons_zero, List.set_cons_succ]
      refine wpAnyH_take (i := 1) rfl (by kernel_rfl) (by kernel_rfl) (by kernel_rfl) (fun _ _ _ h => h) (yieldsIf_load_mid (by rfl) 95 (.tmp 9) rfl (S + 5) 0 rfl (bvals z) _ (fun w h => h.2) Try.underlying95 rfl hiz) (by assumption) ?_
      simp only [Act.put, List.getElem_toArray, List.getElem_cons_succ, List.getElem_cons_zero, List.setIfInBounds_toArray, List.set_cons_zero, List.set_cons_succ]
      refine wpAnyH_ready (rs := [2]) (by kernel_rfl) (by simp) ?_
      refine AllReadyH.cons rfl (fun K hK => ?_) AllReadyH.nil
      refine step_row rfl 95 (.tmp 6) (.tmp 35) rfl (S + 2) 95 (zeros 128) y rfl rfl OD.out LO1.out (by rw [← ly]; exact hiy) ?_
      refine hK.out _ _ (by exact ⟨ba_range (t := 95) PE.out, ba_range (t := 95) QE.out⟩) (fun hHeld2 => ?_)
      clear hK K hHeld
      simp only [Act.put, List.getElem_toArray, List.getElem_cons_succ, List.getElem_cons_zero]
      refine wpAnyH_ready (rs := [3]) (by kernel_rfl) (by simp) ?_
      refine AllReadyH.cons rfl (fun K hK => ?_) AllReadyH.nil
      generalize wr.drew.setCells (S + 2) 0 (bvals y) = v at *
      have HG : Hid (BA (v.setCells (S + 3) 0 (bvals z)) (S + 3) 95 z) := row_set HE.out LH1.out
      have OG : Hid (BA (v.setCells (S + 3) 0 (bvals z)) (S + 2) 95 y) := (heap_setCells (by omega) _ _ _).trans OE.out
      have BG : Hid (Below S w (v.setCells (S + 3) 0 (bvals z))) := below_setCells (by omega) _ _ BE.out
      refine step_row rfl 95 (.tmp 7) (.tmp 36) rfl (S + 3) 95 (zeros 128) z rfl rfl HE.out LH1.out (by rw [← lz]; exact hiz) ?_
      refine hK.out _ _ (by exact ⟨ba_range (t := 95) ((heap_setCells (by omega) _ _ _).trans PE.out), ba_range (t := 95) ((heap_setCells (by omega) _ _ _).trans QE.out)⟩) (fun hHeld3 => ?_)
      clear hK K hHeld2
      simp only [Act.put, List.getElem_toArray, List.getElem_cons_succ, List.getElem_cons_zero]
      refine wpAnyH_done (by kernel_rfl) ?_ _
      go_wp2
      refine bodyPost_ret (v := .tuple #[.agg (ba y), .agg (ba z)]) (results_cell_cell rfl _ _ (S + 2) (S + 3) 95 95 (ba y) (ba z) (0, 0) (0, 0) _ rfl rfl OG.out HG.out Try.underlying95 rfl (sz q27 (by rw [ba_size, LY.out])) (sz q27 (by rw [ba_size, LZ.out]))) rfl ⟨by rw [HY.out, HZ.out], ?_⟩
      rw [HS.out]
      exact BG.out
end Go.Proofs.Ytmcmdpbdipgahaa
