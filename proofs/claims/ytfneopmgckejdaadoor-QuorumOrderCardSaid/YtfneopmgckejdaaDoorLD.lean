/-
  Words for the key that a signature gives.
-/
import Derived.Test.YtfneopmgckejdaaDoorLC
namespace Go.Proofs.YtfneopmgckejdaaDoor
open Go.RowKit
/-- the marks that a signature gives -/
def readF (m o h : List Int) (j : Nat) : List Int := if j % 2 = bt m (j / 2) then mk (at8 o (j / 2)) else at8 h (j / 2)
theorem readF_len (m o h : List Int) (hh : h.length = 128) (j : Nat) (hj : j < 32) : (readF m o h j).length = 8 := by
  unfold readF
  split
  · exact mk_len _
  · exact at8_len (n := 16) hh (by omega)
theorem readF_own {m o h : List Int} {s b : Nat} (hb : bt m s = b) (h2 : b < 2) : readF m o h (2 * s + b) = mk (at8 o s) := by
  unfold readF
  rw [show (2 * s + b) / 2 = s by omega, if_pos (by rw [hb]; omega)]
theorem readF_other {m o h : List Int} {s b c : Nat} (hb : bt m s = b) (h2 : c < 2) (hc : c ≠ b) : readF m o h (2 * s + c) = at8 h s := by
  unfold readF
  rw [show (2 * s + c) / 2 = s by omega, if_neg (by rw [hb]; omega)]
theorem zeros_split (z k : Nat) (h : k ≤ z) : zeros z = zeros k ++ zeros (z - k) := by unfold zeros; rw [List.replicate_append_replicate]; congr 1; omega
theorem two_spl (X n d : List Int) (z o b c : Nat) (hX : X.length = o) (hn : n.length = 8) (hd : d.length = 8) (hz : 16 ≤ z) (hbc : b = 0 ∧ c = 1 ∨ b = 1 ∧ c = 0) :
    splR (splR (X ++ zeros z) (o + b * 8) n) (o + c * 8) d = X ++ (if b = 0 then n ++ d else d ++ n) ++ zeros (z - 16) := by
  subst hX
  rcases hbc with ⟨rfl, rfl⟩ | ⟨rfl, rfl⟩
  · rw [if_pos rfl, Nat.zero_mul, Nat.add_zero, splR_app n X (zeros z) (by rw [zeros_len]; omega), zeros_drop, ← List.append_assoc]
    have := splR_app d (X ++ n) (zeros (z - n.length)) (by rw [zeros_len]; omega)
    rw [List.length_append, zeros_drop, hn, hd] at this
    rw [hn, Nat.one_mul, this]
    simp only [List.append_assoc]
    rw [show z - 8 - 8 = z - 16 by omega]
  · rw [if_neg (by omega), Nat.zero_mul, Nat.add_zero, zeros_split z 8 (by omega), ← List.append_assoc]
    have h1 := splR_app n (X ++ zeros 8) (zeros (z - 8)) (by rw [zeros_len]; omega)
    rw [List.length_append, zeros_len, zeros_drop, hn] at h1
    rw [h1, Nat.add_zero, List.append_assoc]
    have h2 := splR_app d X (zeros 8 ++ (n ++ zeros (z - 8 - 8))) (by rw [List.length_append, zeros_len]; omega)
    have h3 : (zeros 8 ++ (n ++ zeros (z - 8 - 8))).drop 8 = n ++ zeros (z - 8 - 8) := List.drop_left' (zeros_len 8)
    rw [h2, hd, h3]
    simp only [List.append_assoc]
    rw [show z - 8 - 8 = z - 16 by omega]
theorem any8 {w : World} {b t : Nat} {l : List Int} (h : BA w b t l) (o : Nat) (ho : o + 8 ≤ l.length) : ∃ z0 z1 z2 z3 z4 z5 z6 z7 : Int, (w.cell? ⟨b, o, none⟩ = some (.int .u8 z0) ∧ w.cell? ⟨b, o + 1, none⟩ = some (.int .u8 z1) ∧ w.cell? ⟨b, o + 2, none⟩ = some (.int .u8 z2) ∧ w.cell? ⟨b, o + 3, none⟩ = some (.int .u8 z3) ∧ w.cell? ⟨b, o + 4, none⟩ = some (.int .u8 z4) ∧ w.cell? ⟨b, o + 5, none⟩ = some (.int .u8 z5) ∧ w.cell? ⟨b, o + 6, none⟩ = some (.int .u8 z6) ∧ w.cell? ⟨b, o + 7, none⟩ = some (.int .u8 z7)) :=
  ⟨_, _, _, _, _, _, _, _, ba_cell h o (by omega), ba_cell h (o + 1) (by omega), ba_cell h (o + 2) (by omega), ba_cell h (o + 3) (by omega), ba_cell h (o + 4) (by omega), ba_cell h (o + 5) (by omega), ba_cell h (o + 6) (by omega), ba_cell h (o + 7) (by omega)⟩
theorem splR_len : ∀ (ys xs : List Int) (o : Nat), (splR xs o ys).length = xs.length
  | [], _, _ => rfl
  | y :: r, xs, o => by rw [splR, splR_len r]; exact List.length_set
end Go.Proofs.YtfneopmgckejdaaDoor

/-
  The key that a signature gives.
-/
namespace Go.Proofs.YtfneopmgckejdaaDoor
open Go.RowKit
attribute [local irreducible] ua da ba kk sw S8.run rt hs comp splice outB sha msg bvals cat at8 at16 secM zeros sec keyF marksF mk pubk bt openF shutF readF splR
set_option maxRecDepth 100000 in
set_option maxHeartbeats 8000000 in
theorem lRead (msg8 op sh : List Int) (w : World) (hk : Keys w) (hm : msg8.length = 8) (hbt : Byt msg8) (hop : op.length = 128) (hsh : sh.length = 128) :
    Calls Tryd.prog 32 #[.agg (ba msg8), .agg (ba op), .agg (ba sh)] w fun e w' => e = .returned (.agg (ba (pubk (cat (readF msg8 op sh) 32)))) ∧ Below w.heap.size w w' := by
  have h4 := z27
  have h6 := z256
  have HK := Lib.hid hk
  have HML := Lib.hid hm
  have HMB := Lib.hid hbt
  have HOL := Lib.hid hop
  have HSL := Lib.hid hsh
  have HP : Hid (0 < w.heap.size) := keys_pos hk
  have HF : Hid (∀ n, n ≤ 32 → (cat (readF msg8 op sh) n).length = 8 * n) := fun n hn => cat_lenN _ n fun j hj => readF_len msg8 op sh hsh j (by omega)
  obtain ⟨S, hS⟩ : ∃ S, w.heap.size = S := ⟨_, rfl⟩
  have HS := Lib.hid hS
  have M0 := Lib.hid (ba_old (ba_old (ba_old (ba_old (ba_new hS msg8 32) (Obj.cells (ba op) 40)) (Obj.cells (ba sh) 40)) (Obj.cells (ba (zeros 8)) 32)) (Obj.cells (ba (zeros 256)) 77))
  have O0 := Lib.hid (ba_old (ba_old (ba_old (ba_new (size_al hS (Obj.cells (ba msg8) 32)) op 40) (Obj.cells (ba sh) 40)) (Obj.cells (ba (zeros 8)) 32)) (Obj.cells (ba (zeros 256)) 77))
  have H0 := Lib.hid (ba_old (ba_old (ba_new (size_al (size_al hS (Obj.cells (ba msg8) 32)) (Obj.cells (ba op) 40)) sh 40) (Obj.cells (ba (zeros 8)) 32)) (Obj.cells (ba (zeros 256)) 77))
  have R0 := Lib.hid (ba_old (ba_new (size_al (size_al (size_al hS (Obj.cells (ba msg8) 32)) (Obj.cells (ba op) 40)) (Obj.cells (ba sh) 40)) (zeros 8) 32) (Obj.cells (ba (zeros 256)) 77))
  have V0 := Lib.hid (ba_new (size_al (size_al (size_al (size_al hS (Obj.cells (ba msg8) 32)) (Obj.cells (ba op) 40)) (Obj.cells (ba sh) 40)) (Obj.cells (ba (zeros 8)) 32)) (zeros 256) 77)
  have B0 : Hid (Below S w (((((w.alloc (Obj.cells (ba msg8) 32)).alloc (Obj.cells (ba op) 40)).alloc (Obj.cells (ba sh) 40)).alloc (Obj.cells (ba (zeros 8)) 32)).alloc (Obj.cells (ba (zeros 256)) 77))) := by subst hS; exact (((((Below.refl _ w).alloc (Nat.le_refl _) _).alloc (by simp) _).alloc (by simp; omega) _).alloc (by simp; omega) _).alloc (by simp; omega) _
  have KW : Hid (∀ w', Below S w w' → Keys w') := fun w' hb => keys_below HK.out hb (by rw [← HS.out]; exact HP.out)
  clear hk hm hbt hop hsh
  go_enter Tryd.func32, Tryd.ntmps32
  go_wp2_with fail
  clear hS
  generalize (((((w.alloc (Obj.cells (ba msg8) 32)).alloc (Obj.cells (ba op) 40)).alloc (Obj.cells (ba sh) 40)).alloc (Obj.cells (ba (zeros 8)) 32)).alloc (Obj.cells (ba (zeros 256)) 77)) = w0 at *
  go_loopw [10] (fun c wr => ∃ s : Nat, s ≤ 16 ∧ c = .int .i64 s ∧ BA wr (S + 4) 77 (cat (readF msg8 op sh) (2 * s) ++ zeros (256 - 16 * s)) ∧ BA wr S 32 msg8 ∧ BA wr (S + 1) 40 op ∧ BA wr (S + 2) 40 sh ∧ BA wr (S + 3) 32 (zeros 8) ∧ Below S w wr) (fun c _ => 16 - (intOf c).toNat)
  case atStart => exact ⟨0, by omega, rfl, by rw [Nat.mul_zero, cat_zero]; exact V0.out, M0.out, O0.out, H0.out, R0.out, B0.out⟩
  case round =>
    clear M0 O0 H0 R0 V0 B0
    obtain ⟨s, hs, rfl, hv, hm, ho, hh, hr, hb⟩ := hrel
    have VR := Lib.hid hv
    have MR := Lib.hid hm
    have OR := Lib.hid ho
    have HR := Lib.hid hh
    have RR := Lib.hid hr
    have BR := Lib.hid hb
    clear hv hm ho hh hr hb
    by_cases hlt : s < 16
    · have s0 : (0 : Int) ≤ (s : Int) := by omega
      have s1 : (s : Int) < 16 := by omega
      have HS16 : Hid (s < 16) := hlt
      obtain ⟨b, hb⟩ : ∃ b, bt msg8 s = b := ⟨_, rfl⟩
      obtain ⟨c, hc⟩ : ∃ c, 1 - b = c := ⟨_, rfl⟩
      have hb2 : b = 0 ∨ b = 1 := by rw [← hb]; exact bt_two _ _
      obtain ⟨a0, a1, a2, a3, a4, a5, a6, a7, ha⟩ := c8cells (at8 op s) (at8_len (n := 16) HOL.out hlt)
      obtain ⟨d0, d1, d2, d3, d4, d5, d6, d7, hd⟩ := c8cells (at8 sh s) (at8_len (n := 16) HSL.out hlt)
      obtain ⟨n, hn⟩ : ∃ n, mk [a0, a1, a2, a3, a4, a5, a6, a7] = n := ⟨_, rfl⟩
      have LN : Hid (n.length = 8) := by rw [← hn]; exact mk_len _
      have HBC : Hid (b = 0 ∧ c = 1 ∨ b = 1 ∧ c = 0) := by rcases hb2 with e | e <;> subst e <;> simp_all
      have HC : Hid (cat (readF msg8 op sh) (2 * (s + 1)) = cat (readF msg8 op sh) (2 * s) ++ (if b = 0 then n ++ [d0, d1, d2, d3, d4, d5, d6, d7] else [d0, d1, d2, d3, d4, d5, d6, d7] ++ n)) := by
        show _ = _
        rw [show 2 * (s + 1) = 2 * s + 1 + 1 by omega, cat_succ, cat_succ, List.append_assoc]
        rcases HBC.out with ⟨rfl, rfl⟩ | ⟨rfl, rfl⟩
        · have e0 := readF_own (o := op) (h := sh) hb (by omega)
          have e1 := readF_other (o := op) (h := sh) (c := 1) hb (by omega) (by omega)
          rw [ha, hn] at e0
          rw [hd] at e1
          rw [if_pos rfl, e1, show 2 * s = 2 * s + 0 from rfl, e0]
        · have e0 := readF_own (o := op) (h := sh) hb (by omega)
          have e1 := readF_other (o := op) (h := sh) (c := 0) hb (by omega) (by omega)
          rw [ha, hn] at e0
          rw [hd] at e1
          rw [if_neg (by omega), e0, show 2 * s = 2 * s + 0 from rfl, e1]
      have CL : Hid ((cat (readF msg8 op sh) (2 * s)).length = s * 16) := by show _ = _; rw [HF.out _ (by omega)]; omega
      have C18 : Hid (∀ w', Calls Tryd.prog 45 #[.agg (ba msg8), .int .i64 s] w' fun e w'' => e = .returned (.int .i64 b) ∧ Below w'.heap.size w' w'') := fun w' => by
        have := lBit msg8 s w' HML.out HMB.out HS16.out
        rw [hb] at this
        exact this
      have C19 : Hid (∀ w', Below S w w' → Calls Tryd.prog 46 #[.agg #[.int .u8 a0, .int .u8 a1, .int .u8 a2, .int .u8 a3, .int .u8 a4, .int .u8 a5, .int .u8 a6, .int .u8 a7]] w' fun e w'' => e = .returned (.agg (ba n)) ∧ Below w'.heap.size w' w'') := fun w' hb => by
        have := lMark [a0, a1, a2, a3, a4, a5, a6, a7] w' (KW.out w' hb) rfl
        rw [hn, ba_lit] at this
        exact this
      have b0 : (0 : Int) ≤ (b : Int) := by omega
      have b1 : (b : Int) < 2 := by omega
      have c0 : (0 : Int) ≤ (c : Int) := by omega
      have c1 : (c : Int) < 2 := by omega
      have e1 : (1 : Int) - (b : Int) = (c : Int) := by omega
      have e2 : wrap64 (c : Int) = (c : Int) := by unfold wrap64; omega
      have e3 : IntKind.i64.wrap (c : Int) = (c : Int) := by rw [IntKind.wrap_i64]; omega
      have HA := Lib.hid ha
      have HD := Lib.hid hd
      generalize cat (readF msg8 op sh) (2 * s) = X at *
      clear ha hd hn hb hc hlt hs hb2
      go_wp2_with (first
        | (refine wpList_load_row rfl 32 (.tmp 3) rfl S rfl 32 (ba msg8) (0, 0) _ MR.out Tryd.underlying32 rfl (sz s27 (by rw [ba_size, HML.out])) ?_)
        | (go_at_call 45; refine (C18.out _).mono ?_; rintro e w4 ⟨rfl, hb4⟩; have B4 := Lib.hid hb4; clear hb4)
        | fail)
      have LZ : Hid (S + 4 < wr.heap.size) := lt_of_block VR.out
      have BS4 : Hid (Below S w w4) := BR.out.trans (B4.out.mono (by have := LZ.out; omega))
      have O4 : Hid (BA w4 (S + 1) 40 op) := (B4.out.block _ (by have := LZ.out; omega)).trans OR.out
      have H4 : Hid (BA w4 (S + 2) 40 sh) := (B4.out.block _ (by have := LZ.out; omega)).trans HR.out
      have V4 : Hid (BA w4 (S + 4) 77 (X ++ zeros (256 - 16 * s))) := (B4.out.block _ LZ.out).trans VR.out
      have M4 : Hid (BA w4 S 32 msg8) := (B4.out.block _ (by have := LZ.out; omega)).trans MR.out
      have R4 : Hid (BA w4 (S + 3) 32 (zeros 8)) := (B4.out.block _ (by have := LZ.out; omega)).trans RR.out
      have L4 : Hid (S + 4 < w4.heap.size) := lt_of_block V4.out
      have KZ : Hid (∀ v : World, v.heap[S + 1]? = w4.heap[S + 1]? → v.heap[S + 2]? = w4.heap[S + 2]? → (v.cell? ⟨S + 1, s * 8, none⟩ = some (.int .u8 a0) ∧ v.cell? ⟨S + 1, s * 8 + 1, none⟩ = some (.int .u8 a1) ∧ v.cell? ⟨S + 1, s * 8 + 2, none⟩ = some (.int .u8 a2) ∧ v.cell? ⟨S + 1, s * 8 + 3, none⟩ = some (.int .u8 a3) ∧ v.cell? ⟨S + 1, s * 8 + 4, none⟩ = some (.int .u8 a4) ∧ v.cell? ⟨S + 1, s * 8 + 5, none⟩ = some (.int .u8 a5) ∧ v.cell? ⟨S + 1, s * 8 + 6, none⟩ = some (.int .u8 a6) ∧ v.cell? ⟨S + 1, s * 8 + 7, none⟩ = some (.int .u8 a7)) ∧ (v.cell? ⟨S + 2, s * 8, none⟩ = some (.int .u8 d0) ∧ v.cell? ⟨S + 2, s * 8 + 1, none⟩ = some (.int .u8 d1) ∧ v.cell? ⟨S + 2, s * 8 + 2, none⟩ = some (.int .u8 d2) ∧ v.cell? ⟨S + 2, s * 8 + 3, none⟩ = some (.int .u8 d3) ∧ v.cell? ⟨S + 2, s * 8 + 4, none⟩ = some (.int .u8 d4) ∧ v.cell? ⟨S + 2, s * 8 + 5, none⟩ = some (.int .u8 d5) ∧ v.cell? ⟨S + 2, s * 8 + 6, none⟩ = some (.int .u8 d6) ∧ v.cell? ⟨S + 2, s * 8 + 7, none⟩ = some (.int .u8 d7))) := fun v hv hu => ⟨cells8_at a0 a1 a2 a3 a4 a5 a6 a7 (hv.trans O4.out) HA.out rfl (by rw [HOL.out]; have := HS16.out; omega), cells8_at d0 d1 d2 d3 d4 d5 d6 d7 (hu.trans H4.out) HD.out rfl (by rw [HSL.out]; have := HS16.out; omega)⟩
      obtain ⟨⟨e0, e1, e2, e3, e4, e5, e6, e7⟩, ⟨f0, f1, f2, f3, f4, f5, f6, f7⟩⟩ := KZ.out w4 rfl rfl
      have K7 := Lib.hid (KZ.out w4.drew rfl rfl)
      have X4 : Hid (Below w4.heap.size w4 w4) := Below.refl _ _
      have XF : Hid (∀ w', Below w4.heap.size w4 w' → Below S w w') := fun w' hb => BS4.out.trans (hb.mono (by have := L4.out; omega))
      have hsn : (ba n).size = 8 := by rw [ba_size]; exact LN.out
      obtain ⟨U, hU⟩ : ∃ U, splR (X ++ zeros (256 - 16 * s)) (s * 16 + b * 8) n = U := ⟨_, rfl⟩
      have LU : Hid (U.length = 256) := by show _ = _; rw [← hU, splR_len, List.length_append, CL.out, zeros_len]; have := HS16.out; omega
      have HU := Lib.hid hU
      clear VR MR OR HR RR hU
      go_region_held3 (fun w' => (w'.cell? ⟨S + 1, s * 8, none⟩ = some (.int .u8 a0) ∧ w'.cell? ⟨S + 1, s * 8 + 1, none⟩ = some (.int .u8 a1) ∧ w'.cell? ⟨S + 1, s * 8 + 2, none⟩ = some (.int .u8 a2) ∧ w'.cell? ⟨S + 1, s * 8 + 3, none⟩ = some (.int .u8 a3) ∧ w'.cell? ⟨S + 1, s * 8 + 4, none⟩ = some (.int .u8 a4) ∧ w'.cell? ⟨S + 1, s * 8 + 5, none⟩ = some (.int .u8 a5) ∧ w'.cell? ⟨S + 1, s * 8 + 6, none⟩ = some (.int .u8 a6) ∧ w'.cell? ⟨S + 1, s * 8 + 7, none⟩ = some (.int .u8 a7)) ∧ (w'.cell? ⟨S + 2, s * 8, none⟩ = some (.int .u8 d0) ∧ w'.cell? ⟨S + 2, s * 8 + 1, none⟩ = some (.int .u8 d1) ∧ w'.cell? ⟨S + 2, s * 8 + 2, none⟩ = some (.int .u8 d2) ∧ w'.cell? ⟨S + 2, s * 8 + 3, none⟩ = some (.int .u8 d3) ∧ w'.cell? ⟨S + 2, s * 8 + 4, none⟩ = some (.int .u8 d4) ∧ w'.cell? ⟨S + 2, s * 8 + 5, none⟩ = some (.int .u8 d5) ∧ w'.cell? ⟨S + 2, s * 8 + 6, none⟩ = some (.int .u8 d6) ∧ w'.cell? ⟨S + 2, s * 8 + 7, none⟩ = some (.int .u8 d7))) (first | (with_reducible exact K7.out) | (with_reducible exact K8.out) | (with_reducible exact K9.out) | (with_reducible exact KA.out) | go_keep)
        (first
          | (go_at_call 46; refine (C19.out _ (XF.out _ (by first | exact X4.out.drew | exact X4.out))).mono ?_; rintro e wz ⟨rfl, hbz⟩; have XZ : Hid (Below w4.heap.size w4 wz) := X4.out.drew.trans hbz; have VZ : Hid (BA wz (S + 4) 77 (X ++ zeros (256 - 16 * s))) := (hbz.block _ L4.out).trans V4.out; have hst := st_mid (ba_there VZ.out (s * 16 + b * 8) (ba n).size (by rw [List.length_append, CL.out, zeros_len, hsn]; have := HS16.out; omega)); have G1 : Hid (∀ q, q < S + 4 → (wz.setCells (S + 4) (s * 16 + b * 8) (bvals n)).heap[q]? = w4.heap[q]?) := (fun q hq => (heap_setCells (by omega) _ _ _).trans (XZ.out.block q (by have := L4.out; omega))); have K8 := Lib.hid (KZ.out wz (XZ.out.block _ (by have := L4.out; omega)) (XZ.out.block _ (by have := L4.out; omega))); have K9 := Lib.hid (KZ.out (wz.setCells (S + 4) (s * 16 + b * 8) (bvals n)) (G1.out _ (by omega)) (G1.out _ (by omega))); have VU : Hid (BA (wz.setCells (S + 4) (s * 16 + b * 8) (bvals n)) (S + 4) 77 U) := (by have h1 := ba_setCells n (s * 16 + b * 8) VZ.out; rw [HU.out] at h1; exact h1); obtain ⟨g0, g1, g2, g3, g4, g5, g6, g7, z0, z1, z2, z3, z4, z5, z6, z7⟩ := any8 VU.out (s * 16 + c * 8) (by rw [LU.out]; have := HS16.out; omega); have f0 := fun i => free_of VU.out i; have KA := Lib.hid (KZ.out ((((((((((wz.setCells (S + 4) (s * 16 + b * 8) (bvals n)).setCell ⟨S + 4, s * 16 + c * 8, none⟩ (.int .u8 d0)).setCell ⟨S + 4, s * 16 + c * 8 + 1, none⟩ (.int .u8 d1)).setCell ⟨S + 4, s * 16 + c * 8 + 2, none⟩ (.int .u8 d2)).setCell ⟨S + 4, s * 16 + c * 8 + 3, none⟩ (.int .u8 d3)).setCell ⟨S + 4, s * 16 + c * 8 + 4, none⟩ (.int .u8 d4)).setCell ⟨S + 4, s * 16 + c * 8 + 5, none⟩ (.int .u8 d5)).setCell ⟨S + 4, s * 16 + c * 8 + 6, none⟩ (.int .u8 d6)).setCell ⟨S + 4, s * 16 + c * 8 + 7, none⟩ (.int .u8 d7))) (by rw [put8_eq]; exact (heap_setCells (by omega) _ _ _).trans (G1.out _ (by omega))) (by rw [put8_eq]; exact (heap_setCells (by omega) _ _ _).trans (G1.out _ (by omega)))); clear hbz))
      rename_i hHeld
      clear hHeld K7 K8 K9 KA
      rw [put8_eq]
      have hfin := ba_setCells [d0, d1, d2, d3, d4, d5, d6, d7] (s * 16 + c * 8) VU.out
      rw [← HU.out, two_spl X n [d0, d1, d2, d3, d4, d5, d6, d7] (256 - 16 * s) (s * 16) b c CL.out LN.out rfl (by have := HS16.out; omega) HBC.out, ← HC.out, show 256 - 16 * s - 16 = 256 - 16 * (s + 1) by omega] at hfin
      have VN := Lib.hid hfin
      have GN : Hid (∀ q, q < S + 4 → ((wz.setCells (S + 4) (s * 16 + b * 8) (bvals n)).setCells (S + 4) (s * 16 + c * 8) (bvals [d0, d1, d2, d3, d4, d5, d6, d7])).heap[q]? = w4.heap[q]?) := fun q hq => (heap_setCells (by omega) _ _ _).trans (G1.out q hq)
      have BN : Hid (Below S w ((wz.setCells (S + 4) (s * 16 + b * 8) (bvals n)).setCells (S + 4) (s * 16 + c * 8) (bvals [d0, d1, d2, d3, d4, d5, d6, d7]))) := below_setCells (by omega) _ _ (below_setCells (by omega) _ _ (XF.out wz XZ.out))
      clear z0 z1 z2 z3 z4 z5 z6 z7 g0 g1 g2 g3 g4 g5 g6 g7 f0 hst hsn hfin G1
      generalize (wz.setCells (S + 4) (s * 16 + b * 8) (bvals n)).setCells (S + 4) (s * 16 + c * 8) (bvals [d0, d1, d2, d3, d4, d5, d6, d7]) = u at *
      go_wp2
      go_roundw
      case rel => exact ⟨s + 1, by have := HS16.out; omega, by go_num, VN.out, (GN.out S (by omega)).trans M4.out, (GN.out (S + 1) (by omega)).trans O4.out, (GN.out (S + 2) (by omega)).trans H4.out, (GN.out (S + 3) (by omega)).trans R4.out, BN.out⟩
      case measure => have := HS16.out; simp [intOf]; omega
    · obtain rfl : s = 16 := by omega
      obtain ⟨y, hy⟩ : ∃ y, cat (readF msg8 op sh) 32 = y := ⟨_, rfl⟩
      have LY : Hid (y.length = 256) := by rw [← hy]; exact HF.out 32 (by omega)
      have VF : Hid (BA wr (S + 4) 77 y) := by
        have : BA wr (S + 4) 77 (cat (readF msg8 op sh) (2 * 16) ++ zeros 0) := VR.out
        rw [List.eq_nil_of_length_eq_zero (zeros_len 0), List.append_nil, hy] at this
        exact this
      obtain ⟨z, hz⟩ : ∃ z, pubk y = z := ⟨_, rfl⟩
      have HYZ : Hid (pubk (cat (readF msg8 op sh) 32) = z) := by rw [hy]; exact hz
      have LP : Hid (z.length = 8) := by rw [← hz]; exact pubk_len _
      have C22 : Hid (∀ w', Below S w w' → Calls Tryd.prog 47 #[.agg (ba y)] w' fun e w'' => e = .returned (.agg (ba z)) ∧ Below w'.heap.size w' w'') := fun w' hb => by rw [← hz]; exact lAll y w' (KW.out w' hb) LY.out
      clear VR MR OR HR hlt hs hy hz HF
      go_wp2_with (first
        | (refine wpList_load_row rfl 77 (.tmp 7) rfl (S + 4) rfl 77 (ba y) (0, 0) _ VF.out Tryd.underlying77 rfl (sz q46 (by rw [ba_size, LY.out])) ?_)
        | (go_at_call 47; refine (C22.out _ BR.out).mono ?_; rintro e w1 ⟨rfl, hb⟩; have R1 : Hid (BA w1 (S + 3) 32 (zeros 8)) := (hb.block _ (lt_of_block RR.out)).trans RR.out; have B1 : Hid (Below S w w1) := BR.out.trans (hb.mono (by have := lt_of_block RR.out; omega)); clear hb)
        | (refine wpList_store_rowTo rfl 32 (.tmp 6) (.tmp 34) rfl rfl (S + 3) (ba z) rfl rfl 32 (ba (zeros 8)) R1.out (sz s27 (by rw [ba_size, LP.out])) (by rw [ba_size, ba_size, LP.out, zeros_len]) (ba_one _) ?_)
        | fail)
      refine bodyPost_ret (v := .agg (ba z)) (results_cell_row rfl _ _ (S + 3) 32 _ (0, 0) _ rfl (setRow_heap _ _ _ _ _ _ R1.out) Tryd.underlying32 rfl (sz s27 (by rw [ba_size, LP.out]))) rfl ⟨by rw [HYZ.out], ?_⟩
      rw [HS.out]
      exact below_setRow B1.out (by omega) _
end Go.Proofs.YtfneopmgckejdaaDoor

/-
  A signature gives the key; words for the first thing that each law asks.
-/
namespace Go.Proofs.YtfneopmgckejdaaDoor
open Go.RowKit
theorem at8_catN (F : Nat → List Int) (n j : Nat) (hF : ∀ j, j < n → (F j).length = 8) (hj : j < n) : at8 (cat F n) j = F j := by
  induction n with
  | zero => omega
  | succ n ih =>
    have hl := cat_lenN F n fun j hj => hF j (by omega)
    rw [cat_succ]
    by_cases h : j = n
    · subst h
      rw [at8_app _ _ _ hl, List.take_of_length_le (by rw [hF j (by omega)]; omega)]
    · rw [at8_lo _ _ j n hl (by omega)]
      exact ih (fun j hj => hF j (by omega)) (by omega)
theorem at8_open (K m : List Int) (hK : K.length = 256) (i : Nat) (hi : i < 16) : at8 (cat (openF K m) 16) i = openF K m i := at8_catN _ 16 i (fun j hj => openF_len K m hK j hj) hi
theorem at8_shut (K m : List Int) (i : Nat) (hi : i < 16) : at8 (cat (shutF K m) 16) i = shutF K m i := at8_catN _ 16 i (fun j _ => shutF_len K m j) hi
/-- what is signed gives the key's marks -/
theorem read_own (K m : List Int) (hK : K.length = 256) : cat (readF m (cat (openF K m) 16) (cat (shutF K m) 16)) 32 = cat (marksF K) 32 := by
  refine cat_ext fun j hj => ?_
  have hb := bt_two m (j / 2)
  unfold readF marksF
  rw [at8_open K m hK _ (by omega), at8_shut K m _ (by omega)]
  unfold openF shutF
  split
  · rename_i h
    rw [← h, show 2 * (j / 2) + j % 2 = j by omega]
  · rename_i h
    rw [show 2 * (j / 2) + (1 - bt m (j / 2)) = j by omega]
theorem cat_open_len (K m : List Int) (hK : K.length = 256) : (cat (openF K m) 16).length = 128 := cat_lenN _ 16 fun j hj => openF_len K m hK j hj
theorem cat_shut_len (K m : List Int) : (cat (shutF K m) 16).length = 128 := cat_len _ (shutF_len K m) 16
theorem key_len (seed : List Int) (x : Int) : (cat (keyF seed x) 32).length = 256 := cat_len _ (keyF_len seed x) 32
theorem at8_key (seed : List Int) (x : Int) (s b : Nat) (hs : s < 16) (hb : b < 2) : at8 (cat (keyF seed x) 32) (2 * s + b) = sec seed x s b := by
  rw [at8_cat _ (keyF_len seed x) 32 _ (by omega), keyF_at _ _ _ _ hb]
def sd1 : List Int := [1, 0, 0, 0, 0, 0, 0, 0]
def ms1 : List Int := [5, 6, 0, 0, 0, 0, 0, 0]
theorem byt_ms1 : Byt ms1 := by intro x hx; simp [ms1] at hx; rcases hx with rfl | rfl | rfl <;> omega
theorem bt_ms1 : bt ms1 0 = 1 := by decide
theorem ms_other : (decide (sec sd1 0 0 1 = mk (sec sd1 0 0 0))) = false := by kernel_rfl
theorem eqhL (x y : List Int) (w : World) (hx : x.length = 8) (hy : y.length = 8) : (Op.equalIn 10000 32 (.agg (ba x)) (.agg (ba y))).run Tryd.prog w = .ok (decide (x = y)) w := eq_ba 32 8 9998 Tryd.underlying32 x y w hx hy
theorem open_ms1 : openF (cat (keyF sd1 0) 32) ms1 0 = sec sd1 0 0 1 := by
  unfold openF
  rw [bt_ms1, at8_key sd1 0 0 1 (by omega) (by omega)]
theorem shut_ms1 : shutF (cat (keyF sd1 0) 32) ms1 0 = mk (sec sd1 0 0 0) := by
  unfold shutF
  rw [bt_ms1]
  have := at8_key sd1 0 0 0 (by omega) (by omega)
  exact congrArg mk this
end Go.Proofs.YtfneopmgckejdaaDoor
