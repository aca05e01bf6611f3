/-
  Signed: by some, each with a key of its tree.
-/
import Derived.Test.YtfneopmgckejdaaDoorQ11
import Derived.Test.YtfneopmgckejdaaDoorQ6
import Derived.Test.YtfneopmgckejdaaDoorK9
namespace Go.Proofs.YtfneopmgckejdaaDoor
open Go.RowKit
/- rows of numbers, of bools -/
def IRow (w : World) (A : Option Addr) (xs : List Int) : Prop := xs = [] ∨ ∃ b o, A = some ⟨b, o, none⟩ ∧ ∀ j, j < xs.length → w.cell? ⟨b, o + j, none⟩ = some (.int .i64 (xs.getD j 0))
def LRow (w : World) (A : Option Addr) (xs : List Bool) : Prop := xs = [] ∨ ∃ b o, A = some ⟨b, o, none⟩ ∧ ∀ j, j < xs.length → w.cell? ⟨b, o + j, none⟩ = some (.bool (xs.getD j false))
theorem cell_keep {w W : World} {b o : Nat} {v : Value} (h : w.cell? ⟨b, o, none⟩ = some v) (hb : ∀ q, q < w.heap.size → W.heap[q]? = w.heap[q]?) : W.cell? ⟨b, o, none⟩ = some v := by
  have hlt := World.block_lt_of_cell? w ⟨b, o, none⟩ h
  rw [cell_eq (hb b hlt)]
  exact h
theorem IRow.keep {w W : World} {A : Option Addr} {xs : List Int} (h : IRow w A xs) (hb : ∀ q, q < w.heap.size → W.heap[q]? = w.heap[q]?) : IRow W A xs := by
  rcases h with h | ⟨b, o, e, hc⟩
  · exact .inl h
  · exact .inr ⟨b, o, e, fun j hj => cell_keep (hc j hj) hb⟩
theorem LRow.keep {w W : World} {A : Option Addr} {xs : List Bool} (h : LRow w A xs) (hb : ∀ q, q < w.heap.size → W.heap[q]? = w.heap[q]?) : LRow W A xs := by
  rcases h with h | ⟨b, o, e, hc⟩
  · exact .inl h
  · exact .inr ⟨b, o, e, fun j hj => cell_keep (hc j hj) hb⟩
theorem own_keepQ {w W : World} {base t k n : Nat} {v : Value} {xs : List Value} (h : w.ownsRow base t k v n xs) (hb : Below w.heap.size w W) : W.ownsRow base t k v n xs := own_sameQ h fun q hq => by
  rcases h.2 with ⟨rfl, _⟩ | ⟨g, cap, cur, rfl, _, hg, _⟩
  · cases hq
  · simp [Value.ownBlock] at hq
    subst hq
    exact hb.block _ (lt_of_block hg)
theorem own_baseQ {w : World} {base t k n : Nat} {v : Value} {xs : List Value} (h : w.ownsRow base t k v n xs) : ∀ q, v.ownBlock = some q → base ≤ q := by
  intro q hq
  rcases h.2 with ⟨rfl, _⟩ | ⟨g, cap, cur, rfl, hb, _⟩
  · cases hq
  · simp [Value.ownBlock] at hq; omega
theorem own_monoQ {w : World} {b1 b2 t k n : Nat} {v : Value} {xs : List Value} (h : w.ownsRow b1 t k v n xs) (hle : b2 ≤ b1) : w.ownsRow b2 t k v n xs := by
  refine ⟨h.1, ?_⟩
  rcases h.2 with h2 | ⟨g, cap, cur, rfl, hb, hg, h3⟩
  · exact .inl h2
  · exact .inr ⟨g, cap, cur, rfl, Nat.le_trans hle hb, hg, h3⟩
/-- the bent message -/
def bend (m : List Int) : List Int := m.set 0 (bits .xor .u8 (m.getD 0 0) 1)
theorem bend_eq {m : List Int} {z : Int} (h : m.getD 0 0 = z) : bend m = m.set 0 (bits .xor .u8 z 1) := by unfold bend; rw [h]
theorem bend_len {m : List Int} (h : m.length = 8) : (bend m).length = 8 := by simp [bend, h]
theorem byt_bend {m : List Int} (h : Byt m) : Byt (bend m) := by
  intro x hx
  rcases List.mem_or_eq_of_mem_set hx with h2 | h2
  · exact h x h2
  · have h0 : 0 ≤ m.getD 0 0 ∧ m.getD 0 0 < 256 := by
      cases m with
      | nil => exact ⟨by decide, by decide⟩
      | cons a r => exact h a (List.mem_cons_self ..)
    rw [h2, u8_xor _ _ h0.1 h0.2 (by decide) (by decide)]
    have := Nat.xor_lt_two_pow (n := 8) (x := (m.getD 0 0).toNat) (y := (1 : Int).toNat) (by omega) (by decide)
    omega
/-- what is signed at a place -/
def mAt (m : List Int) (bs : List Bool) (i : Nat) : List Int := if bs.getD i false = true then bend m else m
theorem mAt_len {m : List Int} (h : m.length = 8) (bs : List Bool) (i : Nat) : (mAt m bs i).length = 8 := by unfold mAt; split; exact bend_len h; exact h
theorem byt_mAt {m : List Int} (h : Byt m) (bs : List Bool) (i : Nat) : Byt (mAt m bs i) := by unfold mAt; split; exact byt_bend h; exact h
theorem mAt_no {m : List Int} {bs : List Bool} {i : Nat} (h : bs.getD i false = false) : mAt m bs i = m := by unfold mAt; rw [h]; rfl
theorem mAt_yes {m : List Int} {bs : List Bool} {i : Nat} (h : bs.getD i false = true) : mAt m bs i = bend m := by unfold mAt; rw [if_pos h]
/-- one of the signatures, all of them -/
def sgF (m : List Int) (ws : List Int) (bs : List Bool) (i : Nat) : Sgd := ⟨ws.getD i 0, ((i % 8 : Nat) : Int), sigL (seedL (ws.getD i 0)) (i % 8) (mAt m bs i)⟩
def sgnL (m : List Int) (ws : List Int) (bs : List Bool) (k : Nat) : List Sgd := (List.range k).map (sgF m ws bs)
theorem sgnL_zero (m : List Int) (ws : List Int) (bs : List Bool) : sgnL m ws bs 0 = [] := rfl
theorem sgnL_succ (m : List Int) (ws : List Int) (bs : List Bool) (k : Nat) : sgnL m ws bs (k + 1) = sgnL m ws bs k ++ [sgF m ws bs k] := by simp [sgnL, List.range_succ]
theorem sgnL_len (m : List Int) (ws : List Int) (bs : List Bool) (k : Nat) : (sgnL m ws bs k).length = k := by simp [sgnL]
theorem sgnL_280 (m : List Int) (ws : List Int) (bs : List Bool) (k : Nat) : ∀ x ∈ sgnL m ws bs k, x.sig.length = 280 := fun x hx => by
  obtain ⟨i, _, rfl⟩ := List.mem_map.1 hx
  exact sigL_len _ _ _
theorem flat_snoc (xs : List Sgd) (x : Sgd) : (xs ++ [x]).flatMap eS = xs.flatMap eS ++ eS x := by simp
theorem sgF_eq {m : List Int} {ws : List Int} {bs : List Bool} {i r : Nat} {p : Int} {L : List Int} (hr : i % 8 = r) (hp : ws.getD i 0 = p) (hL : sigL (seedL p) r (mAt m bs i) = L) : sgF m ws bs i = ⟨p, r, L⟩ := by
  unfold sgF
  rw [hr, hp, hL]
theorem types_neQ {w : World} {a b t u : Nat} {xs ys : Array Value} (h : w.heap[a]? = some (.cells xs t (0, 0))) (h2 : w.heap[b]? = some (.cells ys u (0, 0))) (ne : t ≠ u) : a ≠ b := fun e => by
  subst e
  rw [h] at h2
  injection h2 with h2
  injection h2 with _ h3
  exact ne h3
theorem step_alloc43 {w : World} {ops : Array Oper} {o : Oper} {a : Act} {K : Act → World → Prop} {Q : Exit → Act → World → Prop} {E : Prop} (hgd : o.guard = none) (ho : o.op = .alloc 43)
    (h : K (a.put o.dst (.pointer (some ⟨w.heap.size, 0, none⟩))) (w.alloc (Obj.cells (sg 0 (zeros 280)).toArray 43))) : if Region.wanted o (yielded ops a.tmps) = true then Oper.wp Tryd.prog o a w K Q else E := by
  have hw : Region.wanted o (yielded ops a.tmps) = true := by simp [Region.wanted, hgd]
  have hz := z30
  rw [if_pos hw]
  unfold Oper.wp execOp
  simp [ho, go_sem, hz]
  exact h
theorem own_typeQ' {w : World} {base t k n : Nat} {v : Value} {xs : List Value} (h : w.ownsRow base t k v n xs) : ∀ q, v.ownBlock = some q → ∃ cs, w.heap[q]? = some (.cells cs t (0, 0)) := by
  intro q hq
  rcases h.2 with ⟨rfl, _⟩ | ⟨g, cap, cur, rfl, hb, hg, _⟩
  · cases hq
  · simp [Value.ownBlock] at hq
    subst hq
    exact ⟨_, hg⟩
attribute [local irreducible] ua da ba kk sw S8.run rt hs comp splice outB sha msg bvals at8 secM zeros sec keyF marksF mk pubk bt rootF leafH twoH stepsF cutN leadF provL rootV pubF pubs keyL opn sht way gives ckB chkB rootL sg eS fineP mayK win mayP okS has cnt cntN riseP allP enough keyAt cat opL shL sigL wayP wayL rootS seedL bend mAt sgF sgnL
set_option maxRecDepth 100000 in
set_option maxHeartbeats 32000000 in
/-- Signed -/
theorem kSigned (m : List Int) (A : Option Addr) (n cap : Nat) (ws : List Int) (A2 : Option Addr) (n2 cap2 : Nat) (bs : List Bool) (w : World) (hk : Keys w) (hm : m.length = 8) (hbt : Byt m) (hw : IRow w A ws) (hn : ws.length = n) (hb : LRow w A2 bs) (hn2 : bs.length = n2) (h64 : n ≤ 65536) :
    Calls Tryd.prog 11 #[.agg (ba m), .slice A n cap, .slice A2 n2 cap2] w fun e w' => ∃ B c, e = .returned (.slice B n c) ∧ w'.ownsRow w.heap.size 45 282 (.slice B n c) n ((sgnL m ws bs n).flatMap eS) ∧ Below w.heap.size w w' := by
  have h4 := z27
  have HK := Lib.hid hk
  have HP : Hid (0 < w.heap.size) := keys_pos hk
  have HM := Lib.hid hm
  have HB := Lib.hid hbt
  have HW := Lib.hid hw
  have HWN := Lib.hid hn
  have HBR := Lib.hid hb
  have HBN := Lib.hid hn2
  have HN64 := Lib.hid h64
  have LZ : Hid ((zeros 280).length = 280) := zeros_len 280
  obtain ⟨S, hS⟩ : ∃ S, w.heap.size = S := ⟨_, rfl⟩
  have HS := Lib.hid hS
  have KW : Hid (∀ w', Below S w w' → Keys w') := fun w' hb => keys_below HK.out hb (by rw [← HS.out]; exact HP.out)
  have E0 := Lib.hid (ba_new hS m 32)
  have B0 : Hid (Below S w (w.alloc (Obj.cells (ba m) 32))) := by subst hS; exact (Below.refl _ w).alloc (Nat.le_refl _) _
  have Z0 : Hid (S + 1 ≤ (w.alloc (Obj.cells (ba m) 32)).heap.size) := Nat.le_of_eq (size_al hS _).symm
  have C20 : Hid (∀ (j : Int) (w' : World), Calls Tryd.prog 20 #[.int .i64 j] w' fun e w'' => e = .returned (.agg (ba (seedL j))) ∧ Below w'.heap.size w' w'') := fun j w' => kSeedL j w'
  have C21A : Hid (∀ (j : Int) (r : Nat) (mm : List Int) (w' : World), mm.length = 8 → Byt mm → r < 8 → Below S w w' → Calls Tryd.prog 21 #[.agg (ba (seedL j)), .int .i64 r, .agg (ba mm)] w' fun e w'' => e = .returned (.tuple #[.agg (sg r (sigL (seedL j) r mm)).toArray, .bool true]) ∧ Below w'.heap.size w' w'') := fun j r mm w' h1 h2 h3 hb => dSignT (seedL j) mm r w' (KW.out w' hb) (seedL_len j) h1 h2 h3
  clear hk hm hbt hw hn hb hn2
  go_enter Tryd.func11, Tryd.ntmps11
  go_wp2_with fail
  clear hS
  generalize (w.alloc (Obj.cells (ba m) 32)) = w0 at *
  go_loopw [8, 7] (fun v8 v7 wr => ∃ (k : Nat) (B : Option Addr) (c : Nat), k ≤ n ∧ v8 = .int .i64 k ∧ v7 = .slice B k c ∧ wr.ownsRow (S + 1) 45 282 (.slice B k c) k ((sgnL m ws bs k).flatMap eS) ∧ BA wr S 32 m ∧ Below S w wr ∧ S + 1 ≤ wr.heap.size) (fun v8 _ _ => n - (intOf v8).toNat)
  case atStart => exact ⟨0, none, 0, Nat.zero_le _, rfl, rfl, by rw [sgnL_zero]; exact ownS_nil _ _, E0.out, B0.out, Z0.out⟩
  case round =>
    clear E0 B0 Z0
    obtain ⟨k, B, c, hkn, rfl, rfl, ho, he, hb, hz⟩ := hrel
    have OR := Lib.hid ho
    have ER := Lib.hid he
    have BR := Lib.hid hb
    have ZR := Lib.hid hz
    clear ho he hb hz
    by_cases hlt : k < n
    · have s0 : (0 : Int) ≤ (k : Int) := by omega
      have s1 : (k : Int) < (n : Int) := by omega
      have HKN := Lib.hid hlt
      obtain ⟨v, hv⟩ : ∃ v, Value.slice B k c = v := ⟨_, rfl⟩
      rw [hv] at OR ⊢
      have HWK : Hid (ws ≠ []) := fun e => by have := HWN.out; rw [e] at this; simp at this; omega
      obtain ⟨bw, ow, rfl, hcw⟩ : ∃ b o, A = some ⟨b, o, none⟩ ∧ ∀ j, j < ws.length → w.cell? ⟨b, o + j, none⟩ = some (.int .i64 (ws.getD j 0)) := by
        rcases HW.out with h | h
        · exact absurd h HWK.out
        · exact h
      obtain ⟨p, hp⟩ : ∃ p, ws.getD k 0 = p := ⟨_, rfl⟩
      have HPP := Lib.hid hp
      have CP : Hid (w.cell? ⟨bw, ow + k, none⟩ = some (.int .i64 p)) := by rw [← hp]; exact hcw k (by rw [HWN.out]; exact hlt)
      obtain ⟨r, hr⟩ : ∃ r, k % 8 = r := ⟨_, rfl⟩
      have HR := Lib.hid hr
      have HR8 : Hid (r < 8) := by show _ < _; omega
      have mx : (k : Int).tmod 8 = (r : Int) := by rw [← hr]; simp [Int.tmod]
      have mn : IntKind.i64.wrap (r : Int) = (r : Int) := by rw [IntKind.wrap_i64]; omega
      clear hv hcw hp hr HW
      go_upto_region 6 with (first
        | (refine wpList_load_row rfl 32 (.tmp 3) rfl S rfl 32 (ba m) (0, 0) _ ER.out Tryd.underlying32 rfl (sz s27 (by rw [ba_size, HM.out])) ?_
           obtain ⟨X, hX⟩ : ∃ q, wr.heap.size = q := ⟨_, rfl⟩
           have Y0a := Lib.hid (ba_new hX (zeros 8) 32))
        | (refine wpList_store_rowTo rfl 32 (.tmp 9) (.tmp 18) rfl rfl X (ba m) rfl rfl 32 (ba (zeros 8)) Y0a.out (sz s27 (by rw [ba_size, HM.out])) (by rw [ba_size, ba_size, HM.out, zeros_len]) (ba_one m) ?_
           have Ya : Hid (BA ((wr.alloc (Obj.cells (ba (zeros 8)) 32)).setRow X (ba m)) X 32 m) := setRow_heap _ _ _ _ _ _ Y0a.out
           have BWa : Hid (Below X wr ((wr.alloc (Obj.cells (ba (zeros 8)) 32)).setRow X (ba m))) := below_setRow ((Below.refl _ _).alloc (Nat.le_of_eq hX.symm) _) (Nat.le_refl _) _
           generalize ((wr.alloc (Obj.cells (ba (zeros 8)) 32)).setRow X (ba m)) = v3 at *)
        | fail)
      have XS : Hid (S + 1 ≤ X) := by show _ ≤ _; rw [← hX]; exact ZR.out
      have BQ3 : Hid (Below S w v3) := BR.out.trans (BWa.out.mono (by have := XS.out; omega))
      have EQ3 : Hid (BA v3 S 32 m) := (BWa.out.block S (by have := XS.out; omega)).trans ER.out
      have OW3 : Hid (v3.ownsRow (S + 1) 45 282 v k ((sgnL m ws bs k).flatMap eS)) := own_keepQ OR.out (by rw [hX]; exact BWa.out)
      clear hX Y0a BWa OR ER BR ZR
      by_cases hkb : k < n2
      · have k2 : (k : Int) < (n2 : Int) := by omega
        obtain ⟨bl, ol, rfl, hcl⟩ : ∃ b o, A2 = some ⟨b, o, none⟩ ∧ ∀ j, j < bs.length → w.cell? ⟨b, o + j, none⟩ = some (.bool (bs.getD j false)) := by
          rcases HBR.out with h | h
          · have := HBN.out; rw [h] at this; simp at this; omega
          · exact h
        obtain ⟨d, hd⟩ : ∃ d, bs.getD k false = d := ⟨_, rfl⟩
        have HD := Lib.hid hd
        have cb : v3.cell? ⟨bl, ol + k, none⟩ = some (.bool d) := by
          rw [← hd]
          exact cell_keep (hcl k (by rw [HBN.out]; exact hkb)) fun q hq => BQ3.out.block q (by rw [← HS.out]; exact hq)
        clear hcl hd
        cases d
        · have HMA : Hid (mAt m bs k = m) := mAt_no HD.out
          go_wp2_with fail
          obtain ⟨mm, hmm⟩ : ∃ mm, m = mm := ⟨_, rfl⟩
          have LMM : Hid (mm.length = 8) := by rw [← hmm]; exact HM.out
          have BMM : Hid (Byt mm) := by rw [← hmm]; exact HB.out
          have YX : Hid (BA v3 X 32 mm) := by rw [← hmm]; exact Ya.out
          have BQ := BQ3
          have EQ := EQ3
          have OW := OW3
          have HMB : Hid (mAt m bs k = mm) := by show _ = _; rw [HMA.out]; exact hmm
          clear Ya BQ3 EQ3 OW3 HMA
          have HMA := HMB
          clear HMB hmm
          (try clear cb)
          generalize v3 = wB at *
          obtain ⟨N, hN⟩ : ∃ N, wB.heap.size = N := ⟨_, rfl⟩
          have WN : Hid (wB.heap.size = N) := hN
          have LN : Hid (X < N ∧ S < N) := by show _ ∧ _; rw [← hN]; exact ⟨lt_of_block YX.out, lt_of_block EQ.out⟩
          have KN : Hid (∀ w', Below N wB w' → Below S w w') := fun w' hb => BQ.out.trans (hb.mono (by have := LN.out; omega))
          have CW : Hid (∀ w' : World, (∀ q, q < S → w'.heap[q]? = wB.heap[q]?) → w'.cell? ⟨bw, ow + k, none⟩ = some (.int .i64 p)) := fun w' h => cell_keep CP.out fun q hq => (h q (by rw [← HS.out]; exact hq)).trans (BQ.out.block q (by rw [← HS.out]; exact hq))
          have him := inf23 mm LMM.out
          obtain ⟨L, hL⟩ : ∃ L, sigL (seedL p) r mm = L := ⟨_, rfl⟩
          have LL : Hid (L.length = 280) := by rw [← hL]; exact sigL_len _ _ _
          have HX : Hid (sgF m ws bs k = ⟨p, r, L⟩) := sgF_eq HR.out HPP.out (by rw [HMA.out]; exact hL)
          have C21 : Hid (∀ w', Below S w w' → Calls Tryd.prog 21 #[.agg (ba (seedL p)), .int .i64 r, .agg (bvals mm).toArray] w' fun e w'' => e = .returned (.tuple #[.agg (sg r L).toArray, .bool true]) ∧ Below w'.heap.size w' w'') := fun w' hb => by
            have := C21A.out p r mm w' LMM.out BMM.out HR8.out hb
            rw [hL, ba_bvals mm] at this
            exact this
          clear hN hL
          have XX : Hid (Below N wB wB.drew) := (Below.refl _ _).drew
          refine wp_region_held_drew (S := (fun w' : World => ∀ q, q < N → w'.heap[q]? = wB.heap[q]?)) (by kernel_rfl) (by exact fun _ _ => rfl) (fun hHeld => ?_)
          refine wpAnyH_take (i := 0) (v := ?_) rfl (by kernel_rfl) (by kernel_rfl) (by kernel_rfl) (fun _ _ _ h => h) (Or.inl ⟨by rfl, ?_⟩) (by assumption) ?_
          rotate_left
          · (intro w hSw; (try dsimp only at hSw); go_simp; try with_reducible rfl)
          simp only [Act.put, List.getElem_toArray, List.getElem_cons_zero, List.setIfInBounds_toArray, List.set_cons_zero, List.set_cons_succ]
          refine wpAnyH_take (i := 1) (v := ?_) rfl (by kernel_rfl) (by kernel_rfl) (by kernel_rfl) (fun _ _ _ h => h) (Or.inl ⟨by rfl, ?_⟩) (by assumption) ?_
          rotate_left
          · (intro w hSw; (try dsimp only at hSw); go_simp; try with_reducible rfl)
          simp only [Act.put, List.getElem_toArray, List.getElem_cons_succ, List.getElem_cons_zero, List.setIfInBounds_toArray, List.set_cons_zero, List.set_cons_succ]
          refine wpAnyH_take (i := 2) (v := ?_) rfl (by kernel_rfl) (by kernel_rfl) (by kernel_rfl) (fun _ _ _ h => h) (Or.inl ⟨by rfl, ?_⟩) (by assumption) ?_
          rotate_left
          · (intro w hSw; (try dsimp only at hSw); go_simp; try with_reducible rfl)
          simp only [Act.put, List.getElem_toArray, List.getElem_cons_succ, List.getElem_cons_zero, List.setIfInBounds_toArray, List.set_cons_zero, List.set_cons_succ]
          refine wpAnyH_take (i := 3) (v := ?_) rfl (by kernel_rfl) (by kernel_rfl) (by kernel_rfl) (fun _ _ _ h => h) (Or.inl ⟨by rfl, ?_⟩) (by assumption) ?_
          rotate_left
          · (intro w hSw; (try dsimp only at hSw); have cw := CW.out w (fun q hq => hSw q (by have := LN.out; omega)); go_simp; try with_reducible rfl)
          simp only [Act.put, List.getElem_toArray, List.getElem_cons_succ, List.getElem_cons_zero, List.setIfInBounds_toArray, List.set_cons_zero, List.set_cons_succ]
          refine wpAnyH_take (i := 5) (v := ?_) rfl (by kernel_rfl) (by kernel_rfl) (by kernel_rfl) (fun _ _ _ h => h) (Or.inl ⟨by rfl, ?_⟩) (by assumption) ?_
          rotate_left
          · (intro w hSw; (try dsimp only at hSw); go_simp; try with_reducible rfl)
          simp only [Act.put, List.getElem_toArray, List.getElem_cons_succ, List.getElem_cons_zero, List.setIfInBounds_toArray, List.set_cons_zero, List.set_cons_succ]
          refine wpAnyH_take (i := 6) (v := ?_) rfl (by kernel_rfl) (by kernel_rfl) (by kernel_rfl) (fun _ _ _ h => h) (Or.inl ⟨by rfl, ?_⟩) (by assumption) ?_
          rotate_left
          · (intro w hSw; (try dsimp only at hSw); go_simp; try with_reducible rfl)
          simp only [Act.put, List.getElem_toArray, List.getElem_cons_succ, List.getElem_cons_zero, List.setIfInBounds_toArray, List.set_cons_zero, List.set_cons_succ]
          refine wpAnyH_take (i := 7) rfl (by kernel_rfl) (by kernel_rfl) (by kernel_rfl) (fun _ _ _ h => h) (yieldsIf_load_mid (by rfl) 32 (.tmp 9) rfl (X) (0) rfl (bvals mm) _ (fun w h => ba_range (t := 32) ((h _ (by have := LN.out; omega)).trans YX.out)) Tryd.underlying32 rfl him) (by assumption) ?_
          simp only [Act.put, List.getElem_toArray, List.getElem_cons_succ, List.getElem_cons_zero, List.setIfInBounds_toArray, List.set_cons_zero, List.set_cons_succ]
          clear hHeld
          generalize wB.drew = wc at *
          refine wpAnyH_ready (rs := [4, 12]) (by kernel_rfl) (by simp) ?_
          refine AllReadyH.cons rfl (fun Kq hKq => ?_) (AllReadyH.cons rfl (fun Kq hKq => ?_) AllReadyH.nil)
          · go_simp
            go_at_call 20
            refine (C20.out p _).mono ?_
            rintro e wd ⟨rfl, hba⟩
            have XN : Hid (Below N wB wd) := XX.out.trans (hba.mono (by have := XX.out.size; have := WN.out; omega))
            clear XX hba
            have XX := XN
            clear XN
            (try go_wp2_with fail)
            refine hKq.out _ _ (by exact fun q hq => XX.out.block q hq) (fun _ => ?_)
            clear hKq Kq
            (try simp only [Act.put, List.getElem_toArray, List.getElem_cons_succ, List.getElem_cons_zero, List.setIfInBounds_toArray, List.set_cons_zero, List.set_cons_succ])
            refine wpAnyH_ready (rs := [8, 12]) (by kernel_rfl) (by simp) ?_
            refine AllReadyH.cons rfl (fun Kq hKq => ?_) (AllReadyH.cons rfl (fun Kq hKq => ?_) AllReadyH.nil)
            · go_simp
              go_at_call 21
              refine (C21.out _ (KN.out _ XX.out)).mono ?_
              rintro e wd ⟨rfl, hba⟩
              have XN : Hid (Below N wB wd) := XX.out.trans (hba.mono (by have := XX.out.size; have := WN.out; omega))
              clear XX hba
              have XX := XN
              clear XN
              (try go_wp2_with fail)
              refine hKq.out _ _ (by exact fun q hq => XX.out.block q hq) (fun _ => ?_)
              clear hKq Kq
              (try simp only [Act.put, List.getElem_toArray, List.getElem_cons_succ, List.getElem_cons_zero, List.setIfInBounds_toArray, List.set_cons_zero, List.set_cons_succ])
              refine wpAnyH_take (i := 9) (v := ?_) rfl (by kernel_rfl) (by kernel_rfl) (by kernel_rfl) (fun _ _ _ h => h) (Or.inl ⟨by rfl, ?_⟩) (by assumption) ?_
              rotate_left
              · (intro w hSw; (try dsimp only at hSw); go_simp; try with_reducible rfl)
              simp only [Act.put, List.getElem_toArray, List.getElem_cons_succ, List.getElem_cons_zero, List.setIfInBounds_toArray, List.set_cons_zero, List.set_cons_succ]
              refine wpAnyH_take (i := 10) (v := ?_) rfl (by kernel_rfl) (by kernel_rfl) (by kernel_rfl) (fun _ _ _ h => h) (Or.inl ⟨by rfl, ?_⟩) (by assumption) ?_
              rotate_left
              · (intro w hSw; (try dsimp only at hSw); go_simp; try with_reducible rfl)
              simp only [Act.put, List.getElem_toArray, List.getElem_cons_succ, List.getElem_cons_zero, List.setIfInBounds_toArray, List.set_cons_zero, List.set_cons_succ]
              refine wpAnyH_take (i := 11) (v := ?_) rfl (by kernel_rfl) (by kernel_rfl) (by kernel_rfl) (fun _ _ _ h => h) (Or.inl ⟨by rfl, ?_⟩) (by assumption) ?_
              rotate_left
              · (intro w hSw; (try dsimp only at hSw); go_simp; try with_reducible rfl)
              simp only [Act.put, List.getElem_toArray, List.getElem_cons_succ, List.getElem_cons_zero, List.setIfInBounds_toArray, List.set_cons_zero, List.set_cons_succ]
              refine wpAnyH_ready (rs := [12]) (by kernel_rfl) (by simp) ?_
              refine AllReadyH.cons rfl (fun Kq hKq => ?_) AllReadyH.nil
              refine step_alloc43 rfl rfl ?_
              obtain ⟨G, hG⟩ : ∃ G, wd.heap.size = G := ⟨_, rfl⟩
              rw [hG]
              have YG := Lib.hid (sb_new hG 0 (zeros 280))
              have NG : Hid (N ≤ G) := by show _ ≤ _; rw [← hG, ← WN.out]; exact XX.out.size
              have XN : Hid (Below N wB (wd.alloc (Obj.cells (sg 0 (zeros 280)).toArray 43))) := XX.out.alloc (by rw [hG]; exact NG.out) _
              clear XX hG
              have XX := XN
              clear XN
              generalize wd.alloc (Obj.cells (sg 0 (zeros 280)).toArray 43) = we at *
              refine hKq.out _ _ (by exact fun q hq => XX.out.block q hq) (fun _ => ?_)
              clear hKq Kq
              (try simp only [Act.put, List.getElem_toArray, List.getElem_cons_succ, List.getElem_cons_zero, List.setIfInBounds_toArray, List.set_cons_zero, List.set_cons_succ])
              refine wpAnyH_ready (rs := [13]) (by kernel_rfl) (by simp) ?_
              refine AllReadyH.cons rfl (fun Kq hKq => ?_) AllReadyH.nil
              refine step_sig rfl (.tmp 10) (.tmp 43) rfl G 0 r (zeros 280) L rfl rfl YG.out LZ.out LL.out ?_
              have XN : Hid (Below N wB (we.setCells G 0 (sg r L))) := below_setCells NG.out _ _ XX.out
              have YN : Hid (SB (we.setCells G 0 (sg r L)) G r L) := sb_row YG.out (by rw [LZ.out, LL.out])
              clear XX YG
              have XX := XN
              have YG := YN
              clear XN YN
              generalize we.setCells G 0 (sg r L) = wf at *
              refine hKq.out _ _ (by exact fun q hq => XX.out.block q hq) (fun _ => ?_)
              clear hKq Kq
              (try simp only [Act.put, List.getElem_toArray, List.getElem_cons_succ, List.getElem_cons_zero])
              refine wpAnyH_take (i := 14) (v := ?_) rfl (by kernel_rfl) (by kernel_rfl) (by kernel_rfl) (fun _ _ _ h => h) (Or.inl ⟨by rfl, ?_⟩) (by assumption) ?_
              rotate_left
              · (intro w hSw; (try dsimp only at hSw); go_simp; try with_reducible rfl)
              simp only [Act.put, List.getElem_toArray, List.getElem_cons_succ, List.getElem_cons_zero, List.setIfInBounds_toArray, List.set_cons_zero, List.set_cons_succ]
              refine wpAnyH_done (by kernel_rfl) ?_ _
              obtain ⟨N2, hN2⟩ : ∃ N2, wf.heap.size = N2 := ⟨_, rfl⟩
              have WN2 : Hid (wf.heap.size = N2) := hN2
              have LN2 : Hid (G < N2 ∧ S + 1 ≤ N2 ∧ N ≤ N2) := by show _ ∧ _ ∧ _; rw [← hN2]; exact ⟨sb_lt YG.out, by have := XX.out.size; have := WN.out; have := LN.out; omega, by have := XX.out.size; have := WN.out; omega⟩
              have GO : Hid (∀ q, v.ownBlock = some q → q < G) := fun q hq => by
                obtain ⟨cs, hcs⟩ := own_typeQ' OW.out q hq
                have h1 := lt_of_block hcs
                have h2 := WN.out
                have h3 := NG.out
                omega
              have OF : Hid (wf.ownsRow (S + 1) 45 282 v k ((sgnL m ws bs k).flatMap eS)) := own_keepQ OW.out (by rw [WN.out]; exact XX.out)
              have BF : Hid (Below S w wf) := KN.out _ XX.out
              have EF : Hid (BA wf S 32 m) := (XX.out.block _ (by have := LN.out; omega)).trans EQ.out
              have CF : Hid (∀ w' : World, (∀ q, q < S → w'.heap[q]? = wf.heap[q]?) → w'.cell? ⟨bw, ow + k, none⟩ = some (.int .i64 p)) := fun w' h => CW.out w' fun q hq => (h q hq).trans (XX.out.block q (by have := LN.out; omega))
              clear XX hN2
              go_wp2_with fail
              have XX : Hid (Below N2 wf wf.drew) := (Below.refl _ _).drew
              refine wp_region_held_drew (S := (fun w' : World => (∀ q, q < S → w'.heap[q]? = wf.heap[q]?) ∧ w'.heap[G]? = wf.heap[G]?)) (by kernel_rfl) (by exact ⟨fun _ _ => rfl, rfl⟩) (fun hHeld => ?_)
              refine wpAnyH_take (i := 0) (v := ?_) rfl (by kernel_rfl) (by kernel_rfl) (by kernel_rfl) (fun _ _ _ h => h) (Or.inl ⟨by rfl, ?_⟩) (by assumption) ?_
              rotate_left
              · (intro w hSw; (try dsimp only at hSw); go_simp; try with_reducible rfl)
              simp only [Act.put, List.getElem_toArray, List.getElem_cons_zero, List.setIfInBounds_toArray, List.set_cons_zero, List.set_cons_succ]
              refine wpAnyH_take (i := 1) (v := ?_) rfl (by kernel_rfl) (by kernel_rfl) (by kernel_rfl) (fun _ _ _ h => h) (Or.inl ⟨by rfl, ?_⟩) (by assumption) ?_
              rotate_left
              · (intro w hSw; (try dsimp only at hSw); go_simp; try with_reducible rfl)
              simp only [Act.put, List.getElem_toArray, List.getElem_cons_succ, List.getElem_cons_zero, List.setIfInBounds_toArray, List.set_cons_zero, List.set_cons_succ]
              refine wpAnyH_take (i := 2) (v := ?_) rfl (by kernel_rfl) (by kernel_rfl) (by kernel_rfl) (fun _ _ _ h => h) (Or.inl ⟨by rfl, ?_⟩) (by assumption) ?_
              rotate_left
              · (intro w hSw; (try dsimp only at hSw); go_simp; try with_reducible rfl)
              simp only [Act.put, List.getElem_toArray, List.getElem_cons_succ, List.getElem_cons_zero, List.setIfInBounds_toArray, List.set_cons_zero, List.set_cons_succ]
              refine wpAnyH_take (i := 3) (v := ?_) rfl (by kernel_rfl) (by kernel_rfl) (by kernel_rfl) (fun _ _ _ h => h) (Or.inl ⟨by rfl, ?_⟩) (by assumption) ?_
              rotate_left
              · (intro w hSw; (try dsimp only at hSw); go_simp; try with_reducible rfl)
              simp only [Act.put, List.getElem_toArray, List.getElem_cons_succ, List.getElem_cons_zero, List.setIfInBounds_toArray, List.set_cons_zero, List.set_cons_succ]
              refine wpAnyH_take (i := 4) (v := ?_) rfl (by kernel_rfl) (by kernel_rfl) (by kernel_rfl) (fun _ _ _ h => h) (Or.inl ⟨by rfl, ?_⟩) (by assumption) ?_
              rotate_left
              · (intro w hSw; (try dsimp only at hSw); have cw := CF.out w hSw.1; go_simp; try with_reducible rfl)
              simp only [Act.put, List.getElem_toArray, List.getElem_cons_succ, List.getElem_cons_zero, List.setIfInBounds_toArray, List.set_cons_zero, List.set_cons_succ]
              refine wpAnyH_take (i := 5) rfl (by kernel_rfl) (by kernel_rfl) (by kernel_rfl) (fun _ _ _ h => h) (yieldsIf_load_mid (by rfl) 43 (.tmp 10) rfl (G) (0) rfl (sg (r) L) _ (fun w h => sb_all (L := L) (h.2.trans YG.out)) Tryd.underlying43 rfl (sg_info _ _ LL.out)) (by assumption) ?_
              simp only [Act.put, List.getElem_toArray, List.getElem_cons_succ, List.getElem_cons_zero, List.setIfInBounds_toArray, List.set_cons_zero, List.set_cons_succ]
              clear hHeld
              generalize wf.drew = wc at *
              refine wpAnyH_ready (rs := [6]) (by kernel_rfl) (by simp) ?_
              refine AllReadyH.cons rfl (fun Kq hKq => ?_) AllReadyH.nil
              refine step_b45 rfl (.tmp 49) (.tmp 50) rfl p r L LL.out rfl rfl ?_
              refine hKq.out _ _ (by exact ⟨fun q hq => XX.out.block q (by have := LN2.out; omega), XX.out.block G (by have := LN2.out; omega)⟩) (fun _ => ?_)
              clear hKq Kq
              simp only [Act.put, List.getElem_toArray, List.getElem_cons_succ, List.getElem_cons_zero, List.setIfInBounds_toArray, List.set_cons_zero, List.set_cons_succ]
              refine wpAnyH_ready (rs := [7]) (by kernel_rfl) (by simp) ?_
              refine AllReadyH.cons rfl (fun Kq hKq => ?_) AllReadyH.nil
              obtain ⟨H, hH⟩ : ∃ H, wc.heap.size = H := ⟨_, rfl⟩
              refine step_bs45 rfl (.tmp 51) rfl ⟨p, r, L⟩ LL.out rfl ?_
              rw [hH]
              have P8 := Lib.hid (xb_new hH ⟨p, r, L⟩)
              have MG : Hid (N2 ≤ H) := by show _ ≤ _; rw [← hH, ← WN2.out]; exact XX.out.size
              have XN : Hid (Below N2 wf (wc.alloc (Obj.cells (eS ⟨p, r, L⟩).toArray 45))) := XX.out.alloc (by rw [hH]; exact MG.out) _
              clear XX
              have XX := XN
              clear XN hH
              generalize wc.alloc (Obj.cells (eS ⟨p, r, L⟩).toArray 45) = we at *
              refine hKq.out _ _ (by exact ⟨fun q hq => XX.out.block q (by have := LN2.out; omega), XX.out.block G (by have := LN2.out; omega)⟩) (fun _ => ?_)
              clear hKq Kq
              simp only [Act.put, List.getElem_toArray, List.getElem_cons_succ, List.getElem_cons_zero, List.setIfInBounds_toArray, List.set_cons_zero, List.set_cons_succ]
              refine wpAnyH_ready (rs := [8]) (by kernel_rfl) (by simp) ?_
              refine AllReadyH.cons rfl (fun Kq hKq => ?_) AllReadyH.nil
              have OE : Hid (we.ownsRow (S + 1) 45 282 v k ((sgnL m ws bs k).flatMap eS)) := own_keepQ OF.out (by rw [WN2.out]; exact XX.out)
              refine step_appS rfl (.tmp 45) (.tmp 52) rfl (S + 1) k 1 v _ rfl OE.out H 0 1 (eS ⟨p, r, L⟩) rfl (xb_all P8.out) (by rw [eS_len LL.out]) (eS_one _) (by have := HKN.out; have := HN64.out; omega) (by have := XX.out.size; have := WN2.out; have := LN2.out; omega) ?_
              intro A9 c9 w9 hown hg
              have O9 : Hid (w9.ownsRow (S + 1) 45 282 (.slice A9 (k + 1) c9) (k + 1) ((sgnL m ws bs (k + 1)).flatMap eS)) := by show World.ownsRow _ _ _ _ _ _ _; rw [sgnL_succ, HX.out, flat_snoc]; exact hown
              have NS : some S ≠ v.ownBlock := fun e => by have := own_baseQ OE.out _ e.symm; omega
              have SZ : Hid (N2 ≤ we.heap.size) := by show _ ≤ _; have := XX.out.size; have := WN2.out; omega
              have B8 : Hid (Below S w we) := BF.out.trans (XX.out.mono (by have := LN2.out; omega))
              have E9 : Hid (BA w9 S 32 m) := (hg.block S (by have := SZ.out; have := LN2.out; omega) NS).trans ((XX.out.block S (by have := LN2.out; omega)).trans EF.out)
              have Z9 : Hid (S + 1 ≤ w9.heap.size) := by show _ ≤ _; have := hg.size; have := SZ.out; have := LN2.out; omega
              have B9 : Hid (Below S w w9) := B8.out.grown hg (by have := SZ.out; have := LN2.out; omega) (fun q hq => by have := own_baseQ OE.out q hq; omega)
              have T9 : Hid ((∀ q, q < S → w9.heap[q]? = wf.heap[q]?) ∧ w9.heap[G]? = wf.heap[G]?) := ⟨fun q hq => (hg.block q (by have := SZ.out; have := LN2.out; omega) (fun e => by have := own_baseQ OE.out q e.symm; omega)).trans (XX.out.block q (by have := LN2.out; omega)), (hg.block G (by have := SZ.out; have := LN2.out; omega) (fun e => by have := GO.out G e.symm; omega)).trans (XX.out.block G (by have := LN2.out; omega))⟩
              clear hown hg NS
              refine hKq.out _ _ (by exact T9.out) (fun _ => ?_)
              clear hKq Kq
              simp only [Act.put, List.getElem_toArray, List.getElem_cons_succ, List.getElem_cons_zero, List.setIfInBounds_toArray, List.set_cons_zero, List.set_cons_succ]
              refine wpAnyH_take (i := 9) (v := ?_) rfl (by kernel_rfl) (by kernel_rfl) (by kernel_rfl) (fun _ _ _ h => h) (Or.inl ⟨by rfl, ?_⟩) (by assumption) ?_
              rotate_left
              · (intro w hSw; (try dsimp only at hSw); go_simp; try with_reducible rfl)
              simp only [Act.put, List.getElem_toArray, List.getElem_cons_succ, List.getElem_cons_zero, List.setIfInBounds_toArray, List.set_cons_zero, List.set_cons_succ]
              refine wpAnyH_done (by kernel_rfl) ?_ _
              go_wp2
              go_roundw
              case rel => exact ⟨k + 1, A9, c9, by have := HKN.out; omega, by go_num, rfl, O9.out, E9.out, B9.out, Z9.out⟩
              case measure => have := HKN.out; simp [intOf]; omega
            · refine step_alloc43 rfl rfl ?_
              obtain ⟨G, hG⟩ : ∃ G, wd.heap.size = G := ⟨_, rfl⟩
              rw [hG]
              have YG := Lib.hid (sb_new hG 0 (zeros 280))
              have NG : Hid (N ≤ G) := by show _ ≤ _; rw [← hG, ← WN.out]; exact XX.out.size
              have XN : Hid (Below N wB (wd.alloc (Obj.cells (sg 0 (zeros 280)).toArray 43))) := XX.out.alloc (by rw [hG]; exact NG.out) _
              clear XX hG
              have XX := XN
              clear XN
              generalize wd.alloc (Obj.cells (sg 0 (zeros 280)).toArray 43) = we at *
              refine hKq.out _ _ (by exact fun q hq => XX.out.block q hq) (fun _ => ?_)
              clear hKq Kq
              (try simp only [Act.put, List.getElem_toArray, List.getElem_cons_succ, List.getElem_cons_zero, List.setIfInBounds_toArray, List.set_cons_zero, List.set_cons_succ])
              refine wpAnyH_ready (rs := [8]) (by kernel_rfl) (by simp) ?_
              refine AllReadyH.cons rfl (fun Kq hKq => ?_) AllReadyH.nil
              go_simp
              go_at_call 21
              refine (C21.out _ (KN.out _ XX.out)).mono ?_
              rintro e wd ⟨rfl, hba⟩
              have XN : Hid (Below N wB wd) := XX.out.trans (hba.mono (by have := XX.out.size; have := WN.out; omega))
              have YN : Hid (SB wd G 0 (zeros 280)) := (hba.block _ (sb_lt YG.out)).trans YG.out
              clear YG
              have YG := YN
              clear YN
              clear XX hba
              have XX := XN
              clear XN
              (try go_wp2_with fail)
              refine hKq.out _ _ (by exact fun q hq => XX.out.block q hq) (fun _ => ?_)
              clear hKq Kq
              (try simp only [Act.put, List.getElem_toArray, List.getElem_cons_succ, List.getElem_cons_zero, List.setIfInBounds_toArray, List.set_cons_zero, List.set_cons_succ])
              refine wpAnyH_take (i := 9) (v := ?_) rfl (by kernel_rfl) (by kernel_rfl) (by kernel_rfl) (fun _ _ _ h => h) (Or.inl ⟨by rfl, ?_⟩) (by assumption) ?_
              rotate_left
              · (intro w hSw; (try dsimp only at hSw); go_simp; try with_reducible rfl)
              simp only [Act.put, List.getElem_toArray, List.getElem_cons_succ, List.getElem_cons_zero, List.setIfInBounds_toArray, List.set_cons_zero, List.set_cons_succ]
              refine wpAnyH_take (i := 10) (v := ?_) rfl (by kernel_rfl) (by kernel_rfl) (by kernel_rfl) (fun _ _ _ h => h) (Or.inl ⟨by rfl, ?_⟩) (by assumption) ?_
              rotate_left
              · (intro w hSw; (try dsimp only at hSw); go_simp; try with_reducible rfl)
              simp only [Act.put, List.getElem_toArray, List.getElem_cons_succ, List.getElem_cons_zero, List.setIfInBounds_toArray, List.set_cons_zero, List.set_cons_succ]
              refine wpAnyH_take (i := 11) (v := ?_) rfl (by kernel_rfl) (by kernel_rfl) (by kernel_rfl) (fun _ _ _ h => h) (Or.inl ⟨by rfl, ?_⟩) (by assumption) ?_
              rotate_left
              · (intro w hSw; (try dsimp only at hSw); go_simp; try with_reducible rfl)
              simp only [Act.put, List.getElem_toArray, List.getElem_cons_succ, List.getElem_cons_zero, List.setIfInBounds_toArray, List.set_cons_zero, List.set_cons_succ]
              refine wpAnyH_ready (rs := [13]) (by kernel_rfl) (by simp) ?_
              refine AllReadyH.cons rfl (fun Kq hKq => ?_) AllReadyH.nil
              refine step_sig rfl (.tmp 10) (.tmp 43) rfl G 0 r (zeros 280) L rfl rfl YG.out LZ.out LL.out ?_
              have XN : Hid (Below N wB (wd.setCells G 0 (sg r L))) := below_setCells NG.out _ _ XX.out
              have YN : Hid (SB (wd.setCells G 0 (sg r L)) G r L) := sb_row YG.out (by rw [LZ.out, LL.out])
              clear XX YG
              have XX := XN
              have YG := YN
              clear XN YN
              generalize wd.setCells G 0 (sg r L) = wf at *
              refine hKq.out _ _ (by exact fun q hq => XX.out.block q hq) (fun _ => ?_)
              clear hKq Kq
              (try simp only [Act.put, List.getElem_toArray, List.getElem_cons_succ, List.getElem_cons_zero])
              refine wpAnyH_take (i := 14) (v := ?_) rfl (by kernel_rfl) (by kernel_rfl) (by kernel_rfl) (fun _ _ _ h => h) (Or.inl ⟨by rfl, ?_⟩) (by assumption) ?_
              rotate_left
              · (intro w hSw; (try dsimp only at hSw); go_simp; try with_reducible rfl)
              simp only [Act.put, List.getElem_toArray, List.getElem_cons_succ, List.getElem_cons_zero, List.setIfInBounds_toArray, List.set_cons_zero, List.set_cons_succ]
              refine wpAnyH_done (by kernel_rfl) ?_ _
              obtain ⟨N2, hN2⟩ : ∃ N2, wf.heap.size = N2 := ⟨_, rfl⟩
              have WN2 : Hid (wf.heap.size = N2) := hN2
              have LN2 : Hid (G < N2 ∧ S + 1 ≤ N2 ∧ N ≤ N2) := by show _ ∧ _ ∧ _; rw [← hN2]; exact ⟨sb_lt YG.out, by have := XX.out.size; have := WN.out; have := LN.out; omega, by have := XX.out.size; have := WN.out; omega⟩
              have GO : Hid (∀ q, v.ownBlock = some q → q < G) := fun q hq => by
                obtain ⟨cs, hcs⟩ := own_typeQ' OW.out q hq
                have h1 := lt_of_block hcs
                have h2 := WN.out
                have h3 := NG.out
                omega
              have OF : Hid (wf.ownsRow (S + 1) 45 282 v k ((sgnL m ws bs k).flatMap eS)) := own_keepQ OW.out (by rw [WN.out]; exact XX.out)
              have BF : Hid (Below S w wf) := KN.out _ XX.out
              have EF : Hid (BA wf S 32 m) := (XX.out.block _ (by have := LN.out; omega)).trans EQ.out
              have CF : Hid (∀ w' : World, (∀ q, q < S → w'.heap[q]? = wf.heap[q]?) → w'.cell? ⟨bw, ow + k, none⟩ = some (.int .i64 p)) := fun w' h => CW.out w' fun q hq => (h q hq).trans (XX.out.block q (by have := LN.out; omega))
              clear XX hN2
              go_wp2_with fail
              have XX : Hid (Below N2 wf wf.drew) := (Below.refl _ _).drew
              refine wp_region_held_drew (S := (fun w' : World => (∀ q, q < S → w'.heap[q]? = wf.heap[q]?) ∧ w'.heap[G]? = wf.heap[G]?)) (by kernel_rfl) (by exact ⟨fun _ _ => rfl, rfl⟩) (fun hHeld => ?_)
              refine wpAnyH_take (i := 0) (v := ?_) rfl (by kernel_rfl) (by kernel_rfl) (by kernel_rfl) (fun _ _ _ h => h) (Or.inl ⟨by rfl, ?_⟩) (by assumption) ?_
              rotate_left
              · (intro w hSw; (try dsimp only at hSw); go_simp; try with_reducible rfl)
              simp only [Act.put, List.getElem_toArray, List.getElem_cons_zero, List.setIfInBounds_toArray, List.set_cons_zero, List.set_cons_succ]
              refine wpAnyH_take (i := 1) (v := ?_) rfl (by kernel_rfl) (by kernel_rfl) (by kernel_rfl) (fun _ _ _ h => h) (Or.inl ⟨by rfl, ?_⟩) (by assumption) ?_
              rotate_left
              · (intro w hSw; (try dsimp only at hSw); go_simp; try with_reducible rfl)
              simp only [Act.put, List.getElem_toArray, List.getElem_cons_succ, List.getElem_cons_zero, List.setIfInBounds_toArray, List.set_cons_zero, List.set_cons_succ]
              refine wpAnyH_take (i := 2) (v := ?_) rfl (by kernel_rfl) (by kernel_rfl) (by kernel_rfl) (fun _ _ _ h => h) (Or.inl ⟨by rfl, ?_⟩) (by assumption) ?_
              rotate_left
              · (intro w hSw; (try dsimp only at hSw); go_simp; try with_reducible rfl)
              simp only [Act.put, List.getElem_toArray, List.getElem_cons_succ, List.getElem_cons_zero, List.setIfInBounds_toArray, List.set_cons_zero, List.set_cons_succ]
              refine wpAnyH_take (i := 3) (v := ?_) rfl (by kernel_rfl) (by kernel_rfl) (by kernel_rfl) (fun _ _ _ h => h) (Or.inl ⟨by rfl, ?_⟩) (by assumption) ?_
              rotate_left
              · (intro w hSw; (try dsimp only at hSw); go_simp; try with_reducible rfl)
              simp only [Act.put, List.getElem_toArray, List.getElem_cons_succ, List.getElem_cons_zero, List.setIfInBounds_toArray, List.set_cons_zero, List.set_cons_succ]
              refine wpAnyH_take (i := 4) (v := ?_) rfl (by kernel_rfl) (by kernel_rfl) (by kernel_rfl) (fun _ _ _ h => h) (Or.inl ⟨by rfl, ?_⟩) (by assumption) ?_
              rotate_left
              · (intro w hSw; (try dsimp only at hSw); have cw := CF.out w hSw.1; go_simp; try with_reducible rfl)
              simp only [Act.put, List.getElem_toArray, List.getElem_cons_succ, List.getElem_cons_zero, List.setIfInBounds_toArray, List.set_cons_zero, List.set_cons_succ]
              refine wpAnyH_take (i := 5) rfl (by kernel_rfl) (by kernel_rfl) (by kernel_rfl) (fun _ _ _ h => h) (yieldsIf_load_mid (by rfl) 43 (.tmp 10) rfl (G) (0) rfl (sg (r) L) _ (fun w h => sb_all (L := L) (h.2.trans YG.out)) Tryd.underlying43 rfl (sg_info _ _ LL.out)) (by assumption) ?_
              simp only [Act.put, List.getElem_toArray, List.getElem_cons_succ, List.getElem_cons_zero, List.setIfInBounds_toArray, List.set_cons_zero, List.set_cons_succ]
              clear hHeld
              generalize wf.drew = wc at *
              refine wpAnyH_ready (rs := [6]) (by kernel_rfl) (by simp) ?_
              refine AllReadyH.cons rfl (fun Kq hKq => ?_) AllReadyH.nil
              refine step_b45 rfl (.tmp 49) (.tmp 50) rfl p r L LL.out rfl rfl ?_
              refine hKq.out _ _ (by exact ⟨fun q hq => XX.out.block q (by have := LN2.out; omega), XX.out.block G (by have := LN2.out; omega)⟩) (fun _ => ?_)
              clear hKq Kq
              simp only [Act.put, List.getElem_toArray, List.getElem_cons_succ, List.getElem_cons_zero, List.setIfInBounds_toArray, List.set_cons_zero, List.set_cons_succ]
              refine wpAnyH_ready (rs := [7]) (by kernel_rfl) (by simp) ?_
              refine AllReadyH.cons rfl (fun Kq hKq => ?_) AllReadyH.nil
              obtain ⟨H, hH⟩ : ∃ H, wc.heap.size = H := ⟨_, rfl⟩
              refine step_bs45 rfl (.tmp 51) rfl ⟨p, r, L⟩ LL.out rfl ?_
              rw [hH]
              have P8 := Lib.hid (xb_new hH ⟨p, r, L⟩)
              have MG : Hid (N2 ≤ H) := by show _ ≤ _; rw [← hH, ← WN2.out]; exact XX.out.size
              have XN : Hid (Below N2 wf (wc.alloc (Obj.cells (eS ⟨p, r, L⟩).toArray 45))) := XX.out.alloc (by rw [hH]; exact MG.out) _
              clear XX
              have XX := XN
              clear XN hH
              generalize wc.alloc (Obj.cells (eS ⟨p, r, L⟩).toArray 45) = we at *
              refine hKq.out _ _ (by exact ⟨fun q hq => XX.out.block q (by have := LN2.out; omega), XX.out.block G (by have := LN2.out; omega)⟩) (fun _ => ?_)
              clear hKq Kq
              simp only [Act.put, List.getElem_toArray, List.getElem_cons_succ, List.getElem_cons_zero, List.setIfInBounds_toArray, List.set_cons_zero, List.set_cons_succ]
              refine wpAnyH_ready (rs := [8]) (by kernel_rfl) (by simp) ?_
              refine AllReadyH.cons rfl (fun Kq hKq => ?_) AllReadyH.nil
              have OE : Hid (we.ownsRow (S + 1) 45 282 v k ((sgnL m ws bs k).flatMap eS)) := own_keepQ OF.out (by rw [WN2.out]; exact XX.out)
              refine step_appS rfl (.tmp 45) (.tmp 52) rfl (S + 1) k 1 v _ rfl OE.out H 0 1 (eS ⟨p, r, L⟩) rfl (xb_all P8.out) (by rw [eS_len LL.out]) (eS_one _) (by have := HKN.out; have := HN64.out; omega) (by have := XX.out.size; have := WN2.out; have := LN2.out; omega) ?_
              intro A9 c9 w9 hown hg
              have O9 : Hid (w9.ownsRow (S + 1) 45 282 (.slice A9 (k + 1) c9) (k + 1) ((sgnL m ws bs (k + 1)).flatMap eS)) := by show World.ownsRow _ _ _ _ _ _ _; rw [sgnL_succ, HX.out, flat_snoc]; exact hown
              have NS : some S ≠ v.ownBlock := fun e => by have := own_baseQ OE.out _ e.symm; omega
              have SZ : Hid (N2 ≤ we.heap.size) := by show _ ≤ _; have := XX.out.size; have := WN2.out; omega
              have B8 : Hid (Below S w we) := BF.out.trans (XX.out.mono (by have := LN2.out; omega))
              have E9 : Hid (BA w9 S 32 m) := (hg.block S (by have := SZ.out; have := LN2.out; omega) NS).trans ((XX.out.block S (by have := LN2.out; omega)).trans EF.out)
              have Z9 : Hid (S + 1 ≤ w9.heap.size) := by show _ ≤ _; have := hg.size; have := SZ.out; have := LN2.out; omega
              have B9 : Hid (Below S w w9) := B8.out.grown hg (by have := SZ.out; have := LN2.out; omega) (fun q hq => by have := own_baseQ OE.out q hq; omega)
              have T9 : Hid ((∀ q, q < S → w9.heap[q]? = wf.heap[q]?) ∧ w9.heap[G]? = wf.heap[G]?) := ⟨fun q hq => (hg.block q (by have := SZ.out; have := LN2.out; omega) (fun e => by have := own_baseQ OE.out q e.symm; omega)).trans (XX.out.block q (by have := LN2.out; omega)), (hg.block G (by have := SZ.out; have := LN2.out; omega) (fun e => by have := GO.out G e.symm; omega)).trans (XX.out.block G (by have := LN2.out; omega))⟩
              clear hown hg NS
              refine hKq.out _ _ (by exact T9.out) (fun _ => ?_)
              clear hKq Kq
              simp only [Act.put, List.getElem_toArray, List.getElem_cons_succ, List.getElem_cons_zero, List.setIfInBounds_toArray, List.set_cons_zero, List.set_cons_succ]
              refine wpAnyH_take (i := 9) (v := ?_) rfl (by kernel_rfl) (by kernel_rfl) (by kernel_rfl) (fun _ _ _ h => h) (Or.inl ⟨by rfl, ?_⟩) (by assumption) ?_
              rotate_left
              · (intro w hSw; (try dsimp only at hSw); go_simp; try with_reducible rfl)
              simp only [Act.put, List.getElem_toArray, List.getElem_cons_succ, List.getElem_cons_zero, List.setIfInBounds_toArray, List.set_cons_zero, List.set_cons_succ]
              refine wpAnyH_done (by kernel_rfl) ?_ _
              go_wp2
              go_roundw
              case rel => exact ⟨k + 1, A9, c9, by have := HKN.out; omega, by go_num, rfl, O9.out, E9.out, B9.out, Z9.out⟩
              case measure => have := HKN.out; simp [intOf]; omega
          · refine step_alloc43 rfl rfl ?_
            obtain ⟨G, hG⟩ : ∃ G, wc.heap.size = G := ⟨_, rfl⟩
            rw [hG]
            have YG := Lib.hid (sb_new hG 0 (zeros 280))
            have NG : Hid (N ≤ G) := by show _ ≤ _; rw [← hG, ← WN.out]; exact XX.out.size
            have XN : Hid (Below N wB (wc.alloc (Obj.cells (sg 0 (zeros 280)).toArray 43))) := XX.out.alloc (by rw [hG]; exact NG.out) _
            clear XX hG
            have XX := XN
            clear XN
            generalize wc.alloc (Obj.cells (sg 0 (zeros 280)).toArray 43) = we at *
            refine hKq.out _ _ (by exact fun q hq => XX.out.block q hq) (fun _ => ?_)
            clear hKq Kq
            (try simp only [Act.put, List.getElem_toArray, List.getElem_cons_succ, List.getElem_cons_zero, List.setIfInBounds_toArray, List.set_cons_zero, List.set_cons_succ])
            refine wpAnyH_ready (rs := [4]) (by kernel_rfl) (by simp) ?_
            refine AllReadyH.cons rfl (fun Kq hKq => ?_) AllReadyH.nil
            go_simp
            go_at_call 20
            refine (C20.out p _).mono ?_
            rintro e wd ⟨rfl, hba⟩
            have XN : Hid (Below N wB wd) := XX.out.trans (hba.mono (by have := XX.out.size; have := WN.out; omega))
            have YN : Hid (SB wd G 0 (zeros 280)) := (hba.block _ (sb_lt YG.out)).trans YG.out
            clear YG
            have YG := YN
            clear YN
            clear XX hba
            have XX := XN
            clear XN
            (try go_wp2_with fail)
            refine hKq.out _ _ (by exact fun q hq => XX.out.block q hq) (fun _ => ?_)
            clear hKq Kq
            (try simp only [Act.put, List.getElem_toArray, List.getElem_cons_succ, List.getElem_cons_zero, List.setIfInBounds_toArray, List.set_cons_zero, List.set_cons_succ])
            refine wpAnyH_ready (rs := [8]) (by kernel_rfl) (by simp) ?_
            refine AllReadyH.cons rfl (fun Kq hKq => ?_) AllReadyH.nil
            go_simp
            go_at_call 21
            refine (C21.out _ (KN.out _ XX.out)).mono ?_
            rintro e wd ⟨rfl, hba⟩
            have XN : Hid (Below N wB wd) := XX.out.trans (hba.mono (by have := XX.out.size; have := WN.out; omega))
            have YN : Hid (SB wd G 0 (zeros 280)) := (hba.block _ (sb_lt YG.out)).trans YG.out
            clear YG
            have YG := YN
            clear YN
            clear XX hba
            have XX := XN
            clear XN
            (try go_wp2_with fail)
            refine hKq.out _ _ (by exact fun q hq => XX.out.block q hq) (fun _ => ?_)
            clear hKq Kq
            (try simp only [Act.put, List.getElem_toArray, List.getElem_cons_succ, List.getElem_cons_zero, List.setIfInBounds_toArray, List.set_cons_zero, List.set_cons_succ])
            refine wpAnyH_take (i := 9) (v := ?_) rfl (by kernel_rfl) (by kernel_rfl) (by kernel_rfl) (fun _ _ _ h => h) (Or.inl ⟨by rfl, ?_⟩) (by assumption) ?_
            rotate_left
            · (intro w hSw; (try dsimp only at hSw); go_simp; try with_reducible rfl)
            simp only [Act.put, List.getElem_toArray, List.getElem_cons_succ, List.getElem_cons_zero, List.setIfInBounds_toArray, List.set_cons_zero, List.set_cons_succ]
            refine wpAnyH_take (i := 10) (v := ?_) rfl (by kernel_rfl) (by kernel_rfl) (by kernel_rfl) (fun _ _ _ h => h) (Or.inl ⟨by rfl, ?_⟩) (by assumption) ?_
            rotate_left
            · (intro w hSw; (try dsimp only at hSw); go_simp; try with_reducible rfl)
            simp only [Act.put, List.getElem_toArray, List.getElem_cons_succ, List.getElem_cons_zero, List.setIfInBounds_toArray, List.set_cons_zero, List.set_cons_succ]
            refine wpAnyH_take (i := 11) (v := ?_) rfl (by kernel_rfl) (by kernel_rfl) (by kernel_rfl) (fun _ _ _ h => h) (Or.inl ⟨by rfl, ?_⟩) (by assumption) ?_
            rotate_left
            · (intro w hSw; (try dsimp only at hSw); go_simp; try with_reducible rfl)
            simp only [Act.put, List.getElem_toArray, List.getElem_cons_succ, List.getElem_cons_zero, List.setIfInBounds_toArray, List.set_cons_zero, List.set_cons_succ]
            refine wpAnyH_ready (rs := [13]) (by kernel_rfl) (by simp) ?_
            refine AllReadyH.cons rfl (fun Kq hKq => ?_) AllReadyH.nil
            refine step_sig rfl (.tmp 10) (.tmp 43) rfl G 0 r (zeros 280) L rfl rfl YG.out LZ.out LL.out ?_
            have XN : Hid (Below N wB (wd.setCells G 0 (sg r L))) := below_setCells NG.out _ _ XX.out
            have YN : Hid (SB (wd.setCells G 0 (sg r L)) G r L) := sb_row YG.out (by rw [LZ.out, LL.out])
            clear XX YG
            have XX := XN
            have YG := YN
            clear XN YN
            generalize wd.setCells G 0 (sg r L) = wf at *
            refine hKq.out _ _ (by exact fun q hq => XX.out.block q hq) (fun _ => ?_)
            clear hKq Kq
            (try simp only [Act.put, List.getElem_toArray, List.getElem_cons_succ, List.getElem_cons_zero])
            refine wpAnyH_take (i := 14) (v := ?_) rfl (by kernel_rfl) (by kernel_rfl) (by kernel_rfl) (fun _ _ _ h => h) (Or.inl ⟨by rfl, ?_⟩) (by assumption) ?_
            rotate_left
            · (intro w hSw; (try dsimp only at hSw); go_simp; try with_reducible rfl)
            simp only [Act.put, List.getElem_toArray, List.getElem_cons_succ, List.getElem_cons_zero, List.setIfInBounds_toArray, List.set_cons_zero, List.set_cons_succ]
            refine wpAnyH_done (by kernel_rfl) ?_ _
            obtain ⟨N2, hN2⟩ : ∃ N2, wf.heap.size = N2 := ⟨_, rfl⟩
            have WN2 : Hid (wf.heap.size = N2) := hN2
            have LN2 : Hid (G < N2 ∧ S + 1 ≤ N2 ∧ N ≤ N2) := by show _ ∧ _ ∧ _; rw [← hN2]; exact ⟨sb_lt YG.out, by have := XX.out.size; have := WN.out; have := LN.out; omega, by have := XX.out.size; have := WN.out; omega⟩
            have GO : Hid (∀ q, v.ownBlock = some q → q < G) := fun q hq => by
              obtain ⟨cs, hcs⟩ := own_typeQ' OW.out q hq
              have h1 := lt_of_block hcs
              have h2 := WN.out
              have h3 := NG.out
              omega
            have OF : Hid (wf.ownsRow (S + 1) 45 282 v k ((sgnL m ws bs k).flatMap eS)) := own_keepQ OW.out (by rw [WN.out]; exact XX.out)
            have BF : Hid (Below S w wf) := KN.out _ XX.out
            have EF : Hid (BA wf S 32 m) := (XX.out.block _ (by have := LN.out; omega)).trans EQ.out
            have CF : Hid (∀ w' : World, (∀ q, q < S → w'.heap[q]? = wf.heap[q]?) → w'.cell? ⟨bw, ow + k, none⟩ = some (.int .i64 p)) := fun w' h => CW.out w' fun q hq => (h q hq).trans (XX.out.block q (by have := LN.out; omega))
            clear XX hN2
            go_wp2_with fail
            have XX : Hid (Below N2 wf wf.drew) := (Below.refl _ _).drew
            refine wp_region_held_drew (S := (fun w' : World => (∀ q, q < S → w'.heap[q]? = wf.heap[q]?) ∧ w'.heap[G]? = wf.heap[G]?)) (by kernel_rfl) (by exact ⟨fun _ _ => rfl, rfl⟩) (fun hHeld => ?_)
            refine wpAnyH_take (i := 0) (v := ?_) rfl (by kernel_rfl) (by kernel_rfl) (by kernel_rfl) (fun _ _ _ h => h) (Or.inl ⟨by rfl, ?_⟩) (by assumption) ?_
            rotate_left
            · (intro w hSw; (try dsimp only at hSw); go_simp; try with_reducible rfl)
            simp only [Act.put, List.getElem_toArray, List.getElem_cons_zero, List.setIfInBounds_toArray, List.set_cons_zero, List.set_cons_succ]
            refine wpAnyH_take (i := 1) (v := ?_) rfl (by kernel_rfl) (by kernel_rfl) (by kernel_rfl) (fun _ _ _ h => h) (Or.inl ⟨by rfl, ?_⟩) (by assumption) ?_
            rotate_left
            · (intro w hSw; (try dsimp only at hSw); go_simp; try with_reducible rfl)
            simp only [Act.put, List.getElem_toArray, List.getElem_cons_succ, List.getElem_cons_zero, List.setIfInBounds_toArray, List.set_cons_zero, List.set_cons_succ]
            refine wpAnyH_take (i := 2) (v := ?_) rfl (by kernel_rfl) (by kernel_rfl) (by kernel_rfl) (fun _ _ _ h => h) (Or.inl ⟨by rfl, ?_⟩) (by assumption) ?_
            rotate_left
            · (intro w hSw; (try dsimp only at hSw); go_simp; try with_reducible rfl)
            simp only [Act.put, List.getElem_toArray, List.getElem_cons_succ, List.getElem_cons_zero, List.setIfInBounds_toArray, List.set_cons_zero, List.set_cons_succ]
            refine wpAnyH_take (i := 3) (v := ?_) rfl (by kernel_rfl) (by kernel_rfl) (by kernel_rfl) (fun _ _ _ h => h) (Or.inl ⟨by rfl, ?_⟩) (by assumption) ?_
            rotate_left
            · (intro w hSw; (try dsimp only at hSw); go_simp; try with_reducible rfl)
            simp only [Act.put, List.getElem_toArray, List.getElem_cons_succ, List.getElem_cons_zero, List.setIfInBounds_toArray, List.set_cons_zero, List.set_cons_succ]
            refine wpAnyH_take (i := 4) (v := ?_) rfl (by kernel_rfl) (by kernel_rfl) (by kernel_rfl) (fun _ _ _ h => h) (Or.inl ⟨by rfl, ?_⟩) (by assumption) ?_
            rotate_left
            · (intro w hSw; (try dsimp only at hSw); have cw := CF.out w hSw.1; go_simp; try with_reducible rfl)
            simp only [Act.put, List.getElem_toArray, List.getElem_cons_succ, List.getElem_cons_zero, List.setIfInBounds_toArray, List.set_cons_zero, List.set_cons_succ]
            refine wpAnyH_take (i := 5) rfl (by kernel_rfl) (by kernel_rfl) (by kernel_rfl) (fun _ _ _ h => h) (yieldsIf_load_mid (by rfl) 43 (.tmp 10) rfl (G) (0) rfl (sg (r) L) _ (fun w h => sb_all (L := L) (h.2.trans YG.out)) Tryd.underlying43 rfl (sg_info _ _ LL.out)) (by assumption) ?_
            simp only [Act.put, List.getElem_toArray, List.getElem_cons_succ, List.getElem_cons_zero, List.setIfInBounds_toArray, List.set_cons_zero, List.set_cons_succ]
            clear hHeld
            generalize wf.drew = wc at *
            refine wpAnyH_ready (rs := [6]) (by kernel_rfl) (by simp) ?_
            refine AllReadyH.cons rfl (fun Kq hKq => ?_) AllReadyH.nil
            refine step_b45 rfl (.tmp 49) (.tmp 50) rfl p r L LL.out rfl rfl ?_
            refine hKq.out _ _ (by exact ⟨fun q hq => XX.out.block q (by have := LN2.out; omega), XX.out.block G (by have := LN2.out; omega)⟩) (fun _ => ?_)
            clear hKq Kq
            simp only [Act.put, List.getElem_toArray, List.getElem_cons_succ, List.getElem_cons_zero, List.setIfInBounds_toArray, List.set_cons_zero, List.set_cons_succ]
            refine wpAnyH_ready (rs := [7]) (by kernel_rfl) (by simp) ?_
            refine AllReadyH.cons rfl (fun Kq hKq => ?_) AllReadyH.nil
            obtain ⟨H, hH⟩ : ∃ H, wc.heap.size = H := ⟨_, rfl⟩
            refine step_bs45 rfl (.tmp 51) rfl ⟨p, r, L⟩ LL.out rfl ?_
            rw [hH]
            have P8 := Lib.hid (xb_new hH ⟨p, r, L⟩)
            have MG : Hid (N2 ≤ H) := by show _ ≤ _; rw [← hH, ← WN2.out]; exact XX.out.size
            have XN : Hid (Below N2 wf (wc.alloc (Obj.cells (eS ⟨p, r, L⟩).toArray 45))) := XX.out.alloc (by rw [hH]; exact MG.out) _
            clear XX
            have XX := XN
            clear XN hH
            generalize wc.alloc (Obj.cells (eS ⟨p, r, L⟩).toArray 45) = we at *
            refine hKq.out _ _ (by exact ⟨fun q hq => XX.out.block q (by have := LN2.out; omega), XX.out.block G (by have := LN2.out; omega)⟩) (fun _ => ?_)
            clear hKq Kq
            simp only [Act.put, List.getElem_toArray, List.getElem_cons_succ, List.getElem_cons_zero, List.setIfInBounds_toArray, List.set_cons_zero, List.set_cons_succ]
            refine wpAnyH_ready (rs := [8]) (by kernel_rfl) (by simp) ?_
            refine AllReadyH.cons rfl (fun Kq hKq => ?_) AllReadyH.nil
            have OE : Hid (we.ownsRow (S + 1) 45 282 v k ((sgnL m ws bs k).flatMap eS)) := own_keepQ OF.out (by rw [WN2.out]; exact XX.out)
            refine step_appS rfl (.tmp 45) (.tmp 52) rfl (S + 1) k 1 v _ rfl OE.out H 0 1 (eS ⟨p, r, L⟩) rfl (xb_all P8.out) (by rw [eS_len LL.out]) (eS_one _) (by have := HKN.out; have := HN64.out; omega) (by have := XX.out.size; have := WN2.out; have := LN2.out; omega) ?_
            intro A9 c9 w9 hown hg
            have O9 : Hid (w9.ownsRow (S + 1) 45 282 (.slice A9 (k + 1) c9) (k + 1) ((sgnL m ws bs (k + 1)).flatMap eS)) := by show World.ownsRow _ _ _ _ _ _ _; rw [sgnL_succ, HX.out, flat_snoc]; exact hown
            have NS : some S ≠ v.ownBlock := fun e => by have := own_baseQ OE.out _ e.symm; omega
            have SZ : Hid (N2 ≤ we.heap.size) := by show _ ≤ _; have := XX.out.size; have := WN2.out; omega
            have B8 : Hid (Below S w we) := BF.out.trans (XX.out.mono (by have := LN2.out; omega))
            have E9 : Hid (BA w9 S 32 m) := (hg.block S (by have := SZ.out; have := LN2.out; omega) NS).trans ((XX.out.block S (by have := LN2.out; omega)).trans EF.out)
            have Z9 : Hid (S + 1 ≤ w9.heap.size) := by show _ ≤ _; have := hg.size; have := SZ.out; have := LN2.out; omega
            have B9 : Hid (Below S w w9) := B8.out.grown hg (by have := SZ.out; have := LN2.out; omega) (fun q hq => by have := own_baseQ OE.out q hq; omega)
            have T9 : Hid ((∀ q, q < S → w9.heap[q]? = wf.heap[q]?) ∧ w9.heap[G]? = wf.heap[G]?) := ⟨fun q hq => (hg.block q (by have := SZ.out; have := LN2.out; omega) (fun e => by have := own_baseQ OE.out q e.symm; omega)).trans (XX.out.block q (by have := LN2.out; omega)), (hg.block G (by have := SZ.out; have := LN2.out; omega) (fun e => by have := GO.out G e.symm; omega)).trans (XX.out.block G (by have := LN2.out; omega))⟩
            clear hown hg NS
            refine hKq.out _ _ (by exact T9.out) (fun _ => ?_)
            clear hKq Kq
            simp only [Act.put, List.getElem_toArray, List.getElem_cons_succ, List.getElem_cons_zero, List.setIfInBounds_toArray, List.set_cons_zero, List.set_cons_succ]
            refine wpAnyH_take (i := 9) (v := ?_) rfl (by kernel_rfl) (by kernel_rfl) (by kernel_rfl) (fun _ _ _ h => h) (Or.inl ⟨by rfl, ?_⟩) (by assumption) ?_
            rotate_left
            · (intro w hSw; (try dsimp only at hSw); go_simp; try with_reducible rfl)
            simp only [Act.put, List.getElem_toArray, List.getElem_cons_succ, List.getElem_cons_zero, List.setIfInBounds_toArray, List.set_cons_zero, List.set_cons_succ]
            refine wpAnyH_done (by kernel_rfl) ?_ _
            go_wp2
            go_roundw
            case rel => exact ⟨k + 1, A9, c9, by have := HKN.out; omega, by go_num, rfl, O9.out, E9.out, B9.out, Z9.out⟩
            case measure => have := HKN.out; simp [intOf]; omega
        · have HMA : Hid (mAt m bs k = bend m) := mAt_yes HD.out
          obtain ⟨z0, hz0⟩ : ∃ z, m.getD 0 0 = z := ⟨_, rfl⟩
          have HZ0 := Lib.hid hz0
          have cm : v3.cell? ⟨X, 0, none⟩ = some (.int .u8 z0) := by rw [← hz0]; exact ba_cell Ya.out 0 (by rw [HM.out]; decide)
          clear hz0
          have fm : v3.frozen? ⟨X, 0, none⟩ = false := free_of Ya.out 0
          go_wp2_with fail
          obtain ⟨mm, hmm⟩ : ∃ mm, bend m = mm := ⟨_, rfl⟩
          have LMM : Hid (mm.length = 8) := by rw [← hmm]; exact bend_len HM.out
          have BMM : Hid (Byt mm) := by rw [← hmm]; exact byt_bend HB.out
          have YX : Hid (BA (v3.setCell ⟨X, 0, none⟩ (.int .u8 (bits .xor .u8 z0 1))) X 32 mm) := by rw [← hmm, bend_eq HZ0.out]; exact ba_set Ya.out 0 _
          have BQ : Hid (Below S w (v3.setCell ⟨X, 0, none⟩ (.int .u8 (bits .xor .u8 z0 1)))) := BQ3.out.setCell (p := ⟨X, 0, none⟩) (by have := XS.out; show S ≤ X; omega) _
          have EQ : Hid (BA (v3.setCell ⟨X, 0, none⟩ (.int .u8 (bits .xor .u8 z0 1))) S 32 m) := (heap_setCell_other v3 ⟨X, 0, none⟩ S _ (by have := XS.out; show S ≠ X; omega)).trans EQ3.out
          have OW : Hid ((v3.setCell ⟨X, 0, none⟩ (.int .u8 (bits .xor .u8 z0 1))).ownsRow (S + 1) 45 282 v k ((sgnL m ws bs k).flatMap eS)) := own_sameQ OW3.out fun q hq => heap_setCell_other v3 ⟨X, 0, none⟩ q _ (by obtain ⟨cs, hcs⟩ := own_typeQ' OW3.out q hq; exact types_neQ hcs Ya.out (by decide))
          have HMB : Hid (mAt m bs k = mm) := by show _ = _; rw [HMA.out]; exact hmm
          clear Ya BQ3 EQ3 OW3 HMA cm fm cb
          have HMA := HMB
          clear HMB hmm
          generalize v3.setCell ⟨X, 0, none⟩ (.int .u8 (bits .xor .u8 z0 1)) = wB at *
          obtain ⟨N, hN⟩ : ∃ N, wB.heap.size = N := ⟨_, rfl⟩
          have WN : Hid (wB.heap.size = N) := hN
          have LN : Hid (X < N ∧ S < N) := by show _ ∧ _; rw [← hN]; exact ⟨lt_of_block YX.out, lt_of_block EQ.out⟩
          have KN : Hid (∀ w', Below N wB w' → Below S w w') := fun w' hb => BQ.out.trans (hb.mono (by have := LN.out; omega))
          have CW : Hid (∀ w' : World, (∀ q, q < S → w'.heap[q]? = wB.heap[q]?) → w'.cell? ⟨bw, ow + k, none⟩ = some (.int .i64 p)) := fun w' h => cell_keep CP.out fun q hq => (h q (by rw [← HS.out]; exact hq)).trans (BQ.out.block q (by rw [← HS.out]; exact hq))
          have him := inf23 mm LMM.out
          obtain ⟨L, hL⟩ : ∃ L, sigL (seedL p) r mm = L := ⟨_, rfl⟩
          have LL : Hid (L.length = 280) := by rw [← hL]; exact sigL_len _ _ _
          have HX : Hid (sgF m ws bs k = ⟨p, r, L⟩) := sgF_eq HR.out HPP.out (by rw [HMA.out]; exact hL)
          have C21 : Hid (∀ w', Below S w w' → Calls Tryd.prog 21 #[.agg (ba (seedL p)), .int .i64 r, .agg (bvals mm).toArray] w' fun e w'' => e = .returned (.tuple #[.agg (sg r L).toArray, .bool true]) ∧ Below w'.heap.size w' w'') := fun w' hb => by
            have := C21A.out p r mm w' LMM.out BMM.out HR8.out hb
            rw [hL, ba_bvals mm] at this
            exact this
          clear hN hL
          have XX : Hid (Below N wB wB.drew) := (Below.refl _ _).drew
          refine wp_region_held_drew (S := (fun w' : World => ∀ q, q < N → w'.heap[q]? = wB.heap[q]?)) (by kernel_rfl) (by exact fun _ _ => rfl) (fun hHeld => ?_)
          refine wpAnyH_take (i := 0) (v := ?_) rfl (by kernel_rfl) (by kernel_rfl) (by kernel_rfl) (fun _ _ _ h => h) (Or.inl ⟨by rfl, ?_⟩) (by assumption) ?_
          rotate_left
          · (intro w hSw; (try dsimp only at hSw); go_simp; try with_reducible rfl)
          simp only [Act.put, List.getElem_toArray, List.getElem_cons_zero, List.setIfInBounds_toArray, List.set_cons_zero, List.set_cons_succ]
          refine wpAnyH_take (i := 1) (v := ?_) rfl (by kernel_rfl) (by kernel_rfl) (by kernel_rfl) (fun _ _ _ h => h) (Or.inl ⟨by rfl, ?_⟩) (by assumption) ?_
          rotate_left
          · (intro w hSw; (try dsimp only at hSw); go_simp; try with_reducible rfl)
          simp only [Act.put, List.getElem_toArray, List.getElem_cons_succ, List.getElem_cons_zero, List.setIfInBounds_toArray, List.set_cons_zero, List.set_cons_succ]
          refine wpAnyH_take (i := 2) (v := ?_) rfl (by kernel_rfl) (by kernel_rfl) (by kernel_rfl) (fun _ _ _ h => h) (Or.inl ⟨by rfl, ?_⟩) (by assumption) ?_
          rotate_left
          · (intro w hSw; (try dsimp only at hSw); go_simp; try with_reducible rfl)
          simp only [Act.put, List.getElem_toArray, List.getElem_cons_succ, List.getElem_cons_zero, List.setIfInBounds_toArray, List.set_cons_zero, List.set_cons_succ]
          refine wpAnyH_take (i := 3) (v := ?_) rfl (by kernel_rfl) (by kernel_rfl) (by kernel_rfl) (fun _ _ _ h => h) (Or.inl ⟨by rfl, ?_⟩) (by assumption) ?_
          rotate_left
          · (intro w hSw; (try dsimp only at hSw); have cw := CW.out w (fun q hq => hSw q (by have := LN.out; omega)); go_simp; try with_reducible rfl)
          simp only [Act.put, List.getElem_toArray, List.getElem_cons_succ, List.getElem_cons_zero, List.setIfInBounds_toArray, List.set_cons_zero, List.set_cons_succ]
          refine wpAnyH_take (i := 5) (v := ?_) rfl (by kernel_rfl) (by kernel_rfl) (by kernel_rfl) (fun _ _ _ h => h) (Or.inl ⟨by rfl, ?_⟩) (by assumption) ?_
          rotate_left
          · (intro w hSw; (try dsimp only at hSw); go_simp; try with_reducible rfl)
          simp only [Act.put, List.getElem_toArray, List.getElem_cons_succ, List.getElem_cons_zero, List.setIfInBounds_toArray, List.set_cons_zero, List.set_cons_succ]
          refine wpAnyH_take (i := 6) (v := ?_) rfl (by kernel_rfl) (by kernel_rfl) (by kernel_rfl) (fun _ _ _ h => h) (Or.inl ⟨by rfl, ?_⟩) (by assumption) ?_
          rotate_left
          · (intro w hSw; (try dsimp only at hSw); go_simp; try with_reducible rfl)
          simp only [Act.put, List.getElem_toArray, List.getElem_cons_succ, List.getElem_cons_zero, List.setIfInBounds_toArray, List.set_cons_zero, List.set_cons_succ]
          refine wpAnyH_take (i := 7) rfl (by kernel_rfl) (by kernel_rfl) (by kernel_rfl) (fun _ _ _ h => h) (yieldsIf_load_mid (by rfl) 32 (.tmp 9) rfl (X) (0) rfl (bvals mm) _ (fun w h => ba_range (t := 32) ((h _ (by have := LN.out; omega)).trans YX.out)) Tryd.underlying32 rfl him) (by assumption) ?_
          simp only [Act.put, List.getElem_toArray, List.getElem_cons_succ, List.getElem_cons_zero, List.setIfInBounds_toArray, List.set_cons_zero, List.set_cons_succ]
          clear hHeld
          generalize wB.drew = wc at *
          refine wpAnyH_ready (rs := [4, 12]) (by kernel_rfl) (by simp) ?_
          refine AllReadyH.cons rfl (fun Kq hKq => ?_) (AllReadyH.cons rfl (fun Kq hKq => ?_) AllReadyH.nil)
          · go_simp
            go_at_call 20
            refine (C20.out p _).mono ?_
            rintro e wd ⟨rfl, hba⟩
            have XN : Hid (Below N wB wd) := XX.out.trans (hba.mono (by have := XX.out.size; have := WN.out; omega))
            clear XX hba
            have XX := XN
            clear XN
            (try go_wp2_with fail)
            refine hKq.out _ _ (by exact fun q hq => XX.out.block q hq) (fun _ => ?_)
            clear hKq Kq
            (try simp only [Act.put, List.getElem_toArray, List.getElem_cons_succ, List.getElem_cons_zero, List.setIfInBounds_toArray, List.set_cons_zero, List.set_cons_succ])
            refine wpAnyH_ready (rs := [8, 12]) (by kernel_rfl) (by simp) ?_
            refine AllReadyH.cons rfl (fun Kq hKq => ?_) (AllReadyH.cons rfl (fun Kq hKq => ?_) AllReadyH.nil)
            · go_simp
              go_at_call 21
              refine (C21.out _ (KN.out _ XX.out)).mono ?_
              rintro e wd ⟨rfl, hba⟩
              have XN : Hid (Below N wB wd) := XX.out.trans (hba.mono (by have := XX.out.size; have := WN.out; omega))
              clear XX hba
              have XX := XN
              clear XN
              (try go_wp2_with fail)
              refine hKq.out _ _ (by exact fun q hq => XX.out.block q hq) (fun _ => ?_)
              clear hKq Kq
              (try simp only [Act.put, List.getElem_toArray, List.getElem_cons_succ, List.getElem_cons_zero, List.setIfInBounds_toArray, List.set_cons_zero, List.set_cons_succ])
              refine wpAnyH_take (i := 9) (v := ?_) rfl (by kernel_rfl) (by kernel_rfl) (by kernel_rfl) (fun _ _ _ h => h) (Or.inl ⟨by rfl, ?_⟩) (by assumption) ?_
              rotate_left
              · (intro w hSw; (try dsimp only at hSw); go_simp; try with_reducible rfl)
              simp only [Act.put, List.getElem_toArray, List.getElem_cons_succ, List.getElem_cons_zero, List.setIfInBounds_toArray, List.set_cons_zero, List.set_cons_succ]
              refine wpAnyH_take (i := 10) (v := ?_) rfl (by kernel_rfl) (by kernel_rfl) (by kernel_rfl) (fun _ _ _ h => h) (Or.inl ⟨by rfl, ?_⟩) (by assumption) ?_
              rotate_left
              · (intro w hSw; (try dsimp only at hSw); go_simp; try with_reducible rfl)
              simp only [Act.put, List.getElem_toArray, List.getElem_cons_succ, List.getElem_cons_zero, List.setIfInBounds_toArray, List.set_cons_zero, List.set_cons_succ]
              refine wpAnyH_take (i := 11) (v := ?_) rfl (by kernel_rfl) (by kernel_rfl) (by kernel_rfl) (fun _ _ _ h => h) (Or.inl ⟨by rfl, ?_⟩) (by assumption) ?_
              rotate_left
              · (intro w hSw; (try dsimp only at hSw); go_simp; try with_reducible rfl)
              simp only [Act.put, List.getElem_toArray, List.getElem_cons_succ, List.getElem_cons_zero, List.setIfInBounds_toArray, List.set_cons_zero, List.set_cons_succ]
              refine wpAnyH_ready (rs := [12]) (by kernel_rfl) (by simp) ?_
              refine AllReadyH.cons rfl (fun Kq hKq => ?_) AllReadyH.nil
              refine step_alloc43 rfl rfl ?_
              obtain ⟨G, hG⟩ : ∃ G, wd.heap.size = G := ⟨_, rfl⟩
              rw [hG]
              have YG := Lib.hid (sb_new hG 0 (zeros 280))
              have NG : Hid (N ≤ G) := by show _ ≤ _; rw [← hG, ← WN.out]; exact XX.out.size
              have XN : Hid (Below N wB (wd.alloc (Obj.cells (sg 0 (zeros 280)).toArray 43))) := XX.out.alloc (by rw [hG]; exact NG.out) _
              clear XX hG
              have XX := XN
              clear XN
              generalize wd.alloc (Obj.cells (sg 0 (zeros 280)).toArray 43) = we at *
              refine hKq.out _ _ (by exact fun q hq => XX.out.block q hq) (fun _ => ?_)
              clear hKq Kq
              (try simp only [Act.put, List.getElem_toArray, List.getElem_cons_succ, List.getElem_cons_zero, List.setIfInBounds_toArray, List.set_cons_zero, List.set_cons_succ])
              refine wpAnyH_ready (rs := [13]) (by kernel_rfl) (by simp) ?_
              refine AllReadyH.cons rfl (fun Kq hKq => ?_) AllReadyH.nil
              refine step_sig rfl (.tmp 10) (.tmp 43) rfl G 0 r (zeros 280) L rfl rfl YG.out LZ.out LL.out ?_
              have XN : Hid (Below N wB (we.setCells G 0 (sg r L))) := below_setCells NG.out _ _ XX.out
              have YN : Hid (SB (we.setCells G 0 (sg r L)) G r L) := sb_row YG.out (by rw [LZ.out, LL.out])
              clear XX YG
              have XX := XN
              have YG := YN
              clear XN YN
              generalize we.setCells G 0 (sg r L) = wf at *
              refine hKq.out _ _ (by exact fun q hq => XX.out.block q hq) (fun _ => ?_)
              clear hKq Kq
              (try simp only [Act.put, List.getElem_toArray, List.getElem_cons_succ, List.getElem_cons_zero])
              refine wpAnyH_take (i := 14) (v := ?_) rfl (by kernel_rfl) (by kernel_rfl) (by kernel_rfl) (fun _ _ _ h => h) (Or.inl ⟨by rfl, ?_⟩) (by assumption) ?_
              rotate_left
              · (intro w hSw; (try dsimp only at hSw); go_simp; try with_reducible rfl)
              simp only [Act.put, List.getElem_toArray, List.getElem_cons_succ, List.getElem_cons_zero, List.setIfInBounds_toArray, List.set_cons_zero, List.set_cons_succ]
              refine wpAnyH_done (by kernel_rfl) ?_ _
              obtain ⟨N2, hN2⟩ : ∃ N2, wf.heap.size = N2 := ⟨_, rfl⟩
              have WN2 : Hid (wf.heap.size = N2) := hN2
              have LN2 : Hid (G < N2 ∧ S + 1 ≤ N2 ∧ N ≤ N2) := by show _ ∧ _ ∧ _; rw [← hN2]; exact ⟨sb_lt YG.out, by have := XX.out.size; have := WN.out; have := LN.out; omega, by have := XX.out.size; have := WN.out; omega⟩
              have GO : Hid (∀ q, v.ownBlock = some q → q < G) := fun q hq => by
                obtain ⟨cs, hcs⟩ := own_typeQ' OW.out q hq
                have h1 := lt_of_block hcs
                have h2 := WN.out
                have h3 := NG.out
                omega
              have OF : Hid (wf.ownsRow (S + 1) 45 282 v k ((sgnL m ws bs k).flatMap eS)) := own_keepQ OW.out (by rw [WN.out]; exact XX.out)
              have BF : Hid (Below S w wf) := KN.out _ XX.out
              have EF : Hid (BA wf S 32 m) := (XX.out.block _ (by have := LN.out; omega)).trans EQ.out
              have CF : Hid (∀ w' : World, (∀ q, q < S → w'.heap[q]? = wf.heap[q]?) → w'.cell? ⟨bw, ow + k, none⟩ = some (.int .i64 p)) := fun w' h => CW.out w' fun q hq => (h q hq).trans (XX.out.block q (by have := LN.out; omega))
              clear XX hN2
              go_wp2_with fail
              have XX : Hid (Below N2 wf wf.drew) := (Below.refl _ _).drew
              refine wp_region_held_drew (S := (fun w' : World => (∀ q, q < S → w'.heap[q]? = wf.heap[q]?) ∧ w'.heap[G]? = wf.heap[G]?)) (by kernel_rfl) (by exact ⟨fun _ _ => rfl, rfl⟩) (fun hHeld => ?_)
              refine wpAnyH_take (i := 0) (v := ?_) rfl (by kernel_rfl) (by kernel_rfl) (by kernel_rfl) (fun _ _ _ h => h) (Or.inl ⟨by rfl, ?_⟩) (by assumption) ?_
              rotate_left
              · (intro w hSw; (try dsimp only at hSw); go_simp; try with_reducible rfl)
              simp only [Act.put, List.getElem_toArray, List.getElem_cons_zero, List.setIfInBounds_toArray, List.set_cons_zero, List.set_cons_succ]
              refine wpAnyH_take (i := 1) (v := ?_) rfl (by kernel_rfl) (by kernel_rfl) (by kernel_rfl) (fun _ _ _ h => h) (Or.inl ⟨by rfl, ?_⟩) (by assumption) ?_
              rotate_left
              · (intro w hSw; (try dsimp only at hSw); go_simp; try with_reducible rfl)
              simp only [Act.put, List.getElem_toArray, List.getElem_cons_succ, List.getElem_cons_zero, List.setIfInBounds_toArray, List.set_cons_zero, List.set_cons_succ]
              refine wpAnyH_take (i := 2) (v := ?_) rfl (by kernel_rfl) (by kernel_rfl) (by kernel_rfl) (fun _ _ _ h => h) (Or.inl ⟨by rfl, ?_⟩) (by assumption) ?_
              rotate_left
              · (intro w hSw; (try dsimp only at hSw); go_simp; try with_reducible rfl)
              simp only [Act.put, List.getElem_toArray, List.getElem_cons_succ, List.getElem_cons_zero, List.setIfInBounds_toArray, List.set_cons_zero, List.set_cons_succ]
              refine wpAnyH_take (i := 3) (v := ?_) rfl (by kernel_rfl) (by kernel_rfl) (by kernel_rfl) (fun _ _ _ h => h) (Or.inl ⟨by rfl, ?_⟩) (by assumption) ?_
              rotate_left
              · (intro w hSw; (try dsimp only at hSw); go_simp; try with_reducible rfl)
              simp only [Act.put, List.getElem_toArray, List.getElem_cons_succ, List.getElem_cons_zero, List.setIfInBounds_toArray, List.set_cons_zero, List.set_cons_succ]
              refine wpAnyH_take (i := 4) (v := ?_) rfl (by kernel_rfl) (by kernel_rfl) (by kernel_rfl) (fun _ _ _ h => h) (Or.inl ⟨by rfl, ?_⟩) (by assumption) ?_
              rotate_left
              · (intro w hSw; (try dsimp only at hSw); have cw := CF.out w hSw.1; go_simp; try with_reducible rfl)
              simp only [Act.put, List.getElem_toArray, List.getElem_cons_succ, List.getElem_cons_zero, List.setIfInBounds_toArray, List.set_cons_zero, List.set_cons_succ]
              refine wpAnyH_take (i := 5) rfl (by kernel_rfl) (by kernel_rfl) (by kernel_rfl) (fun _ _ _ h => h) (yieldsIf_load_mid (by rfl) 43 (.tmp 10) rfl (G) (0) rfl (sg (r) L) _ (fun w h => sb_all (L := L) (h.2.trans YG.out)) Tryd.underlying43 rfl (sg_info _ _ LL.out)) (by assumption) ?_
              simp only [Act.put, List.getElem_toArray, List.getElem_cons_succ, List.getElem_cons_zero, List.setIfInBounds_toArray, List.set_cons_zero, List.set_cons_succ]
              clear hHeld
              generalize wf.drew = wc at *
              refine wpAnyH_ready (rs := [6]) (by kernel_rfl) (by simp) ?_
              refine AllReadyH.cons rfl (fun Kq hKq => ?_) AllReadyH.nil
              refine step_b45 rfl (.tmp 49) (.tmp 50) rfl p r L LL.out rfl rfl ?_
              refine hKq.out _ _ (by exact ⟨fun q hq => XX.out.block q (by have := LN2.out; omega), XX.out.block G (by have := LN2.out; omega)⟩) (fun _ => ?_)
              clear hKq Kq
              simp only [Act.put, List.getElem_toArray, List.getElem_cons_succ, List.getElem_cons_zero, List.setIfInBounds_toArray, List.set_cons_zero, List.set_cons_succ]
              refine wpAnyH_ready (rs := [7]) (by kernel_rfl) (by simp) ?_
              refine AllReadyH.cons rfl (fun Kq hKq => ?_) AllReadyH.nil
              obtain ⟨H, hH⟩ : ∃ H, wc.heap.size = H := ⟨_, rfl⟩
              refine step_bs45 rfl (.tmp 51) rfl ⟨p, r, L⟩ LL.out rfl ?_
              rw [hH]
              have P8 := Lib.hid (xb_new hH ⟨p, r, L⟩)
              have MG : Hid (N2 ≤ H) := by show _ ≤ _; rw [← hH, ← WN2.out]; exact XX.out.size
              have XN : Hid (Below N2 wf (wc.alloc (Obj.cells (eS ⟨p, r, L⟩).toArray 45))) := XX.out.alloc (by rw [hH]; exact MG.out) _
              clear XX
              have XX := XN
              clear XN hH
              generalize wc.alloc (Obj.cells (eS ⟨p, r, L⟩).toArray 45) = we at *
              refine hKq.out _ _ (by exact ⟨fun q hq => XX.out.block q (by have := LN2.out; omega), XX.out.block G (by have := LN2.out; omega)⟩) (fun _ => ?_)
              clear hKq Kq
              simp only [Act.put, List.getElem_toArray, List.getElem_cons_succ, List.getElem_cons_zero, List.setIfInBounds_toArray, List.set_cons_zero, List.set_cons_succ]
              refine wpAnyH_ready (rs := [8]) (by kernel_rfl) (by simp) ?_
              refine AllReadyH.cons rfl (fun Kq hKq => ?_) AllReadyH.nil
              have OE : Hid (we.ownsRow (S + 1) 45 282 v k ((sgnL m ws bs k).flatMap eS)) := own_keepQ OF.out (by rw [WN2.out]; exact XX.out)
              refine step_appS rfl (.tmp 45) (.tmp 52) rfl (S + 1) k 1 v _ rfl OE.out H 0 1 (eS ⟨p, r, L⟩) rfl (xb_all P8.out) (by rw [eS_len LL.out]) (eS_one _) (by have := HKN.out; have := HN64.out; omega) (by have := XX.out.size; have := WN2.out; have := LN2.out; omega) ?_
              intro A9 c9 w9 hown hg
              have O9 : Hid (w9.ownsRow (S + 1) 45 282 (.slice A9 (k + 1) c9) (k + 1) ((sgnL m ws bs (k + 1)).flatMap eS)) := by show World.ownsRow _ _ _ _ _ _ _; rw [sgnL_succ, HX.out, flat_snoc]; exact hown
              have NS : some S ≠ v.ownBlock := fun e => by have := own_baseQ OE.out _ e.symm; omega
              have SZ : Hid (N2 ≤ we.heap.size) := by show _ ≤ _; have := XX.out.size; have := WN2.out; omega
              have B8 : Hid (Below S w we) := BF.out.trans (XX.out.mono (by have := LN2.out; omega))
              have E9 : Hid (BA w9 S 32 m) := (hg.block S (by have := SZ.out; have := LN2.out; omega) NS).trans ((XX.out.block S (by have := LN2.out; omega)).trans EF.out)
              have Z9 : Hid (S + 1 ≤ w9.heap.size) := by show _ ≤ _; have := hg.size; have := SZ.out; have := LN2.out; omega
              have B9 : Hid (Below S w w9) := B8.out.grown hg (by have := SZ.out; have := LN2.out; omega) (fun q hq => by have := own_baseQ OE.out q hq; omega)
              have T9 : Hid ((∀ q, q < S → w9.heap[q]? = wf.heap[q]?) ∧ w9.heap[G]? = wf.heap[G]?) := ⟨fun q hq => (hg.block q (by have := SZ.out; have := LN2.out; omega) (fun e => by have := own_baseQ OE.out q e.symm; omega)).trans (XX.out.block q (by have := LN2.out; omega)), (hg.block G (by have := SZ.out; have := LN2.out; omega) (fun e => by have := GO.out G e.symm; omega)).trans (XX.out.block G (by have := LN2.out; omega))⟩
              clear hown hg NS
              refine hKq.out _ _ (by exact T9.out) (fun _ => ?_)
              clear hKq Kq
              simp only [Act.put, List.getElem_toArray, List.getElem_cons_succ, List.getElem_cons_zero, List.setIfInBounds_toArray, List.set_cons_zero, List.set_cons_succ]
              refine wpAnyH_take (i := 9) (v := ?_) rfl (by kernel_rfl) (by kernel_rfl) (by kernel_rfl) (fun _ _ _ h => h) (Or.inl ⟨by rfl, ?_⟩) (by assumption) ?_
              rotate_left
              · (intro w hSw; (try dsimp only at hSw); go_simp; try with_reducible rfl)
              simp only [Act.put, List.getElem_toArray, List.getElem_cons_succ, List.getElem_cons_zero, List.setIfInBounds_toArray, List.set_cons_zero, List.set_cons_succ]
              refine wpAnyH_done (by kernel_rfl) ?_ _
              go_wp2
              go_roundw
              case rel => exact ⟨k + 1, A9, c9, by have := HKN.out; omega, by go_num, rfl, O9.out, E9.out, B9.out, Z9.out⟩
              case measure => have := HKN.out; simp [intOf]; omega
            · refine step_alloc43 rfl rfl ?_
              obtain ⟨G, hG⟩ : ∃ G, wd.heap.size = G := ⟨_, rfl⟩
              rw [hG]
              have YG := Lib.hid (sb_new hG 0 (zeros 280))
              have NG : Hid (N ≤ G) := by show _ ≤ _; rw [← hG, ← WN.out]; exact XX.out.size
              have XN : Hid (Below N wB (wd.alloc (Obj.cells (sg 0 (zeros 280)).toArray 43))) := XX.out.alloc (by rw [hG]; exact NG.out) _
              clear XX hG
              have XX := XN
              clear XN
              generalize wd.alloc (Obj.cells (sg 0 (zeros 280)).toArray 43) = we at *
              refine hKq.out _ _ (by exact fun q hq => XX.out.block q hq) (fun _ => ?_)
              clear hKq Kq
              (try simp only [Act.put, List.getElem_toArray, List.getElem_cons_succ, List.getElem_cons_zero, List.setIfInBounds_toArray, List.set_cons_zero, List.set_cons_succ])
              refine wpAnyH_ready (rs := [8]) (by kernel_rfl) (by simp) ?_
              refine AllReadyH.cons rfl (fun Kq hKq => ?_) AllReadyH.nil
              go_simp
              go_at_call 21
              refine (C21.out _ (KN.out _ XX.out)).mono ?_
              rintro e wd ⟨rfl, hba⟩
              have XN : Hid (Below N wB wd) := XX.out.trans (hba.mono (by have := XX.out.size; have := WN.out; omega))
              have YN : Hid (SB wd G 0 (zeros 280)) := (hba.block _ (sb_lt YG.out)).trans YG.out
              clear YG
              have YG := YN
              clear YN
              clear XX hba
              have XX := XN
              clear XN
              (try go_wp2_with fail)
              refine hKq.out _ _ (by exact fun q hq => XX.out.block q hq) (fun _ => ?_)
              clear hKq Kq
              (try simp only [Act.put, List.getElem_toArray, List.getElem_cons_succ, List.getElem_cons_zero, List.setIfInBounds_toArray, List.set_cons_zero, List.set_cons_succ])
              refine wpAnyH_take (i := 9) (v := ?_) rfl (by kernel_rfl) (by kernel_rfl) (by kernel_rfl) (fun _ _ _ h => h) (Or.inl ⟨by rfl, ?_⟩) (by assumption) ?_
              rotate_left
              · (intro w hSw; (try dsimp only at hSw); go_simp; try with_reducible rfl)
              simp only [Act.put, List.getElem_toArray, List.getElem_cons_succ, List.getElem_cons_zero, List.setIfInBounds_toArray, List.set_cons_zero, List.set_cons_succ]
              refine wpAnyH_take (i := 10) (v := ?_) rfl (by kernel_rfl) (by kernel_rfl) (by kernel_rfl) (fun _ _ _ h => h) (Or.inl ⟨by rfl, ?_⟩) (by assumption) ?_
              rotate_left
              · (intro w hSw; (try dsimp only at hSw); go_simp; try with_reducible rfl)
              simp only [Act.put, List.getElem_toArray, List.getElem_cons_succ, List.getElem_cons_zero, List.setIfInBounds_toArray, List.set_cons_zero, List.set_cons_succ]
              refine wpAnyH_take (i := 11) (v := ?_) rfl (by kernel_rfl) (by kernel_rfl) (by kernel_rfl) (fun _ _ _ h => h) (Or.inl ⟨by rfl, ?_⟩) (by assumption) ?_
              rotate_left
              · (intro w hSw; (try dsimp only at hSw); go_simp; try with_reducible rfl)
              simp only [Act.put, List.getElem_toArray, List.getElem_cons_succ, List.getElem_cons_zero, List.setIfInBounds_toArray, List.set_cons_zero, List.set_cons_succ]
              refine wpAnyH_ready (rs := [13]) (by kernel_rfl) (by simp) ?_
              refine AllReadyH.cons rfl (fun Kq hKq => ?_) AllReadyH.nil
              refine step_sig rfl (.tmp 10) (.tmp 43) rfl G 0 r (zeros 280) L rfl rfl YG.out LZ.out LL.out ?_
              have XN : Hid (Below N wB (wd.setCells G 0 (sg r L))) := below_setCells NG.out _ _ XX.out
              have YN : Hid (SB (wd.setCells G 0 (sg r L)) G r L) := sb_row YG.out (by rw [LZ.out, LL.out])
              clear XX YG
              have XX := XN
              have YG := YN
              clear XN YN
              generalize wd.setCells G 0 (sg r L) = wf at *
              refine hKq.out _ _ (by exact fun q hq => XX.out.block q hq) (fun _ => ?_)
              clear hKq Kq
              (try simp only [Act.put, List.getElem_toArray, List.getElem_cons_succ, List.getElem_cons_zero])
              refine wpAnyH_take (i := 14) (v := ?_) rfl (by kernel_rfl) (by kernel_rfl) (by kernel_rfl) (fun _ _ _ h => h) (Or.inl ⟨by rfl, ?_⟩) (by assumption) ?_
              rotate_left
              · (intro w hSw; (try dsimp only at hSw); go_simp; try with_reducible rfl)
              simp only [Act.put, List.getElem_toArray, List.getElem_cons_succ, List.getElem_cons_zero, List.setIfInBounds_toArray, List.set_cons_zero, List.set_cons_succ]
              refine wpAnyH_done (by kernel_rfl) ?_ _
              obtain ⟨N2, hN2⟩ : ∃ N2, wf.heap.size = N2 := ⟨_, rfl⟩
              have WN2 : Hid (wf.heap.size = N2) := hN2
              have LN2 : Hid (G < N2 ∧ S + 1 ≤ N2 ∧ N ≤ N2) := by show _ ∧ _ ∧ _; rw [← hN2]; exact ⟨sb_lt YG.out, by have := XX.out.size; have := WN.out; have := LN.out; omega, by have := XX.out.size; have := WN.out; omega⟩
              have GO : Hid (∀ q, v.ownBlock = some q → q < G) := fun q hq => by
                obtain ⟨cs, hcs⟩ := own_typeQ' OW.out q hq
                have h1 := lt_of_block hcs
                have h2 := WN.out
                have h3 := NG.out
                omega
              have OF : Hid (wf.ownsRow (S + 1) 45 282 v k ((sgnL m ws bs k).flatMap eS)) := own_keepQ OW.out (by rw [WN.out]; exact XX.out)
              have BF : Hid (Below S w wf) := KN.out _ XX.out
              have EF : Hid (BA wf S 32 m) := (XX.out.block _ (by have := LN.out; omega)).trans EQ.out
              have CF : Hid (∀ w' : World, (∀ q, q < S → w'.heap[q]? = wf.heap[q]?) → w'.cell? ⟨bw, ow + k, none⟩ = some (.int .i64 p)) := fun w' h => CW.out w' fun q hq => (h q hq).trans (XX.out.block q (by have := LN.out; omega))
              clear XX hN2
              go_wp2_with fail
              have XX : Hid (Below N2 wf wf.drew) := (Below.refl _ _).drew
              refine wp_region_held_drew (S := (fun w' : World => (∀ q, q < S → w'.heap[q]? = wf.heap[q]?) ∧ w'.heap[G]? = wf.heap[G]?)) (by kernel_rfl) (by exact ⟨fun _ _ => rfl, rfl⟩) (fun hHeld => ?_)
              refine wpAnyH_take (i := 0) (v := ?_) rfl (by kernel_rfl) (by kernel_rfl) (by kernel_rfl) (fun _ _ _ h => h) (Or.inl ⟨by rfl, ?_⟩) (by assumption) ?_
              rotate_left
              · (intro w hSw; (try dsimp only at hSw); go_simp; try with_reducible rfl)
              simp only [Act.put, List.getElem_toArray, List.getElem_cons_zero, List.setIfInBounds_toArray, List.set_cons_zero, List.set_cons_succ]
              refine wpAnyH_take (i := 1) (v := ?_) rfl (by kernel_rfl) (by kernel_rfl) (by kernel_rfl) (fun _ _ _ h => h) (Or.inl ⟨by rfl, ?_⟩) (by assumption) ?_
              rotate_left
              · (intro w hSw; (try dsimp only at hSw); go_simp; try with_reducible rfl)
              simp only [Act.put, List.getElem_toArray, List.getElem_cons_succ, List.getElem_cons_zero, List.setIfInBounds_toArray, List.set_cons_zero, List.set_cons_succ]
              refine wpAnyH_take (i := 2) (v := ?_) rfl (by kernel_rfl) (by kernel_rfl) (by kernel_rfl) (fun _ _ _ h => h) (Or.inl ⟨by rfl, ?_⟩) (by assumption) ?_
              rotate_left
              · (intro w hSw; (try dsimp only at hSw); go_simp; try with_reducible rfl)
              simp only [Act.put, List.getElem_toArray, List.getElem_cons_succ, List.getElem_cons_zero, List.setIfInBounds_toArray, List.set_cons_zero, List.set_cons_succ]
              refine wpAnyH_take (i := 3) (v := ?_) rfl (by kernel_rfl) (by kernel_rfl) (by kernel_rfl) (fun _ _ _ h => h) (Or.inl ⟨by rfl, ?_⟩) (by assumption) ?_
              rotate_left
              · (intro w hSw; (try dsimp only at hSw); go_simp; try with_reducible rfl)
              simp only [Act.put, List.getElem_toArray, List.getElem_cons_succ, List.getElem_cons_zero, List.setIfInBounds_toArray, List.set_cons_zero, List.set_cons_succ]
              refine wpAnyH_take (i := 4) (v := ?_) rfl (by kernel_rfl) (by kernel_rfl) (by kernel_rfl) (fun _ _ _ h => h) (Or.inl ⟨by rfl, ?_⟩) (by assumption) ?_
              rotate_left
              · (intro w hSw; (try dsimp only at hSw); have cw := CF.out w hSw.1; go_simp; try with_reducible rfl)
              simp only [Act.put, List.getElem_toArray, List.getElem_cons_succ, List.getElem_cons_zero, List.setIfInBounds_toArray, List.set_cons_zero, List.set_cons_succ]
              refine wpAnyH_take (i := 5) rfl (by kernel_rfl) (by kernel_rfl) (by kernel_rfl) (fun _ _ _ h => h) (yieldsIf_load_mid (by rfl) 43 (.tmp 10) rfl (G) (0) rfl (sg (r) L) _ (fun w h => sb_all (L := L) (h.2.trans YG.out)) Tryd.underlying43 rfl (sg_info _ _ LL.out)) (by assumption) ?_
              simp only [Act.put, List.getElem_toArray, List.getElem_cons_succ, List.getElem_cons_zero, List.setIfInBounds_toArray, List.set_cons_zero, List.set_cons_succ]
              clear hHeld
              generalize wf.drew = wc at *
              refine wpAnyH_ready (rs := [6]) (by kernel_rfl) (by simp) ?_
              refine AllReadyH.cons rfl (fun Kq hKq => ?_) AllReadyH.nil
              refine step_b45 rfl (.tmp 49) (.tmp 50) rfl p r L LL.out rfl rfl ?_
              refine hKq.out _ _ (by exact ⟨fun q hq => XX.out.block q (by have := LN2.out; omega), XX.out.block G (by have := LN2.out; omega)⟩) (fun _ => ?_)
              clear hKq Kq
              simp only [Act.put, List.getElem_toArray, List.getElem_cons_succ, List.getElem_cons_zero, List.setIfInBounds_toArray, List.set_cons_zero, List.set_cons_succ]
              refine wpAnyH_ready (rs := [7]) (by kernel_rfl) (by simp) ?_
              refine AllReadyH.cons rfl (fun Kq hKq => ?_) AllReadyH.nil
              obtain ⟨H, hH⟩ : ∃ H, wc.heap.size = H := ⟨_, rfl⟩
              refine step_bs45 rfl (.tmp 51) rfl ⟨p, r, L⟩ LL.out rfl ?_
              rw [hH]
              have P8 := Lib.hid (xb_new hH ⟨p, r, L⟩)
              have MG : Hid (N2 ≤ H) := by show _ ≤ _; rw [← hH, ← WN2.out]; exact XX.out.size
              have XN : Hid (Below N2 wf (wc.alloc (Obj.cells (eS ⟨p, r, L⟩).toArray 45))) := XX.out.alloc (by rw [hH]; exact MG.out) _
              clear XX
              have XX := XN
              clear XN hH
              generalize wc.alloc (Obj.cells (eS ⟨p, r, L⟩).toArray 45) = we at *
              refine hKq.out _ _ (by exact ⟨fun q hq => XX.out.block q (by have := LN2.out; omega), XX.out.block G (by have := LN2.out; omega)⟩) (fun _ => ?_)
              clear hKq Kq
              simp only [Act.put, List.getElem_toArray, List.getElem_cons_succ, List.getElem_cons_zero, List.setIfInBounds_toArray, List.set_cons_zero, List.set_cons_succ]
              refine wpAnyH_ready (rs := [8]) (by kernel_rfl) (by simp) ?_
              refine AllReadyH.cons rfl (fun Kq hKq => ?_) AllReadyH.nil
              have OE : Hid (we.ownsRow (S + 1) 45 282 v k ((sgnL m ws bs k).flatMap eS)) := own_keepQ OF.out (by rw [WN2.out]; exact XX.out)
              refine step_appS rfl (.tmp 45) (.tmp 52) rfl (S + 1) k 1 v _ rfl OE.out H 0 1 (eS ⟨p, r, L⟩) rfl (xb_all P8.out) (by rw [eS_len LL.out]) (eS_one _) (by have := HKN.out; have := HN64.out; omega) (by have := XX.out.size; have := WN2.out; have := LN2.out; omega) ?_
              intro A9 c9 w9 hown hg
              have O9 : Hid (w9.ownsRow (S + 1) 45 282 (.slice A9 (k + 1) c9) (k + 1) ((sgnL m ws bs (k + 1)).flatMap eS)) := by show World.ownsRow _ _ _ _ _ _ _; rw [sgnL_succ, HX.out, flat_snoc]; exact hown
              have NS : some S ≠ v.ownBlock := fun e => by have := own_baseQ OE.out _ e.symm; omega
              have SZ : Hid (N2 ≤ we.heap.size) := by show _ ≤ _; have := XX.out.size; have := WN2.out; omega
              have B8 : Hid (Below S w we) := BF.out.trans (XX.out.mono (by have := LN2.out; omega))
              have E9 : Hid (BA w9 S 32 m) := (hg.block S (by have := SZ.out; have := LN2.out; omega) NS).trans ((XX.out.block S (by have := LN2.out; omega)).trans EF.out)
              have Z9 : Hid (S + 1 ≤ w9.heap.size) := by show _ ≤ _; have := hg.size; have := SZ.out; have := LN2.out; omega
              have B9 : Hid (Below S w w9) := B8.out.grown hg (by have := SZ.out; have := LN2.out; omega) (fun q hq => by have := own_baseQ OE.out q hq; omega)
              have T9 : Hid ((∀ q, q < S → w9.heap[q]? = wf.heap[q]?) ∧ w9.heap[G]? = wf.heap[G]?) := ⟨fun q hq => (hg.block q (by have := SZ.out; have := LN2.out; omega) (fun e => by have := own_baseQ OE.out q e.symm; omega)).trans (XX.out.block q (by have := LN2.out; omega)), (hg.block G (by have := SZ.out; have := LN2.out; omega) (fun e => by have := GO.out G e.symm; omega)).trans (XX.out.block G (by have := LN2.out; omega))⟩
              clear hown hg NS
              refine hKq.out _ _ (by exact T9.out) (fun _ => ?_)
              clear hKq Kq
              simp only [Act.put, List.getElem_toArray, List.getElem_cons_succ, List.getElem_cons_zero, List.setIfInBounds_toArray, List.set_cons_zero, List.set_cons_succ]
              refine wpAnyH_take (i := 9) (v := ?_) rfl (by kernel_rfl) (by kernel_rfl) (by kernel_rfl) (fun _ _ _ h => h) (Or.inl ⟨by rfl, ?_⟩) (by assumption) ?_
              rotate_left
              · (intro w hSw; (try dsimp only at hSw); go_simp; try with_reducible rfl)
              simp only [Act.put, List.getElem_toArray, List.getElem_cons_succ, List.getElem_cons_zero, List.setIfInBounds_toArray, List.set_cons_zero, List.set_cons_succ]
              refine wpAnyH_done (by kernel_rfl) ?_ _
              go_wp2
              go_roundw
              case rel => exact ⟨k + 1, A9, c9, by have := HKN.out; omega, by go_num, rfl, O9.out, E9.out, B9.out, Z9.out⟩
              case measure => have := HKN.out; simp [intOf]; omega
          · refine step_alloc43 rfl rfl ?_
            obtain ⟨G, hG⟩ : ∃ G, wc.heap.size = G := ⟨_, rfl⟩
            rw [hG]
            have YG := Lib.hid (sb_new hG 0 (zeros 280))
            have NG : Hid (N ≤ G) := by show _ ≤ _; rw [← hG, ← WN.out]; exact XX.out.size
            have XN : Hid (Below N wB (wc.alloc (Obj.cells (sg 0 (zeros 280)).toArray 43))) := XX.out.alloc (by rw [hG]; exact NG.out) _
            clear XX hG
            have XX := XN
            clear XN
            generalize wc.alloc (Obj.cells (sg 0 (zeros 280)).toArray 43) = we at *
            refine hKq.out _ _ (by exact fun q hq => XX.out.block q hq) (fun _ => ?_)
            clear hKq Kq
            (try simp only [Act.put, List.getElem_toArray, List.getElem_cons_succ, List.getElem_cons_zero, List.setIfInBounds_toArray, List.set_cons_zero, List.set_cons_succ])
            refine wpAnyH_ready (rs := [4]) (by kernel_rfl) (by simp) ?_
            refine AllReadyH.cons rfl (fun Kq hKq => ?_) AllReadyH.nil
            go_simp
            go_at_call 20
            refine (C20.out p _).mono ?_
            rintro e wd ⟨rfl, hba⟩
            have XN : Hid (Below N wB wd) := XX.out.trans (hba.mono (by have := XX.out.size; have := WN.out; omega))
            have YN : Hid (SB wd G 0 (zeros 280)) := (hba.block _ (sb_lt YG.out)).trans YG.out
            clear YG
            have YG := YN
            clear YN
            clear XX hba
            have XX := XN
            clear XN
            (try go_wp2_with fail)
            refine hKq.out _ _ (by exact fun q hq => XX.out.block q hq) (fun _ => ?_)
            clear hKq Kq
            (try simp only [Act.put, List.getElem_toArray, List.getElem_cons_succ, List.getElem_cons_zero, List.setIfInBounds_toArray, List.set_cons_zero, List.set_cons_succ])
            refine wpAnyH_ready (rs := [8]) (by kernel_rfl) (by simp) ?_
            refine AllReadyH.cons rfl (fun Kq hKq => ?_) AllReadyH.nil
            go_simp
            go_at_call 21
            refine (C21.out _ (KN.out _ XX.out)).mono ?_
            rintro e wd ⟨rfl, hba⟩
            have XN : Hid (Below N wB wd) := XX.out.trans (hba.mono (by have := XX.out.size; have := WN.out; omega))
            have YN : Hid (SB wd G 0 (zeros 280)) := (hba.block _ (sb_lt YG.out)).trans YG.out
            clear YG
            have YG := YN
            clear YN
            clear XX hba
            have XX := XN
            clear XN
            (try go_wp2_with fail)
            refine hKq.out _ _ (by exact fun q hq => XX.out.block q hq) (fun _ => ?_)
            clear hKq Kq
            (try simp only [Act.put, List.getElem_toArray, List.getElem_cons_succ, List.getElem_cons_zero, List.setIfInBounds_toArray, List.set_cons_zero, List.set_cons_succ])
            refine wpAnyH_take (i := 9) (v := ?_) rfl (by kernel_rfl) (by kernel_rfl) (by kernel_rfl) (fun _ _ _ h => h) (Or.inl ⟨by rfl, ?_⟩) (by assumption) ?_
            rotate_left
            · (intro w hSw; (try dsimp only at hSw); go_simp; try with_reducible rfl)
            simp only [Act.put, List.getElem_toArray, List.getElem_cons_succ, List.getElem_cons_zero, List.setIfInBounds_toArray, List.set_cons_zero, List.set_cons_succ]
            refine wpAnyH_take (i := 10) (v := ?_) rfl (by kernel_rfl) (by kernel_rfl) (by kernel_rfl) (fun _ _ _ h => h) (Or.inl ⟨by rfl, ?_⟩) (by assumption) ?_
            rotate_left
            · (intro w hSw; (try dsimp only at hSw); go_simp; try with_reducible rfl)
            simp only [Act.put, List.getElem_toArray, List.getElem_cons_succ, List.getElem_cons_zero, List.setIfInBounds_toArray, List.set_cons_zero, List.set_cons_succ]
            refine wpAnyH_take (i := 11) (v := ?_) rfl (by kernel_rfl) (by kernel_rfl) (by kernel_rfl) (fun _ _ _ h => h) (Or.inl ⟨by rfl, ?_⟩) (by assumption) ?_
            rotate_left
            · (intro w hSw; (try dsimp only at hSw); go_simp; try with_reducible rfl)
            simp only [Act.put, List.getElem_toArray, List.getElem_cons_succ, List.getElem_cons_zero, List.setIfInBounds_toArray, List.set_cons_zero, List.set_cons_succ]
            refine wpAnyH_ready (rs := [13]) (by kernel_rfl) (by simp) ?_
            refine AllReadyH.cons rfl (fun Kq hKq => ?_) AllReadyH.nil
            refine step_sig rfl (.tmp 10) (.tmp 43) rfl G 0 r (zeros 280) L rfl rfl YG.out LZ.out LL.out ?_
            have XN : Hid (Below N wB (wd.setCells G 0 (sg r L))) := below_setCells NG.out _ _ XX.out
            have YN : Hid (SB (wd.setCells G 0 (sg r L)) G r L) := sb_row YG.out (by rw [LZ.out, LL.out])
            clear XX YG
            have XX := XN
            have YG := YN
            clear XN YN
            generalize wd.setCells G 0 (sg r L) = wf at *
            refine hKq.out _ _ (by exact fun q hq => XX.out.block q hq) (fun _ => ?_)
            clear hKq Kq
            (try simp only [Act.put, List.getElem_toArray, List.getElem_cons_succ, List.getElem_cons_zero])
            refine wpAnyH_take (i := 14) (v := ?_) rfl (by kernel_rfl) (by kernel_rfl) (by kernel_rfl) (fun _ _ _ h => h) (Or.inl ⟨by rfl, ?_⟩) (by assumption) ?_
            rotate_left
            · (intro w hSw; (try dsimp only at hSw); go_simp; try with_reducible rfl)
            simp only [Act.put, List.getElem_toArray, List.getElem_cons_succ, List.getElem_cons_zero, List.setIfInBounds_toArray, List.set_cons_zero, List.set_cons_succ]
            refine wpAnyH_done (by kernel_rfl) ?_ _
            obtain ⟨N2, hN2⟩ : ∃ N2, wf.heap.size = N2 := ⟨_, rfl⟩
            have WN2 : Hid (wf.heap.size = N2) := hN2
            have LN2 : Hid (G < N2 ∧ S + 1 ≤ N2 ∧ N ≤ N2) := by show _ ∧ _ ∧ _; rw [← hN2]; exact ⟨sb_lt YG.out, by have := XX.out.size; have := WN.out; have := LN.out; omega, by have := XX.out.size; have := WN.out; omega⟩
            have GO : Hid (∀ q, v.ownBlock = some q → q < G) := fun q hq => by
              obtain ⟨cs, hcs⟩ := own_typeQ' OW.out q hq
              have h1 := lt_of_block hcs
              have h2 := WN.out
              have h3 := NG.out
              omega
            have OF : Hid (wf.ownsRow (S + 1) 45 282 v k ((sgnL m ws bs k).flatMap eS)) := own_keepQ OW.out (by rw [WN.out]; exact XX.out)
            have BF : Hid (Below S w wf) := KN.out _ XX.out
            have EF : Hid (BA wf S 32 m) := (XX.out.block _ (by have := LN.out; omega)).trans EQ.out
            have CF : Hid (∀ w' : World, (∀ q, q < S → w'.heap[q]? = wf.heap[q]?) → w'.cell? ⟨bw, ow + k, none⟩ = some (.int .i64 p)) := fun w' h => CW.out w' fun q hq => (h q hq).trans (XX.out.block q (by have := LN.out; omega))
            clear XX hN2
            go_wp2_with fail
            have XX : Hid (Below N2 wf wf.drew) := (Below.refl _ _).drew
            refine wp_region_held_drew (S := (fun w' : World => (∀ q, q < S → w'.heap[q]? = wf.heap[q]?) ∧ w'.heap[G]? = wf.heap[G]?)) (by kernel_rfl) (by exact ⟨fun _ _ => rfl, rfl⟩) (fun hHeld => ?_)
            refine wpAnyH_take (i := 0) (v := ?_) rfl (by kernel_rfl) (by kernel_rfl) (by kernel_rfl) (fun _ _ _ h => h) (Or.inl ⟨by rfl, ?_⟩) (by assumption) ?_
            rotate_left
            · (intro w hSw; (try dsimp only at hSw); go_simp; try with_reducible rfl)
            simp only [Act.put, List.getElem_toArray, List.getElem_cons_zero, List.setIfInBounds_toArray, List.set_cons_zero, List.set_cons_succ]
            refine wpAnyH_take (i := 1) (v := ?_) rfl (by kernel_rfl) (by kernel_rfl) (by kernel_rfl) (fun _ _ _ h => h) (Or.inl ⟨by rfl, ?_⟩) (by assumption) ?_
            rotate_left
            · (intro w hSw; (try dsimp only at hSw); go_simp; try with_reducible rfl)
            simp only [Act.put, List.getElem_toArray, List.getElem_cons_succ, List.getElem_cons_zero, List.setIfInBounds_toArray, List.set_cons_zero, List.set_cons_succ]
            refine wpAnyH_take (i := 2) (v := ?_) rfl (by kernel_rfl) (by kernel_rfl) (by kernel_rfl) (fun _ _ _ h => h) (Or.inl ⟨by rfl, ?_⟩) (by assumption) ?_
            rotate_left
            · (intro w hSw; (try dsimp only at hSw); go_simp; try with_reducible rfl)
            simp only [Act.put, List.getElem_toArray, List.getElem_cons_succ, List.getElem_cons_zero, List.setIfInBounds_toArray, List.set_cons_zero, List.set_cons_succ]
            refine wpAnyH_take (i := 3) (v := ?_) rfl (by kernel_rfl) (by kernel_rfl) (by kernel_rfl) (fun _ _ _ h => h) (Or.inl ⟨by rfl, ?_⟩) (by assumption) ?_
            rotate_left
            · (intro w hSw; (try dsimp only at hSw); go_simp; try with_reducible rfl)
            simp only [Act.put, List.getElem_toArray, List.getElem_cons_succ, List.getElem_cons_zero, List.setIfInBounds_toArray, List.set_cons_zero, List.set_cons_succ]
            refine wpAnyH_take (i := 4) (v := ?_) rfl (by kernel_rfl) (by kernel_rfl) (by kernel_rfl) (fun _ _ _ h => h) (Or.inl ⟨by rfl, ?_⟩) (by assumption) ?_
            rotate_left
            · (intro w hSw; (try dsimp only at hSw); have cw := CF.out w hSw.1; go_simp; try with_reducible rfl)
            simp only [Act.put, List.getElem_toArray, List.getElem_cons_succ, List.getElem_cons_zero, List.setIfInBounds_toArray, List.set_cons_zero, List.set_cons_succ]
            refine wpAnyH_take (i := 5) rfl (by kernel_rfl) (by kernel_rfl) (by kernel_rfl) (fun _ _ _ h => h) (yieldsIf_load_mid (by rfl) 43 (.tmp 10) rfl (G) (0) rfl (sg (r) L) _ (fun w h => sb_all (L := L) (h.2.trans YG.out)) Tryd.underlying43 rfl (sg_info _ _ LL.out)) (by assumption) ?_
            simp only [Act.put, List.getElem_toArray, List.getElem_cons_succ, List.getElem_cons_zero, List.setIfInBounds_toArray, List.set_cons_zero, List.set_cons_succ]
            clear hHeld
            generalize wf.drew = wc at *
            refine wpAnyH_ready (rs := [6]) (by kernel_rfl) (by simp) ?_
            refine AllReadyH.cons rfl (fun Kq hKq => ?_) AllReadyH.nil
            refine step_b45 rfl (.tmp 49) (.tmp 50) rfl p r L LL.out rfl rfl ?_
            refine hKq.out _ _ (by exact ⟨fun q hq => XX.out.block q (by have := LN2.out; omega), XX.out.block G (by have := LN2.out; omega)⟩) (fun _ => ?_)
            clear hKq Kq
            simp only [Act.put, List.getElem_toArray, List.getElem_cons_succ, List.getElem_cons_zero, List.setIfInBounds_toArray, List.set_cons_zero, List.set_cons_succ]
            refine wpAnyH_ready (rs := [7]) (by kernel_rfl) (by simp) ?_
            refine AllReadyH.cons rfl (fun Kq hKq => ?_) AllReadyH.nil
            obtain ⟨H, hH⟩ : ∃ H, wc.heap.size = H := ⟨_, rfl⟩
            refine step_bs45 rfl (.tmp 51) rfl ⟨p, r, L⟩ LL.out rfl ?_
            rw [hH]
            have P8 := Lib.hid (xb_new hH ⟨p, r, L⟩)
            have MG : Hid (N2 ≤ H) := by show _ ≤ _; rw [← hH, ← WN2.out]; exact XX.out.size
            have XN : Hid (Below N2 wf (wc.alloc (Obj.cells (eS ⟨p, r, L⟩).toArray 45))) := XX.out.alloc (by rw [hH]; exact MG.out) _
            clear XX
            have XX := XN
            clear XN hH
            generalize wc.alloc (Obj.cells (eS ⟨p, r, L⟩).toArray 45) = we at *
            refine hKq.out _ _ (by exact ⟨fun q hq => XX.out.block q (by have := LN2.out; omega), XX.out.block G (by have := LN2.out; omega)⟩) (fun _ => ?_)
            clear hKq Kq
            simp only [Act.put, List.getElem_toArray, List.getElem_cons_succ, List.getElem_cons_zero, List.setIfInBounds_toArray, List.set_cons_zero, List.set_cons_succ]
            refine wpAnyH_ready (rs := [8]) (by kernel_rfl) (by simp) ?_
            refine AllReadyH.cons rfl (fun Kq hKq => ?_) AllReadyH.nil
            have OE : Hid (we.ownsRow (S + 1) 45 282 v k ((sgnL m ws bs k).flatMap eS)) := own_keepQ OF.out (by rw [WN2.out]; exact XX.out)
            refine step_appS rfl (.tmp 45) (.tmp 52) rfl (S + 1) k 1 v _ rfl OE.out H 0 1 (eS ⟨p, r, L⟩) rfl (xb_all P8.out) (by rw [eS_len LL.out]) (eS_one _) (by have := HKN.out; have := HN64.out; omega) (by have := XX.out.size; have := WN2.out; have := LN2.out; omega) ?_
            intro A9 c9 w9 hown hg
            have O9 : Hid (w9.ownsRow (S + 1) 45 282 (.slice A9 (k + 1) c9) (k + 1) ((sgnL m ws bs (k + 1)).flatMap eS)) := by show World.ownsRow _ _ _ _ _ _ _; rw [sgnL_succ, HX.out, flat_snoc]; exact hown
            have NS : some S ≠ v.ownBlock := fun e => by have := own_baseQ OE.out _ e.symm; omega
            have SZ : Hid (N2 ≤ we.heap.size) := by show _ ≤ _; have := XX.out.size; have := WN2.out; omega
            have B8 : Hid (Below S w we) := BF.out.trans (XX.out.mono (by have := LN2.out; omega))
            have E9 : Hid (BA w9 S 32 m) := (hg.block S (by have := SZ.out; have := LN2.out; omega) NS).trans ((XX.out.block S (by have := LN2.out; omega)).trans EF.out)
            have Z9 : Hid (S + 1 ≤ w9.heap.size) := by show _ ≤ _; have := hg.size; have := SZ.out; have := LN2.out; omega
            have B9 : Hid (Below S w w9) := B8.out.grown hg (by have := SZ.out; have := LN2.out; omega) (fun q hq => by have := own_baseQ OE.out q hq; omega)
            have T9 : Hid ((∀ q, q < S → w9.heap[q]? = wf.heap[q]?) ∧ w9.heap[G]? = wf.heap[G]?) := ⟨fun q hq => (hg.block q (by have := SZ.out; have := LN2.out; omega) (fun e => by have := own_baseQ OE.out q e.symm; omega)).trans (XX.out.block q (by have := LN2.out; omega)), (hg.block G (by have := SZ.out; have := LN2.out; omega) (fun e => by have := GO.out G e.symm; omega)).trans (XX.out.block G (by have := LN2.out; omega))⟩
            clear hown hg NS
            refine hKq.out _ _ (by exact T9.out) (fun _ => ?_)
            clear hKq Kq
            simp only [Act.put, List.getElem_toArray, List.getElem_cons_succ, List.getElem_cons_zero, List.setIfInBounds_toArray, List.set_cons_zero, List.set_cons_succ]
            refine wpAnyH_take (i := 9) (v := ?_) rfl (by kernel_rfl) (by kernel_rfl) (by kernel_rfl) (fun _ _ _ h => h) (Or.inl ⟨by rfl, ?_⟩) (by assumption) ?_
            rotate_left
            · (intro w hSw; (try dsimp only at hSw); go_simp; try with_reducible rfl)
            simp only [Act.put, List.getElem_toArray, List.getElem_cons_succ, List.getElem_cons_zero, List.setIfInBounds_toArray, List.set_cons_zero, List.set_cons_succ]
            refine wpAnyH_done (by kernel_rfl) ?_ _
            go_wp2
            go_roundw
            case rel => exact ⟨k + 1, A9, c9, by have := HKN.out; omega, by go_num, rfl, O9.out, E9.out, B9.out, Z9.out⟩
            case measure => have := HKN.out; simp [intOf]; omega
      · have k2 : decide ((k : Int) < (n2 : Int)) = false := decide_eq_false (by omega)
        have k3 : decide (k < n2) = false := decide_eq_false hkb
        have HMA : Hid (mAt m bs k = m) := mAt_no (by
          rw [List.getD_eq_getElem?_getD, List.getElem?_eq_none (by rw [HBN.out]; omega)]
          rfl)
        go_wp2_with fail
        obtain ⟨mm, hmm⟩ : ∃ mm, m = mm := ⟨_, rfl⟩
        have LMM : Hid (mm.length = 8) := by rw [← hmm]; exact HM.out
        have BMM : Hid (Byt mm) := by rw [← hmm]; exact HB.out
        have YX : Hid (BA v3 X 32 mm) := by rw [← hmm]; exact Ya.out
        have BQ := BQ3
        have EQ := EQ3
        have OW := OW3
        have HMB : Hid (mAt m bs k = mm) := by show _ = _; rw [HMA.out]; exact hmm
        clear Ya BQ3 EQ3 OW3 HMA
        have HMA := HMB
        clear HMB hmm
        (try clear cb)
        generalize v3 = wB at *
        obtain ⟨N, hN⟩ : ∃ N, wB.heap.size = N := ⟨_, rfl⟩
        have WN : Hid (wB.heap.size = N) := hN
        have LN : Hid (X < N ∧ S < N) := by show _ ∧ _; rw [← hN]; exact ⟨lt_of_block YX.out, lt_of_block EQ.out⟩
        have KN : Hid (∀ w', Below N wB w' → Below S w w') := fun w' hb => BQ.out.trans (hb.mono (by have := LN.out; omega))
        have CW : Hid (∀ w' : World, (∀ q, q < S → w'.heap[q]? = wB.heap[q]?) → w'.cell? ⟨bw, ow + k, none⟩ = some (.int .i64 p)) := fun w' h => cell_keep CP.out fun q hq => (h q (by rw [← HS.out]; exact hq)).trans (BQ.out.block q (by rw [← HS.out]; exact hq))
        have him := inf23 mm LMM.out
        obtain ⟨L, hL⟩ : ∃ L, sigL (seedL p) r mm = L := ⟨_, rfl⟩
        have LL : Hid (L.length = 280) := by rw [← hL]; exact sigL_len _ _ _
        have HX : Hid (sgF m ws bs k = ⟨p, r, L⟩) := sgF_eq HR.out HPP.out (by rw [HMA.out]; exact hL)
        have C21 : Hid (∀ w', Below S w w' → Calls Tryd.prog 21 #[.agg (ba (seedL p)), .int .i64 r, .agg (bvals mm).toArray] w' fun e w'' => e = .returned (.tuple #[.agg (sg r L).toArray, .bool true]) ∧ Below w'.heap.size w' w'') := fun w' hb => by
          have := C21A.out p r mm w' LMM.out BMM.out HR8.out hb
          rw [hL, ba_bvals mm] at this
          exact this
        clear hN hL
        have XX : Hid (Below N wB wB.drew) := (Below.refl _ _).drew
        refine wp_region_held_drew (S := (fun w' : World => ∀ q, q < N → w'.heap[q]? = wB.heap[q]?)) (by kernel_rfl) (by exact fun _ _ => rfl) (fun hHeld => ?_)
        refine wpAnyH_take (i := 0) (v := ?_) rfl (by kernel_rfl) (by kernel_rfl) (by kernel_rfl) (fun _ _ _ h => h) (Or.inl ⟨by rfl, ?_⟩) (by assumption) ?_
        rotate_left
        · (intro w hSw; (try dsimp only at hSw); go_simp; try with_reducible rfl)
        simp only [Act.put, List.getElem_toArray, List.getElem_cons_zero, List.setIfInBounds_toArray, List.set_cons_zero, List.set_cons_succ]
        refine wpAnyH_take (i := 1) (v := ?_) rfl (by kernel_rfl) (by kernel_rfl) (by kernel_rfl) (fun _ _ _ h => h) (Or.inl ⟨by rfl, ?_⟩) (by assumption) ?_
        rotate_left
        · (intro w hSw; (try dsimp only at hSw); go_simp; try with_reducible rfl)
        simp only [Act.put, List.getElem_toArray, List.getElem_cons_succ, List.getElem_cons_zero, List.setIfInBounds_toArray, List.set_cons_zero, List.set_cons_succ]
        refine wpAnyH_take (i := 2) (v := ?_) rfl (by kernel_rfl) (by kernel_rfl) (by kernel_rfl) (fun _ _ _ h => h) (Or.inl ⟨by rfl, ?_⟩) (by assumption) ?_
        rotate_left
        · (intro w hSw; (try dsimp only at hSw); go_simp; try with_reducible rfl)
        simp only [Act.put, List.getElem_toArray, List.getElem_cons_succ, List.getElem_cons_zero, List.setIfInBounds_toArray, List.set_cons_zero, List.set_cons_succ]
        refine wpAnyH_take (i := 3) (v := ?_) rfl (by kernel_rfl) (by kernel_rfl) (by kernel_rfl) (fun _ _ _ h => h) (Or.inl ⟨by rfl, ?_⟩) (by assumption) ?_
        rotate_left
        · (intro w hSw; (try dsimp only at hSw); have cw := CW.out w (fun q hq => hSw q (by have := LN.out; omega)); go_simp; try with_reducible rfl)
        simp only [Act.put, List.getElem_toArray, List.getElem_cons_succ, List.getElem_cons_zero, List.setIfInBounds_toArray, List.set_cons_zero, List.set_cons_succ]
        refine wpAnyH_take (i := 5) (v := ?_) rfl (by kernel_rfl) (by kernel_rfl) (by kernel_rfl) (fun _ _ _ h => h) (Or.inl ⟨by rfl, ?_⟩) (by assumption) ?_
        rotate_left
        · (intro w hSw; (try dsimp only at hSw); go_simp; try with_reducible rfl)
        simp only [Act.put, List.getElem_toArray, List.getElem_cons_succ, List.getElem_cons_zero, List.setIfInBounds_toArray, List.set_cons_zero, List.set_cons_succ]
        refine wpAnyH_take (i := 6) (v := ?_) rfl (by kernel_rfl) (by kernel_rfl) (by kernel_rfl) (fun _ _ _ h => h) (Or.inl ⟨by rfl, ?_⟩) (by assumption) ?_
        rotate_left
        · (intro w hSw; (try dsimp only at hSw); go_simp; try with_reducible rfl)
        simp only [Act.put, List.getElem_toArray, List.getElem_cons_succ, List.getElem_cons_zero, List.setIfInBounds_toArray, List.set_cons_zero, List.set_cons_succ]
        refine wpAnyH_take (i := 7) rfl (by kernel_rfl) (by kernel_rfl) (by kernel_rfl) (fun _ _ _ h => h) (yieldsIf_load_mid (by rfl) 32 (.tmp 9) rfl (X) (0) rfl (bvals mm) _ (fun w h => ba_range (t := 32) ((h _ (by have := LN.out; omega)).trans YX.out)) Tryd.underlying32 rfl him) (by assumption) ?_
        simp only [Act.put, List.getElem_toArray, List.getElem_cons_succ, List.getElem_cons_zero, List.setIfInBounds_toArray, List.set_cons_zero, List.set_cons_succ]
        clear hHeld
        generalize wB.drew = wc at *
        refine wpAnyH_ready (rs := [4, 12]) (by kernel_rfl) (by simp) ?_
        refine AllReadyH.cons rfl (fun Kq hKq => ?_) (AllReadyH.cons rfl (fun Kq hKq => ?_) AllReadyH.nil)
        · go_simp
          go_at_call 20
          refine (C20.out p _).mono ?_
          rintro e wd ⟨rfl, hba⟩
          have XN : Hid (Below N wB wd) := XX.out.trans (hba.mono (by have := XX.out.size; have := WN.out; omega))
          clear XX hba
          have XX := XN
          clear XN
          (try go_wp2_with fail)
          refine hKq.out _ _ (by exact fun q hq => XX.out.block q hq) (fun _ => ?_)
          clear hKq Kq
          (try simp only [Act.put, List.getElem_toArray, List.getElem_cons_succ, List.getElem_cons_zero, List.setIfInBounds_toArray, List.set_cons_zero, List.set_cons_succ])
          refine wpAnyH_ready (rs := [8, 12]) (by kernel_rfl) (by simp) ?_
          refine AllReadyH.cons rfl (fun Kq hKq => ?_) (AllReadyH.cons rfl (fun Kq hKq => ?_) AllReadyH.nil)
          · go_simp
            go_at_call 21
            refine (C21.out _ (KN.out _ XX.out)).mono ?_
            rintro e wd ⟨rfl, hba⟩
            have XN : Hid (Below N wB wd) := XX.out.trans (hba.mono (by have := XX.out.size; have := WN.out; omega))
            clear XX hba
            have XX := XN
            clear XN
            (try go_wp2_with fail)
            refine hKq.out _ _ (by exact fun q hq => XX.out.block q hq) (fun _ => ?_)
            clear hKq Kq
            (try simp only [Act.put, List.getElem_toArray, List.getElem_cons_succ, List.getElem_cons_zero, List.setIfInBounds_toArray, List.set_cons_zero, List.set_cons_succ])
            refine wpAnyH_take (i := 9) (v := ?_) rfl (by kernel_rfl) (by kernel_rfl) (by kernel_rfl) (fun _ _ _ h => h) (Or.inl ⟨by rfl, ?_⟩) (by assumption) ?_
            rotate_left
            · (intro w hSw; (try dsimp only at hSw); go_simp; try with_reducible rfl)
            simp only [Act.put, List.getElem_toArray, List.getElem_cons_succ, List.getElem_cons_zero, List.setIfInBounds_toArray, List.set_cons_zero, List.set_cons_succ]
            refine wpAnyH_take (i := 10) (v := ?_) rfl (by kernel_rfl) (by kernel_rfl) (by kernel_rfl) (fun _ _ _ h => h) (Or.inl ⟨by rfl, ?_⟩) (by assumption) ?_
            rotate_left
            · (intro w hSw; (try dsimp only at hSw); go_simp; try with_reducible rfl)
            simp only [Act.put, List.getElem_toArray, List.getElem_cons_succ, List.getElem_cons_zero, List.setIfInBounds_toArray, List.set_cons_zero, List.set_cons_succ]
            refine wpAnyH_take (i := 11) (v := ?_) rfl (by kernel_rfl) (by kernel_rfl) (by kernel_rfl) (fun _ _ _ h => h) (Or.inl ⟨by rfl, ?_⟩) (by assumption) ?_
            rotate_left
            · (intro w hSw; (try dsimp only at hSw); go_simp; try with_reducible rfl)
            simp only [Act.put, List.getElem_toArray, List.getElem_cons_succ, List.getElem_cons_zero, List.setIfInBounds_toArray, List.set_cons_zero, List.set_cons_succ]
            refine wpAnyH_ready (rs := [12]) (by kernel_rfl) (by simp) ?_
            refine AllReadyH.cons rfl (fun Kq hKq => ?_) AllReadyH.nil
            refine step_alloc43 rfl rfl ?_
            obtain ⟨G, hG⟩ : ∃ G, wd.heap.size = G := ⟨_, rfl⟩
            rw [hG]
            have YG := Lib.hid (sb_new hG 0 (zeros 280))
            have NG : Hid (N ≤ G) := by show _ ≤ _; rw [← hG, ← WN.out]; exact XX.out.size
            have XN : Hid (Below N wB (wd.alloc (Obj.cells (sg 0 (zeros 280)).toArray 43))) := XX.out.alloc (by rw [hG]; exact NG.out) _
            clear XX hG
            have XX := XN
            clear XN
            generalize wd.alloc (Obj.cells (sg 0 (zeros 280)).toArray 43) = we at *
            refine hKq.out _ _ (by exact fun q hq => XX.out.block q hq) (fun _ => ?_)
            clear hKq Kq
            (try simp only [Act.put, List.getElem_toArray, List.getElem_cons_succ, List.getElem_cons_zero, List.setIfInBounds_toArray, List.set_cons_zero, List.set_cons_succ])
            refine wpAnyH_ready (rs := [13]) (by kernel_rfl) (by simp) ?_
            refine AllReadyH.cons rfl (fun Kq hKq => ?_) AllReadyH.nil
            refine step_sig rfl (.tmp 10) (.tmp 43) rfl G 0 r (zeros 280) L rfl rfl YG.out LZ.out LL.out ?_
            have XN : Hid (Below N wB (we.setCells G 0 (sg r L))) := below_setCells NG.out _ _ XX.out
            have YN : Hid (SB (we.setCells G 0 (sg r L)) G r L) := sb_row YG.out (by rw [LZ.out, LL.out])
            clear XX YG
            have XX := XN
            have YG := YN
            clear XN YN
            generalize we.setCells G 0 (sg r L) = wf at *
            refine hKq.out _ _ (by exact fun q hq => XX.out.block q hq) (fun _ => ?_)
            clear hKq Kq
            (try simp only [Act.put, List.getElem_toArray, List.getElem_cons_succ, List.getElem_cons_zero])
            refine wpAnyH_take (i := 14) (v := ?_) rfl (by kernel_rfl) (by kernel_rfl) (by kernel_rfl) (fun _ _ _ h => h) (Or.inl ⟨by rfl, ?_⟩) (by assumption) ?_
            rotate_left
            · (intro w hSw; (try dsimp only at hSw); go_simp; try with_reducible rfl)
            simp only [Act.put, List.getElem_toArray, List.getElem_cons_succ, List.getElem_cons_zero, List.setIfInBounds_toArray, List.set_cons_zero, List.set_cons_succ]
            refine wpAnyH_done (by kernel_rfl) ?_ _
            obtain ⟨N2, hN2⟩ : ∃ N2, wf.heap.size = N2 := ⟨_, rfl⟩
            have WN2 : Hid (wf.heap.size = N2) := hN2
            have LN2 : Hid (G < N2 ∧ S + 1 ≤ N2 ∧ N ≤ N2) := by show _ ∧ _ ∧ _; rw [← hN2]; exact ⟨sb_lt YG.out, by have := XX.out.size; have := WN.out; have := LN.out; omega, by have := XX.out.size; have := WN.out; omega⟩
            have GO : Hid (∀ q, v.ownBlock = some q → q < G) := fun q hq => by
              obtain ⟨cs, hcs⟩ := own_typeQ' OW.out q hq
              have h1 := lt_of_block hcs
              have h2 := WN.out
              have h3 := NG.out
              omega
            have OF : Hid (wf.ownsRow (S + 1) 45 282 v k ((sgnL m ws bs k).flatMap eS)) := own_keepQ OW.out (by rw [WN.out]; exact XX.out)
            have BF : Hid (Below S w wf) := KN.out _ XX.out
            have EF : Hid (BA wf S 32 m) := (XX.out.block _ (by have := LN.out; omega)).trans EQ.out
            have CF : Hid (∀ w' : World, (∀ q, q < S → w'.heap[q]? = wf.heap[q]?) → w'.cell? ⟨bw, ow + k, none⟩ = some (.int .i64 p)) := fun w' h => CW.out w' fun q hq => (h q hq).trans (XX.out.block q (by have := LN.out; omega))
            clear XX hN2
            go_wp2_with fail
            have XX : Hid (Below N2 wf wf.drew) := (Below.refl _ _).drew
            refine wp_region_held_drew (S := (fun w' : World => (∀ q, q < S → w'.heap[q]? = wf.heap[q]?) ∧ w'.heap[G]? = wf.heap[G]?)) (by kernel_rfl) (by exact ⟨fun _ _ => rfl, rfl⟩) (fun hHeld => ?_)
            refine wpAnyH_take (i := 0) (v := ?_) rfl (by kernel_rfl) (by kernel_rfl) (by kernel_rfl) (fun _ _ _ h => h) (Or.inl ⟨by rfl, ?_⟩) (by assumption) ?_
            rotate_left
            · (intro w hSw; (try dsimp only at hSw); go_simp; try with_reducible rfl)
            simp only [Act.put, List.getElem_toArray, List.getElem_cons_zero, List.setIfInBounds_toArray, List.set_cons_zero, List.set_cons_succ]
            refine wpAnyH_take (i := 1) (v := ?_) rfl (by kernel_rfl) (by kernel_rfl) (by kernel_rfl) (fun _ _ _ h => h) (Or.inl ⟨by rfl, ?_⟩) (by assumption) ?_
            rotate_left
            · (intro w hSw; (try dsimp only at hSw); go_simp; try with_reducible rfl)
            simp only [Act.put, List.getElem_toArray, List.getElem_cons_succ, List.getElem_cons_zero, List.setIfInBounds_toArray, List.set_cons_zero, List.set_cons_succ]
            refine wpAnyH_take (i := 2) (v := ?_) rfl (by kernel_rfl) (by kernel_rfl) (by kernel_rfl) (fun _ _ _ h => h) (Or.inl ⟨by rfl, ?_⟩) (by assumption) ?_
            rotate_left
            · (intro w hSw; (try dsimp only at hSw); go_simp; try with_reducible rfl)
            simp only [Act.put, List.getElem_toArray, List.getElem_cons_succ, List.getElem_cons_zero, List.setIfInBounds_toArray, List.set_cons_zero, List.set_cons_succ]
            refine wpAnyH_take (i := 3) (v := ?_) rfl (by kernel_rfl) (by kernel_rfl) (by kernel_rfl) (fun _ _ _ h => h) (Or.inl ⟨by rfl, ?_⟩) (by assumption) ?_
            rotate_left
            · (intro w hSw; (try dsimp only at hSw); go_simp; try with_reducible rfl)
            simp only [Act.put, List.getElem_toArray, List.getElem_cons_succ, List.getElem_cons_zero, List.setIfInBounds_toArray, List.set_cons_zero, List.set_cons_succ]
            refine wpAnyH_take (i := 4) (v := ?_) rfl (by kernel_rfl) (by kernel_rfl) (by kernel_rfl) (fun _ _ _ h => h) (Or.inl ⟨by rfl, ?_⟩) (by assumption) ?_
            rotate_left
            · (intro w hSw; (try dsimp only at hSw); have cw := CF.out w hSw.1; go_simp; try with_reducible rfl)
            simp only [Act.put, List.getElem_toArray, List.getElem_cons_succ, List.getElem_cons_zero, List.setIfInBounds_toArray, List.set_cons_zero, List.set_cons_succ]
            refine wpAnyH_take (i := 5) rfl (by kernel_rfl) (by kernel_rfl) (by kernel_rfl) (fun _ _ _ h => h) (yieldsIf_load_mid (by rfl) 43 (.tmp 10) rfl (G) (0) rfl (sg (r) L) _ (fun w h => sb_all (L := L) (h.2.trans YG.out)) Tryd.underlying43 rfl (sg_info _ _ LL.out)) (by assumption) ?_
            simp only [Act.put, List.getElem_toArray, List.getElem_cons_succ, List.getElem_cons_zero, List.setIfInBounds_toArray, List.set_cons_zero, List.set_cons_succ]
            clear hHeld
            generalize wf.drew = wc at *
            refine wpAnyH_ready (rs := [6]) (by kernel_rfl) (by simp) ?_
            refine AllReadyH.cons rfl (fun Kq hKq => ?_) AllReadyH.nil
            refine step_b45 rfl (.tmp 49) (.tmp 50) rfl p r L LL.out rfl rfl ?_
            refine hKq.out _ _ (by exact ⟨fun q hq => XX.out.block q (by have := LN2.out; omega), XX.out.block G (by have := LN2.out; omega)⟩) (fun _ => ?_)
            clear hKq Kq
            simp only [Act.put, List.getElem_toArray, List.getElem_cons_succ, List.getElem_cons_zero, List.setIfInBounds_toArray, List.set_cons_zero, List.set_cons_succ]
            refine wpAnyH_ready (rs := [7]) (by kernel_rfl) (by simp) ?_
            refine AllReadyH.cons rfl (fun Kq hKq => ?_) AllReadyH.nil
            obtain ⟨H, hH⟩ : ∃ H, wc.heap.size = H := ⟨_, rfl⟩
            refine step_bs45 rfl (.tmp 51) rfl ⟨p, r, L⟩ LL.out rfl ?_
            rw [hH]
            have P8 := Lib.hid (xb_new hH ⟨p, r, L⟩)
            have MG : Hid (N2 ≤ H) := by show _ ≤ _; rw [← hH, ← WN2.out]; exact XX.out.size
            have XN : Hid (Below N2 wf (wc.alloc (Obj.cells (eS ⟨p, r, L⟩).toArray 45))) := XX.out.alloc (by rw [hH]; exact MG.out) _
            clear XX
            have XX := XN
            clear XN hH
            generalize wc.alloc (Obj.cells (eS ⟨p, r, L⟩).toArray 45) = we at *
            refine hKq.out _ _ (by exact ⟨fun q hq => XX.out.block q (by have := LN2.out; omega), XX.out.block G (by have := LN2.out; omega)⟩) (fun _ => ?_)
            clear hKq Kq
            simp only [Act.put, List.getElem_toArray, List.getElem_cons_succ, List.getElem_cons_zero, List.setIfInBounds_toArray, List.set_cons_zero, List.set_cons_succ]
            refine wpAnyH_ready (rs := [8]) (by kernel_rfl) (by simp) ?_
            refine AllReadyH.cons rfl (fun Kq hKq => ?_) AllReadyH.nil
            have OE : Hid (we.ownsRow (S + 1) 45 282 v k ((sgnL m ws bs k).flatMap eS)) := own_keepQ OF.out (by rw [WN2.out]; exact XX.out)
            refine step_appS rfl (.tmp 45) (.tmp 52) rfl (S + 1) k 1 v _ rfl OE.out H 0 1 (eS ⟨p, r, L⟩) rfl (xb_all P8.out) (by rw [eS_len LL.out]) (eS_one _) (by have := HKN.out; have := HN64.out; omega) (by have := XX.out.size; have := WN2.out; have := LN2.out; omega) ?_
            intro A9 c9 w9 hown hg
            have O9 : Hid (w9.ownsRow (S + 1) 45 282 (.slice A9 (k + 1) c9) (k + 1) ((sgnL m ws bs (k + 1)).flatMap eS)) := by show World.ownsRow _ _ _ _ _ _ _; rw [sgnL_succ, HX.out, flat_snoc]; exact hown
            have NS : some S ≠ v.ownBlock := fun e => by have := own_baseQ OE.out _ e.symm; omega
            have SZ : Hid (N2 ≤ we.heap.size) := by show _ ≤ _; have := XX.out.size; have := WN2.out; omega
            have B8 : Hid (Below S w we) := BF.out.trans (XX.out.mono (by have := LN2.out; omega))
            have E9 : Hid (BA w9 S 32 m) := (hg.block S (by have := SZ.out; have := LN2.out; omega) NS).trans ((XX.out.block S (by have := LN2.out; omega)).trans EF.out)
            have Z9 : Hid (S + 1 ≤ w9.heap.size) := by show _ ≤ _; have := hg.size; have := SZ.out; have := LN2.out; omega
            have B9 : Hid (Below S w w9) := B8.out.grown hg (by have := SZ.out; have := LN2.out; omega) (fun q hq => by have := own_baseQ OE.out q hq; omega)
            have T9 : Hid ((∀ q, q < S → w9.heap[q]? = wf.heap[q]?) ∧ w9.heap[G]? = wf.heap[G]?) := ⟨fun q hq => (hg.block q (by have := SZ.out; have := LN2.out; omega) (fun e => by have := own_baseQ OE.out q e.symm; omega)).trans (XX.out.block q (by have := LN2.out; omega)), (hg.block G (by have := SZ.out; have := LN2.out; omega) (fun e => by have := GO.out G e.symm; omega)).trans (XX.out.block G (by have := LN2.out; omega))⟩
            clear hown hg NS
            refine hKq.out _ _ (by exact T9.out) (fun _ => ?_)
            clear hKq Kq
            simp only [Act.put, List.getElem_toArray, List.getElem_cons_succ, List.getElem_cons_zero, List.setIfInBounds_toArray, List.set_cons_zero, List.set_cons_succ]
            refine wpAnyH_take (i := 9) (v := ?_) rfl (by kernel_rfl) (by kernel_rfl) (by kernel_rfl) (fun _ _ _ h => h) (Or.inl ⟨by rfl, ?_⟩) (by assumption) ?_
            rotate_left
            · (intro w hSw; (try dsimp only at hSw); go_simp; try with_reducible rfl)
            simp only [Act.put, List.getElem_toArray, List.getElem_cons_succ, List.getElem_cons_zero, List.setIfInBounds_toArray, List.set_cons_zero, List.set_cons_succ]
            refine wpAnyH_done (by kernel_rfl) ?_ _
            go_wp2
            go_roundw
            case rel => exact ⟨k + 1, A9, c9, by have := HKN.out; omega, by go_num, rfl, O9.out, E9.out, B9.out, Z9.out⟩
            case measure => have := HKN.out; simp [intOf]; omega
          · refine step_alloc43 rfl rfl ?_
            obtain ⟨G, hG⟩ : ∃ G, wd.heap.size = G := ⟨_, rfl⟩
            rw [hG]
            have YG := Lib.hid (sb_new hG 0 (zeros 280))
            have NG : Hid (N ≤ G) := by show _ ≤ _; rw [← hG, ← WN.out]; exact XX.out.size
            have XN : Hid (Below N wB (wd.alloc (Obj.cells (sg 0 (zeros 280)).toArray 43))) := XX.out.alloc (by rw [hG]; exact NG.out) _
            clear XX hG
            have XX := XN
            clear XN
            generalize wd.alloc (Obj.cells (sg 0 (zeros 280)).toArray 43) = we at *
            refine hKq.out _ _ (by exact fun q hq => XX.out.block q hq) (fun _ => ?_)
            clear hKq Kq
            (try simp only [Act.put, List.getElem_toArray, List.getElem_cons_succ, List.getElem_cons_zero, List.setIfInBounds_toArray, List.set_cons_zero, List.set_cons_succ])
            refine wpAnyH_ready (rs := [8]) (by kernel_rfl) (by simp) ?_
            refine AllReadyH.cons rfl (fun Kq hKq => ?_) AllReadyH.nil
            go_simp
            go_at_call 21
            refine (C21.out _ (KN.out _ XX.out)).mono ?_
            rintro e wd ⟨rfl, hba⟩
            have XN : Hid (Below N wB wd) := XX.out.trans (hba.mono (by have := XX.out.size; have := WN.out; omega))
            have YN : Hid (SB wd G 0 (zeros 280)) := (hba.block _ (sb_lt YG.out)).trans YG.out
            clear YG
            have YG := YN
            clear YN
            clear XX hba
            have XX := XN
            clear XN
            (try go_wp2_with fail)
            refine hKq.out _ _ (by exact fun q hq => XX.out.block q hq) (fun _ => ?_)
            clear hKq Kq
            (try simp only [Act.put, List.getElem_toArray, List.getElem_cons_succ, List.getElem_cons_zero, List.setIfInBounds_toArray, List.set_cons_zero, List.set_cons_succ])
            refine wpAnyH_take (i := 9) (v := ?_) rfl (by kernel_rfl) (by kernel_rfl) (by kernel_rfl) (fun _ _ _ h => h) (Or.inl ⟨by rfl, ?_⟩) (by assumption) ?_
            rotate_left
            · (intro w hSw; (try dsimp only at hSw); go_simp; try with_reducible rfl)
            simp only [Act.put, List.getElem_toArray, List.getElem_cons_succ, List.getElem_cons_zero, List.setIfInBounds_toArray, List.set_cons_zero, List.set_cons_succ]
            refine wpAnyH_take (i := 10) (v := ?_) rfl (by kernel_rfl) (by kernel_rfl) (by kernel_rfl) (fun _ _ _ h => h) (Or.inl ⟨by rfl, ?_⟩) (by assumption) ?_
            rotate_left
            · (intro w hSw; (try dsimp only at hSw); go_simp; try with_reducible rfl)
            simp only [Act.put, List.getElem_toArray, List.getElem_cons_succ, List.getElem_cons_zero, List.setIfInBounds_toArray, List.set_cons_zero, List.set_cons_succ]
            refine wpAnyH_take (i := 11) (v := ?_) rfl (by kernel_rfl) (by kernel_rfl) (by kernel_rfl) (fun _ _ _ h => h) (Or.inl ⟨by rfl, ?_⟩) (by assumption) ?_
            rotate_left
            · (intro w hSw; (try dsimp only at hSw); go_simp; try with_reducible rfl)
            simp only [Act.put, List.getElem_toArray, List.getElem_cons_succ, List.getElem_cons_zero, List.setIfInBounds_toArray, List.set_cons_zero, List.set_cons_succ]
            refine wpAnyH_ready (rs := [13]) (by kernel_rfl) (by simp) ?_
            refine AllReadyH.cons rfl (fun Kq hKq => ?_) AllReadyH.nil
            refine step_sig rfl (.tmp 10) (.tmp 43) rfl G 0 r (zeros 280) L rfl rfl YG.out LZ.out LL.out ?_
            have XN : Hid (Below N wB (wd.setCells G 0 (sg r L))) := below_setCells NG.out _ _ XX.out
            have YN : Hid (SB (wd.setCells G 0 (sg r L)) G r L) := sb_row YG.out (by rw [LZ.out, LL.out])
            clear XX YG
            have XX := XN
            have YG := YN
            clear XN YN
            generalize wd.setCells G 0 (sg r L) = wf at *
            refine hKq.out _ _ (by exact fun q hq => XX.out.block q hq) (fun _ => ?_)
            clear hKq Kq
            (try simp only [Act.put, List.getElem_toArray, List.getElem_cons_succ, List.getElem_cons_zero])
            refine wpAnyH_take (i := 14) (v := ?_) rfl (by kernel_rfl) (by kernel_rfl) (by kernel_rfl) (fun _ _ _ h => h) (Or.inl ⟨by rfl, ?_⟩) (by assumption) ?_
            rotate_left
            · (intro w hSw; (try dsimp only at hSw); go_simp; try with_reducible rfl)
            simp only [Act.put, List.getElem_toArray, List.getElem_cons_succ, List.getElem_cons_zero, List.setIfInBounds_toArray, List.set_cons_zero, List.set_cons_succ]
            refine wpAnyH_done (by kernel_rfl) ?_ _
            obtain ⟨N2, hN2⟩ : ∃ N2, wf.heap.size = N2 := ⟨_, rfl⟩
            have WN2 : Hid (wf.heap.size = N2) := hN2
            have LN2 : Hid (G < N2 ∧ S + 1 ≤ N2 ∧ N ≤ N2) := by show _ ∧ _ ∧ _; rw [← hN2]; exact ⟨sb_lt YG.out, by have := XX.out.size; have := WN.out; have := LN.out; omega, by have := XX.out.size; have := WN.out; omega⟩
            have GO : Hid (∀ q, v.ownBlock = some q → q < G) := fun q hq => by
              obtain ⟨cs, hcs⟩ := own_typeQ' OW.out q hq
              have h1 := lt_of_block hcs
              have h2 := WN.out
              have h3 := NG.out
              omega
            have OF : Hid (wf.ownsRow (S + 1) 45 282 v k ((sgnL m ws bs k).flatMap eS)) := own_keepQ OW.out (by rw [WN.out]; exact XX.out)
            have BF : Hid (Below S w wf) := KN.out _ XX.out
            have EF : Hid (BA wf S 32 m) := (XX.out.block _ (by have := LN.out; omega)).trans EQ.out
            have CF : Hid (∀ w' : World, (∀ q, q < S → w'.heap[q]? = wf.heap[q]?) → w'.cell? ⟨bw, ow + k, none⟩ = some (.int .i64 p)) := fun w' h => CW.out w' fun q hq => (h q hq).trans (XX.out.block q (by have := LN.out; omega))
            clear XX hN2
            go_wp2_with fail
            have XX : Hid (Below N2 wf wf.drew) := (Below.refl _ _).drew
            refine wp_region_held_drew (S := (fun w' : World => (∀ q, q < S → w'.heap[q]? = wf.heap[q]?) ∧ w'.heap[G]? = wf.heap[G]?)) (by kernel_rfl) (by exact ⟨fun _ _ => rfl, rfl⟩) (fun hHeld => ?_)
            refine wpAnyH_take (i := 0) (v := ?_) rfl (by kernel_rfl) (by kernel_rfl) (by kernel_rfl) (fun _ _ _ h => h) (Or.inl ⟨by rfl, ?_⟩) (by assumption) ?_
            rotate_left
            · (intro w hSw; (try dsimp only at hSw); go_simp; try with_reducible rfl)
            simp only [Act.put, List.getElem_toArray, List.getElem_cons_zero, List.setIfInBounds_toArray, List.set_cons_zero, List.set_cons_succ]
            refine wpAnyH_take (i := 1) (v := ?_) rfl (by kernel_rfl) (by kernel_rfl) (by kernel_rfl) (fun _ _ _ h => h) (Or.inl ⟨by rfl, ?_⟩) (by assumption) ?_
            rotate_left
            · (intro w hSw; (try dsimp only at hSw); go_simp; try with_reducible rfl)
            simp only [Act.put, List.getElem_toArray, List.getElem_cons_succ, List.getElem_cons_zero, List.setIfInBounds_toArray, List.set_cons_zero, List.set_cons_succ]
            refine wpAnyH_take (i := 2) (v := ?_) rfl (by kernel_rfl) (by kernel_rfl) (by kernel_rfl) (fun _ _ _ h => h) (Or.inl ⟨by rfl, ?_⟩) (by assumption) ?_
            rotate_left
            · (intro w hSw; (try dsimp only at hSw); go_simp; try with_reducible rfl)
            simp only [Act.put, List.getElem_toArray, List.getElem_cons_succ, List.getElem_cons_zero, List.setIfInBounds_toArray, List.set_cons_zero, List.set_cons_succ]
            refine wpAnyH_take (i := 3) (v := ?_) rfl (by kernel_rfl) (by kernel_rfl) (by kernel_rfl) (fun _ _ _ h => h) (Or.inl ⟨by rfl, ?_⟩) (by assumption) ?_
            rotate_left
            · (intro w hSw; (try dsimp only at hSw); go_simp; try with_reducible rfl)
            simp only [Act.put, List.getElem_toArray, List.getElem_cons_succ, List.getElem_cons_zero, List.setIfInBounds_toArray, List.set_cons_zero, List.set_cons_succ]
            refine wpAnyH_take (i := 4) (v := ?_) rfl (by kernel_rfl) (by kernel_rfl) (by kernel_rfl) (fun _ _ _ h => h) (Or.inl ⟨by rfl, ?_⟩) (by assumption) ?_
            rotate_left
            · (intro w hSw; (try dsimp only at hSw); have cw := CF.out w hSw.1; go_simp; try with_reducible rfl)
            simp only [Act.put, List.getElem_toArray, List.getElem_cons_succ, List.getElem_cons_zero, List.setIfInBounds_toArray, List.set_cons_zero, List.set_cons_succ]
            refine wpAnyH_take (i := 5) rfl (by kernel_rfl) (by kernel_rfl) (by kernel_rfl) (fun _ _ _ h => h) (yieldsIf_load_mid (by rfl) 43 (.tmp 10) rfl (G) (0) rfl (sg (r) L) _ (fun w h => sb_all (L := L) (h.2.trans YG.out)) Tryd.underlying43 rfl (sg_info _ _ LL.out)) (by assumption) ?_
            simp only [Act.put, List.getElem_toArray, List.getElem_cons_succ, List.getElem_cons_zero, List.setIfInBounds_toArray, List.set_cons_zero, List.set_cons_succ]
            clear hHeld
            generalize wf.drew = wc at *
            refine wpAnyH_ready (rs := [6]) (by kernel_rfl) (by simp) ?_
            refine AllReadyH.cons rfl (fun Kq hKq => ?_) AllReadyH.nil
            refine step_b45 rfl (.tmp 49) (.tmp 50) rfl p r L LL.out rfl rfl ?_
            refine hKq.out _ _ (by exact ⟨fun q hq => XX.out.block q (by have := LN2.out; omega), XX.out.block G (by have := LN2.out; omega)⟩) (fun _ => ?_)
            clear hKq Kq
            simp only [Act.put, List.getElem_toArray, List.getElem_cons_succ, List.getElem_cons_zero, List.setIfInBounds_toArray, List.set_cons_zero, List.set_cons_succ]
            refine wpAnyH_ready (rs := [7]) (by kernel_rfl) (by simp) ?_
            refine AllReadyH.cons rfl (fun Kq hKq => ?_) AllReadyH.nil
            obtain ⟨H, hH⟩ : ∃ H, wc.heap.size = H := ⟨_, rfl⟩
            refine step_bs45 rfl (.tmp 51) rfl ⟨p, r, L⟩ LL.out rfl ?_
            rw [hH]
            have P8 := Lib.hid (xb_new hH ⟨p, r, L⟩)
            have MG : Hid (N2 ≤ H) := by show _ ≤ _; rw [← hH, ← WN2.out]; exact XX.out.size
            have XN : Hid (Below N2 wf (wc.alloc (Obj.cells (eS ⟨p, r, L⟩).toArray 45))) := XX.out.alloc (by rw [hH]; exact MG.out) _
            clear XX
            have XX := XN
            clear XN hH
            generalize wc.alloc (Obj.cells (eS ⟨p, r, L⟩).toArray 45) = we at *
            refine hKq.out _ _ (by exact ⟨fun q hq => XX.out.block q (by have := LN2.out; omega), XX.out.block G (by have := LN2.out; omega)⟩) (fun _ => ?_)
            clear hKq Kq
            simp only [Act.put, List.getElem_toArray, List.getElem_cons_succ, List.getElem_cons_zero, List.setIfInBounds_toArray, List.set_cons_zero, List.set_cons_succ]
            refine wpAnyH_ready (rs := [8]) (by kernel_rfl) (by simp) ?_
            refine AllReadyH.cons rfl (fun Kq hKq => ?_) AllReadyH.nil
            have OE : Hid (we.ownsRow (S + 1) 45 282 v k ((sgnL m ws bs k).flatMap eS)) := own_keepQ OF.out (by rw [WN2.out]; exact XX.out)
            refine step_appS rfl (.tmp 45) (.tmp 52) rfl (S + 1) k 1 v _ rfl OE.out H 0 1 (eS ⟨p, r, L⟩) rfl (xb_all P8.out) (by rw [eS_len LL.out]) (eS_one _) (by have := HKN.out; have := HN64.out; omega) (by have := XX.out.size; have := WN2.out; have := LN2.out; omega) ?_
            intro A9 c9 w9 hown hg
            have O9 : Hid (w9.ownsRow (S + 1) 45 282 (.slice A9 (k + 1) c9) (k + 1) ((sgnL m ws bs (k + 1)).flatMap eS)) := by show World.ownsRow _ _ _ _ _ _ _; rw [sgnL_succ, HX.out, flat_snoc]; exact hown
            have NS : some S ≠ v.ownBlock := fun e => by have := own_baseQ OE.out _ e.symm; omega
            have SZ : Hid (N2 ≤ we.heap.size) := by show _ ≤ _; have := XX.out.size; have := WN2.out; omega
            have B8 : Hid (Below S w we) := BF.out.trans (XX.out.mono (by have := LN2.out; omega))
            have E9 : Hid (BA w9 S 32 m) := (hg.block S (by have := SZ.out; have := LN2.out; omega) NS).trans ((XX.out.block S (by have := LN2.out; omega)).trans EF.out)
            have Z9 : Hid (S + 1 ≤ w9.heap.size) := by show _ ≤ _; have := hg.size; have := SZ.out; have := LN2.out; omega
            have B9 : Hid (Below S w w9) := B8.out.grown hg (by have := SZ.out; have := LN2.out; omega) (fun q hq => by have := own_baseQ OE.out q hq; omega)
            have T9 : Hid ((∀ q, q < S → w9.heap[q]? = wf.heap[q]?) ∧ w9.heap[G]? = wf.heap[G]?) := ⟨fun q hq => (hg.block q (by have := SZ.out; have := LN2.out; omega) (fun e => by have := own_baseQ OE.out q e.symm; omega)).trans (XX.out.block q (by have := LN2.out; omega)), (hg.block G (by have := SZ.out; have := LN2.out; omega) (fun e => by have := GO.out G e.symm; omega)).trans (XX.out.block G (by have := LN2.out; omega))⟩
            clear hown hg NS
            refine hKq.out _ _ (by exact T9.out) (fun _ => ?_)
            clear hKq Kq
            simp only [Act.put, List.getElem_toArray, List.getElem_cons_succ, List.getElem_cons_zero, List.setIfInBounds_toArray, List.set_cons_zero, List.set_cons_succ]
            refine wpAnyH_take (i := 9) (v := ?_) rfl (by kernel_rfl) (by kernel_rfl) (by kernel_rfl) (fun _ _ _ h => h) (Or.inl ⟨by rfl, ?_⟩) (by assumption) ?_
            rotate_left
            · (intro w hSw; (try dsimp only at hSw); go_simp; try with_reducible rfl)
            simp only [Act.put, List.getElem_toArray, List.getElem_cons_succ, List.getElem_cons_zero, List.setIfInBounds_toArray, List.set_cons_zero, List.set_cons_succ]
            refine wpAnyH_done (by kernel_rfl) ?_ _
            go_wp2
            go_roundw
            case rel => exact ⟨k + 1, A9, c9, by have := HKN.out; omega, by go_num, rfl, O9.out, E9.out, B9.out, Z9.out⟩
            case measure => have := HKN.out; simp [intOf]; omega
        · refine step_alloc43 rfl rfl ?_
          obtain ⟨G, hG⟩ : ∃ G, wc.heap.size = G := ⟨_, rfl⟩
          rw [hG]
          have YG := Lib.hid (sb_new hG 0 (zeros 280))
          have NG : Hid (N ≤ G) := by show _ ≤ _; rw [← hG, ← WN.out]; exact XX.out.size
          have XN : Hid (Below N wB (wc.alloc (Obj.cells (sg 0 (zeros 280)).toArray 43))) := XX.out.alloc (by rw [hG]; exact NG.out) _
          clear XX hG
          have XX := XN
          clear XN
          generalize wc.alloc (Obj.cells (sg 0 (zeros 280)).toArray 43) = we at *
          refine hKq.out _ _ (by exact fun q hq => XX.out.block q hq) (fun _ => ?_)
          clear hKq Kq
          (try simp only [Act.put, List.getElem_toArray, List.getElem_cons_succ, List.getElem_cons_zero, List.setIfInBounds_toArray, List.set_cons_zero, List.set_cons_succ])
          refine wpAnyH_ready (rs := [4]) (by kernel_rfl) (by simp) ?_
          refine AllReadyH.cons rfl (fun Kq hKq => ?_) AllReadyH.nil
          go_simp
          go_at_call 20
          refine (C20.out p _).mono ?_
          rintro e wd ⟨rfl, hba⟩
          have XN : Hid (Below N wB wd) := XX.out.trans (hba.mono (by have := XX.out.size; have := WN.out; omega))
          have YN : Hid (SB wd G 0 (zeros 280)) := (hba.block _ (sb_lt YG.out)).trans YG.out
          clear YG
          have YG := YN
          clear YN
          clear XX hba
          have XX := XN
          clear XN
          (try go_wp2_with fail)
          refine hKq.out _ _ (by exact fun q hq => XX.out.block q hq) (fun _ => ?_)
          clear hKq Kq
          (try simp only [Act.put, List.getElem_toArray, List.getElem_cons_succ, List.getElem_cons_zero, List.setIfInBounds_toArray, List.set_cons_zero, List.set_cons_succ])
          refine wpAnyH_ready (rs := [8]) (by kernel_rfl) (by simp) ?_
          refine AllReadyH.cons rfl (fun Kq hKq => ?_) AllReadyH.nil
          go_simp
          go_at_call 21
          refine (C21.out _ (KN.out _ XX.out)).mono ?_
          rintro e wd ⟨rfl, hba⟩
          have XN : Hid (Below N wB wd) := XX.out.trans (hba.mono (by have := XX.out.size; have := WN.out; omega))
          have YN : Hid (SB wd G 0 (zeros 280)) := (hba.block _ (sb_lt YG.out)).trans YG.out
          clear YG
          have YG := YN
          clear YN
          clear XX hba
          have XX := XN
          clear XN
          (try go_wp2_with fail)
          refine hKq.out _ _ (by exact fun q hq => XX.out.block q hq) (fun _ => ?_)
          clear hKq Kq
          (try simp only [Act.put, List.getElem_toArray, List.getElem_cons_succ, List.getElem_cons_zero, List.setIfInBounds_toArray, List.set_cons_zero, List.set_cons_succ])
          refine wpAnyH_take (i := 9) (v := ?_) rfl (by kernel_rfl) (by kernel_rfl) (by kernel_rfl) (fun _ _ _ h => h) (Or.inl ⟨by rfl, ?_⟩) (by assumption) ?_
          rotate_left
          · (intro w hSw; (try dsimp only at hSw); go_simp; try with_reducible rfl)
          simp only [Act.put, List.getElem_toArray, List.getElem_cons_succ, List.getElem_cons_zero, List.setIfInBounds_toArray, List.set_cons_zero, List.set_cons_succ]
          refine wpAnyH_take (i := 10) (v := ?_) rfl (by kernel_rfl) (by kernel_rfl) (by kernel_rfl) (fun _ _ _ h => h) (Or.inl ⟨by rfl, ?_⟩) (by assumption) ?_
          rotate_left
          · (intro w hSw; (try dsimp only at hSw); go_simp; try with_reducible rfl)
          simp only [Act.put, List.getElem_toArray, List.getElem_cons_succ, List.getElem_cons_zero, List.setIfInBounds_toArray, List.set_cons_zero, List.set_cons_succ]
          refine wpAnyH_take (i := 11) (v := ?_) rfl (by kernel_rfl) (by kernel_rfl) (by kernel_rfl) (fun _ _ _ h => h) (Or.inl ⟨by rfl, ?_⟩) (by assumption) ?_
          rotate_left
          · (intro w hSw; (try dsimp only at hSw); go_simp; try with_reducible rfl)
          simp only [Act.put, List.getElem_toArray, List.getElem_cons_succ, List.getElem_cons_zero, List.setIfInBounds_toArray, List.set_cons_zero, List.set_cons_succ]
          refine wpAnyH_ready (rs := [13]) (by kernel_rfl) (by simp) ?_
          refine AllReadyH.cons rfl (fun Kq hKq => ?_) AllReadyH.nil
          refine step_sig rfl (.tmp 10) (.tmp 43) rfl G 0 r (zeros 280) L rfl rfl YG.out LZ.out LL.out ?_
          have XN : Hid (Below N wB (wd.setCells G 0 (sg r L))) := below_setCells NG.out _ _ XX.out
          have YN : Hid (SB (wd.setCells G 0 (sg r L)) G r L) := sb_row YG.out (by rw [LZ.out, LL.out])
          clear XX YG
          have XX := XN
          have YG := YN
          clear XN YN
          generalize wd.setCells G 0 (sg r L) = wf at *
          refine hKq.out _ _ (by exact fun q hq => XX.out.block q hq) (fun _ => ?_)
          clear hKq Kq
          (try simp only [Act.put, List.getElem_toArray, List.getElem_cons_succ, List.getElem_cons_zero])
          refine wpAnyH_take (i := 14) (v := ?_) rfl (by kernel_rfl) (by kernel_rfl) (by kernel_rfl) (fun _ _ _ h => h) (Or.inl ⟨by rfl, ?_⟩) (by assumption) ?_
          rotate_left
          · (intro w hSw; (try dsimp only at hSw); go_simp; try with_reducible rfl)
          simp only [Act.put, List.getElem_toArray, List.getElem_cons_succ, List.getElem_cons_zero, List.setIfInBounds_toArray, List.set_cons_zero, List.set_cons_succ]
          refine wpAnyH_done (by kernel_rfl) ?_ _
          obtain ⟨N2, hN2⟩ : ∃ N2, wf.heap.size = N2 := ⟨_, rfl⟩
          have WN2 : Hid (wf.heap.size = N2) := hN2
          have LN2 : Hid (G < N2 ∧ S + 1 ≤ N2 ∧ N ≤ N2) := by show _ ∧ _ ∧ _; rw [← hN2]; exact ⟨sb_lt YG.out, by have := XX.out.size; have := WN.out; have := LN.out; omega, by have := XX.out.size; have := WN.out; omega⟩
          have GO : Hid (∀ q, v.ownBlock = some q → q < G) := fun q hq => by
            obtain ⟨cs, hcs⟩ := own_typeQ' OW.out q hq
            have h1 := lt_of_block hcs
            have h2 := WN.out
            have h3 := NG.out
            omega
          have OF : Hid (wf.ownsRow (S + 1) 45 282 v k ((sgnL m ws bs k).flatMap eS)) := own_keepQ OW.out (by rw [WN.out]; exact XX.out)
          have BF : Hid (Below S w wf) := KN.out _ XX.out
          have EF : Hid (BA wf S 32 m) := (XX.out.block _ (by have := LN.out; omega)).trans EQ.out
          have CF : Hid (∀ w' : World, (∀ q, q < S → w'.heap[q]? = wf.heap[q]?) → w'.cell? ⟨bw, ow + k, none⟩ = some (.int .i64 p)) := fun w' h => CW.out w' fun q hq => (h q hq).trans (XX.out.block q (by have := LN.out; omega))
          clear XX hN2
          go_wp2_with fail
          have XX : Hid (Below N2 wf wf.drew) := (Below.refl _ _).drew
          refine wp_region_held_drew (S := (fun w' : World => (∀ q, q < S → w'.heap[q]? = wf.heap[q]?) ∧ w'.heap[G]? = wf.heap[G]?)) (by kernel_rfl) (by exact ⟨fun _ _ => rfl, rfl⟩) (fun hHeld => ?_)
          refine wpAnyH_take (i := 0) (v := ?_) rfl (by kernel_rfl) (by kernel_rfl) (by kernel_rfl) (fun _ _ _ h => h) (Or.inl ⟨by rfl, ?_⟩) (by assumption) ?_
          rotate_left
          · (intro w hSw; (try dsimp only at hSw); go_simp; try with_reducible rfl)
          simp only [Act.put, List.getElem_toArray, List.getElem_cons_zero, List.setIfInBounds_toArray, List.set_cons_zero, List.set_cons_succ]
          refine wpAnyH_take (i := 1) (v := ?_) rfl (by kernel_rfl) (by kernel_rfl) (by kernel_rfl) (fun _ _ _ h => h) (Or.inl ⟨by rfl, ?_⟩) (by assumption) ?_
          rotate_left
          · (intro w hSw; (try dsimp only at hSw); go_simp; try with_reducible rfl)
          simp only [Act.put, List.getElem_toArray, List.getElem_cons_succ, List.getElem_cons_zero, List.setIfInBounds_toArray, List.set_cons_zero, List.set_cons_succ]
          refine wpAnyH_take (i := 2) (v := ?_) rfl (by kernel_rfl) (by kernel_rfl) (by kernel_rfl) (fun _ _ _ h => h) (Or.inl ⟨by rfl, ?_⟩) (by assumption) ?_
          rotate_left
          · (intro w hSw; (try dsimp only at hSw); go_simp; try with_reducible rfl)
          simp only [Act.put, List.getElem_toArray, List.getElem_cons_succ, List.getElem_cons_zero, List.setIfInBounds_toArray, List.set_cons_zero, List.set_cons_succ]
          refine wpAnyH_take (i := 3) (v := ?_) rfl (by kernel_rfl) (by kernel_rfl) (by kernel_rfl) (fun _ _ _ h => h) (Or.inl ⟨by rfl, ?_⟩) (by assumption) ?_
          rotate_left
          · (intro w hSw; (try dsimp only at hSw); go_simp; try with_reducible rfl)
          simp only [Act.put, List.getElem_toArray, List.getElem_cons_succ, List.getElem_cons_zero, List.setIfInBounds_toArray, List.set_cons_zero, List.set_cons_succ]
          refine wpAnyH_take (i := 4) (v := ?_) rfl (by kernel_rfl) (by kernel_rfl) (by kernel_rfl) (fun _ _ _ h => h) (Or.inl ⟨by rfl, ?_⟩) (by assumption) ?_
          rotate_left
          · (intro w hSw; (try dsimp only at hSw); have cw := CF.out w hSw.1; go_simp; try with_reducible rfl)
          simp only [Act.put, List.getElem_toArray, List.getElem_cons_succ, List.getElem_cons_zero, List.setIfInBounds_toArray, List.set_cons_zero, List.set_cons_succ]
          refine wpAnyH_take (i := 5) rfl (by kernel_rfl) (by kernel_rfl) (by kernel_rfl) (fun _ _ _ h => h) (yieldsIf_load_mid (by rfl) 43 (.tmp 10) rfl (G) (0) rfl (sg (r) L) _ (fun w h => sb_all (L := L) (h.2.trans YG.out)) Tryd.underlying43 rfl (sg_info _ _ LL.out)) (by assumption) ?_
          simp only [Act.put, List.getElem_toArray, List.getElem_cons_succ, List.getElem_cons_zero, List.setIfInBounds_toArray, List.set_cons_zero, List.set_cons_succ]
          clear hHeld
          generalize wf.drew = wc at *
          refine wpAnyH_ready (rs := [6]) (by kernel_rfl) (by simp) ?_
          refine AllReadyH.cons rfl (fun Kq hKq => ?_) AllReadyH.nil
          refine step_b45 rfl (.tmp 49) (.tmp 50) rfl p r L LL.out rfl rfl ?_
          refine hKq.out _ _ (by exact ⟨fun q hq => XX.out.block q (by have := LN2.out; omega), XX.out.block G (by have := LN2.out; omega)⟩) (fun _ => ?_)
          clear hKq Kq
          simp only [Act.put, List.getElem_toArray, List.getElem_cons_succ, List.getElem_cons_zero, List.setIfInBounds_toArray, List.set_cons_zero, List.set_cons_succ]
          refine wpAnyH_ready (rs := [7]) (by kernel_rfl) (by simp) ?_
          refine AllReadyH.cons rfl (fun Kq hKq => ?_) AllReadyH.nil
          obtain ⟨H, hH⟩ : ∃ H, wc.heap.size = H := ⟨_, rfl⟩
          refine step_bs45 rfl (.tmp 51) rfl ⟨p, r, L⟩ LL.out rfl ?_
          rw [hH]
          have P8 := Lib.hid (xb_new hH ⟨p, r, L⟩)
          have MG : Hid (N2 ≤ H) := by show _ ≤ _; rw [← hH, ← WN2.out]; exact XX.out.size
          have XN : Hid (Below N2 wf (wc.alloc (Obj.cells (eS ⟨p, r, L⟩).toArray 45))) := XX.out.alloc (by rw [hH]; exact MG.out) _
          clear XX
          have XX := XN
          clear XN hH
          generalize wc.alloc (Obj.cells (eS ⟨p, r, L⟩).toArray 45) = we at *
          refine hKq.out _ _ (by exact ⟨fun q hq => XX.out.block q (by have := LN2.out; omega), XX.out.block G (by have := LN2.out; omega)⟩) (fun _ => ?_)
          clear hKq Kq
          simp only [Act.put, List.getElem_toArray, List.getElem_cons_succ, List.getElem_cons_zero, List.setIfInBounds_toArray, List.set_cons_zero, List.set_cons_succ]
          refine wpAnyH_ready (rs := [8]) (by kernel_rfl) (by simp) ?_
          refine AllReadyH.cons rfl (fun Kq hKq => ?_) AllReadyH.nil
          have OE : Hid (we.ownsRow (S + 1) 45 282 v k ((sgnL m ws bs k).flatMap eS)) := own_keepQ OF.out (by rw [WN2.out]; exact XX.out)
          refine step_appS rfl (.tmp 45) (.tmp 52) rfl (S + 1) k 1 v _ rfl OE.out H 0 1 (eS ⟨p, r, L⟩) rfl (xb_all P8.out) (by rw [eS_len LL.out]) (eS_one _) (by have := HKN.out; have := HN64.out; omega) (by have := XX.out.size; have := WN2.out; have := LN2.out; omega) ?_
          intro A9 c9 w9 hown hg
          have O9 : Hid (w9.ownsRow (S + 1) 45 282 (.slice A9 (k + 1) c9) (k + 1) ((sgnL m ws bs (k + 1)).flatMap eS)) := by show World.ownsRow _ _ _ _ _ _ _; rw [sgnL_succ, HX.out, flat_snoc]; exact hown
          have NS : some S ≠ v.ownBlock := fun e => by have := own_baseQ OE.out _ e.symm; omega
          have SZ : Hid (N2 ≤ we.heap.size) := by show _ ≤ _; have := XX.out.size; have := WN2.out; omega
          have B8 : Hid (Below S w we) := BF.out.trans (XX.out.mono (by have := LN2.out; omega))
          have E9 : Hid (BA w9 S 32 m) := (hg.block S (by have := SZ.out; have := LN2.out; omega) NS).trans ((XX.out.block S (by have := LN2.out; omega)).trans EF.out)
          have Z9 : Hid (S + 1 ≤ w9.heap.size) := by show _ ≤ _; have := hg.size; have := SZ.out; have := LN2.out; omega
          have B9 : Hid (Below S w w9) := B8.out.grown hg (by have := SZ.out; have := LN2.out; omega) (fun q hq => by have := own_baseQ OE.out q hq; omega)
          have T9 : Hid ((∀ q, q < S → w9.heap[q]? = wf.heap[q]?) ∧ w9.heap[G]? = wf.heap[G]?) := ⟨fun q hq => (hg.block q (by have := SZ.out; have := LN2.out; omega) (fun e => by have := own_baseQ OE.out q e.symm; omega)).trans (XX.out.block q (by have := LN2.out; omega)), (hg.block G (by have := SZ.out; have := LN2.out; omega) (fun e => by have := GO.out G e.symm; omega)).trans (XX.out.block G (by have := LN2.out; omega))⟩
          clear hown hg NS
          refine hKq.out _ _ (by exact T9.out) (fun _ => ?_)
          clear hKq Kq
          simp only [Act.put, List.getElem_toArray, List.getElem_cons_succ, List.getElem_cons_zero, List.setIfInBounds_toArray, List.set_cons_zero, List.set_cons_succ]
          refine wpAnyH_take (i := 9) (v := ?_) rfl (by kernel_rfl) (by kernel_rfl) (by kernel_rfl) (fun _ _ _ h => h) (Or.inl ⟨by rfl, ?_⟩) (by assumption) ?_
          rotate_left
          · (intro w hSw; (try dsimp only at hSw); go_simp; try with_reducible rfl)
          simp only [Act.put, List.getElem_toArray, List.getElem_cons_succ, List.getElem_cons_zero, List.setIfInBounds_toArray, List.set_cons_zero, List.set_cons_succ]
          refine wpAnyH_done (by kernel_rfl) ?_ _
          go_wp2
          go_roundw
          case rel => exact ⟨k + 1, A9, c9, by have := HKN.out; omega, by go_num, rfl, O9.out, E9.out, B9.out, Z9.out⟩
          case measure => have := HKN.out; simp [intOf]; omega
    · obtain rfl : k = n := by omega
      go_wp2
      go_ret
      exact ⟨B, c, rfl, by rw [HS.out]; exact own_monoQ OR.out (by omega), by rw [HS.out]; exact BR.out⟩
end Go.Proofs.YtfneopmgckejdaaDoor
