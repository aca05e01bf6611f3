/-
  The document's own Sum.
-/
import Derived.Test.YtmcmdpbdipgahaaH10a
namespace Go.Proofs.Ytmcmdpbdipgahaa
open Go.RowKit
set_option maxRecDepth 100000
attribute [local irreducible] ua da ba kk sw S8.run rt hs comp splice outB sha

set_option maxRecDepth 100000 in
set_option maxHeartbeats 40000000 in
theorem c13 (A : Option Addr) (len cap : Nat) (xs : List Int) (w : World) (hx : Src w A len xs) (hA : A = none → cap = 0) (hm : len ≤ 400000) :
    Calls Try.prog 64 #[.slice A len cap] w fun e w' => e = .returned (.agg (ba (sha xs))) ∧ Below w.heap.size w w' := by
  obtain ⟨i0, hi, hz0, hz1, hz2⟩ := info_parts info5
  have HI := Lib.hid hi
  have HI0 := Lib.hid hz0
  have HI1 := Lib.hid hz1
  have HI2 := Lib.hid hz2
  clear hi hz0 hz1 hz2
  have h1 := z23
  have h2 := z44
  have h3 := z55
  have h4 := ua_ne
  have h5 : (ua (zeros 8)).size = 8 := by rw [ua_size, zeros_len]
  have HX := Lib.hid hx
  have HA := Lib.hid hA
  clear hx hA
  obtain ⟨S, hS⟩ : ∃ S, w.heap.size = S := ⟨_, rfl⟩
  have T0 : Hid ((w.alloc (Obj.cells (ba (zeros 32)) 114)).heap[S]? = some (.cells (ba (zeros 32)) 114 (0, 0))) := by subst hS; exact heap_alloc_last w _
  have T1 : Hid (((w.alloc (Obj.cells (ba (zeros 32)) 114)).alloc (Obj.cells (ua (zeros 8)) 121)).heap[S + 1]? = some (.cells (ua (zeros 8)) 121 (0, 0))) := by
    show _ = _
    subst hS
    have := heap_alloc_last (w.alloc (Obj.cells (ba (zeros 32)) 114)) (Obj.cells (ua (zeros 8)) 121)
    simp only [World.size_alloc] at this
    exact this
  go_enter Try.func64, Try.ntmps64
  go_wp2_with (first
    | (refine wpList_store_rowTo rfl 121 (.tmp 3) (.tmp 22) rfl rfl (S + 1) (((((((((ua (zeros 8)).setIfInBounds 0 (.int .u32 1779033703)).setIfInBounds 1 (.int .u32 3144134277)).setIfInBounds 2 (.int .u32 1013904242)).setIfInBounds 3 (.int .u32 2773480762)).setIfInBounds 4 (.int .u32 1359893119)).setIfInBounds 5 (.int .u32 2600822924)).setIfInBounds 6 (.int .u32 528734635)).setIfInBounds 7 (.int .u32 1541459225)) rfl rfl 121 (ua (zeros 8)) T1.out (sz s44 (by rw [ivA, ua_size]; rfl)) (by rw [ivA, ua_size, ua_size]; rfl) (by rw [ivA]; exact ua_one _) ?_
       rw [ivA]
       generalize hq : (((w.alloc (Obj.cells (ba (zeros 32)) 114)).alloc (Obj.cells (ua (zeros 8)) 121)).setRow (S + 1) (ua iv)) = wq
       have B1 : Hid (Below S w wq) := by
         rw [← hq]
         subst hS
         exact below_setRow (((Below.refl _ w).alloc (Nat.le_refl _) _).alloc (by simp) _) (by omega) _
       have R1 : Hid (BA wq S 114 (zeros 32)) := by
         rw [← hq]
         exact (setRow_other _ _ _ _ (by omega)).trans ((Below.heap_alloc _ _ _ (lt_of_block T0.out)).trans T0.out)
       have H1 : Hid (UA wq (S + 1) 121 iv) := by
         rw [← hq]
         exact setRow_heap _ _ _ _ _ _ T1.out
       clear hq)
    | (go_at_call 69
       refine (c27 wq).mono ?_
       rintro e w1 ⟨rfl, hb1⟩
       have R2 : Hid (BA w1 S 114 (zeros 32)) := (hb1.block _ (lt_of_block R1.out)).trans R1.out
       have H2 : Hid (UA w1 (S + 1) 121 iv) := (hb1.block _ (lt_of_block H1.out)).trans H1.out
       have B2 : Hid (Below S w w1) := B1.out.trans (hb1.mono (Nat.le_of_lt (lt_of_block R1.out)))
       have LS : Hid (S + 1 < w1.heap.size) := lt_of_block H2.out
       clear hb1
       obtain ⟨K, hK⟩ : ∃ K, w1.heap.size = K := ⟨_, rfl⟩)
    | (refine wpList_store_rowTo rfl 122 (.tmp 4) (.tmp 23) rfl rfl K (ua kk) rfl rfl 122 (ua (zeros 64)) (by subst hK; exact heap_alloc_last w1 _) (sz s55 (by rw [ua_size, kk_len])) (by rw [ua_size, ua_size, zeros_len, kk_len]) (ua_one _) ?_
       have HS : Hid (w.heap.size = S) := hS
       have HK : Hid (w1.heap.size = K) := hK
       generalize hq : (w1.alloc (Obj.cells (ua (zeros 64)) 122)).setRow K (ua kk) = w2
       have K3 : Hid (UA w2 K 122 kk) := by rw [← hq]; exact setRow_heap _ _ _ _ _ _ (by subst hK; exact heap_alloc_last w1 _)
       have BB : Hid (Below K w1 w2) := by rw [← hq]; subst hK; exact below_setRow ((Below.refl _ w1).alloc (Nat.le_refl _) _) (Nat.le_refl _) _
       have R3 : Hid (BA w2 S 114 (zeros 32)) := (BB.out.block _ (by have := LS.out; omega)).trans R2.out
       have H3 : Hid (UA w2 (S + 1) 121 iv) := (BB.out.block _ (by have := LS.out; omega)).trans H2.out
       have B3 : Hid (Below S w w2) := B2.out.trans (BB.out.mono (by have := LS.out; omega))
       have SK : Hid (S + 1 < K) := by show _ < _; rw [← hK]; exact LS.out
       have X3 : Hid (Src w2 A len xs) := HX.out.keep (fun k hk => B3.out.block k (by omega))
       clear hq hS hK R1 H1 B1 R2 H2 B2 LS BB T0 T1
       obtain ⟨Z, hZ⟩ : ∃ Z, w2.heap.size = Z := ⟨_, rfl⟩
       have KZ : Hid (K < Z) := by show _ < _; rw [← hZ]; exact lt_of_block K3.out
       have HZ := Lib.hid hZ)
    | (at_builtin; refine wpList_app rfl (.const (.slice none 0 0)) (.tmp 24) 106 rfl i0 Try.underlying106 HI.out HI0.out HI1.out HI2.out Z 0 (.slice none 0 0) [] rfl (own_nil w2 Z) A len cap xs rfl X3.out HA.out (by unfold maxLen; omega) (by omega) (by omega) ?_; intro A3 c3 w3 hown3 hg3 _; rw [Nat.zero_add, List.nil_append] at hown3; have O3 := Lib.hid hown3; have B4 : Hid (Below Z w2 w3) := (Below.refl Z w2).grown hg3 (by omega) (fun q hq => by simp [Value.ownBlock] at hq); clear hown3 hg3)
    | (at_builtin; refine wpList_app rfl (.tmp 25) (.tmp 26) 106 rfl i0 Try.underlying106 HI.out HI0.out HI1.out HI2.out Z len (.slice A3 len c3) xs rfl (O3.out.alloc _) (some ⟨w3.heap.size, 0, none⟩) 1 1 [128] rfl (src_one w3 128) (fun h => by cases h) (by unfold maxLen; omega) (by omega) (by have := B4.out.size; simp; omega) ?_; intro A5 c5 w5 hown5 hg5 _; have O5 := Lib.hid hown5; have B5 : Hid (Below Z w2 w5) := (B4.out.alloc (by have := B4.out.size; omega) (Obj.cells #[.int .u8 128] 5)).grown hg5 (by have := B4.out.size; simp; omega) (own_base O3.out); clear hown5 hg5)
    | fail)
  have RS5 : Hid (RS w S K Z A5 (len + 1) c5 (xs ++ 128 :: zeros 0) iv w5) := ⟨(B5.out.block S (by have := SK.out; have := KZ.out; omega)).trans R3.out, (B5.out.block _ (by have := SK.out; have := KZ.out; omega)).trans H3.out, (B5.out.block K KZ.out).trans K3.out, O5.out, B3.out.trans (B5.out.mono (by have := SK.out; have := KZ.out; omega)), by have := B5.out.size; omega⟩
  clear R3 H3 K3 O3 O5 B3 B4 B5 X3 hZ h2 h4 h5
  go_loopw [5] (fun v wr => ∃ (j l : Nat) (A' : Option Addr) (c : Nat), j ≤ room len ∧ l = len + 1 + j ∧ v = .slice A' l c ∧ RS w S K Z A' l c (xs ++ 128 :: zeros j) iv wr) (fun v _ => len + 1 + room len - (match v with | .slice _ l _ => l | _ => 0))
  case atStart => exact ⟨0, len + 1, A5, c5, Nat.zero_le _, rfl, rfl, RS5.out⟩
  case round =>
    clear RS5
    obtain ⟨j, l, A', c, hj, hl, rfl, hR⟩ := hrel
    have RR := Lib.hid hR
    have HJ := Lib.hid hj
    have HLL := Lib.hid hl
    have hre := room_end len j hj
    rw [show len + 1 + j = l from hl.symm] at hre
    have hl2 : l ≤ 400100 := by have : room len < 64 := Nat.mod_lt _ (by decide); omega
    obtain ⟨t, ht⟩ : ∃ t, l % 64 = t := ⟨_, rfl⟩
    rw [ht] at hre
    have q1 : (l : Int).tmod 64 = (t : Int) := by rw [Int.tmod_eq_emod_of_nonneg (by omega)]; omega
    clear hR hj hl ht
    by_cases h56 : t = 56
    · have hjr := Lib.hid (hre.1 h56)
      subst h56
      clear hre
      have q2 : (l : Int).tmod 64 = 56 := q1
      clear q1
      obtain ⟨N, hN⟩ : ∃ N : Nat, 8 * len = N := ⟨_, rfl⟩
      have q3 : (len : Int) * 8 = (N : Int) := by omega
      have q4 : (N : Int) < 18446744073709551616 := by omega
      have HNN := Lib.hid hN
      clear hN
      have RQ : Hid (RS w S K Z A' l c (xs ++ fill len ++ be N 0) iv wr) := by
        have := RR.out
        show RS _ _ _ _ _ _ _ _ _ _
        rw [hjr.out] at this
        simpa [fill, be] using this
      have HL2 : Hid (l = len + 1 + room len) := by show _ = _; rw [HLL.out, hjr.out]
      go_wp2_with fail
      go_loopw [6, 5] (fun i v wr => ∃ (k l : Nat) (A' : Option Addr) (c : Nat), k ≤ 8 ∧ l = len + 1 + room len + (8 - k) ∧ i = .int .i64 ((k : Int) - 1) ∧ v = .slice A' l c ∧ RS w S K Z A' l c (xs ++ fill len ++ be N (8 - k)) iv wr) (fun i _ _ => (intOf i + 1).toNat)
      case atStart => exact ⟨8, l, A', c, by omega, HL2.out, rfl, rfl, RQ.out⟩
      case round =>
        clear RR HJ HLL HL2 RQ hl2
        obtain ⟨k, l, A', c, hk, hl, rfl, rfl, hR⟩ := hrel
        have RR := Lib.hid hR
        have HLL := Lib.hid hl
        have hl2 : l ≤ 400100 := by have : room len < 64 := Nat.mod_lt _ (by decide); omega
        clear hR hl
        cases k with
        | succ j =>
          have hi : (((j + 1 : Nat) : Int) - 1) = j := by omega
          have h8 : (8 * (j : Int)).toNat = 8 * j := by omega
          have hmin : min (8 * j) 64 = 8 * j := by omega
          have hw : IntKind.u64.wrap (8 * (j : Int)) = 8 * (j : Int) := by rw [IntKind.wrap_u64]; omega
          rw [hi]
          go_wp2_with (at_builtin; refine wpList_app rfl (.tmp 39) (.tmp 49) 106 rfl i0 Try.underlying106 HI.out HI0.out HI1.out HI2.out Z l (.slice A' l c) (xs ++ fill len ++ be N (8 - (j + 1))) rfl (RR.out.o.alloc _) (some ⟨wr.heap.size, 0, none⟩) 1 1 [(N : Int) / 2 ^ (8 * j) % 256] rfl (src_one wr _) (fun h => by cases h) (by unfold maxLen; omega) (by omega) (by have := RR.out.z; simp; omega) ?_; intro A6 c6 w6 hown6 hg6 _; have O6 := Lib.hid hown6; have B6 : Hid (Below Z wr w6) := ((Below.refl Z wr).alloc RR.out.z _).grown hg6 (by have := RR.out.z; simp; omega) (own_base RR.out.o); clear hown6 hg6)
          have e7 : 8 - j = 8 - (j + 1) + 1 := by omega
          have e8 : 7 - (8 - (j + 1)) = j := by omega
          have RN : Hid (RS w S K Z A6 (l + 1) c6 (xs ++ fill len ++ be N (8 - j)) iv w6) := RR.out.step B6.out (by rw [e7, be_succ, e8, ← List.append_assoc]; exact O6.out) SK.out KZ.out
          have HLN : Hid (l + 1 = len + 1 + room len + (8 - j)) := by show _ = _; rw [e7, HLL.out]; rfl
          clear e7 e8
          go_roundw
          case rel => exact ⟨j, l + 1, A6, c6, by omega, HLN.out, by go_num, rfl, RN.out⟩
          case measure => simp [intOf]
        | zero =>
          obtain ⟨M, hM⟩ : ∃ M, pad xs = M := ⟨_, rfl⟩
          have hml : M.length = l := by rw [← hM, pad_len, HX.out.1, HLL.out]
          have hm64 : M.length % 64 = 0 := by rw [← hM]; exact pad_mod xs
          have RM : Hid (RS w S K Z A' l c M ivS.l wr) := by
            have := RR.out
            show RS _ _ _ _ _ _ _ _ _ _
            rw [← hM]
            unfold pad
            rw [HX.out.1, show 8 * (len : Int) = (N : Int) by rw [← HNN.out]; simp]
            exact this
          have HMM := Lib.hid hM
          have HML := Lib.hid hml
          rw [hml] at hm64
          obtain ⟨nb, hnb⟩ : ∃ nb, l = 64 * nb := ⟨l / 64, by omega⟩
          have HNB := Lib.hid hnb
          clear RR hM hml hm64 HLL hnb q2 q3 q4
          obtain ⟨g, rfl, hgz⟩ : ∃ g, A' = some ⟨g, 0, none⟩ ∧ Z ≤ g := own_row_ge RM.out.o (by have := HML.out; rw [← HMM.out, pad_len] at this; omega)
          have hz7 : ¬ (0 : Int) ≤ (((0 : Nat) : Int) - 1) := by omega
          generalize (((0 : Nat) : Int) - 1) = z7 at *
          go_wp2_with fail
          go_loopw [7, 8, 9, 10, 11, 12, 13, 14, 15, 16, 17, 18, 19] (fun i _ _ _ _ _ _ _ _ _ _ _ _ wr => ∃ k : Nat, k ≤ nb ∧ i = .int .i64 ((64 * k : Nat) : Int) ∧ RS w S K Z (some ⟨g, 0, none⟩) l c M (hs M k).l wr) (fun i _ _ _ _ _ _ _ _ _ _ _ _ _ => l - (intOf i).toNat)
          case atStart => exact ⟨0, Nat.zero_le _, rfl, by rw [hs0]; exact RM.out⟩
          case round =>
            clear RM
            obtain ⟨k, hk, rfl, hR⟩ := hrel
            have RR := Lib.hid hR
            clear hR
            by_cases hlt : k < nb
            · obtain ⟨a, ha⟩ : ∃ a, 64 * k = a := ⟨_, rfl⟩
              have hal : a + 64 ≤ l := by have := HNB.out; omega
              rw [ha]
              have q1 : (a : Int) < (l : Int) := by omega
              have HAK := Lib.hid ha
              clear ha
              obtain ⟨V, hV⟩ : ∃ V, wr.heap.size = V := ⟨_, rfl⟩
              obtain ⟨bk, hbk⟩ : ∃ bk, (M.drop (64 * k)).take 64 = bk := ⟨_, rfl⟩
              have HBK := Lib.hid hbk
              have ZV : Hid (Z ≤ V) := by show _ ≤ _; rw [← hV]; exact RR.out.z
              have R0 : Hid (RS w S K Z (some ⟨g, 0, none⟩) l c M (hs M k).l (wr.alloc (Obj.cells (ua (zeros 64)) 122)) ∧ UA (wr.alloc (Obj.cells (ua (zeros 64)) 122)) V 122 (fst bk 0 ++ zeros 64)) := by
                refine ⟨RR.out.step ((Below.refl Z wr).alloc RR.out.z _) (own_keep RR.out.o fun q hq => Below.heap_alloc wr _ q (own_lt RR.out.o q hq)) SK.out KZ.out, ?_⟩
                subst hV
                exact heap_alloc_last wr _
              have HV := Lib.hid hV
              have HGV : Hid (g ≠ V) := by show _ ≠ _; have := own_lt RR.out.o g rfl; omega
              clear RR hbk
              go_wp2_with fail
              go_loopw [9] (fun i wr => ∃ j : Nat, j ≤ 16 ∧ i = .int .i64 j ∧ RS w S K Z (some ⟨g, 0, none⟩) l c M (hs M k).l wr ∧ UA wr V 122 (fst bk j ++ zeros (64 - j))) (fun i _ => 16 - (intOf i).toNat)
              case atStart => exact ⟨0, Nat.zero_le _, rfl, R0.out.1, R0.out.2⟩
              case round =>
                clear R0
                obtain ⟨j, hj, rfl, hR, hU⟩ := hrel
                have RR := Lib.hid hR
                have UU := Lib.hid hU
                clear hR hU
                by_cases hjl : j < 16
                · exact arm16 SK KZ ZV HGV HML HAK HBK hal RR UU hjl hl2
                · have hj16 : j = 16 := by omega
                  have UQ : Hid (UA wr V 122 (sw bk 0 ++ zeros 48)) := by rw [sw0]; subst hj16; exact UU.out
                  have hn : ¬ (j : Int) < 16 := by omega
                  clear UU hj hjl hj16
                  generalize (j : Int) = z16 at *
                  go_wp2_with fail
                  go_loopw [10, 11, 12] (fun i _ _ wr => ∃ j : Nat, j ≤ 48 ∧ i = .int .i64 ((16 + j : Nat) : Int) ∧ RS w S K Z (some ⟨g, 0, none⟩) l c M (hs M k).l wr ∧ UA wr V 122 (sw bk j ++ zeros (48 - j))) (fun i _ _ _ => 64 - (intOf i).toNat)
                  case atStart => exact ⟨0, Nat.zero_le _, rfl, RR.out, UQ.out⟩
                  case round =>
                    clear RR UQ
                    obtain ⟨j, hj, rfl, hR, hU⟩ := hrel
                    have RR := Lib.hid hR
                    have UU := Lib.hid hU
                    clear hR hU
                    by_cases hjl : j < 48
                    · exact arm48 SK KZ ZV HGV RR UU hjl
                    · have hj48 : j = 48 := by omega
                      obtain ⟨ws, hws⟩ : ∃ ws, sw bk 48 = ws := ⟨_, rfl⟩
                      obtain ⟨s, hs8⟩ : ∃ s, hs M k = s := ⟨_, rfl⟩
                      have HS8 := Lib.hid hs8
                      have HWS := Lib.hid hws
                      have hwl : ws.length = 64 := by rw [← hws, sw_len]
                      have HWL := Lib.hid hwl
                      have U5 : Hid (UA wr V 122 ws) := by
                        have := UU.out
                        subst hj48
                        rw [show sw bk 48 ++ zeros (48 - 48) = sw bk 48 by simp [zeros], hws] at this
                        exact this
                      have R5 : Hid (RS w S K Z (some ⟨g, 0, none⟩) l c M s.l wr) := by rw [← hs8]; exact RR.out
                      have hn : ¬ (((16 + j : Nat) : Int)) < 64 := by omega
                      clear UU RR hj hjl hj48 hws hs8 hwl
                      generalize (((16 + j : Nat) : Int)) = z64 at *
                      have h2 := z44
                      obtain ⟨U, hU⟩ : ∃ U, wr.heap.size = U := ⟨_, rfl⟩
                      have VU : Hid (V < U) := by show _ < _; rw [← hU]; exact lt_of_block U5.out
                      have GU : Hid (g < U) := by show _ < _; rw [← hU]; exact own_lt R5.out.o g rfl
                      go_wp2_with (first
                        | (refine wpList_load_row rfl 121 (.tmp 3) rfl (S + 1) rfl 121 (ua s.l) (0, 0) _ R5.out.h Try.underlying121 rfl (sz s44 (by rw [ua_size]; rfl)) ?_)
                        | (refine wpList_store_rowTo rfl 121 (.tmp 13) (.tmp 145) rfl rfl U (ua s.l) rfl rfl 121 (ua (zeros 8)) (by subst hU; exact heap_alloc_last wr _) (sz s44 (by rw [ua_size]; rfl)) (by rw [ua_size, ua_size]; rfl) (ua_one _) ?_
                           generalize hq : (wr.alloc (Obj.cells (ua (zeros 8)) 121)).setRow U (ua s.l) = wv
                           have BZ : Hid (Below U wr wv) := by rw [← hq]; subst hU; exact below_setRow ((Below.refl _ wr).alloc (Nat.le_refl _) _) (Nat.le_refl _) _
                           have U6 : Hid (UA wv U 121 (s.run ws 0).l) := by rw [S8.run0]; show _ = _; rw [← hq]; exact setRow_heap _ _ _ _ _ _ (by subst hU; exact heap_alloc_last wr _)
                           have V6 : Hid (UA wv V 122 ws) := (BZ.out.block V VU.out).trans U5.out
                           have R6 : Hid (RS w S K Z (some ⟨g, 0, none⟩) l c M s.l wv) := R5.out.step (BZ.out.mono (by have := VU.out; have := ZV.out; omega)) (own_keep R5.out.o fun q hq => by simp [Value.ownBlock] at hq; subst hq; exact BZ.out.block _ GU.out) SK.out KZ.out
                           clear hq)
                        | fail)
                      clear U5 R5 hU h2
                      go_loopw [14, 15, 16, 17, 18] (fun i _ _ _ _ wr => ∃ j : Nat, j ≤ 64 ∧ i = .int .i64 j ∧ RS w S K Z (some ⟨g, 0, none⟩) l c M s.l wr ∧ UA wr V 122 ws ∧ UA wr U 121 (s.run ws j).l) (fun i _ _ _ _ _ => 64 - (intOf i).toNat)
                      case atStart => exact ⟨0, Nat.zero_le _, rfl, R6.out, V6.out, U6.out⟩
                      case round =>
                        clear R6 V6 U6
                        obtain ⟨j, hj, rfl, hR, hV, hU⟩ := hrel
                        obtain ⟨r, hr⟩ : ∃ r, s.run ws j = r := ⟨_, rfl⟩
                        rw [hr] at hU
                        have HR := Lib.hid hr
                        have RR := Lib.hid hR
                        have VV := Lib.hid hV
                        have UU := Lib.hid hU
                        clear hR hV hU hr
                        by_cases hjl : j < 64
                        · exact arm64 SK KZ ZV VU GU HWL HR RR VV UU hjl
                        · have hj64 : j = 64 := by omega
                          have HJ64 := Lib.hid hj64
                          have hn : ¬ (j : Int) < 64 := by omega
                          clear hj hjl hj64 VV
                          generalize (j : Int) = z64 at *
                          have RM0 : Hid (RS w S K Z (some ⟨g, 0, none⟩) l c M (mixd s.l r.l 0) wr) := by rw [mixd_none]; exact RR.out
                          go_wp2_with fail
                          go_loopw [19] (fun i wr => ∃ j : Nat, j ≤ 8 ∧ i = .int .i64 j ∧ RS w S K Z (some ⟨g, 0, none⟩) l c M (mixd s.l r.l j) wr ∧ UA wr U 121 r.l) (fun i _ => 8 - (intOf i).toNat)
                          case atStart => exact ⟨0, Nat.zero_le _, rfl, RM0.out, UU.out⟩
                          case round =>
                            clear RM0 UU RR
                            obtain ⟨j, hj, rfl, hR, hU⟩ := hrel
                            by_cases hjl : j < 8
                            · have x0 := ua_cell hR.h j (by rw [mixd_len]; exact hjl)
                              have x1 := ua_cell hU j (by show j < 8; exact hjl)
                              have f0 : wr.drew.frozen? ⟨S + 1, j, none⟩ = false := free_of hR.h j
                              have c0 : wr.drew.cell? ⟨S + 1, j, none⟩ = _ := x0
                              rw [mixd_get _ _ _ hjl] at x0 c0
                              have N1 : Hid (RS w S K Z (some ⟨g, 0, none⟩) l c M (mixd s.l r.l (j + 1)) (wr.drew.setCell ⟨S + 1, j, none⟩ (.int .u32 ((s.l.getD j 0 + r.l.getD j 0) % 4294967296)))) := by
                                have := hR.setH SK.out KZ.out j ((s.l.getD j 0 + r.l.getD j 0) % 4294967296)
                                rw [mixd_set] at this
                                exact this
                              have N2 : Hid (UA (wr.drew.setCell ⟨S + 1, j, none⟩ (.int .u32 ((s.l.getD j 0 + r.l.getD j 0) % 4294967296))) U 121 r.l) := heap_else j _ (by have := SK.out; have := KZ.out; have := ZV.out; have := VU.out; omega) hU
                              have q1 : (j : Int) < 8 := by omega
                              clear hR hU
                              generalize s.l.getD j 0 = sj at *
                              generalize r.l.getD j 0 = rj at *
                              go_wp2_with fail
                              go_still_tail 9, (by kernel_rfl)
                              change wpList _ _ _ _ _ wr.drew
                              generalize wr.drew = wp at *
                              go_wp2
                              go_roundw
                              case rel => exact ⟨j + 1, by omega, by go_num, N1.out, N2.out⟩
                              case measure => simp [intOf]; omega
                            · obtain rfl : j = 8 := by omega
                              have RN : Hid (RS w S K Z (some ⟨g, 0, none⟩) l c M (hs M (k + 1)).l wr) := by
                                have e : mixd s.l r.l 8 = (hs M (k + 1)).l := by
                                  rw [hs1, HBK.out, HS8.out, comp_eq, HWS.out, ← HJ64.out, HR.out, mixd_all]
                                rw [← e]
                                exact hR
                              have HKK : Hid (((a : Int) + 64) = ((64 * (k + 1) : Nat) : Int)) := by show _ = _; have := HAK.out; omega
                              clear hR hU
                              go_wp2
                              go_roundw
                              case rel => exact ⟨k + 1, by omega, by rw [← HKK.out], RN.out⟩
                              case measure => simp [intOf]; omega
            · have hkn : k = nb := by omega
              have RE : Hid (RS w S K Z (some ⟨g, 0, none⟩) l c M (hs M nb).l wr) := by rw [← hkn]; exact RR.out
              have hn : ¬ (((64 * k : Nat) : Int)) < (l : Int) := by have := HNB.out; omega
              clear RR hk hlt hkn
              generalize (((64 * k : Nat) : Int)) = zl at *
              have HSH : Hid (sha xs = outB (hs M nb) 32) := by
                show _ = _
                rw [sha_eq, HMM.out, HML.out, HNB.out, Nat.mul_div_cancel_left _ (by decide)]
              generalize hs M nb = s at *
              obtain ⟨Q, hQ⟩ : ∃ Q, wr.heap.size = Q := ⟨_, rfl⟩
              have ZQ : Hid (Z ≤ Q) := by show _ ≤ _; rw [← hQ]; exact RE.out.z
              have R7 : Hid (BA (wr.alloc (Obj.cells (ba (zeros 32)) 114)) S 114 (zeros 32) ∧ UA (wr.alloc (Obj.cells (ba (zeros 32)) 114)) (S + 1) 121 s.l ∧ BA (wr.alloc (Obj.cells (ba (zeros 32)) 114)) Q 114 (outB s 0 ++ zeros (32 - 0)) ∧ Below S w (wr.alloc (Obj.cells (ba (zeros 32)) 114))) := by
                refine ⟨(Below.heap_alloc _ _ _ (lt_of_block RE.out.r)).trans RE.out.r, (Below.heap_alloc _ _ _ (lt_of_block RE.out.h)).trans RE.out.h, ?_, RE.out.b.alloc (by have := lt_of_block RE.out.r; omega) _⟩
                subst hQ
                rw [outB0]
                exact heap_alloc_last wr _
              clear RE
              go_wp2_with fail
              go_loopw [21] (fun i wr => ∃ j : Nat, j ≤ 32 ∧ i = .int .i64 j ∧ BA wr S 114 (zeros 32) ∧ UA wr (S + 1) 121 s.l ∧ BA wr Q 114 (outB s j ++ zeros (32 - j)) ∧ Below S w wr) (fun i _ => 32 - (intOf i).toNat)
              case atStart => exact ⟨0, Nat.zero_le _, rfl, R7.out⟩
              case round =>
                clear R7
                obtain ⟨j, hj, rfl, hR, hH, hO, hB⟩ := hrel
                by_cases hjl : j < 32
                · obtain ⟨q, hq⟩ : ∃ q, j / 4 = q := ⟨_, rfl⟩
                  obtain ⟨r, hr⟩ : ∃ r, j % 4 = r := ⟨_, rfl⟩
                  obtain ⟨t, ht⟩ : ∃ t, 24 - 8 * r = t := ⟨_, rfl⟩
                  have x0 := ua_cell hH q (by show q < 8; omega)
                  have c0 := ba_cell hO j (by rw [List.length_append, outB_len, zeros_len]; omega)
                  have f0 := free_of hO j
                  have N1 : Hid (BA (wr.setCell ⟨Q, j, none⟩ (.int .u8 (s.l.getD q 0 / 2 ^ t % 256))) Q 114 (outB s (j + 1) ++ zeros (32 - (j + 1)))) := by
                    have := ba_set hO j (s.l.getD q 0 / 2 ^ t % 256)
                    rw [set_pad _ _ _ _ (outB_len s j) (by omega)] at this
                    show BA _ _ _ _
                    rw [outB_succ, hq, hr, ht]
                    exact this
                  have hSQ : S + 1 < Q := by have := SK.out; have := KZ.out; have := ZQ.out; omega
                  have N2 : Hid (BA (wr.setCell ⟨Q, j, none⟩ (.int .u8 (s.l.getD q 0 / 2 ^ t % 256))) S 114 (zeros 32)) := heap_else j _ (by omega) hR
                  have N3 : Hid (UA (wr.setCell ⟨Q, j, none⟩ (.int .u8 (s.l.getD q 0 / 2 ^ t % 256))) (S + 1) 121 s.l) := heap_else j _ (by omega) hH
                  have N4 : Hid (Below S w (wr.setCell ⟨Q, j, none⟩ (.int .u8 (s.l.getD q 0 / 2 ^ t % 256)))) := hB.setCell (by show S ≤ Q; omega) _
                  clear hR hH hO hB hSQ
                  generalize s.l.getD q 0 = v at *
                  have e1 : (j : Int).tdiv 4 = (q : Int) := by rw [Int.tdiv_eq_ediv_of_nonneg (by omega)]; omega
                  have e2 : (j : Int).tmod 4 = (r : Int) := by rw [Int.tmod_eq_emod_of_nonneg (by omega)]; omega
                  have e3 : 24 - 8 * (r : Int) = (t : Int) := by omega
                  have e4 : min t 32 = t := by omega
                  have e5 : (q : Int) < 8 := by omega
                  have e6 : (j : Int) < 32 := by omega
                  have e7 : 8 * (r : Int) ≤ 24 := by omega
                  have e8 : IntKind.u64.wrap (t : Int) = (t : Int) := by rw [IntKind.wrap_u64]; omega
                  clear hq hr ht
                  go_wp2
                  go_roundw
                  case rel => exact ⟨j + 1, by omega, by go_num, N2.out, N3.out, N1.out, N4.out⟩
                  case measure => simp [intOf]; omega
                · obtain rfl : j = 32 := by omega
                  have HT := Lib.hid hR
                  have BL := Lib.hid hB
                  have HU : Hid (wr.heap[Q]? = some (.cells (ba (sha xs)) 114 (0, 0))) := by
                    show _ = _
                    rw [HSH.out]
                    have : BA wr Q 114 (outB s 32 ++ zeros 0) := hO
                    rw [show outB s 32 ++ zeros 0 = outB s 32 by simp [zeros]] at this
                    exact this
                  clear hR hH hO hB
                  have h32 : Hid ((ba (sha xs)).size = 32) := by show _ = _; rw [ba_size, sha_len]
                  go_wp2_with (first
                    | (refine wpList_load_row rfl 114 (.tmp 20) rfl Q rfl 114 (ba (sha xs)) (0, 0) _ HU.out Try.underlying114 rfl (sz s23 h32.out) ?_)
                    | (refine wpList_store_rowTo rfl 114 (.tmp 2) (.tmp 258) rfl rfl S (ba (sha xs)) rfl rfl 114 (ba (zeros 32)) HT.out (sz s23 h32.out) (by rw [h32.out, ba_size]; rfl) (ba_one _) ?_))
                  refine bodyPost_ret (v := .agg (ba (sha xs))) (results_cell_row rfl _ _ S 114 _ (0, 0) _ rfl (setRow_heap _ _ _ _ _ _ HT.out) Try.underlying114 rfl (sz s23 h32.out)) rfl ⟨rfl, ?_⟩
                  rw [HS.out]
                  exact below_setRow BL.out (Nat.le_refl _) _
    · have hjr : j < room len := by
        have := HJ.out
        rcases Nat.lt_or_ge j (room len) with h | h
        · exact h
        · exact absurd (hre.2 (by omega)) h56
      have q2 : ¬ (t : Int) = 56 := by omega
      clear hre
      go_wp2_with (at_builtin; refine wpList_app rfl (.tmp 32) (.tmp 33) 106 rfl i0 Try.underlying106 HI.out HI0.out HI1.out HI2.out Z l (.slice A' l c) (xs ++ 128 :: zeros j) rfl (RR.out.o.alloc _) (some ⟨wr.heap.size, 0, none⟩) 1 1 [0] rfl (src_one wr 0) (fun h => by cases h) (by unfold maxLen; omega) (by omega) (by have := RR.out.z; simp; omega) ?_; intro A6 c6 w6 hown6 hg6 _; have O6 := Lib.hid hown6; have B6 : Hid (Below Z wr w6) := ((Below.refl Z wr).alloc RR.out.z _).grown hg6 (by have := RR.out.z; simp; omega) (own_base RR.out.o); clear hown6 hg6)
      have RN : Hid (RS w S K Z A6 (l + 1) c6 (xs ++ 128 :: zeros (j + 1)) iv w6) := RR.out.step B6.out (by rw [zeros_succ]; simpa using O6.out) SK.out KZ.out
      have HLN : Hid (l + 1 = len + 1 + (j + 1)) := by show _ = _; rw [HLL.out]; rfl
      go_roundw
      case rel => exact ⟨j + 1, l + 1, A6, c6, by omega, HLN.out, rfl, RN.out⟩
      case measure => simp; have := HLL.out; omega
end Go.Proofs.Ytmcmdpbdipgahaa
