/-
  The document's own Sum.
-/
import Derived.Test.YtmcmdpbdipgahaaHB
namespace Go.Proofs.Ytmcmdpbdipgahaa
open Go.RowKit
set_option maxRecDepth 100000
theorem own_row_ge {w : World} {base : Nat} {A : Option Addr} {n c : Nat} {xs : List Value} (h : w.ownsRow base 5 1 (.slice A n c) n xs) (hn : 0 < n) : ∃ g, A = some ⟨g, 0, none⟩ ∧ base ≤ g := by
  obtain ⟨hl, hc⟩ := h
  rcases hc with ⟨h1, h2⟩ | ⟨g, cap, cur, h1, hb, hg, _⟩
  · simp at h1; omega
  · simp at h1; exact ⟨g, h1.1, hb⟩
/-- the words of a chunk in a long row -/
theorem word_at (m : List Int) (k i : Nat) (hi : i < 16) (_ : 64 * k + 64 ≤ m.length) : word ((m.drop (64 * k)).take 64) i = w4 (m.getD (64 * k + 4 * i) 0) (m.getD (64 * k + 4 * i + 1) 0) (m.getD (64 * k + 4 * i + 2) 0) (m.getD (64 * k + 4 * i + 3) 0) := by
  have h : ∀ j, j < 64 → ((m.drop (64 * k)).take 64).getD j 0 = m.getD (64 * k + j) 0 := by
    intro j hj
    simp [List.getD, hj]
  unfold word
  rw [h _ (by omega), h _ (by omega), h _ (by omega), h _ (by omega)]
  simp only [Nat.add_assoc]
/-- what the rows of the sum on its way are -/
structure RS (w : World) (S K Z : Nat) (A : Option Addr) (l c : Nat) (m : List Int) (hh : List Int) (wr : World) : Prop where
  r : BA wr S 114 (zeros 32)
  h : UA wr (S + 1) 121 hh
  k : UA wr K 122 kk
  o : wr.ownsRow Z 5 1 (.slice A l c) l (bvals m)
  b : Below S w wr
  z : Z ≤ wr.heap.size
theorem RS.step {w wr w6 : World} {S K Z : Nat} {A A6 : Option Addr} {l l6 c c6 : Nat} {m m6 hh : List Int} (h : RS w S K Z A l c m hh wr) (hb : Below Z wr w6) (ho : w6.ownsRow Z 5 1 (.slice A6 l6 c6) l6 (bvals m6)) (sk : S + 1 < K) (kz : K < Z) : RS w S K Z A6 l6 c6 m6 hh w6 :=
  ⟨(hb.block S (by omega)).trans h.r, (hb.block _ (by omega)).trans h.h, (hb.block K kz).trans h.k, ho, h.b.trans (hb.mono (by omega)), Nat.le_trans h.z hb.size⟩
theorem RS.setV {w wr : World} {S K Z V g : Nat} {l c : Nat} {m hh : List Int} (h : RS w S K Z (some ⟨g, 0, none⟩) l c m hh wr) (hV : Z ≤ V) (hg : g ≠ V) (sk : S + 1 < K) (kz : K < Z) (i : Nat) (u : Value) : RS w S K Z (some ⟨g, 0, none⟩) l c m hh (wr.drew.setCell ⟨V, i, none⟩ u) := by
  have hb : Below Z wr (wr.drew.setCell ⟨V, i, none⟩ u) := (Below.refl Z wr).drew.setCell hV u
  refine h.step hb (own_keep h.o fun q hq => ?_) sk kz
  simp [Value.ownBlock] at hq
  subst hq
  exact heap_setCell_other wr.drew ⟨V, i, none⟩ g u hg
theorem RS.drewN {w wr : World} {S K Z : Nat} {A : Option Addr} {l c : Nat} {m hh : List Int} (h : RS w S K Z A l c m hh wr) (n : Nat) : RS w S K Z A l c m hh (wr.drewN n) := ⟨h.r, h.h, h.k, own_keep h.o fun _ _ => rfl, below_drewN h.b n, h.z⟩
theorem pad_len (xs : List Int) : (pad xs).length = xs.length + 1 + room xs.length + 8 := by
  unfold pad fill
  simp only [List.length_append, List.length_cons, zeros_len, be_len]
  omega
theorem pad_mod (xs : List Int) : (pad xs).length % 64 = 0 := by
  rw [pad_len]
  unfold room
  omega
theorem room_end (n j : Nat) (hj : j ≤ room n) : (n + 1 + j) % 64 = 56 ↔ j = room n := by
  unfold room at *
  omega
theorem ua_ne : ¬ ua (zeros 8) = #[] := fun e => by have := congrArg Array.size e; rw [ua_size, zeros_len] at this; cases this
theorem ivA : ((((((((ua (zeros 8)).setIfInBounds 0 (.int .u32 1779033703)).setIfInBounds 1 (.int .u32 3144134277)).setIfInBounds 2 (.int .u32 1013904242)).setIfInBounds 3 (.int .u32 2773480762)).setIfInBounds 4 (.int .u32 1359893119)).setIfInBounds 5 (.int .u32 2600822924)).setIfInBounds 6 (.int .u32 528734635)).setIfInBounds 7 (.int .u32 1541459225) = ua iv := by simp only [set_ua]; rfl
theorem sw0 (bk : List Int) : sw bk 0 = fst bk 16 := rfl
theorem comp_eq (s : S8) (bg : List Int) : comp s bg = s.add (s.run (sw bg 48) 64) := rfl
theorem sha_eq (m : List Int) : sha m = outB (hs (pad m) ((pad m).length / 64)) 32 := rfl
theorem outB0 (s : S8) : outB s 0 ++ zeros (32 - 0) = zeros 32 := rfl
theorem zeros_succ (n : Nat) : zeros (n + 1) = zeros n ++ [0] := by unfold zeros; rw [List.replicate_succ']
theorem RS.setH {w wr : World} {S K Z g : Nat} {l c : Nat} {m hh : List Int} (h : RS w S K Z (some ⟨g, 0, none⟩) l c m hh wr) (sk : S + 1 < K) (kz : K < Z) (i : Nat) (x : Int) : RS w S K Z (some ⟨g, 0, none⟩) l c m (hh.set i x) (wr.drew.setCell ⟨S + 1, i, none⟩ (.int .u32 x)) := by
  have hg : Z ≤ g := own_base h.o g rfl
  refine ⟨heap_else i _ (by omega) h.r, ua_set (w := wr.drew) h.h i x, heap_else i _ (by omega) h.k, own_keep h.o fun q hq => ?_, h.b.drew.setCell (by show S ≤ S + 1; omega) _, by simpa using h.z⟩
  simp [Value.ownBlock] at hq
  subst hq
  exact heap_setCell_other wr.drew ⟨S + 1, i, none⟩ g _ (by show g ≠ S + 1; omega)
theorem sw1 (bk : List Int) (j : Nat) : sw bk (j + 1) = sw bk j ++ [nxt (sw bk j) (16 + j)] := rfl
theorem q28 (x k : Int) (w : World) (h : okR k = true) : Calls Try.prog 70 #[.int .u32 x, .int .u64 k] w fun e w' => e = .returned (.int .u32 (rt x k)) ∧ w' = w := (r28 x k w h).mono fun _ _ h => ⟨h.1, h.2.symm⟩
theorem hs0 (M : List Int) : hs M 0 = ivS := rfl
theorem hs1 (M : List Int) (k : Nat) : hs M (k + 1) = comp (hs M k) ((M.drop (64 * k)).take 64) := rfl
theorem row_cell {w : World} {base g n c : Nat} {xs : List Int} (h : w.ownsRow base 5 1 (.slice (some ⟨g, 0, none⟩) n c) n (bvals xs)) (i : Nat) (hi : i < n) : w.cell? ⟨g, i, none⟩ = some (.int .u8 (xs.getD i 0)) := by
  have hl : xs.length = n := by have := h.1; simpa [bvals] using this
  rw [h.cellAt i (by omega)]
  simp [bvals, List.getD, show i < xs.length by omega]
theorem kk_len : kk.length = 64 := rfl
/-- the bodies of all loops, the outer ones first -/
def loops : Code → List Code
  | .loop c => c :: loops c
  | .seq a b => loops a ++ loops b
  | .block _ c => loops c
  | .scope c => loops c
  | .cond _ a b => loops a ++ loops b
  | _ => []
noncomputable def lb (n : Nat) : Code := (((Try.f64.body.map loops).getD []).getD n .skip)
attribute [local irreducible] ua da ba kk sw S8.run rt hs comp splice outB sha

theorem es_eq (s : S8) (ws : List Int) (j : Nat) (r : S8) (kj wj : Int) (hk : kk.getD j 0 = kj) (hw : ws.getD j 0 = wj) (hr : s.run ws j = r) : #[Value.int .u32 ((r.h + bits .xor .u32 (bits .xor .u32 (rt r.e 6) (rt r.e 11)) (rt r.e 25) + bits .xor .u32 (bits .and .u32 r.e r.f) (bits .and .u32 (bits .xor .u32 IntKind.u32.max r.e) r.g) + kj + wj + (bits .xor .u32 (bits .xor .u32 (rt r.a 2) (rt r.a 13)) (rt r.a 22) + bits .xor .u32 (bits .xor .u32 (bits .and .u32 r.a r.b) (bits .and .u32 r.a r.c)) (bits .and .u32 r.b r.c))) % 4294967296), .int .u32 r.a, .int .u32 r.b, .int .u32 r.c, .int .u32 ((r.d + (r.h + bits .xor .u32 (bits .xor .u32 (rt r.e 6) (rt r.e 11)) (rt r.e 25) + bits .xor .u32 (bits .and .u32 r.e r.f) (bits .and .u32 (bits .xor .u32 IntKind.u32.max r.e) r.g) + kj + wj)) % 4294967296), .int .u32 r.e, .int .u32 r.f, .int .u32 r.g] = ua (s.run ws (j + 1)).l := by
  have e1 : (r.h + bits .xor .u32 (bits .xor .u32 (rt r.e 6) (rt r.e 11)) (rt r.e 25) + bits .xor .u32 (bits .and .u32 r.e r.f) (bits .and .u32 (bits .xor .u32 IntKind.u32.max r.e) r.g) + kj + wj + (bits .xor .u32 (bits .xor .u32 (rt r.a 2) (rt r.a 13)) (rt r.a 22) + bits .xor .u32 (bits .xor .u32 (bits .and .u32 r.a r.b) (bits .and .u32 r.a r.c)) (bits .and .u32 r.b r.c))) % 4294967296 = (t1 r kj wj + t2 r) % 4294967296 := by unfold t1 t2 bs1 ch bs0 maj; omega
  have e2 : (r.d + (r.h + bits .xor .u32 (bits .xor .u32 (rt r.e 6) (rt r.e 11)) (rt r.e 25) + bits .xor .u32 (bits .and .u32 r.e r.f) (bits .and .u32 (bits .xor .u32 IntKind.u32.max r.e) r.g) + kj + wj)) % 4294967296 = (r.d + t1 r kj wj) % 4294967296 := by unfold t1 bs1 ch; omega
  rw [e1, e2, S8.run1, hk, hw, hr, ua_l]
  rfl
set_option maxRecDepth 100000 in
set_option maxHeartbeats 40000000 in
theorem arm16 {A A' A3 A5 : Option Addr} {K S V Z a c c3 c5 cap cq g j k l len lq : Nat} {M bk : List Int} {u10 u100 u101 u102 u103 u104 u105 u106 u107 u108 u109 u11 u110 u111 u112 u113 u114 u115 u116 u117 u118 u119 u12 u120 u121 u122 u123 u124 u125 u126 u127 u128 u129 u13 u130 u131 u132 u133 u134 u135 u136 u137 u138 u139 u14 u140 u141 u142 u143 u144 u145 u146 u147 u148 u149 u15 u150 u151 u152 u153 u154 u155 u156 u157 u158 u159 u16 u160 u161 u162 u163 u164 u165 u166 u167 u168 u169 u17 u170 u171 u172 u173 u174 u175 u176 u177 u178 u179 u18 u180 u181 u182 u183 u184 u185 u186 u187 u188 u189 u19 u190 u191 u192 u193 u194 u195 u196 u197 u198 u199 u200 u201 u202 u203 u204 u205 u206 u207 u208 u209 u210 u211 u212 u213 u214 u215 u216 u217 u218 u219 u220 u221 u222 u223 u224 u225 u226 u227 u228 u229 u230 u231 u232 u233 u234 u235 u236 u237 u238 u239 u240 u32 u33 u34 u37 u38 u39 u40 u41 u42 u43 u44 u45 u46 u47 u48 u49 u50 u55 u56 u57 u58 u59 u60 u61 u62 u63 u64 u65 u66 u67 u68 u69 u70 u71 u72 u73 u74 u75 u76 u77 u78 u79 u80 u81 u82 u83 u84 u85 u86 u87 u88 u89 u90 u91 u92 u93 u94 u95 u96 u97 u98 u99 : Value} {w w3 wr : World} {z7 : Int} {Q0 : Exit → Act → World → Prop} (SK : Hid (S + 1 < K)) (KZ : Hid (K < Z)) (ZV : Hid (Z ≤ V)) (HGV : Hid (g ≠ V)) (HML : Hid (M.length = l)) (HAK : Hid (64 * k = a)) (HBK : Hid (List.take 64 (List.drop (64 * k) M) = bk)) (hal : a + 64 ≤ l) (RR : Hid (RS w S K Z (some { block := g, off := 0 }) l c M (hs M k).l wr)) (UU : Hid (UA wr V 122 (fst bk j ++ zeros (64 - j)))) (hjl : j < 16) (hl2 : l ≤ 400100) : Code.wp Try.prog (lb 3)
    (Exit.then
      (fun a' w' =>
        (∃ u9 u57 u58 u59 u60 u61 u62 u63 u64 u65 u66 u67 u68 u69 u70 u71 u72 u73 u74 u75 u76 u77 u78 u79 u80 u81 u82
            u83 u84 u85 u86 u87 u88 u89 u90 u91 u92 u93 u94 u95 u96 u97 u98 u99 u100 u101 u102 u103,
            (∃ (j : Nat),
                j ≤ 16 ∧
                  u9 = Value.int IntKind.i64 ↑j ∧
                    RS w S K Z (some { block := g, off := 0 }) l c M (hs M k).l w' ∧
                      UA w' V 122 (fst bk j ++ zeros (64 - j))) ∧
              a' =
                {
                  tmps :=
                    #[Value.slice A len cap, undef, Value.pointer (some { block := S, off := 0 }),
                      Value.pointer (some { block := S + 1, off := 0 }), Value.pointer (some { block := K, off := 0 }),
                      Value.slice (some { block := g, off := 0 }) l c, Value.int IntKind.i64 z7,
                      Value.int IntKind.i64 ↑a, Value.pointer (some { block := V, off := 0 }), u9, u10, u11, u12, u13,
                      u14, u15, u16, u17, u18, u19, undef, undef, Value.agg (ua iv), Value.agg (ua kk),
                      Value.slice A len cap, Value.slice A3 len c3,
                      Value.slice (some { block := w3.heap.size, off := 0 }) 1 1, Value.slice A5 (len + 1) c5,
                      Value.slice A' lq cq, Value.int IntKind.i64 ↑lq, Value.int IntKind.i64 56, Value.bool false, u32,
                      u33, u34, Value.int IntKind.i64 z7, Value.bool false, u37, u38, u39, u40, u41, u42, u43, u44, u45,
                      u46, u47, u48, u49, u50, Value.int IntKind.i64 ↑a,
                      Value.slice (some { block := g, off := 0 }) l c, Value.int IntKind.i64 ↑l, Value.bool true, u55,
                      u56, u57, u58, u59, u60, u61, u62, u63, u64, u65, u66, u67, u68, u69, u70, u71, u72, u73, u74,
                      u75, u76, u77, u78, u79, u80, u81, u82, u83, u84, u85, u86, u87, u88, u89, u90, u91, u92, u93,
                      u94, u95, u96, u97, u98, u99, u100, u101, u102, u103, u104, u105, u106, u107, u108, u109, u110,
                      u111, u112, u113, u114, u115, u116, u117, u118, u119, u120, u121, u122, u123, u124, u125, u126,
                      u127, u128, u129, u130, u131, u132, u133, u134, u135, u136, u137, u138, u139, u140, u141, u142,
                      u143, u144, u145, u146, u147, u148, u149, u150, u151, u152, u153, u154, u155, u156, u157, u158,
                      u159, u160, u161, u162, u163, u164, u165, u166, u167, u168, u169, u170, u171, u172, u173, u174,
                      u175, u176, u177, u178, u179, u180, u181, u182, u183, u184, u185, u186, u187, u188, u189, u190,
                      u191, u192, u193, u194, u195, u196, u197, u198, u199, u200, u201, u202, u203, u204, u205, u206,
                      u207, u208, u209, u210, u211, u212, u213, u214, u215, u216, u217, u218, u219, u220, u221, u222,
                      u223, u224, u225, u226, u227, u228, u229, u230, u231, u232, u233, u234, u235, u236, u237, u238,
                      u239, u240, undef, undef, undef, undef, undef, undef, undef, undef, undef, undef, undef, undef,
                      undef, undef, undef, undef, undef, undef],
                  defers := [] }) ∧
          16 - (intOf (a'.tmps.getD 9 undef)).toNat <
            16 -
              (intOf
                  (#[Value.slice A len cap, undef, Value.pointer (some { block := S, off := 0 }),
                        Value.pointer (some { block := S + 1, off := 0 }),
                        Value.pointer (some { block := K, off := 0 }), Value.slice (some { block := g, off := 0 }) l c,
                        Value.int IntKind.i64 z7, Value.int IntKind.i64 ↑a,
                        Value.pointer (some { block := V, off := 0 }), Value.int IntKind.i64 ↑j, u10, u11, u12, u13,
                        u14, u15, u16, u17, u18, u19, undef, undef, Value.agg (ua iv), Value.agg (ua kk),
                        Value.slice A len cap, Value.slice A3 len c3,
                        Value.slice (some { block := w3.heap.size, off := 0 }) 1 1, Value.slice A5 (len + 1) c5,
                        Value.slice A' lq cq, Value.int IntKind.i64 ↑lq, Value.int IntKind.i64 56, Value.bool false,
                        u32, u33, u34, Value.int IntKind.i64 z7, Value.bool false, u37, u38, u39, u40, u41, u42, u43,
                        u44, u45, u46, u47, u48, u49, u50, Value.int IntKind.i64 ↑a,
                        Value.slice (some { block := g, off := 0 }) l c, Value.int IntKind.i64 ↑l, Value.bool true, u55,
                        u56, u57, u58, u59, u60, u61, u62, u63, u64, u65, u66, u67, u68, u69, u70, u71, u72, u73, u74,
                        u75, u76, u77, u78, u79, u80, u81, u82, u83, u84, u85, u86, u87, u88, u89, u90, u91, u92, u93,
                        u94, u95, u96, u97, u98, u99, u100, u101, u102, u103, u104, u105, u106, u107, u108, u109, u110,
                        u111, u112, u113, u114, u115, u116, u117, u118, u119, u120, u121, u122, u123, u124, u125, u126,
                        u127, u128, u129, u130, u131, u132, u133, u134, u135, u136, u137, u138, u139, u140, u141, u142,
                        u143, u144, u145, u146, u147, u148, u149, u150, u151, u152, u153, u154, u155, u156, u157, u158,
                        u159, u160, u161, u162, u163, u164, u165, u166, u167, u168, u169, u170, u171, u172, u173, u174,
                        u175, u176, u177, u178, u179, u180, u181, u182, u183, u184, u185, u186, u187, u188, u189, u190,
                        u191, u192, u193, u194, u195, u196, u197, u198, u199, u200, u201, u202, u203, u204, u205, u206,
                        u207, u208, u209, u210, u211, u212, u213, u214, u215, u216, u217, u218, u219, u220, u221, u222,
                        u223, u224, u225, u226, u227, u228, u229, u230, u231, u232, u233, u234, u235, u236, u237, u238,
                        u239, u240, undef, undef, undef, undef, undef, undef, undef, undef, undef, undef, undef, undef,
                        undef, undef, undef, undef, undef, undef].getD
                    9 undef)).toNat)
      Q0)
    {
      tmps :=
        #[Value.slice A len cap, undef, Value.pointer (some { block := S, off := 0 }),
          Value.pointer (some { block := S + 1, off := 0 }), Value.pointer (some { block := K, off := 0 }),
          Value.slice (some { block := g, off := 0 }) l c, Value.int IntKind.i64 z7, Value.int IntKind.i64 ↑a,
          Value.pointer (some { block := V, off := 0 }), Value.int IntKind.i64 ↑j, u10, u11, u12, u13, u14, u15, u16,
          u17, u18, u19, undef, undef, Value.agg (ua iv), Value.agg (ua kk), Value.slice A len cap,
          Value.slice A3 len c3, Value.slice (some { block := w3.heap.size, off := 0 }) 1 1,
          Value.slice A5 (len + 1) c5, Value.slice A' lq cq, Value.int IntKind.i64 ↑lq, Value.int IntKind.i64 56,
          Value.bool false, u32, u33, u34, Value.int IntKind.i64 z7, Value.bool false, u37, u38, u39, u40, u41, u42,
          u43, u44, u45, u46, u47, u48, u49, u50, Value.int IntKind.i64 ↑a,
          Value.slice (some { block := g, off := 0 }) l c, Value.int IntKind.i64 ↑l, Value.bool true, u55, u56, u57,
          u58, u59, u60, u61, u62, u63, u64, u65, u66, u67, u68, u69, u70, u71, u72, u73, u74, u75, u76, u77, u78, u79,
          u80, u81, u82, u83, u84, u85, u86, u87, u88, u89, u90, u91, u92, u93, u94, u95, u96, u97, u98, u99, u100,
          u101, u102, u103, u104, u105, u106, u107, u108, u109, u110, u111, u112, u113, u114, u115, u116, u117, u118,
          u119, u120, u121, u122, u123, u124, u125, u126, u127, u128, u129, u130, u131, u132, u133, u134, u135, u136,
          u137, u138, u139, u140, u141, u142, u143, u144, u145, u146, u147, u148, u149, u150, u151, u152, u153, u154,
          u155, u156, u157, u158, u159, u160, u161, u162, u163, u164, u165, u166, u167, u168, u169, u170, u171, u172,
          u173, u174, u175, u176, u177, u178, u179, u180, u181, u182, u183, u184, u185, u186, u187, u188, u189, u190,
          u191, u192, u193, u194, u195, u196, u197, u198, u199, u200, u201, u202, u203, u204, u205, u206, u207, u208,
          u209, u210, u211, u212, u213, u214, u215, u216, u217, u218, u219, u220, u221, u222, u223, u224, u225, u226,
          u227, u228, u229, u230, u231, u232, u233, u234, u235, u236, u237, u238, u239, u240, undef, undef, undef,
          undef, undef, undef, undef, undef, undef, undef, undef, undef, undef, undef, undef, undef, undef, undef],
      defers := [] }
    wr := by
  conv => arg 2; whnf
  have E : word bk j = w4 (M.getD (a + 4 * j) 0) (M.getD (a + 4 * j + 1) 0) (M.getD (a + 4 * j + 2) 0) (M.getD (a + 4 * j + 3) 0) := by
    rw [← HBK.out, word_at M k j hjl (by rw [HML.out]; have := HAK.out; omega), HAK.out]
  have x0 := row_cell RR.out.o (a + 4 * j) (by omega)
  have x1 := row_cell RR.out.o (a + 4 * j + 1) (by omega)
  have x2 := row_cell RR.out.o (a + 4 * j + 2) (by omega)
  have x3 := row_cell RR.out.o (a + 4 * j + 3) (by omega)
  generalize M.getD (a + 4 * j) 0 = b0 at *
  generalize M.getD (a + 4 * j + 1) 0 = b1 at *
  generalize M.getD (a + 4 * j + 2) 0 = b2 at *
  generalize M.getD (a + 4 * j + 3) 0 = b3 at *
  have c0 : wr.drew.cell? _ = _ := ua_cell UU.out j (by rw [List.length_append, fst_len, zeros_len]; omega)
  have f0 : wr.drew.frozen? _ = _ := free_of UU.out j
  have N1 : Hid (UA (wr.drew.setCell ⟨V, j, none⟩ (.int .u32 (word bk j))) V 122 (fst bk (j + 1) ++ zeros (64 - (j + 1)))) := by
    have := ua_set (w := wr.drew) UU.out j (word bk j)
    rw [set_pad _ _ _ _ (fst_len bk j) (by omega), ← fst_succ] at this
    exact this
  have N2 : Hid (RS w S K Z (some ⟨g, 0, none⟩) l c M (hs M k).l (wr.drew.setCell ⟨V, j, none⟩ (.int .u32 (word bk j)))) := RR.out.setV ZV.out (by intro e; subst e; exact HGV.out rfl) SK.out KZ.out j _
  rw [E] at N1 N2
  obtain ⟨p4, hp4⟩ : ∃ p, 4 * j = p := ⟨_, rfl⟩
  obtain ⟨p0, hp0⟩ : ∃ p, a + 4 * j = p := ⟨_, rfl⟩
  obtain ⟨p1, hp1⟩ : ∃ p, a + 4 * j + 1 = p := ⟨_, rfl⟩
  obtain ⟨p2, hp2⟩ : ∃ p, a + 4 * j + 2 = p := ⟨_, rfl⟩
  obtain ⟨p3, hp3⟩ : ∃ p, a + 4 * j + 3 = p := ⟨_, rfl⟩
  rw [hp0] at x0
  rw [hp1] at x1
  rw [hp2] at x2
  rw [hp3] at x3
  have e4 : 4 * (j : Int) = (p4 : Int) := by omega
  have e0 : (a : Int) + (p4 : Int) = (p0 : Int) := by omega
  have e1 : (p0 : Int) + 1 = (p1 : Int) := by omega
  have e2 : (p0 : Int) + 2 = (p2 : Int) := by omega
  have e3 : (p0 : Int) + 3 = (p3 : Int) := by omega
  have v4 : IntKind.i64.wrap (p4 : Int) = p4 := by rw [IntKind.wrap_i64]; omega
  have v0 : IntKind.i64.wrap (p0 : Int) = p0 := by rw [IntKind.wrap_i64]; omega
  have v1 : IntKind.i64.wrap (p1 : Int) = p1 := by rw [IntKind.wrap_i64]; omega
  have v2 : IntKind.i64.wrap (p2 : Int) = p2 := by rw [IntKind.wrap_i64]; omega
  have v3 : IntKind.i64.wrap (p3 : Int) = p3 := by rw [IntKind.wrap_i64]; omega
  have l0 : (p0 : Int) < (l : Int) := by omega
  have l1 : (p1 : Int) < (l : Int) := by omega
  have l2 : (p2 : Int) < (l : Int) := by omega
  have l3 : (p3 : Int) < (l : Int) := by omega
  have l4 : (j : Int) < 64 := by omega
  clear hp4 hp0 hp1 hp2 hp3 E
  go_wp2_with fail
  go_still_tail 43, (by kernel_rfl)
  change wpList _ _ _ _ _ wr.drew
  generalize wr.drew = wq at *
  go_wp2
  go_roundw
  case rel => exact ⟨j + 1, by omega, by go_num, N2.out, N1.out⟩
  case measure => simp [intOf]; omega
set_option maxRecDepth 100000 in
set_option maxHeartbeats 40000000 in
theorem arm48 {A A' A3 A5 : Option Addr} {K S V Z a c c3 c5 cap cq g j k l len lq : Nat} {M bk : List Int} {u100 u101 u102 u103 u104 u105 u106 u107 u108 u109 u11 u110 u111 u112 u113 u114 u115 u116 u117 u118 u119 u12 u120 u121 u122 u123 u124 u125 u126 u127 u128 u129 u13 u130 u131 u132 u133 u134 u135 u136 u137 u138 u139 u14 u140 u141 u142 u143 u144 u145 u146 u147 u148 u149 u15 u150 u151 u152 u153 u154 u155 u156 u157 u158 u159 u16 u160 u161 u162 u163 u164 u165 u166 u167 u168 u169 u17 u170 u171 u172 u173 u174 u175 u176 u177 u178 u179 u18 u180 u181 u182 u183 u184 u185 u186 u187 u188 u189 u19 u190 u191 u192 u193 u194 u195 u196 u197 u198 u199 u200 u201 u202 u203 u204 u205 u206 u207 u208 u209 u210 u211 u212 u213 u214 u215 u216 u217 u218 u219 u220 u221 u222 u223 u224 u225 u226 u227 u228 u229 u230 u231 u232 u233 u234 u235 u236 u237 u238 u239 u240 u32 u33 u34 u37 u38 u39 u40 u41 u42 u43 u44 u45 u46 u47 u48 u49 u50 u55 u56 u59 u60 u61 u62 u63 u64 u65 u66 u67 u68 u69 u70 u71 u72 u73 u74 u75 u76 u77 u78 u79 u80 u81 u82 u83 u84 u85 u86 u87 u88 u89 u90 u91 u92 u93 u94 u95 u96 u97 u98 u99 : Value} {w w3 wr : World} {z16 z7 : Int} {Q0 : Exit → Act → World → Prop} (SK : Hid (S + 1 < K)) (KZ : Hid (K < Z)) (ZV : Hid (Z ≤ V)) (HGV : Hid (g ≠ V)) (RR : Hid (RS w S K Z (some { block := g, off := 0 }) l c M (hs M k).l wr)) (UU : Hid (UA wr V 122 (sw bk j ++ zeros (48 - j)))) (hjl : j < 48) : Code.wp Try.prog (lb 4)
    (Exit.then
      (fun a' w' =>
        (∃ u10 u11 u12 u104 u105 u106 u107 u108 u109 u110 u111 u112 u113 u114 u115 u116 u117 u118 u119 u120 u121 u122
            u123 u124 u125 u126 u127 u128 u129 u130 u131 u132 u133 u134 u135 u136 u137 u138 u139 u140 u141 u142 u143
            u144,
            (∃ (j : Nat),
                j ≤ 48 ∧
                  u10 = Value.int IntKind.i64 ((16 + j : Nat) : Int) ∧
                    RS w S K Z (some { block := g, off := 0 }) l c M (hs M k).l w' ∧
                      UA w' V 122 (sw bk j ++ zeros (48 - j))) ∧
              a' =
                {
                  tmps :=
                    #[Value.slice A len cap, undef, Value.pointer (some { block := S, off := 0 }),
                      Value.pointer (some { block := S + 1, off := 0 }), Value.pointer (some { block := K, off := 0 }),
                      Value.slice (some { block := g, off := 0 }) l c, Value.int IntKind.i64 z7,
                      Value.int IntKind.i64 ↑a, Value.pointer (some { block := V, off := 0 }),
                      Value.int IntKind.i64 z16, u10, u11, u12, u13, u14, u15, u16, u17, u18, u19, undef, undef,
                      Value.agg (ua iv), Value.agg (ua kk), Value.slice A len cap, Value.slice A3 len c3,
                      Value.slice (some { block := w3.heap.size, off := 0 }) 1 1, Value.slice A5 (len + 1) c5,
                      Value.slice A' lq cq, Value.int IntKind.i64 ↑lq, Value.int IntKind.i64 56, Value.bool false, u32,
                      u33, u34, Value.int IntKind.i64 z7, Value.bool false, u37, u38, u39, u40, u41, u42, u43, u44, u45,
                      u46, u47, u48, u49, u50, Value.int IntKind.i64 ↑a,
                      Value.slice (some { block := g, off := 0 }) l c, Value.int IntKind.i64 ↑l, Value.bool true, u55,
                      u56, Value.int IntKind.i64 z16, Value.bool false, u59, u60, u61, u62, u63, u64, u65, u66, u67,
                      u68, u69, u70, u71, u72, u73, u74, u75, u76, u77, u78, u79, u80, u81, u82, u83, u84, u85, u86,
                      u87, u88, u89, u90, u91, u92, u93, u94, u95, u96, u97, u98, u99, u100, u101, u102, u103, u104,
                      u105, u106, u107, u108, u109, u110, u111, u112, u113, u114, u115, u116, u117, u118, u119, u120,
                      u121, u122, u123, u124, u125, u126, u127, u128, u129, u130, u131, u132, u133, u134, u135, u136,
                      u137, u138, u139, u140, u141, u142, u143, u144, u145, u146, u147, u148, u149, u150, u151, u152,
                      u153, u154, u155, u156, u157, u158, u159, u160, u161, u162, u163, u164, u165, u166, u167, u168,
                      u169, u170, u171, u172, u173, u174, u175, u176, u177, u178, u179, u180, u181, u182, u183, u184,
                      u185, u186, u187, u188, u189, u190, u191, u192, u193, u194, u195, u196, u197, u198, u199, u200,
                      u201, u202, u203, u204, u205, u206, u207, u208, u209, u210, u211, u212, u213, u214, u215, u216,
                      u217, u218, u219, u220, u221, u222, u223, u224, u225, u226, u227, u228, u229, u230, u231, u232,
                      u233, u234, u235, u236, u237, u238, u239, u240, undef, undef, undef, undef, undef, undef, undef,
                      undef, undef, undef, undef, undef, undef, undef, undef, undef, undef, undef],
                  defers := [] }) ∧
          64 - (intOf (a'.tmps.getD 10 undef)).toNat <
            64 -
              (intOf
                  (#[Value.slice A len cap, undef, Value.pointer (some { block := S, off := 0 }),
                        Value.pointer (some { block := S + 1, off := 0 }),
                        Value.pointer (some { block := K, off := 0 }), Value.slice (some { block := g, off := 0 }) l c,
                        Value.int IntKind.i64 z7, Value.int IntKind.i64 ↑a,
                        Value.pointer (some { block := V, off := 0 }), Value.int IntKind.i64 z16,
                        Value.int IntKind.i64 ((16 + j : Nat) : Int), u11, u12, u13, u14, u15, u16, u17, u18, u19, undef, undef,
                        Value.agg (ua iv), Value.agg (ua kk), Value.slice A len cap, Value.slice A3 len c3,
                        Value.slice (some { block := w3.heap.size, off := 0 }) 1 1, Value.slice A5 (len + 1) c5,
                        Value.slice A' lq cq, Value.int IntKind.i64 ↑lq, Value.int IntKind.i64 56, Value.bool false,
                        u32, u33, u34, Value.int IntKind.i64 z7, Value.bool false, u37, u38, u39, u40, u41, u42, u43,
                        u44, u45, u46, u47, u48, u49, u50, Value.int IntKind.i64 ↑a,
                        Value.slice (some { block := g, off := 0 }) l c, Value.int IntKind.i64 ↑l, Value.bool true, u55,
                        u56, Value.int IntKind.i64 z16, Value.bool false, u59, u60, u61, u62, u63, u64, u65, u66, u67,
                        u68, u69, u70, u71, u72, u73, u74, u75, u76, u77, u78, u79, u80, u81, u82, u83, u84, u85, u86,
                        u87, u88, u89, u90, u91, u92, u93, u94, u95, u96, u97, u98, u99, u100, u101, u102, u103, u104,
                        u105, u106, u107, u108, u109, u110, u111, u112, u113, u114, u115, u116, u117, u118, u119, u120,
                        u121, u122, u123, u124, u125, u126, u127, u128, u129, u130, u131, u132, u133, u134, u135, u136,
                        u137, u138, u139, u140, u141, u142, u143, u144, u145, u146, u147, u148, u149, u150, u151, u152,
                        u153, u154, u155, u156, u157, u158, u159, u160, u161, u162, u163, u164, u165, u166, u167, u168,
                        u169, u170, u171, u172, u173, u174, u175, u176, u177, u178, u179, u180, u181, u182, u183, u184,
                        u185, u186, u187, u188, u189, u190, u191, u192, u193, u194, u195, u196, u197, u198, u199, u200,
                        u201, u202, u203, u204, u205, u206, u207, u208, u209, u210, u211, u212, u213, u214, u215, u216,
                        u217, u218, u219, u220, u221, u222, u223, u224, u225, u226, u227, u228, u229, u230, u231, u232,
                        u233, u234, u235, u236, u237, u238, u239, u240, undef, undef, undef, undef, undef, undef, undef,
                        undef, undef, undef, undef, undef, undef, undef, undef, undef, undef, undef].getD
                    10 undef)).toNat)
      Q0)
    {
      tmps :=
        #[Value.slice A len cap, undef, Value.pointer (some { block := S, off := 0 }),
          Value.pointer (some { block := S + 1, off := 0 }), Value.pointer (some { block := K, off := 0 }),
          Value.slice (some { block := g, off := 0 }) l c, Value.int IntKind.i64 z7, Value.int IntKind.i64 ↑a,
          Value.pointer (some { block := V, off := 0 }), Value.int IntKind.i64 z16, Value.int IntKind.i64 ((16 + j : Nat) : Int),
          u11, u12, u13, u14, u15, u16, u17, u18, u19, undef, undef, Value.agg (ua iv), Value.agg (ua kk),
          Value.slice A len cap, Value.slice A3 len c3, Value.slice (some { block := w3.heap.size, off := 0 }) 1 1,
          Value.slice A5 (len + 1) c5, Value.slice A' lq cq, Value.int IntKind.i64 ↑lq, Value.int IntKind.i64 56,
          Value.bool false, u32, u33, u34, Value.int IntKind.i64 z7, Value.bool false, u37, u38, u39, u40, u41, u42,
          u43, u44, u45, u46, u47, u48, u49, u50, Value.int IntKind.i64 ↑a,
          Value.slice (some { block := g, off := 0 }) l c, Value.int IntKind.i64 ↑l, Value.bool true, u55, u56,
          Value.int IntKind.i64 z16, Value.bool false, u59, u60, u61, u62, u63, u64, u65, u66, u67, u68, u69, u70, u71,
          u72, u73, u74, u75, u76, u77, u78, u79, u80, u81, u82, u83, u84, u85, u86, u87, u88, u89, u90, u91, u92, u93,
          u94, u95, u96, u97, u98, u99, u100, u101, u102, u103, u104, u105, u106, u107, u108, u109, u110, u111, u112,
          u113, u114, u115, u116, u117, u118, u119, u120, u121, u122, u123, u124, u125, u126, u127, u128, u129, u130,
          u131, u132, u133, u134, u135, u136, u137, u138, u139, u140, u141, u142, u143, u144, u145, u146, u147, u148,
          u149, u150, u151, u152, u153, u154, u155, u156, u157, u158, u159, u160, u161, u162, u163, u164, u165, u166,
          u167, u168, u169, u170, u171, u172, u173, u174, u175, u176, u177, u178, u179, u180, u181, u182, u183, u184,
          u185, u186, u187, u188, u189, u190, u191, u192, u193, u194, u195, u196, u197, u198, u199, u200, u201, u202,
          u203, u204, u205, u206, u207, u208, u209, u210, u211, u212, u213, u214, u215, u216, u217, u218, u219, u220,
          u221, u222, u223, u224, u225, u226, u227, u228, u229, u230, u231, u232, u233, u234, u235, u236, u237, u238,
          u239, u240, undef, undef, undef, undef, undef, undef, undef, undef, undef, undef, undef, undef, undef, undef,
          undef, undef, undef, undef],
      defers := [] }
    wr := by
  conv => arg 2; whnf
  have HL0 : Hid ((sw bk j).length = 16 + j) := sw_len bk j
  have x1 := ua_cell UU.out (j + 1) (by rw [List.length_append, HL0.out, zeros_len]; omega)
  have x14 := ua_cell UU.out (j + 14) (by rw [List.length_append, HL0.out, zeros_len]; omega)
  rw [getD_pad _ _ _ (by rw [HL0.out]; omega)] at x1 x14
  have E : Hid (nxt (sw bk j) (16 + j) = ((sw bk j).getD j 0 + sg0 ((sw bk j).getD (j + 1) 0) + (sw bk j).getD (j + 9) 0 + sg1 ((sw bk j).getD (j + 14) 0)) % 4294967296) := by
    show _ = _
    unfold nxt
    rw [show 16 + j - 16 = j by omega, show 16 + j - 15 = j + 1 by omega, show 16 + j - 7 = j + 9 by omega, show 16 + j - 2 = j + 14 by omega]
  generalize (sw bk j).getD (j + 1) 0 = a1 at *
  generalize (sw bk j).getD (j + 14) 0 = a14 at *
  obtain ⟨i, hi⟩ : ∃ i : Nat, 16 + j = i := ⟨_, rfl⟩
  obtain ⟨k1, hk1⟩ : ∃ i : Nat, j + 1 = i := ⟨_, rfl⟩
  obtain ⟨k9, hk9⟩ : ∃ i : Nat, j + 9 = i := ⟨_, rfl⟩
  obtain ⟨k14, hk14⟩ : ∃ i : Nat, j + 14 = i := ⟨_, rfl⟩
  rw [hk1] at x1
  rw [hk14] at x14
  rw [hi]
  have e16 : (i : Int) - 16 = (j : Int) := by omega
  have e15 : (i : Int) - 15 = (k1 : Int) := by omega
  have e7 : (i : Int) - 7 = (k9 : Int) := by omega
  have e2 : (i : Int) - 2 = (k14 : Int) := by omega
  have b0 : (i : Int) < 64 := by omega
  have b1 : (k1 : Int) < 64 := by omega
  have b2 : (k9 : Int) < 64 := by omega
  have b3 : (k14 : Int) < 64 := by omega
  have b4 : (j : Int) < 64 := by omega
  have wk : IntKind.i64.wrap (j : Int) = (j : Int) := by rw [IntKind.wrap_i64]; omega
  have w9 : IntKind.i64.wrap (k9 : Int) = (k9 : Int) := by rw [IntKind.wrap_i64]; omega
  have HII : Hid (16 + j = i) := hi
  have H9 : Hid (j + 9 = k9) := hk9
  clear hk1 hk9 hk14 hi
  go_wp2_with fail
  go_quiet (fail)
  generalize hq : wr.drewN _ = wq
  have U1 : UA wq V 122 (sw bk j ++ zeros (48 - j)) := by rw [← hq]; exact UU.out
  have R1 : RS w S K Z (some ⟨g, 0, none⟩) l c M (hs M k).l wq := by rw [← hq]; exact RR.out.drewN _
  have c0 : wq.drew.cell? _ = _ := ua_cell U1 i (by rw [List.length_append, HL0.out, zeros_len]; omega)
  have f0 : wq.drew.frozen? _ = _ := free_of U1 i
  have x0 := ua_cell U1 j (by rw [List.length_append, HL0.out, zeros_len]; omega)
  have x9 := ua_cell U1 (j + 9) (by rw [List.length_append, HL0.out, zeros_len]; omega)
  rw [getD_pad _ _ _ (by rw [HL0.out]; omega)] at x0 x9
  have E := E.out
  rw [H9.out] at x9 E
  generalize (sw bk j).getD j 0 = a0 at *
  generalize (sw bk j).getD k9 0 = a9 at *
  have N1 : Hid (UA (wq.drew.setCell ⟨V, i, none⟩ (.int .u32 (nxt (sw bk j) (16 + j)))) V 122 (sw bk (j + 1) ++ zeros (48 - (j + 1)))) := by
    have := ua_set (w := wq.drew) U1 i (nxt (sw bk j) (16 + j))
    rw [← HII.out, show 48 - j = 64 - (16 + j) by omega, set_pad _ 64 (16 + j) _ HL0.out (by omega)] at this
    show UA _ _ _ _
    rw [← HII.out, sw1, show 48 - (j + 1) = 64 - (16 + j + 1) by omega]
    exact this
  have N2 : Hid (RS w S K Z (some ⟨g, 0, none⟩) l c M (hs M k).l (wq.drew.setCell ⟨V, i, none⟩ (.int .u32 (nxt (sw bk j) (16 + j))))) := R1.setV ZV.out HGV.out SK.out KZ.out i _
  rw [E] at N1 N2
  clear U1 R1 hq E
  go_wp2_with fail
  refine wp_region_still_tail 29 (by kernel_rfl) (by kernel_rfl) ?_
  simp only [List.take_succ_cons, List.take_zero, List.drop_succ_cons, List.drop_zero]
  repeat still_step
  still_call (q28 a1 7 _ (by decide))
  repeat still_step
  still_call (q28 a1 18 _ (by decide))
  repeat still_step
  still_call (q28 a14 17 _ (by decide))
  repeat still_step
  still_call (q28 a14 19 _ (by decide))
  repeat still_step
  refine wpStill_nil ?_
  change wpList _ _ _ _ _ wq.drew
  generalize wq.drew = wp at *
  go_wp2
  go_roundw
  case rel => exact ⟨j + 1, by omega, by have := HII.out; go_num, N2.out, N1.out⟩
  case measure => simp [intOf]; omega
set_option maxRecDepth 100000 in
set_option maxHeartbeats 40000000 in
theorem arm64 {A A' A3 A5 : Option Addr} {K S U V Z a c c3 c5 cap cq g j l len lq : Nat} {M ws : List Int} {r s : S8} {u100 u101 u102 u103 u106 u107 u108 u109 u11 u110 u111 u112 u113 u114 u115 u116 u117 u118 u119 u12 u120 u121 u122 u123 u124 u125 u126 u127 u128 u129 u130 u131 u132 u133 u134 u135 u136 u137 u138 u139 u140 u141 u142 u143 u144 u146 u147 u148 u149 u15 u150 u151 u152 u153 u154 u155 u156 u157 u158 u159 u16 u160 u161 u162 u163 u164 u165 u166 u167 u168 u169 u17 u170 u171 u172 u173 u174 u175 u176 u177 u178 u179 u18 u180 u181 u182 u183 u184 u185 u186 u187 u188 u189 u19 u190 u191 u192 u193 u194 u195 u196 u197 u198 u199 u200 u201 u202 u203 u204 u205 u206 u207 u208 u209 u210 u211 u212 u213 u214 u215 u216 u217 u218 u219 u220 u221 u222 u223 u224 u225 u226 u227 u228 u229 u230 u231 u232 u233 u234 u235 u236 u237 u238 u239 u240 u32 u33 u34 u37 u38 u39 u40 u41 u42 u43 u44 u45 u46 u47 u48 u49 u50 u55 u56 u59 u60 u61 u62 u63 u64 u65 u66 u67 u68 u69 u70 u71 u72 u73 u74 u75 u76 u77 u78 u79 u80 u81 u82 u83 u84 u85 u86 u87 u88 u89 u90 u91 u92 u93 u94 u95 u96 u97 u98 u99 : Value} {w w3 wr : World} {z16 z64 z7 : Int} {Q0 : Exit → Act → World → Prop} (SK : Hid (S + 1 < K)) (KZ : Hid (K < Z)) (ZV : Hid (Z ≤ V)) (VU : Hid (V < U)) (GU : Hid (g < U)) (HWL : Hid (ws.length = 64)) (HR : Hid (s.run ws j = r)) (RR : Hid (RS w S K Z (some { block := g, off := 0 }) l c M s.l wr)) (VV : Hid (UA wr V 122 ws)) (UU : Hid (UA wr U 121 r.l)) (hjl : j < 64) : Code.wp Try.prog (lb 5)
    (Exit.then
      (fun a' w' =>
        (∃ u14 u15 u16 u17 u18 u146 u147 u148 u149 u150 u151 u152 u153 u154 u155 u156 u157 u158 u159 u160 u161 u162 u163
            u164 u165 u166 u167 u168 u169 u170 u171 u172 u173 u174 u175 u176 u177 u178 u179 u180 u181 u182 u183 u184
            u185 u186 u187 u188 u189 u190 u191 u192 u193 u194 u195 u196 u197 u198 u199 u200 u201 u202 u203 u204 u205
            u206 u207 u208 u209 u210 u211 u212 u213 u214 u215 u216 u217 u218 u219 u220 u221 u222 u223 u224 u225 u226
            u227,
            (∃ (j : Nat),
                j ≤ 64 ∧
                  u14 = Value.int IntKind.i64 ↑j ∧
                    RS w S K Z (some { block := g, off := 0 }) l c M s.l w' ∧
                      UA w' V 122 ws ∧ UA w' U 121 (s.run ws j).l) ∧
              a' =
                {
                  tmps :=
                    #[Value.slice A len cap, undef, Value.pointer (some { block := S, off := 0 }),
                      Value.pointer (some { block := S + 1, off := 0 }), Value.pointer (some { block := K, off := 0 }),
                      Value.slice (some { block := g, off := 0 }) l c, Value.int IntKind.i64 z7,
                      Value.int IntKind.i64 ↑a, Value.pointer (some { block := V, off := 0 }),
                      Value.int IntKind.i64 z16, Value.int IntKind.i64 z64, u11, u12,
                      Value.pointer (some { block := U, off := 0 }), u14, u15, u16, u17, u18, u19, undef, undef,
                      Value.agg (ua iv), Value.agg (ua kk), Value.slice A len cap, Value.slice A3 len c3,
                      Value.slice (some { block := w3.heap.size, off := 0 }) 1 1, Value.slice A5 (len + 1) c5,
                      Value.slice A' lq cq, Value.int IntKind.i64 ↑lq, Value.int IntKind.i64 56, Value.bool false, u32,
                      u33, u34, Value.int IntKind.i64 z7, Value.bool false, u37, u38, u39, u40, u41, u42, u43, u44, u45,
                      u46, u47, u48, u49, u50, Value.int IntKind.i64 ↑a,
                      Value.slice (some { block := g, off := 0 }) l c, Value.int IntKind.i64 ↑l, Value.bool true, u55,
                      u56, Value.int IntKind.i64 z16, Value.bool false, u59, u60, u61, u62, u63, u64, u65, u66, u67,
                      u68, u69, u70, u71, u72, u73, u74, u75, u76, u77, u78, u79, u80, u81, u82, u83, u84, u85, u86,
                      u87, u88, u89, u90, u91, u92, u93, u94, u95, u96, u97, u98, u99, u100, u101, u102, u103,
                      Value.int IntKind.i64 z64, Value.bool false, u106, u107, u108, u109, u110, u111, u112, u113, u114,
                      u115, u116, u117, u118, u119, u120, u121, u122, u123, u124, u125, u126, u127, u128, u129, u130,
                      u131, u132, u133, u134, u135, u136, u137, u138, u139, u140, u141, u142, u143, u144,
                      Value.agg (ua s.l), u146, u147, u148, u149, u150, u151, u152, u153, u154, u155, u156, u157, u158,
                      u159, u160, u161, u162, u163, u164, u165, u166, u167, u168, u169, u170, u171, u172, u173, u174,
                      u175, u176, u177, u178, u179, u180, u181, u182, u183, u184, u185, u186, u187, u188, u189, u190,
                      u191, u192, u193, u194, u195, u196, u197, u198, u199, u200, u201, u202, u203, u204, u205, u206,
                      u207, u208, u209, u210, u211, u212, u213, u214, u215, u216, u217, u218, u219, u220, u221, u222,
                      u223, u224, u225, u226, u227, u228, u229, u230, u231, u232, u233, u234, u235, u236, u237, u238,
                      u239, u240, undef, undef, undef, undef, undef, undef, undef, undef, undef, undef, undef, undef,
                      undef, undef, undef, undef, undef, undef],
                  defers := [] }) ∧
          64 - (intOf (a'.tmps.getD 14 undef)).toNat <
            64 -
              (intOf
                  (#[Value.slice A len cap, undef, Value.pointer (some { block := S, off := 0 }),
                        Value.pointer (some { block := S + 1, off := 0 }),
                        Value.pointer (some { block := K, off := 0 }), Value.slice (some { block := g, off := 0 }) l c,
                        Value.int IntKind.i64 z7, Value.int IntKind.i64 ↑a,
                        Value.pointer (some { block := V, off := 0 }), Value.int IntKind.i64 z16,
                        Value.int IntKind.i64 z64, u11, u12, Value.pointer (some { block := U, off := 0 }),
                        Value.int IntKind.i64 ↑j, u15, u16, u17, u18, u19, undef, undef, Value.agg (ua iv),
                        Value.agg (ua kk), Value.slice A len cap, Value.slice A3 len c3,
                        Value.slice (some { block := w3.heap.size, off := 0 }) 1 1, Value.slice A5 (len + 1) c5,
                        Value.slice A' lq cq, Value.int IntKind.i64 ↑lq, Value.int IntKind.i64 56, Value.bool false,
                        u32, u33, u34, Value.int IntKind.i64 z7, Value.bool false, u37, u38, u39, u40, u41, u42, u43,
                        u44, u45, u46, u47, u48, u49, u50, Value.int IntKind.i64 ↑a,
                        Value.slice (some { block := g, off := 0 }) l c, Value.int IntKind.i64 ↑l, Value.bool true, u55,
                        u56, Value.int IntKind.i64 z16, Value.bool false, u59, u60, u61, u62, u63, u64, u65, u66, u67,
                        u68, u69, u70, u71, u72, u73, u74, u75, u76, u77, u78, u79, u80, u81, u82, u83, u84, u85, u86,
                        u87, u88, u89, u90, u91, u92, u93, u94, u95, u96, u97, u98, u99, u100, u101, u102, u103,
                        Value.int IntKind.i64 z64, Value.bool false, u106, u107, u108, u109, u110, u111, u112, u113,
                        u114, u115, u116, u117, u118, u119, u120, u121, u122, u123, u124, u125, u126, u127, u128, u129,
                        u130, u131, u132, u133, u134, u135, u136, u137, u138, u139, u140, u141, u142, u143, u144,
                        Value.agg (ua s.l), u146, u147, u148, u149, u150, u151, u152, u153, u154, u155, u156, u157,
                        u158, u159, u160, u161, u162, u163, u164, u165, u166, u167, u168, u169, u170, u171, u172, u173,
                        u174, u175, u176, u177, u178, u179, u180, u181, u182, u183, u184, u185, u186, u187, u188, u189,
                        u190, u191, u192, u193, u194, u195, u196, u197, u198, u199, u200, u201, u202, u203, u204, u205,
                        u206, u207, u208, u209, u210, u211, u212, u213, u214, u215, u216, u217, u218, u219, u220, u221,
                        u222, u223, u224, u225, u226, u227, u228, u229, u230, u231, u232, u233, u234, u235, u236, u237,
                        u238, u239, u240, undef, undef, undef, undef, undef, undef, undef, undef, undef, undef, undef,
                        undef, undef, undef, undef, undef, undef, undef].getD
                    14 undef)).toNat)
      Q0)
    {
      tmps :=
        #[Value.slice A len cap, undef, Value.pointer (some { block := S, off := 0 }),
          Value.pointer (some { block := S + 1, off := 0 }), Value.pointer (some { block := K, off := 0 }),
          Value.slice (some { block := g, off := 0 }) l c, Value.int IntKind.i64 z7, Value.int IntKind.i64 ↑a,
          Value.pointer (some { block := V, off := 0 }), Value.int IntKind.i64 z16, Value.int IntKind.i64 z64, u11, u12,
          Value.pointer (some { block := U, off := 0 }), Value.int IntKind.i64 ↑j, u15, u16, u17, u18, u19, undef,
          undef, Value.agg (ua iv), Value.agg (ua kk), Value.slice A len cap, Value.slice A3 len c3,
          Value.slice (some { block := w3.heap.size, off := 0 }) 1 1, Value.slice A5 (len + 1) c5, Value.slice A' lq cq,
          Value.int IntKind.i64 ↑lq, Value.int IntKind.i64 56, Value.bool false, u32, u33, u34,
          Value.int IntKind.i64 z7, Value.bool false, u37, u38, u39, u40, u41, u42, u43, u44, u45, u46, u47, u48, u49,
          u50, Value.int IntKind.i64 ↑a, Value.slice (some { block := g, off := 0 }) l c, Value.int IntKind.i64 ↑l,
          Value.bool true, u55, u56, Value.int IntKind.i64 z16, Value.bool false, u59, u60, u61, u62, u63, u64, u65,
          u66, u67, u68, u69, u70, u71, u72, u73, u74, u75, u76, u77, u78, u79, u80, u81, u82, u83, u84, u85, u86, u87,
          u88, u89, u90, u91, u92, u93, u94, u95, u96, u97, u98, u99, u100, u101, u102, u103, Value.int IntKind.i64 z64,
          Value.bool false, u106, u107, u108, u109, u110, u111, u112, u113, u114, u115, u116, u117, u118, u119, u120,
          u121, u122, u123, u124, u125, u126, u127, u128, u129, u130, u131, u132, u133, u134, u135, u136, u137, u138,
          u139, u140, u141, u142, u143, u144, Value.agg (ua s.l), u146, u147, u148, u149, u150, u151, u152, u153, u154,
          u155, u156, u157, u158, u159, u160, u161, u162, u163, u164, u165, u166, u167, u168, u169, u170, u171, u172,
          u173, u174, u175, u176, u177, u178, u179, u180, u181, u182, u183, u184, u185, u186, u187, u188, u189, u190,
          u191, u192, u193, u194, u195, u196, u197, u198, u199, u200, u201, u202, u203, u204, u205, u206, u207, u208,
          u209, u210, u211, u212, u213, u214, u215, u216, u217, u218, u219, u220, u221, u222, u223, u224, u225, u226,
          u227, u228, u229, u230, u231, u232, u233, u234, u235, u236, u237, u238, u239, u240, undef, undef, undef,
          undef, undef, undef, undef, undef, undef, undef, undef, undef, undef, undef, undef, undef, undef, undef],
      defers := [] }
    wr := by
  conv => arg 2; whnf
  have y0 : wr.cell? _ = some (.int .u32 r.a) := ua_cell UU.out 0 (by show 0 < 8; omega)
  have y4 : wr.cell? _ = some (.int .u32 r.e) := ua_cell UU.out 4 (by show 4 < 8; omega)
  have q1 : (j : Int) < 64 := by omega
  generalize hkj : kk.getD j 0 = kj
  generalize hwj : ws.getD j 0 = wj
  have HKJ := Lib.hid hkj
  have HWJ := Lib.hid hwj
  clear hkj hwj
  go_wp2_with fail
  go_quiet (fail)
  clear y0 y4
  generalize hq : wr.drewN _ = wa
  have RA : Hid (RS w S K Z (some ⟨g, 0, none⟩) l c M s.l wa) := by rw [← hq]; exact RR.out.drewN _
  have VA : Hid (UA wa V 122 ws) := by rw [← hq]; exact VV.out
  have UA1 : Hid (UA wa U 121 r.l) := by rw [← hq]; exact UU.out
  clear hq
  have y7 : wa.cell? _ = some (.int .u32 r.h) := ua_cell UA1.out 7 (by show 7 < 8; omega)
  have y5 : wa.cell? _ = some (.int .u32 r.f) := ua_cell UA1.out 5 (by show 5 < 8; omega)
  have y6 : wa.cell? _ = some (.int .u32 r.g) := ua_cell UA1.out 6 (by show 6 < 8; omega)
  have yk : wa.cell? ⟨K, j, none⟩ = some (.int .u32 kj) := by rw [← HKJ.out]; exact ua_cell RA.out.k j (by rw [kk_len]; exact hjl)
  have yw : wa.cell? ⟨V, j, none⟩ = some (.int .u32 wj) := by rw [← HWJ.out]; exact ua_cell VA.out j (by rw [HWL.out]; exact hjl)
  go_wp2_with fail
  go_quiet (first | (go_at_call 70; refine Calls.quiet_of_same (q28 _ _ _ (by decide))))
  clear y7 y5 y6 yk yw
  generalize hq : wa.drewN _ = wb
  have RB : Hid (RS w S K Z (some ⟨g, 0, none⟩) l c M s.l wb) := by rw [← hq]; exact RA.out.drewN _
  have VB : Hid (UA wb V 122 ws) := by rw [← hq]; exact VA.out
  have UB : Hid (UA wb U 121 r.l) := by rw [← hq]; exact UA1.out
  clear hq
  have y1 : wb.cell? _ = some (.int .u32 r.b) := ua_cell UB.out 1 (by show 1 < 8; omega)
  have y2 : wb.cell? _ = some (.int .u32 r.c) := ua_cell UB.out 2 (by show 2 < 8; omega)
  go_wp2_with fail
  go_quiet (first | (go_at_call 70; refine Calls.quiet_of_same (q28 _ _ _ (by decide))))
  clear y1 y2
  generalize hq : wb.drewN _ = wc
  have RC : Hid (RS w S K Z (some ⟨g, 0, none⟩) l c M s.l wc) := by rw [← hq]; exact RB.out.drewN _
  have VC : Hid (UA wc V 122 ws) := by rw [← hq]; exact VB.out
  have UC : Hid (UA wc U 121 r.l) := by rw [← hq]; exact UB.out
  clear hq
  have y0 : wc.cell? _ = some (.int .u32 r.a) := ua_cell UC.out 0 (by show 0 < 8; omega)
  have y1 : wc.cell? _ = some (.int .u32 r.b) := ua_cell UC.out 1 (by show 1 < 8; omega)
  have y2 : wc.cell? _ = some (.int .u32 r.c) := ua_cell UC.out 2 (by show 2 < 8; omega)
  have y3 : wc.cell? _ = some (.int .u32 r.d) := ua_cell UC.out 3 (by show 3 < 8; omega)
  have y4 : wc.cell? _ = some (.int .u32 r.e) := ua_cell UC.out 4 (by show 4 < 8; omega)
  have y5 : wc.cell? _ = some (.int .u32 r.f) := ua_cell UC.out 5 (by show 5 < 8; omega)
  have y6 : wc.cell? _ = some (.int .u32 r.g) := ua_cell UC.out 6 (by show 6 < 8; omega)
  have ES : Hid (#[Value.int .u32 ((r.h + bits .xor .u32 (bits .xor .u32 (rt r.e 6) (rt r.e 11)) (rt r.e 25) + bits .xor .u32 (bits .and .u32 r.e r.f) (bits .and .u32 (bits .xor .u32 IntKind.u32.max r.e) r.g) + kj + wj + (bits .xor .u32 (bits .xor .u32 (rt r.a 2) (rt r.a 13)) (rt r.a 22) + bits .xor .u32 (bits .xor .u32 (bits .and .u32 r.a r.b) (bits .and .u32 r.a r.c)) (bits .and .u32 r.b r.c))) % 4294967296), .int .u32 r.a, .int .u32 r.b, .int .u32 r.c, .int .u32 ((r.d + (r.h + bits .xor .u32 (bits .xor .u32 (rt r.e 6) (rt r.e 11)) (rt r.e 25) + bits .xor .u32 (bits .and .u32 r.e r.f) (bits .and .u32 (bits .xor .u32 IntKind.u32.max r.e) r.g) + kj + wj)) % 4294967296), .int .u32 r.e, .int .u32 r.f, .int .u32 r.g] = ua (s.run ws (j + 1)).l) := es_eq s ws j r kj wj HKJ.out HWJ.out HR.out
  go_wp2_with (first
    | (refine wpList_store_rowTo rfl 121 (.tmp 13) (.tmp 227) rfl rfl U #[Value.int .u32 ((r.h + bits .xor .u32 (bits .xor .u32 (rt r.e 6) (rt r.e 11)) (rt r.e 25) + bits .xor .u32 (bits .and .u32 r.e r.f) (bits .and .u32 (bits .xor .u32 IntKind.u32.max r.e) r.g) + kj + wj + (bits .xor .u32 (bits .xor .u32 (rt r.a 2) (rt r.a 13)) (rt r.a 22) + bits .xor .u32 (bits .xor .u32 (bits .and .u32 r.a r.b) (bits .and .u32 r.a r.c)) (bits .and .u32 r.b r.c))) % 4294967296), .int .u32 r.a, .int .u32 r.b, .int .u32 r.c, .int .u32 ((r.d + (r.h + bits .xor .u32 (bits .xor .u32 (rt r.e 6) (rt r.e 11)) (rt r.e 25) + bits .xor .u32 (bits .and .u32 r.e r.f) (bits .and .u32 (bits .xor .u32 IntKind.u32.max r.e) r.g) + kj + wj)) % 4294967296), .int .u32 r.e, .int .u32 r.f, .int .u32 r.g] rfl rfl 121 (ua r.l) UC.out (sz s44 rfl) (by rw [ua_size]; rfl) (by rw [ES.out]; exact ua_one _) ?_
       rw [ES.out]
       have BZ : Hid (Below U wc (wc.setRow U (ua (s.run ws (j + 1)).l))) := below_setRow (Below.refl _ _) (Nat.le_refl _) _
       have UN : Hid (UA (wc.setRow U (ua (s.run ws (j + 1)).l)) U 121 (s.run ws (j + 1)).l) := setRow_heap _ _ _ _ _ _ UC.out
       generalize wc.setRow U (ua (s.run ws (j + 1)).l) = wd at *
       have VN : Hid (UA wd V 122 ws) := (BZ.out.block V VU.out).trans VC.out
       have RN : Hid (RS w S K Z (some ⟨g, 0, none⟩) l c M s.l wd) := RC.out.step (BZ.out.mono (by have := VU.out; have := ZV.out; omega)) (own_keep RC.out.o fun q hq => by simp [Value.ownBlock] at hq; subst hq; exact BZ.out.block _ GU.out) SK.out KZ.out)
    | fail)
  go_roundw
  case rel => exact ⟨j + 1, by omega, by go_num, RN.out, VN.out, UN.out⟩
  case measure => simp [intOf]; omega
end Go.Proofs.Ytmcmdpbdipgahaa
