/-
  Rows copied; a record with rows of its own.
-/
import Derived.Test.YtmcmdpbdipgahaaR1
namespace Go.Proofs.Ytmcmdpbdipgahaa
open Go.RowKit
set_option maxRecDepth 100000
theorem below_alloc0 (w : World) (o : Obj) : Below w.heap.size w (w.alloc o) := (Below.refl _ w).alloc (Nat.le_refl _) _
theorem ziH : ∃ z by', (Try.prog.info? 31).map (fun i => (i.zero, i.size, i.bytes)) = some (some z, 8, by') ∧ z.cells.size = 8 ∧ by' ≤ 1000 := by
  refine ⟨.agg (List.replicate 8 (.int .u8 0)).toArray, 8, by kernel_rfl, by kernel_rfl, by decide⟩
set_option maxHeartbeats 1000000 in
theorem cloneH (P : Nat → Prop) (r : Rf) (w : World) (h : RfAt w P 8 r) :
    Calls Try.prog 50 #[.slice r.A r.n r.c] w fun e w' => ∃ r' : Rf, e = .returned (.slice r'.A r'.n r'.c) ∧ r'.n = r.n ∧ r'.ys = r.ys ∧ RfAt w' (fun q => q < w.heap.size) 8 r' ∧ Below w.heap.size w w' := by
  obtain ⟨A, n, c, ys⟩ := r
  cases A with
  | none =>
    obtain ⟨h1, h2⟩ := h.nil rfl
    have h3 := h.src.1
    have h1 : n = 0 := h1
    have h2 : c = 0 := h2
    subst h1 h2
    have h3 : ys = [] := List.eq_nil_of_length_eq_zero (by simpa using h3)
    subst h3
    have hnil : ∀ w : World, (binOp BinOp.eql 36 (.slice none 0 0) (.slice none 0 0)).run Try.prog w = .ok (.bool true) w := fun _ => by kernel_rfl
    show Calls Try.prog 50 #[.slice none 0 0] w _
    clear h
    go_enter Try.func50, Try.ntmps50
    go_wp2
    go_ret
    exact ⟨rf0, rfl, rfl, rfl, rf0_at _ _ _, Below.refl _ _⟩
  | some ad =>
    obtain ⟨z, by', g1, g2, g3⟩ := ziH
    have hnil : ∀ w : World, (binOp BinOp.eql 36 (.slice (some ad) n c) (.slice none 0 0)).run Try.prog w = .ok (.bool false) w := fun _ => rfl
    have HS : Hid (SrcG (w.alloc (Obj.cells #[] 31)) 8 (some ad) n ys) := Lib.hid (h.src.keep (below_alloc0 w _))
    have H100 : Hid (n ≤ 100) := Lib.hid h.big
    have H1 : Hid (∀ u ∈ ys, u.oneCell' = true) := Lib.hid h.src.2.1
    have G1 := Lib.hid g1
    have G2 := Lib.hid g2
    have G3 := Lib.hid g3
    show Calls Try.prog 50 #[.slice (some ad) n c] w _
    clear h g1 g2 g3
    go_enter Try.func50, Try.ntmps50
    go_wp2_with (at_builtin; refine wpList_appG Try.underlying36 G1.out G2.out (by decide) G3.out rfl (.tmp 5) (.tmp 6) rfl w.heap.size 0 n c (.slice (some ⟨w.heap.size, 0, none⟩) 0 0) [] ys (some ad) rfl rfl (own_noneG w 31 8) HS.out (by omega) (by have := H100.out; omega) (by simp) ?_; intro A2 c2 w2 hown2 hb2; rw [Nat.zero_add, List.nil_append] at hown2; have O2 := Lib.hid hown2; have B2 := Lib.hid hb2; clear hown2 hb2)
    go_ret
    exact ⟨⟨A2, n, c2, ys⟩, by first | rfl | (simp; done), rfl, rfl, rf_own O2.out H1.out H100.out _ fun q hq => hq, (below_alloc0 w _).trans B2.out⟩
theorem ziO : ∃ z by', (Try.prog.info? 93).map (fun i => (i.zero, i.size, i.bytes)) = some (some z, 9, by') ∧ z.cells.size = 9 ∧ by' ≤ 1000 := by
  refine ⟨.agg (List.replicate 8 (Value.int .u8 0) ++ [Value.int .i64 0]).toArray, 16, by kernel_rfl, by kernel_rfl, by decide⟩
set_option maxHeartbeats 1000000 in
theorem cloneO (P : Nat → Prop) (r : Rf) (w : World) (h : RfAt w P 9 r) :
    Calls Try.prog 51 #[.slice r.A r.n r.c] w fun e w' => ∃ r' : Rf, e = .returned (.slice r'.A r'.n r'.c) ∧ r'.n = r.n ∧ r'.ys = r.ys ∧ RfAt w' (fun q => q < w.heap.size) 9 r' ∧ Below w.heap.size w w' := by
  obtain ⟨A, n, c, ys⟩ := r
  cases A with
  | none =>
    obtain ⟨h1, h2⟩ := h.nil rfl
    have h3 := h.src.1
    have h1 : n = 0 := h1
    have h2 : c = 0 := h2
    subst h1 h2
    have h3 : ys = [] := List.eq_nil_of_length_eq_zero (by simpa using h3)
    subst h3
    have hnil : ∀ w : World, (binOp BinOp.eql 47 (.slice none 0 0) (.slice none 0 0)).run Try.prog w = .ok (.bool true) w := fun _ => by kernel_rfl
    show Calls Try.prog 51 #[.slice none 0 0] w _
    clear h
    go_enter Try.func51, Try.ntmps51
    go_wp2
    go_ret
    exact ⟨rf0, rfl, rfl, rfl, rf0_at _ _ _, Below.refl _ _⟩
  | some ad =>
    obtain ⟨z, by', g1, g2, g3⟩ := ziO
    have hnil : ∀ w : World, (binOp BinOp.eql 47 (.slice (some ad) n c) (.slice none 0 0)).run Try.prog w = .ok (.bool false) w := fun _ => rfl
    have HS : Hid (SrcG (w.alloc (Obj.cells #[] 93)) 9 (some ad) n ys) := Lib.hid (h.src.keep (below_alloc0 w _))
    have H100 : Hid (n ≤ 100) := Lib.hid h.big
    have H1 : Hid (∀ u ∈ ys, u.oneCell' = true) := Lib.hid h.src.2.1
    have G1 := Lib.hid g1
    have G2 := Lib.hid g2
    have G3 := Lib.hid g3
    show Calls Try.prog 51 #[.slice (some ad) n c] w _
    clear h g1 g2 g3
    go_enter Try.func51, Try.ntmps51
    go_wp2_with (at_builtin; refine wpList_appG Try.underlying47 G1.out G2.out (by decide) G3.out rfl (.tmp 5) (.tmp 6) rfl w.heap.size 0 n c (.slice (some ⟨w.heap.size, 0, none⟩) 0 0) [] ys (some ad) rfl rfl (own_noneG w 93 9) HS.out (by omega) (by have := H100.out; omega) (by simp) ?_; intro A2 c2 w2 hown2 hb2; rw [Nat.zero_add, List.nil_append] at hown2; have O2 := Lib.hid hown2; have B2 := Lib.hid hb2; clear hown2 hb2)
    go_ret
    exact ⟨⟨A2, n, c2, ys⟩, by first | rfl | (simp; done), rfl, rfl, rf_own O2.out H1.out H100.out _ fun q hq => hq, (below_alloc0 w _).trans B2.out⟩
theorem ziG : ∃ z by', (Try.prog.info? 100).map (fun i => (i.zero, i.size, i.bytes)) = some (some z, 282, by') ∧ z.cells.size = 282 ∧ by' ≤ 1000 := by
  refine ⟨.agg ([Value.int .i64 0, Value.int .i64 0] ++ List.replicate 280 (Value.int .u8 0)).toArray, 296, by kernel_rfl, by kernel_rfl, by decide⟩
set_option maxHeartbeats 1000000 in
theorem cloneG (P : Nat → Prop) (r : Rf) (w : World) (h : RfAt w P 282 r) :
    Calls Try.prog 52 #[.slice r.A r.n r.c] w fun e w' => ∃ r' : Rf, e = .returned (.slice r'.A r'.n r'.c) ∧ r'.n = r.n ∧ r'.ys = r.ys ∧ RfAt w' (fun q => q < w.heap.size) 282 r' ∧ Below w.heap.size w w' := by
  obtain ⟨A, n, c, ys⟩ := r
  cases A with
  | none =>
    obtain ⟨h1, h2⟩ := h.nil rfl
    have h3 := h.src.1
    have h1 : n = 0 := h1
    have h2 : c = 0 := h2
    subst h1 h2
    have h3 : ys = [] := List.eq_nil_of_length_eq_zero (by simpa using h3)
    subst h3
    have hnil : ∀ w : World, (binOp BinOp.eql 48 (.slice none 0 0) (.slice none 0 0)).run Try.prog w = .ok (.bool true) w := fun _ => by kernel_rfl
    show Calls Try.prog 52 #[.slice none 0 0] w _
    clear h
    go_enter Try.func52, Try.ntmps52
    go_wp2
    go_ret
    exact ⟨rf0, rfl, rfl, rfl, rf0_at _ _ _, Below.refl _ _⟩
  | some ad =>
    obtain ⟨z, by', g1, g2, g3⟩ := ziG
    have hnil : ∀ w : World, (binOp BinOp.eql 48 (.slice (some ad) n c) (.slice none 0 0)).run Try.prog w = .ok (.bool false) w := fun _ => rfl
    have HS : Hid (SrcG (w.alloc (Obj.cells #[] 100)) 282 (some ad) n ys) := Lib.hid (h.src.keep (below_alloc0 w _))
    have H100 : Hid (n ≤ 100) := Lib.hid h.big
    have H1 : Hid (∀ u ∈ ys, u.oneCell' = true) := Lib.hid h.src.2.1
    have G1 := Lib.hid g1
    have G2 := Lib.hid g2
    have G3 := Lib.hid g3
    show Calls Try.prog 52 #[.slice (some ad) n c] w _
    clear h g1 g2 g3
    go_enter Try.func52, Try.ntmps52
    go_wp2_with (at_builtin; refine wpList_appG Try.underlying48 G1.out G2.out (by decide) G3.out rfl (.tmp 5) (.tmp 6) rfl w.heap.size 0 n c (.slice (some ⟨w.heap.size, 0, none⟩) 0 0) [] ys (some ad) rfl rfl (own_noneG w 100 282) HS.out (by omega) (by have := H100.out; omega) (by simp) ?_; intro A2 c2 w2 hown2 hb2; rw [Nat.zero_add, List.nil_append] at hown2; have O2 := Lib.hid hown2; have B2 := Lib.hid hb2; clear hown2 hb2)
    go_ret
    exact ⟨⟨A2, n, c2, ys⟩, by first | rfl | (simp; done), rfl, rfl, rf_own O2.out H1.out H100.out _ fun q hq => hq, (below_alloc0 w _).trans B2.out⟩
theorem ziI : ∃ z by', (Try.prog.info? 3).map (fun i => (i.zero, i.size, i.bytes)) = some (some z, 1, by') ∧ z.cells.size = 1 ∧ by' ≤ 1000 := by
  refine ⟨.int .i64 0, 8, by kernel_rfl, by kernel_rfl, by decide⟩
set_option maxHeartbeats 1000000 in
theorem cloneI (P : Nat → Prop) (r : Rf) (w : World) (h : RfAt w P 1 r) :
    Calls Try.prog 53 #[.slice r.A r.n r.c] w fun e w' => ∃ r' : Rf, e = .returned (.slice r'.A r'.n r'.c) ∧ r'.n = r.n ∧ r'.ys = r.ys ∧ RfAt w' (fun q => q < w.heap.size) 1 r' ∧ Below w.heap.size w w' := by
  obtain ⟨A, n, c, ys⟩ := r
  cases A with
  | none =>
    obtain ⟨h1, h2⟩ := h.nil rfl
    have h3 := h.src.1
    have h1 : n = 0 := h1
    have h2 : c = 0 := h2
    subst h1 h2
    have h3 : ys = [] := List.eq_nil_of_length_eq_zero (by simpa using h3)
    subst h3
    have hnil : ∀ w : World, (binOp BinOp.eql 51 (.slice none 0 0) (.slice none 0 0)).run Try.prog w = .ok (.bool true) w := fun _ => by kernel_rfl
    show Calls Try.prog 53 #[.slice none 0 0] w _
    clear h
    go_enter Try.func53, Try.ntmps53
    go_wp2
    go_ret
    exact ⟨rf0, rfl, rfl, rfl, rf0_at _ _ _, Below.refl _ _⟩
  | some ad =>
    obtain ⟨z, by', g1, g2, g3⟩ := ziI
    have hnil : ∀ w : World, (binOp BinOp.eql 51 (.slice (some ad) n c) (.slice none 0 0)).run Try.prog w = .ok (.bool false) w := fun _ => rfl
    have HS : Hid (SrcG (w.alloc (Obj.cells #[] 3)) 1 (some ad) n ys) := Lib.hid (h.src.keep (below_alloc0 w _))
    have H100 : Hid (n ≤ 100) := Lib.hid h.big
    have H1 : Hid (∀ u ∈ ys, u.oneCell' = true) := Lib.hid h.src.2.1
    have G1 := Lib.hid g1
    have G2 := Lib.hid g2
    have G3 := Lib.hid g3
    show Calls Try.prog 53 #[.slice (some ad) n c] w _
    clear h g1 g2 g3
    go_enter Try.func53, Try.ntmps53
    go_wp2_with (at_builtin; refine wpList_appG Try.underlying51 G1.out G2.out (by decide) G3.out rfl (.tmp 5) (.tmp 6) rfl w.heap.size 0 n c (.slice (some ⟨w.heap.size, 0, none⟩) 0 0) [] ys (some ad) rfl rfl (own_noneG w 3 1) HS.out (by omega) (by have := H100.out; omega) (by simp) ?_; intro A2 c2 w2 hown2 hb2; rw [Nat.zero_add, List.nil_append] at hown2; have O2 := Lib.hid hown2; have B2 := Lib.hid hb2; clear hown2 hb2)
    go_ret
    exact ⟨⟨A2, n, c2, ys⟩, by first | rfl | (simp; done), rfl, rfl, rf_own O2.out H1.out H100.out _ fun q hq => hq, (below_alloc0 w _).trans B2.out⟩
end Go.Proofs.Ytmcmdpbdipgahaa
