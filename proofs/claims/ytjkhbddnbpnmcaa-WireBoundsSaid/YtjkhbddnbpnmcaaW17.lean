/-
  Read: too many bytes, no function, a function that ends, that a Reader stops, that panics otherwise.
-/
import Derived.Test.YtjkhbddnbpnmcaaW16
namespace Go.Proofs.Ytjkhbddnbpnmcaa
open Go.RowKit

/-- between two worlds only the Reader's block and one more have been written -/
structure St (Rb vb : Nat) (w w' : World) : Prop where
  os : w'.os = w.os
  tape : w'.tape = w.tape
  output : w'.output = w.output
  size : w.heap.size ≤ w'.heap.size
  block : ∀ k, k < w.heap.size → k ≠ Rb → k ≠ vb → w'.heap[k]? = w.heap[k]?
theorem St.refl (Rb vb : Nat) (w : World) : St Rb vb w w := ⟨rfl, rfl, rfl, Nat.le_refl _, fun _ _ _ _ => rfl⟩
theorem St.trans {Rb vb : Nat} {a b c : World} (h : St Rb vb a b) (k : St Rb vb b c) : St Rb vb a c :=
  ⟨k.os.trans h.os, k.tape.trans h.tape, k.output.trans h.output, Nat.le_trans h.size k.size, fun i hi h1 h2 => (k.block i (Nat.lt_of_lt_of_le hi h.size) h1 h2).trans (h.block i hi h1 h2)⟩
theorem St.of_grown {Rb vb : Nat} {w w' : World} (h : w.grownBy w' (some Rb)) : St Rb vb w w' :=
  ⟨h.os, h.tape, h.output, h.size, fun k hk h1 _ => h.block k hk (by simp; exact h1)⟩
theorem St.of_var {Rb vb : Nat} {w w' : World} (h : w.grownBy w' (some vb)) : St Rb vb w w' :=
  ⟨h.os, h.tape, h.output, h.size, fun k hk _ h2 => h.block k hk (by simp; exact h2)⟩
theorem St.of_below {Rb vb : Nat} {w w' : World} (h : Below w.heap.size w w') : St Rb vb w w' :=
  ⟨h.os, h.tape, h.output, h.size, fun k hk _ _ => h.block k hk⟩
/-- what Read has done: but for one block all is as it was; that block holds this -/
structure Left (vb : Nat) (o : Option Obj) (w w' : World) : Prop where
  grown : w.grownBy w' (some vb)
  var : w'.heap[vb]? = o
theorem left_of {Rb Cb vb : Nat} {o : Option Obj} {w w1 w2 : World} (hRb : w.heap.size ≤ Rb) (hB : Below w.heap.size w w1) (h : St Rb vb w1 w2) (ho : w2.heap[vb]? = o) (hv : vb < w.heap.size) (hC : w.heap.size ≤ Cb) (u : Value) :
    Left vb o w (w2.setCell ⟨Cb, 0, none⟩ u) := by
  refine ⟨⟨h.os.trans hB.os, h.tape.trans hB.tape, h.output.trans hB.output, by have := h.size; have := hB.size; simp [World.setCell]; omega, fun k hk hne => ?_⟩, ?_⟩
  · rw [Below.heap_setCell _ _ _ _ (by show k ≠ Cb; omega), h.block k (Nat.lt_of_lt_of_le hk hB.size) (by omega) (fun e => hne (by simp [e])), hB.block k hk]
  · rw [Below.heap_setCell _ _ _ _ (by show vb ≠ Cb; omega)]; exact ho
theorem left_of' {Rb vb : Nat} {o : Option Obj} {w w1 w2 : World} (hRb : w.heap.size ≤ Rb) (hB : Below w.heap.size w w1) (h : St Rb vb w1 w2) (ho : w2.heap[vb]? = o) (_hv : vb < w.heap.size) :
    Left vb o w w2 := by
  refine ⟨⟨h.os.trans hB.os, h.tape.trans hB.tape, h.output.trans hB.output, by have := h.size; have := hB.size; omega, fun k hk hne => ?_⟩, ho⟩
  rw [h.block k (Nat.lt_of_lt_of_le hk hB.size) (by omega) (fun e => hne (by simp [e])), hB.block k hk]

theorem c12l (A : Option Addr) (len cap : Nat) (f : Value) (w : World) (hl : 131072 < len) (hm : len ≤ 9223372036854775807) : Calls Try.prog 12 #[.slice A len cap, f] w fun e w' => e = .returned (.int .i64 3) ∧ w = w' := by
  have hlt : (131072 : Int) < (len : Int) := by omega
  go_enter Try.func12, Try.ntmps12
  go_wp2
  go_ret
  exact ⟨rfl, rfl⟩
/-- how a function that is called ends, by the code that Read then tells -/
theorem c12y (F : Nat) (cap : Array Value) (A : Option Addr) (len cp : Nat) (bs rest : List Int) (vb : Nat) (o : Option Obj) (w : World) (hs : Src w A len bs) (hc : A = none → cp = 0) (hb : Byt bs) (hm : len ≤ 131072) (hv : vb < w.heap.size)
    (hcf : ∀ (Rb : Nat) (w : World), (callFunc F (#[.pointer (some ⟨Rb, 0, none⟩)] ++ cap)).run Try.prog w = .ok (.enter F (#[.pointer (some ⟨Rb, 0, none⟩)] ++ cap)) w)
    (h : ∀ Rb w1, Rdr w1 Rb bs → w.heap.size ≤ Rb → Below w.heap.size w w1 → Calls Try.prog F (#[.pointer (some ⟨Rb, 0, none⟩)] ++ cap) w1 fun e w' => e = .returned (.tuple #[]) ∧ Rdr w' Rb rest ∧ St Rb vb w1 w' ∧ w'.heap[vb]? = o) :
    Calls Try.prog 12 #[.slice A len cp, .func (.func F) #[] cap] w fun e w' => e = .returned (.int .i64 (if rest = [] then 0 else 4)) ∧ Left vb o w w' := by
  have hlt : ¬ (131072 : Int) < (len : Int) := by omega
  have C := Lib.hid (c28 A len cp bs w hs hc hb hm)
  have H := Lib.hid h
  have HF := Lib.hid hcf
  clear hs hc hb h hcf
  go_enter Try.func12, Try.ntmps12
  go_wp2_with fail
  refine C.out.mono ?_
  rintro e w1 ⟨Rb, rfl, h1, h2, h3⟩
  have R1 : Hid (Rdr (w1.alloc (Obj.cells #[.int .i64 4] 32)) Rb bs) := h1.keep (fun k hk => Below.heap_alloc w1 _ k hk)
  have B1 : Hid (Below w.heap.size w (w1.alloc (Obj.cells #[.int .i64 4] 32))) := h3.alloc h3.size _
  have LR := Lib.hid h1.lt
  have HS := Lib.hid h3.size
  have H2 := Lib.hid h2
  have D := Lib.hid (c29y F Rb cap w1 (fun w' => Rdr w' Rb rest ∧ St Rb vb (w1.alloc (Obj.cells #[.int .i64 4] 32)) w' ∧ w'.heap[vb]? = o) (HF.out Rb) ((H.out Rb _ R1.out h2 B1.out).mono fun e w' h => ⟨h.1, (h.2.2.1.block w1.heap.size (by simp) (by have := h1.lt; omega) (by have := h3.size; omega)).trans (heap_alloc_new w1 _), h.2⟩))
  clear h1 h2 h3
  go_wp2_with fail
  refine D.out.mono ?_
  rintro e w2 ⟨rfl, wz, ⟨z1, z2, z3⟩, zo, rfl⟩
  have LF := Lib.hid (left_of H2.out B1.out z2 z3 hv HS.out (.int .i64 0))
  have RF : Hid (Rdr (wz.setCell ⟨w1.heap.size, 0, none⟩ (.int .i64 0)) Rb rest) := z1.keepR (fun k hk => Below.heap_setCell _ _ _ _ (by have := LR.out; show k ≠ w1.heap.size; omega))
  clear z1 z2 z3 zo
  generalize (wz.setCell ⟨w1.heap.size, 0, none⟩ (.int .i64 0)) = wf at *
  have E := Lib.hid (c14 Rb rest wf RF.out)
  cases rest with
  | nil =>
    rw [List.length_nil] at E
    go_wp2_with (go_at_call 14; refine E.out.mono ?_; rintro e w' ⟨rfl, rfl⟩)
    go_ret
    exact ⟨rfl, LF.out⟩
  | cons x xs =>
    have hpos : (0 : Int) < ((x :: xs).length : Int) := by rw [List.length_cons]; omega
    generalize (x :: xs).length = n at *
    go_wp2_with (go_at_call 14; refine E.out.mono ?_; rintro e w' ⟨rfl, rfl⟩)
    go_ret
    exact ⟨rfl, LF.out⟩
theorem c12s (F : Nat) (cap : Array Value) (A : Option Addr) (len cp : Nat) (bs : List Int) (vb : Nat) (o : Option Obj) (w : World) (hs : Src w A len bs) (hc : A = none → cp = 0) (hb : Byt bs) (hm : len ≤ 131072) (hv : vb < w.heap.size)
    (hcf : ∀ (Rb : Nat) (w : World), (callFunc F (#[.pointer (some ⟨Rb, 0, none⟩)] ++ cap)).run Try.prog w = .ok (.enter F (#[.pointer (some ⟨Rb, 0, none⟩)] ++ cap)) w)
    (h : ∀ Rb w1, Rdr w1 Rb bs → w.heap.size ≤ Rb → Below w.heap.size w w1 → Calls Try.prog F (#[.pointer (some ⟨Rb, 0, none⟩)] ++ cap) w1 fun e w' => Short e ∧ St Rb vb w1 w' ∧ w'.heap[vb]? = o) :
    Calls Try.prog 12 #[.slice A len cp, .func (.func F) #[] cap] w fun e w' => e = .returned (.int .i64 2) ∧ Left vb o w w' := by
  have hlt : ¬ (131072 : Int) < (len : Int) := by omega
  have C := Lib.hid (c28 A len cp bs w hs hc hb hm)
  have H := Lib.hid h
  have HF := Lib.hid hcf
  clear hs hc hb h hcf
  go_enter Try.func12, Try.ntmps12
  go_wp2_with fail
  refine C.out.mono ?_
  rintro e w1 ⟨Rb, rfl, h1, h2, h3⟩
  have R1 : Hid (Rdr (w1.alloc (Obj.cells #[.int .i64 4] 32)) Rb bs) := h1.keep (fun k hk => Below.heap_alloc w1 _ k hk)
  have B1 : Hid (Below w.heap.size w (w1.alloc (Obj.cells #[.int .i64 4] 32))) := h3.alloc h3.size _
  have HS := Lib.hid h3.size
  have H2 := Lib.hid h2
  have D := Lib.hid (c29s F Rb cap w1 (fun w' => St Rb vb (w1.alloc (Obj.cells #[.int .i64 4] 32)) w' ∧ w'.heap[vb]? = o) (HF.out Rb) ((H.out Rb _ R1.out h2 B1.out).mono fun e w' h => ⟨h.1, (h.2.1.block w1.heap.size (by simp) (by have := h1.lt; omega) (by have := h3.size; omega)).trans (heap_alloc_new w1 _), h.2⟩))
  clear h1 h2 h3
  go_wp2_with fail
  refine D.out.mono ?_
  rintro e w2 ⟨rfl, wz, ⟨z2, z3⟩, zo, rfl⟩
  have LF := Lib.hid (left_of H2.out B1.out z2 z3 hv HS.out (.int .i64 2))
  clear z2 z3 zo
  generalize (wz.setCell ⟨w1.heap.size, 0, none⟩ (.int .i64 2)) = wf at *
  go_wp2
  go_ret
  exact ⟨rfl, LF.out⟩
theorem c12o (F : Nat) (cap : Array Value) (A : Option Addr) (len cp : Nat) (bs : List Int) (vb : Nat) (o : Option Obj) (w : World) (hs : Src w A len bs) (hc : A = none → cp = 0) (hb : Byt bs) (hm : len ≤ 131072) (hv : vb < w.heap.size)
    (hcf : ∀ (Rb : Nat) (w : World), (callFunc F (#[.pointer (some ⟨Rb, 0, none⟩)] ++ cap)).run Try.prog w = .ok (.enter F (#[.pointer (some ⟨Rb, 0, none⟩)] ++ cap)) w)
    (h : ∀ Rb w1, Rdr w1 Rb bs → w.heap.size ≤ Rb → Below w.heap.size w w1 → Calls Try.prog F (#[.pointer (some ⟨Rb, 0, none⟩)] ++ cap) w1 fun e w' => (∃ t, e = .panicked [{ v := .iface 9 t, recovered := false }]) ∧ St Rb vb w1 w' ∧ w'.heap[vb]? = o) :
    Calls Try.prog 12 #[.slice A len cp, .func (.func F) #[] cap] w fun e w' => e = .returned (.int .i64 4) ∧ Left vb o w w' := by
  have hlt : ¬ (131072 : Int) < (len : Int) := by omega
  have C := Lib.hid (c28 A len cp bs w hs hc hb hm)
  have H := Lib.hid h
  have HF := Lib.hid hcf
  clear hs hc hb h hcf
  go_enter Try.func12, Try.ntmps12
  go_wp2_with fail
  refine C.out.mono ?_
  rintro e w1 ⟨Rb, rfl, h1, h2, h3⟩
  have R1 : Hid (Rdr (w1.alloc (Obj.cells #[.int .i64 4] 32)) Rb bs) := h1.keep (fun k hk => Below.heap_alloc w1 _ k hk)
  have B1 : Hid (Below w.heap.size w (w1.alloc (Obj.cells #[.int .i64 4] 32))) := h3.alloc h3.size _
  have H2 := Lib.hid h2
  have D := Lib.hid (c29o F Rb cap w1 (fun w' => St Rb vb (w1.alloc (Obj.cells #[.int .i64 4] 32)) w' ∧ w'.heap[vb]? = o) (HF.out Rb) ((H.out Rb _ R1.out h2 B1.out).mono fun e w' h => ⟨h.1, (h.2.1.block w1.heap.size (by simp) (by have := h1.lt; omega) (by have := h3.size; omega)).trans (heap_alloc_new w1 _), h.2⟩))
  clear h1 h2 h3
  go_wp2_with fail
  refine D.out.mono ?_
  rintro e w2 ⟨rfl, z2, z3⟩
  have LF := Lib.hid (left_of' H2.out B1.out z2 z3 hv)
  clear z2 z3
  go_wp2
  go_ret
  exact ⟨rfl, LF.out⟩
theorem c12n (A : Option Addr) (len cp : Nat) (bs : List Int) (w : World) (hs : Src w A len bs) (hc : A = none → cp = 0) (hb : Byt bs) (hm : len ≤ 131072) :
    Calls Try.prog 12 #[.slice A len cp, .nilFunc] w fun e w' => e = .returned (.int .i64 (if bs = [] then 0 else 4)) ∧ Below w.heap.size w w' := by
  have hlt : ¬ (131072 : Int) < (len : Int) := by omega
  have C := Lib.hid (c28 A len cp bs w hs hc hb hm)
  clear hs hc hb
  go_enter Try.func12, Try.ntmps12
  go_wp2_with fail
  refine C.out.mono ?_
  rintro e w1 ⟨Rb, rfl, h1, h2, h3⟩
  have R1 : Hid (Rdr (w1.alloc (Obj.cells #[.int .i64 0] 32)) Rb bs) := h1.keep (fun k hk => Below.heap_alloc w1 _ k hk)
  have B1 : Hid (Below w.heap.size w (w1.alloc (Obj.cells #[.int .i64 0] 32))) := h3.alloc h3.size _
  clear h1 h2 h3
  go_wp2_with fail
  refine (c29n _ w1).mono ?_
  rintro e w2 ⟨rfl, rfl⟩
  generalize w1.alloc (Obj.cells #[.int .i64 0] 32) = wf at *
  have E := Lib.hid (c14 Rb bs wf R1.out)
  cases bs with
  | nil =>
    rw [List.length_nil] at E
    go_wp2_with (go_at_call 14; refine E.out.mono ?_; rintro e w' ⟨rfl, rfl⟩)
    go_ret
    exact ⟨rfl, B1.out⟩
  | cons x xs =>
    have hpos : (0 : Int) < ((x :: xs).length : Int) := by rw [List.length_cons]; omega
    generalize (x :: xs).length = n at *
    go_wp2_with (go_at_call 14; refine E.out.mono ?_; rintro e w' ⟨rfl, rfl⟩)
    go_ret
    exact ⟨rfl, B1.out⟩
end Go.Proofs.Ytjkhbddnbpnmcaa
