/-
  A Writer as a tape.
-/
import Derived.Test.YtffaddefnpkcgaaGreatDoorZT27
import Derived.Test.YtffaddefnpkcgaaGreatDoorZH
import Derived.Test.YtffaddefnpkcgaaGreatDoorZO
import Derived.Test.YtffaddefnpkcgaaGreatDoorZHC
import Derived.Maps.AppendAt
import Derived.Test.YtffaddefnpkcgaaGreatDoorZW
namespace Go.Proofs.YtffaddefnpkcgaaGreatDoor
open Go.RowKit
set_option maxRecDepth 100000
attribute [local irreducible] ua da ba kk sw S8.run rt hs comp splice outB sha msg zeros win bvals vals cel seg
attribute [local go_sem ↓] Go.wp_at_zero Go.wp_at_succ
def wX (Wb : Nat) : Value := .agg #[.pointer (some ⟨Wb, 0, none⟩)]
def wV (Wb : Nat) : Value := .iface 77 (wX Wb)
theorem w_callN (Wb : Nat) (a b : Value) (w : World) : (callMethod (wV Wb) "drawbridge/tx.num" #[a, b]).run Tryz.prog w = .ok (.enter 154 #[wX Wb, a, b]) w := by kernel_rfl
theorem w_callH (Wb : Nat) (a : Value) (w : World) : (callMethod (wV Wb) "drawbridge/tx.hash" #[a]).run Tryz.prog w = .ok (.enter 153 #[wX Wb, a]) w := by kernel_rfl
theorem w_nil {Wb : Nat} {s : String} (hs : s = "drawbridge/tx.num" ∨ s = "drawbridge/tx.hash") {o : Oper} {ev : Operand → Value} {x : Operand} (ho : o.op = .nilCheck x) (hx : ev x = .func (.method s) #[wV Wb] #[]) (w : World) : (execOp ev o).run Tryz.prog w = .ok (.value (.func (.method s) #[wV Wb] #[])) w := by
  unfold execOp
  simp only [ho, hx]
  rcases hs with rfl | rfl <;> kernel_rfl
theorem w_chan {base Wb : Nat} {w0 w W : World} {bs : List Int} (hw : Wr base Wb w bs) (hB : Below base w0 w) (h1 : W.os = w.os) (h2 : W.tape = w.tape) (h3 : W.output = w.output) (h4 : w.heap.size ≤ W.heap.size) (hk : ∀ q, q < w.heap.size → W.heap[q]? = w.heap[q]?) : Wr base Wb W bs ∧ Below base w0 W := by
  obtain ⟨hb, hl⟩ := wr_lt hw
  exact ⟨hw.keep hk, hB.trans ⟨h1, h2, h3, h4, fun k hk' => hk k (by omega)⟩⟩
set_option maxHeartbeats 2000000 in
theorem wNum (base Wb : Nat) (w0 w : World) (bs : List Int) (b o : Nat) (x : Int) (k : Nat) (h1 : 1 ≤ k) (h7 : k ≤ 7) (hw : Wr base Wb w bs) (hB : Below base w0 w) (hb : b < w.heap.size) (hO : Off Wb w b) (hc : w.cell? ⟨b, o, none⟩ = some (.int .i64 x)) (hx : 0 ≤ x ∧ x < 2 ^ (8 * k)) (hl : bs.length + k ≤ 131072) :
    Calls Tryz.prog 154 #[wX Wb, .pointer (some ⟨b, o, none⟩), .int .i64 k] w fun e w' => e = .returned (.tuple #[]) ∧ (Wr base Wb w' (bs ++ digs x k) ∧ Below base w0 w') ∧ Ch (Off Wb) true w w' b o 1 ∧ w'.cell? ⟨b, o, none⟩ = some (.int .i64 x) := by
  obtain ⟨N, hN⟩ : ∃ N, w.heap.size = N := ⟨_, rfl⟩
  have NN := Lib.hid hN
  have SM := Lib.hid (w_chan (W := w.alloc (Obj.cells #[.pointer (some ⟨Wb, 0, none⟩)] 77)) hw hB rfl rfl rfl (by simp) (fun q hq => Below.heap_alloc w _ q hq))
  have OF : Hid (∀ q, Off Wb w q → Off Wb (w.alloc (Obj.cells #[.pointer (some ⟨Wb, 0, none⟩)] 77)) q) := fun q ho => off_same hw (fun q hq => Below.heap_alloc w _ q hq) ho
  have k0 : (w.alloc (Obj.cells #[.pointer (some ⟨Wb, 0, none⟩)] 77)).cell? ⟨N, 0, none⟩ = some (.pointer (some ⟨Wb, 0, none⟩)) := by rw [← hN]; exact cell_of_one (heap_alloc_last w _)
  have k1 : (w.alloc (Obj.cells #[.pointer (some ⟨Wb, 0, none⟩)] 77)).cell? ⟨b, o, none⟩ = some (.int .i64 x) := by rw [← hc]; simp only [World.cell?, Below.heap_alloc w _ b hb]
  have HK : Hid (∀ q, q < N → (w.alloc (Obj.cells #[.pointer (some ⟨Wb, 0, none⟩)] 77)).heap[q]? = w.heap[q]?) := fun q hq => Below.heap_alloc w _ q (by rw [hN]; exact hq)
  have SZ : Hid ((w.alloc (Obj.cells #[.pointer (some ⟨Wb, 0, none⟩)] 77)).heap.size = N + 1) := by show _ = _; rw [World.size_alloc, hN]
  have NW : Hid (Off Wb (w.alloc (Obj.cells #[.pointer (some ⟨Wb, 0, none⟩)] 77)) N) := off_same hw (fun q hq => Below.heap_alloc w _ q hq) (off_new hw (by omega))
  have HX := Lib.hid hx
  have HL := Lib.hid hl
  have HB := Lib.hid hb
  have HO := Lib.hid hO
  have HC := Lib.hid hc
  clear hw hB hb hO hc hx hl
  unfold wX
  go_enter Tryz.func154, Tryz.ntmps154
  go_upto_region 1 with (fail)
  clear hN
  generalize (w.alloc (Obj.cells #[.pointer (some ⟨Wb, 0, none⟩)] 77)) = v at *
  have OB : Hid (Off Wb v b) := OF.out b HO.out
  have C := Lib.hid (wc26y base Wb k x bs v.drew (SM.out.1.keep fun _ _ => rfl) h1 h7 HX.out.1 HX.out.2 HL.out)
  go_region_held3 (fun w' => w'.cell? ⟨N, 0, none⟩ = some (.pointer (some ⟨Wb, 0, none⟩)) ∧ w'.cell? ⟨b, o, none⟩ = some (.int .i64 x)) (go_keep) (first | (go_at_call 152; refine C.out.mono ?_; rintro e w' ⟨rfl, h3, h4, h5⟩; have H3 := Lib.hid h3; have H4 := Lib.hid h4; have H5 := Lib.hid h5; have k2 : w'.cell? ⟨N, 0, none⟩ = some (.pointer (some ⟨Wb, 0, none⟩)) := (by rw [← k0]; simp only [World.cell?, (h5 N (by show N < v.heap.size; rw [SZ.out]; omega) NW.out).1]; rfl); have k3 : w'.cell? ⟨b, o, none⟩ = some (.int .i64 x) := (by rw [← k1]; simp only [World.cell?, (h5 b (by show b < v.heap.size; rw [SZ.out]; have := HB.out; rw [NN.out] at this; omega) OB.out).1]; rfl); clear h3 h4 h5))
  go_wp2
  go_end0
  have hsz := H4.out.size
  have hvs : v.heap.size = N + 1 := SZ.out
  refine ⟨rfl, ⟨H3.out, (SM.out.2.trans (Below.refl base v).drew).trans H4.out⟩, ⟨?_, fun q hq ho => ?_, fun q hq ho _ => ?_, fun i _ => ?_⟩, k3⟩
  · rw [NN.out]; have : v.drew.heap.size = v.heap.size := rfl; omega
  · exact (H5.out q (by show q < v.heap.size; rw [NN.out] at hq; omega) (OF.out q ho)).2
  · exact (H5.out q (by show q < v.heap.size; rw [NN.out] at hq; omega) (OF.out q ho)).1.trans (HK.out q (by rw [← NN.out]; exact hq))
  · simp only [World.cell?, (H5.out b (by show b < v.heap.size; have := HB.out; rw [NN.out] at this; omega) OB.out).1]
    have := HK.out b (by rw [← NN.out]; exact HB.out)
    rw [show v.drew.heap[b]? = v.heap[b]? from rfl, this]
set_option maxHeartbeats 2000000 in
theorem wHash (base Wb : Nat) (w0 w : World) (bs : List Int) (b o : Nat) (x : List Int) (h8 : x.length = 8) (hw : Wr base Wb w bs) (hB : Below base w0 w) (hb : b < w.heap.size) (hO : Off Wb w b) (hc : w.rangeAt b o (bvals x)) (hl : bs.length + 8 ≤ 131072) :
    Calls Tryz.prog 153 #[wX Wb, .pointer (some ⟨b, o, none⟩)] w fun e w' => e = .returned (.tuple #[]) ∧ (Wr base Wb w' (bs ++ x) ∧ Below base w0 w') ∧ Ch (Off Wb) true w w' b o 8 ∧ w'.rangeAt b o (bvals x) := by
  obtain ⟨N, hN⟩ : ∃ N, w.heap.size = N := ⟨_, rfl⟩
  have NN := Lib.hid hN
  have SM := Lib.hid (w_chan (W := w.alloc (Obj.cells #[.pointer (some ⟨Wb, 0, none⟩)] 77)) hw hB rfl rfl rfl (by simp) (fun q hq => Below.heap_alloc w _ q hq))
  have OF : Hid (∀ q, Off Wb w q → Off Wb (w.alloc (Obj.cells #[.pointer (some ⟨Wb, 0, none⟩)] 77)) q) := fun q ho => off_same hw (fun q hq => Below.heap_alloc w _ q hq) ho
  have k0 : (w.alloc (Obj.cells #[.pointer (some ⟨Wb, 0, none⟩)] 77)).cell? ⟨N, 0, none⟩ = some (.pointer (some ⟨Wb, 0, none⟩)) := by rw [← hN]; exact cell_of_one (heap_alloc_last w _)
  have K1 : Hid ((w.alloc (Obj.cells #[.pointer (some ⟨Wb, 0, none⟩)] 77)).rangeAt b o (bvals x)) := range_keep1 hc (Below.heap_alloc w _ b hb)
  have HK : Hid (∀ q, q < N → (w.alloc (Obj.cells #[.pointer (some ⟨Wb, 0, none⟩)] 77)).heap[q]? = w.heap[q]?) := fun q hq => Below.heap_alloc w _ q (by rw [hN]; exact hq)
  have SZ : Hid ((w.alloc (Obj.cells #[.pointer (some ⟨Wb, 0, none⟩)] 77)).heap.size = N + 1) := by show _ = _; rw [World.size_alloc, hN]
  have NW : Hid (Off Wb (w.alloc (Obj.cells #[.pointer (some ⟨Wb, 0, none⟩)] 77)) N) := off_same hw (fun q hq => Below.heap_alloc w _ q hq) (off_new hw (by omega))
  have HL := Lib.hid hl
  have HB := Lib.hid hb
  have HO := Lib.hid hO
  have HC := Lib.hid hc
  clear hw hB hb hO hc hl
  unfold wX
  go_enter Tryz.func153, Tryz.ntmps153
  go_upto_region 1 with (fail)
  clear hN
  generalize (w.alloc (Obj.cells #[.pointer (some ⟨Wb, 0, none⟩)] 77)) = v at *
  have OB : Hid (Off Wb v b) := OF.out b HO.out
  have C := Lib.hid (wc24 base Wb bs x v.drew (SM.out.1.keep fun _ _ => rfl) h8 HL.out)
  have I8 : Hid ((Tryz.prog.info? 29).map (·.size) = some (bvals x).length) := by show _ = _; rw [show (bvals x).length = 8 from by rw [← vals_byt 8 x h8, vals_len (by rw [h8]; rfl)]; rfl]; exact i29
  refine wp_region_held_drew (S := fun w' => w'.cell? ⟨N, 0, none⟩ = some (.pointer (some ⟨Wb, 0, none⟩)) ∧ w'.rangeAt b o (bvals x)) (by kernel_rfl) ⟨k0, fun i u hu => K1.out i u hu⟩ (fun hHeld => ?_)
  refine tk (i := 0) (v := ?_) rfl (Or.inl ⟨by rfl, ?_⟩) (by assumption) ?_
  rotate_left
  · (intro w hSw; have hS0 := hSw.1; clear hSw; go_simp; try with_reducible rfl)
  simp only [Act.put, ly1, ly3, ly4, ly5, ly6]
  refine tk (i := 1) (v := ?_) rfl (Or.inl ⟨by rfl, ?_⟩) (by assumption) ?_
  rotate_left
  · (intro w hSw; have hS0 := hSw.1; clear hSw; go_simp; try with_reducible rfl)
  simp only [Act.put, ly1, ly2, ly3, ly4, ly5, ly6]
  refine tk (i := 2) (v := ?_) rfl (Or.inl ⟨by rfl, ?_⟩) (by assumption) ?_
  rotate_left
  · (intro w hSw; have hS0 := hSw.1; clear hSw; go_simp; try with_reducible rfl)
  simp only [Act.put, ly1, ly2, ly3, ly4, ly5, ly6]
  refine tk (i := 3) (v := ?_) rfl (Or.inl ⟨by rfl, ?_⟩) (by assumption) ?_
  rotate_left
  · (intro w hSw; have hS0 := hSw.1; clear hSw; go_simp; try with_reducible rfl)
  simp only [Act.put, ly1, ly2, ly3, ly4, ly5, ly6]
  refine tk (i := 4) rfl (yieldsIf_load_mid (by rfl) 29 (.tmp 7) rfl b o rfl (bvals x) _ (fun w' hSw => hSw.2) Tryz.underlying29 rfl I8.out) (by assumption) ?_
  simp only [Act.put, ly1, ly2, ly3, ly4, ly5, ly6]
  refine wpAnyH_ready (rs := [5]) (by kernel_rfl) (by simp) ?_
  refine AllReadyH.cons rfl (fun Kq hKq => ?_) AllReadyH.nil
  refine step_enter (F := 155) (args := #[.pointer (some ⟨Wb, 0, none⟩), hval x]) (by rfl) (by go_simp; rfl) (C.out.mono ?_)
  rintro e w' ⟨rfl, h3, h4, h5⟩
  have H3 := Lib.hid h3
  have H4 := Lib.hid h4
  have H5 := Lib.hid h5
  have k2 : w'.cell? ⟨N, 0, none⟩ = some (.pointer (some ⟨Wb, 0, none⟩)) := by rw [← k0]; simp only [World.cell?, (h5 N (by show N < v.heap.size; rw [SZ.out]; omega) NW.out).1]; rfl
  have k3 : w'.rangeAt b o (bvals x) := range_keep1 K1.out ((h5 b (by show b < v.heap.size; rw [SZ.out]; have := HB.out; rw [NN.out] at this; omega) OB.out).1)
  clear h3 h4 h5
  refine hKq.out _ _ ⟨k2, k3⟩ (fun _ => ?_)
  clear hKq Kq
  simp only [Act.put, ly1, ly2, ly3, ly4, ly5, ly6]
  refine wpAnyH_done (by kernel_rfl) ?_ _
  go_end0
  have hsz := H4.out.size
  have hvs : v.heap.size = N + 1 := SZ.out
  refine ⟨rfl, ⟨H3.out, (SM.out.2.trans (Below.refl base v).drew).trans H4.out⟩, ⟨?_, fun q hq ho => ?_, fun q hq ho _ => ?_, fun i _ => ?_⟩, k3⟩
  · rw [NN.out]; have : v.drew.heap.size = v.heap.size := rfl; omega
  · exact (H5.out q (by show q < v.heap.size; rw [NN.out] at hq; omega) (OF.out q ho)).2
  · exact (H5.out q (by show q < v.heap.size; rw [NN.out] at hq; omega) (OF.out q ho)).1.trans (HK.out q (by rw [← NN.out]; exact hq))
  · simp only [World.cell?, (H5.out b (by show b < v.heap.size; have := HB.out; rw [NN.out] at this; omega) OB.out).1]
    have := HK.out b (by rw [← NN.out]; exact HB.out)
    rw [show v.drew.heap[b]? = v.heap[b]? from rfl, this]
end Go.Proofs.YtffaddefnpkcgaaGreatDoor
namespace Go.Proofs.YtffaddefnpkcgaaGreatDoor
open Go.RowKit
set_option maxRecDepth 100000
def wT (base Wb : Nat) (w0 : World) : Tape where
  V := wV Wb
  X := wX Wb
  Fn := 154
  Fh := 153
  I := fun w bs => Wr base Wb w bs ∧ Below base w0 w
  Own := fun w q => Off Wb w q
  ro := true
  sh := false
  J := fun _ => False
  stN := fun k bs x => if 0 ≤ x ∧ x < 2 ^ (8 * k) ∧ bs.length + k ≤ 131072 then some (bs ++ digs x k, x) else none
  stH := fun bs h => if bs.length + 8 ≤ 131072 then some (bs ++ h, h) else none
  callN := w_callN Wb
  callH := w_callH Wb
  nilN := fun ho hx w => w_nil (.inl rfl) ho hx w
  nilH := fun ho hx w => w_nil (.inr rfl) ho hx w
  lenH := fun {bs h p} h8 hp => by
    by_cases hc : bs.length + 8 ≤ 131072
    · rw [if_pos hc] at hp
      simp only [Option.some.injEq] at hp
      rw [← hp]; exact h8
    · rw [if_neg hc] at hp
      cases hp
  num := fun w bs b o x k h1 h7 hI hb hO hc => by
    refine ⟨fun p hp => ?_, fun h => by cases h⟩
    by_cases hx : 0 ≤ x ∧ x < 2 ^ (8 * k) ∧ bs.length + k ≤ 131072
    · rw [if_pos hx] at hp
      simp only [Option.some.injEq] at hp
      rw [← hp]
      exact wNum base Wb w0 w bs b o x k h1 h7 hI.1 hI.2 hb hO hc ⟨hx.1, hx.2.1⟩ hx.2.2
    · rw [if_neg hx] at hp
      cases hp
  hash := fun w bs b o x hI hb hO h8 hc => by
    refine ⟨fun p hp => ?_, fun h => by cases h⟩
    by_cases hx : bs.length + 8 ≤ 131072
    · rw [if_pos hx] at hp
      simp only [Option.some.injEq] at hp
      rw [← hp]
      exact wHash base Wb w0 w bs b o x h8 hI.1 hI.2 hb hO hc hx
    · rw [if_neg hx] at hp
      cases hp
  same := fun w w' bs hI h1 h2 h3 h4 hk => ⟨w_chan hI.1 hI.2 h1 h2 h3 h4 hk, fun q _ ho => off_same hI.1 hk ho⟩
  fresh := fun w w' bs g hI _ hk hg _ => off_same hI.1 hk (off_new hI.1 hg)
  byt1 := fun bs x p hp => by
    by_cases hx : 0 ≤ x ∧ x < 2 ^ (8 * 1) ∧ bs.length + 1 ≤ 131072
    · rw [if_pos hx] at hp
      simp only [Option.some.injEq] at hp
      rw [← hp]; exact .inl rfl
    · rw [if_neg hx] at hp
      cases hp
  free := fun h => by cases h
  store := fun h => by cases h
variable {base Wb : Nat} {w0 : World}
theorem w_num {k : Nat} {bs : List Int} {x : Int} (hx : 0 ≤ x ∧ x < 2 ^ (8 * k)) (hl : bs.length + k ≤ 131072) : (wT base Wb w0).stN k bs x = some (bs ++ digs x k, x) := if_pos ⟨hx.1, hx.2, hl⟩
theorem w_hsh {bs h : List Int} (hl : bs.length + 8 ≤ 131072) : (wT base Wb w0).stH bs h = some (bs ++ h, h) := if_pos hl
theorem w_st : ∀ (ps : List Pc) (bs r : List Int), okT fitA (schP ps) r → bs.length + wid (schP ps) ≤ 131072 → (wT base Wb w0).st ps bs r = some (bs ++ enc (schP ps) r, r)
  | [], bs, r, h, _ => by
    have h : r = [] := h
    subst h
    simp [Tape.st, schP, enc]
  | .num k :: ps, bs, r, h, hl => by
    cases r with
    | nil => exact h.elim
    | cons x r =>
      have h : fitA (some k) x ∧ okT fitA (schP ps) r := h
      have hl : bs.length + (k + wid (schP ps)) ≤ 131072 := hl
      simp only [Tape.st]
      rw [show cel (x :: r) 0 = x from rfl, w_num h.1 (by omega)]
      simp only [Option.bind_some, List.drop_succ_cons, List.drop_zero]
      rw [w_st ps _ r h.2 (by rw [List.length_append, digs_len]; omega)]
      simp only [Option.bind_some]
      rw [show enc (schP (.num k :: ps)) (x :: r) = digs x k ++ enc (schP ps) r from rfl, List.append_assoc]
  | .hsh :: ps, bs, r, h, hl => by
    rw [schP_cons] at h hl ⊢
    rw [wid_app, show wid Pc.hsh.sch = 8 from rfl] at hl
    have h8 : Pc.hsh.sch.length = 8 := rfl
    obtain ⟨h1, h2⟩ := okT_app.1 h
    rw [h8] at h1 h2
    have l1 : (r.take 8).length = 8 := okT_len h1
    simp only [Tape.st]
    rw [w_hsh (by omega)]
    simp only [Option.bind_some]
    rw [w_st ps _ (r.drop 8) h2 (by rw [List.length_append, l1]; omega)]
    simp only [Option.bind_some, List.take_append_drop]
    rw [enc_app (by rw [h8]; rw [List.length_take] at l1; omega), h8, show enc Pc.hsh.sch (r.take 8) = r.take 8 from enc_byt 8 _ l1, List.append_assoc]
theorem w_stR (ps : List Pc) : ∀ (rs : List (List Int)) (bs : List Int), (∀ r ∈ rs, okT fitA (schP ps) r) → bs.length + rs.length * wid (schP ps) ≤ 131072 → (wT base Wb w0).stR ps bs rs = some (bs ++ rs.flatMap (enc (schP ps)), rs)
  | [], bs, _, _ => by simp [Tape.stR]
  | r :: rs, bs, h, hl => by
    rw [List.length_cons, Nat.add_mul] at hl
    simp only [Tape.stR]
    rw [w_st ps bs r (h r (by simp)) (by omega)]
    simp only [Option.bind_some]
    rw [w_stR ps rs _ (fun x hx => h x (List.mem_cons_of_mem _ hx)) (by rw [List.length_append, enc_len (okT_len (h r (by simp)))]; omega)]
    simp [List.append_assoc]
theorem w_stL (ps : List Pc) (rs : List (List Int)) (bs : List Int) (h : ∀ r ∈ rs, okT fitA (schP ps) r) (hn : rs.length < 256) (hl : bs.length + 1 + rs.length * wid (schP ps) ≤ 131072) : (wT base Wb w0).stL ps bs rs = some (bs ++ encL (schP ps) rs, rs) := by
  unfold Tape.stL
  rw [w_num ⟨by omega, by show (rs.length : Int) < 256; omega⟩ (by omega)]
  simp only [Option.bind_some]
  unfold rowsOf
  rw [if_pos rfl, w_stR ps rs _ h (by rw [List.length_append, digs_len]; omega)]
  unfold encL
  rw [List.append_assoc]
theorem encL_len (S : Sch) (rs : List (List Int)) (h : ∀ r ∈ rs, r.length = S.length) : (encL S rs).length = 1 + rs.length * wid S := by
  unfold encL
  rw [List.length_append, digs_len]
  congr 1
  induction rs with
  | nil => simp
  | cons r rs ih =>
    rw [List.flatMap_cons, List.length_append, enc_len (h r (by simp)), ih (fun x hx => h x (List.mem_cons_of_mem _ hx)), List.length_cons, Nat.add_mul]
    omega
theorem wid_out : wid outS = 15 := by decide
theorem wid_in : wid inS = 298 := by
  unfold inS sigS hS
  rw [wid_app, wid_app, wid_app, wid_app, wid_byt, wid_byt]
  rfl
theorem wid_fwd : wid fwdS = 18 := by decide
theorem wid_sgn : wid sgnS = 282 := by
  unfold sgnS sigS
  rw [wid_app, wid_app, wid_byt]
  rfl
theorem wid_par : wid parS = 3 := rfl
theorem wid_cer : wid cerS = 25 := by decide
theorem wid_cla : wid claS = 147 := by
  unfold claS hS
  rw [wid_app, wid_app, wid_app, wid_byt, wid_byt]
  rfl
theorem w_outs {rs : List (List Int)} {bs : List Int} (ha : AllR outS rs) (hm : mOuts rs = true) (hl : bs.length ≤ 10000) : (wT base Wb w0).stL outP bs rs = some (bs ++ encL outS rs, rs) ∧ (encL outS rs).length ≤ 1000 := by
  obtain ⟨_, h2, h3⟩ := lis_all hm
  have := encL_len outS rs fun r hr => okT_len (ha r hr)
  rw [wid_out] at this
  exact ⟨w_stL outP rs bs (fun r hr => fit_out (ha r hr) (h3 r hr)) (by omega) (by rw [sch_out, wid_out]; omega), by omega⟩
theorem w_stT {t : TxP} (hw : WfT t) (hm : mayT t = true) : (wT base Wb w0).stT [] t = some (encT t, t) ∧ (encT t).length ≤ 131072 := by
  have hk := may_kind hm
  have n1 : (wT base Wb w0).stN 1 [] t.kind = some (digs t.kind 1, t.kind) := by
    have : 0 ≤ t.kind ∧ t.kind < 2 ^ (8 * 1) := by
      have e : (2 : Int) ^ (8 * 1) = 256 := by decide
      rw [e]
      cases hk with
      | base h => rw [show t.kind = 1 from by rw [h]]; decide
      | pay h => rw [show t.kind = 2 from by rw [h]]; decide
      | create h => rw [show t.kind = 3 from by rw [h]]; decide
      | cert h => rw [show t.kind = 4 from by rw [h]]; decide
      | claim h => rw [show t.kind = 5 from by rw [h]]; decide
    exact w_num this (by decide)
  have d1 : (digs t.kind 1).length = 1 := digs_len _ _
  cases hk with
  | base h hm =>
    simp only [mCbs, Bool.and_eq_true] at hm
    have hkd : t.kind = 1 := by rw [h]
    have h4 := win_fit (a := 4) hm.1 (by decide) (by decide)
    have d4 : (digs t.height 4).length = 4 := digs_len _ _
    obtain ⟨o1, o2⟩ := w_outs (base := base) (Wb := Wb) (w0 := w0) (bs := digs t.kind 1 ++ digs t.height 4) hw.outs hm.2 (by rw [List.length_append]; omega)
    have n2 : (wT base Wb w0).stN 1 [] t.kind = some (digs t.kind 1, 1) := by rw [n1, hkd]
    rw [stT_1 n2, w_num h4 (by rw [digs_len]; decide)]
    simp only [Option.bind_some]
    rw [← hkd, o1]
    simp only [Option.bind_some]
    unfold encT
    rw [bod_1 hkd]
    refine ⟨by rw [List.append_assoc], ?_⟩
    rw [List.length_append, List.length_append]
    omega
  | pay h hm =>
    simp only [mPay, mIns, Bool.and_eq_true] at hm
    have hkd : t.kind = 2 := by rw [h]
    obtain ⟨_, i2, i3⟩ := lis_all hm.1.1
    obtain ⟨_, f2, f3⟩ := lis_all hm.2.2.1
    have li := encL_len inS t.ins fun r hr => okT_len (hw.ins r hr)
    have lf := encL_len fwdS t.fwds fun r hr => okT_len (hw.fwds r hr)
    rw [wid_in] at li
    rw [wid_fwd] at lf
    have e1 := w_stL (base := base) (Wb := Wb) (w0 := w0) inP t.ins (digs t.kind 1) (fun r hr => fit_in (hw.ins r hr) (i3 r hr)) (by omega) (by rw [sch_in, wid_in]; omega)
    obtain ⟨o1, o2⟩ := w_outs (base := base) (Wb := Wb) (w0 := w0) (bs := digs t.kind 1 ++ encL inS t.ins) hw.outs hm.2.1 (by rw [List.length_append]; omega)
    have e3 := w_stL (base := base) (Wb := Wb) (w0 := w0) fwdP t.fwds (digs t.kind 1 ++ encL inS t.ins ++ encL outS t.outs) (fun r hr => fit_fwd (hw.fwds r hr) (f3 r hr)) (by omega) (by rw [List.length_append, List.length_append, sch_fwd, wid_fwd]; omega)
    rw [sch_in] at e1
    rw [sch_fwd] at e3
    have n2 : (wT base Wb w0).stN 1 [] t.kind = some (digs t.kind 1, 2) := by rw [n1, hkd]
    rw [stT_2 n2, ← hkd, e1]
    simp only [Option.bind_some]
    rw [o1]
    simp only [Option.bind_some]
    rw [e3]
    simp only [Option.bind_some]
    unfold encT
    rw [bod_2 hkd]
    refine ⟨by rw [List.append_assoc, List.append_assoc], ?_⟩
    rw [List.length_append, List.length_append, List.length_append]
    omega
  | create h hm =>
    have hkd : t.kind = 3 := by rw [h]
    have hp := fit_par hw.par hm
    simp only [mCre, mayP, mayK, Bool.and_eq_true] at hm
    have hn := win_iff.1 hm.1.1
    have e1 := w_st (base := base) (Wb := Wb) (w0 := w0) parP (digs t.kind 1) t.par hp (by rw [sch_par, wid_par]; omega)
    have l1 : (enc parS t.par).length = 3 := enc_len (okT_len hp)
    have lk := encL_len hS t.keys fun r hr => okT_len (hw.keys r hr)
    rw [show wid hS = 8 from rfl] at lk
    have e2 := w_stL (base := base) (Wb := Wb) (w0 := w0) hshP t.keys (digs t.kind 1 ++ enc parS t.par) (fun r hr => fit_key (hw.keys r hr)) (by omega) (by rw [List.length_append, sch_hsh, show wid hS = 8 from rfl]; omega)
    rw [sch_par] at e1
    rw [sch_hsh] at e2
    have n2 : (wT base Wb w0).stN 1 [] t.kind = some (digs t.kind 1, 3) := by rw [n1, hkd]
    rw [stT_3 n2, ← hkd]
    unfold Tape.stPar
    rw [e1]
    simp only [Option.bind_some]
    rw [e2]
    simp only [Option.bind_some]
    unfold encT
    rw [bod_3 hkd]
    refine ⟨by rw [List.append_assoc], ?_⟩
    rw [List.length_append, List.length_append]
    omega
  | cert h hm =>
    have hkd : t.kind = 4 := by rw [h]
    have hp := fit_cer hw.cer hm
    simp only [mCer, Bool.and_eq_true] at hm
    obtain ⟨_, s2, s3⟩ := lis_all hm.2.2.2.2
    have e1 := w_st (base := base) (Wb := Wb) (w0 := w0) cerP (digs t.kind 1) t.cer hp (by rw [sch_cer, wid_cer]; omega)
    have l1 : (enc cerS t.cer).length = 25 := by rw [enc_len (okT_len hp), wid_cer]
    obtain ⟨o1, o2⟩ := w_outs (base := base) (Wb := Wb) (w0 := w0) (bs := digs t.kind 1 ++ enc cerS t.cer) hw.couts hm.2.2.2.1 (by rw [List.length_append]; omega)
    have ls := encL_len sgnS t.csigs fun r hr => okT_len (hw.csigs r hr)
    rw [wid_sgn] at ls
    have e3 := w_stL (base := base) (Wb := Wb) (w0 := w0) sgnP t.csigs (digs t.kind 1 ++ enc cerS t.cer ++ encL outS t.couts) (fun r hr => fit_sgn (hw.csigs r hr) (s3 r hr)) (by omega) (by rw [List.length_append, List.length_append, sch_sgn, wid_sgn]; omega)
    rw [sch_cer] at e1
    rw [sch_sgn] at e3
    have n2 : (wT base Wb w0).stN 1 [] t.kind = some (digs t.kind 1, 4) := by rw [n1, hkd]
    rw [stT_4 n2, ← hkd]
    unfold Tape.stCer
    rw [e1]
    simp only [Option.bind_some]
    rw [o1]
    simp only [Option.bind_some]
    rw [e3]
    simp only [Option.bind_some]
    unfold encT
    rw [bod_4 hkd]
    refine ⟨by rw [List.append_assoc, List.append_assoc], ?_⟩
    rw [List.length_append, List.length_append, List.length_append]
    omega
  | claim h hm =>
    have hkd : t.kind = 5 := by rw [h]
    have hp := fit_cla hw.cla hm
    have e1 := w_st (base := base) (Wb := Wb) (w0 := w0) claP (digs t.kind 1) t.cla hp (by rw [sch_cla, wid_cla]; omega)
    have l1 : (enc claS t.cla).length = 147 := by rw [enc_len (okT_len hp), wid_cla]
    rw [sch_cla] at e1
    have n2 : (wT base Wb w0).stN 1 [] t.kind = some (digs t.kind 1, 5) := by rw [n1, hkd]
    rw [stT_5 n2, ← hkd, e1]
    simp only [Option.bind_some]
    unfold encT
    rw [bod_5 hkd]
    refine ⟨rfl, ?_⟩
    rw [List.length_append]
    omega
end Go.Proofs.YtffaddefnpkcgaaGreatDoor
namespace Go.Proofs.YtffaddefnpkcgaaGreatDoor
open Go.RowKit
set_option maxRecDepth 100000
attribute [local irreducible] ua da ba kk sw S8.run rt hs comp splice outB sha msg zeros win bvals vals parC cerC claC txC cel seg mFld mBlk othT othH
theorem w_lst {base Wb : Nat} {w0 w00 w : World} {S : Sch} {b p : Nat} {A : Option Addr} {c : Nat} {rs : List (List Int)} (hS : 0 < S.length) (hcell : w.cell? ⟨b, p, none⟩ = some (.slice A rs.length c)) (hr : LRow S w00 A rs) (hc : Cap ⟨A, c⟩ rs.length) (ha : AllR S rs)
    (hk : ∀ q, q < w00.heap.size → w.heap[q]? = w00.heap[q]?) (hs : w00.heap.size ≤ w.heap.size) (ho : ∀ q, q < w00.heap.size → Off Wb w q) : LstAt (wT base Wb w0) S w b p rs 0 A c := by
  refine ⟨hcell, hc.le, hc.mx, hc.no, fun r hr => okT_len (ha r hr), ?_⟩
  rcases hr with h | ⟨g, o, e, h⟩
  · exact .inl h
  · by_cases hn : rs = []
    · exact .inl hn
    have h0 : 0 < rs.length := List.length_pos_iff.2 hn
    have hl : (vals S (rcd rs 0)).length = S.length := vals_len (lrow_len ha h0)
    have hg : g < w00.heap.size := by
      have h1 := h 0 h0 0 _ (List.getElem?_eq_getElem (by rw [hl]; exact hS))
      exact World.block_lt_of_cell? w00 _ h1
    exact .inr ⟨g, o, e, ho g hg, Nat.lt_of_lt_of_le hg hs, .inr rfl, fun j hj => range_keep1 (h j hj) (hk g hg)⟩
theorem w_tat {base Wb : Nat} {w0 w00 w : World} {S : Nat} {t : TxP} {h : TxH} (hw : WfT t) (R : TRng w S t h) (m : Mem w00 t h) (hk : ∀ q, q < w00.heap.size → w.heap[q]? = w00.heap[q]?) (hs : w00.heap.size ≤ w.heap.size) (ho : ∀ q, q < w00.heap.size → Off Wb w q) :
    TAt (wT base Wb w0) w S t h 0 := by
  have hp := R.par
  have hc := R.cer
  have hl := R.cla
  unfold parC at hp
  unfold cerC at hc
  unfold claC at hl
  have hp2 := range_app hp
  have hc2 := range_app hc
  have lp : (vals parS t.par).length = 3 := vals_len (okT_len hw.par)
  have lc : (vals cerS t.cer).length = 19 := vals_len (okT_len hw.cer)
  rw [lp] at hp2
  rw [lc] at hc2
  have k8 := range_cell hp2.2 (i := 0) rfl
  have k28 := range_cell hc2.2 (i := 0) rfl
  have k29 := range_cell hc2.2 (i := 1) rfl
  exact { kind := R.kind, height := R.height, i := w_lst (by rw [sch_in]; decide) R.i m.i m.ic hw.ins hk hs ho, o := w_lst (by decide) R.o m.o m.oc hw.outs hk hs ho, f := w_lst (by decide) R.f m.f m.fc hw.fwds hk hs ho,
          par := hp2.1, k := w_lst (by decide) k8 m.k m.kc hw.keys hk hs ho, cer := hc2.1, co := w_lst (by decide) k28 m.co m.coc hw.couts hk hs ho, cs := w_lst (by rw [sch_sgn]; decide) k29 m.cs m.csc hw.csigs hk hs ho, cla := hl,
          lpar := okT_len hw.par, lcer := okT_len hw.cer, lcla := okT_len hw.cla }
def EncP (t : TxP) (e : Ending) (w' : World) : Prop :=
  if mayT t = true then ∃ A c, e = .returned (.tuple #[.slice A (encT t).length c, .int .i64 0]) ∧ Row w' A (encT t) ∧ (encT t).length ≤ c ∧ (A = none → c = 0) ∧ c ≤ 9223372036854775807
  else e = .returned (.tuple #[.slice none 0 0, .int .i64 1])
set_option maxHeartbeats 4000000 in
theorem tEnc (t : TxP) (h : TxH) (w : World) (ht : WfT t) (hm : Mem w t h) :
    Calls Tryz.prog 11 #[.agg (txC t h).toArray] w fun e w' => EncP t e w' ∧ Below w.heap.size w w' := by
  obtain ⟨c1, hc1⟩ : ∃ c, mayT t = c := ⟨_, rfl⟩
  have HC := Lib.hid hc1
  obtain ⟨S, hS⟩ : ∃ S, w.heap.size = S := ⟨_, rfl⟩
  have HS := Lib.hid hS
  have RC : Hid ((w.alloc (Obj.cells (txC t h).toArray 39)).rangeAt S 0 (txC t h)) := by rw [← hS]; exact range_new w _ _
  have BC : Hid (Below S w (w.alloc (Obj.cells (txC t h).toArray 39))) := by rw [← hS]; exact (Below.refl _ w).alloc (Nat.le_refl _) _
  have NC : Hid ((w.alloc (Obj.cells (txC t h).toArray 39)).heap.size = S + 1) := by show _ = _; rw [World.size_alloc, hS]
  have HM := Lib.hid hm
  have HT := Lib.hid ht
  have CM : Hid (∀ w', Below S w w' → Calls Tryz.prog 15 #[.agg (txC t h).toArray] w' fun e w'' => e = .returned (.bool c1) ∧ Below w'.heap.size w' w'') := fun w' hb => by
    have := tMay t h w' HT.out (HM.out.keep fun q hq => hb.block q (by rw [← HS.out]; exact hq))
    rw [hc1] at this
    exact this
  have HI : Hid ((Tryz.prog.info? 39).map (·.size) = some (txC t h).length) := szL i39 (txC_len h ht)
  clear hc1 ht hm
  cases c1
  · go_enter Tryz.func11, Tryz.ntmps11
    go_wp2_with (first
      | (refine wpList_load_midG (by rfl) 39 (.tmp 1) rfl S 0 rfl (txC t h) _ RC.out Tryz.underlying39 rfl HI.out ?_)
      | (go_at_call 15; refine (CM.out _ BC.out).mono ?_; rintro e w1 ⟨rfl, hb⟩; replace BC : Hid (Below S w w1) := Lib.hid (BC.out.trans (hb.mono (by rw [NC.out]; omega))); clear hb)
      | fail)
    go_ret2
    refine ⟨?_, by first | exact BC.out | (rw [HS.out]; exact BC.out)⟩
    unfold EncP
    rw [HC.out]
    rfl
  · go_enter Tryz.func11, Tryz.ntmps11
    go_wp2_with (first
      | (refine wpList_load_midG (by rfl) 39 (.tmp 1) rfl S 0 rfl (txC t h) _ RC.out Tryz.underlying39 rfl HI.out ?_)
      | (go_at_call 15; refine (CM.out _ BC.out).mono ?_; rintro e w1 ⟨rfl, hb⟩; replace RC : Hid (w1.rangeAt S 0 (txC t h)) := Lib.hid (range_keep1 RC.out (hb.block S (by rw [NC.out]; omega))); replace BC : Hid (Below S w w1) := Lib.hid (BC.out.trans (hb.mono (by rw [NC.out]; omega))); have NC1 : Hid (S < w1.heap.size) := Lib.hid (Nat.lt_of_lt_of_le (by rw [NC.out]; omega) hb.size); clear hb)
      | fail)
    have hS1 := NC1.out
    obtain ⟨B, hB⟩ : ∃ B, w1.heap.size = B := ⟨_, rfl⟩
    have HB := Lib.hid hB
    rw [hB] at hS1
    have T3 : Three (w1.alloc (Obj.cells #[.pointer none, .int .i64 0, .int .i64 0] 73)) B (.pointer none) (.int .i64 0) (.int .i64 0) := by rw [← hB]; exact heap_alloc_last w1 _
    have W0 : Wr B B (w1.alloc (Obj.cells #[.pointer none, .int .i64 0, .int .i64 0] 73)) [] := .inl ⟨rfl, Nat.le_refl _, T3⟩
    have BA : Below B w1 (w1.alloc (Obj.cells #[.pointer none, .int .i64 0, .int .i64 0] 73)) := by rw [← hB]; exact (Below.refl _ w1).alloc (Nat.le_refl _) _
    have SA : (w1.alloc (Obj.cells #[.pointer none, .int .i64 0, .int .i64 0] 73)).heap.size = B + 1 := by rw [World.size_alloc, hB]
    have HE := w_stT (base := B) (Wb := B) (w0 := w1) HT.out HC.out
    have hso : ∀ q, q < w.heap.size → Off B (w1.alloc (Obj.cells #[.pointer none, .int .i64 0, .int .i64 0] 73)) q := fun q hq => off_low W0 (by rw [HS.out] at hq; omega)
    have hkeep : ∀ q, q < w.heap.size → (w1.alloc (Obj.cells #[.pointer none, .int .i64 0, .int .i64 0] 73)).heap[q]? = w.heap[q]? := fun q hq => (BA.block q (by rw [HS.out] at hq; omega)).trans (BC.out.block q (by rw [← HS.out]; exact hq))
    have TA : TAt (wT B B w1) (w1.alloc (Obj.cells #[.pointer none, .int .i64 0, .int .i64 0] 73)) S t h 0 :=
      w_tat HT.out (trng HT.out (range_keep1 RC.out (BA.block S hS1))) HM.out hkeep (by rw [HS.out, SA]; omega) hso
    rw [hB]
    refine (fFields (wT B B w1) _ [] S t h ⟨W0, BA⟩ (by rw [SA]; omega) (off_low W0 hS1) TA (.inl rfl) (fun hh => by rw [HE.1] at hh; cases hh)).mono ?_
    rw [HE.1]
    rintro e w2 ⟨rfl, ⟨hw2, hb2⟩, _, _⟩
    have W2 := Lib.hid hw2
    have B2 := Lib.hid hb2
    have HL := Lib.hid HE.2
    clear hw2 hb2 HE TA hkeep hso SA BA W0 T3 RC hB
    go_wp2_with fail
    refine (wc27 B B (encT t) w2 W2.out HL.out).mono ?_
    rintro e w3 ⟨⟨A, c, rfl, hr, hl, hn, hx⟩, hb3⟩
    have R3 := Lib.hid hr
    have L3 := Lib.hid hl
    have N3 := Lib.hid hn
    have X3 := Lib.hid hx
    have B3 := Lib.hid hb3
    clear hr hl hn hx hb3
    go_wp2
    go_ret2
    refine ⟨?_, ?_⟩
    · unfold EncP
      rw [if_pos HC.out]
      exact ⟨A, c, rfl, R3.out, L3.out, N3.out, X3.out⟩
    · rw [HS.out]
      have hSB : S ≤ B := Nat.le_of_lt hS1
      exact (BC.out.trans (B2.out.mono hSB)).trans (B3.out.mono hSB)
end Go.Proofs.YtffaddefnpkcgaaGreatDoor
namespace Go.Proofs.YtffaddefnpkcgaaGreatDoor
open Go.RowKit
set_option maxRecDepth 100000
theorem tEncN (t : TxP) (h : TxH) (w : World) (ht : WfT t) (hm : Mem w t h) (hc : mayT t = false) :
    Calls Tryz.prog 11 #[.agg (txC t h).toArray] w fun e w' => e = .returned (.tuple #[.slice none 0 0, .int .i64 1]) ∧ Below w.heap.size w w' := by
  refine (tEnc t h w ht hm).mono fun e w' g => ⟨?_, g.2⟩
  have := g.1
  unfold EncP at this
  rw [if_neg (by rw [hc]; decide)] at this
  exact this
theorem tEncY (t : TxP) (h : TxH) (w : World) (ht : WfT t) (hm : Mem w t h) (hc : mayT t = true) :
    Calls Tryz.prog 11 #[.agg (txC t h).toArray] w fun e w' => (∃ A c, e = .returned (.tuple #[.slice A (encT t).length c, .int .i64 0]) ∧ Row w' A (encT t) ∧ (encT t).length ≤ c ∧ (A = none → c = 0) ∧ c ≤ 9223372036854775807) ∧ Below w.heap.size w w' := by
  refine (tEnc t h w ht hm).mono fun e w' g => ⟨?_, g.2⟩
  have := g.1
  unfold EncP at this
  rw [if_pos hc] at this
  exact this
def mg1 (p : Int) (x : List Int) : List Int := [p] ++ digs x.length 4 ++ x
def mg2 (p : Int) (x y : List Int) : List Int := mg1 p x ++ digs y.length 4 ++ y
def hash1 (p : Int) (x : List Int) : List Int := (sha (mg1 p x)).take 8
def hash2 (p : Int) (x y : List Int) : List Int := (sha (mg2 p x y)).take 8
theorem hash1_len (p : Int) (x : List Int) : (hash1 p x).length = 8 := by rw [hash1, List.length_take, sha_len]; rfl
theorem hash2_len (p : Int) (x y : List Int) : (hash2 p x y).length = 8 := by rw [hash2, List.length_take, sha_len]; rfl
theorem infoS : (Tryz.prog.info? 42).map (fun i => (i.zero, i.size, i.bytes)) = some (some (.slice none 0 0), 1, 24) := by kernel_rfl
theorem prtsX {w : World} {g off : Nat} (ss : List (Option Addr × Nat × Nat × List Int)) (hc : ∀ i (s : Option Addr × Nat × Nat × List Int), ss[i]? = some s → w.cell? ⟨g, off + i, none⟩ = some (.slice s.1 s.2.1 s.2.2.1) ∧ Src w s.1 s.2.1 s.2.2.2 ∧ s.2.1 ≤ s.2.2.1 ∧ s.2.2.1 ≤ 9223372036854775807) :
    Prts w (some ⟨g, off, none⟩) ss.length (fun i => (ss.getD i (none, 0, 0, [])).1) (fun i => (ss.getD i (none, 0, 0, [])).2.1) (fun i => (ss.getD i (none, 0, 0, [])).2.2.1) (fun i => (ss.getD i (none, 0, 0, [])).2.2.2) := by
  have e : ∀ i, i < ss.length → ss[i]? = some (ss.getD i (none, 0, 0, [])) := fun i hi => by simp [List.getD, hi]
  exact ⟨.inr ⟨g, off, rfl, fun i hi => (hc i _ (e i hi)).1⟩, fun i hi => (hc i _ (e i hi)).2.1, fun i hi => (hc i _ (e i hi)).2.2⟩
theorem ofOne (p : Int) (A : Option Addr) (n c cap g : Nat) (x : List Int) (w : World) (hk : Keys w) (hc : w.cell? ⟨g, 0, none⟩ = some (.slice A n c)) (hs : Src w A n x) (hle : n ≤ c) (hcm : c ≤ 9223372036854775807) (hl : n ≤ 200000) :
    Calls Tryz.prog 56 #[.int .u8 p, .slice (some ⟨g, 0, none⟩) 1 cap] w fun e w' => e = .returned (.agg (bvals (hash1 p x)).toArray) ∧ Below w.heap.size w w' := by
  have P := prtsX (w := w) (g := g) (off := 0) [(A, n, c, x)] (fun i s h => by
    match i, h with
    | 0, h => simp at h; rw [← h]; exact ⟨hc, hs, hle, hcm⟩
    | i + 1, h => simp at h)
  have e : msg p (fun i => (([(A, n, c, x)] : List (Option Addr × Nat × Nat × List Int)).getD i (none, 0, 0, [])).2.1) (fun i => (([(A, n, c, x)] : List (Option Addr × Nat × Nat × List Int)).getD i (none, 0, 0, [])).2.2.2) 1 = mg1 p x := by
    show [p] ++ digs n 4 ++ x = _
    unfold mg1
    rw [hs.1]
  have C := c10 p (some ⟨g, 0, none⟩) 1 cap _ _ _ _ w hk P (by rw [e]; unfold mg1; rw [List.length_append, List.length_append, digs_len, hs.1]; simp; omega)
  rw [e] at C
  exact C
theorem ofTwo (p : Int) (A B : Option Addr) (n c m d cap g : Nat) (x y : List Int) (w : World) (hk : Keys w) (hc : w.cell? ⟨g, 0, none⟩ = some (.slice A n c)) (hs : Src w A n x) (hle : n ≤ c) (hcm : c ≤ 9223372036854775807) (hl : n ≤ 200000)
    (hd : w.cell? ⟨g, 1, none⟩ = some (.slice B m d)) (ht : Src w B m y) (hme : m ≤ d) (hdm : d ≤ 9223372036854775807) (hm : m ≤ 1000) :
    Calls Tryz.prog 56 #[.int .u8 p, .slice (some ⟨g, 0, none⟩) 2 cap] w fun e w' => e = .returned (.agg (bvals (hash2 p x y)).toArray) ∧ Below w.heap.size w w' := by
  have P := prtsX (w := w) (g := g) (off := 0) [(A, n, c, x), (B, m, d, y)] (fun i s h => by
    match i, h with
    | 0, h => simp at h; rw [← h]; exact ⟨hc, hs, hle, hcm⟩
    | 1, h => simp at h; rw [← h]; exact ⟨hd, ht, hme, hdm⟩
    | i + 2, h => simp at h)
  have e : msg p (fun i => (([(A, n, c, x), (B, m, d, y)] : List (Option Addr × Nat × Nat × List Int)).getD i (none, 0, 0, [])).2.1) (fun i => (([(A, n, c, x), (B, m, d, y)] : List (Option Addr × Nat × Nat × List Int)).getD i (none, 0, 0, [])).2.2.2) 2 = mg2 p x y := by
    show [p] ++ digs n 4 ++ x ++ digs m 4 ++ y = _
    unfold mg2 mg1
    rw [hs.1, ht.1]
  have C := c10 p (some ⟨g, 0, none⟩) 2 cap _ _ _ _ w hk P (by rw [e]; unfold mg2 mg1; rw [List.length_append, List.length_append, List.length_append, List.length_append, digs_len, digs_len, hs.1, ht.1]; simp; omega)
  rw [e] at C
  exact C
theorem wpList_aps {w : World} {ops : Array Oper} {rest : List Oper} {o : Oper} {a : Act} {Q : Exit → Act → World → Prop} (hgd : o.guard = none) (s x : Operand)
    (ho : o.op = .call { callee := .builtin .append, args := #[s, x], argTypes := #[106, 106] })
    (base n : Nat) (v : Value) (xs : List Value) (hv : a.eval s = v) (hown : w.ownsRow base 42 1 v n xs) (A : Option Addr) (m c : Nat) (news : List Value) (hx : a.eval x = .slice A m c) (hl : news.length = m) (hA : A = none → m = 0 ∧ c = 0) (hn : ∀ ad, A = some ad → ∀ j u, news[j]? = some u → w.cell? (ad.add j) = some u) (h1 : ∀ u ∈ news, u.oneCell' = true)
    (h63 : n + m ≤ 1000) (hbase : base ≤ w.heap.size)
    (h : ∀ A' c' w', w'.ownsRow base 42 1 (.slice A' (n + m) c') (n + m) (xs ++ news) → w.grownBy w' v.ownBlock → wpList Tryz.prog ops Q rest (a.put o.dst (.slice A' (n + m) c')) w') : wpList Tryz.prog ops Q (o :: rest) a w := by
  refine wpList_plain hgd fun K hK => ?_
  obtain ⟨i0, hi, hz0, hz1, hz2⟩ := info_parts infoS
  have hr : ∃ v' w', (Builtin.append_ #[106, 106] o.type #[v, .slice A m c]).run Tryz.prog w = .ok v' w' ∧ w'.ownsRow base 42 1 v' (n + m) (xs ++ news) ∧ w.grownBy w' v.ownBlock := by
    cases A with
    | none =>
      obtain ⟨rfl, rfl⟩ := hA rfl
      obtain rfl := List.eq_nil_of_length_eq_zero hl
      refine ⟨v, w, ?_, by simpa using hown, World.grownBy.refl w _⟩
      rcases hown.2 with ⟨rfl, rfl⟩ | ⟨g, cap, cur, rfl, _, _, hnc, _⟩
      · simp [Builtin.append_, run_underlying Tryz.underlying106, sizeOf, typeInfo, hi, Builtin.lenOf, Builtin.firstCells]
      · simp [Builtin.append_, run_underlying Tryz.underlying106, sizeOf, typeInfo, hi, Builtin.lenOf, Builtin.firstCells, hnc, storeCells]
    | some ad =>
      obtain ⟨v', w', hr, h2, h3, _, _⟩ := run_append_own_at (P := Tryz.prog) w base 106 o.type 42 i0 (.slice none 0 0) 1 24 Tryz.underlying106 hi hz0 hz1 hz2 rfl (by decide) v n xs hown ad m c news (by rw [hl, Nat.mul_one]) (hn ad rfl) h1 (by unfold maxLen; omega) (by omega) hbase
      exact ⟨v', w', hr, h2, h3⟩
  obtain ⟨v', w', hr, h2, h3⟩ := hr
  unfold Oper.wp execOp
  simp only [ho, resolve, invoke, builtin, Sem.run_bind, Sem.run_pure, Result.andThen_ok, List.map_toArray, List.map_cons, List.map_nil, hv, hx, hr]
  have hv' : ∃ A' c', v' = .slice A' (n + m) c' := by
    rcases h2.2 with ⟨rfl, e⟩ | ⟨g, cap, cur, rfl, _⟩
    · exact ⟨none, 0, by rw [e]⟩
    · exact ⟨_, _, rfl⟩
  obtain ⟨A', c', rfl⟩ := hv'
  exact hK _ _ (h A' c' w' h2 h3)
theorem results_ch {fn : Func} {p u : Tmp} (h : fn.results = #[.cell p 29, .tmp u]) (tmps : Array Value) (w : World) (g : Nat) (cs : List Value) (v : Value) (hp : tmps.getD p undef = .pointer (some ⟨g, 0, none⟩)) (hr : w.rangeAt g 0 cs) (hi : (Tryz.prog.info? 29).map (·.size) = some cs.length) (hu : tmps.getD u undef = v) :
    (results fn tmps).run Tryz.prog w = .ok (.tuple #[.agg cs.toArray, v]) w := by
  rw [results_cell_tmp h, hp, hu]
  simp only [asAddr, Sem.run_pure, Result.andThen_ok, run_loadVar_mid w g 0 29 cs _ hr Tryz.underlying29 rfl hi]
theorem bv8s {x : List Int} (h : x.length = 8) : (bvals x).length = 8 := by simp [bvals, h]
theorem bv_one (x : List Int) : ∀ v ∈ bvals x, v.oneCell' = true := fun v hv => by
  simp only [bvals, List.mem_map] at hv
  obtain ⟨y, _, rfl⟩ := hv
  rfl
theorem z29b (w : World) : (zeroValue 29).run Tryz.prog w = .ok (.agg (bvals (zeros 8)).toArray) w := by kernel_rfl
theorem b29b (w : World) : (Instr.build 29 #[]).run Tryz.prog w = .ok (.agg (bvals (zeros 8)).toArray) w := by kernel_rfl
theorem enc_le {t : TxP} (hw : WfT t) (hm : mayT t = true) : (encT t).length ≤ 131072 := (w_stT (base := 0) (Wb := 0) (w0 := default) hw hm).2
attribute [local irreducible] ua da ba kk sw S8.run rt hs comp splice outB sha msg zeros win bvals vals parC cerC claC txC cel seg hash1 hash2
def DigP (t : TxP) (m : List Int → List Int) : List Int := if mayT t = true then m (encT t) else zeros 8
set_option maxHeartbeats 4000000 in
theorem tDig0 (p : Int) (t : TxP) (h : TxH) (w : World) (ht : WfT t) (hm : Mem w t h) (hk : Keys w) (hw0 : 0 < w.heap.size) :
    Calls Tryz.prog 38 #[.int .u8 p, .agg (txC t h).toArray, .slice none 0 0] w fun e w' => e = .returned (.tuple #[.agg (bvals (DigP t (hash1 p))).toArray, .bool (mayT t)]) ∧ Below w.heap.size w w' := by
  obtain ⟨c1, hc1⟩ : ∃ c, mayT t = c := ⟨_, rfl⟩
  have HC := Lib.hid hc1
  obtain ⟨S, hS⟩ : ∃ S, w.heap.size = S := ⟨_, rfl⟩
  have HS := Lib.hid hS
  have RC : Hid (((w.alloc (Obj.cells (txC t h).toArray 39)).alloc (Obj.cells (bvals (zeros 8)).toArray 29)).rangeAt S 0 (txC t h)) := by rw [← hS]; exact range_keep1 (range_new w _ _) (Below.heap_alloc _ _ _ (by simp))
  have X1 : Hid (BL ((w.alloc (Obj.cells (txC t h).toArray 39)).alloc (Obj.cells (bvals (zeros 8)).toArray 29)) (S + 1) (bvals (zeros 8)) 29) := by
    have := heap_alloc_last (w.alloc (Obj.cells (txC t h).toArray 39)) (Obj.cells (bvals (zeros 8)).toArray 29)
    rw [World.size_alloc, hS] at this
    exact this
  have BC : Hid (Below S w ((w.alloc (Obj.cells (txC t h).toArray 39)).alloc (Obj.cells (bvals (zeros 8)).toArray 29))) := by rw [← hS]; exact ((Below.refl _ w).alloc (Nat.le_refl _) _).alloc (by simp) _
  have SZ : Hid (((w.alloc (Obj.cells (txC t h).toArray 39)).alloc (Obj.cells (bvals (zeros 8)).toArray 29)).heap.size = S + 2) := by show _ = _; rw [World.size_alloc, World.size_alloc, hS]
  have HT := Lib.hid ht
  have HK : Hid (∀ w', Below S w w' → Keys w') := fun w' hb => keys_below hk hb (by omega)
  have MV : Hid (Mem ((w.alloc (Obj.cells (txC t h).toArray 39)).alloc (Obj.cells (bvals (zeros 8)).toArray 29)) t h) := hm.keep fun q hq => BC.out.block q (by rw [← hS]; exact hq)
  have HI : Hid ((Tryz.prog.info? 39).map (·.size) = some (txC t h).length) := szL i39 (txC_len h ht)
  have hz := z29b
  clear hc1 hk hw0
  clear ht hm
  go_enter Tryz.func38, Tryz.ntmps38
  go_upto_region 1 with (fail)
  generalize ((w.alloc (Obj.cells (txC t h).toArray 39)).alloc (Obj.cells (bvals (zeros 8)).toArray 29)) = v at *
  clear hz hS
  cases c1
  · have CE := Lib.hid (tEncN t h v HT.out MV.out HC.out)
    go_wp2_with (first
      | (refine wpList_load_midG (by rfl) 39 (.tmp 4) rfl S 0 rfl (txC t h) _ RC.out Tryz.underlying39 rfl HI.out ?_)
      | (go_at_call 11; refine CE.out.mono ?_; rintro e w1 ⟨rfl, hb⟩; have X2 : Hid (BL w1 (S + 1) (bvals (zeros 8)) 29) := Lib.hid (bl_keep X1.out (hb.block _ (bl_lt X1.out))); have B2 := Lib.hid (BC.out.trans (hb.mono (by rw [SZ.out]; omega))); clear hb)
      | (refine wpList_bld (by rfl) 29 _ rfl b29b ?_)
      | (refine wpList_store_rowTo rfl 29 (.tmp 6) (.tmp 17) rfl rfl (S + 1) (bvals (zeros 8)).toArray rfl rfl 29 (bvals (zeros 8)).toArray X2.out (szA i29 (bv8s (zeros_len 8))) rfl (all_oneCell_toArray (bv_one _)) ?_)
      | fail)
    refine bodyPost_ret (v := .tuple #[.agg (bvals (zeros 8)).toArray, .bool false]) (results_ch rfl _ _ (S + 1) _ _ rfl (range_of (setRow_heap _ _ _ _ _ _ X2.out)) (szL i29 (bv8s (zeros_len 8))) rfl) rfl ⟨?_, by rw [HS.out]; exact below_setRow B2.out (by omega) _⟩
    unfold DigP
    rw [if_neg (by rw [HC.out]; decide), HC.out]
  · have CE := Lib.hid (tEncY t h v HT.out MV.out HC.out)
    go_wp2_with (first
      | (refine wpList_load_midG (by rfl) 39 (.tmp 4) rfl S 0 rfl (txC t h) _ RC.out Tryz.underlying39 rfl HI.out ?_)
      | (go_at_call 11; refine CE.out.mono ?_; rintro e w1 ⟨⟨A, c, rfl, hr, hl, hn, hx⟩, hb⟩; have HEB := Lib.hid hb; have R1 := Lib.hid hr; have L1 := Lib.hid hl; have N1 := Lib.hid hn; have M1 := Lib.hid hx; clear hb hr hl hn hx)
      | fail)
    obtain ⟨B, hB⟩ : ∃ B, w1.heap.size = B := ⟨_, rfl⟩
    have B1 : Hid (Below S w w1) := BC.out.trans (HEB.out.mono (by rw [SZ.out]; omega))
    have S1 : Hid (S + 2 ≤ B) := by show _ ≤ _; rw [← hB, ← SZ.out]; exact HEB.out.size
    have X2 : Hid (BL w1 (S + 1) (bvals (zeros 8)) 29) := bl_keep X1.out (HEB.out.block _ (bl_lt X1.out))
    have B2 : Hid (Below S w (w1.alloc (Obj.cells #[.slice A (encT t).length c] 42))) := B1.out.alloc (by rw [hB]; have := S1.out; omega) _
    have KB : Hid (∀ q, q < B → (w1.alloc (Obj.cells #[.slice A (encT t).length c] 42)).heap[q]? = w1.heap[q]?) := fun q hq => Below.heap_alloc w1 _ q (by rw [hB]; exact hq)
    have C0 : Hid ((w1.alloc (Obj.cells #[.slice A (encT t).length c] 42)).cell? ⟨B, 0, none⟩ = some (.slice A (encT t).length c)) := by rw [← hB]; exact cell_of_one (heap_alloc_last w1 _)
    have S3 : Hid (Src (w1.alloc (Obj.cells #[.slice A (encT t).length c] 42)) A (encT t).length (encT t)) := (src_row rfl R1.out).keep fun q hq => KB.out q (by rw [← hB]; exact hq)
    have Z2 : Hid ((w1.alloc (Obj.cells #[.slice A (encT t).length c] 42)).heap.size = B + 1) := by show _ = _; rw [World.size_alloc, hB]
    have LE := Lib.hid (enc_le HT.out HC.out)
    rw [hB]
    clear hB
    generalize (w1.alloc (Obj.cells #[.slice A (encT t).length c] 42)) = w2 at *
    refine (ofOne p A (encT t).length c 1 B (encT t) w2 (HK.out _ B2.out) C0.out S3.out L1.out M1.out (by have := LE.out; omega)).mono ?_
    rintro e w3 ⟨rfl, hb3⟩
    have X3 : Hid (BL w3 (S + 1) (bvals (zeros 8)) 29) := bl_keep (bl_keep X2.out (KB.out (S + 1) (by have := S1.out; omega))) (hb3.block _ (by rw [Z2.out]; have := S1.out; omega))
    have B3 : Hid (Below S w w3) := B2.out.trans (hb3.mono (by rw [Z2.out]; have := S1.out; omega))
    have H8 := Lib.hid (hash1_len p (encT t))
    clear hb3
    go_wp2_with (first
      | (refine wpList_store_rowTo rfl 29 (.tmp 6) (.tmp 23) rfl rfl (S + 1) (bvals (hash1 p (encT t))).toArray rfl rfl 29 (bvals (zeros 8)).toArray X3.out (szA i29 (bv8s H8.out)) (by rw [List.size_toArray, List.size_toArray, bv8s H8.out, bv8s (zeros_len 8)]) (all_oneCell_toArray (bv_one _)) ?_)
      | fail)
    refine bodyPost_ret (v := .tuple #[.agg (bvals (hash1 p (encT t))).toArray, .bool true]) (results_ch rfl _ _ (S + 1) _ _ rfl (range_of (setRow_heap _ _ _ _ _ _ X3.out)) (szL i29 (bv8s H8.out)) rfl) rfl ⟨?_, by rw [HS.out]; exact below_setRow B3.out (by omega) _⟩
    unfold DigP
    rw [if_pos HC.out, HC.out]
end Go.Proofs.YtffaddefnpkcgaaGreatDoor
namespace Go.Proofs.YtffaddefnpkcgaaGreatDoor
open Go.RowKit
set_option maxRecDepth 100000
attribute [local irreducible] ua da ba kk sw S8.run rt hs comp splice outB sha msg zeros win bvals vals parC cerC claC txC cel seg hash1 hash2
theorem digP_len {t : TxP} {m : List Int → List Int} (h : (m (encT t)).length = 8) : (DigP t m).length = 8 := by
  unfold DigP
  by_cases g : mayT t = true
  · rw [if_pos g]; exact h
  · rw [if_neg g]; exact zeros_len 8
set_option maxHeartbeats 4000000 in
theorem tID (t : TxP) (h : TxH) (w : World) (ht : WfT t) (hm : Mem w t h) (hk : Keys w) (hw0 : 0 < w.heap.size) :
    Calls Tryz.prog 13 #[.agg (txC t h).toArray] w fun e w' => e = .returned (.tuple #[.agg (bvals (DigP t (hash1 120))).toArray, .bool (mayT t)]) ∧ Below w.heap.size w w' := by
  obtain ⟨S, hS⟩ : ∃ S, w.heap.size = S := ⟨_, rfl⟩
  have HS := Lib.hid hS
  have RC : Hid (((w.alloc (Obj.cells (txC t h).toArray 39)).alloc (Obj.cells (bvals (zeros 8)).toArray 29)).rangeAt S 0 (txC t h)) := by rw [← hS]; exact range_keep1 (range_new w _ _) (Below.heap_alloc _ _ _ (by simp))
  have X1 : Hid (BL ((w.alloc (Obj.cells (txC t h).toArray 39)).alloc (Obj.cells (bvals (zeros 8)).toArray 29)) (S + 1) (bvals (zeros 8)) 29) := by
    have := heap_alloc_last (w.alloc (Obj.cells (txC t h).toArray 39)) (Obj.cells (bvals (zeros 8)).toArray 29)
    rw [World.size_alloc, hS] at this
    exact this
  have BC : Hid (Below S w ((w.alloc (Obj.cells (txC t h).toArray 39)).alloc (Obj.cells (bvals (zeros 8)).toArray 29))) := by rw [← hS]; exact ((Below.refl _ w).alloc (Nat.le_refl _) _).alloc (by simp) _
  have SZ : Hid (((w.alloc (Obj.cells (txC t h).toArray 39)).alloc (Obj.cells (bvals (zeros 8)).toArray 29)).heap.size = S + 2) := by show _ = _; rw [World.size_alloc, World.size_alloc, hS]
  have HI : Hid ((Tryz.prog.info? 39).map (·.size) = some (txC t h).length) := szL i39 (txC_len h ht)
  have C := Lib.hid (tDig0 120 t h ((w.alloc (Obj.cells (txC t h).toArray 39)).alloc (Obj.cells (bvals (zeros 8)).toArray 29)) ht (hm.keep fun q hq => BC.out.block q (by rw [← hS]; exact hq)) (keys_below hk BC.out (by omega)) (by rw [SZ.out]; omega))
  have HD : Hid ((DigP t (hash1 120)).length = 8) := digP_len (hash1_len _ _)
  have hz := z29b
  clear ht hm hk hw0
  generalize DigP t (hash1 120) = d at *
  generalize mayT t = m at *
  go_enter Tryz.func13, Tryz.ntmps13
  go_upto_region 1 with (fail)
  generalize ((w.alloc (Obj.cells (txC t h).toArray 39)).alloc (Obj.cells (bvals (zeros 8)).toArray 29)) = v at *
  clear hz hS
  go_wp2_with (first
    | (refine wpList_load_midG (by rfl) 39 (.tmp 1) rfl S 0 rfl (txC t h) _ RC.out Tryz.underlying39 rfl HI.out ?_)
    | (go_at_call 38; refine C.out.mono ?_; rintro e w1 ⟨rfl, hb⟩; have X2 : Hid (BL w1 (S + 1) (bvals (zeros 8)) 29) := Lib.hid (bl_keep X1.out (hb.block _ (bl_lt X1.out))); have B2 := Lib.hid (BC.out.trans (hb.mono (by rw [SZ.out]; omega))); clear hb)
    | (refine wpList_store_rowTo rfl 29 (.tmp 2) (.tmp 6) rfl rfl (S + 1) (bvals d).toArray rfl rfl 29 (bvals (zeros 8)).toArray X2.out (szA i29 (bv8s HD.out)) (by rw [List.size_toArray, List.size_toArray, bv8s HD.out, bv8s (zeros_len 8)]) (all_oneCell_toArray (bv_one _)) ?_)
    | fail)
  exact bodyPost_ret (v := .tuple #[.agg (bvals d).toArray, .bool m]) (results_ch rfl _ _ (S + 1) _ _ rfl (range_of (setRow_heap _ _ _ _ _ _ X2.out)) (szL i29 (bv8s HD.out)) rfl) rfl ⟨rfl, by rw [HS.out]; exact below_setRow B2.out (by omega) _⟩
end Go.Proofs.YtffaddefnpkcgaaGreatDoor

