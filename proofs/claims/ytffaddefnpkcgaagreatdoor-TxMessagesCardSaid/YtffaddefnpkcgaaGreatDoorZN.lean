/-
  A transaction over a tape: how it ends, what is left.
-/
import Derived.Test.YtffaddefnpkcgaaGreatDoorZL
import Derived.Test.YtffaddefnpkcgaaGreatDoorZM
import Derived.Test.YtffaddefnpkcgaaGreatDoorZW
namespace Go.Proofs.YtffaddefnpkcgaaGreatDoor
open Go.RowKit
set_option maxRecDepth 100000
def parP : List Pc := [.num 1, .num 1, .num 1]
def cerP : List Pc := [.num 1, .num 4, .num 4, .hsh, .hsh]
theorem sch_out : schP outP = outS := rfl
theorem sch_fwd : schP fwdP = fwdS := rfl
theorem sch_in : schP inP = inS := rfl
theorem sch_sgn : schP sgnP = sgnS := rfl
theorem sch_hsh : schP hshP = hS := rfl
theorem sch_par : schP parP = parS := rfl
theorem sch_cer : schP cerP = cerS := rfl
theorem sch_cla : schP claP = claS := rfl
def Tape.stPar (T : Tape) (bs r : List Int) (ks : List (List Int)) : Option (List Int × List Int × List (List Int)) :=
  (T.st parP bs r).bind fun p => (T.stL hshP p.1 ks).bind fun q => some (q.1, p.2, q.2)
def Tape.stCer (T : Tape) (bs r : List Int) (os ss : List (List Int)) : Option (List Int × List Int × List (List Int) × List (List Int)) :=
  (T.st cerP bs r).bind fun p => (T.stL outP p.1 os).bind fun q => (T.stL sgnP q.1 ss).bind fun u => some (u.1, p.2, q.2, u.2)
def Tape.stT (T : Tape) (bs : List Int) (t : TxP) : Option (List Int × TxP) :=
  (T.stN 1 bs t.kind).bind fun p =>
    if p.2 = 1 then (T.stN 4 p.1 t.height).bind fun a => (T.stL outP a.1 t.outs).bind fun q => some (q.1, { t with kind := p.2, height := a.2, outs := q.2 })
    else if p.2 = 2 then (T.stL inP p.1 t.ins).bind fun a => (T.stL outP a.1 t.outs).bind fun q => (T.stL fwdP q.1 t.fwds).bind fun s => some (s.1, { t with kind := p.2, ins := a.2, outs := q.2, fwds := s.2 })
    else if p.2 = 3 then (T.stPar p.1 t.par t.keys).bind fun a => some (a.1, { t with kind := p.2, par := a.2.1, keys := a.2.2 })
    else if p.2 = 4 then (T.stCer p.1 t.cer t.couts t.csigs).bind fun a => some (a.1, { t with kind := p.2, cer := a.2.1, couts := a.2.2.1, csigs := a.2.2.2 })
    else if p.2 = 5 then (T.st claP p.1 t.cla).bind fun a => some (a.1, { t with kind := p.2, cla := a.2 })
    else some (p.1, { t with kind := p.2 })
def Tape.PostP (T : Tape) (w : World) (b o : Nat) : Option (List Int × List Int × List (List Int)) → Ending → World → Prop
  | some x, e, w' => e = .returned (.tuple #[]) ∧ T.I w' x.1 ∧ Ch T.Own T.ro w w' b o 4 ∧ w'.rangeAt b o (vals (schP parP) x.2.1) ∧ ∃ A c, LstAt T (schP hshP) w' b (o + 3) x.2.2 w.heap.size A c
  | none, e, w' => Short e ∧ T.J w'
def Tape.PostC (T : Tape) (w : World) (b o : Nat) : Option (List Int × List Int × List (List Int) × List (List Int)) → Ending → World → Prop
  | some x, e, w' => e = .returned (.tuple #[]) ∧ T.I w' x.1 ∧ Ch T.Own T.ro w w' b o 21 ∧ w'.rangeAt b o (vals (schP cerP) x.2.1) ∧ (∃ A c, LstAt T (schP outP) w' b (o + 19) x.2.2.1 w.heap.size A c) ∧ ∃ A c, LstAt T (schP sgnP) w' b (o + 20) x.2.2.2 w.heap.size A c
  | none, e, w' => Short e ∧ T.J w'
variable {T : Tape} {S : Sch} {w w' : World} {b o p k M : Nat} {rs : List (List Int)} {A : Option Addr} {c : Nat}
theorem LstAt.ch (h : LstAt T S w b p rs M A c) (C : Ch T.Own T.ro w w' b o k) (ha : p < o ∨ o + k ≤ p) (hM : T.ro = true ∨ rs = [] ∨ b < M) : LstAt T S w' b p rs M A c := by
  refine ⟨by rw [C.cell p ha]; exact h.cell, h.le, h.mx, h.no, h.len, ?_⟩
  rcases h.row with g | ⟨g, off, e, h1, h2, h3, h4⟩
  · exact .inl g
  · by_cases hn : rs = []
    · exact .inl hn
    have hg : g ≠ b ∨ T.ro = true := by
      rcases hM with x | x | x
      · exact .inr x
      · exact absurd x hn
      · rcases h3 with y | y
        · exact .inl (by omega)
        · exact .inr y
    exact .inr ⟨g, off, e, C.own g h2 h1, Nat.lt_of_lt_of_le h2 C.size, h3, fun j hj => C.rangeE (h4 j hj) h2 h1 hg⟩
theorem LstAt.lift (h : LstAt T S w b p rs M A c) (hM : T.ro = true ∨ rs = []) (N : Nat) : LstAt T S w b p rs N A c := by
  refine ⟨h.cell, h.le, h.mx, h.no, h.len, ?_⟩
  rcases hM with x | x
  · rcases h.row with g | ⟨g, off, e, h1, h2, h3, h4⟩
    · exact .inl g
    · exact .inr ⟨g, off, e, h1, h2, .inr x, h4⟩
  · exact .inl x
theorem LstAt.low (h : LstAt T S w b p rs M A c) {N : Nat} (hN : N ≤ M) : LstAt T S w b p rs N A c := by
  refine ⟨h.cell, h.le, h.mx, h.no, h.len, ?_⟩
  rcases h.row with g | ⟨g, off, e, h1, h2, h3, h4⟩
  · exact .inl g
  · exact .inr ⟨g, off, e, h1, h2, by rcases h3 with y | y; exact .inl (by omega); exact .inr y, h4⟩
structure TAt (T : Tape) (w : World) (b : Nat) (t : TxP) (h : TxH) (M : Nat) : Prop where
  kind : w.cell? ⟨b, 0, none⟩ = some (.int .i64 t.kind)
  height : w.cell? ⟨b, 1, none⟩ = some (.int .i64 t.height)
  i : LstAt T (schP inP) w b 2 t.ins M h.i.A h.i.c
  o : LstAt T (schP outP) w b 3 t.outs M h.o.A h.o.c
  f : LstAt T (schP fwdP) w b 4 t.fwds M h.f.A h.f.c
  par : w.rangeAt b 5 (vals (schP parP) t.par)
  k : LstAt T (schP hshP) w b 8 t.keys M h.k.A h.k.c
  cer : w.rangeAt b 9 (vals (schP cerP) t.cer)
  co : LstAt T (schP outP) w b 28 t.couts M h.co.A h.co.c
  cs : LstAt T (schP sgnP) w b 29 t.csigs M h.cs.A h.cs.c
  cla : w.rangeAt b 30 (vals (schP claP) t.cla)
  lpar : t.par.length = 3
  lcer : t.cer.length = 19
  lcla : t.cla.length = 140
theorem lvals {S : Sch} {r : List Int} {n : Nat} (hS : S.length = n) (h : r.length = n) : (vals S r).length = n := by rw [vals_len (by rw [h, hS]), hS]
theorem parP_len : (schP parP).length = 3 := rfl
theorem cerP_len : (schP cerP).length = 19 := rfl
theorem claP_len : (schP claP).length = 140 := by
  rw [sch_cla]; rfl
variable {t : TxP} {h : TxH}
theorem TAt.kindC (a : TAt T w b t h M) (hb : b < M) (C : Ch T.Own T.ro w w' b 0 1) {x : Int} (hc : w'.cell? ⟨b, 0, none⟩ = some (.int .i64 x)) : TAt T w' b { t with kind := x } h M :=
  { kind := hc, height := (C.cell 1 (by omega)).trans a.height, i := a.i.ch C (by omega) (.inr (.inr hb)), o := a.o.ch C (by omega) (.inr (.inr hb)), f := a.f.ch C (by omega) (.inr (.inr hb)), par := C.range a.par (by omega), k := a.k.ch C (by omega) (.inr (.inr hb)),
    cer := C.range a.cer (by omega), co := a.co.ch C (by omega) (.inr (.inr hb)), cs := a.cs.ch C (by omega) (.inr (.inr hb)), cla := C.range a.cla (by omega), lpar := a.lpar, lcer := a.lcer, lcla := a.lcla }
theorem TAt.heightC (a : TAt T w b t h M) (hb : b < M) (C : Ch T.Own T.ro w w' b 1 1) {x : Int} (hc : w'.cell? ⟨b, 1, none⟩ = some (.int .i64 x)) : TAt T w' b { t with height := x } h M :=
  { kind := (C.cell 0 (by omega)).trans a.kind, height := hc, i := a.i.ch C (by omega) (.inr (.inr hb)), o := a.o.ch C (by omega) (.inr (.inr hb)), f := a.f.ch C (by omega) (.inr (.inr hb)), par := C.range a.par (by omega), k := a.k.ch C (by omega) (.inr (.inr hb)),
    cer := C.range a.cer (by omega), co := a.co.ch C (by omega) (.inr (.inr hb)), cs := a.cs.ch C (by omega) (.inr (.inr hb)), cla := C.range a.cla (by omega), lpar := a.lpar, lcer := a.lcer, lcla := a.lcla }
theorem TAt.insC (a : TAt T w b t h M) (hb : b < M) (C : Ch T.Own T.ro w w' b 2 1) (L : LstAt T (schP inP) w' b 2 rs M A c) : TAt T w' b { t with ins := rs } { h with i := ⟨A, c⟩ } M :=
  { kind := (C.cell 0 (by omega)).trans a.kind, height := (C.cell 1 (by omega)).trans a.height, i := L, o := a.o.ch C (by omega) (.inr (.inr hb)), f := a.f.ch C (by omega) (.inr (.inr hb)), par := C.range a.par (by omega), k := a.k.ch C (by omega) (.inr (.inr hb)),
    cer := C.range a.cer (by omega), co := a.co.ch C (by omega) (.inr (.inr hb)), cs := a.cs.ch C (by omega) (.inr (.inr hb)), cla := C.range a.cla (by omega), lpar := a.lpar, lcer := a.lcer, lcla := a.lcla }
theorem TAt.outsC (a : TAt T w b t h M) (hb : b < M) (C : Ch T.Own T.ro w w' b 3 1) (L : LstAt T (schP outP) w' b 3 rs M A c) : TAt T w' b { t with outs := rs } { h with o := ⟨A, c⟩ } M :=
  { kind := (C.cell 0 (by omega)).trans a.kind, height := (C.cell 1 (by omega)).trans a.height, i := a.i.ch C (by omega) (.inr (.inr hb)), o := L, f := a.f.ch C (by omega) (.inr (.inr hb)), par := C.range a.par (by omega), k := a.k.ch C (by omega) (.inr (.inr hb)),
    cer := C.range a.cer (by omega), co := a.co.ch C (by omega) (.inr (.inr hb)), cs := a.cs.ch C (by omega) (.inr (.inr hb)), cla := C.range a.cla (by omega), lpar := a.lpar, lcer := a.lcer, lcla := a.lcla }
theorem TAt.fwdsC (a : TAt T w b t h M) (hb : b < M) (C : Ch T.Own T.ro w w' b 4 1) (L : LstAt T (schP fwdP) w' b 4 rs M A c) : TAt T w' b { t with fwds := rs } { h with f := ⟨A, c⟩ } M :=
  { kind := (C.cell 0 (by omega)).trans a.kind, height := (C.cell 1 (by omega)).trans a.height, i := a.i.ch C (by omega) (.inr (.inr hb)), o := a.o.ch C (by omega) (.inr (.inr hb)), f := L, par := C.range a.par (by omega), k := a.k.ch C (by omega) (.inr (.inr hb)),
    cer := C.range a.cer (by omega), co := a.co.ch C (by omega) (.inr (.inr hb)), cs := a.cs.ch C (by omega) (.inr (.inr hb)), cla := C.range a.cla (by omega), lpar := a.lpar, lcer := a.lcer, lcla := a.lcla }
theorem TAt.parC (a : TAt T w b t h M) (hb : b < M) (C : Ch T.Own T.ro w w' b 5 4) {r : List Int} (hr : w'.rangeAt b 5 (vals (schP parP) r)) (hl : r.length = 3) (L : LstAt T (schP hshP) w' b 8 rs M A c) : TAt T w' b { t with par := r, keys := rs } { h with k := ⟨A, c⟩ } M :=
  { kind := (C.cell 0 (by omega)).trans a.kind, height := (C.cell 1 (by omega)).trans a.height, i := a.i.ch C (by omega) (.inr (.inr hb)), o := a.o.ch C (by omega) (.inr (.inr hb)), f := a.f.ch C (by omega) (.inr (.inr hb)), par := hr, k := L,
    cer := C.range a.cer (by omega), co := a.co.ch C (by omega) (.inr (.inr hb)), cs := a.cs.ch C (by omega) (.inr (.inr hb)), cla := C.range a.cla (by omega), lpar := hl, lcer := a.lcer, lcla := a.lcla }
theorem TAt.cerC (a : TAt T w b t h M) (hb : b < M) (C : Ch T.Own T.ro w w' b 9 21) {r : List Int} (hr : w'.rangeAt b 9 (vals (schP cerP) r)) (hl : r.length = 19) {A2 : Option Addr} {c2 : Nat} {ss : List (List Int)} (L : LstAt T (schP outP) w' b 28 rs M A c) (K : LstAt T (schP sgnP) w' b 29 ss M A2 c2) :
    TAt T w' b { t with cer := r, couts := rs, csigs := ss } { h with co := ⟨A, c⟩, cs := ⟨A2, c2⟩ } M :=
  { kind := (C.cell 0 (by omega)).trans a.kind, height := (C.cell 1 (by omega)).trans a.height, i := a.i.ch C (by omega) (.inr (.inr hb)), o := a.o.ch C (by omega) (.inr (.inr hb)), f := a.f.ch C (by omega) (.inr (.inr hb)),
    par := C.range a.par (.inl (by show 5 + (vals (schP parP) t.par).length ≤ _; rw [lvals parP_len a.lpar]; decide)), k := a.k.ch C (by omega) (.inr (.inr hb)), cer := hr, co := L, cs := K, cla := C.range a.cla (by omega), lpar := a.lpar, lcer := hl, lcla := a.lcla }
theorem TAt.claC (a : TAt T w b t h M) (hb : b < M) (C : Ch T.Own T.ro w w' b 30 140) {r : List Int} (hr : w'.rangeAt b 30 (vals (schP claP) r)) (hl : r.length = 140) : TAt T w' b { t with cla := r } h M :=
  { kind := (C.cell 0 (by omega)).trans a.kind, height := (C.cell 1 (by omega)).trans a.height, i := a.i.ch C (by omega) (.inr (.inr hb)), o := a.o.ch C (by omega) (.inr (.inr hb)), f := a.f.ch C (by omega) (.inr (.inr hb)),
    par := C.range a.par (.inl (by show 5 + (vals (schP parP) t.par).length ≤ _; rw [lvals parP_len a.lpar]; decide)), k := a.k.ch C (by omega) (.inr (.inr hb)), cer := C.range a.cer (.inl (by show 9 + (vals (schP cerP) t.cer).length ≤ _; rw [lvals cerP_len a.lcer]; decide)), co := a.co.ch C (by omega) (.inr (.inr hb)), cs := a.cs.ch C (by omega) (.inr (.inr hb)), cla := hr, lpar := a.lpar, lcer := a.lcer, lcla := hl }
end Go.Proofs.YtffaddefnpkcgaaGreatDoor
namespace Go.Proofs.YtffaddefnpkcgaaGreatDoor
open Go.RowKit
set_option maxRecDepth 100000
attribute [local irreducible] ua da ba kk sw S8.run rt hs comp splice outB sha msg zeros win bvals vals cel seg
attribute [local irreducible] Tape.st schP List.replicate inP sgnP
set_option maxHeartbeats 4000000 in
theorem fPar (T : Tape) (w : World) (bs : List Int) (b o : Nat) (r : List Int) (A : Option Addr) (c : Nat) (ks : List (List Int)) (hI : T.I w bs) (hb : b < w.heap.size) (hO : T.Own w b) (hl : r.length = (schP parP).length) (hr : w.rangeAt b o (vals (schP parP) r))
    (hL : LstAt T (schP hshP) w b (o + 3) ks 0 A c) (hro : T.ro = true ∨ ks = []) (hs : T.stPar bs r ks = none → T.sh = true) :
    Calls Tryz.prog 65 #[T.V, .pointer (some ⟨b, o, none⟩)] w (T.PostP w b o (T.stPar bs r ks)) := by
  have M0 := mid0 (T := T) (r := r) (bs := bs) (o := o) hI hb hO
  have FP : T.st [.num 1, .num 1, .num 1] bs r = none → T.stPar bs r ks = none := fun h => by unfold Tape.stPar; rw [show T.st parP bs r = none from h]; rfl
  go_enter Tryz.func65, Tryz.ntmps65
  go_upto_region 1 with (fail)
  rename_i K hKK
  obtain ⟨c, l⟩ := M0.getN (ps := []) (rs := [.num 1, .num 1]) hr hl
  refine wp_region_held_drew (S := fun _ => True) (by kernel_rfl) trivial (fun _ => ?_)
  refine tk (i := 0) (v := ?_) rfl (Or.inl ⟨by rfl, ?_⟩) trivial ?_
  rotate_left
  · (intro w _; go_simp; try with_reducible rfl)
  simp only [Act.put, ly1, ly3, ly4, ly5, ly6]
  refine tk (i := 1) (v := ?_) rfl (Or.inl ⟨by rfl, ?_⟩) trivial ?_
  rotate_left
  · (intro w _; go_simp; try with_reducible rfl)
  simp only [Act.put, ly1, ly2, ly3, ly4, ly5, ly6]
  refine tk (i := 2) (v := ?_) rfl (Or.inl ⟨by rfl, ?_⟩) trivial ?_
  rotate_left
  · (intro w _; go_simp; try with_reducible rfl)
  simp only [Act.put, ly1, ly2, ly3, ly4, ly5, ly6]
  refine tk (i := 3) (v := ?_) rfl (Or.inl ⟨by rfl, ?_⟩) trivial ?_
  rotate_left
  · (intro w _; go_simp; try with_reducible rfl)
  simp only [Act.put, ly1, ly2, ly3, ly4, ly5, ly6]
  refine tk (i := 4) (v := ?_) rfl (Or.inl ⟨by rfl, ?_⟩) trivial ?_
  rotate_left
  · (intro w _; go_simp; try with_reducible rfl)
  simp only [Act.put, ly1, ly2, ly3, ly4, ly5, ly6]
  refine tk (i := 5) rfl (Or.inl ⟨by rfl, fun w _ => T.nilN (by rfl) (by rfl) w⟩) trivial ?_
  simp only [Act.put, ly1, ly2, ly3, ly4, ly5, ly6]
  refine tk (i := 6) (v := ?_) rfl (Or.inl ⟨by rfl, ?_⟩) trivial ?_
  rotate_left
  · (intro w _; go_simp; try with_reducible rfl)
  simp only [Act.put, ly1, ly2, ly3, ly4, ly5, ly6]
  refine wpAnyH_ready (rs := [7]) (by kernel_rfl) (by simp) ?_
  refine AllReadyH.cons rfl (fun Kq hKq => ?_) AllReadyH.nil
  refine step_enter (by rfl) (run_invN T (by rfl) (by rfl) (by rfl) (by rfl)) ((T.numD w bs b o _ 1 (by decide) (by decide) M0.I M0.lt M0.own c (fun h => hs (FP (M0.failN (rs := [.num 1, .num 1]) h)))).mono ?_)
  rintro e w1 (⟨p1, hp, rfl, hI', hC', hr'⟩ | ⟨hn, hse, hJ⟩)
  rotate_left
  · unfold Short at hse
    subst hse
    refine ⟨rfl, ?_⟩
    rw [FP (M0.failN (rs := [.num 1, .num 1]) hn)]
    exact ⟨rfl, hJ⟩
  refine hKq.out _ _ trivial (fun _ => ?_)
  clear hKq Kq
  simp only [Act.put, ly1, ly2, ly3, ly4, ly5, ly6]
  refine wpAnyH_done (by kernel_rfl) ?_ _
  have M1 : Mid T w b o bs r [.num 1] 1 w1 p1.1 _ := M0.num hp l hI' hC' hr'
  clear hp hI' hC' hr' c l M0
  show K _ _
  refine hKK _ _ ?_
  clear hKK K
  go_upto_region 2 with (fail)
  rename_i K hKK
  obtain ⟨c, l⟩ := M1.getN (ps := [.num 1]) (rs := [.num 1]) hr hl
  refine wp_region_held_drew (S := fun _ => True) (by kernel_rfl) trivial (fun _ => ?_)
  refine tk (i := 0) (v := ?_) rfl (Or.inl ⟨by rfl, ?_⟩) trivial ?_
  rotate_left
  · (intro w _; go_simp; try with_reducible rfl)
  simp only [Act.put, ly1, ly3, ly4, ly5, ly6]
  refine tk (i := 1) (v := ?_) rfl (Or.inl ⟨by rfl, ?_⟩) trivial ?_
  rotate_left
  · (intro w _; go_simp; try with_reducible rfl)
  simp only [Act.put, ly1, ly2, ly3, ly4, ly5, ly6]
  refine tk (i := 2) (v := ?_) rfl (Or.inl ⟨by rfl, ?_⟩) trivial ?_
  rotate_left
  · (intro w _; go_simp; try with_reducible rfl)
  simp only [Act.put, ly1, ly2, ly3, ly4, ly5, ly6]
  refine tk (i := 3) (v := ?_) rfl (Or.inl ⟨by rfl, ?_⟩) trivial ?_
  rotate_left
  · (intro w _; go_simp; try with_reducible rfl)
  simp only [Act.put, ly1, ly2, ly3, ly4, ly5, ly6]
  refine tk (i := 4) (v := ?_) rfl (Or.inl ⟨by rfl, ?_⟩) trivial ?_
  rotate_left
  · (intro w _; go_simp; try with_reducible rfl)
  simp only [Act.put, ly1, ly2, ly3, ly4, ly5, ly6]
  refine tk (i := 5) rfl (Or.inl ⟨by rfl, fun w _ => T.nilN (by rfl) (by rfl) w⟩) trivial ?_
  simp only [Act.put, ly1, ly2, ly3, ly4, ly5, ly6]
  refine tk (i := 6) (v := ?_) rfl (Or.inl ⟨by rfl, ?_⟩) trivial ?_
  rotate_left
  · (intro w _; go_simp; try with_reducible rfl)
  simp only [Act.put, ly1, ly2, ly3, ly4, ly5, ly6]
  refine wpAnyH_ready (rs := [7]) (by kernel_rfl) (by simp) ?_
  refine AllReadyH.cons rfl (fun Kq hKq => ?_) AllReadyH.nil
  refine step_enter (by rfl) (run_invN T (by rfl) (by rfl) (by rfl) (by rfl)) ((T.numD w1 p1.1 b (o + 1) _ 1 (by decide) (by decide) M1.I M1.lt M1.own c (fun h => hs (FP (M1.failN (rs := [.num 1]) h)))).mono ?_)
  rintro e w2 (⟨p2, hp, rfl, hI', hC', hr'⟩ | ⟨hn, hse, hJ⟩)
  rotate_left
  · unfold Short at hse
    subst hse
    refine ⟨rfl, ?_⟩
    rw [FP (M1.failN (rs := [.num 1]) hn)]
    exact ⟨rfl, hJ⟩
  refine hKq.out _ _ trivial (fun _ => ?_)
  clear hKq Kq
  simp only [Act.put, ly1, ly2, ly3, ly4, ly5, ly6]
  refine wpAnyH_done (by kernel_rfl) ?_ _
  have M2 : Mid T w b o bs r [.num 1, .num 1] 2 w2 p2.1 _ := M1.num hp l hI' hC' hr'
  clear hp hI' hC' hr' c l M1
  show K _ _
  refine hKK _ _ ?_
  clear hKK K
  go_upto_region 3 with (fail)
  rename_i K hKK
  obtain ⟨c, l⟩ := M2.getN (ps := [.num 1, .num 1]) (rs := []) hr hl
  refine wp_region_held_drew (S := fun _ => True) (by kernel_rfl) trivial (fun _ => ?_)
  refine tk (i := 0) (v := ?_) rfl (Or.inl ⟨by rfl, ?_⟩) trivial ?_
  rotate_left
  · (intro w _; go_simp; try with_reducible rfl)
  simp only [Act.put, ly1, ly3, ly4, ly5, ly6]
  refine tk (i := 1) (v := ?_) rfl (Or.inl ⟨by rfl, ?_⟩) trivial ?_
  rotate_left
  · (intro w _; go_simp; try with_reducible rfl)
  simp only [Act.put, ly1, ly2, ly3, ly4, ly5, ly6]
  refine tk (i := 2) (v := ?_) rfl (Or.inl ⟨by rfl, ?_⟩) trivial ?_
  rotate_left
  · (intro w _; go_simp; try with_reducible rfl)
  simp only [Act.put, ly1, ly2, ly3, ly4, ly5, ly6]
  refine tk (i := 3) (v := ?_) rfl (Or.inl ⟨by rfl, ?_⟩) trivial ?_
  rotate_left
  · (intro w _; go_simp; try with_reducible rfl)
  simp only [Act.put, ly1, ly2, ly3, ly4, ly5, ly6]
  refine tk (i := 4) (v := ?_) rfl (Or.inl ⟨by rfl, ?_⟩) trivial ?_
  rotate_left
  · (intro w _; go_simp; try with_reducible rfl)
  simp only [Act.put, ly1, ly2, ly3, ly4, ly5, ly6]
  refine tk (i := 5) rfl (Or.inl ⟨by rfl, fun w _ => T.nilN (by rfl) (by rfl) w⟩) trivial ?_
  simp only [Act.put, ly1, ly2, ly3, ly4, ly5, ly6]
  refine tk (i := 6) (v := ?_) rfl (Or.inl ⟨by rfl, ?_⟩) trivial ?_
  rotate_left
  · (intro w _; go_simp; try with_reducible rfl)
  simp only [Act.put, ly1, ly2, ly3, ly4, ly5, ly6]
  refine wpAnyH_ready (rs := [7]) (by kernel_rfl) (by simp) ?_
  refine AllReadyH.cons rfl (fun Kq hKq => ?_) AllReadyH.nil
  refine step_enter (by rfl) (run_invN T (by rfl) (by rfl) (by rfl) (by rfl)) ((T.numD w2 p2.1 b (o + 2) _ 1 (by decide) (by decide) M2.I M2.lt M2.own c (fun h => hs (FP (M2.failN (rs := []) h)))).mono ?_)
  rintro e w3 (⟨p3, hp, rfl, hI', hC', hr'⟩ | ⟨hn, hse, hJ⟩)
  rotate_left
  · unfold Short at hse
    subst hse
    refine ⟨rfl, ?_⟩
    rw [FP (M2.failN (rs := []) hn)]
    exact ⟨rfl, hJ⟩
  refine hKq.out _ _ trivial (fun _ => ?_)
  clear hKq Kq
  simp only [Act.put, ly1, ly2, ly3, ly4, ly5, ly6]
  refine wpAnyH_done (by kernel_rfl) ?_ _
  have M3 : Mid T w b o bs r [.num 1, .num 1, .num 1] 3 w3 p3.1 _ := M2.num hp l hI' hC' hr'
  clear hp hI' hC' hr' c l M2
  show K _ _
  refine hKK _ _ ?_
  clear hKK K
  obtain ⟨r3, M3⟩ : ∃ r3, Mid T w b o bs r parP 3 w3 p3.1 r3 := ⟨_, M3⟩
  have L3 := Lib.hid (hL.ch M3.ch (by omega) (by rcases hro with x | x; exact .inl x; exact .inr (.inl x)))
  have FL : Hid (T.stL hshP p3.1 ks = none → T.stPar bs r ks = none) := fun h => by
    unfold Tape.stPar
    rw [show T.st parP bs r = some (p3.1, r3) from M3.st]
    simp only [Option.bind_some, h, Option.bind_none]
  go_wp2_with fail
  refine (lKey T w3 p3.1 b (o + 3) A c ks M3.I M3.lt M3.own L3.out hro (fun h => hs (FL.out h))).mono ?_
  intro e w4 hpost
  cases hq : T.stL hshP p3.1 ks with
  | none =>
    rw [hq] at hpost
    obtain ⟨hse, hJ⟩ := hpost
    unfold Short at hse
    subst hse
    refine ⟨rfl, ?_⟩
    rw [FL.out hq]
    exact ⟨rfl, hJ⟩
  | some q =>
    rw [hq] at hpost
    obtain ⟨rfl, hI', hC', A', c', hL'⟩ := hpost
    have HM := Lib.hid M3
    have HI := Lib.hid hI'
    have HC := Lib.hid hC'
    have HL := Lib.hid hL'
    have HQ := Lib.hid hq
    clear hI' hC' hL' hq M3 L3
    go_wp2
    go_end0
    have M3 := HM.out
    have e : T.stPar bs r ks = some (q.1, r3, q.2) := by
      unfold Tape.stPar
      rw [show T.st parP bs r = some (p3.1, r3) from M3.st]
      simp only [Option.bind_some, HQ.out]
    rw [e]
    have hl3 := M3.l1
    refine ⟨rfl, HI.out, M3.ch.trans HC.out (Nat.le_refl _) (by omega) (by omega) (by omega), HC.out.range M3.rng ?_, A', c', HL.out.low M3.ch.size⟩
    rw [lvals (n := 3) M3.len hl3]
    omega
set_option maxHeartbeats 4000000 in
theorem fCer (T : Tape) (w : World) (bs : List Int) (b o : Nat) (r : List Int) (A A2 : Option Addr) (c c2 : Nat) (os ss : List (List Int)) (hI : T.I w bs) (hb : b < w.heap.size) (hO : T.Own w b) (hl : r.length = (schP cerP).length) (hr : w.rangeAt b o (vals (schP cerP) r))
    (hL : LstAt T (schP outP) w b (o + 19) os 0 A c) (hro : T.ro = true ∨ os = []) (hL2 : LstAt T (schP sgnP) w b (o + 20) ss 0 A2 c2) (hro2 : T.ro = true ∨ ss = []) (hs : T.stCer bs r os ss = none → T.sh = true) :
    Calls Tryz.prog 66 #[T.V, .pointer (some ⟨b, o, none⟩)] w (T.PostC w b o (T.stCer bs r os ss)) := by
  have M0 := mid0 (T := T) (r := r) (bs := bs) (o := o) hI hb hO
  have FP : T.st [.num 1, .num 4, .num 4, .hsh, .hsh] bs r = none → T.stCer bs r os ss = none := fun h => by unfold Tape.stCer; rw [show T.st cerP bs r = none from h]; rfl
  go_enter Tryz.func66, Tryz.ntmps66
  go_upto_region 1 with (fail)
  rename_i K hKK
  obtain ⟨c, l⟩ := M0.getN (ps := []) (rs := [.num 4, .num 4, .hsh, .hsh]) hr hl
  refine wp_region_held_drew (S := fun _ => True) (by kernel_rfl) trivial (fun _ => ?_)
  refine tk (i := 0) (v := ?_) rfl (Or.inl ⟨by rfl, ?_⟩) trivial ?_
  rotate_left
  · (intro w _; go_simp; try with_reducible rfl)
  simp only [Act.put, ly1, ly3, ly4, ly5, ly6]
  refine tk (i := 1) (v := ?_) rfl (Or.inl ⟨by rfl, ?_⟩) trivial ?_
  rotate_left
  · (intro w _; go_simp; try with_reducible rfl)
  simp only [Act.put, ly1, ly2, ly3, ly4, ly5, ly6]
  refine tk (i := 2) (v := ?_) rfl (Or.inl ⟨by rfl, ?_⟩) trivial ?_
  rotate_left
  · (intro w _; go_simp; try with_reducible rfl)
  simp only [Act.put, ly1, ly2, ly3, ly4, ly5, ly6]
  refine tk (i := 3) (v := ?_) rfl (Or.inl ⟨by rfl, ?_⟩) trivial ?_
  rotate_left
  · (intro w _; go_simp; try with_reducible rfl)
  simp only [Act.put, ly1, ly2, ly3, ly4, ly5, ly6]
  refine tk (i := 4) (v := ?_) rfl (Or.inl ⟨by rfl, ?_⟩) trivial ?_
  rotate_left
  · (intro w _; go_simp; try with_reducible rfl)
  simp only [Act.put, ly1, ly2, ly3, ly4, ly5, ly6]
  refine tk (i := 5) rfl (Or.inl ⟨by rfl, fun w _ => T.nilN (by rfl) (by rfl) w⟩) trivial ?_
  simp only [Act.put, ly1, ly2, ly3, ly4, ly5, ly6]
  refine tk (i := 6) (v := ?_) rfl (Or.inl ⟨by rfl, ?_⟩) trivial ?_
  rotate_left
  · (intro w _; go_simp; try with_reducible rfl)
  simp only [Act.put, ly1, ly2, ly3, ly4, ly5, ly6]
  refine wpAnyH_ready (rs := [7]) (by kernel_rfl) (by simp) ?_
  refine AllReadyH.cons rfl (fun Kq hKq => ?_) AllReadyH.nil
  refine step_enter (by rfl) (run_invN T (by rfl) (by rfl) (by rfl) (by rfl)) ((T.numD w bs b o _ 1 (by decide) (by decide) M0.I M0.lt M0.own c (fun h => hs (FP (M0.failN (rs := [.num 4, .num 4, .hsh, .hsh]) h)))).mono ?_)
  rintro e w1 (⟨p1, hp, rfl, hI', hC', hr'⟩ | ⟨hn, hse, hJ⟩)
  rotate_left
  · unfold Short at hse
    subst hse
    refine ⟨rfl, ?_⟩
    rw [FP (M0.failN (rs := [.num 4, .num 4, .hsh, .hsh]) hn)]
    exact ⟨rfl, hJ⟩
  refine hKq.out _ _ trivial (fun _ => ?_)
  clear hKq Kq
  simp only [Act.put, ly1, ly2, ly3, ly4, ly5, ly6]
  refine wpAnyH_done (by kernel_rfl) ?_ _
  have M1 : Mid T w b o bs r [.num 1] 1 w1 p1.1 _ := M0.num hp l hI' hC' hr'
  clear hp hI' hC' hr' c l M0
  show K _ _
  refine hKK _ _ ?_
  clear hKK K
  go_upto_region 2 with (fail)
  rename_i K hKK
  obtain ⟨c, l⟩ := M1.getN (ps := [.num 1]) (rs := [.num 4, .hsh, .hsh]) hr hl
  refine wp_region_held_drew (S := fun _ => True) (by kernel_rfl) trivial (fun _ => ?_)
  refine tk (i := 0) (v := ?_) rfl (Or.inl ⟨by rfl, ?_⟩) trivial ?_
  rotate_left
  · (intro w _; go_simp; try with_reducible rfl)
  simp only [Act.put, ly1, ly3, ly4, ly5, ly6]
  refine tk (i := 1) (v := ?_) rfl (Or.inl ⟨by rfl, ?_⟩) trivial ?_
  rotate_left
  · (intro w _; go_simp; try with_reducible rfl)
  simp only [Act.put, ly1, ly2, ly3, ly4, ly5, ly6]
  refine tk (i := 2) (v := ?_) rfl (Or.inl ⟨by rfl, ?_⟩) trivial ?_
  rotate_left
  · (intro w _; go_simp; try with_reducible rfl)
  simp only [Act.put, ly1, ly2, ly3, ly4, ly5, ly6]
  refine tk (i := 3) (v := ?_) rfl (Or.inl ⟨by rfl, ?_⟩) trivial ?_
  rotate_left
  · (intro w _; go_simp; try with_reducible rfl)
  simp only [Act.put, ly1, ly2, ly3, ly4, ly5, ly6]
  refine tk (i := 4) (v := ?_) rfl (Or.inl ⟨by rfl, ?_⟩) trivial ?_
  rotate_left
  · (intro w _; go_simp; try with_reducible rfl)
  simp only [Act.put, ly1, ly2, ly3, ly4, ly5, ly6]
  refine tk (i := 5) rfl (Or.inl ⟨by rfl, fun w _ => T.nilN (by rfl) (by rfl) w⟩) trivial ?_
  simp only [Act.put, ly1, ly2, ly3, ly4, ly5, ly6]
  refine tk (i := 6) (v := ?_) rfl (Or.inl ⟨by rfl, ?_⟩) trivial ?_
  rotate_left
  · (intro w _; go_simp; try with_reducible rfl)
  simp only [Act.put, ly1, ly2, ly3, ly4, ly5, ly6]
  refine wpAnyH_ready (rs := [7]) (by kernel_rfl) (by simp) ?_
  refine AllReadyH.cons rfl (fun Kq hKq => ?_) AllReadyH.nil
  refine step_enter (by rfl) (run_invN T (by rfl) (by rfl) (by rfl) (by rfl)) ((T.numD w1 p1.1 b (o + 1) _ 4 (by decide) (by decide) M1.I M1.lt M1.own c (fun h => hs (FP (M1.failN (rs := [.num 4, .hsh, .hsh]) h)))).mono ?_)
  rintro e w2 (⟨p2, hp, rfl, hI', hC', hr'⟩ | ⟨hn, hse, hJ⟩)
  rotate_left
  · unfold Short at hse
    subst hse
    refine ⟨rfl, ?_⟩
    rw [FP (M1.failN (rs := [.num 4, .hsh, .hsh]) hn)]
    exact ⟨rfl, hJ⟩
  refine hKq.out _ _ trivial (fun _ => ?_)
  clear hKq Kq
  simp only [Act.put, ly1, ly2, ly3, ly4, ly5, ly6]
  refine wpAnyH_done (by kernel_rfl) ?_ _
  have M2 : Mid T w b o bs r [.num 1, .num 4] 2 w2 p2.1 _ := M1.num hp l hI' hC' hr'
  clear hp hI' hC' hr' c l M1
  show K _ _
  refine hKK _ _ ?_
  clear hKK K
  go_upto_region 3 with (fail)
  rename_i K hKK
  obtain ⟨c, l⟩ := M2.getN (ps := [.num 1, .num 4]) (rs := [.hsh, .hsh]) hr hl
  refine wp_region_held_drew (S := fun _ => True) (by kernel_rfl) trivial (fun _ => ?_)
  refine tk (i := 0) (v := ?_) rfl (Or.inl ⟨by rfl, ?_⟩) trivial ?_
  rotate_left
  · (intro w _; go_simp; try with_reducible rfl)
  simp only [Act.put, ly1, ly3, ly4, ly5, ly6]
  refine tk (i := 1) (v := ?_) rfl (Or.inl ⟨by rfl, ?_⟩) trivial ?_
  rotate_left
  · (intro w _; go_simp; try with_reducible rfl)
  simp only [Act.put, ly1, ly2, ly3, ly4, ly5, ly6]
  refine tk (i := 2) (v := ?_) rfl (Or.inl ⟨by rfl, ?_⟩) trivial ?_
  rotate_left
  · (intro w _; go_simp; try with_reducible rfl)
  simp only [Act.put, ly1, ly2, ly3, ly4, ly5, ly6]
  refine tk (i := 3) (v := ?_) rfl (Or.inl ⟨by rfl, ?_⟩) trivial ?_
  rotate_left
  · (intro w _; go_simp; try with_reducible rfl)
  simp only [Act.put, ly1, ly2, ly3, ly4, ly5, ly6]
  refine tk (i := 4) (v := ?_) rfl (Or.inl ⟨by rfl, ?_⟩) trivial ?_
  rotate_left
  · (intro w _; go_simp; try with_reducible rfl)
  simp only [Act.put, ly1, ly2, ly3, ly4, ly5, ly6]
  refine tk (i := 5) rfl (Or.inl ⟨by rfl, fun w _ => T.nilN (by rfl) (by rfl) w⟩) trivial ?_
  simp only [Act.put, ly1, ly2, ly3, ly4, ly5, ly6]
  refine tk (i := 6) (v := ?_) rfl (Or.inl ⟨by rfl, ?_⟩) trivial ?_
  rotate_left
  · (intro w _; go_simp; try with_reducible rfl)
  simp only [Act.put, ly1, ly2, ly3, ly4, ly5, ly6]
  refine wpAnyH_ready (rs := [7]) (by kernel_rfl) (by simp) ?_
  refine AllReadyH.cons rfl (fun Kq hKq => ?_) AllReadyH.nil
  refine step_enter (by rfl) (run_invN T (by rfl) (by rfl) (by rfl) (by rfl)) ((T.numD w2 p2.1 b (o + 2) _ 4 (by decide) (by decide) M2.I M2.lt M2.own c (fun h => hs (FP (M2.failN (rs := [.hsh, .hsh]) h)))).mono ?_)
  rintro e w3 (⟨p3, hp, rfl, hI', hC', hr'⟩ | ⟨hn, hse, hJ⟩)
  rotate_left
  · unfold Short at hse
    subst hse
    refine ⟨rfl, ?_⟩
    rw [FP (M2.failN (rs := [.hsh, .hsh]) hn)]
    exact ⟨rfl, hJ⟩
  refine hKq.out _ _ trivial (fun _ => ?_)
  clear hKq Kq
  simp only [Act.put, ly1, ly2, ly3, ly4, ly5, ly6]
  refine wpAnyH_done (by kernel_rfl) ?_ _
  have M3 : Mid T w b o bs r [.num 1, .num 4, .num 4] 3 w3 p3.1 _ := M2.num hp l hI' hC' hr'
  clear hp hI' hC' hr' c l M2
  show K _ _
  refine hKK _ _ ?_
  clear hKK K
  go_upto_region 4 with (fail)
  rename_i K hKK
  obtain ⟨c, l⟩ := M3.getH (ps := [.num 1, .num 4, .num 4]) (rs := [.hsh]) hr hl
  refine wp_region_held_drew (S := fun _ => True) (by kernel_rfl) trivial (fun _ => ?_)
  refine tk (i := 0) (v := ?_) rfl (Or.inl ⟨by rfl, ?_⟩) trivial ?_
  rotate_left
  · (intro w _; go_simp; try with_reducible rfl)
  simp only [Act.put, ly1, ly3, ly4, ly5, ly6]
  refine tk (i := 1) (v := ?_) rfl (Or.inl ⟨by rfl, ?_⟩) trivial ?_
  rotate_left
  · (intro w _; go_simp; try with_reducible rfl)
  simp only [Act.put, ly1, ly2, ly3, ly4, ly5, ly6]
  refine tk (i := 2) (v := ?_) rfl (Or.inl ⟨by rfl, ?_⟩) trivial ?_
  rotate_left
  · (intro w _; go_simp; try with_reducible rfl)
  simp only [Act.put, ly1, ly2, ly3, ly4, ly5, ly6]
  refine tk (i := 3) (v := ?_) rfl (Or.inl ⟨by rfl, ?_⟩) trivial ?_
  rotate_left
  · (intro w _; go_simp; try with_reducible rfl)
  simp only [Act.put, ly1, ly2, ly3, ly4, ly5, ly6]
  refine tk (i := 4) (v := ?_) rfl (Or.inl ⟨by rfl, ?_⟩) trivial ?_
  rotate_left
  · (intro w _; go_simp; try with_reducible rfl)
  simp only [Act.put, ly1, ly2, ly3, ly4, ly5, ly6]
  refine tk (i := 5) rfl (Or.inl ⟨by rfl, fun w _ => T.nilH (by rfl) (by rfl) w⟩) trivial ?_
  simp only [Act.put, ly1, ly2, ly3, ly4, ly5, ly6]
  refine tk (i := 6) (v := ?_) rfl (Or.inl ⟨by rfl, ?_⟩) trivial ?_
  rotate_left
  · (intro w _; go_simp; try with_reducible rfl)
  simp only [Act.put, ly1, ly2, ly3, ly4, ly5, ly6]
  refine wpAnyH_ready (rs := [7]) (by kernel_rfl) (by simp) ?_
  refine AllReadyH.cons rfl (fun Kq hKq => ?_) AllReadyH.nil
  refine step_enter (by rfl) (run_invH T (by rfl) (by rfl) (by rfl)) ((T.hashD w3 p3.1 b (o + 3) _ M3.I M3.lt M3.own l c (fun h => hs (FP (M3.failH (rs := [.hsh]) h)))).mono ?_)
  rintro e w4 (⟨p4, hp, rfl, hI', hC', hr'⟩ | ⟨hn, hse, hJ⟩)
  rotate_left
  · unfold Short at hse
    subst hse
    refine ⟨rfl, ?_⟩
    rw [FP (M3.failH (rs := [.hsh]) hn)]
    exact ⟨rfl, hJ⟩
  refine hKq.out _ _ trivial (fun _ => ?_)
  clear hKq Kq
  simp only [Act.put, ly1, ly2, ly3, ly4, ly5, ly6]
  refine wpAnyH_done (by kernel_rfl) ?_ _
  have M4 : Mid T w b o bs r [.num 1, .num 4, .num 4, .hsh] 11 w4 p4.1 _ := M3.hsh hp l hI' hC' hr'
  clear hp hI' hC' hr' c l M3
  show K _ _
  refine hKK _ _ ?_
  clear hKK K
  go_upto_region 5 with (fail)
  rename_i K hKK
  obtain ⟨c, l⟩ := M4.getH (ps := [.num 1, .num 4, .num 4, .hsh]) (rs := []) hr hl
  refine wp_region_held_drew (S := fun _ => True) (by kernel_rfl) trivial (fun _ => ?_)
  refine tk (i := 0) (v := ?_) rfl (Or.inl ⟨by rfl, ?_⟩) trivial ?_
  rotate_left
  · (intro w _; go_simp; try with_reducible rfl)
  simp only [Act.put, ly1, ly3, ly4, ly5, ly6]
  refine tk (i := 1) (v := ?_) rfl (Or.inl ⟨by rfl, ?_⟩) trivial ?_
  rotate_left
  · (intro w _; go_simp; try with_reducible rfl)
  simp only [Act.put, ly1, ly2, ly3, ly4, ly5, ly6]
  refine tk (i := 2) (v := ?_) rfl (Or.inl ⟨by rfl, ?_⟩) trivial ?_
  rotate_left
  · (intro w _; go_simp; try with_reducible rfl)
  simp only [Act.put, ly1, ly2, ly3, ly4, ly5, ly6]
  refine tk (i := 3) (v := ?_) rfl (Or.inl ⟨by rfl, ?_⟩) trivial ?_
  rotate_left
  · (intro w _; go_simp; try with_reducible rfl)
  simp only [Act.put, ly1, ly2, ly3, ly4, ly5, ly6]
  refine tk (i := 4) (v := ?_) rfl (Or.inl ⟨by rfl, ?_⟩) trivial ?_
  rotate_left
  · (intro w _; go_simp; try with_reducible rfl)
  simp only [Act.put, ly1, ly2, ly3, ly4, ly5, ly6]
  refine tk (i := 5) rfl (Or.inl ⟨by rfl, fun w _ => T.nilH (by rfl) (by rfl) w⟩) trivial ?_
  simp only [Act.put, ly1, ly2, ly3, ly4, ly5, ly6]
  refine tk (i := 6) (v := ?_) rfl (Or.inl ⟨by rfl, ?_⟩) trivial ?_
  rotate_left
  · (intro w _; go_simp; try with_reducible rfl)
  simp only [Act.put, ly1, ly2, ly3, ly4, ly5, ly6]
  refine wpAnyH_ready (rs := [7]) (by kernel_rfl) (by simp) ?_
  refine AllReadyH.cons rfl (fun Kq hKq => ?_) AllReadyH.nil
  refine step_enter (by rfl) (run_invH T (by rfl) (by rfl) (by rfl)) ((T.hashD w4 p4.1 b (o + 11) _ M4.I M4.lt M4.own l c (fun h => hs (FP (M4.failH (rs := []) h)))).mono ?_)
  rintro e w5 (⟨p5, hp, rfl, hI', hC', hr'⟩ | ⟨hn, hse, hJ⟩)
  rotate_left
  · unfold Short at hse
    subst hse
    refine ⟨rfl, ?_⟩
    rw [FP (M4.failH (rs := []) hn)]
    exact ⟨rfl, hJ⟩
  refine hKq.out _ _ trivial (fun _ => ?_)
  clear hKq Kq
  simp only [Act.put, ly1, ly2, ly3, ly4, ly5, ly6]
  refine wpAnyH_done (by kernel_rfl) ?_ _
  have M5 : Mid T w b o bs r [.num 1, .num 4, .num 4, .hsh, .hsh] 19 w5 p5.1 _ := M4.hsh hp l hI' hC' hr'
  clear hp hI' hC' hr' c l M4
  show K _ _
  refine hKK _ _ ?_
  clear hKK K
  obtain ⟨r5, M5⟩ : ∃ r5, Mid T w b o bs r cerP 19 w5 p5.1 r5 := ⟨_, M5⟩
  have L5 := Lib.hid (hL.ch M5.ch (by omega) (by rcases hro with x | x; exact .inl x; exact .inr (.inl x)))
  have L6 := Lib.hid (hL2.ch M5.ch (by omega) (by rcases hro2 with x | x; exact .inl x; exact .inr (.inl x)))
  have FL : Hid (T.stL outP p5.1 os = none → T.stCer bs r os ss = none) := fun h => by
    unfold Tape.stCer
    rw [show T.st cerP bs r = some (p5.1, r5) from M5.st]
    simp only [Option.bind_some, h, Option.bind_none]
  go_wp2_with fail
  refine (lOut T w5 p5.1 b (o + 19) A c os M5.I M5.lt M5.own L5.out hro (fun h => hs (FL.out h))).mono ?_
  intro e w6 hpost
  cases hq : T.stL outP p5.1 os with
  | none =>
    rw [hq] at hpost
    obtain ⟨hse, hJ⟩ := hpost
    unfold Short at hse
    subst hse
    refine ⟨rfl, ?_⟩
    rw [FL.out hq]
    exact ⟨rfl, hJ⟩
  | some q =>
    rw [hq] at hpost
    obtain ⟨rfl, hI', hC', A', c', hL'⟩ := hpost
    have HM := Lib.hid M5
    have HI := Lib.hid hI'
    have HC := Lib.hid hC'
    have HL := Lib.hid hL'
    have HQ := Lib.hid hq
    have L7 := Lib.hid (L6.out.ch hC' (by omega) (by rcases hro2 with x | x; exact .inl x; exact .inr (.inl x)))
    have FM : Hid (T.stL sgnP q.1 ss = none → T.stCer bs r os ss = none) := fun h => by
      unfold Tape.stCer
      rw [show T.st cerP bs r = some (p5.1, r5) from HM.out.st]
      simp only [Option.bind_some, HQ.out, h, Option.bind_none]
    clear hI' hC' hL' hq M5 L5 L6 FL
    go_wp2_with fail
    refine (lSgn T w6 q.1 b (o + 20) A2 c2 ss HI.out (Nat.lt_of_lt_of_le HM.out.lt HC.out.size) (HC.out.own b HM.out.lt HM.out.own) L7.out hro2 (fun h => hs (FM.out h))).mono ?_
    intro e w7 hpost
    cases hq : T.stL sgnP q.1 ss with
    | none =>
      rw [hq] at hpost
      obtain ⟨hse, hJ⟩ := hpost
      unfold Short at hse
      subst hse
      refine ⟨rfl, ?_⟩
      rw [FM.out hq]
      exact ⟨rfl, hJ⟩
    | some u =>
      rw [hq] at hpost
      obtain ⟨rfl, hI', hC', A3, c3, hL'⟩ := hpost
      have JI := Lib.hid hI'
      have JC := Lib.hid hC'
      have JL := Lib.hid hL'
      have JQ := Lib.hid hq
      clear hI' hC' hL' hq L7 FM
      go_wp2
      go_end0
      have M5 := HM.out
      have e : T.stCer bs r os ss = some (u.1, r5, q.2, u.2) := by
        unfold Tape.stCer
        rw [show T.st cerP bs r = some (p5.1, r5) from M5.st]
        simp only [Option.bind_some, HQ.out, JQ.out]
      rw [e]
      have hl5 := M5.l1
      have hv := lvals (n := 19) M5.len hl5
      refine ⟨rfl, JI.out, (M5.ch.trans HC.out (o := o) (k := 21) (Nat.le_refl _) (by omega) (by omega) (by omega)).trans JC.out (Nat.le_refl _) (by omega) (by omega) (by omega), JC.out.range (HC.out.range M5.rng ?_) ?_, ⟨A', c', (HL.out.ch JC.out (by omega) (.inr (.inr M5.lt))).low M5.ch.size⟩, A3, c3, JL.out.low (Nat.le_trans M5.ch.size HC.out.size)⟩
      · rw [hv]; omega
      · rw [hv]; omega
end Go.Proofs.YtffaddefnpkcgaaGreatDoor

