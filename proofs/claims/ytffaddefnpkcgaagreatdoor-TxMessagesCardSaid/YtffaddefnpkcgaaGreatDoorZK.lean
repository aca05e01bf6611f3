/-
  A tape: what fields are led over; a Writer that they are written on, a Reader that they are read from.
-/
import Derived.Test.YtffaddefnpkcgaaGreatDoorZB
import Derived.Test.YtffaddefnpkcgaaGreatDoorZG
import Derived.Test.YtffaddefnpkcgaaGreatDoorZJ
import Derived.Test.YtffaddefnpkcgaaGreatDoorZHO1
import Derived.Test.YtffaddefnpkcgaaGreatDoorZW
namespace Go.Proofs.YtffaddefnpkcgaaGreatDoor
open Go.RowKit
set_option maxRecDepth 100000
inductive Pc
  | num (k : Nat)
  | hsh
def Pc.sch : Pc → Sch
  | .num k => [some k]
  | .hsh => hS
def schP (ps : List Pc) : Sch := ps.flatMap Pc.sch
theorem schP_cons (p : Pc) (ps : List Pc) : schP (p :: ps) = p.sch ++ schP ps := rfl
theorem schP_app (ps qs : List Pc) : schP (ps ++ qs) = schP ps ++ schP qs := by simp [schP]
structure Ch (Own : World → Nat → Prop) (ro : Bool) (w w' : World) (b o k : Nat) : Prop where
  size : w.heap.size ≤ w'.heap.size
  own : ∀ q, q < w.heap.size → Own w q → Own w' q
  els : ∀ q, q < w.heap.size → Own w q → q ≠ b ∨ ro = true → w'.heap[q]? = w.heap[q]?
  cell : ∀ i, (i < o ∨ o + k ≤ i) → w'.cell? ⟨b, i, none⟩ = w.cell? ⟨b, i, none⟩
theorem Ch.refl (Own : World → Nat → Prop) (ro : Bool) (w : World) (b o k : Nat) : Ch Own ro w w b o k := ⟨Nat.le_refl _, fun _ _ h => h, fun _ _ _ _ => rfl, fun _ _ => rfl⟩
theorem Ch.trans {Own : World → Nat → Prop} {ro : Bool} {x y z : World} {b o1 k1 o2 k2 o k : Nat} (h : Ch Own ro x y b o1 k1) (g : Ch Own ro y z b o2 k2) (h1 : o ≤ o1) (h2 : o1 + k1 ≤ o + k) (h3 : o ≤ o2) (h4 : o2 + k2 ≤ o + k) : Ch Own ro x z b o k :=
  ⟨Nat.le_trans h.size g.size, fun q hq ho => g.own q (Nat.lt_of_lt_of_le hq h.size) (h.own q hq ho),
   fun q hq ho e => (g.els q (Nat.lt_of_lt_of_le hq h.size) (h.own q hq ho) e).trans (h.els q hq ho e),
   fun i hi => (g.cell i (by omega)).trans (h.cell i (by omega))⟩
theorem Ch.wide {Own : World → Nat → Prop} {ro : Bool} {x y : World} {b o1 k1 o k : Nat} (h : Ch Own ro x y b o1 k1) (h1 : o ≤ o1) (h2 : o1 + k1 ≤ o + k) : Ch Own ro x y b o k := ⟨h.size, h.own, h.els, fun i hi => h.cell i (by omega)⟩
theorem Ch.range {Own : World → Nat → Prop} {ro : Bool} {x y : World} {b o k : Nat} (h : Ch Own ro x y b o k) {p : Nat} {cs : List Value} (hr : x.rangeAt b p cs) (ha : p + cs.length ≤ o ∨ o + k ≤ p) : y.rangeAt b p cs := fun j v hv => by
  have hj : j < cs.length := (List.getElem?_eq_some_iff.1 hv).1
  rw [h.cell (p + j) (by omega)]
  exact hr j v hv
theorem Ch.rangeE {Own : World → Nat → Prop} {ro : Bool} {x y : World} {b o k : Nat} (h : Ch Own ro x y b o k) {q p : Nat} {cs : List Value} (hr : x.rangeAt q p cs) (hq : q < x.heap.size) (ho : Own x q) (hne : q ≠ b ∨ ro = true) : y.rangeAt q p cs := range_keep1 hr (h.els q hq ho hne)
structure Tape where
  V : Value
  X : Value
  Fn : Nat
  Fh : Nat
  I : World → List Int → Prop
  Own : World → Nat → Prop
  ro : Bool
  sh : Bool
  J : World → Prop
  stN : Nat → List Int → Int → Option (List Int × Int)
  stH : List Int → List Int → Option (List Int × List Int)
  callN : ∀ (a b : Value) (w : World), (callMethod V "drawbridge/tx.num" #[a, b]).run Tryz.prog w = .ok (.enter Fn #[X, a, b]) w
  callH : ∀ (a : Value) (w : World), (callMethod V "drawbridge/tx.hash" #[a]).run Tryz.prog w = .ok (.enter Fh #[X, a]) w
  nilN : ∀ {o : Oper} {ev : Operand → Value} {x : Operand}, o.op = .nilCheck x → ev x = .func (.method "drawbridge/tx.num") #[V] #[] → ∀ w : World, (execOp ev o).run Tryz.prog w = .ok (.value (.func (.method "drawbridge/tx.num") #[V] #[])) w
  nilH : ∀ {o : Oper} {ev : Operand → Value} {x : Operand}, o.op = .nilCheck x → ev x = .func (.method "drawbridge/tx.hash") #[V] #[] → ∀ w : World, (execOp ev o).run Tryz.prog w = .ok (.value (.func (.method "drawbridge/tx.hash") #[V] #[])) w
  lenH : ∀ {bs h : List Int} {p : List Int × List Int}, h.length = 8 → stH bs h = some p → p.2.length = 8
  num : ∀ (w : World) (bs : List Int) (b o : Nat) (x : Int) (k : Nat), 1 ≤ k → k ≤ 7 → I w bs → b < w.heap.size → Own w b → w.cell? ⟨b, o, none⟩ = some (.int .i64 x) →
    (∀ p, stN k bs x = some p → Calls Tryz.prog Fn #[X, .pointer (some ⟨b, o, none⟩), .int .i64 k] w fun e w' => e = .returned (.tuple #[]) ∧ I w' p.1 ∧ Ch Own ro w w' b o 1 ∧ w'.cell? ⟨b, o, none⟩ = some (.int .i64 p.2)) ∧
    (sh = true → stN k bs x = none → Calls Tryz.prog Fn #[X, .pointer (some ⟨b, o, none⟩), .int .i64 k] w fun e w' => Short e ∧ J w')
  hash : ∀ (w : World) (bs : List Int) (b o : Nat) (h : List Int), I w bs → b < w.heap.size → Own w b → h.length = 8 → w.rangeAt b o (bvals h) →
    (∀ p, stH bs h = some p → Calls Tryz.prog Fh #[X, .pointer (some ⟨b, o, none⟩)] w fun e w' => e = .returned (.tuple #[]) ∧ I w' p.1 ∧ Ch Own ro w w' b o 8 ∧ w'.rangeAt b o (bvals p.2)) ∧
    (sh = true → stH bs h = none → Calls Tryz.prog Fh #[X, .pointer (some ⟨b, o, none⟩)] w fun e w' => Short e ∧ J w')
  same : ∀ (w w' : World) (bs : List Int), I w bs → w'.os = w.os → w'.tape = w.tape → w'.output = w.output → w.heap.size ≤ w'.heap.size → (∀ q, q < w.heap.size → w'.heap[q]? = w.heap[q]?) → I w' bs ∧ ∀ q, q < w.heap.size → Own w q → Own w' q
  fresh : ∀ (w w' : World) (bs : List Int) (g : Nat), I w bs → I w' bs → (∀ q, q < w.heap.size → w'.heap[q]? = w.heap[q]?) → w.heap.size ≤ g → (∀ i, w'.frozen? ⟨g, i, none⟩ = false) → Own w' g
  byt1 : ∀ (bs : List Int) (x : Int) (p : List Int × Int), stN 1 bs x = some p → p.2 = x ∨ (ro = false ∧ 0 ≤ p.2 ∧ p.2 < 256)
  free : ro = false → ∀ (w : World) (q : Nat), Own w q → ∀ i, w.frozen? ⟨q, i, none⟩ = false
  store : ro = false → ∀ (w : World) (bs : List Int) (b o : Nat) (v : Value), I w bs → Own w b → I (w.setCell ⟨b, o, none⟩ v) bs ∧ ∀ q, Own w q → Own (w.setCell ⟨b, o, none⟩ v) q
def Tape.st (T : Tape) : List Pc → List Int → List Int → Option (List Int × List Int)
  | [], bs, _ => some (bs, [])
  | .num k :: ps, bs, r => (T.stN k bs (cel r 0)).bind fun p => (T.st ps p.1 (r.drop 1)).bind fun q => some (q.1, p.2 :: q.2)
  | .hsh :: ps, bs, r => (T.stH bs (r.take 8)).bind fun p => (T.st ps p.1 (r.drop 8)).bind fun q => some (q.1, p.2 ++ q.2)
theorem Tape.st_app (T : Tape) : ∀ (ps qs : List Pc) (bs r : List Int), T.st (ps ++ qs) bs r = (T.st ps bs r).bind fun p => (T.st qs p.1 (r.drop (schP ps).length)).bind fun q => some (q.1, p.2 ++ q.2)
  | [], qs, bs, r => by
    simp only [List.nil_append, Tape.st, Option.bind_some, schP, List.flatMap_nil, List.length_nil, List.drop_zero]
    cases T.st qs bs r <;> rfl
  | .num k :: ps, qs, bs, r => by
    simp only [List.cons_append, Tape.st]
    cases T.stN k bs (cel r 0) with
    | none => rfl
    | some p =>
      simp only [Option.bind_some]
      rw [Tape.st_app T ps qs, schP_cons, List.length_append]
      cases T.st ps p.1 (r.drop 1) with
      | none => rfl
      | some q =>
        simp only [Option.bind_some, List.drop_drop, Pc.sch, List.length_cons, List.length_nil, Nat.zero_add]
        cases T.st qs q.1 (r.drop (1 + (schP ps).length)) <;> simp
  | .hsh :: ps, qs, bs, r => by
    simp only [List.cons_append, Tape.st]
    cases T.stH bs (r.take 8) with
    | none => rfl
    | some p =>
      simp only [Option.bind_some]
      rw [Tape.st_app T ps qs, schP_cons, List.length_append]
      cases T.st ps p.1 (r.drop 8) with
      | none => rfl
      | some q =>
        simp only [Option.bind_some, List.drop_drop, Pc.sch, show hS.length = 8 from rfl]
        cases T.st qs q.1 (r.drop (8 + (schP ps).length)) <;> simp
theorem Tape.st_len (T : Tape) : ∀ (ps : List Pc) (bs r : List Int) (p : List Int × List Int), r.length = (schP ps).length → T.st ps bs r = some p → p.2.length = (schP ps).length
  | [], bs, r, p, _, h => by
    simp only [Tape.st, Option.some.injEq] at h
    rw [← h]; rfl
  | .num k :: ps, bs, r, p, hl, h => by
    simp only [Tape.st] at h
    obtain ⟨p1, h1, h2⟩ := bind_some h
    obtain ⟨q, h3, h4⟩ := bind_some h2
    simp only [Option.some.injEq] at h4
    rw [schP_cons, List.length_append] at hl ⊢
    have := Tape.st_len T ps _ _ q (by rw [List.length_drop, hl]; simp [Pc.sch]) h3
    rw [← h4, List.length_cons, this]
    simp [Pc.sch]; omega
  | .hsh :: ps, bs, r, p, hl, h => by
    simp only [Tape.st] at h
    obtain ⟨p1, h1, h2⟩ := bind_some h
    obtain ⟨q, h3, h4⟩ := bind_some h2
    simp only [Option.some.injEq] at h4
    rw [schP_cons, List.length_append] at hl ⊢
    have h8 : (Pc.hsh.sch).length = 8 := rfl
    have := Tape.st_len T ps _ _ q (by rw [List.length_drop, hl]; omega) h3
    rw [← h4, List.length_append, this, T.lenH (by rw [List.length_take, hl]; omega) h1]
    rfl
def Tape.Post (T : Tape) (S : Sch) (w : World) (b o : Nat) : Option (List Int × List Int) → Ending → World → Prop
  | some p, e, w' => e = .returned (.tuple #[]) ∧ T.I w' p.1 ∧ Ch T.Own T.ro w w' b o S.length ∧ w'.rangeAt b o (vals S p.2)
  | none, e, w' => Short e ∧ T.J w'
def Tape.Rec (T : Tape) (F : Nat) (ps : List Pc) : Prop := ∀ (w : World) (bs : List Int) (b o : Nat) (r : List Int), T.I w bs → b < w.heap.size → T.Own w b → r.length = (schP ps).length → w.rangeAt b o (vals (schP ps) r) → (T.st ps bs r = none → T.sh = true) →
  Calls Tryz.prog F #[T.V, .pointer (some ⟨b, o, none⟩)] w (T.Post (schP ps) w b o (T.st ps bs r))
end Go.Proofs.YtffaddefnpkcgaaGreatDoor
namespace Go.Proofs.YtffaddefnpkcgaaGreatDoor
open Go.RowKit
set_option maxRecDepth 100000
theorem step_enter {P : Program} {ops : Array Oper} {o : Oper} {a : Act} {w : World} {K : Act → World → Prop} {Q : Exit → Act → World → Prop} {F : Nat} {args : Array Value} (hw : Region.wanted o (yielded ops a.tmps) = true)
    (hrun : (execOp a.eval o).run P w = .ok (.enter F args) w)
    (hc : Calls P F args w fun | .returned v, w' => K (a.put o.dst v) w' | .panicked c, w' => Q (.panic c) a w' | .outgrown, _ => LetsOut Q) :
    if Region.wanted o (yielded ops a.tmps) = true then Oper.wp P o a w K Q else K (a.put o.dst undef) w := by
  rw [if_pos hw]
  unfold Oper.wp
  rw [hrun]
  exact hc
theorem run_invN (T : Tape) {o : Oper} {ev : Operand → Value} {w : World} {x a b : Operand} {ts : Array TypeId} (ho : o.op = .call { callee := .invoke x "drawbridge/tx.num", args := #[a, b], argTypes := ts }) {va vb : Value} (hx : ev x = T.V) (ha : ev a = va) (hb : ev b = vb) :
    (execOp ev o).run Tryz.prog w = .ok (.enter T.Fn #[T.X, va, vb]) w := by
  have := T.callN va vb w
  unfold execOp
  simp only [ho, resolve, invoke, hx, ha, hb, List.map_toArray, List.map_cons, List.map_nil, Sem.run_bind, Sem.run_pure, Result.andThen_ok]
  exact this
theorem run_invH (T : Tape) {o : Oper} {ev : Operand → Value} {w : World} {x a : Operand} {ts : Array TypeId} (ho : o.op = .call { callee := .invoke x "drawbridge/tx.hash", args := #[a], argTypes := ts }) {va : Value} (hx : ev x = T.V) (ha : ev a = va) :
    (execOp ev o).run Tryz.prog w = .ok (.enter T.Fh #[T.X, va]) w := by
  have := T.callH va w
  unfold execOp
  simp only [ho, resolve, invoke, hx, ha, List.map_toArray, List.map_cons, List.map_nil, Sem.run_bind, Sem.run_pure, Result.andThen_ok]
  exact this
theorem Tape.numC (T : Tape) (w : World) (bs : List Int) (b o : Nat) (x : Int) (k : Nat) (h1 : 1 ≤ k) (h7 : k ≤ 7) (hI : T.I w bs) (hb : b < w.heap.size) (hO : T.Own w b) (hc : w.cell? ⟨b, o, none⟩ = some (.int .i64 x)) (hs : T.stN k bs x = none → T.sh = true) :
    Calls Tryz.prog T.Fn #[T.X, .pointer (some ⟨b, o, none⟩), .int .i64 k] w fun e w' => (∃ p, T.stN k bs x = some p ∧ e = .returned (.tuple #[]) ∧ T.I w' p.1 ∧ Ch T.Own T.ro w w' b o 1 ∧ w'.cell? ⟨b, o, none⟩ = some (.int .i64 p.2)) ∨ (T.stN k bs x = none ∧ Short e ∧ T.J w') := by
  obtain ⟨g1, g2⟩ := T.num w bs b o x k h1 h7 hI hb hO hc
  cases h : T.stN k bs x with
  | none => exact (g2 (hs h) h).mono fun e w' g => .inr ⟨rfl, g⟩
  | some p => exact (g1 p h).mono fun e w' g => .inl ⟨p, rfl, g⟩
theorem Tape.hashC (T : Tape) (w : World) (bs : List Int) (b o : Nat) (x : List Int) (hI : T.I w bs) (hb : b < w.heap.size) (hO : T.Own w b) (hl : x.length = 8) (hc : w.rangeAt b o (bvals x)) (hs : T.stH bs x = none → T.sh = true) :
    Calls Tryz.prog T.Fh #[T.X, .pointer (some ⟨b, o, none⟩)] w fun e w' => (∃ p, T.stH bs x = some p ∧ e = .returned (.tuple #[]) ∧ T.I w' p.1 ∧ Ch T.Own T.ro w w' b o 8 ∧ w'.rangeAt b o (bvals p.2)) ∨ (T.stH bs x = none ∧ Short e ∧ T.J w') := by
  obtain ⟨g1, g2⟩ := T.hash w bs b o x hI hb hO hl hc
  cases h : T.stH bs x with
  | none => exact (g2 (hs h) h).mono fun e w' g => .inr ⟨rfl, g⟩
  | some p => exact (g1 p h).mono fun e w' g => .inl ⟨p, rfl, g⟩
theorem Tape.drw (T : Tape) {w : World} {bs : List Int} (h : T.I w bs) : T.I w.drew bs ∧ ∀ q, q < w.heap.size → T.Own w q → T.Own w.drew q :=
  T.same w w.drew bs h rfl rfl rfl (Nat.le_refl _) (fun _ _ => rfl)
theorem Ch.ofDrew {Own : World → Nat → Prop} {ro : Bool} {w w' : World} {b o k : Nat} (h : Ch Own ro w.drew w' b o k) (ho : ∀ q, q < w.heap.size → Own w q → Own w.drew q) : Ch Own ro w w' b o k :=
  ⟨h.size, fun q hq hO => h.own q hq (ho q hq hO), fun q hq hO e => h.els q hq (ho q hq hO) e, fun i hi => h.cell i hi⟩
theorem Tape.numD (T : Tape) (w : World) (bs : List Int) (b o : Nat) (x : Int) (k : Nat) (h1 : 1 ≤ k) (h7 : k ≤ 7) (hI : T.I w bs) (hb : b < w.heap.size) (hO : T.Own w b) (hc : w.cell? ⟨b, o, none⟩ = some (.int .i64 x)) (hs : T.stN k bs x = none → T.sh = true) :
    Calls Tryz.prog T.Fn #[T.X, .pointer (some ⟨b, o, none⟩), .int .i64 k] w.drew fun e w' => (∃ p, T.stN k bs x = some p ∧ e = .returned (.tuple #[]) ∧ T.I w' p.1 ∧ Ch T.Own T.ro w w' b o 1 ∧ w'.cell? ⟨b, o, none⟩ = some (.int .i64 p.2)) ∨ (T.stN k bs x = none ∧ Short e ∧ T.J w') := by
  obtain ⟨d1, d2⟩ := T.drw hI
  refine (T.numC w.drew bs b o x k h1 h7 d1 hb (d2 b hb hO) hc hs).mono fun e w' h => ?_
  rcases h with ⟨p, h1, h2, h3, h4, h5⟩ | h
  · exact .inl ⟨p, h1, h2, h3, h4.ofDrew d2, h5⟩
  · exact .inr h
theorem Tape.hashD (T : Tape) (w : World) (bs : List Int) (b o : Nat) (x : List Int) (hI : T.I w bs) (hb : b < w.heap.size) (hO : T.Own w b) (hl : x.length = 8) (hc : w.rangeAt b o (bvals x)) (hs : T.stH bs x = none → T.sh = true) :
    Calls Tryz.prog T.Fh #[T.X, .pointer (some ⟨b, o, none⟩)] w.drew fun e w' => (∃ p, T.stH bs x = some p ∧ e = .returned (.tuple #[]) ∧ T.I w' p.1 ∧ Ch T.Own T.ro w w' b o 8 ∧ w'.rangeAt b o (bvals p.2)) ∨ (T.stH bs x = none ∧ Short e ∧ T.J w') := by
  obtain ⟨d1, d2⟩ := T.drw hI
  refine (T.hashC w.drew bs b o x d1 hb (d2 b hb hO) hl hc hs).mono fun e w' h => ?_
  rcases h with ⟨p, h1, h2, h3, h4, h5⟩ | h
  · exact .inl ⟨p, h1, h2, h3, h4.ofDrew d2, h5⟩
  · exact .inr h
end Go.Proofs.YtffaddefnpkcgaaGreatDoor
namespace Go.Proofs.YtffaddefnpkcgaaGreatDoor
open Go.RowKit
set_option maxRecDepth 100000
theorem Tape.st_take (T : Tape) : ∀ (ps : List Pc) (bs r : List Int) (m : Nat), (schP ps).length ≤ m → T.st ps bs (r.take m) = T.st ps bs r
  | [], _, _, _, _ => rfl
  | .num k :: ps, bs, r, m, h => by
    rw [schP_cons, List.length_append] at h
    have h1 : (Pc.sch (.num k)).length = 1 := rfl
    obtain ⟨j, rfl⟩ : ∃ j, m = j + 1 := ⟨m - 1, by omega⟩
    simp only [Tape.st]
    rw [cel_take (by omega), List.drop_take]
    congr 1
    funext p
    rw [show j + 1 - 1 = j by omega, Tape.st_take T ps p.1 (r.drop 1) j (by omega)]
  | .hsh :: ps, bs, r, m, h => by
    rw [schP_cons, List.length_append] at h
    have h1 : (Pc.sch .hsh).length = 8 := rfl
    obtain ⟨j, rfl⟩ : ∃ j, m = j + 8 := ⟨m - 8, by omega⟩
    simp only [Tape.st]
    rw [List.take_take, List.drop_take, show min 8 (j + 8) = 8 by omega]
    congr 1
    funext p
    rw [show j + 8 - 8 = j by omega, Tape.st_take T ps p.1 (r.drop 8) j (by omega)]
theorem Tape.st_hsh (T : Tape) (bs r : List Int) : T.st [.hsh] bs r = T.stH bs (r.take 8) := by
  simp only [Tape.st]
  cases T.stH bs (r.take 8) with
  | none => rfl
  | some p => simp
theorem Tape.st_num (T : Tape) (k : Nat) (bs r : List Int) : T.st [.num k] bs r = (T.stN k bs (cel r 0)).bind fun p => some (p.1, [p.2]) := by
  simp only [Tape.st]
  cases T.stN k bs (cel r 0) <;> rfl
structure Mid (T : Tape) (w : World) (b o : Nat) (bs r : List Int) (ps : List Pc) (n : Nat) (w1 : World) (bs1 r1 : List Int) : Prop where
  len : (schP ps).length = n
  st : T.st ps bs r = some (bs1, r1)
  l1 : r1.length = n
  I : T.I w1 bs1
  lt : b < w1.heap.size
  own : T.Own w1 b
  ch : Ch T.Own T.ro w w1 b o n
  rng : w1.rangeAt b o (vals (schP ps) r1)
variable {T : Tape} {w w1 w2 : World} {b o n m : Nat} {bs r bs1 r1 : List Int} {ps qs rs : List Pc} {p : List Int × List Int}
theorem mid0 (hI : T.I w bs) (hb : b < w.heap.size) (hO : T.Own w b) : Mid T w b o bs r [] 0 w bs [] :=
  ⟨rfl, rfl, rfl, hI, hb, hO, Ch.refl _ _ _ _ _ _, fun i v h => by simp [schP, vals] at h⟩
theorem Mid.getS (M : Mid T w b o bs r ps n w1 bs1 r1) (hr : w.rangeAt b o (vals (schP (ps ++ (qs ++ rs))) r)) (hl : r.length = (schP (ps ++ (qs ++ rs))).length) (hm : (schP qs).length = m) :
    w1.rangeAt b (o + n) (vals (schP qs) ((r.drop n).take m)) ∧ ((r.drop n).take m).length = m := by
  have e := M.len
  rw [schP_app, schP_app] at hr hl
  rw [List.length_append, List.length_append] at hl
  have h1 := (rg_app hr e (by omega)).2
  have h2 := (rg_app h1 hm (by rw [List.length_drop]; omega)).1
  refine ⟨M.ch.range h2 (.inr (Nat.le_refl _)), ?_⟩
  rw [List.length_take, List.length_drop]
  omega
theorem Mid.sub (M : Mid T w b o bs r ps n w1 bs1 r1) (hst : T.st qs bs1 ((r.drop n).take m) = some p) (hm : (schP qs).length = m) (hl : ((r.drop n).take m).length = m) (hI : T.I w2 p.1) (hc : Ch T.Own T.ro w1 w2 b (o + n) m) (hr2 : w2.rangeAt b (o + n) (vals (schP qs) p.2)) :
    Mid T w b o bs r (ps ++ qs) (n + m) w2 p.1 (r1 ++ p.2) := by
  have e := M.len
  have h2 : p.2.length = m := by rw [T.st_len qs _ _ p (by rw [hl, hm]) hst, hm]
  refine ⟨by rw [schP_app, List.length_append, M.len, hm], ?_, by rw [List.length_append, M.l1, h2], hI, Nat.lt_of_lt_of_le M.lt hc.size, hc.own b M.lt M.own, M.ch.trans hc (Nat.le_refl _) (by omega) (by omega) (by omega), ?_⟩
  · rw [T.st_app, M.st]
    simp only [Option.bind_some]
    rw [M.len, ← T.st_take qs bs1 (r.drop n) m (by omega), hst]
    rfl
  · have hv : vals (schP (ps ++ qs)) (r1 ++ p.2) = vals (schP ps) r1 ++ vals (schP qs) p.2 := by
      rw [schP_app, vals_app (by rw [List.length_append, M.l1]; omega), M.len]
      rw [List.take_append_of_le_length (by rw [M.l1]; omega), List.drop_append_of_le_length (by rw [M.l1]; omega), List.take_of_length_le (by rw [M.l1]; omega), List.drop_of_length_le (by rw [M.l1]; omega), List.nil_append]
    have hlv : (vals (schP ps) r1).length = n := by rw [vals_len (by rw [M.l1, M.len]), M.len]
    rw [hv]
    exact range_join (hc.range M.rng (.inl (by omega))) (by rw [hlv]; exact hr2)
theorem Mid.failS (M : Mid T w b o bs r ps n w1 bs1 r1) (hm : (schP qs).length = m) (h : T.st qs bs1 ((r.drop n).take m) = none) : T.st (ps ++ (qs ++ rs)) bs r = none := by
  rw [T.st_app, M.st]
  simp only [Option.bind_some]
  rw [M.len, T.st_app, ← T.st_take qs bs1 (r.drop n) m (by omega), h]
  rfl
theorem Mid.getH (M : Mid T w b o bs r ps n w1 bs1 r1) (hr : w.rangeAt b o (vals (schP (ps ++ (.hsh :: rs))) r)) (hl : r.length = (schP (ps ++ (.hsh :: rs))).length) :
    w1.rangeAt b (o + n) (bvals ((r.drop n).take 8)) ∧ ((r.drop n).take 8).length = 8 := by
  obtain ⟨h1, h2⟩ := M.getS (qs := [.hsh]) (rs := rs) (m := 8) hr hl rfl
  exact ⟨rg_byt (k := 8) h1 h2, h2⟩
theorem Mid.getN {k : Nat} (M : Mid T w b o bs r ps n w1 bs1 r1) (hr : w.rangeAt b o (vals (schP (ps ++ (.num k :: rs))) r)) (hl : r.length = (schP (ps ++ (.num k :: rs))).length) :
    w1.cell? ⟨b, o + n, none⟩ = some (.int .i64 (cel r n)) ∧ ((r.drop n).take 1).length = 1 := by
  obtain ⟨h1, h2⟩ := M.getS (qs := [.num k]) (rs := rs) (m := 1) hr hl rfl
  have h3 := (rg_num (S := []) (show w1.rangeAt b (o + n) (vals (some k :: []) _) from h1) (by omega)).1
  rw [cel_take (by decide), cel_drop] at h3
  exact ⟨h3, h2⟩
theorem Mid.failH (M : Mid T w b o bs r ps n w1 bs1 r1) (h : T.stH bs1 ((r.drop n).take 8) = none) : T.st (ps ++ (.hsh :: rs)) bs r = none := by
  refine M.failS (qs := [.hsh]) (rs := rs) (m := 8) rfl ?_
  rw [T.st_hsh, List.take_take, Nat.min_self]
  exact h
theorem Mid.failN {k : Nat} (M : Mid T w b o bs r ps n w1 bs1 r1) (h : T.stN k bs1 (cel r n) = none) : T.st (ps ++ (.num k :: rs)) bs r = none := by
  refine M.failS (qs := [.num k]) (rs := rs) (m := 1) rfl ?_
  rw [T.st_num, cel_take (by decide), cel_drop, Nat.add_zero, h]
  rfl
theorem Mid.hsh (M : Mid T w b o bs r ps n w1 bs1 r1) (hp : T.stH bs1 ((r.drop n).take 8) = some p) (hl : ((r.drop n).take 8).length = 8) (hI : T.I w2 p.1) (hc : Ch T.Own T.ro w1 w2 b (o + n) 8) (hr2 : w2.rangeAt b (o + n) (bvals p.2)) :
    Mid T w b o bs r (ps ++ [.hsh]) (n + 8) w2 p.1 (r1 ++ p.2) := by
  refine M.sub (qs := [.hsh]) (m := 8) ?_ rfl hl hI hc ?_
  · rw [T.st_hsh, List.take_take, Nat.min_self]
    exact hp
  · show w2.rangeAt b (o + n) (vals (List.replicate 8 none) p.2)
    rw [vals_byt 8 _ (T.lenH hl hp)]
    exact hr2
theorem Mid.num {k : Nat} {p : List Int × Int} (M : Mid T w b o bs r ps n w1 bs1 r1) (hp : T.stN k bs1 (cel r n) = some p) (hl : ((r.drop n).take 1).length = 1) (hI : T.I w2 p.1) (hc : Ch T.Own T.ro w1 w2 b (o + n) 1) (hr2 : w2.cell? ⟨b, o + n, none⟩ = some (.int .i64 p.2)) :
    Mid T w b o bs r (ps ++ [.num k]) (n + 1) w2 p.1 (r1 ++ [p.2]) := by
  refine M.sub (qs := [.num k]) (p := (p.1, [p.2])) (m := 1) ?_ rfl hl hI hc ?_
  · rw [T.st_num, cel_take (by decide), cel_drop, Nat.add_zero, hp]
    rfl
  · intro i v hv
    cases i with
    | zero =>
      simp [schP, Pc.sch, vals, cellV] at hv
      rw [← hv]
      exact hr2
    | succ i => simp [schP, Pc.sch, vals] at hv
theorem Mid.all (M : Mid T w b o bs r ps n w1 bs1 r1) : T.Post (schP ps) w b o (T.st ps bs r) (.returned (.tuple #[])) w1 := by
  rw [M.st]
  exact ⟨rfl, M.I, by rw [M.len]; exact M.ch, M.rng⟩
end Go.Proofs.YtffaddefnpkcgaaGreatDoor
namespace Go.Proofs.YtffaddefnpkcgaaGreatDoor
open Go.RowKit
set_option maxRecDepth 100000
attribute [local irreducible] ua da ba kk sw S8.run rt hs comp splice outB sha msg zeros win bvals vals cel seg
set_option maxHeartbeats 4000000 in
theorem fOut (T : Tape) : T.Rec 60 [.hsh, .num 7] := by
  intro w bs b o r hI hb hO hl hr hs
  have M0 := mid0 (T := T) (r := r) (bs := bs) (o := o) hI hb hO
  go_enter Tryz.func60, Tryz.ntmps60
  go_upto_region 1 with (fail)
  rename_i K hKK
  obtain ⟨c, l⟩ := M0.getH (ps := []) (rs := [.num 7]) hr hl
  refine wp_region_held_drew (S := fun _ => True) (by kernel_rfl) trivial (fun _ => ?_)
  refine tk (i := 0) (v := ?_) rfl (Or.inl ⟨by rfl, ?_⟩) trivial ?_
  rotate_left
  · (intro w _; go_simp; try with_reducible rfl)
  simp only [Act.put, ly1, ly3, ly4, ly5, ly6]
  refine tk (i := 1) (v := ?_) rfl (Or.inl ⟨by rfl, ?_⟩) trivial ?_
  rotate_left
  · (intro w _; go_simp; try with_reducible rfl)
  simp only [Act.put, ly1, ly2, ly3, ly4, ly5, ly6]
  refine tk (i := 2) (v := ?_) rfl (Or.inl ⟨by rfl, ?_⟩) trivial ?_
  rotate_left
  · (intro w _; go_simp; try with_reducible rfl)
  simp only [Act.put, ly1, ly2, ly3, ly4, ly5, ly6]
  refine tk (i := 3) (v := ?_) rfl (Or.inl ⟨by rfl, ?_⟩) trivial ?_
  rotate_left
  · (intro w _; go_simp; try with_reducible rfl)
  simp only [Act.put, ly1, ly2, ly3, ly4, ly5, ly6]
  refine tk (i := 4) (v := ?_) rfl (Or.inl ⟨by rfl, ?_⟩) trivial ?_
  rotate_left
  · (intro w _; go_simp; try with_reducible rfl)
  simp only [Act.put, ly1, ly2, ly3, ly4, ly5, ly6]
  refine tk (i := 5) rfl (Or.inl ⟨by rfl, fun w _ => T.nilH (by rfl) (by rfl) w⟩) trivial ?_
  simp only [Act.put, ly1, ly2, ly3, ly4, ly5, ly6]
  refine tk (i := 6) (v := ?_) rfl (Or.inl ⟨by rfl, ?_⟩) trivial ?_
  rotate_left
  · (intro w _; go_simp; try with_reducible rfl)
  simp only [Act.put, ly1, ly2, ly3, ly4, ly5, ly6]
  refine wpAnyH_ready (rs := [7]) (by kernel_rfl) (by simp) ?_
  refine AllReadyH.cons rfl (fun Kq hKq => ?_) AllReadyH.nil
  refine step_enter (by rfl) (run_invH T (by rfl) (by rfl) (by rfl)) ((T.hashD w bs b o _ M0.I M0.lt M0.own l c (fun h => hs (M0.failH (rs := [.num 7]) h))).mono ?_)
  rintro e w1 (⟨p1, hp, rfl, hI', hC', hr'⟩ | ⟨hn, hse, hJ⟩)
  rotate_left
  · unfold Short at hse
    subst hse
    refine ⟨rfl, ?_⟩
    rw [show T.st [.hsh, .num 7] bs r = none from M0.failH (rs := [.num 7]) hn]
    exact ⟨rfl, hJ⟩
  refine hKq.out _ _ trivial (fun _ => ?_)
  clear hKq Kq
  simp only [Act.put, ly1, ly2, ly3, ly4, ly5, ly6]
  refine wpAnyH_done (by kernel_rfl) ?_ _
  have M1 : Mid T w b o bs r [.hsh] 8 w1 p1.1 _ := M0.hsh hp l hI' hC' hr'
  clear hp hI' hC' hr' c l M0
  show K _ _
  refine hKK _ _ ?_
  clear hKK K
  obtain ⟨c, l⟩ := M1.getN (ps := [.hsh]) (rs := []) hr hl
  refine wp_region_held_drew (S := fun _ => True) (by kernel_rfl) trivial (fun _ => ?_)
  refine tk (i := 0) (v := ?_) rfl (Or.inl ⟨by rfl, ?_⟩) trivial ?_
  rotate_left
  · (intro w _; go_simp; try with_reducible rfl)
  simp only [Act.put, ly1, ly3, ly4, ly5, ly6]
  refine tk (i := 1) (v := ?_) rfl (Or.inl ⟨by rfl, ?_⟩) trivial ?_
  rotate_left
  · (intro w _; go_simp; try with_reducible rfl)
  simp only [Act.put, ly1, ly2, ly3, ly4, ly5, ly6]
  refine tk (i := 2) (v := ?_) rfl (Or.inl ⟨by rfl, ?_⟩) trivial ?_
  rotate_left
  · (intro w _; go_simp; try with_reducible rfl)
  simp only [Act.put, ly1, ly2, ly3, ly4, ly5, ly6]
  refine tk (i := 3) (v := ?_) rfl (Or.inl ⟨by rfl, ?_⟩) trivial ?_
  rotate_left
  · (intro w _; go_simp; try with_reducible rfl)
  simp only [Act.put, ly1, ly2, ly3, ly4, ly5, ly6]
  refine tk (i := 4) (v := ?_) rfl (Or.inl ⟨by rfl, ?_⟩) trivial ?_
  rotate_left
  · (intro w _; go_simp; try with_reducible rfl)
  simp only [Act.put, ly1, ly2, ly3, ly4, ly5, ly6]
  refine tk (i := 5) rfl (Or.inl ⟨by rfl, fun w _ => T.nilN (by rfl) (by rfl) w⟩) trivial ?_
  simp only [Act.put, ly1, ly2, ly3, ly4, ly5, ly6]
  refine tk (i := 6) (v := ?_) rfl (Or.inl ⟨by rfl, ?_⟩) trivial ?_
  rotate_left
  · (intro w _; go_simp; try with_reducible rfl)
  simp only [Act.put, ly1, ly2, ly3, ly4, ly5, ly6]
  refine wpAnyH_ready (rs := [7]) (by kernel_rfl) (by simp) ?_
  refine AllReadyH.cons rfl (fun Kq hKq => ?_) AllReadyH.nil
  refine step_enter (by rfl) (run_invN T (by rfl) (by rfl) (by rfl) (by rfl)) ((T.numD w1 p1.1 b (o + 8) _ 7 (by decide) (by decide) M1.I M1.lt M1.own c (fun h => hs (M1.failN (rs := []) h))).mono ?_)
  rintro e w2 (⟨p2, hp, rfl, hI', hC', hr'⟩ | ⟨hn, hse, hJ⟩)
  rotate_left
  · unfold Short at hse
    subst hse
    refine ⟨rfl, ?_⟩
    rw [show T.st [.hsh, .num 7] bs r = none from M1.failN (rs := []) hn]
    exact ⟨rfl, hJ⟩
  refine hKq.out _ _ trivial (fun _ => ?_)
  clear hKq Kq
  simp only [Act.put, ly1, ly2, ly3, ly4, ly5, ly6]
  refine wpAnyH_done (by kernel_rfl) ?_ _
  have M2 : Mid T w b o bs r [.hsh, .num 7] 9 w2 p2.1 _ := M1.num hp l hI' hC' hr'
  clear hp hI' hC' hr' c l M1
  go_end0
  exact M2.all
set_option maxHeartbeats 4000000 in
theorem fFwd (T : Tape) : T.Rec 64 [.num 1, .num 2, .hsh, .num 7] := by
  intro w bs b o r hI hb hO hl hr hs
  have M0 := mid0 (T := T) (r := r) (bs := bs) (o := o) hI hb hO
  go_enter Tryz.func64, Tryz.ntmps64
  go_upto_region 1 with (fail)
  rename_i K hKK
  obtain ⟨c, l⟩ := M0.getN (ps := []) (rs := [.num 2, .hsh, .num 7]) hr hl
  refine wp_region_held_drew (S := fun _ => True) (by kernel_rfl) trivial (fun _ => ?_)
  refine tk (i := 0) (v := ?_) rfl (Or.inl ⟨by rfl, ?_⟩) trivial ?_
  rotate_left
  · (intro w _; go_simp; try with_reducible rfl)
  simp only [Act.put, ly1, ly3, ly4, ly5, ly6]
  refine tk (i := 1) (v := ?_) rfl (Or.inl ⟨by rfl, ?_⟩) trivial ?_
  rotate_left
  · (intro w _; go_simp; try with_reducible rfl)
  simp only [Act.put, ly1, ly2, ly3, ly4, ly5, ly6]
  refine tk (i := 2) (v := ?_) rfl (Or.inl ⟨by rfl, ?_⟩) trivial ?_
  rotate_left
  · (intro w _; go_simp; try with_reducible rfl)
  simp only [Act.put, ly1, ly2, ly3, ly4, ly5, ly6]
  refine tk (i := 3) (v := ?_) rfl (Or.inl ⟨by rfl, ?_⟩) trivial ?_
  rotate_left
  · (intro w _; go_simp; try with_reducible rfl)
  simp only [Act.put, ly1, ly2, ly3, ly4, ly5, ly6]
  refine tk (i := 4) (v := ?_) rfl (Or.inl ⟨by rfl, ?_⟩) trivial ?_
  rotate_left
  · (intro w _; go_simp; try with_reducible rfl)
  simp only [Act.put, ly1, ly2, ly3, ly4, ly5, ly6]
  refine tk (i := 5) rfl (Or.inl ⟨by rfl, fun w _ => T.nilN (by rfl) (by rfl) w⟩) trivial ?_
  simp only [Act.put, ly1, ly2, ly3, ly4, ly5, ly6]
  refine tk (i := 6) (v := ?_) rfl (Or.inl ⟨by rfl, ?_⟩) trivial ?_
  rotate_left
  · (intro w _; go_simp; try with_reducible rfl)
  simp only [Act.put, ly1, ly2, ly3, ly4, ly5, ly6]
  refine wpAnyH_ready (rs := [7]) (by kernel_rfl) (by simp) ?_
  refine AllReadyH.cons rfl (fun Kq hKq => ?_) AllReadyH.nil
  refine step_enter (by rfl) (run_invN T (by rfl) (by rfl) (by rfl) (by rfl)) ((T.numD w bs b o _ 1 (by decide) (by decide) M0.I M0.lt M0.own c (fun h => hs (M0.failN (rs := [.num 2, .hsh, .num 7]) h))).mono ?_)
  rintro e w1 (⟨p1, hp, rfl, hI', hC', hr'⟩ | ⟨hn, hse, hJ⟩)
  rotate_left
  · unfold Short at hse
    subst hse
    refine ⟨rfl, ?_⟩
    rw [show T.st [.num 1, .num 2, .hsh, .num 7] bs r = none from M0.failN (rs := [.num 2, .hsh, .num 7]) hn]
    exact ⟨rfl, hJ⟩
  refine hKq.out _ _ trivial (fun _ => ?_)
  clear hKq Kq
  simp only [Act.put, ly1, ly2, ly3, ly4, ly5, ly6]
  refine wpAnyH_done (by kernel_rfl) ?_ _
  have M1 : Mid T w b o bs r [.num 1] 1 w1 p1.1 _ := M0.num hp l hI' hC' hr'
  clear hp hI' hC' hr' c l M0
  show K _ _
  refine hKK _ _ ?_
  clear hKK K
  go_upto_region 2 with (fail)
  rename_i K hKK
  obtain ⟨c, l⟩ := M1.getN (ps := [.num 1]) (rs := [.hsh, .num 7]) hr hl
  refine wp_region_held_drew (S := fun _ => True) (by kernel_rfl) trivial (fun _ => ?_)
  refine tk (i := 0) (v := ?_) rfl (Or.inl ⟨by rfl, ?_⟩) trivial ?_
  rotate_left
  · (intro w _; go_simp; try with_reducible rfl)
  simp only [Act.put, ly1, ly3, ly4, ly5, ly6]
  refine tk (i := 1) (v := ?_) rfl (Or.inl ⟨by rfl, ?_⟩) trivial ?_
  rotate_left
  · (intro w _; go_simp; try with_reducible rfl)
  simp only [Act.put, ly1, ly2, ly3, ly4, ly5, ly6]
  refine tk (i := 2) (v := ?_) rfl (Or.inl ⟨by rfl, ?_⟩) trivial ?_
  rotate_left
  · (intro w _; go_simp; try with_reducible rfl)
  simp only [Act.put, ly1, ly2, ly3, ly4, ly5, ly6]
  refine tk (i := 3) (v := ?_) rfl (Or.inl ⟨by rfl, ?_⟩) trivial ?_
  rotate_left
  · (intro w _; go_simp; try with_reducible rfl)
  simp only [Act.put, ly1, ly2, ly3, ly4, ly5, ly6]
  refine tk (i := 4) (v := ?_) rfl (Or.inl ⟨by rfl, ?_⟩) trivial ?_
  rotate_left
  · (intro w _; go_simp; try with_reducible rfl)
  simp only [Act.put, ly1, ly2, ly3, ly4, ly5, ly6]
  refine tk (i := 5) rfl (Or.inl ⟨by rfl, fun w _ => T.nilN (by rfl) (by rfl) w⟩) trivial ?_
  simp only [Act.put, ly1, ly2, ly3, ly4, ly5, ly6]
  refine tk (i := 6) (v := ?_) rfl (Or.inl ⟨by rfl, ?_⟩) trivial ?_
  rotate_left
  · (intro w _; go_simp; try with_reducible rfl)
  simp only [Act.put, ly1, ly2, ly3, ly4, ly5, ly6]
  refine wpAnyH_ready (rs := [7]) (by kernel_rfl) (by simp) ?_
  refine AllReadyH.cons rfl (fun Kq hKq => ?_) AllReadyH.nil
  refine step_enter (by rfl) (run_invN T (by rfl) (by rfl) (by rfl) (by rfl)) ((T.numD w1 p1.1 b (o + 1) _ 2 (by decide) (by decide) M1.I M1.lt M1.own c (fun h => hs (M1.failN (rs := [.hsh, .num 7]) h))).mono ?_)
  rintro e w2 (⟨p2, hp, rfl, hI', hC', hr'⟩ | ⟨hn, hse, hJ⟩)
  rotate_left
  · unfold Short at hse
    subst hse
    refine ⟨rfl, ?_⟩
    rw [show T.st [.num 1, .num 2, .hsh, .num 7] bs r = none from M1.failN (rs := [.hsh, .num 7]) hn]
    exact ⟨rfl, hJ⟩
  refine hKq.out _ _ trivial (fun _ => ?_)
  clear hKq Kq
  simp only [Act.put, ly1, ly2, ly3, ly4, ly5, ly6]
  refine wpAnyH_done (by kernel_rfl) ?_ _
  have M2 : Mid T w b o bs r [.num 1, .num 2] 2 w2 p2.1 _ := M1.num hp l hI' hC' hr'
  clear hp hI' hC' hr' c l M1
  show K _ _
  refine hKK _ _ ?_
  clear hKK K
  go_upto_region 3 with (fail)
  rename_i K hKK
  obtain ⟨c, l⟩ := M2.getH (ps := [.num 1, .num 2]) (rs := [.num 7]) hr hl
  refine wp_region_held_drew (S := fun _ => True) (by kernel_rfl) trivial (fun _ => ?_)
  refine tk (i := 0) (v := ?_) rfl (Or.inl ⟨by rfl, ?_⟩) trivial ?_
  rotate_left
  · (intro w _; go_simp; try with_reducible rfl)
  simp only [Act.put, ly1, ly3, ly4, ly5, ly6]
  refine tk (i := 1) (v := ?_) rfl (Or.inl ⟨by rfl, ?_⟩) trivial ?_
  rotate_left
  · (intro w _; go_simp; try with_reducible rfl)
  simp only [Act.put, ly1, ly2, ly3, ly4, ly5, ly6]
  refine tk (i := 2) (v := ?_) rfl (Or.inl ⟨by rfl, ?_⟩) trivial ?_
  rotate_left
  · (intro w _; go_simp; try with_reducible rfl)
  simp only [Act.put, ly1, ly2, ly3, ly4, ly5, ly6]
  refine tk (i := 3) (v := ?_) rfl (Or.inl ⟨by rfl, ?_⟩) trivial ?_
  rotate_left
  · (intro w _; go_simp; try with_reducible rfl)
  simp only [Act.put, ly1, ly2, ly3, ly4, ly5, ly6]
  refine tk (i := 4) (v := ?_) rfl (Or.inl ⟨by rfl, ?_⟩) trivial ?_
  rotate_left
  · (intro w _; go_simp; try with_reducible rfl)
  simp only [Act.put, ly1, ly2, ly3, ly4, ly5, ly6]
  refine tk (i := 5) rfl (Or.inl ⟨by rfl, fun w _ => T.nilH (by rfl) (by rfl) w⟩) trivial ?_
  simp only [Act.put, ly1, ly2, ly3, ly4, ly5, ly6]
  refine tk (i := 6) (v := ?_) rfl (Or.inl ⟨by rfl, ?_⟩) trivial ?_
  rotate_left
  · (intro w _; go_simp; try with_reducible rfl)
  simp only [Act.put, ly1, ly2, ly3, ly4, ly5, ly6]
  refine wpAnyH_ready (rs := [7]) (by kernel_rfl) (by simp) ?_
  refine AllReadyH.cons rfl (fun Kq hKq => ?_) AllReadyH.nil
  refine step_enter (by rfl) (run_invH T (by rfl) (by rfl) (by rfl)) ((T.hashD w2 p2.1 b (o + 2) _ M2.I M2.lt M2.own l c (fun h => hs (M2.failH (rs := [.num 7]) h))).mono ?_)
  rintro e w3 (⟨p3, hp, rfl, hI', hC', hr'⟩ | ⟨hn, hse, hJ⟩)
  rotate_left
  · unfold Short at hse
    subst hse
    refine ⟨rfl, ?_⟩
    rw [show T.st [.num 1, .num 2, .hsh, .num 7] bs r = none from M2.failH (rs := [.num 7]) hn]
    exact ⟨rfl, hJ⟩
  refine hKq.out _ _ trivial (fun _ => ?_)
  clear hKq Kq
  simp only [Act.put, ly1, ly2, ly3, ly4, ly5, ly6]
  refine wpAnyH_done (by kernel_rfl) ?_ _
  have M3 : Mid T w b o bs r [.num 1, .num 2, .hsh] 10 w3 p3.1 _ := M2.hsh hp l hI' hC' hr'
  clear hp hI' hC' hr' c l M2
  show K _ _
  refine hKK _ _ ?_
  clear hKK K
  obtain ⟨c, l⟩ := M3.getN (ps := [.num 1, .num 2, .hsh]) (rs := []) hr hl
  refine wp_region_held_drew (S := fun _ => True) (by kernel_rfl) trivial (fun _ => ?_)
  refine tk (i := 0) (v := ?_) rfl (Or.inl ⟨by rfl, ?_⟩) trivial ?_
  rotate_left
  · (intro w _; go_simp; try with_reducible rfl)
  simp only [Act.put, ly1, ly3, ly4, ly5, ly6]
  refine tk (i := 1) (v := ?_) rfl (Or.inl ⟨by rfl, ?_⟩) trivial ?_
  rotate_left
  · (intro w _; go_simp; try with_reducible rfl)
  simp only [Act.put, ly1, ly2, ly3, ly4, ly5, ly6]
  refine tk (i := 2) (v := ?_) rfl (Or.inl ⟨by rfl, ?_⟩) trivial ?_
  rotate_left
  · (intro w _; go_simp; try with_reducible rfl)
  simp only [Act.put, ly1, ly2, ly3, ly4, ly5, ly6]
  refine tk (i := 3) (v := ?_) rfl (Or.inl ⟨by rfl, ?_⟩) trivial ?_
  rotate_left
  · (intro w _; go_simp; try with_reducible rfl)
  simp only [Act.put, ly1, ly2, ly3, ly4, ly5, ly6]
  refine tk (i := 4) (v := ?_) rfl (Or.inl ⟨by rfl, ?_⟩) trivial ?_
  rotate_left
  · (intro w _; go_simp; try with_reducible rfl)
  simp only [Act.put, ly1, ly2, ly3, ly4, ly5, ly6]
  refine tk (i := 5) rfl (Or.inl ⟨by rfl, fun w _ => T.nilN (by rfl) (by rfl) w⟩) trivial ?_
  simp only [Act.put, ly1, ly2, ly3, ly4, ly5, ly6]
  refine tk (i := 6) (v := ?_) rfl (Or.inl ⟨by rfl, ?_⟩) trivial ?_
  rotate_left
  · (intro w _; go_simp; try with_reducible rfl)
  simp only [Act.put, ly1, ly2, ly3, ly4, ly5, ly6]
  refine wpAnyH_ready (rs := [7]) (by kernel_rfl) (by simp) ?_
  refine AllReadyH.cons rfl (fun Kq hKq => ?_) AllReadyH.nil
  refine step_enter (by rfl) (run_invN T (by rfl) (by rfl) (by rfl) (by rfl)) ((T.numD w3 p3.1 b (o + 10) _ 7 (by decide) (by decide) M3.I M3.lt M3.own c (fun h => hs (M3.failN (rs := []) h))).mono ?_)
  rintro e w4 (⟨p4, hp, rfl, hI', hC', hr'⟩ | ⟨hn, hse, hJ⟩)
  rotate_left
  · unfold Short at hse
    subst hse
    refine ⟨rfl, ?_⟩
    rw [show T.st [.num 1, .num 2, .hsh, .num 7] bs r = none from M3.failN (rs := []) hn]
    exact ⟨rfl, hJ⟩
  refine hKq.out _ _ trivial (fun _ => ?_)
  clear hKq Kq
  simp only [Act.put, ly1, ly2, ly3, ly4, ly5, ly6]
  refine wpAnyH_done (by kernel_rfl) ?_ _
  have M4 : Mid T w b o bs r [.num 1, .num 2, .hsh, .num 7] 11 w4 p4.1 _ := M3.num hp l hI' hC' hr'
  clear hp hI' hC' hr' c l M3
  go_end0
  exact M4.all
end Go.Proofs.YtffaddefnpkcgaaGreatDoor
namespace Go.Proofs.YtffaddefnpkcgaaGreatDoor
open Go.RowKit
set_option maxRecDepth 100000
attribute [local irreducible] ua da ba kk sw S8.run rt hs comp splice outB sha msg zeros win bvals vals cel seg
theorem sch_rep (k : Nat) : (schP (List.replicate k .hsh)).length = k * 8 := by
  induction k with
  | zero => rfl
  | succ k ih =>
    rw [List.replicate_succ, schP_cons, List.length_append, ih]
    show 8 + _ = _
    omega
theorem rep_split {k c : Nat} (h : k < c) : (List.replicate c Pc.hsh) = List.replicate k .hsh ++ (.hsh :: List.replicate (c - k - 1) .hsh) := by
  rw [← List.replicate_succ, List.replicate_append_replicate]
  congr 1
  omega
set_option maxHeartbeats 4000000 in
theorem fHashes (T : Tape) (w : World) (bs : List Int) (b o c cc : Nat) (r : List Int) (hI : T.I w bs) (hb : b < w.heap.size) (hO : T.Own w b) (hl : r.length = (schP (List.replicate c .hsh)).length) (hr : w.rangeAt b o (vals (schP (List.replicate c .hsh)) r)) (hs : T.st (List.replicate c .hsh) bs r = none → T.sh = true) (hc : c ≤ 100) (hcc : c ≤ cc) (hcm : cc ≤ 100) :
    Calls Tryz.prog 98 #[T.V, .slice (some ⟨b, o, none⟩) c cc] w (T.Post (schP (List.replicate c .hsh)) w b o (T.st (List.replicate c .hsh) bs r)) := by
  have M0 := Lib.hid (mid0 (T := T) (r := r) (bs := bs) (o := o) hI hb hO)
  have HL := Lib.hid hl
  have HR := Lib.hid hr
  have HS := Lib.hid hs
  clear hl hr hs
  go_enter Tryz.func98, Tryz.ntmps98
  go_wp2
  go_loopw [7] (fun i wr => ∃ k : Nat, k ≤ c ∧ i = .int .i64 k ∧ ∃ bs1 r1, Mid T w b o bs r (List.replicate k .hsh) (k * 8) wr bs1 r1) (fun i _ => c - (intOf i).toNat)
  case atStart => exact ⟨0, Nat.zero_le _, rfl, bs, [], M0.out⟩
  case round =>
    obtain ⟨k, hk, rfl, bs1, r1, hM⟩ := hrel
    have HM := Lib.hid hM
    clear hM
    by_cases hlt : k < c
    · have s0 : (0 : Int) ≤ (k : Int) := by omega
      have s1 : (k : Int) < (c : Int) := by omega
      have EQ := Lib.hid (rep_split hlt)
      have G := Lib.hid (HM.out.getH (rs := List.replicate (c - k - 1) .hsh) (by rw [← EQ.out]; exact HR.out) (by rw [← EQ.out]; exact HL.out))
      have FL : Hid (T.stH bs1 ((r.drop (k * 8)).take 8) = none → T.st (List.replicate c .hsh) bs r = none) := fun h => by rw [EQ.out]; exact HM.out.failH h
      go_upto_region 4 with (fail)
      rename_i K hKK
      refine wp_region_held_drew (S := fun _ => True) (by kernel_rfl) trivial (fun _ => ?_)
      refine tk (i := 0) (v := ?_) rfl (Or.inl ⟨by rfl, ?_⟩) trivial ?_
      rotate_left
      · (intro w _; go_simp; try with_reducible rfl)
      simp only [Act.put, ly1, ly3, ly4, ly5, ly6]
      refine tk (i := 1) (v := ?_) rfl (Or.inl ⟨by rfl, ?_⟩) trivial ?_
      rotate_left
      · (intro w _; go_simp; try with_reducible rfl)
      simp only [Act.put, ly1, ly2, ly3, ly4, ly5, ly6]
      refine tk (i := 2) (v := ?_) rfl (Or.inl ⟨by rfl, ?_⟩) trivial ?_
      rotate_left
      · (intro w _; go_simp; try with_reducible rfl)
      simp only [Act.put, ly1, ly2, ly3, ly4, ly5, ly6]
      refine tk (i := 3) (v := ?_) rfl (Or.inl ⟨by rfl, ?_⟩) trivial ?_
      rotate_left
      · (intro w _; go_simp; try with_reducible rfl)
      simp only [Act.put, ly1, ly2, ly3, ly4, ly5, ly6]
      refine tk (i := 4) (v := ?_) rfl (Or.inl ⟨by rfl, ?_⟩) trivial ?_
      rotate_left
      · (intro w _; go_simp; try with_reducible rfl)
      simp only [Act.put, ly1, ly2, ly3, ly4, ly5, ly6]
      refine tk (i := 5) rfl (Or.inl ⟨by rfl, fun w _ => T.nilH (by rfl) (by rfl) w⟩) trivial ?_
      simp only [Act.put, ly1, ly2, ly3, ly4, ly5, ly6]
      refine tk (i := 6) (v := ?_) rfl (Or.inl ⟨by rfl, ?_⟩) trivial ?_
      rotate_left
      · (intro w _; go_simp; try with_reducible rfl)
      simp only [Act.put, ly1, ly2, ly3, ly4, ly5, ly6]
      refine wpAnyH_ready (rs := [7]) (by kernel_rfl) (by simp) ?_
      refine AllReadyH.cons rfl (fun Kq hKq => ?_) AllReadyH.nil
      refine step_enter (by rfl) (run_invH T (by rfl) (by rfl) (by rfl)) ((T.hashD wr bs1 b (o + k * 8) _ HM.out.I HM.out.lt HM.out.own G.out.2 G.out.1 (fun h => HS.out (FL.out h))).mono ?_)
      rintro e w' (⟨p, hp, rfl, hI', hC', hr'⟩ | ⟨hn, hse, hJ⟩)
      rotate_left
      · unfold Short at hse
        subst hse
        refine ⟨rfl, ?_⟩
        rw [FL.out hn]
        exact ⟨rfl, hJ⟩
      refine hKq.out _ _ trivial (fun _ => ?_)
      clear hKq Kq
      simp only [Act.put, ly1, ly2, ly3, ly4, ly5, ly6]
      refine wpAnyH_done (by kernel_rfl) ?_ _
      show K _ _
      refine hKK _ _ ?_
      have hM := HM.out
      have hG := G.out.2
      have hM1 := hM.hsh hp hG hI' hC' hr'
      have M1 := Lib.hid hM1
      clear hM hG hM1
      clear hp hI' hC' hr' hKK K FL G HM
      go_wp2
      go_roundw
      case rel =>
        refine ⟨k + 1, by omega, by simp, p.1, r1 ++ p.2, ?_⟩
        have := M1.out
        rw [← List.replicate_succ', show k * 8 + 8 = (k + 1) * 8 by omega] at this
        exact this
      case measure => simp [intOf]; omega
    · have hkc : k = c := by omega
      subst hkc
      have s1 : ¬ (k : Int) < (k : Int) := by omega
      go_wp2
      go_end0
      exact HM.out.all
end Go.Proofs.YtffaddefnpkcgaaGreatDoor

