/-
  Joined: U57, U58, U59.
-/
import Derived.Test.YtdggnmlhgglccaaVB
import Derived.Test.YtdggnmlhgglccaaVC
/-
  A coin is spent on both sides; things in memory apart from each other.
-/
namespace Go.Proofs.Ytdggnmlhgglccaa
open Go.RowKit
set_option maxRecDepth 100000
theorem twin_del {L : List Stp} {ps : List (List Int)} {cs : List Cn} (h : Twin L ps cs) (hL : okS L) {p : List Int} (hp : okP p) {c : Cn} (hc : setF L p = some c) : hasP ps p = true ∧ cs.getD (idxP ps p) cn0 = c ∧ Twin (⟨p, c, true⟩ :: L) (delP ps p) (delC ps cs p) := by
  have hh : hasP ps p = true := by rw [h.has hL hp, hc]; rfl
  have hlt := has_lt hp hh
  have hget : ps.getD (idxP ps p) [] = p := by
    unfold hasP at hh
    rwa [decide_eq_true_eq] at hh
  obtain ⟨hl, h2, _, _⟩ := h.at' hL hlt
  rw [hget, hc] at h2
  have he : ps[idxP ps p] = p := by
    rw [List.getD_eq_getElem?_getD, List.getElem?_eq_getElem hlt] at hget
    exact hget
  have hd : ps.drop (idxP ps p) = p :: ps.drop (idxP ps p + 1) := by rw [List.drop_eq_getElem_cons hlt, he]
  have hps : ps = ps.take (idxP ps p) ++ p :: ps.drop (idxP ps p + 1) := by rw [← hd, List.take_append_drop]
  have nd := h.ord.nd
  rw [hps] at nd
  obtain ⟨n1, n2, n3⟩ := List.nodup_append.1 nd
  obtain ⟨n4, n5⟩ := List.nodup_cons.1 n2
  have ht : p ∉ ps.take (idxP ps p) := fun hm => n3 p hm p (by simp) rfl
  have hsub : (delP ps p).Sublist ps := by
    unfold delP
    conv => rhs; rw [hps]
    exact (List.Sublist.refl _).append (List.sublist_cons_self _ _)
  have eK : setK ((⟨p, c, true⟩ : Stp) :: L) = (setK L).filter (fun q => decide (q ≠ p)) := rfl
  have eF : setF ((⟨p, c, true⟩ : Stp) :: L) = updC (setF L) p none := setF_del rfl
  refine ⟨hh, (Option.some.inj h2).symm, ⟨h.ord.nd.sublist hsub, fun q => ?_, h.ord.lt.sublist hsub⟩, ?_⟩
  · rw [eK, List.mem_filter, ← h.ord.mem q]
    have hq : q ∈ ps ↔ q ∈ ps.take (idxP ps p) ∨ q = p ∨ q ∈ ps.drop (idxP ps p + 1) := by
      conv => lhs; rw [hps]
      rw [List.mem_append, List.mem_cons]
    rw [hq]
    unfold delP
    rw [List.mem_append]
    simp only [decide_eq_true_eq]
    constructor
    · rintro (a | a)
      · exact ⟨.inl a, fun e => ht (e ▸ a)⟩
      · exact ⟨.inr (.inr a), fun e => n4 (e ▸ a)⟩
    · rintro ⟨a | a | a, b⟩
      · exact .inl a
      · exact absurd a b
      · exact .inr a
  · unfold delC delP
    rw [eF, List.map_append, map_upd ht, map_upd n4, h.co, ← List.map_take, ← List.map_drop]
theorem Twin.fine {L : List Stp} {ps : List (List Int)} {cs : List Cn} (h : Twin L ps cs) (hL : okS L) : Fine cs := by
  have I := inv_of hL
  refine ⟨fun c hc => ?_, by rw [(h.tot hL).1]; exact I.mx⟩
  rw [h.co] at hc
  obtain ⟨p, hp, rfl⟩ := List.mem_map.1 hc
  cases e : setF L p with
  | none => show 0 ≤ amt cn0; rw [amt0]; exact Int.le_refl 0
  | some c => exact Int.le_of_lt (I.ok p c e).2.2
/-- a thing in memory: what it may write, what is said of it -/
structure Th where
  F : Nat → Prop
  T : World → Prop
  lt : ∀ w, T w → ∀ q, F q → q < w.heap.size
  keep : ∀ w w', T w → (∀ q, F q → w'.heap[q]? = w.heap[q]?) → w.heap.size ≤ w'.heap.size → T w'
/-- things apart from each other, above N -/
structure Sep (N : Nat) (w0 w : World) (ts : List Th) : Prop where
  bel : Below N w0 w
  sz : N ≤ w.heap.size
  t : ∀ t ∈ ts, t.T w
  lo : ∀ t ∈ ts, ∀ q, t.F q → N ≤ q
  ap : ts.Pairwise fun a b => ∀ q, a.F q → ¬ b.F q
theorem Sep.grow {N : Nat} {w0 w w' : World} {ts : List Th} (h : Sep N w0 w ts) (hb : Below w.heap.size w w') : Sep N w0 w' ts :=
  ⟨h.bel.trans (hb.mono h.sz), Nat.le_trans h.sz hb.size, fun t ht => t.keep w w' (h.t t ht) (fun q hq => hb.block q (t.lt w (h.t t ht) q hq)) hb.size, h.lo, h.ap⟩
/-- one of them turns -/
theorem Sep.turn {N : Nat} {w0 w w' : World} (l1 l2 : List Th) (t : Th) {t' : Th} (h : Sep N w0 w (l1 ++ t :: l2)) (ht : t'.T w') (hF : ∀ q, t'.F q → t.F q ∨ w.heap.size ≤ q) (hf : Fr w w' t.F) : Sep N w0 w' (l1 ++ t' :: l2) := by
  obtain ⟨p1, p2, p3⟩ := List.pairwise_append.1 h.ap
  obtain ⟨p4, p5⟩ := List.pairwise_cons.1 p2
  have lt : ∀ s ∈ l1 ++ t :: l2, ∀ q, s.F q → q < w.heap.size := fun s hs q hq => s.lt w (h.t s hs) q hq
  have m1 : ∀ s ∈ l1, s ∈ l1 ++ t :: l2 := fun s hs => List.mem_append.2 (.inl hs)
  have m2 : ∀ s ∈ l2, s ∈ l1 ++ t :: l2 := fun s hs => List.mem_append.2 (.inr (List.mem_cons_of_mem _ hs))
  have mt : t ∈ l1 ++ t :: l2 := List.mem_append.2 (.inr (by simp))
  have k1 : ∀ s ∈ l1, s.T w' := fun s hs => s.keep w w' (h.t s (m1 s hs)) (fun q hq => hf.block q (lt s (m1 s hs) q hq) fun e => p3 s hs t (by simp) q hq e) hf.size
  have k2 : ∀ s ∈ l2, s.T w' := fun s hs => s.keep w w' (h.t s (m2 s hs)) (fun q hq => hf.block q (lt s (m2 s hs) q hq) fun e => p4 s hs q e hq) hf.size
  refine ⟨h.bel.trans (hf.below h.sz (h.lo t mt)), Nat.le_trans h.sz hf.size, fun s hs => ?_, fun s hs q hq => ?_, ?_⟩
  · rcases List.mem_append.1 hs with hs | hs
    · exact k1 s hs
    · rcases List.mem_cons.1 hs with rfl | hs
      · exact ht
      · exact k2 s hs
  · rcases List.mem_append.1 hs with hs | hs
    · exact h.lo s (m1 s hs) q hq
    · rcases List.mem_cons.1 hs with rfl | hs
      · exact (hF q hq).elim (h.lo t mt q) fun e => Nat.le_trans h.sz e
      · exact h.lo s (m2 s hs) q hq
  · refine List.pairwise_append.2 ⟨p1, List.pairwise_cons.2 ⟨fun s hs q hq e => ?_, p5⟩, fun a ha b hb q hq e => ?_⟩
    · rcases hF q hq with g | g
      · exact p4 s hs q g e
      · have := lt s (m2 s hs) q e; omega
    · rcases List.mem_cons.1 hb with rfl | hb
      · rcases hF q e with g | g
        · exact p3 a ha t (by simp) q hq g
        · have := lt a (m1 a ha) q hq; omega
      · exact p3 a ha b (List.mem_cons_of_mem _ hb) q hq e
def thSet (S : Nat) (L : List Stp) (P : Nat → Prop) : Th := ⟨P, fun w => SetIs w S L P, fun _ h => h.plt, fun _ _ h hb hs => h.keep hb hs⟩
def thCo (B : Nat) (ps : List (List Int)) (cs : List Cn) (Q : Nat → Prop) : Th := ⟨Q, fun w => CoIs w B ps cs Q, fun _ h => h.plt, fun _ _ h hb hs => h.keep hb hs⟩
def thRow (v : Value) (t n : Nat) (xs : List Value) : Th := ⟨fun q => v.ownBlock = some q, fun w => w.ownsRow 0 t 1 v n xs, fun _ h _ hq => (own_blk h hq).2, fun _ _ h hb _ => row_keepO h hb⟩
/-- a copy that was kept -/
structure HC where
  B : Nat
  ps : List (List Int)
  cs : List Cn
  Q : Nat → Prop
def thHist (H : List HC) : Th := ⟨fun q => ∃ h ∈ H, h.Q q, fun w => ∀ h ∈ H, CoIs w h.B h.ps h.cs h.Q, fun _ h _ ⟨x, hx, hq⟩ => (h x hx).plt _ hq, fun _ _ h hb hs x hx => (h x hx).keep (fun q hq => hb q ⟨x, hx, hq⟩) hs⟩
/-- one more element of one cell -/
theorem wpList_ap1 {sl t : TypeId} {z : Value} {by' : Nat} (hu : Try.prog.underlying sl = some (.slice t)) (hi : (Try.prog.info? t).map (fun i => (i.zero, i.size, i.bytes)) = some (some z, 1, by')) (hz : z.cells.size = 1) (hb' : by' ≤ 1000) {w : World} {ops : Array Oper} {rest : List Oper} {o : Oper} {a : Act} {Q : Exit → Act → World → Prop} (hgd : o.guard = none) (s x : Operand)
    (ho : o.op = .call { callee := .builtin .append, args := #[s, x], argTypes := #[sl, sl] })
    (v : Value) (n : Nat) (xs : List Value) (hv : a.eval s = v) (hown : w.ownsRow 0 t 1 v n xs) (g c : Nat) (y : Value) (hx : a.eval x = .slice (some ⟨g, 0, none⟩) 1 c) (hb : w.heap[g]? = some (.cells #[y] t (0, 0))) (hy : y.oneCell' = true)
    (hn : n ≤ 65536)
    (hK : ∀ A' c' w', w'.ownsRow 0 t 1 (.slice A' (n + 1) c') (n + 1) (xs ++ [y]) → Fr w w' (fun q => v.ownBlock = some q) → (∀ q, (Value.slice A' (n + 1) c').ownBlock = some q → v.ownBlock = some q ∨ w.heap.size ≤ q) → wpList Try.prog ops Q rest (a.put o.dst (.slice A' (n + 1) c')) w') : wpList Try.prog ops Q (o :: rest) a w := by
  obtain ⟨i, hi, hz', h1, h2⟩ := info_parts hi
  refine wpList_append_own_at w hgd s x sl ho 0 t i z 1 by' hu hi hz' h1 h2 hz (by decide) v n xs hv hown ⟨g, 0, none⟩ 1 c [y] hx rfl ?_ (fun u hu => by rw [List.mem_singleton.1 hu]; exact hy) (by unfold maxLen; omega) (Nat.le_trans (Nat.mul_le_mul (show n + 1 ≤ 65537 by omega) hb') (by decide)) (Nat.zero_le _) ?_
  · intro j u hj
    rw [Addr.add_mid, cell_of_row w g (0 + j) _ t (0, 0) hb, ← hj]
    simp
  · intro v' w' hown' hg _ hq
    obtain ⟨A', c', rfl⟩ := own_sl hown'
    refine hK A' c' w' hown' ⟨hg.os, hg.tape, hg.output, hg.size, fun q hlt hne => hg.block q hlt fun e => hne e.symm⟩ fun q hq' => ?_
    rcases hq with e | e
    · exact .inl (by rw [← e]; exact hq')
    · rw [e] at hq'
      cases hq'
      exact .inr (Nat.le_refl _)
/-- an element of a row of one's own is read -/
theorem row_get1 {w : World} {t n : Nat} {v : Value} {xs : List Value} (h : w.ownsRow 0 t 1 v n xs) {k : Nat} (hk : k < n) : ∃ g c, v = .slice (some ⟨g, 0, none⟩) n c ∧ n ≤ c ∧ w.cell? ⟨g, k, none⟩ = xs[k]? := by
  rcases h.2 with ⟨_, e⟩ | ⟨g, c, cur, e1, _, h3, h4, h5, h6, h7⟩
  · omega
  · refine ⟨g, c, e1, h4, ?_⟩
    rw [cell_of_row w g k _ _ _ h3, ← h7, List.getElem?_take_of_lt (by omega)]
    simp
/-- a row is cut to its first elements -/
theorem row_cut1 {w : World} {t n k g c : Nat} {xs : List Value} (h : w.ownsRow 0 t 1 (.slice (some ⟨g, 0, none⟩) n c) n xs) (hk : k ≤ n) : w.ownsRow 0 t 1 (.slice (some ⟨g, 0, none⟩) k c) k (xs.take k) := by
  rcases h.2 with ⟨e, _⟩ | ⟨g', c', cur, e1, h2, h3, h4, h5, h6, h7⟩
  · cases e
  · injection e1 with a1 a2 a3
    cases a1
    subst a3
    refine ⟨by rw [List.length_take, h.1]; omega, .inr ⟨g, c, cur, rfl, h2, h3, by omega, h5, h6, ?_⟩⟩
    rw [← h7, List.take_take, Nat.min_eq_left (by omega), Nat.mul_one]
theorem infoPtr : (Try.prog.info? 26).map (fun i => (i.zero, i.size, i.bytes)) = some (some (.pointer none), 1, 8) := by kernel_rfl
theorem infoInt : (Try.prog.info? 3).map (fun i => (i.zero, i.size, i.bytes)) = some (some (.int .i64 0), 1, 8) := by kernel_rfl
theorem row_one {w : World} {t g : Nat} {y : Value} (h : w.heap[g]? = some (.cells #[y] t (0, 0))) : w.ownsRow 0 t 1 (.slice (some ⟨g, 0, none⟩) 1 1) 1 [y] :=
  ⟨rfl, .inr ⟨g, 1, #[y], rfl, Nat.zero_le _, h, Nat.le_refl _, by decide, rfl, rfl⟩⟩
end Go.Proofs.Ytdggnmlhgglccaa

/-
  UtxoPlays without the walk: six things apart from each other.
-/
namespace Go.Proofs.Ytdggnmlhgglccaa
open Go.RowKit
set_option maxRecDepth 100000
section
variable {N : Nat} {w0 w w' : World} {a b c d e f g t' : Th} {l : List Th}
theorem Sep.g0 (h : Sep N w0 w (a :: l)) : a.T w := h.t a (by simp)
theorem Sep.g1 (h : Sep N w0 w (a :: b :: l)) : b.T w := h.t b (by simp)
theorem Sep.g2 (h : Sep N w0 w (a :: b :: c :: l)) : c.T w := h.t c (by simp)
theorem Sep.g3 (h : Sep N w0 w (a :: b :: c :: d :: l)) : d.T w := h.t d (by simp)
theorem Sep.g4 (h : Sep N w0 w (a :: b :: c :: d :: e :: l)) : e.T w := h.t e (by simp)
theorem Sep.g5 (h : Sep N w0 w (a :: b :: c :: d :: e :: f :: l)) : f.T w := h.t f (by simp)
theorem Sep.g6 (h : Sep N w0 w (a :: b :: c :: d :: e :: f :: g :: l)) : g.T w := h.t g (by simp)
theorem Sep.t0 (h : Sep N w0 w (a :: l)) (ht : t'.T w') (hF : ∀ q, t'.F q → a.F q ∨ w.heap.size ≤ q) (hf : Fr w w' a.F) : Sep N w0 w' (t' :: l) := h.turn [] l a ht hF hf
theorem Sep.t1 (h : Sep N w0 w (a :: b :: l)) (ht : t'.T w') (hF : ∀ q, t'.F q → b.F q ∨ w.heap.size ≤ q) (hf : Fr w w' b.F) : Sep N w0 w' (a :: t' :: l) := h.turn [a] l b ht hF hf
theorem Sep.t2 (h : Sep N w0 w (a :: b :: c :: l)) (ht : t'.T w') (hF : ∀ q, t'.F q → c.F q ∨ w.heap.size ≤ q) (hf : Fr w w' c.F) : Sep N w0 w' (a :: b :: t' :: l) := h.turn [a, b] l c ht hF hf
theorem Sep.t3 (h : Sep N w0 w (a :: b :: c :: d :: l)) (ht : t'.T w') (hF : ∀ q, t'.F q → d.F q ∨ w.heap.size ≤ q) (hf : Fr w w' d.F) : Sep N w0 w' (a :: b :: c :: t' :: l) := h.turn [a, b, c] l d ht hF hf
theorem Sep.t4 (h : Sep N w0 w (a :: b :: c :: d :: e :: l)) (ht : t'.T w') (hF : ∀ q, t'.F q → e.F q ∨ w.heap.size ≤ q) (hf : Fr w w' e.F) : Sep N w0 w' (a :: b :: c :: d :: t' :: l) := h.turn [a, b, c, d] l e ht hF hf
theorem Sep.t5 (h : Sep N w0 w (a :: b :: c :: d :: e :: f :: l)) (ht : t'.T w') (hF : ∀ q, t'.F q → f.F q ∨ w.heap.size ≤ q) (hf : Fr w w' f.F) : Sep N w0 w' (a :: b :: c :: d :: e :: t' :: l) := h.turn [a, b, c, d, e] l f ht hF hf
end
theorem Sep.push {N : Nat} {w0 w w' : World} {ts : List Th} (h : Sep N w0 w ts) (t : Th) (ht : t.T w') (hb : Below w.heap.size w w') (hF : ∀ q, t.F q → w.heap.size ≤ q) : Sep N w0 w' (ts ++ [t]) := by
  have g := h.grow hb
  refine ⟨g.bel, g.sz, fun s hs => ?_, fun s hs q hq => ?_, List.pairwise_append.2 ⟨g.ap, List.pairwise_singleton _ _, fun s hs u hu q hq e => ?_⟩⟩
  · rcases List.mem_append.1 hs with hs | hs
    · exact g.t s hs
    · rw [List.mem_singleton.1 hs]; exact ht
  · rcases List.mem_append.1 hs with hs | hs
    · exact g.lo s hs q hq
    · rw [List.mem_singleton.1 hs] at hq; exact Nat.le_trans h.sz (hF q hq)
  · rw [List.mem_singleton.1 hu] at e
    have := s.lt w (h.t s hs) q hq
    have := hF q e
    omega
theorem Sep.pop {N : Nat} {w0 w : World} {ts : List Th} {t : Th} (h : Sep N w0 w (ts ++ [t])) : Sep N w0 w ts :=
  ⟨h.bel, h.sz, fun s hs => h.t s (List.mem_append.2 (.inl hs)), fun s hs => h.lo s (List.mem_append.2 (.inl hs)), (List.pairwise_append.1 h.ap).1⟩
theorem Sep.pop6 {N : Nat} {w0 w : World} {a b c d e f g : Th} (h : Sep N w0 w [a, b, c, d, e, f, g]) : Sep N w0 w [a, b, c, d, e, f] := Sep.pop (ts := [a, b, c, d, e, f]) h
theorem Sep.push6 {N : Nat} {w0 w w' : World} {a b c d e f : Th} (h : Sep N w0 w [a, b, c, d, e, f]) (t : Th) (ht : t.T w') (hb : Below w.heap.size w w') (hF : ∀ q, t.F q → w.heap.size ≤ q) : Sep N w0 w' [a, b, c, d, e, f, t] := h.push t ht hb hF
def thBlk (X : Nat) (cs : List Value) (T : TypeId) : Th := ⟨fun q => q = X, fun w => BL w X cs T, fun _ h _ hq => hq ▸ bl_lt h, fun _ _ h hb _ => bl_keep h (hb X rfl)⟩
def mI (ms : List Nat) : List Value := ms.map fun m : Nat => Value.int .i64 (m : Int)
theorem mI_snoc (ms : List Nat) (m : Nat) : mI (ms ++ [m]) = mI ms ++ [.int .i64 (m : Int)] := by simp [mI]
theorem mI_get {ms : List Nat} {k : Nat} (hk : k < ms.length) : (mI ms)[k]? = some (.int .i64 ((ms.getD k 0 : Nat) : Int)) := by
  unfold mI
  rw [List.getElem?_map, List.getElem?_eq_getElem hk, List.getD_eq_getElem?_getD, List.getElem?_eq_getElem hk]
  rfl
def hV (H : List HC) : List Value := H.map fun h => Value.pointer (some ⟨h.B, 0, none⟩)
theorem hV_snoc (H : List HC) (h : HC) : hV (H ++ [h]) = hV H ++ [.pointer (some ⟨h.B, 0, none⟩)] := by simp [hV]
theorem hV_take (H : List HC) (k : Nat) : (hV H).take k = hV (H.take k) := by simp [hV, List.map_take]
def hc0 : HC := ⟨0, [], [], fun _ => False⟩
theorem hV_get {H : List HC} {k : Nat} (hk : k < H.length) : (hV H)[k]? = some (.pointer (some ⟨(H.getD k hc0).B, 0, none⟩)) := by
  unfold hV
  rw [List.getElem?_map, List.getElem?_eq_getElem hk, List.getD_eq_getElem?_getD, List.getElem?_eq_getElem hk]
  rfl
/-- what was kept is what there was -/
structure HistOk (L : List Stp) (H : List HC) : Prop where
  len : H.length = L.length + 1
  tw : ∀ j, j ≤ L.length → Twin (L.drop (L.length - j)) (H.getD j hc0).ps (H.getD j hc0).cs
theorem hist_start (h : HC) (t : Twin [] h.ps h.cs) : HistOk [] [h] := ⟨rfl, fun j hj => by
  have : j = 0 := by simpa using hj
  subst this
  exact t⟩
theorem hist_push {L : List Stp} {H : List HC} (h : HistOk L H) (x : Stp) (n : HC) (t : Twin (x :: L) n.ps n.cs) : HistOk (x :: L) (H ++ [n]) := by
  refine ⟨by rw [List.length_append, h.len]; rfl, fun j hj => ?_⟩
  rw [List.length_cons] at hj
  by_cases hl : j ≤ L.length
  · have e1 : (H ++ [n]).getD j hc0 = H.getD j hc0 := by
      rw [List.getD_eq_getElem?_getD, List.getElem?_append_left (by rw [h.len]; omega), List.getD_eq_getElem?_getD]
    rw [e1, List.length_cons, show L.length + 1 - j = (L.length - j) + 1 by omega, List.drop_succ_cons]
    exact h.tw j hl
  · have hj2 : j = L.length + 1 := by omega
    have e1 : (H ++ [n]).getD j hc0 = n := by
      rw [List.getD_eq_getElem?_getD, List.getElem?_append_right (by rw [h.len]; omega), h.len, hj2, Nat.sub_self]
      rfl
    rw [e1, List.length_cons, hj2, Nat.sub_self]
    exact t
theorem hist_cut {L : List Stp} {H : List HC} (h : HistOk L H) {u : Nat} (hu : u ≤ L.length) : HistOk (L.drop (L.length - u)) (H.take (u + 1)) := by
  have hl : (L.drop (L.length - u)).length = u := by rw [List.length_drop]; omega
  refine ⟨by rw [List.length_take, h.len, hl]; omega, fun j hj => ?_⟩
  rw [hl] at hj
  have e1 : (H.take (u + 1)).getD j hc0 = H.getD j hc0 := by
    rw [List.getD_eq_getElem?_getD, List.getElem?_take_of_lt (by omega), List.getD_eq_getElem?_getD]
  rw [e1, hl, List.drop_drop, show L.length - u + (u - j) = L.length - j by omega]
  exact h.tw j (by omega)
theorem dV_one (d : Dd) : ∀ u ∈ dV d, u.oneCell' = true := by
  intro u hu
  unfold dV at hu
  rcases List.mem_cons.1 hu with rfl | hu
  · rfl
  · rcases List.mem_cons.1 hu with rfl | hu
    · rfl
    · rcases List.mem_append.1 hu with hu | hu
      · exact vals_one _ _ u hu
      · exact cn_one d.c u hu
theorem szD44 : (Try.prog.info? 44).map (·.size) = some 22 := by kernel_rfl
theorem z44 (w : World) : (zeroValue 44).run Try.prog w = .ok (.agg (dV d0).toArray) w := by kernel_rfl
theorem dd_cells {w : World} {X : Nat} {d : Dd} {T : TypeId} (hd : d.ok) (h : BL w X (dV d) T) : w.cell? ⟨X, 0, none⟩ = some (.int .i64 d.d) ∧ w.cell? ⟨X, 1, none⟩ = some (.int .i64 d.n) ∧ w.rangeAt X 2 (ptV d.p) ∧ w.rangeAt X 11 (cnV d.c) := by
  have r := range_of h
  have h0 := r 0 (.int .i64 d.d) rfl
  have h1 := r 1 (.int .i64 d.n) rfl
  have h2 := dd_rng hd r
  rw [Nat.zero_add] at h0 h1
  exact ⟨h0, h1, by simpa using h2.1, by simpa using h2.2⟩
theorem may_dec {L : List Stp} {ps : List (List Int)} {cs : List Cn} (h : Twin L ps cs) (hL : okS L) {p : List Int} (hp : okP p) (x : Cn) : decide (cMay ps cs p x) = decide (mayAdd L p x) := decide_eq_decide.2 (h.may hL hp x)
theorem Twin.len {L : List Stp} {ps : List (List Int)} {cs : List Cn} (h : Twin L ps cs) (hL : okS L) : ps.length ≤ L.length := by
  rw [(h.tot hL).2]; exact setN_le L
/-- the index of a mark -/
theorem idx_mod (n : Int) (K : Nat) (hK : 0 < K) (hK2 : K ≤ 1000) : ∃ k : Nat, k < K ∧ (wrap64 (n.tmod (K : Int) + (K : Int))).tmod (K : Int) = (k : Int) := by
  have h1 : -(K : Int) < n.tmod (K : Int) := by
    have := Int.lt_tmod_of_pos n (show (0 : Int) < (K : Int) by omega)
    omega
  have h2 : n.tmod (K : Int) < (K : Int) := Int.tmod_lt_of_pos n (by omega)
  obtain ⟨m, hm⟩ : ∃ m, n.tmod (K : Int) = m := ⟨_, rfl⟩
  rw [hm] at h1 h2 ⊢
  have hw : wrap64 (m + (K : Int)) = m + (K : Int) := by unfold wrap64; omega
  rw [hw, Int.tmod_eq_emod_of_nonneg (by omega)]
  have h3 := Int.emod_nonneg (m + (K : Int)) (show (K : Int) ≠ 0 by omega)
  have h4 := Int.emod_lt_of_pos (m + (K : Int)) (show (0 : Int) < (K : Int) by omega)
  exact ⟨((m + (K : Int)) % (K : Int)).toNat, by omega, by omega⟩
end Go.Proofs.Ytdggnmlhgglccaa

/-
  UtxoPlays: the walk.
-/
namespace Go.Proofs.Ytdggnmlhgglccaa
open Go.RowKit
set_option maxRecDepth 100000
theorem cell_range {w : World} {g k : Nat} {v : Value} (h : w.cell? ⟨g, k, none⟩ = some v) : w.rangeAt g k [v] := fun j u hj => by
  cases j with
  | zero => rw [Nat.add_zero, h]; exact hj
  | succ j => simp at hj
theorem hist_T {w : World} {H : List HC} {n : HC} (h : (thHist H).T w) (hn : CoIs w n.B n.ps n.cs n.Q) : (thHist (H ++ [n])).T w := fun x hx => by
  rcases List.mem_append.1 hx with hx | hx
  · exact h x hx
  · rw [List.mem_singleton.1 hx]; exact hn
theorem hist_F {w w' : World} {H : List HC} {n : HC} (_ : Below w.heap.size w w') (hn : ∀ q, n.Q q → w.heap.size ≤ q) : ∀ q, (thHist (H ++ [n])).F q → (thHist H).F q ∨ w.heap.size ≤ q := by
  rintro q ⟨x, hx, hq⟩
  rcases List.mem_append.1 hx with hx | hx
  · exact .inl ⟨x, hx, hq⟩
  · rw [List.mem_singleton.1 hx] at hq; exact .inr (hn q hq)
theorem Sep.hist2 {N : Nat} {w0 w w' : World} {a b c d f : Th} {l : List Th} {H : List HC} {L : List Stp} {B : Nat} {ps : List (List Int)} {cs : List Cn} {Q : Nat → Prop} (h : Sep N w0 w (a :: b :: c :: d :: thHist H :: f :: l)) (ht : Twin L ps cs) (hb : Below w.heap.size w w') (hn : CoIs w' B ps cs Q) (hq : ∀ q, Q q → w.heap.size ≤ q) : ∃ n : HC, n.B = B ∧ Twin L n.ps n.cs ∧ Sep N w0 w' (a :: b :: c :: d :: thHist (H ++ [n]) :: f :: l) :=
  ⟨⟨B, ps, cs, Q⟩, rfl, ht, h.t4 (hist_T ((h.grow hb).g4) hn) (hist_F hb hq) (Fr.of_below hb)⟩
theorem mI_nil' : mI [] = [] := rfl
theorem elP : Try.prog.elem 34 = 26 := by kernel_rfl
theorem szP1 (w : World) : (sizeOf (Try.prog.elem 34)).run Try.prog w = .ok 1 w := by kernel_rfl
attribute [local irreducible] ptV cnV zeros MapC stV ptsV csV wpQuiet dV mI hV
set_option maxHeartbeats 32000000 in
theorem qPlays (A0 : Option Addr) (n0 cap0 : Nat) (D : Nat → Dd) (w : World) (hd : DRow w A0 n0 D) (hok : ∀ i, (D i).ok) :
    Calls Try.prog 3 #[.slice A0 n0 cap0] w fun e w' => e = .returned (.bool true) ∧ Below w.heap.size w w' := by
  obtain ⟨N, hN⟩ : ∃ N, w.heap.size = N := ⟨_, rfl⟩
  have HN := Lib.hid hN
  have HD := Lib.hid hd
  have HOK := Lib.hid hok
  have AW := Lib.hid uAwake
  have CN := Lib.hid uNew
  rw [hN]
  clear hd hok
  go_enter Try.func3, Try.ntmps3
  go_upto_region 3 with (first
    | (go_at_call 7; refine (AW.out _).mono ?_; clear AW; rintro e w1 ⟨rfl, hb⟩; have B1 := Lib.hid hb; clear hb)
    | fail)
  have BW1 : Hid (Below N w w1) := Lib.hid (by rw [← HN.out]; exact B1.out)
  by_cases h80 : 80 < n0
  · have h80' : decide ((80 : Int) < (n0 : Int)) = true := decide_eq_true (by omega)
    go_wp2
    go_ret
    exact ⟨rfl, BW1.out⟩
  have H80 := Lib.hid h80
  have h80' : decide ((80 : Int) < (n0 : Int)) = false := decide_eq_false (by omega)
  clear h80
  go_upto_region 8 with (first
    | (go_at_call 8; refine (CN.out _).mono ?_; clear CN; rintro e w2 ⟨rfl, g1, g2⟩; have G1 := Lib.hid g1; have G2 := Lib.hid g2; clear g1 g2)
    | fail)
  have S2 : Hid (Sep N w w2 [thSet w1.heap.size [] (fun q => q = w1.heap.size)]) := Lib.hid (by
    have z := BW1.out.size
    have z2 := HN.out
    exact ⟨BW1.out.trans (G2.out.mono (by omega)), by have := G2.out.size; omega, fun t ht => by rw [List.mem_singleton.1 ht]; exact G1.out, fun t ht q hq => by rw [List.mem_singleton.1 ht] at hq; have hq : q = w1.heap.size := hq; omega, List.pairwise_singleton _ _⟩)
  obtain ⟨S, hS⟩ : ∃ S, w1.heap.size = S := ⟨_, rfl⟩
  rw [hS] at S2 ⊢
  have b3 : Below w2.heap.size w2 (w2.alloc (Obj.cells #[Value.slice none 0 0, Value.slice none 0 0] 30)) := (Below.refl _ w2).alloc (Nat.le_refl _) _
  have S3 : Hid (Sep N w (w2.alloc (Obj.cells #[Value.slice none 0 0, Value.slice none 0 0] 30)) [thSet S [] (fun q => q = S), thCo w2.heap.size [] [] (fun q => q = w2.heap.size), thRow (.slice none 0 0) 54 0 (mI []), thRow (.slice none 0 0) 3 0 (mI [])]) := Lib.hid (by
    have a := S2.out.push (thCo w2.heap.size [] [] (fun q => q = w2.heap.size)) (CoIs.nil _ _ (heap_alloc_last w2 _)) b3 (fun q hq => by have hq : q = w2.heap.size := hq; omega)
    have b := a.push (thRow (.slice none 0 0) 54 0 (mI [])) (by rw [mI_nil']; exact World.ownsRow_nil _ _ _ _) (Below.refl _ _) (fun q hq => by cases hq)
    exact b.push (thRow (.slice none 0 0) 3 0 (mI [])) (by rw [mI_nil']; exact World.ownsRow_nil _ _ _ _) (Below.refl _ _) (fun q hq => by cases hq))
  generalize w2.alloc (Obj.cells #[Value.slice none 0 0, Value.slice none 0 0] 30) = w3 at *
  generalize w2.heap.size = B0 at *
  clear b3 hS S2 G1 G2 B1 BW1 h80'
  have CC := Lib.hid (cCopy B0 [] [] (fun q => q = B0) w3 S3.out.g1 (by decide))
  go_upto_region 11 with (first
    | (go_at_call 9; refine CC.out.mono ?_; clear CC; rintro e w4 ⟨B4, Q4, rfl, k1, k2, k3⟩; have K1 := Lib.hid k1; have K2 := Lib.hid k2; have K3 := Lib.hid k3; clear k1 k2 k3)
    | fail)
  have S5 : Hid (Sep N w (w4.alloc (Obj.cells #[.pointer (some ⟨B4, 0, none⟩)] 26)) [thSet S [] (fun q => q = S), thCo B0 [] [] (fun q => q = B0), thRow (.slice none 0 0) 54 0 (mI []), thRow (.slice none 0 0) 3 0 (mI []), thHist [⟨B4, [], [], Q4⟩], thRow (.slice (some ⟨w4.heap.size, 0, none⟩) 1 1) 26 1 (hV [⟨B4, [], [], Q4⟩])]) := Lib.hid (by
    have a := S3.out.push (thHist [⟨B4, [], [], Q4⟩]) (fun x hx => by rw [List.mem_singleton.1 hx]; exact K1.out) K2.out (fun q ⟨x, hx, hq⟩ => by rw [List.mem_singleton.1 hx] at hq; exact K3.out q hq)
    exact a.push (thRow (.slice (some ⟨w4.heap.size, 0, none⟩) 1 1) 26 1 (hV [⟨B4, [], [], Q4⟩])) (by unfold hV; exact row_one (heap_alloc_last w4 _)) ((Below.refl _ w4).alloc (Nat.le_refl _) _) (fun q hq => by cases hq; exact Nat.le_refl _))
  have HO0 : Hid (HistOk [] [⟨B4, [], [], Q4⟩]) := Lib.hid (hist_start _ twin_nil)
  generalize w4.alloc (Obj.cells #[.pointer (some ⟨B4, 0, none⟩)] 26) = w5 at *
  generalize w4.heap.size = G4 at *
  clear S3 K1 K2 K3
  have hz44 : ∀ w, (zeroValue 44).run Try.prog w = .ok (.agg (dV d0).toArray) w := z44
  go_wp2
  go_loopw [4, 5, 6, 7, 8] (fun mv kv' av' pv' iv wr => ∃ (kv av pv : Value) (i : Nat) (L : List Stp) (B : Nat) (H : List HC) (ms : List Nat) (P : Nat → Prop) (ps : List (List Int)) (cs : List Cn) (Q : Nat → Prop), kv = kv' ∧ av = av' ∧ pv = pv' ∧ i ≤ n0 ∧ mv = .pointer (some ⟨B, 0, none⟩) ∧ iv = .int .i64 i ∧ Sep N w wr [thSet S L P, thCo B ps cs Q, thRow kv 54 ms.length (mI ms), thRow av 3 ms.length (mI ms), thHist H, thRow pv 26 H.length (hV H)] ∧ Twin L ps cs ∧ HistOk L H ∧ L.length ≤ i ∧ ms.length ≤ i) (fun _ _ _ _ iv _ => n0 - (intOf iv).toNat)
  case atStart => exact ⟨_, _, _, 0, [], B0, _, [], _, [], [], _, rfl, rfl, rfl, Nat.zero_le _, rfl, rfl, S5.out, twin_nil, HO0.out, Nat.le_refl _, Nat.le_refl _⟩
  case round =>
    clear S5 HO0
    obtain ⟨kv, av, pv, i, L, B, H, ms, P, ps, cs, Q, rfl, rfl, rfl, hi, rfl, rfl, hs, htw, hho, hl, hm⟩ := hrel
    have SR := Lib.hid hs
    have TW := Lib.hid htw
    have HO := Lib.hid hho
    have LL := Lib.hid hl
    have ML := Lib.hid hm
    clear hs htw hho hl hm
    by_cases hlt : i < n0
    · obtain ⟨b, o, rfl, hbN, hrow⟩ := row_deedU HN.out HD.out hlt
      have HDO := Lib.hid (HOK.out i)
      have ROW := Lib.hid (hrow wr SR.out.bel)
      generalize D i = d at *
      have HT : Hid (i < 80 ∧ i < n0) := Lib.hid ⟨by have := H80.out; omega, hlt⟩
      have IW : Hid (wrap64 ((i : Int) + 1) = ((i + 1 : Nat) : Int)) := Lib.hid (by have := HT.out; unfold wrap64; omega)
      have i1 : (i : Int) < (n0 : Int) := by omega
      have i0 : (0 : Int) ≤ (i : Int) := by omega
      clear hrow hi hlt hbN
      go_upto_region 15 with (first
        | (refine wpList_load_midG (by rfl) 44 (.tmp 38) rfl b (o + i * 22) rfl (dV d) _ ROW.out Try.underlying44 rfl (szL szD44 (dV_len HDO.out)) ?_)
        | (refine wpList_store_rowTo rfl 44 (.tmp 9) (.tmp 39) rfl rfl wr.heap.size (dV d).toArray rfl rfl 44 _ (heap_alloc_last wr _) (szA szD44 (dV_len HDO.out)) (by rw [List.size_toArray, List.size_toArray, dV_len HDO.out, dV_len d0_ok]) (all_oneCell_toArray (dV_one _)) ?_)
        | fail)
      have SV : Hid (Sep N w ((wr.alloc (Obj.cells (dV d0).toArray 44)).setRow wr.heap.size (dV d).toArray) [thSet S L P, thCo B ps cs Q, thRow kv 54 ms.length (mI ms), thRow av 3 ms.length (mI ms), thHist H, thRow pv 26 H.length (hV H), thBlk wr.heap.size (dV d) 44]) := Lib.hid (SR.out.push6 (thBlk wr.heap.size (dV d) 44) (setRow_heap _ _ _ _ _ _ (heap_alloc_last wr _)) (below_setRow ((Below.refl _ wr).alloc (Nat.le_refl _) _) (Nat.le_refl _) _) (fun q hq => by have hq : q = wr.heap.size := hq; omega))
      generalize (wr.alloc (Obj.cells (dV d0).toArray 44)).setRow wr.heap.size (dV d).toArray = wv at *
      generalize wr.heap.size = XB at *
      clear ROW SR i0 i1 hz44
      have TWM : Hid (cMay ps cs d.p d.c ↔ mayAdd L d.p d.c) := Lib.hid (TW.out.may SV.out.g0.okL HDO.out.1 d.c)
      have a0 := (dd_cells HDO.out SV.out.g6).1
      obtain ⟨dd, hdd⟩ : ∃ z, d.d = z := ⟨_, rfl⟩
      rw [hdd] at a0
      clear hdd
      by_cases e0 : dd = 0
      · subst e0
        have dc := dd_cells HDO.out SV.out.g6
        have dc3 := Lib.hid dc.2.2.1
        have dc4 := Lib.hid dc.2.2.2
        clear dc
        have CA := cAdd SV.out.g1 HDO.out.1 HDO.out.2.1 (TW.out.fine SV.out.g0.okL) (by have := TW.out.len SV.out.g0.okL; have := LL.out; have := HT.out; omega)
        rw [may_dec TW.out SV.out.g0.okL HDO.out.1 d.c] at CA
        have TA := Lib.hid (twin_add TW.out SV.out.g0.okL HDO.out.1 d.c)
        have FA := Lib.hid (fine_if (ps := ps) (p := d.p) (x := d.c) (TW.out.fine SV.out.g0.okL))
        obtain ⟨ok, hok⟩ : ∃ b, decide (mayAdd L d.p d.c) = b := ⟨_, rfl⟩
        rw [hok] at CA
        have CA := Lib.hid CA
        go_upto_region 19 with (first
          | (refine wpList_load_midG (by rfl) 38 (.tmp 46) rfl XB 2 rfl (ptV d.p) _ dc3.out Try.underlying38 rfl (szP HDO.out.1) ?_)
          | (refine wpList_load_midG (by rfl) 42 (.tmp 48) rfl XB 11 rfl (cnV d.c) _ dc4.out Try.underlying42 rfl (szL i42c (cnV_len HDO.out.2.1.len)) ?_)
          | (go_at_call 10; refine CA.out.mono ?_; clear CA; rintro e w5 ⟨rfl, Q5, g1, g2, g3⟩; have S5 := Lib.hid (SV.out.t1 (t' := thCo B _ _ Q5) g1 g2 g3); clear g1 g2 g3)
          | fail)
        have HL1 : Hid (L.length < 1000) := Lib.hid (by have := LL.out; have := HT.out; omega)
        clear SV dc3 dc4
        refine wp_region_held_drew (S := fun W : World => BL W XB (dV d) 44) (by kernel_rfl) (S5.out.grow (Below.refl _ w5).drew).g6 (fun hHeld => ?_)
        refine wpAnyH_take (i := 0) (v := ?_) rfl (by kernel_rfl) (by kernel_rfl) (by kernel_rfl) (fun _ _ _ h => h) (Or.inl ⟨by rfl, ?_⟩) (by assumption) ?_
        rotate_left
        · (intro w hSw; (try dsimp only at hSw); go_simp; try with_reducible rfl)
        simp only [Act.put, List.getElem_toArray, List.getElem_cons_zero, List.setIfInBounds_toArray, List.set_cons_zero, List.set_cons_succ]
        refine wpAnyH_take (i := 1) (v := ?_) rfl (by kernel_rfl) (by kernel_rfl) (by kernel_rfl) (fun _ _ _ h => h) (Or.inl ⟨by rfl, ?_⟩) (by assumption) ?_
        rotate_left
        · (intro w hSw; (try dsimp only at hSw); go_simp; try with_reducible rfl)
        simp only [Act.put, List.getElem_toArray, List.getElem_cons_succ, List.getElem_cons_zero, List.setIfInBounds_toArray, List.set_cons_zero, List.set_cons_succ]
        refine wpAnyH_take (i := 2) rfl (by kernel_rfl) (by kernel_rfl) (by kernel_rfl) (fun _ _ _ h => h) (yieldsIf_load_mid (by rfl) 38 (.tmp 52) rfl XB (2) rfl (ptV d.p) _ (fun w h => (dd_cells HDO.out h).2.2.1) Try.underlying38 rfl (szP HDO.out.1)) (by assumption) ?_
        simp only [Act.put, List.getElem_toArray, List.getElem_cons_succ, List.getElem_cons_zero, List.setIfInBounds_toArray, List.set_cons_zero, List.set_cons_succ]
        refine wpAnyH_take (i := 3) (v := ?_) rfl (by kernel_rfl) (by kernel_rfl) (by kernel_rfl) (fun _ _ _ h => h) (Or.inl ⟨by rfl, ?_⟩) (by assumption) ?_
        rotate_left
        · (intro w hSw; (try dsimp only at hSw); go_simp; try with_reducible rfl)
        simp only [Act.put, List.getElem_toArray, List.getElem_cons_succ, List.getElem_cons_zero, List.setIfInBounds_toArray, List.set_cons_zero, List.set_cons_succ]
        refine wpAnyH_take (i := 4) rfl (by kernel_rfl) (by kernel_rfl) (by kernel_rfl) (fun _ _ _ h => h) (yieldsIf_load_mid (by rfl) 42 (.tmp 54) rfl XB (11) rfl (cnV d.c) _ (fun w h => (dd_cells HDO.out h).2.2.2) Try.underlying42 rfl (szL i42c (cnV_len HDO.out.2.1.len))) (by assumption) ?_
        simp only [Act.put, List.getElem_toArray, List.getElem_cons_succ, List.getElem_cons_zero, List.setIfInBounds_toArray, List.set_cons_zero, List.set_cons_succ]
        refine wpAnyH_take (i := 7) (v := ?_) rfl (by kernel_rfl) (by kernel_rfl) (by kernel_rfl) (fun _ _ _ h => h) (Or.inl ⟨by rfl, ?_⟩) (by assumption) ?_
        rotate_left
        · (intro w hSw; (try dsimp only at hSw); go_simp; try with_reducible rfl)
        simp only [Act.put, List.getElem_toArray, List.getElem_cons_succ, List.getElem_cons_zero, List.setIfInBounds_toArray, List.set_cons_zero, List.set_cons_succ]
        refine wpAnyH_ready (rs := [5]) (by kernel_rfl) (by simp) ?_
        refine AllReadyH.cons rfl (fun K hK => ?_) AllReadyH.nil
        go_simp
        go_at_call 12
        refine (uCoin d.c _ HDO.out.2.1.len).mono ?_
        rintro e wy ⟨rfl, hba⟩
        have S6 := Lib.hid ((S5.out.grow (Below.refl _ w5).drew).grow hba)
        clear hba hHeld
        (try go_wp2_with fail)
        refine hK.out _ _ S6.out.g6 (fun hHeld => ?_)
        clear hK K
        (try simp only [Act.put, List.getElem_toArray, List.getElem_cons_succ, List.getElem_cons_zero, List.setIfInBounds_toArray, List.set_cons_zero, List.set_cons_succ])
        refine wpAnyH_ready (rs := [6]) (by kernel_rfl) (by simp) ?_
        refine AllReadyH.cons rfl (fun K hK => ?_) AllReadyH.nil
        go_simp
        go_at_call 11
        have CAS := uAddC S L P d.p d.c _ S6.out.g0 HDO.out.1 HDO.out.2.1 HL1.out
        rw [hok] at CAS
        refine CAS.mono ?_
        clear CAS
        rintro e wz ⟨rfl, P2, g1, g2, g3⟩
        have S7 := Lib.hid (S6.out.t0 (t' := thSet S _ P2) g1 g2 g3)
        clear g1 g2 g3 hHeld
        (try go_wp2_with fail)
        refine hK.out _ _ S7.out.g6 (fun hHeld => ?_)
        clear hK K
        (try simp only [Act.put, List.getElem_toArray, List.getElem_cons_succ, List.getElem_cons_zero, List.setIfInBounds_toArray, List.set_cons_zero, List.set_cons_succ])
        refine wpAnyH_take (i := 8) (v := ?_) rfl (by kernel_rfl) (by kernel_rfl) (by kernel_rfl) (fun _ _ _ h => h) (Or.inl ⟨by rfl, ?_⟩) (by assumption) ?_
        rotate_left
        · (intro w hSw; (try dsimp only at hSw); go_simp; try with_reducible rfl)
        simp only [Act.put, List.getElem_toArray, List.getElem_cons_succ, List.getElem_cons_zero, List.setIfInBounds_toArray, List.set_cons_zero, List.set_cons_succ]
        clear hHeld
        refine wpAnyH_done (by kernel_rfl) ?_ _
        clear S5 S6
        have HOKM := Lib.hid hok
        cases ok with
        | false =>
          have hno : ¬ mayAdd L d.p d.c := of_decide_eq_false HOKM.out
          have hno2 : ¬ cMay ps cs d.p d.c := fun g => hno ((TWM.out).1 g)
          rw [if_neg hno] at S7 TA
          rw [if_neg hno2, if_neg hno2] at S7 TA
          have LL2 : Hid (L.length ≤ i + 1) := Lib.hid (by have := LL.out; omega)
          have ML2 : Hid (ms.length ≤ i + 1) := Lib.hid (by have := ML.out; omega)
          clear hno hno2 hok
          have CSM := Lib.hid (uSame S B _ _ _ _ _ _ S7.out.g0 S7.out.g1 (TA.out.fine S7.out.g0.okL) TA.out (by have := LL2.out; have := HT.out; omega))
          go_wp2_with (first
            | (go_at_call 17; refine CSM.out.mono ?_; clear CSM; rintro e wy ⟨rfl, hb⟩; have SY := Lib.hid ((S7.out.grow hb).pop6); clear hb)
            | fail)
          go_roundw
          case rel => exact ⟨_, _, _, i + 1, _, _, _, _, _, _, _, _, rfl, rfl, rfl, HT.out.2, rfl, congrArg _ IW.out, SY.out, TA.out, HO.out, LL2.out, ML2.out⟩
          case measure => exact meas_up IW.out HT.out.2
        | true =>
          have hyes : mayAdd L d.p d.c := of_decide_eq_true HOKM.out
          have hyes2 : cMay ps cs d.p d.c := (TWM.out).2 hyes
          rw [if_pos hyes] at S7 TA
          rw [if_pos hyes2, if_pos hyes2] at S7 TA
          have LL2 : Hid ((⟨d.p, d.c, false⟩ :: L : List Stp).length ≤ i + 1) := Lib.hid (by rw [List.length_cons]; have := LL.out; omega)
          have ML2 : Hid (ms.length ≤ i + 1) := Lib.hid (by have := ML.out; omega)
          clear hyes hyes2 hok
          have CC := Lib.hid (cCopy B _ _ _ wz S7.out.g1 (by have := TA.out.len S7.out.g0.okL; have := LL2.out; have := HT.out; omega))
          go_upto_region 41 with (first
            | (go_at_call 9; refine CC.out.mono ?_; clear CC; rintro e w7 ⟨B7, Q7, rfl, k1, k2, k3⟩; have K1 := Lib.hid k1; have K2 := Lib.hid k2; have K3 := Lib.hid k3; clear k1 k2 k3; obtain ⟨n7, e7, t7, s7⟩ := S7.out.hist2 TA.out K2.out K1.out K3.out; subst e7; have TN := Lib.hid t7; have SA := Lib.hid s7; clear t7 s7; have SB := Lib.hid (SA.out.grow ((Below.refl w7.heap.size w7).alloc (Nat.le_refl _) (Obj.cells #[.pointer (some ⟨n7.B, 0, none⟩)] 26))))
            | (at_builtin; refine wpList_ap1 Try.underlying34 infoPtr rfl (by decide) rfl (.tmp 61) (.tmp 64) rfl pv H.length (hV H) rfl SB.out.g5 w7.heap.size 1 (.pointer (some ⟨n7.B, 0, none⟩)) rfl (heap_alloc_last w7 _) rfl (by have := HO.out.len; have := LL.out; have := HT.out; omega) ?_; intro A8 c8 w8 ho hf hF; have S8 := Lib.hid (SB.out.t5 (t' := thRow (.slice A8 (H.length + 1) c8) 26 (H ++ [n7]).length (hV (H ++ [n7]))) (by rw [hV_snoc, List.length_append]; exact ho) hF hf); clear ho hf hF)
            | fail)
          have HO2 := Lib.hid (hist_push HO.out ⟨d.p, d.c, false⟩ n7 TN.out)
          clear SA SB K1 K2 K3
          have CSM := Lib.hid (uSame S B _ _ _ _ _ _ S8.out.g0 S8.out.g1 (TA.out.fine S8.out.g0.okL) TA.out (by have := LL2.out; have := HT.out; omega))
          go_wp2_with (first
            | (go_at_call 17; refine CSM.out.mono ?_; clear CSM; rintro e wy ⟨rfl, hb⟩; have SY := Lib.hid ((S8.out.grow hb).pop6); clear hb)
            | fail)
          go_roundw
          case rel => exact ⟨_, _, _, i + 1, _, _, _, _, _, _, _, _, rfl, rfl, rfl, HT.out.2, rfl, congrArg _ IW.out, SY.out, TA.out, HO2.out, LL2.out, ML2.out⟩
          case measure => exact meas_up IW.out HT.out.2
      by_cases e1 : dd = 1
      · subst e1
        clear e0
        have dc := dd_cells HDO.out SV.out.g6
        have dc3 := Lib.hid dc.2.2.1
        have dc4 := Lib.hid dc.2.2.2
        clear dc
        have CA := cAdd SV.out.g1 HDO.out.1 HDO.out.2.1 (TW.out.fine SV.out.g0.okL) (by have := TW.out.len SV.out.g0.okL; have := LL.out; have := HT.out; omega)
        rw [may_dec TW.out SV.out.g0.okL HDO.out.1 d.c] at CA
        have TA := Lib.hid (twin_add TW.out SV.out.g0.okL HDO.out.1 d.c)
        have FA := Lib.hid (fine_if (ps := ps) (p := d.p) (x := d.c) (TW.out.fine SV.out.g0.okL))
        obtain ⟨ok, hok⟩ : ∃ b, decide (mayAdd L d.p d.c) = b := ⟨_, rfl⟩
        rw [hok] at CA
        have CA := Lib.hid CA
        go_upto_region 19 with (first
          | (refine wpList_load_midG (by rfl) 38 (.tmp 46) rfl XB 2 rfl (ptV d.p) _ dc3.out Try.underlying38 rfl (szP HDO.out.1) ?_)
          | (refine wpList_load_midG (by rfl) 42 (.tmp 48) rfl XB 11 rfl (cnV d.c) _ dc4.out Try.underlying42 rfl (szL i42c (cnV_len HDO.out.2.1.len)) ?_)
          | (go_at_call 10; refine CA.out.mono ?_; clear CA; rintro e w5 ⟨rfl, Q5, g1, g2, g3⟩; have S5 := Lib.hid (SV.out.t1 (t' := thCo B _ _ Q5) g1 g2 g3); clear g1 g2 g3)
          | fail)
        have HL1 : Hid (L.length < 1000) := Lib.hid (by have := LL.out; have := HT.out; omega)
        clear SV dc3 dc4
        refine wp_region_held_drew (S := fun W : World => BL W XB (dV d) 44) (by kernel_rfl) (S5.out.grow (Below.refl _ w5).drew).g6 (fun hHeld => ?_)
        refine wpAnyH_take (i := 0) (v := ?_) rfl (by kernel_rfl) (by kernel_rfl) (by kernel_rfl) (fun _ _ _ h => h) (Or.inl ⟨by rfl, ?_⟩) (by assumption) ?_
        rotate_left
        · (intro w hSw; (try dsimp only at hSw); go_simp; try with_reducible rfl)
        simp only [Act.put, List.getElem_toArray, List.getElem_cons_zero, List.setIfInBounds_toArray, List.set_cons_zero, List.set_cons_succ]
        refine wpAnyH_take (i := 1) (v := ?_) rfl (by kernel_rfl) (by kernel_rfl) (by kernel_rfl) (fun _ _ _ h => h) (Or.inl ⟨by rfl, ?_⟩) (by assumption) ?_
        rotate_left
        · (intro w hSw; (try dsimp only at hSw); go_simp; try with_reducible rfl)
        simp only [Act.put, List.getElem_toArray, List.getElem_cons_succ, List.getElem_cons_zero, List.setIfInBounds_toArray, List.set_cons_zero, List.set_cons_succ]
        refine wpAnyH_take (i := 2) rfl (by kernel_rfl) (by kernel_rfl) (by kernel_rfl) (fun _ _ _ h => h) (yieldsIf_load_mid (by rfl) 38 (.tmp 52) rfl XB (2) rfl (ptV d.p) _ (fun w h => (dd_cells HDO.out h).2.2.1) Try.underlying38 rfl (szP HDO.out.1)) (by assumption) ?_
        simp only [Act.put, List.getElem_toArray, List.getElem_cons_succ, List.getElem_cons_zero, List.setIfInBounds_toArray, List.set_cons_zero, List.set_cons_succ]
        refine wpAnyH_take (i := 3) (v := ?_) rfl (by kernel_rfl) (by kernel_rfl) (by kernel_rfl) (fun _ _ _ h => h) (Or.inl ⟨by rfl, ?_⟩) (by assumption) ?_
        rotate_left
        · (intro w hSw; (try dsimp only at hSw); go_simp; try with_reducible rfl)
        simp only [Act.put, List.getElem_toArray, List.getElem_cons_succ, List.getElem_cons_zero, List.setIfInBounds_toArray, List.set_cons_zero, List.set_cons_succ]
        refine wpAnyH_take (i := 4) rfl (by kernel_rfl) (by kernel_rfl) (by kernel_rfl) (fun _ _ _ h => h) (yieldsIf_load_mid (by rfl) 42 (.tmp 54) rfl XB (11) rfl (cnV d.c) _ (fun w h => (dd_cells HDO.out h).2.2.2) Try.underlying42 rfl (szL i42c (cnV_len HDO.out.2.1.len))) (by assumption) ?_
        simp only [Act.put, List.getElem_toArray, List.getElem_cons_succ, List.getElem_cons_zero, List.setIfInBounds_toArray, List.set_cons_zero, List.set_cons_succ]
        refine wpAnyH_take (i := 7) (v := ?_) rfl (by kernel_rfl) (by kernel_rfl) (by kernel_rfl) (fun _ _ _ h => h) (Or.inl ⟨by rfl, ?_⟩) (by assumption) ?_
        rotate_left
        · (intro w hSw; (try dsimp only at hSw); go_simp; try with_reducible rfl)
        simp only [Act.put, List.getElem_toArray, List.getElem_cons_succ, List.getElem_cons_zero, List.setIfInBounds_toArray, List.set_cons_zero, List.set_cons_succ]
        refine wpAnyH_ready (rs := [5]) (by kernel_rfl) (by simp) ?_
        refine AllReadyH.cons rfl (fun K hK => ?_) AllReadyH.nil
        go_simp
        go_at_call 12
        refine (uCoin d.c _ HDO.out.2.1.len).mono ?_
        rintro e wy ⟨rfl, hba⟩
        have S6 := Lib.hid ((S5.out.grow (Below.refl _ w5).drew).grow hba)
        clear hba hHeld
        (try go_wp2_with fail)
        refine hK.out _ _ S6.out.g6 (fun hHeld => ?_)
        clear hK K
        (try simp only [Act.put, List.getElem_toArray, List.getElem_cons_succ, List.getElem_cons_zero, List.setIfInBounds_toArray, List.set_cons_zero, List.set_cons_succ])
        refine wpAnyH_ready (rs := [6]) (by kernel_rfl) (by simp) ?_
        refine AllReadyH.cons rfl (fun K hK => ?_) AllReadyH.nil
        go_simp
        go_at_call 11
        have CAS := uAddC S L P d.p d.c _ S6.out.g0 HDO.out.1 HDO.out.2.1 HL1.out
        rw [hok] at CAS
        refine CAS.mono ?_
        clear CAS
        rintro e wz ⟨rfl, P2, g1, g2, g3⟩
        have S7 := Lib.hid (S6.out.t0 (t' := thSet S _ P2) g1 g2 g3)
        clear g1 g2 g3 hHeld
        (try go_wp2_with fail)
        refine hK.out _ _ S7.out.g6 (fun hHeld => ?_)
        clear hK K
        (try simp only [Act.put, List.getElem_toArray, List.getElem_cons_succ, List.getElem_cons_zero, List.setIfInBounds_toArray, List.set_cons_zero, List.set_cons_succ])
        refine wpAnyH_take (i := 8) (v := ?_) rfl (by kernel_rfl) (by kernel_rfl) (by kernel_rfl) (fun _ _ _ h => h) (Or.inl ⟨by rfl, ?_⟩) (by assumption) ?_
        rotate_left
        · (intro w hSw; (try dsimp only at hSw); go_simp; try with_reducible rfl)
        simp only [Act.put, List.getElem_toArray, List.getElem_cons_succ, List.getElem_cons_zero, List.setIfInBounds_toArray, List.set_cons_zero, List.set_cons_succ]
        clear hHeld
        refine wpAnyH_done (by kernel_rfl) ?_ _
        clear S5 S6
        have HOKM := Lib.hid hok
        cases ok with
        | false =>
          have hno : ¬ mayAdd L d.p d.c := of_decide_eq_false HOKM.out
          have hno2 : ¬ cMay ps cs d.p d.c := fun g => hno ((TWM.out).1 g)
          rw [if_neg hno] at S7 TA
          rw [if_neg hno2, if_neg hno2] at S7 TA
          have LL2 : Hid (L.length ≤ i + 1) := Lib.hid (by have := LL.out; omega)
          have ML2 : Hid (ms.length ≤ i + 1) := Lib.hid (by have := ML.out; omega)
          clear hno hno2 hok
          have CSM := Lib.hid (uSame S B _ _ _ _ _ _ S7.out.g0 S7.out.g1 (TA.out.fine S7.out.g0.okL) TA.out (by have := LL2.out; have := HT.out; omega))
          go_wp2_with (first
            | (go_at_call 17; refine CSM.out.mono ?_; clear CSM; rintro e wy ⟨rfl, hb⟩; have SY := Lib.hid ((S7.out.grow hb).pop6); clear hb)
            | fail)
          go_roundw
          case rel => exact ⟨_, _, _, i + 1, _, _, _, _, _, _, _, _, rfl, rfl, rfl, HT.out.2, rfl, congrArg _ IW.out, SY.out, TA.out, HO.out, LL2.out, ML2.out⟩
          case measure => exact meas_up IW.out HT.out.2
        | true =>
          have hyes : mayAdd L d.p d.c := of_decide_eq_true HOKM.out
          have hyes2 : cMay ps cs d.p d.c := (TWM.out).2 hyes
          rw [if_pos hyes] at S7 TA
          rw [if_pos hyes2, if_pos hyes2] at S7 TA
          have LL2 : Hid ((⟨d.p, d.c, false⟩ :: L : List Stp).length ≤ i + 1) := Lib.hid (by rw [List.length_cons]; have := LL.out; omega)
          have ML2 : Hid (ms.length ≤ i + 1) := Lib.hid (by have := ML.out; omega)
          clear hyes hyes2 hok
          have CC := Lib.hid (cCopy B _ _ _ wz S7.out.g1 (by have := TA.out.len S7.out.g0.okL; have := LL2.out; have := HT.out; omega))
          go_upto_region 41 with (first
            | (go_at_call 9; refine CC.out.mono ?_; clear CC; rintro e w7 ⟨B7, Q7, rfl, k1, k2, k3⟩; have K1 := Lib.hid k1; have K2 := Lib.hid k2; have K3 := Lib.hid k3; clear k1 k2 k3; obtain ⟨n7, e7, t7, s7⟩ := S7.out.hist2 TA.out K2.out K1.out K3.out; subst e7; have TN := Lib.hid t7; have SA := Lib.hid s7; clear t7 s7; have SB := Lib.hid (SA.out.grow ((Below.refl w7.heap.size w7).alloc (Nat.le_refl _) (Obj.cells #[.pointer (some ⟨n7.B, 0, none⟩)] 26))))
            | (at_builtin; refine wpList_ap1 Try.underlying34 infoPtr rfl (by decide) rfl (.tmp 61) (.tmp 64) rfl pv H.length (hV H) rfl SB.out.g5 w7.heap.size 1 (.pointer (some ⟨n7.B, 0, none⟩)) rfl (heap_alloc_last w7 _) rfl (by have := HO.out.len; have := LL.out; have := HT.out; omega) ?_; intro A8 c8 w8 ho hf hF; have S8 := Lib.hid (SB.out.t5 (t' := thRow (.slice A8 (H.length + 1) c8) 26 (H ++ [n7]).length (hV (H ++ [n7]))) (by rw [hV_snoc, List.length_append]; exact ho) hF hf); clear ho hf hF)
            | fail)
          have HO2 := Lib.hid (hist_push HO.out ⟨d.p, d.c, false⟩ n7 TN.out)
          clear SA SB K1 K2 K3
          have CSM := Lib.hid (uSame S B _ _ _ _ _ _ S8.out.g0 S8.out.g1 (TA.out.fine S8.out.g0.okL) TA.out (by have := LL2.out; have := HT.out; omega))
          go_wp2_with (first
            | (go_at_call 17; refine CSM.out.mono ?_; clear CSM; rintro e wy ⟨rfl, hb⟩; have SY := Lib.hid ((S8.out.grow hb).pop6); clear hb)
            | fail)
          go_roundw
          case rel => exact ⟨_, _, _, i + 1, _, _, _, _, _, _, _, _, rfl, rfl, rfl, HT.out.2, rfl, congrArg _ IW.out, SY.out, TA.out, HO2.out, LL2.out, ML2.out⟩
          case measure => exact meas_up IW.out HT.out.2
      by_cases e2 : dd = 2
      · subst e2
        clear e0 e1
        have dc := dd_cells HDO.out SV.out.g6
        have dc3 := Lib.hid dc.2.2.1
        clear dc
        have hz42 := z42
        have hz47 : ∀ w, (zeroValue 47).run Try.prog w = .ok (.agg (cnV cn0).toArray) w := z47
        have PSL : Hid (ps.length ≤ 1000) := Lib.hid (by have := TW.out.len SV.out.g0.okL; have := LL.out; have := HT.out; omega)
        cases hsf : setF L d.p with
        | none =>
          have HSF := Lib.hid hsf
          have hno : hasP ps d.p = false := by rw [TW.out.has SV.out.g0.okL HDO.out.1, hsf]; rfl
          have CA := Lib.hid (cSpendNo SV.out.g1 HDO.out.1 PSL.out hno)
          obtain ⟨x, hx⟩ : ∃ x, cn0 = x := ⟨_, rfl⟩
          have HC10 : Hid (x.r.length = 10) := Lib.hid (by rw [← hx]; exact cn0_len)
          have HXC := Lib.hid hx
          have LL2 : Hid (L.length ≤ i + 1) := Lib.hid (by have := LL.out; omega)
          have ML2 : Hid (ms.length ≤ i + 1) := Lib.hid (by have := ML.out; omega)
          clear hno hsf hx
          go_upto_region 25 with (first
            | (refine wpList_load_midG (by rfl) 38 (.tmp 70) rfl XB 2 rfl (ptV d.p) _ dc3.out Try.underlying38 rfl (szP HDO.out.1) ?_)
            | (go_at_call 13; refine CA.out.mono ?_; clear CA; rintro e w5 ⟨rfl, hb⟩; have S5 := Lib.hid (SV.out.grow hb); clear hb; try rw [HXC.out])
            | (refine wpList_store_rowTo rfl 42 (.tmp 11) (.tmp 73) rfl rfl w5.heap.size (cnV x).toArray rfl rfl 42 _ (heap_alloc_last w5 _) (szCA2 HC10.out) (szCC cn0_len HC10.out) (all_oneCell_toArray (cn_one x)) ?_)
            | fail)
          have R11 : Hid (BL ((w5.alloc (Obj.cells (cnV cn0).toArray 42)).setRow w5.heap.size (cnV x).toArray) w5.heap.size (cnV x) 42) := Lib.hid (setRow_heap _ _ _ _ _ _ (heap_alloc_last w5 _))
          have B6 : Hid (Below w5.heap.size w5 ((w5.alloc (Obj.cells (cnV cn0).toArray 42)).setRow w5.heap.size (cnV x).toArray)) := Lib.hid (below_setRow ((Below.refl _ w5).alloc (Nat.le_refl _) _) (Nat.le_refl _) _)
          have S6 := Lib.hid ((S5.out.grow B6.out))
          have N11 : Hid (w5.heap.size < ((w5.alloc (Obj.cells (cnV cn0).toArray 42)).setRow w5.heap.size (cnV x).toArray).heap.size) := Lib.hid (bl_lt R11.out)
          have P11 : Hid (¬ P w5.heap.size) := Lib.hid fun hp => by have := S5.out.g0.plt _ hp; omega
          generalize (w5.alloc (Obj.cells (cnV cn0).toArray 42)).setRow w5.heap.size (cnV x).toArray = w6 at *
          generalize w5.heap.size = X11 at *
          have HL1 : Hid (L.length < 1000) := Lib.hid (by have := LL.out; have := HT.out; omega)
          have dc := dd_cells HDO.out S6.out.g6
          have dc3 := Lib.hid dc.2.2.1
          clear dc B6 S5
          have CB := uSpend S L P d.p w6 S6.out.g0 HDO.out.1 HL1.out
          rw [HSF.out] at CB
          rw [show ((none : Option Cn).getD cn0) = x from HXC.out] at CB
          have CB : Hid (Calls Try.prog 14 #[.pointer (some ⟨S, 0, none⟩), .agg (ptV d.p).toArray] w6 fun e w' => e = .returned (.tuple #[.agg (cnV x).toArray, .bool false]) ∧ ∃ P', SetIs w' S (spendL L d.p) P' ∧ (∀ q, P' q → P q ∨ w6.heap.size ≤ q) ∧ Fr w6 w' P) := Lib.hid CB
          go_upto_region 26 with (first
            | (refine wpList_load_midG (by rfl) 38 (.tmp 77) rfl XB 2 rfl (ptV d.p) _ dc3.out Try.underlying38 rfl (szP HDO.out.1) ?_)
            | (go_at_call 14; refine CB.out.mono ?_; clear CB; rintro e w7 ⟨rfl, P7, g1, g2, g3⟩; have S7 := Lib.hid (S6.out.t0 (t' := thSet S _ P7) g1 g2 g3); have R117 : Hid (BL w7 X11 (cnV x) 42) := Lib.hid (bl_keep R11.out (g3.block X11 N11.out P11.out)); clear g1 g2 g3)
            | (refine wpList_store_rowTo rfl 47 (.tmp 13) (.tmp 80) rfl rfl w7.heap.size (cnV x).toArray rfl rfl 47 _ (heap_alloc_last w7 _) (szCA HC10.out) (szCC cn0_len HC10.out) (all_oneCell_toArray (cn_one x)) ?_)
            | fail)
          have R13 : Hid (BL ((w7.alloc (Obj.cells (cnV cn0).toArray 47)).setRow w7.heap.size (cnV x).toArray) w7.heap.size (cnV x) 47) := Lib.hid (setRow_heap _ _ _ _ _ _ (heap_alloc_last w7 _))
          have B8 : Hid (Below w7.heap.size w7 ((w7.alloc (Obj.cells (cnV cn0).toArray 47)).setRow w7.heap.size (cnV x).toArray)) := Lib.hid (below_setRow ((Below.refl _ w7).alloc (Nat.le_refl _) _) (Nat.le_refl _) _)
          have S9 := Lib.hid ((S7.out.grow B8.out))
          have R11b : Hid (BL ((w7.alloc (Obj.cells (cnV cn0).toArray 47)).setRow w7.heap.size (cnV x).toArray) X11 (cnV x) 42) := Lib.hid (bl_keep R117.out (B8.out.block X11 (bl_lt R117.out)))
          generalize (w7.alloc (Obj.cells (cnV cn0).toArray 47)).setRow w7.heap.size (cnV x).toArray = wb at *
          generalize w7.heap.size = X13 at *
          clear R11 N11 P11 S6 S7 B8 R117 dc3 hz42 hz47
          obtain ⟨X, hX⟩ : ∃ X, wb.heap.size = X := ⟨_, rfl⟩
          have HXX := Lib.hid hX
          have BXX : Hid (Below X wb wb) := Lib.hid (Below.refl _ _)
          have C13 : ∀ W, Below X wb W → W.rangeAt X13 0 (cnV x) := fun W hb => range_keep1 (range_of R13.out) (hb.block X13 (by rw [← hX]; exact bl_lt R13.out))
          have C11 : ∀ W, Below X wb W → W.rangeAt X11 0 (cnV x) := fun W hb => range_keep1 (range_of R11b.out) (hb.block X11 (by rw [← hX]; exact bl_lt R11b.out))
          have KC : Hid (∀ W, Below X wb W → Calls Try.prog 12 #[.agg (cnV x).toArray] W fun e w' => e = .returned (.agg (cnV x).toArray) ∧ Below X wb w') := Lib.hid fun W hb => by
            refine (uCoin x W HC10.out).mono ?_
            rintro e w' ⟨rfl, g⟩
            exact ⟨rfl, hb.trans (g.mono (by have := hb.size; rw [HXX.out] at this; exact this))⟩
          clear hX
          refine wp_region_class (C := fun W => Below X wb W) (by kernel_rfl) (by kernel_rfl) (BXX.out.drew) ?_
          refine wpQuiet_step (fun K hK => ?_)
          refine quiet_val (by rfl) (v := ?_) ?_ (hK _ ?_)
          rotate_left
          · (intro w hSw; go_simp; try with_reducible rfl)
          clear hK K
          simp only [Act.put, List.setIfInBounds_toArray, List.set_cons_zero, List.set_cons_succ]
          refine wpQuiet_step (fun K hK => ?_)
          refine quiet_val (by rfl) (v := ?_) ?_ (hK _ ?_)
          rotate_left
          · (intro w hSw; go_simp; try with_reducible rfl)
          clear hK K
          simp only [Act.put, List.setIfInBounds_toArray, List.set_cons_zero, List.set_cons_succ]
          refine wpQuiet_step (fun K hK => ?_)
          refine quiet_val (by rfl) (v := .bool false) (fun w hSw => ?_) (hK _ ?_)
          · (go_simp; first | done | (simp; done))
          clear hK K
          simp only [Act.put, List.setIfInBounds_toArray, List.set_cons_zero, List.set_cons_succ]
          refine wpQuiet_step (fun K hK => ?_)
          refine quiet_val (by rfl) (v := ?_) ?_ (hK _ ?_)
          rotate_left
          · (intro w hSw; go_simp; try with_reducible rfl)
          clear hK K
          simp only [Act.put, List.setIfInBounds_toArray, List.set_cons_zero, List.set_cons_succ]
          refine wpQuiet_step (fun K hK => ?_)
          refine quiet_val (by rfl) (v := ?_) ?_ (hK _ ?_)
          rotate_left
          · (intro w hSw; go_simp; try with_reducible rfl)
          clear hK K
          simp only [Act.put, List.setIfInBounds_toArray, List.set_cons_zero, List.set_cons_succ]
          refine wpQuiet_step (fun K hK => ?_)
          refine quiet_val (by rfl) (v := ?_) ?_ (hK _ ?_)
          rotate_left
          · (intro w hSw; go_simp; try with_reducible rfl)
          clear hK K
          simp only [Act.put, List.setIfInBounds_toArray, List.set_cons_zero, List.set_cons_succ]
          refine wpQuiet_step (fun K hK => ?_)
          refine quiet_skip (by kernel_rfl) (hK _ ?_)
          clear hK K
          simp only [Act.put, List.setIfInBounds_toArray, List.set_cons_zero, List.set_cons_succ]
          refine wpQuiet_step (fun K hK => ?_)
          refine quiet_skip (by kernel_rfl) (hK _ ?_)
          clear hK K
          simp only [Act.put, List.setIfInBounds_toArray, List.set_cons_zero, List.set_cons_succ]
          refine wpQuiet_step (fun K hK => ?_)
          refine quiet_skip (by kernel_rfl) (hK _ ?_)
          clear hK K
          simp only [Act.put, List.setIfInBounds_toArray, List.set_cons_zero, List.set_cons_succ]
          refine wpQuiet_step (fun K hK => ?_)
          refine quiet_skip (by kernel_rfl) (hK _ ?_)
          clear hK K
          simp only [Act.put, List.setIfInBounds_toArray, List.set_cons_zero, List.set_cons_succ]
          refine wpQuiet_step (fun K hK => ?_)
          refine quiet_val (by rfl) (v := ?_) ?_ (hK _ ?_)
          rotate_left
          · (intro w hSw; go_simp; try with_reducible rfl)
          clear hK K
          simp only [Act.put, List.setIfInBounds_toArray, List.set_cons_zero, List.set_cons_succ]
          refine wpQuiet_step (fun K hK => ?_)
          refine quiet_val (by rfl) (v := ?_) ?_ (hK _ ?_)
          rotate_left
          · (intro w hSw; go_simp; try with_reducible rfl)
          clear hK K
          simp only [Act.put, List.setIfInBounds_toArray, List.set_cons_zero, List.set_cons_succ]
          refine wpQuiet_nil ?_
          intro wq hq
          have BQ2 : Hid (Below X wb wq) := Lib.hid hq
          clear hq
          have S10 : Hid (Sep N w wq [thSet S L P7, thCo B ps cs Q, thRow kv 54 ms.length (mI ms), thRow av 3 ms.length (mI ms), thHist H, thRow pv 26 H.length (hV H), thBlk XB (dV d) 44]) := Lib.hid (by
            have := S9.out.grow (show Below wb.heap.size wb wq by rw [HXX.out]; exact BQ2.out)
            rwa [spend_no HSF.out] at this)
          clear C13 C11 KC BQ2 S9 R13 R11b
          have CSM := Lib.hid (uSame S B _ _ _ _ _ _ S10.out.g0 S10.out.g1 (TW.out.fine S10.out.g0.okL) TW.out (by have := LL2.out; have := HT.out; omega))
          go_wp2_with (first
            | (go_at_call 17; refine CSM.out.mono ?_; clear CSM; rintro e wy ⟨rfl, hb⟩; have SY := Lib.hid ((S10.out.grow hb).pop6); clear hb)
            | fail)
          go_roundw
          case rel => exact ⟨_, _, _, i + 1, _, _, _, _, _, _, _, _, rfl, rfl, rfl, HT.out.2, rfl, congrArg _ IW.out, SY.out, TW.out, HO.out, LL2.out, ML2.out⟩
          case measure => exact meas_up IW.out HT.out.2
        | some x =>
          have HSF := Lib.hid hsf
          obtain ⟨hyes, hget, tdel⟩ := twin_del TW.out SV.out.g0.okL HDO.out.1 hsf
          have TD := Lib.hid tdel
          have CA := cSpendYes SV.out.g1 HDO.out.1 PSL.out hyes
          rw [hget] at CA
          have CA := Lib.hid CA
          have HC10 : Hid (x.r.length = 10) := Lib.hid ((inv_of SV.out.g0.okL).ok _ _ hsf).2.1.len
          have LL2 : Hid ((⟨d.p, x, true⟩ :: L : List Stp).length ≤ i + 1) := Lib.hid (by rw [List.length_cons]; have := LL.out; omega)
          have ML2 : Hid (ms.length ≤ i + 1) := Lib.hid (by have := ML.out; omega)
          clear hyes hget tdel hsf
          go_upto_region 25 with (first
            | (refine wpList_load_midG (by rfl) 38 (.tmp 70) rfl XB 2 rfl (ptV d.p) _ dc3.out Try.underlying38 rfl (szP HDO.out.1) ?_)
            | (go_at_call 13; refine CA.out.mono ?_; clear CA; rintro e w5 ⟨rfl, Q5, g1, g2, g3⟩; have S5 := Lib.hid (SV.out.t1 (t' := thCo B _ _ Q5) g1 g2 g3); clear g1 g2 g3)
            | (refine wpList_store_rowTo rfl 42 (.tmp 11) (.tmp 73) rfl rfl w5.heap.size (cnV x).toArray rfl rfl 42 _ (heap_alloc_last w5 _) (szCA2 HC10.out) (szCC cn0_len HC10.out) (all_oneCell_toArray (cn_one x)) ?_)
            | fail)
          have R11 : Hid (BL ((w5.alloc (Obj.cells (cnV cn0).toArray 42)).setRow w5.heap.size (cnV x).toArray) w5.heap.size (cnV x) 42) := Lib.hid (setRow_heap _ _ _ _ _ _ (heap_alloc_last w5 _))
          have B6 : Hid (Below w5.heap.size w5 ((w5.alloc (Obj.cells (cnV cn0).toArray 42)).setRow w5.heap.size (cnV x).toArray)) := Lib.hid (below_setRow ((Below.refl _ w5).alloc (Nat.le_refl _) _) (Nat.le_refl _) _)
          have S6 := Lib.hid ((S5.out.grow B6.out))
          have N11 : Hid (w5.heap.size < ((w5.alloc (Obj.cells (cnV cn0).toArray 42)).setRow w5.heap.size (cnV x).toArray).heap.size) := Lib.hid (bl_lt R11.out)
          have P11 : Hid (¬ P w5.heap.size) := Lib.hid fun hp => by have := S5.out.g0.plt _ hp; omega
          generalize (w5.alloc (Obj.cells (cnV cn0).toArray 42)).setRow w5.heap.size (cnV x).toArray = w6 at *
          generalize w5.heap.size = X11 at *
          have HL1 : Hid (L.length < 1000) := Lib.hid (by have := LL.out; have := HT.out; omega)
          have dc := dd_cells HDO.out S6.out.g6
          have dc3 := Lib.hid dc.2.2.1
          clear dc B6 S5
          have CB := uSpend S L P d.p w6 S6.out.g0 HDO.out.1 HL1.out
          rw [HSF.out] at CB
          have CB : Hid (Calls Try.prog 14 #[.pointer (some ⟨S, 0, none⟩), .agg (ptV d.p).toArray] w6 fun e w' => e = .returned (.tuple #[.agg (cnV x).toArray, .bool true]) ∧ ∃ P', SetIs w' S (spendL L d.p) P' ∧ (∀ q, P' q → P q ∨ w6.heap.size ≤ q) ∧ Fr w6 w' P) := Lib.hid CB
          go_upto_region 26 with (first
            | (refine wpList_load_midG (by rfl) 38 (.tmp 77) rfl XB 2 rfl (ptV d.p) _ dc3.out Try.underlying38 rfl (szP HDO.out.1) ?_)
            | (go_at_call 14; refine CB.out.mono ?_; clear CB; rintro e w7 ⟨rfl, P7, g1, g2, g3⟩; have S7 := Lib.hid (S6.out.t0 (t' := thSet S _ P7) g1 g2 g3); have R117 : Hid (BL w7 X11 (cnV x) 42) := Lib.hid (bl_keep R11.out (g3.block X11 N11.out P11.out)); clear g1 g2 g3)
            | (refine wpList_store_rowTo rfl 47 (.tmp 13) (.tmp 80) rfl rfl w7.heap.size (cnV x).toArray rfl rfl 47 _ (heap_alloc_last w7 _) (szCA HC10.out) (szCC cn0_len HC10.out) (all_oneCell_toArray (cn_one x)) ?_)
            | fail)
          have R13 : Hid (BL ((w7.alloc (Obj.cells (cnV cn0).toArray 47)).setRow w7.heap.size (cnV x).toArray) w7.heap.size (cnV x) 47) := Lib.hid (setRow_heap _ _ _ _ _ _ (heap_alloc_last w7 _))
          have B8 : Hid (Below w7.heap.size w7 ((w7.alloc (Obj.cells (cnV cn0).toArray 47)).setRow w7.heap.size (cnV x).toArray)) := Lib.hid (below_setRow ((Below.refl _ w7).alloc (Nat.le_refl _) _) (Nat.le_refl _) _)
          have S9 := Lib.hid ((S7.out.grow B8.out))
          have R11b : Hid (BL ((w7.alloc (Obj.cells (cnV cn0).toArray 47)).setRow w7.heap.size (cnV x).toArray) X11 (cnV x) 42) := Lib.hid (bl_keep R117.out (B8.out.block X11 (bl_lt R117.out)))
          generalize (w7.alloc (Obj.cells (cnV cn0).toArray 47)).setRow w7.heap.size (cnV x).toArray = wb at *
          generalize w7.heap.size = X13 at *
          clear R11 N11 P11 S6 S7 B8 R117 dc3 hz42 hz47
          obtain ⟨X, hX⟩ : ∃ X, wb.heap.size = X := ⟨_, rfl⟩
          have HXX := Lib.hid hX
          have BXX : Hid (Below X wb wb) := Lib.hid (Below.refl _ _)
          have C13 : ∀ W, Below X wb W → W.rangeAt X13 0 (cnV x) := fun W hb => range_keep1 (range_of R13.out) (hb.block X13 (by rw [← hX]; exact bl_lt R13.out))
          have C11 : ∀ W, Below X wb W → W.rangeAt X11 0 (cnV x) := fun W hb => range_keep1 (range_of R11b.out) (hb.block X11 (by rw [← hX]; exact bl_lt R11b.out))
          have KC : Hid (∀ W, Below X wb W → Calls Try.prog 12 #[.agg (cnV x).toArray] W fun e w' => e = .returned (.agg (cnV x).toArray) ∧ Below X wb w') := Lib.hid fun W hb => by
            refine (uCoin x W HC10.out).mono ?_
            rintro e w' ⟨rfl, g⟩
            exact ⟨rfl, hb.trans (g.mono (by have := hb.size; rw [HXX.out] at this; exact this))⟩
          clear hX
          refine wp_region_class (C := fun W => Below X wb W) (by kernel_rfl) (by kernel_rfl) (BXX.out.drew) ?_
          refine wpQuiet_step (fun K hK => ?_)
          refine quiet_val (by rfl) (v := ?_) ?_ (hK _ ?_)
          rotate_left
          · (intro w hSw; go_simp; try with_reducible rfl)
          clear hK K
          simp only [Act.put, List.setIfInBounds_toArray, List.set_cons_zero, List.set_cons_succ]
          refine wpQuiet_step (fun K hK => ?_)
          refine quiet_val (by rfl) (v := ?_) ?_ (hK _ ?_)
          rotate_left
          · (intro w hSw; go_simp; try with_reducible rfl)
          clear hK K
          simp only [Act.put, List.setIfInBounds_toArray, List.set_cons_zero, List.set_cons_succ]
          refine wpQuiet_step (fun K hK => ?_)
          refine quiet_val (by rfl) (v := .bool false) (fun w hSw => ?_) (hK _ ?_)
          · (go_simp; first | done | (simp; done))
          clear hK K
          simp only [Act.put, List.setIfInBounds_toArray, List.set_cons_zero, List.set_cons_succ]
          refine wpQuiet_step (fun K hK => ?_)
          refine quiet_val (by rfl) (v := ?_) ?_ (hK _ ?_)
          rotate_left
          · (intro w hSw; go_simp; try with_reducible rfl)
          clear hK K
          simp only [Act.put, List.setIfInBounds_toArray, List.set_cons_zero, List.set_cons_succ]
          refine wpQuiet_step (fun K hK => ?_)
          refine quiet_val (by rfl) (v := ?_) ?_ (hK _ ?_)
          rotate_left
          · (intro w hSw; go_simp; try with_reducible rfl)
          clear hK K
          simp only [Act.put, List.setIfInBounds_toArray, List.set_cons_zero, List.set_cons_succ]
          refine wpQuiet_step (fun K hK => ?_)
          refine quiet_val (by rfl) (v := ?_) ?_ (hK _ ?_)
          rotate_left
          · (intro w hSw; go_simp; try with_reducible rfl)
          clear hK K
          simp only [Act.put, List.setIfInBounds_toArray, List.set_cons_zero, List.set_cons_succ]
          refine wpQuiet_step (fun K hK => ?_)
          refine quiet_load (by rfl) 47 (.tmp 13) rfl X13 (0) rfl (cnV x) _ (fun w h => C13 w h) Try.underlying47 rfl (szL i47 (cnV_len HC10.out)) (hK _ ?_)
          clear hK K
          simp only [Act.put, List.setIfInBounds_toArray, List.set_cons_zero, List.set_cons_succ]
          refine wpQuiet_step (fun K hK => ?_)
          refine quiet_load (by rfl) 42 (.tmp 11) rfl X11 (0) rfl (cnV x) _ (fun w h => C11 w h) Try.underlying42 rfl (szL i42c (cnV_len HC10.out)) (hK _ ?_)
          clear hK K
          simp only [Act.put, List.setIfInBounds_toArray, List.set_cons_zero, List.set_cons_succ]
          refine wpQuiet_step (fun K hK => ?_)
          refine quiet_call (by rfl) 12 #[.agg (cnV x).toArray] ?_ (fun w hw => KC.out w hw) (hK _ ?_)
          · (intro w hSw; go_simp; try with_reducible rfl)
          clear hK K
          simp only [Act.put, List.setIfInBounds_toArray, List.set_cons_zero, List.set_cons_succ]
          refine wpQuiet_step (fun K hK => ?_)
          refine quiet_val (by rfl) (v := .bool (!true)) (fun w hSw => exec_neq 47 47 (.tmp 88) (.tmp 90) (cnV x).toArray (cnV x).toArray true rfl rfl rfl (by kernel_rfl) (eq_cnV x HC10.out w)) (hK _ ?_)
          clear hK K
          simp only [Act.put, List.setIfInBounds_toArray, List.set_cons_zero, List.set_cons_succ]
          refine wpQuiet_step (fun K hK => ?_)
          refine quiet_val (by rfl) (v := ?_) ?_ (hK _ ?_)
          rotate_left
          · (intro w hSw; go_simp; try with_reducible rfl)
          clear hK K
          simp only [Act.put, List.setIfInBounds_toArray, List.set_cons_zero, List.set_cons_succ]
          refine wpQuiet_step (fun K hK => ?_)
          refine quiet_val (by rfl) (v := ?_) ?_ (hK _ ?_)
          rotate_left
          · (intro w hSw; go_simp; try with_reducible rfl)
          clear hK K
          simp only [Act.put, List.setIfInBounds_toArray, List.set_cons_zero, List.set_cons_succ]
          refine wpQuiet_nil ?_
          intro wq hq
          have BQ2 : Hid (Below X wb wq) := Lib.hid hq
          clear hq
          have S10 : Hid (Sep N w wq [thSet S (⟨d.p, x, true⟩ :: L) P7, thCo B (delP ps d.p) (delC ps cs d.p) Q5, thRow kv 54 ms.length (mI ms), thRow av 3 ms.length (mI ms), thHist H, thRow pv 26 H.length (hV H), thBlk XB (dV d) 44]) := Lib.hid (by
            have := S9.out.grow (show Below wb.heap.size wb wq by rw [HXX.out]; exact BQ2.out)
            rwa [spend_yes HSF.out] at this)
          clear C13 C11 KC BQ2 S9 R13 R11b
          have CC := Lib.hid (cCopy B _ _ _ wq S10.out.g1 (by have := TD.out.len S10.out.g0.okL; have := LL2.out; have := HT.out; omega))
          go_upto_region 41 with (first
            | (go_at_call 9; refine CC.out.mono ?_; clear CC; rintro e w7 ⟨B7, Q7, rfl, k1, k2, k3⟩; have K1 := Lib.hid k1; have K2 := Lib.hid k2; have K3 := Lib.hid k3; clear k1 k2 k3; obtain ⟨n7, e7, t7, s7⟩ := S10.out.hist2 TD.out K2.out K1.out K3.out; subst e7; have TN := Lib.hid t7; have SA := Lib.hid s7; clear t7 s7; have SB := Lib.hid (SA.out.grow ((Below.refl w7.heap.size w7).alloc (Nat.le_refl _) (Obj.cells #[.pointer (some ⟨n7.B, 0, none⟩)] 26))))
            | (at_builtin; refine wpList_ap1 Try.underlying34 infoPtr rfl (by decide) rfl (.tmp 95) (.tmp 98) rfl pv H.length (hV H) rfl SB.out.g5 w7.heap.size 1 (.pointer (some ⟨n7.B, 0, none⟩)) rfl (heap_alloc_last w7 _) rfl (by have := HO.out.len; have := LL.out; have := HT.out; omega) ?_; intro A8 c8 w8 ho hf hF; have S8 := Lib.hid (SB.out.t5 (t' := thRow (.slice A8 (H.length + 1) c8) 26 (H ++ [n7]).length (hV (H ++ [n7]))) (by rw [hV_snoc, List.length_append]; exact ho) hF hf); clear ho hf hF)
            | fail)
          have HO2 := Lib.hid (hist_push HO.out ⟨d.p, x, true⟩ n7 TN.out)
          clear SA SB K1 K2 K3
          have CSM := Lib.hid (uSame S B _ _ _ _ _ _ S8.out.g0 S8.out.g1 (TD.out.fine S8.out.g0.okL) TD.out (by have := LL2.out; have := HT.out; omega))
          go_wp2_with (first
            | (go_at_call 17; refine CSM.out.mono ?_; clear CSM; rintro e wy ⟨rfl, hb⟩; have SY := Lib.hid ((S8.out.grow hb).pop6); clear hb)
            | fail)
          go_roundw
          case rel => exact ⟨_, _, _, i + 1, _, _, _, _, _, _, _, _, rfl, rfl, rfl, HT.out.2, rfl, congrArg _ IW.out, SY.out, TD.out, HO2.out, LL2.out, ML2.out⟩
          case measure => exact meas_up IW.out HT.out.2
      by_cases e3 : dd = 3
      · subst e3
        clear e0 e1 e2
        have CMK := Lib.hid (uMark S L P wv SV.out.g0)
        obtain ⟨PA, pc, hpv⟩ := own_sl SV.out.g5
        subst hpv
        have hw : wrap64 ((H.length : Int) - 1) = (L.length : Int) := by have := HO.out.len; have := LL.out; have := HT.out; unfold wrap64; omega
        have MLB : Hid (ms.length ≤ 65536) := Lib.hid (by have := ML.out; have := HT.out; omega)
        have LL2 : Hid (L.length ≤ i + 1) := Lib.hid (by have := LL.out; omega)
        have ML2 : Hid ((ms ++ [L.length]).length ≤ i + 1) := Lib.hid (by rw [List.length_append, List.length_singleton]; have := ML.out; omega)
        go_upto_region 41 with (first
          | (go_at_call 15; refine CMK.out.mono ?_; clear CMK; rintro e w5 ⟨rfl, hb⟩; have S6 := Lib.hid ((SV.out.grow hb).grow ((Below.refl w5.heap.size w5).alloc (Nat.le_refl _) (Obj.cells #[.int .i64 (L.length : Nat)] 54))); clear hb)
          | (at_builtin; refine wpList_ap1 Try.underlying31 infoU rfl (by decide) rfl (.tmp 102) (.tmp 105) rfl kv ms.length (mI ms) rfl S6.out.g2 w5.heap.size 1 (.int .i64 (L.length : Nat)) rfl (heap_alloc_last w5 _) rfl MLB.out ?_; intro A7 c7 w7 ho hf hF; have S7 := Lib.hid (S6.out.t2 (t' := thRow (.slice A7 (ms.length + 1) c7) 54 (ms ++ [L.length]).length (mI (ms ++ [L.length]))) (by rw [mI_snoc, List.length_append]; exact ho) hF hf); have S8 := Lib.hid (S7.out.grow ((Below.refl w7.heap.size w7).alloc (Nat.le_refl _) (Obj.cells #[.int .i64 (L.length : Nat)] 3))); clear ho hf hF)
          | (at_builtin; refine wpList_ap1 Try.underlying32 infoInt rfl (by decide) rfl (.tmp 107) (.tmp 111) rfl av ms.length (mI ms) rfl S8.out.g3 w7.heap.size 1 (.int .i64 (L.length : Nat)) rfl (heap_alloc_last w7 _) rfl MLB.out ?_; intro A9 c9 w9 ho hf hF; have S9 := Lib.hid (S8.out.t3 (t' := thRow (.slice A9 (ms.length + 1) c9) 3 (ms ++ [L.length]).length (mI (ms ++ [L.length]))) (by rw [mI_snoc, List.length_append]; exact ho) hF hf); clear ho hf hF)
          | fail)
        clear hw
        have CSM := Lib.hid (uSame S B _ _ _ _ _ _ S9.out.g0 S9.out.g1 (TW.out.fine S9.out.g0.okL) TW.out (by have := LL2.out; have := HT.out; omega))
        go_wp2_with (first
          | (go_at_call 17; refine CSM.out.mono ?_; clear CSM; rintro e wy ⟨rfl, hb⟩; have SY := Lib.hid ((S9.out.grow hb).pop6); clear hb)
          | fail)
        go_roundw
        case rel => exact ⟨_, _, _, i + 1, _, _, _, _, _, _, _, _, rfl, rfl, rfl, HT.out.2, rfl, congrArg _ IW.out, SY.out, TW.out, HO.out, LL2.out, ML2.out⟩
        case measure => exact meas_up IW.out HT.out.2
      by_cases e4 : dd = 4
      · subst e4
        clear e0 e1 e2 e3
        have LL2 : Hid (L.length ≤ i + 1) := Lib.hid (by have := LL.out; omega)
        have ML2 : Hid (ms.length ≤ i + 1) := Lib.hid (by have := ML.out; omega)
        by_cases hm0 : ms.length = 0
        · have hms : ms = [] := List.length_eq_zero_iff.1 hm0
          obtain ⟨KA, kc, hkv⟩ := own_sl SV.out.g2
          rw [hm0] at hkv
          subst hkv
          go_wp2_with fail
          go_roundw
          case rel => exact ⟨_, _, _, i + 1, _, _, _, _, _, _, _, _, rfl, rfl, rfl, HT.out.2, rfl, congrArg _ IW.out, SV.out.pop6, TW.out, HO.out, LL2.out, ML2.out⟩
          case measure => exact meas_up IW.out HT.out.2
        have HM0 : Hid (0 < ms.length) := Lib.hid (by omega)
        obtain ⟨k, hk, hkm⟩ := idx_mod d.n ms.length HM0.out (by have := ML.out; have := HT.out; omega)
        have HK := Lib.hid hk
        obtain ⟨gk, kc, rfl, hkc, rk⟩ := row_get1 SV.out.g2 hk
        obtain ⟨ga, ac, rfl, hac, ra⟩ := row_get1 SV.out.g3 hk
        obtain ⟨PA, pc, hpv⟩ := own_sl SV.out.g5
        subst hpv
        rw [mI_get hk] at rk ra
        obtain ⟨u, hu⟩ : ∃ u, ms.getD k 0 = u := ⟨_, rfl⟩
        rw [hu] at rk ra
        have HMU := Lib.hid hu
        have RK := Lib.hid rk
        have dc1 := (dd_cells HDO.out SV.out.g6).2.1
        have hw : wrap64 ((H.length : Int) - 1) = (L.length : Int) := by have := HO.out.len; have := LL.out; have := HT.out; unfold wrap64; omega
        have k0 : (0 : Int) ≤ (k : Int) := by omega
        have k1 : (k : Int) < (ms.length : Int) := by omega
        have m0 : ¬ ((ms.length : Int) = 0) := by omega
        have m1 : ((ms.length : Int) == 0) = false := beq_false_of_ne m0
        have m2 : ¬ (ms.length = 0) := hm0
        clear hu hk rk
        obtain ⟨kz, hkz⟩ : ∃ z, (wrap64 (d.n.tmod (ms.length : Int) + (ms.length : Int))).tmod (ms.length : Int) = z := ⟨_, rfl⟩
        rw [hkz] at hkm
        subst hkm
        have CB := uBack S L P u wv SV.out.g0 (by have := LL.out; have := HT.out; omega)
        by_cases hul : u ≤ L.length
        rotate_left
        · have g1 : decide (u ≤ L.length) = false := decide_eq_false hul
          rw [if_neg hul, decide_eq_false hul] at CB
          have CB := Lib.hid CB
          go_upto_region 41 with (first
            | (refine wpList_load_midG (by rfl) 54 (.tmp 140) rfl gk k rfl [.int .i64 (u : Nat)] _ (cell_range RK.out) Try.underlying54 rfl i54U ?_)
            | (go_at_call 16; refine CB.out.mono ?_; clear CB; rintro e wz ⟨rfl, g1, g2⟩; have S6 := Lib.hid (SV.out.t0 (t' := thSet S L P) g1 (fun q hq => .inl hq) g2); clear g1 g2)
            | fail)
          clear ra dc1 hw k0 k1 m0 m1 m2 hm0 g1 hkz hul
          have CSM := Lib.hid (uSame S B _ _ _ _ _ _ S6.out.g0 S6.out.g1 (TW.out.fine S6.out.g0.okL) TW.out (by have := LL2.out; have := HT.out; omega))
          go_wp2_with (first
            | (go_at_call 17; refine CSM.out.mono ?_; clear CSM; rintro e wy ⟨rfl, hb⟩; have SY := Lib.hid ((S6.out.grow hb).pop6); clear hb)
            | fail)
          go_roundw
          case rel => exact ⟨_, _, _, i + 1, _, _, _, _, _, _, _, _, rfl, rfl, rfl, HT.out.2, rfl, congrArg _ IW.out, SY.out, TW.out, HO.out, LL2.out, ML2.out⟩
          case measure => exact meas_up IW.out HT.out.2
        have g1 : decide (u ≤ L.length) = true := decide_eq_true hul
        rw [if_pos hul, decide_eq_true hul] at CB
        have CB := Lib.hid CB
        have HU := Lib.hid hul
        go_upto_region 39 with (first
          | (refine wpList_load_midG (by rfl) 54 (.tmp 140) rfl gk k rfl [.int .i64 (u : Nat)] _ (cell_range RK.out) Try.underlying54 rfl i54U ?_)
          | (go_at_call 16; refine CB.out.mono ?_; clear CB; rintro e wz ⟨rfl, g1, g2⟩; have S6 := Lib.hid (SV.out.t0 (t' := thSet S (L.drop (L.length - u)) P) g1 (fun q hq => .inl hq) g2); clear g1 g2)
          | fail)
        clear ra dc1 hw m0 m1 m2 hm0 g1 hkz hul
        have HLEN : Hid (H.length = L.length + 1) := Lib.hid HO.out.len
        obtain ⟨gp, cp, hpe, hcp, rp⟩ := row_get1 S6.out.g5 (k := u) (by rw [HLEN.out]; have := HU.out; omega)
        injection hpe with e1 e2 e3
        subst e1 e3
        rw [hV_get (by rw [HLEN.out]; have := HU.out; omega)] at rp
        obtain ⟨hx, hhu⟩ : ∃ x, H.getD u hc0 = x := ⟨_, rfl⟩
        rw [hhu] at rp
        obtain ⟨ga2, ac2, hae, hac2, ra⟩ := row_get1 S6.out.g3 HK.out
        injection hae with e4 e5 e6
        obtain rfl : ga2 = ga := by injection e4 with e4; exact congrArg Addr.block e4.symm
        clear e4 e5 e6 hac2
        rw [mI_get HK.out] at ra
        rw [HMU.out] at ra
        have hw1 : wrap64 ((u : Int) + 1) = (u : Int) + 1 := by have := HU.out; have := LL.out; have := HT.out; unfold wrap64; omega
        have hpc : u + 1 ≤ pc := by rw [HLEN.out] at hcp; have := HU.out; omega
        have hsl : ∀ w, (Instr.slice 34 (.slice (some ⟨gp, 0, none⟩) H.length pc) none (some (.int .i64 ((u : Int) + 1))) none).run Try.prog w = .ok (.slice (some ⟨gp, 0, none⟩) (u + 1) pc) w := fun w => by
          have := gFront (sl := 34) (t := 26) elP Try.underlying34 szP1 (some ⟨gp, 0, none⟩) (.inr ⟨gp, rfl⟩) H.length pc (u + 1) w hpc
          rwa [Int.natCast_add] at this
        go_upto_region 40 with fail
        clear hsl hpc hw1 hcp
        have hx0 : hx ∈ H := by
          rw [← hhu, List.getD_eq_getElem?_getD, List.getElem?_eq_getElem (by rw [HLEN.out]; have := HU.out; omega)]
          exact List.getElem_mem _
        have TB : Hid (Twin (L.drop (L.length - u)) hx.ps hx.cs) := Lib.hid (by have := HO.out.tw u HU.out; rwa [hhu] at this)
        have HO2 := Lib.hid (hist_cut HO.out HU.out)
        have CC := Lib.hid (cCopy hx.B hx.ps hx.cs hx.Q wz (S6.out.g4 hx hx0) (by have := TB.out.len S6.out.g0.okL; rw [List.length_drop] at this; have := LL.out; have := HT.out; omega))
        have LL3 : Hid ((L.drop (L.length - u)).length ≤ i + 1) := Lib.hid (by rw [List.length_drop]; have := LL.out; omega)
        have HTK : Hid ((H.take (u + 1)).length = u + 1) := Lib.hid (by rw [List.length_take, HLEN.out]; have := HU.out; omega)
        have u0 : (0 : Int) ≤ (u : Int) := by omega
        have u1 : (u : Int) < ((u + 1 : Nat) : Int) := by omega
        have u2' : (u : Int) < (u : Int) + 1 := by omega
        clear hhu hx0
        go_upto_region 41 with (first
          | (go_at_call 9; refine CC.out.mono ?_; clear CC; rintro e w7 ⟨B7, Q7, rfl, k1, k2, k3⟩; have K1 := Lib.hid k1; have K2 := Lib.hid k2; have K3 := Lib.hid k3; clear k1 k2 k3)
          | fail)
        have S7 := Lib.hid (S6.out.t1 (t' := thCo B7 hx.ps hx.cs Q7) K1.out (fun q hq => .inr (K3.out q hq)) (Fr.of_below K2.out))
        have S8 := Lib.hid (S7.out.t4 (t' := thHist (H.take (u + 1))) (fun x hx' => S7.out.g4 x (List.mem_of_mem_take hx')) (fun q ⟨x, hx', hq⟩ => .inl ⟨x, List.mem_of_mem_take hx', hq⟩) (Fr.refl _ _))
        have S9 := Lib.hid (S8.out.t5 (t' := thRow (.slice (some ⟨gp, 0, none⟩) (u + 1) pc) 26 (H.take (u + 1)).length (hV (H.take (u + 1)))) (by
          have r := row_cut1 S8.out.g5 (k := u + 1) (by rw [HLEN.out]; have := HU.out; omega)
          rw [hV_take] at r
          rw [HTK.out]
          exact r) (fun q hq => .inl hq) (Fr.refl _ _))
        clear ra rp k0 k1 u0 u1 u2'
        have CSM := Lib.hid (uSame S B7 _ _ _ _ _ _ S9.out.g0 S9.out.g1 (TB.out.fine S9.out.g0.okL) TB.out (by have := LL3.out; have := HT.out; omega))
        go_wp2_with (first
          | (go_at_call 17; refine CSM.out.mono ?_; clear CSM; rintro e wy ⟨rfl, hb⟩; have SY := Lib.hid ((S9.out.grow hb).pop6); clear hb)
          | fail)
        go_roundw
        case rel => exact ⟨_, _, _, i + 1, _, _, _, _, _, _, _, _, rfl, rfl, rfl, HT.out.2, rfl, congrArg _ IW.out, SY.out, TB.out, HO2.out, LL3.out, ML2.out⟩
        case measure => exact meas_up IW.out HT.out.2
      have q0 : (dd == 0) = false := beq_false_of_ne e0
      have q1 : (dd == 1) = false := beq_false_of_ne e1
      have q2 : (dd == 2) = false := beq_false_of_ne e2
      have q3 : (dd == 3) = false := beq_false_of_ne e3
      have q4 : (dd == 4) = false := beq_false_of_ne e4
      have LL2 : Hid (L.length ≤ i + 1) := Lib.hid (by have := LL.out; omega)
      have ML2 : Hid (ms.length ≤ i + 1) := Lib.hid (by have := ML.out; omega)
      have CSM := Lib.hid (uSame S B _ _ _ _ _ _ SV.out.g0 SV.out.g1 (TW.out.fine SV.out.g0.okL) TW.out (by have := LL2.out; have := HT.out; omega))
      go_wp2_with (first
        | (go_at_call 17; refine CSM.out.mono ?_; clear CSM; rintro e wy ⟨rfl, hb⟩; have SY := Lib.hid ((SV.out.grow hb).pop6); clear hb)
        | fail)
      go_roundw
      case rel => exact ⟨_, _, _, i + 1, _, _, _, _, _, _, _, _, rfl, rfl, rfl, HT.out.2, rfl, congrArg _ IW.out, SY.out, TW.out, HO.out, LL2.out, ML2.out⟩
      case measure => exact meas_up IW.out HT.out.2
    · have i1 : ¬ (i : Int) < (n0 : Int) := by omega
      clear hlt hi
      go_wp2
      go_ret
      exact ⟨rfl, SR.out.bel⟩
end Go.Proofs.Ytdggnmlhgglccaa
