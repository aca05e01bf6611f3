/-
  Two rows that grow side by side; the document's leaves in memory.
-/
import Derived.Test.YtgagcblddcibkaaDoorS20
import Derived.Deep.AppendLies
namespace Go.Proofs.YtgagcblddcibkaaDoor
open Go.RowKit
open Go.Maps
def ivals (xs : List Int) : List Value := xs.map (.int .i64)
structure Two (w : World) (S n m : Nat) (a b : Value) (xs ys : List Int) : Prop where
  oa : w.ownsRow S 3 1 a n (ivals xs)
  ob : w.ownsRow S 29 8 b m (bvals ys)
  apart : ∀ q, a.ownBlock = some q → b.ownBlock ≠ some q
theorem Two.nil (w : World) (S : Nat) : Two w S 0 0 (.slice none 0 0) (.slice none 0 0) [] [] := ⟨⟨rfl, .inl ⟨rfl, rfl⟩⟩, ⟨rfl, .inl ⟨rfl, rfl⟩⟩, fun q h => by cases h⟩
theorem Two.keep {w W : World} {S n m : Nat} {a b : Value} {xs ys : List Int} (h : Two w S n m a b xs ys) (hb : ∀ q, q < w.heap.size → W.heap[q]? = w.heap[q]?) : Two W S n m a b xs ys :=
  ⟨ownG_keep h.oa fun q hq => hb q (ownG_lt h.oa q hq), ownG_keep h.ob fun q hq => hb q (ownG_lt h.ob q hq), h.apart⟩
theorem info3 : (Tryd.prog.info? 3).map (fun i => (i.zero, i.size, i.bytes)) = some (some (.int .i64 0), 1, 8) := by kernel_rfl
theorem info29 : (Tryd.prog.info? 29).map (fun i => (i.zero, i.size, i.bytes)) = some (some (.agg #[.int .u8 0, .int .u8 0, .int .u8 0, .int .u8 0, .int .u8 0, .int .u8 0, .int .u8 0, .int .u8 0]), 8, 8) := by kernel_rfl
theorem bl_alloc {B : Nat} {w W : World} (hB : B ≤ w.heap.size) (o : Obj) (h : Below B w W) : Below B w (W.alloc o) := h.alloc (Nat.le_trans hB h.size) o
theorem bl_drew {B : Nat} {w W : World} (h : Below B w W) : Below B w W.drew := h.drew
def Keeps (w W : World) : Prop := w.heap.size ≤ W.heap.size ∧ ∀ q, q < w.heap.size → W.heap[q]? = w.heap[q]?
theorem kp_refl (w : World) : Keeps w w := ⟨Nat.le_refl _, fun _ _ => rfl⟩
theorem kp_alloc {w W : World} (o : Obj) (h : Keeps w W) : Keeps w (W.alloc o) := ⟨Nat.le_trans h.1 (by simp), fun q hq => (Below.heap_alloc W o q (Nat.lt_of_lt_of_le hq h.1)).trans (h.2 q hq)⟩
theorem kp_drew {w W : World} (h : Keeps w W) : Keeps w W.drew := h
theorem Two.keepK {w W : World} {S n m : Nat} {a b : Value} {xs ys : List Int} (h : Two w S n m a b xs ys) (k : Keeps w W) : Two W S n m a b xs ys := h.keep k.2
theorem lt_of_block' {w : World} {q : Nat} {ob : Obj} (h : w.heap[q]? = some ob) : q < w.heap.size := (Array.getElem?_eq_some_iff.1 h).1
theorem step_appA {W : World} {ops : Array Oper} {o : Oper} {act : Act} {K : Act → World → Prop} {Q : Exit → Act → World → Prop} {E : Prop} (hgd : o.guard = none) (s x : Operand)
    (ho : o.op = .call { callee := .builtin .append, args := #[s, x], argTypes := #[36, 36] }) (S n m : Nat) (a b : Value) (xs ys : List Int) (hs : act.eval s = a) (h : Two W S n m a b xs ys)
    (bk : Nat) (z : Int) (hx : act.eval x = .slice (some ⟨bk, 0, none⟩) 1 1) (hbk : W.heap[bk]? = some (.cells #[.int .i64 z] 3 (0, 0))) (hn : n ≤ 65536) (w0 : World) (hw0 : S ≤ w0.heap.size) (hW : Below S w0 W)
    (hK : ∀ g cap w', Two w' S (n + 1) m (.slice (some ⟨g, 0, none⟩) (n + 1) cap) b (xs ++ [z]) ys → Below S w0 w' → (∀ q ob, a.ownBlock ≠ some q → W.heap[q]? = some ob → w'.heap[q]? = some ob) → K (act.put o.dst (.slice (some ⟨g, 0, none⟩) (n + 1) cap)) w') :
    if Region.wanted o (yielded ops act.tmps) = true then Oper.wp Tryd.prog o act W K Q else E := by
  have hbase : S ≤ W.heap.size := Nat.le_trans hw0 hW.size
  obtain ⟨i, hi, hz, h1, h2⟩ := info_parts info3
  refine step_append_lies W hgd s x 36 ho S 3 i _ 1 8 Tryd.underlying36 hi hz h1 h2 rfl (by decide) a n (ivals xs) hs h.oa ⟨bk, 0, none⟩ 1 1 (ivals [z]) hx rfl ?_ (fun u hu => ?_) (by decide) (by unfold maxLen; omega) (by omega) hbase W.heap.size rfl ?_
  · exact World.news_of_block hbk
  · rw [List.mem_singleton.1 hu]; rfl
  · intro g cap w' hown hg hor hlt
    have e : ivals xs ++ ivals [z] = ivals (xs ++ [z]) := by simp [ivals]
    rw [e] at hown
    have hf : ∀ q, q < W.heap.size → a.ownBlock ≠ some q → w'.heap[q]? = W.heap[q]? := fun q hq hne => hg.block q hq (fun e => hne e.symm)
    refine hK g cap w' ⟨hown, ownG_keep h.ob fun q hq => hf q (ownG_lt h.ob q hq) (fun e => h.apart q e hq), fun q hq => ?_⟩ (hW.trans ⟨hg.os, hg.tape, hg.output, hg.size, fun q hq => hf q (by omega) (fun e => by have := ownG_base h.oa q e; omega)⟩) (fun q ob hne ho => (hf q (lt_of_block' ho) hne).trans ho)
    simp [Value.ownBlock] at hq
    subst hq
    rcases hor with e | e
    · exact h.apart g e
    · intro e2
      have := ownG_lt h.ob g e2
      omega
theorem step_appB {W : World} {ops : Array Oper} {o : Oper} {act : Act} {K : Act → World → Prop} {Q : Exit → Act → World → Prop} {E : Prop} (hgd : o.guard = none) (s x : Operand)
    (ho : o.op = .call { callee := .builtin .append, args := #[s, x], argTypes := #[37, 37] }) (S n m : Nat) (a b : Value) (xs ys : List Int) (hs : act.eval s = b) (h : Two W S n m a b xs ys)
    (bk : Nat) (z : List Int) (hx : act.eval x = .slice (some ⟨bk, 0, none⟩) 1 1) (cs : Array Value) (hbk : W.heap[bk]? = some (.cells cs 29 (0, 0))) (hcs : ba z = cs) (hz8 : z.length = 8) (hn : m ≤ 65536) (w0 : World) (hw0 : S ≤ w0.heap.size) (hW : Below S w0 W)
    (hK : ∀ g cap w', Two w' S n (m + 1) a (.slice (some ⟨g, 0, none⟩) (m + 1) cap) xs (ys ++ z) → Below S w0 w' → (∀ q ob, b.ownBlock ≠ some q → W.heap[q]? = some ob → w'.heap[q]? = some ob) → K (act.put o.dst (.slice (some ⟨g, 0, none⟩) (m + 1) cap)) w') :
    if Region.wanted o (yielded ops act.tmps) = true then Oper.wp Tryd.prog o act W K Q else E := by
  have hbase : S ≤ W.heap.size := Nat.le_trans hw0 hW.size
  obtain ⟨i, hi, hz, h1, h2⟩ := info_parts info29
  refine step_append_lies W hgd s x 37 ho S 29 i _ 8 8 Tryd.underlying37 hi hz h1 h2 rfl (by decide) b m (bvals ys) hs h.ob ⟨bk, 0, none⟩ 1 1 (bvals z) hx (by simp [bvals, hz8]) ?_ (bvals_one z) (by decide) (by unfold maxLen; omega) (by omega) hbase W.heap.size rfl ?_
  · subst hcs
    have := World.news_of_block hbk
    simpa [ba] using this
  · intro g cap w' hown hg hor hlt
    have e : bvals ys ++ bvals z = bvals (ys ++ z) := by simp [bvals]
    rw [e] at hown
    have hf : ∀ q, q < W.heap.size → b.ownBlock ≠ some q → w'.heap[q]? = W.heap[q]? := fun q hq hne => hg.block q hq (fun e => hne e.symm)
    refine hK g cap w' ⟨ownG_keep h.oa fun q hq => hf q (ownG_lt h.oa q hq) (h.apart q hq), hown, fun q hq e => ?_⟩ (hW.trans ⟨hg.os, hg.tape, hg.output, hg.size, fun q hq => hf q (by omega) (fun e => by have := ownG_base h.ob q e; omega)⟩) (fun q ob hne ho => (hf q (lt_of_block' ho) hne).trans ho)
    simp [Value.ownBlock] at e
    subst e
    rcases hor with e | e
    · exact h.apart g hq e
    · have := ownG_lt h.oa g hq
      omega
/-- block M holds the two rows of a list of leaves -/
structure Lv (w : World) (B M : Nat) (a b : Value) (L : List (Int × List Int)) : Prop where
  row : w.heap[M]? = some (.cells #[a, b] 39 (0, 0))
  lo : B ≤ M
  two : Two w B L.length L.length a b (L.map Prod.fst) (zip8 L)
theorem Lv.lt {w : World} {B M : Nat} {a b : Value} {L : List (Int × List Int)} (h : Lv w B M a b L) : M < w.heap.size := lt_of_block h.row
theorem Lv.keep {w W : World} {B M : Nat} {a b : Value} {L : List (Int × List Int)} (h : Lv w B M a b L) (hb : ∀ q, q < w.heap.size → W.heap[q]? = w.heap[q]?) : Lv W B M a b L := ⟨(hb M h.lt).trans h.row, h.lo, h.two.keep hb⟩
theorem Lv.grow {w W : World} {B M : Nat} {a b : Value} {L : List (Int × List Int)} (h : Lv w B M a b L) (hb : Below w.heap.size w W) : Lv W B M a b L := h.keep hb.block
/-- a tree's blocks hold no cells but its own row -/
theorem Tr.other {w : World} {B T N q : Nat} {ms : Nat → Option Nat} {F : Nat → Int → List Int} (h : Tr w B T ms F N) {cs : Array Value} {t : TypeId} {fr : Nat × Nat} (ht : t ≠ 58) (hq : w.heap[q]? = some (.cells cs t fr)) : q ≠ T ∧ ∀ j, j < 17 → ms j ≠ some q := by
  refine ⟨fun e => ?_, fun j hj e => ?_⟩
  · have := h.row
    rw [← e, hq] at this
    exact ht (by simpa using (Obj.cells.inj (Option.some.inj this)).2.1)
  · obtain ⟨D, ⟨es, clock, h1, _⟩, _⟩ := (h.map j q hj e).2.2
    rw [hq] at h1
    cases h1
theorem Lv.turnT {w w' : World} {B T N M B2 : Nat} {ms ms' : Nat → Option Nat} {F : Nat → Int → List Int} {a b : Value} {L : List (Int × List Int)} (h : Lv w B M a b L) (t : Tr w B2 T ms F N) (c : Chg w w' T ms ms') : Lv w' B M a b L := by
  have key : ∀ (q : Nat) (cs : Array Value) (e : TypeId), e ≠ 58 → w.heap[q]? = some (Obj.cells cs e (0, 0)) → w'.heap[q]? = w.heap[q]? := fun q cs e he hq => c.block q (lt_of_block hq) (t.other he hq).1 (t.other he hq).2
  refine ⟨(key M _ 39 (by decide) h.row).trans h.row, h.lo, ⟨ownG_keep h.two.oa fun q hq => ?_, ownG_keep h.two.ob fun q hq => ?_, h.two.apart⟩⟩
  · obtain ⟨cs, hc⟩ := ownG_type h.two.oa q hq
    exact key q cs 3 (by decide) hc
  · obtain ⟨cs, hc⟩ := ownG_type h.two.ob q hq
    exact key q cs 29 (by decide) hc
/-- the tree stands while a block that holds other cells is written -/
theorem Tr.keepBut {w w' : World} {B T N M : Nat} {ms : Nat → Option Nat} {F : Nat → Int → List Int} (h : Tr w B T ms F N) {cs : Array Value} {t : TypeId} {fr : Nat × Nat} (ht : t ≠ 58) (hM : w.heap[M]? = some (.cells cs t fr)) (hb : ∀ q, q < w.heap.size → q ≠ M → w'.heap[q]? = w.heap[q]?) : Tr w' B T ms F N := by
  have ho := h.other ht hM
  exact ⟨(hb T h.lt (fun e => ho.1 e.symm)).trans h.row, h.lo, h.nil, fun s b hs hm => ⟨(h.map s b hs hm).1, (h.map s b hs hm).2.1, (h.map s b hs hm).2.2.keep (hb b (h.map s b hs hm).2.2.lt (fun e => ho.2 s hs (by rw [hm, e])))⟩, h.inj⟩
end Go.Proofs.YtgagcblddcibkaaDoor
