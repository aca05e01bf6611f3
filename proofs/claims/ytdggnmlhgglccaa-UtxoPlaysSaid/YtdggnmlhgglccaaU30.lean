/-
  The order of hashes: hash.Less.
-/
import Derived.Test.YtdggnmlhgglccaaU12
import Derived.Lib.BytesEntry
import Derived.Lib.Bytealg
import Derived.Sort.Grow
namespace Go.Proofs.Ytdggnmlhgglccaa
open Go.RowKit
set_option maxRecDepth 100000
theorem run_compareRows (xs ys : List Int) (a b : Addr) (n m c d : Nat) (w : World) (hx : xs.length = n) (hy : ys.length = m) (h1 : ∀ j x, xs[j]? = some x → w.cell? (a.add j) = some (.int .u8 x)) (h2 : ∀ j x, ys[j]? = some x → w.cell? (b.add j) = some (.int .u8 x)) :
    (Extern.BytealgCompare.compare #[.slice (some a) n c, .slice (some b) m d]).run Try.prog w = .ok (.int .i64 (Lib.compareBytes (Lib.bytesOf xs) (Lib.bytesOf ys))) w := by
  subst hx hy
  change Sem.run Try.prog (do pure (goInt (Extern.BytealgCompare.cmp (← Extern.Bytes.bytesOf (.slice (some a) xs.length c)) (← Extern.Bytes.bytesOf (.slice (some b) ys.length d))))) w = _
  simp only [Extern.Bytes.bytesOf, Sem.run_bind, Sem.run_pure, Lib.run_loadBytesX w xs a _ h1, Lib.run_loadBytesX w ys b _ h2, Result.andThen]
  rw [Lib.cmp_eq]
  simp [ByteArray.empty, ByteArray.emptyWithCapacity, goInt]
  rfl
theorem uCmpX (xs ys : List Int) (a b : Addr) (n m c d : Nat) (w : World) (hx : xs.length = n) (hy : ys.length = m) (h1 : ∀ j x, xs[j]? = some x → w.cell? (a.add j) = some (.int .u8 x)) (h2 : ∀ j x, ys[j]? = some x → w.cell? (b.add j) = some (.int .u8 x)) :
    (callFunc 62 #[.slice (some a) n c, .slice (some b) m d]).run Try.prog w = .ok (.value (.int .i64 (Lib.compareBytes (Lib.bytesOf xs) (Lib.bytesOf ys)))) w := by
  rw [run_callFunc_extern Try.func62 (by kernel_rfl) (by kernel_rfl) (by kernel_rfl) (e := Extern.BytealgCompare.compare) (by kernel_rfl), run_compareRows xs ys a b n m c d w hx hy h1 h2]
  rfl
theorem uCmpB (xs ys : List Int) (a b : Addr) (n m c d : Nat) (w : World) (hx : xs.length = n) (hy : ys.length = m) (h1 : ∀ j x, xs[j]? = some x → w.cell? (a.add j) = some (.int .u8 x)) (h2 : ∀ j x, ys[j]? = some x → w.cell? (b.add j) = some (.int .u8 x)) :
    Calls Try.prog 50 #[.slice (some a) n c, .slice (some b) m d] w fun e w' => e = .returned (.int .i64 (Lib.compareBytes (Lib.bytesOf xs) (Lib.bytesOf ys))) ∧ w' = w := by
  have hc := uCmpX xs ys a b n m c d w hx hy h1 h2
  clear hx hy h1 h2
  go_enter Try.func50, Try.ntmps50
  go_wp2
  go_ret
  exact ⟨rfl, rfl⟩
/-- is one hash less than another? -/
def lessB (xs ys : List Int) : Bool := decide (Lib.compareBytes (Lib.bytesOf xs) (Lib.bytesOf ys) < 0)
theorem bl_at {w : World} {b : Nat} {t : TypeId} {xs : List Int} (h : BL w b (bvals xs) t) : ∀ j x, xs[j]? = some x → w.cell? ((⟨b, 0, none⟩ : Addr).add j) = some (.int .u8 x) := by
  intro j x hx
  have := range_of h j (.int .u8 x) (by simp [bvals, hx])
  rw [Nat.zero_add] at this
  rw [show (⟨b, 0, none⟩ : Addr).add j = ⟨b, j, none⟩ by unfold Addr.add; split <;> simp_all]
  exact this
/-- one order of all lists of bytes -/
theorem cb_swap : ∀ (a b : List UInt8), Lib.compareBytes b a = - Lib.compareBytes a b
  | [], [] => rfl
  | [], _ :: _ => rfl
  | _ :: _, [] => rfl
  | a :: ar, b :: bs => by
    simp only [Lib.compareBytes]
    by_cases h1 : a < b
    · have h2 : ¬ b < a := fun h => UInt8.lt_irrefl _ (UInt8.lt_trans h1 h)
      simp [h1, h2]
    · by_cases h2 : b < a
      · simp [h1, h2]
      · simp [h1, h2, cb_swap ar bs]
theorem cb_zero : ∀ (a b : List UInt8), Lib.compareBytes a b = 0 → a = b
  | [], [], _ => rfl
  | [], _ :: _, h => by simp [Lib.compareBytes] at h
  | _ :: _, [], h => by simp [Lib.compareBytes] at h
  | a :: ar, b :: bs, h => by
    simp only [Lib.compareBytes] at h
    by_cases h1 : a < b
    · simp [h1] at h
    · by_cases h2 : b < a
      · simp [h1, h2] at h
      · simp [h1, h2] at h
        rw [UInt8.le_antisymm (UInt8.not_lt.1 h2) (UInt8.not_lt.1 h1), cb_zero ar bs h]
theorem cb_same : ∀ (a : List UInt8), Lib.compareBytes a a = 0
  | [] => rfl
  | a :: ar => by simp [Lib.compareBytes, UInt8.lt_irrefl, cb_same ar]
theorem cb_trans : ∀ (a b c : List UInt8), Lib.compareBytes a b < 0 → Lib.compareBytes b c < 0 → Lib.compareBytes a c < 0
  | [], [], _, h, _ => by simp [Lib.compareBytes] at h
  | [], _ :: _, [], _, k => by simp [Lib.compareBytes] at k
  | [], _ :: _, _ :: _, _, _ => by simp [Lib.compareBytes]
  | _ :: _, [], _, h, _ => by simp [Lib.compareBytes] at h
  | _ :: _, _ :: _, [], _, k => by simp [Lib.compareBytes] at k
  | a :: ar, b :: bs, c :: cs, h, k => by
    simp only [Lib.compareBytes] at h k ⊢
    by_cases h1 : a < b
    · by_cases k1 : b < c
      · simp [UInt8.lt_trans h1 k1]
      · by_cases k2 : c < b
        · simp [k1, k2] at k
        · have e : b = c := UInt8.le_antisymm (UInt8.not_lt.1 k2) (UInt8.not_lt.1 k1)
          subst e
          simp [h1]
    · by_cases h2 : b < a
      · simp [h1, h2] at h
      · have e : a = b := UInt8.le_antisymm (UInt8.not_lt.1 h2) (UInt8.not_lt.1 h1)
        subst e
        simp only [h1, if_false] at h
        by_cases k1 : a < c
        · simp [k1]
        · by_cases k2 : c < a
          · simp [k1, k2] at k
          · simp only [k1, k2, if_false] at k ⊢
            exact cb_trans ar bs cs h k
theorem less_both (x y : List Int) (h1 : lessB x y = true) (h2 : lessB y x = true) : False := by
  simp only [lessB, decide_eq_true_eq] at h1 h2
  rw [cb_swap] at h2
  omega
theorem less_trans {x y z : List Int} (h1 : lessB x y = true) (h2 : lessB y z = true) : lessB x z = true := by
  simp only [lessB, decide_eq_true_eq] at *
  exact cb_trans _ _ _ h1 h2
theorem bytes_inj : ∀ {x y : List Int}, Byt x → Byt y → Lib.bytesOf x = Lib.bytesOf y → x = y
  | [], [], _, _, _ => rfl
  | [], _ :: _, _, _, h => by simp [Lib.bytesOf] at h
  | _ :: _, [], _, _, h => by simp [Lib.bytesOf] at h
  | a :: x, b :: y, hx, hy, h => by
    have ha := hx a (by simp)
    have hb := hy b (by simp)
    simp only [Lib.bytesOf, List.map_cons, List.cons.injEq] at h
    have e : a = b := by
      have := congrArg UInt8.toNat h.1
      simp at this
      omega
    rw [e, bytes_inj (fun z hz => hx z (by simp [hz])) (fun z hz => hy z (by simp [hz])) h.2]
theorem less_eq {x y : List Int} (hx : Byt x) (hy : Byt y) : (!lessB x y && !lessB y x) = decide (x = y) := by
  by_cases e : x = y
  · subst e
    simp [lessB, cb_same]
  · have : Lib.compareBytes (Lib.bytesOf x) (Lib.bytesOf y) ≠ 0 := fun h => e (bytes_inj hx hy (cb_zero _ _ h))
    have k := cb_swap (Lib.bytesOf x) (Lib.bytesOf y)
    simp [lessB, e]
    omega
/-- the world has grown, and some draws are over: nothing that lay has turned -/
def Gw (w w' : World) : Prop := ∃ q os', w' = Go.Sort.grow (w.drewN q) os'
theorem Gw.refl (w : World) : Gw w w := ⟨0, #[], by rw [Go.Sort.grow_empty]; rfl⟩
theorem Gw.alloc (w : World) (o : Obj) : Gw w (w.alloc o) := ⟨0, #[o], Go.Sort.alloc_eq_grow w o⟩
theorem Gw.drewN (w : World) (n : Nat) : Gw w (w.drewN n) := ⟨n, #[], (Go.Sort.grow_empty _).symm⟩
theorem Gw.trans {u v w : World} (h : Gw u v) (g : Gw v w) : Gw u w := by
  obtain ⟨q, os, rfl⟩ := h
  obtain ⟨q', os', rfl⟩ := g
  refine ⟨q + q', os ++ os', ?_⟩
  rw [← Go.Sort.grow_grow]
  simp [Go.Sort.grow, World.drewN, Nat.add_assoc]
theorem Gw.below {w w' : World} (h : Gw w w') : Below w.heap.size w w' := by
  obtain ⟨q, os, rfl⟩ := h
  refine ⟨rfl, rfl, rfl, by simp [Go.Sort.grow, World.drewN], fun k hk => ?_⟩
  simp only [Go.Sort.grow]
  exact Array.getElem?_append_left hk
attribute [local irreducible] bvals
set_option maxHeartbeats 1000000 in
theorem uLess (xs ys : List Int) (w : World) (hx : xs.length = 8) (hy : ys.length = 8) :
    Calls Try.prog 44 #[.agg (bvals xs).toArray, .agg (bvals ys).toArray] w fun e w' => e = .returned (.bool (lessB xs ys)) ∧ Gw w w' := by
  have HXL := Lib.hid hx
  have HYL := Lib.hid hy
  clear hx hy
  obtain ⟨S, hS⟩ : ∃ S, w.heap.size = S := ⟨_, rfl⟩
  have T0 : Hid (BL (w.alloc (Obj.cells (bvals xs).toArray 36)) S (bvals xs) 36) := by subst hS; exact heap_alloc_last w _
  have T1 : Hid (BL ((w.alloc (Obj.cells (bvals xs).toArray 36)).alloc (Obj.cells (bvals ys).toArray 36)) (S + 1) (bvals ys) 36) := by
    subst hS
    have := heap_alloc_last (w.alloc (Obj.cells (bvals xs).toArray 36)) (Obj.cells (bvals ys).toArray 36)
    simp only [World.size_alloc] at this
    exact this
  have T2 : Hid (BL ((w.alloc (Obj.cells (bvals xs).toArray 36)).alloc (Obj.cells (bvals ys).toArray 36)) S (bvals xs) 36) := (Below.heap_alloc _ _ _ (lt_of_block T0.out)).trans T0.out
  have B0 : Hid (Gw w ((w.alloc (Obj.cells (bvals xs).toArray 36)).alloc (Obj.cells (bvals ys).toArray 36))) := (Gw.alloc _ _).trans (Gw.alloc _ _)
  have hc : ∀ w' : World, w'.heap = ((w.alloc (Obj.cells (bvals xs).toArray 36)).alloc (Obj.cells (bvals ys).toArray 36)).heap → Calls Try.prog 50 #[.slice (some ⟨S, 0, none⟩) 8 8, .slice (some ⟨S + 1, 0, none⟩) 8 8] w' fun e w'' => e = .returned (.int .i64 (Lib.compareBytes (Lib.bytesOf xs) (Lib.bytesOf ys))) ∧ w'' = w' := fun w' hh =>
    uCmpB xs ys ⟨S, 0, none⟩ ⟨S + 1, 0, none⟩ 8 8 8 8 w' HXL.out HYL.out (bl_at (t := 36) (by unfold BL; rw [hh]; exact T2.out)) (bl_at (t := 36) (by unfold BL; rw [hh]; exact T1.out))
  have HC := Lib.hid hc
  clear hc T0
  go_enter Try.func44, Try.ntmps44
  go_wp2_with fail
  go_quiet (first | (go_at_call 50; refine Calls.quiet_of_same (HC.out _ rfl)))
  go_wp2
  go_ret
  exact ⟨rfl, B0.out.trans (Gw.drewN _ _)⟩
end Go.Proofs.Ytdggnmlhgglccaa
