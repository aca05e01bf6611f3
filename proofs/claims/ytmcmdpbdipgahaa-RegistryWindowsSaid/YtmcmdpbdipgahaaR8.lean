/-
  Total: the sum over the map, in whatever order.
-/
import Derived.Test.YtmcmdpbdipgahaaR7
import Derived.Laws.IdiomRangeMap
namespace Go.Proofs.Ytmcmdpbdipgahaa
open Go.RowKit Go.Maps
set_option maxRecDepth 100000
/-- what has come: of the numbers below k, those that are no longer left -/
def gone (left : Lit → Bool) (f : Nat → Int) : Nat → Int
  | 0 => 0
  | k + 1 => gone left f k + if left (.int .i64 (k : Int)) then 0 else f k
def sumN (f : Nat → Int) : Nat → Int
  | 0 => 0
  | k + 1 => sumN f k + f k
theorem gone_all {left : Lit → Bool} (h : ∀ l, left l = false) (f : Nat → Int) : ∀ k, gone left f k = sumN f k
  | 0 => rfl
  | k + 1 => by unfold gone sumN; rw [gone_all h f k, h]; rfl
theorem gone_none {left : Lit → Bool} (f : Nat → Int) : ∀ k, (∀ i : Nat, i < k → left (.int .i64 (i : Int)) = true) → gone left f k = 0
  | 0, _ => rfl
  | k + 1, h => by
    unfold gone
    rw [gone_none f k fun i hi => h i (by omega), h k (by omega)]
    rfl
theorem same_int (i j : Int) : (Lit.int .i64 i).sameKey (.int .i64 j) = decide (i = j) := by
  by_cases e : i = j
  · subst e
    rw [WideAt.sameKey_self (show WideAt.IsKeyLit (Lit.int .i64 i) from trivial), decide_eq_true rfl]
  · rw [sameKey_ne (fun h => e (by simpa using h)), decide_eq_false e]
theorem gone_step {left : Lit → Bool} (f : Nat → Int) (j : Nat) (h : left (.int .i64 (j : Int)) = true) : ∀ k, gone (fun z => left z && !z.sameKey (.int .i64 (j : Int))) f k = gone left f k + if j < k then f j else 0
  | 0 => rfl
  | k + 1 => by
    unfold gone
    rw [gone_step f j h k, same_int]
    rcases Nat.lt_trichotomy k j with e | e | e
    · rw [decide_eq_false (by omega : ¬ (k : Int) = (j : Int)), if_neg (show ¬ j < k by omega), if_neg (show ¬ j < k + 1 by omega)]
      simp only [Bool.not_false, Bool.and_true, Int.add_zero]
    · subst e
      rw [decide_eq_true rfl, h, if_neg (show ¬ k < k by omega), if_pos (show k < k + 1 by omega)]
      simp
    · rw [decide_eq_false (by omega : ¬ (k : Int) = (j : Int)), if_pos (show j < k by omega), if_pos (show j < k + 1 by omega)]
      simp only [Bool.not_false, Bool.and_true]
      rw [Int.add_assoc, Int.add_comm (f j), ← Int.add_assoc]
theorem gone_bnd {left : Lit → Bool} {f : Nat → Int} {B : Int} (hB : 0 ≤ B) : ∀ k, (∀ i : Nat, i < k → 0 ≤ f i ∧ f i ≤ B) → 0 ≤ gone left f k ∧ gone left f k ≤ k * B
  | 0, _ => by unfold gone; simp
  | k + 1, h => by
    have h1 := gone_bnd (left := left) hB k fun i hi => h i (by omega)
    have h2 := h k (by omega)
    unfold gone
    have h3 : ((k + 1 : Nat) : Int) * B = k * B + B := by rw [Int.natCast_add, Int.add_mul]; simp
    rw [h3]
    generalize (k : Int) * B = z at *
    by_cases e : left (.int .i64 (k : Int)) = true
    · rw [if_pos e]; omega
    · rw [if_neg e]; omega
theorem sd_bal {w : World} {b : Nat} {x : Sm} {T : TypeId} (h : BL w b (sdV x) T) : w.cell? ⟨b, 5, none⟩ = some (.int .i64 x.s.bal) := sd_at h (i := 5) rfl
def balF (xs : List Sm) (i : Nat) : Int := (xs.getD i sm0).s.bal
attribute [local irreducible] sdV z0 fnS
set_option maxHeartbeats 4000000 in
theorem rTotal (S : Nat) (m : Option Nat) (xs : List Sm) (w : World) (h : RegM w S m xs) (hl : xs.length ≤ 100) (hb : ∀ i, i < xs.length → 0 ≤ balF xs i ∧ balF xs i ≤ 1125899906842624) :
    Calls Try.prog 27 #[.pointer (some ⟨S, 0, none⟩)] w fun e w' => e = .returned (.int .i64 (sumN (balF xs) xs.length)) ∧ Below w.heap.size w w' := by
  have c0 := h.c0
  have hm := h.map
  cases m with
  | none =>
    have hm : xs = [] := hm
    subst hm
    clear h hb hl
    have hrg := run_range_nilMap (P := Try.prog) w 74 3 53 Try.underlying74
    have hnx : ∀ ty, (Instr.next (.pointer (some ⟨w.heap.size, 0, none⟩)) false ty).run Try.prog (w.alloc (.mapIter none 0 #[] 0)) = _ := fun ty => run_next_nilMap _ ty 0 0 #[]
    go_enter Try.func27, Try.ntmps27
    go_wp2
    refine wp_loop_rounds 1 ?_
    rw [rounds_succ]
    go_wp2
    go_ret
    exact ⟨rfl, (Below.refl _ w).alloc (Nat.le_refl _) _⟩
  | some b =>
    have hm : MapV w b xs.length (fnS xs) := hm
    obtain ⟨D, hown, hsz, hD, hpl⟩ := hm
    have HD := Lib.hid hD
    have HP := Lib.hid hpl
    have HB := Lib.hid hb
    have HL := Lib.hid hl
    obtain ⟨N, hN⟩ : ∃ N, w.heap.size = N := ⟨_, rfl⟩
    have HN := Lib.hid hN
    have hz : ∀ w, (zeroValue 53).run Try.prog w = .ok (.agg (sdV sm0).toArray) w := z53
    have s0 : Hid ((sdV sm0).length = 42) := Lib.hid (sd_len sm0)
    clear h hb hl hD hpl
    go_enter Try.func27, Try.ntmps27
    go_wp2_with (first
      | (at_range; refine wpList_range_own _ rfl _ 74 rfl 3 53 ki3 Try.underlying74 _ b xs.length _ rfl hown ?_; intro w0 hrg0 hg0 hs0)
      | fail)
    go_frame
    rw [hN] at hrg0 hs0 ⊢
    go_loopw [3] (fun sv wr => ∃ (left : Lit → Bool) (cnt : Nat), wr.ranges Try.prog 3 (plR 42) b N xs.length D left cnt ∧ sv = .int .i64 (gone left (balF xs) xs.length) ∧ Below N w wr) (fun _ wr => wr.rangeLeft b N)
    case atStart =>
      refine ⟨_, _, hrg0, ?_, (Below.refl _ w).grown hg0 (Nat.le_of_eq HN.out.symm) (fun j hj => by cases hj)⟩
      rw [gone_none]
      intro i hi
      rw [(HD.out i (by unfold wfI; have := HL.out; omega)).1, (fn_get xs i).2, decide_eq_true (by omega)]
    case round =>
      obtain ⟨left, cnt, hrg, rfl, hbel⟩ := hrel
      have HG : Hid (0 ≤ gone left (balF xs) xs.length ∧ gone left (balF xs) xs.length ≤ xs.length * 1125899906842624) := Lib.hid (gone_bnd (by decide) _ HB.out)
      go_wp2_with (first
        | (at_next; refine wpList_next_ranges _ rfl _ rfl 3 ki3 (plR 42) (Value.int .i64) (fun c : List Value => Value.agg c.toArray) (fun key kl hk => by obtain ⟨k, e, _⟩ := key3_inv hk; exact ⟨k, e⟩) (fun v y hv => by obtain ⟨c, e, _⟩ := plR_inv hv; exact ⟨c, e⟩) b N xs.length _ _ _ rfl hrg ?_ ?_)
        | fail)
      · intro hc0 hl0
        rw [gone_all hl0]
        go_wp2
        go_ret
        exact ⟨rfl, by rw [HN.out]; exact hbel⟩
      · intro k c kl yd yp w2 cnt2 hkey hlk hv hat hrg2 hlt hg2 hs2 hen
        obtain ⟨c', e1, hc, e2⟩ := plR_inv hv
        obtain ⟨k', e3, rfl, hwf⟩ := key3_inv hkey
        cases e3
        have e1 := agg_inj e1
        subst e1
        obtain ⟨rfl, rfl⟩ := Prod.mk.inj e2
        have hh := has_true_of_atKey hat
        obtain ⟨d1, d2⟩ := HD.out k hwf
        rw [d1, (fn_get xs k).2] at hh
        have hk := of_decide_eq_true hh
        obtain ⟨j, rfl⟩ : ∃ j : Nat, k = (j : Int) := ⟨k.toNat, by omega⟩
        have hF : fnS xs (j : Int) = some (sdV (xs.getD j sm0)) := by unfold fnS; rw [if_pos hk, Int.toNat_natCast]
        have hcx : sdV (xs.getD j sm0) = c := by
          have e4 := (hat (pD z0)).symm.trans d2
          rw [hF] at e4
          exact (pD_inj hc (HP.out _ _ hF) e4).symm
        have WS : Hid (wrap64 (gone left (balF xs) xs.length + (xs.getD j sm0).s.bal) = gone (fun z => left z && !z.sameKey (.int .i64 (j : Int))) (balF xs) xs.length) := Lib.hid (by
          rw [gone_step _ _ hlk, if_pos (by omega)]
          have h1 := HB.out j (by omega)
          have h2 := HG.out
          have h3 := HL.out
          have h4 : balF xs j = (xs.getD j sm0).s.bal := rfl
          rw [h4] at h1 ⊢
          have h5 : (xs.length : Int) * 1125899906842624 ≤ 100 * 1125899906842624 := Int.mul_le_mul_of_nonneg_right (by omega) (by decide)
          generalize (xs.length : Int) * 1125899906842624 = z at *
          unfold wrap64; omega)
        obtain ⟨x, hx⟩ : ∃ x, xs.getD j sm0 = x := ⟨_, rfl⟩
        rw [hx] at hcx WS
        subst hcx
        have BW2 : Hid (Below N w w2) := Lib.hid (hbel.grown hg2 (by rw [← HN.out]; exact hbel.size) fun j hj => by cases hj; exact Nat.le_refl _)
        have hsx : Hid ((sdV x).length = 42) := Lib.hid (sd_len x)
        have R3 : Hid (BL ((w2.alloc (Obj.cells (sdV sm0).toArray 53)).setRow w2.heap.size (sdV x).toArray) w2.heap.size (sdV x) 53) := Lib.hid (setRow_heap _ _ _ _ _ _ (heap_alloc_last w2 _))
        have hb3 : Below w2.heap.size w2 ((w2.alloc (Obj.cells (sdV sm0).toArray 53)).setRow w2.heap.size (sdV x).toArray) := below_setRow ((Below.refl _ w2).alloc (Nat.le_refl _) _) (Nat.le_refl _) _
        have RG3 := Lib.hid (hrg2.kept (row := none) ⟨hb3.os, hb3.tape, hb3.output, hb3.size, fun k hk _ => hb3.block k hk⟩ (by simp) (by simp))
        have B3 := Lib.hid (BW2.out.trans (hb3.mono (by rw [hs2, ← HN.out]; exact hbel.size)))
        have HLT := Lib.hid hlt
        have RL := Lib.hid hrg.left_eq
        have c5 := sd_bal R3.out
        obtain ⟨w3, hw3⟩ : ∃ w3, (w2.alloc (Obj.cells (sdV sm0).toArray 53)).setRow w2.heap.size (sdV x).toArray = w3 := ⟨_, rfl⟩
        rw [hw3] at R3 RG3 B3 c5
        clear hb3 hv hkey hat hh d1 d2 hF hk hc hlk hlt hrg hrg2 hx hwf hg2 hs2 hbel
        go_wp2_with (first
          | (refine wpList_store_rowTo rfl 53 (.tmp 5) (.tmp 16) rfl rfl w2.heap.size (sdV x).toArray rfl rfl 53 _ (heap_alloc_last _ _) (szA sz53 hsx.out) (by rw [List.size_toArray, List.size_toArray, hsx.out, s0.out]) (all_oneCell_toArray (sd_one x)) ?_; rw [hw3])
          | fail)
        go_roundw
        case rel => exact ⟨_, cnt2, RG3.out, congrArg _ WS.out, B3.out⟩
        case measure => rw [RG3.out.left_eq, RL.out]; exact HLT.out
end Go.Proofs.Ytmcmdpbdipgahaa
