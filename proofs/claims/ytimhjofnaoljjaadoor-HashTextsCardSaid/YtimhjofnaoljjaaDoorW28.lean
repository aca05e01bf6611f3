/-
  What is read of a text is written again.
-/
import Derived.Test.YtimhjofnaoljjaaDoorW27
namespace Go.Proofs.YtimhjofnaoljjaaDoor
open Go.RowKit
theorem hexL_get : ∀ (xs : List Int) (k : Nat), k < xs.length → (hexL xs).getD (2 * k) 0 = hx (xs.getD k 0 / 16) ∧ (hexL xs).getD (2 * k + 1) 0 = hx (bits .and .u8 (xs.getD k 0) 15)
  | [], k, h => by simp at h
  | x :: xs, 0, _ => ⟨rfl, rfl⟩
  | x :: xs, k + 1, h => by
    have ih := hexL_get xs k (by simpa using h)
    rw [hexL_cons, show 2 * (k + 1) = 2 * k + 1 + 1 by omega]
    exact ih
theorem back_text (xs : List Int) (hb : Byt xs) : ∀ k, k ≤ xs.length → okU (hexL xs) k = true ∧ rdL (hexL xs) k = xs.take k
  | 0, _ => ⟨rfl, rfl⟩
  | k + 1, h => by
    obtain ⟨h1, h2⟩ := back_text xs hb k (by omega)
    obtain ⟨g1, g2⟩ := hexL_get xs k (by omega)
    have hr := byt_getD hb k (by omega)
    rw [and15 _ hr.1 hr.2] at g2
    have e1 := dv_hx' (xs.getD k 0 / 16) (by omega) (by omega)
    have e2 := dv_hx' (xs.getD k 0 % 16) (by omega) (by omega)
    constructor
    · rw [okU1, h1, prB, g1, g2, e1, e2, decide_eq_true (by omega), decide_eq_true (by omega)]
      rfl
    · rw [rdL1, h2, rdB, g1, g2, e1, e2, take_one xs k (by omega)]
      rw [show 16 * (xs.getD k 0 / 16) + xs.getD k 0 % 16 = xs.getD k 0 by omega]
theorem okT_hex (xs : List Int) (hl : xs.length = 8) (hb : Byt xs) : okT (hexL xs) = true := by
  unfold okT
  rw [(back_text xs hb 8 (by omega)).1, decide_eq_true (by rw [hexL_len, hl])]
  rfl
theorem rdV_hex (xs : List Int) (hl : xs.length = 8) (hb : Byt xs) : rdV (hexL xs) = xs := by
  rw [rdV_ok (okT_hex xs hl hb), (back_text xs hb 8 (by omega)).2, List.take_of_length_le (by omega)]
theorem text_back (l : List UInt8) (hl : l.length = 16) : ∀ k, k ≤ 8 → okU l k = true → hexL (rdL l k) = l.take (2 * k) ∧ Byt (rdL l k)
  | 0, _, _ => ⟨rfl, fun _ h => by simp [rdL] at h⟩
  | k + 1, h, ho => by
    rw [okU1, Bool.and_eq_true, prB, Bool.and_eq_true, decide_eq_true_eq, decide_eq_true_eq] at ho
    obtain ⟨ho, ha, hb⟩ := ho
    obtain ⟨h1, h2⟩ := text_back l hl k (by omega) ho
    have ra := dv_rng (l.getD (2 * k) 0)
    have rb := dv_rng (l.getD (2 * k + 1) 0)
    have xa := hx_dv' _ ha
    have xb := hx_dv' _ hb
    have e : rdB l k = 16 * dv (l.getD (2 * k) 0) + dv (l.getD (2 * k + 1) 0) := rfl
    constructor
    · rw [rdL1, hexL_one, h1, e, and15 _ (by omega) (by omega)]
      rw [show (16 * dv (l.getD (2 * k) 0) + dv (l.getD (2 * k + 1) 0)) / 16 = dv (l.getD (2 * k) 0) by omega, show (16 * dv (l.getD (2 * k) 0) + dv (l.getD (2 * k + 1) 0)) % 16 = dv (l.getD (2 * k + 1) 0) by omega, xa, xb]
      rw [show 2 * (k + 1) = 2 * k + 1 + 1 by omega]
      have g1 : l[2 * k]? = some (l.getD (2 * k) 0) := by
        rw [List.getElem?_eq_getElem (by omega)]
        simp [List.getD, show 2 * k < l.length by omega]
      have g2 : l[2 * k + 1]? = some (l.getD (2 * k + 1) 0) := by
        rw [List.getElem?_eq_getElem (by omega)]
        simp [List.getD, show 2 * k + 1 < l.length by omega]
      rw [List.take_add_one, List.take_add_one, g1, g2]
      simp
    · intro z hz
      rw [rdL1, List.mem_append] at hz
      rcases hz with hz | hz
      · exact h2 z hz
      · simp at hz
        subst hz
        rw [e]
        omega
theorem rdV_byt (l : List UInt8) : Byt (rdV l) := by
  cases h : okT l with
  | false => rw [rdV_bad h]; unfold Byt zeros; decide
  | true =>
    rw [rdV_ok h]
    rw [okT, Bool.and_eq_true, decide_eq_true_eq] at h
    exact (text_back l h.1 8 (Nat.le_refl _) h.2).2
theorem hex_rdV (l : List UInt8) (h : okT l = true) : hexL (rdV l) = l := by
  rw [rdV_ok h]
  rw [okT, Bool.and_eq_true, decide_eq_true_eq] at h
  rw [(text_back l h.1 8 (Nat.le_refl _) h.2).1, List.take_of_length_le (by omega)]
theorem sOf_data (s : ByteArray) : sOf s.data.toList = s := by
  apply ByteArray.ext
  simp [sOf]
theorem sOf_list (l : List UInt8) : (sOf l).toList = l := ByteArray.toList_mk l
theorem text17 (xs : List Int) (w : World) (hl : xs.length = 8) (hb : Byt xs) : Calls Tryd.prog 17 #[.agg (ba xs)] w fun e w' => e = .returned (.string (sOf (hexL xs))) ∧ Below w.heap.size w w' := c17 xs w hl hb
theorem read11 (l : List UInt8) (w : World) : Calls Tryd.prog 11 #[.string (sOf l)] w fun e w' => e = .returned (.tuple #[.agg (ba (rdV l)), .bool (okT l)]) ∧ Below w.heap.size w w' := c11 (sOf l) l w (by simp [sOf])
theorem read18 (l : List UInt8) (w : World) : Calls Tryd.prog 18 #[.string (sOf l)] w fun e w' => e = .returned (.tuple #[.agg (ba (rdV l)), .bool (okT l)]) ∧ Below w.heap.size w w' := c18 (sOf l) l w (by simp [sOf])
end Go.Proofs.YtimhjofnaoljjaaDoor
