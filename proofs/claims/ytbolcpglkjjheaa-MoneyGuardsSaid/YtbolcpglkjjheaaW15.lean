/-
  The walk of MoneyGuards.
-/
import Derived.Test.YtbolcpglkjjheaaW14
import Derived.Laws.EntriesVeiled
namespace Go.Proofs.Ytbolcpglkjjheaa
open Go.RowKit

theorem walkGuardsA (a : Option Addr) (len cap : Nat) (deep : Int) (w : World) (h : 100 < len) (hm : len ≤ 9223372036854775807) :
    Calls Try.prog 5 #[.slice a len cap, .int .u8 deep] w fun e w' => e = .returned (.bool true) ∧ Below w.heap.size w w' := by
  go_enter Try.func5, Try.ntmps5
  go_wp2_with (go_at_call 8; refine (c8 _).mono ?_; rintro e w' ⟨rfl, rfl⟩)
  go_ret
  exact ⟨rfl, ((Below.refl _ _).alloc (Nat.le_refl _) _).alloc (by simp) _⟩

theorem apart (w : World) : Apart w w.heap.size (w.heap.size + 1 + 1) (w.heap.size + 1 + 1 + 1) := ⟨by omega, by omega, by omega, by omega, by omega, by omega⟩
theorem mem_begin (a : Option Addr) (len cap : Nat) (deep : Int) (w : World) : Mem w w.heap.size (w.heap.size + 1 + 1) (w.heap.size + 1 + 1 + 1) (.slice a len cap) 0 0 (((((w.alloc (Obj.cells #[.slice a len cap] 27)).alloc (Obj.cells #[.int .u8 deep] 5)).alloc (Obj.cells #[.int .i64 0] 3)).alloc (Obj.cells #[.int .i64 0] 3)).alloc (Obj.cells #[.func (.func 17) #[] #[.pointer (some ⟨w.heap.size + 1 + 1 + 1 + 1, 0, none⟩), .pointer (some ⟨w.heap.size, 0, none⟩), .pointer (some ⟨w.heap.size + 1 + 1, 0, none⟩), .pointer (some ⟨w.heap.size + 1 + 1 + 1, 0, none⟩)]] 31)) := by
  refine ⟨?_, ?_, ?_, ?_⟩
  · exact (((((Below.refl _ _).alloc (Nat.le_refl _) _).alloc (by simp) _).alloc (by simp; omega) _).alloc (by simp; omega) _).alloc (by simp; omega) _
  · rw [Below.heap_alloc _ _ _ (by simp; omega), Below.heap_alloc _ _ _ (by simp; omega), Below.heap_alloc _ _ _ (by simp; omega), Below.heap_alloc _ _ _ (by simp)]
    exact heap_alloc_new w _
  · rw [Below.heap_alloc _ _ _ (by simp), Below.heap_alloc _ _ _ (by simp)]
    rw [show w.heap.size + 1 + 1 = ((w.alloc (Obj.cells #[.slice a len cap] 27)).alloc (Obj.cells #[.int .u8 deep] 5)).heap.size by simp]
    exact heap_alloc_new _ _
  · rw [Below.heap_alloc _ _ _ (by simp)]
    rw [show w.heap.size + 1 + 1 + 1 = (((w.alloc (Obj.cells #[.slice a len cap] 27)).alloc (Obj.cells #[.int .u8 deep] 5)).alloc (Obj.cells #[.int .i64 0] 3)).heap.size by simp]
    exact heap_alloc_new _ _
theorem gf (a : Option Addr) (len cap : Nat) (deep : Int) (w : World) : ((((((w.alloc (Obj.cells #[.slice a len cap] 27)).alloc (Obj.cells #[.int .u8 deep] 5)).alloc (Obj.cells #[.int .i64 0] 3)).alloc (Obj.cells #[.int .i64 0] 3)).alloc (Obj.cells #[.func (.func 17) #[] #[.pointer (some ⟨w.heap.size + 1 + 1 + 1 + 1, 0, none⟩), .pointer (some ⟨w.heap.size, 0, none⟩), .pointer (some ⟨w.heap.size + 1 + 1, 0, none⟩), .pointer (some ⟨w.heap.size + 1 + 1 + 1, 0, none⟩)]] 31))).cell? ⟨w.heap.size + 1 + 1 + 1 + 1, 0, none⟩ = some (.func (.func 17) #[] #[.pointer (some ⟨w.heap.size + 1 + 1 + 1 + 1, 0, none⟩), .pointer (some ⟨w.heap.size, 0, none⟩), .pointer (some ⟨w.heap.size + 1 + 1, 0, none⟩), .pointer (some ⟨w.heap.size + 1 + 1 + 1, 0, none⟩)]) := by
  simp [go_sem]
theorem gd (a : Option Addr) (len cap : Nat) (deep : Int) (w : World) : ((((((w.alloc (Obj.cells #[.slice a len cap] 27)).alloc (Obj.cells #[.int .u8 deep] 5)).alloc (Obj.cells #[.int .i64 0] 3)).alloc (Obj.cells #[.int .i64 0] 3)).alloc (Obj.cells #[.func (.func 17) #[] #[.pointer (some ⟨w.heap.size + 1 + 1 + 1 + 1, 0, none⟩), .pointer (some ⟨w.heap.size, 0, none⟩), .pointer (some ⟨w.heap.size + 1 + 1, 0, none⟩), .pointer (some ⟨w.heap.size + 1 + 1 + 1, 0, none⟩)]] 31))).cell? ⟨w.heap.size + 1, 0, none⟩ = some (.int .u8 deep) := by
  simp [go_sem]
theorem baseY (a : Option Addr) (len cap : Nat) (deep : Int) (xs : List Int) (w : World) (hlen : xs.length = len) (h5 : len ≤ 100) (hr : Row w a xs) (hok : okB xs = true) :
    Calls Try.prog 17 #[.int .i64 0, .pointer (some ⟨w.heap.size + 1 + 1 + 1 + 1, 0, none⟩), .pointer (some ⟨w.heap.size, 0, none⟩), .pointer (some ⟨w.heap.size + 1 + 1, 0, none⟩), .pointer (some ⟨w.heap.size + 1 + 1 + 1, 0, none⟩)] (((((w.alloc (Obj.cells #[.slice a len cap] 27)).alloc (Obj.cells #[.int .u8 deep] 5)).alloc (Obj.cells #[.int .i64 0] 3)).alloc (Obj.cells #[.int .i64 0] 3)).alloc (Obj.cells #[.func (.func 17) #[] #[.pointer (some ⟨w.heap.size + 1 + 1 + 1 + 1, 0, none⟩), .pointer (some ⟨w.heap.size, 0, none⟩), .pointer (some ⟨w.heap.size + 1 + 1, 0, none⟩), .pointer (some ⟨w.heap.size + 1 + 1 + 1, 0, none⟩)]] 31)) fun e w' => e = .returned (.tuple #[]) ∧ Mem w w.heap.size (w.heap.size + 1 + 1) (w.heap.size + 1 + 1 + 1) (.slice a len cap) xs.sum len w' := by
  rcases hr with rfl | ⟨b, off, rfl, hc⟩
  · obtain rfl : len = 0 := by simpa using hlen.symm
    exact c17z0 w _ _ _ _ cap a _ (mem_begin a 0 cap deep w)
  · exact c17zy w _ _ _ _ b off len cap xs _ hlen h5 hok (by rw [← hlen]; exact hc) (apart w) (mem_begin _ len cap deep w)
theorem baseN (a : Option Addr) (len cap g : Nat) (deep : Int) (xs : List Int) (w : World) (hlen : xs.length = len) (h5 : len ≤ 100) (hr : Row w a xs) (hg : g < len) (hs : Stop xs g) :
    Calls Try.prog 17 #[.int .i64 0, .pointer (some ⟨w.heap.size + 1 + 1 + 1 + 1, 0, none⟩), .pointer (some ⟨w.heap.size, 0, none⟩), .pointer (some ⟨w.heap.size + 1 + 1, 0, none⟩), .pointer (some ⟨w.heap.size + 1 + 1 + 1, 0, none⟩)] (((((w.alloc (Obj.cells #[.slice a len cap] 27)).alloc (Obj.cells #[.int .u8 deep] 5)).alloc (Obj.cells #[.int .i64 0] 3)).alloc (Obj.cells #[.int .i64 0] 3)).alloc (Obj.cells #[.func (.func 17) #[] #[.pointer (some ⟨w.heap.size + 1 + 1 + 1 + 1, 0, none⟩), .pointer (some ⟨w.heap.size, 0, none⟩), .pointer (some ⟨w.heap.size + 1 + 1, 0, none⟩), .pointer (some ⟨w.heap.size + 1 + 1 + 1, 0, none⟩)]] 31)) fun e w' => (∃ u v, e = .panicked [{ v := .iface u v, recovered := false }]) ∧ Mem w w.heap.size (w.heap.size + 1 + 1) (w.heap.size + 1 + 1 + 1) (.slice a len cap) (xs.take g).sum g w' := by
  rcases hr with rfl | ⟨b, off, rfl, hc⟩
  · exact absurd hg (by rw [← hlen]; simp)
  · exact c17zn w _ _ _ _ b off len cap g xs _ hlen h5 hg hs (by rw [← hlen]; exact hc) (apart w) (mem_begin _ len cap deep w)
theorem guardY (a : Option Addr) (len cap : Nat) (deep : Int) (xs : List Int) (w : World) (hlen : xs.length = len) (h5 : len ≤ 100) (hd0 : 0 ≤ deep) (hd1 : deep ≤ 255) (hr : Row w a xs) (hok : okB xs = true) :
    Calls Try.prog 19 #[.func (.func 20) #[] #[.pointer (some ⟨w.heap.size + 1 + 1 + 1 + 1, 0, none⟩), .pointer (some ⟨w.heap.size + 1, 0, none⟩)]] (((((w.alloc (Obj.cells #[.slice a len cap] 27)).alloc (Obj.cells #[.int .u8 deep] 5)).alloc (Obj.cells #[.int .i64 0] 3)).alloc (Obj.cells #[.int .i64 0] 3)).alloc (Obj.cells #[.func (.func 17) #[] #[.pointer (some ⟨w.heap.size + 1 + 1 + 1 + 1, 0, none⟩), .pointer (some ⟨w.heap.size, 0, none⟩), .pointer (some ⟨w.heap.size + 1 + 1, 0, none⟩), .pointer (some ⟨w.heap.size + 1 + 1 + 1, 0, none⟩)]] 31)) fun e w' => e = .returned (.bool true) ∧ Mem w w.heap.size (w.heap.size + 1 + 1) (w.heap.size + 1 + 1 + 1) (.slice a len cap) xs.sum len w' :=
  c19y 20 _ _ _ (fun _ => by kernel_rfl) (c20y _ _ _ _ _ deep _ _ (gf a len cap deep w) (gd a len cap deep w) hd0 hd1 (baseY a len cap deep xs w hlen h5 hr hok))
theorem guardN (a : Option Addr) (len cap g : Nat) (deep : Int) (xs : List Int) (w : World) (hlen : xs.length = len) (h5 : len ≤ 100) (hd0 : 0 ≤ deep) (hd1 : deep ≤ 255) (hr : Row w a xs) (hg : g < len) (hs : Stop xs g) :
    Calls Try.prog 19 #[.func (.func 20) #[] #[.pointer (some ⟨w.heap.size + 1 + 1 + 1 + 1, 0, none⟩), .pointer (some ⟨w.heap.size + 1, 0, none⟩)]] (((((w.alloc (Obj.cells #[.slice a len cap] 27)).alloc (Obj.cells #[.int .u8 deep] 5)).alloc (Obj.cells #[.int .i64 0] 3)).alloc (Obj.cells #[.int .i64 0] 3)).alloc (Obj.cells #[.func (.func 17) #[] #[.pointer (some ⟨w.heap.size + 1 + 1 + 1 + 1, 0, none⟩), .pointer (some ⟨w.heap.size, 0, none⟩), .pointer (some ⟨w.heap.size + 1 + 1, 0, none⟩), .pointer (some ⟨w.heap.size + 1 + 1 + 1, 0, none⟩)]] 31)) fun e w' => e = .returned (.bool false) ∧ Mem w w.heap.size (w.heap.size + 1 + 1) (w.heap.size + 1 + 1 + 1) (.slice a len cap) (xs.take g).sum g w' :=
  c19p 20 _ _ _ (fun _ => by kernel_rfl) (c20n _ _ _ _ _ deep _ _ (gf a len cap deep w) (gd a len cap deep w) hd0 hd1 (baseN a len cap g deep xs w hlen h5 hr hg hs))
end Go.Proofs.Ytbolcpglkjjheaa
