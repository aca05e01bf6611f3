/-
  Words of 32 bits: turned, right; arrays of words and the digest in memory; begin, rounds.
-/
import Derived.Test.YtimfinachecadaaDoorH0
import Derived.Great.BuildSlice
import Derived.Deep.WholeRow
namespace Go.Proofs.YtimfinachecadaaDoor
open Go.RowKit

def rr (x : Int) (n : Nat) : Int := bits .or .u32 (x / 2 ^ n) (x * 2 ^ (32 - n) % 4294967296)
theorem bits_or_comm (k : IntKind) (x y : Int) : bits .or k x y = bits .or k y x := by
  show k.wrap ((BitVec.ofInt _ x ||| BitVec.ofInt _ y).toNat : Int) = k.wrap ((BitVec.ofInt _ y ||| BitVec.ofInt _ x).toNat : Int)
  rw [BitVec.or_comm]
theorem c28 (x : Int) (n : Nat) (w : World) (hn : n ≤ 32) : Calls Tryd.prog 30 #[.int .u32 x, .int .u64 n] w fun e w' => e = .returned (.int .u32 (rr x n)) ∧ w = w' := by
  have h1 : min n 32 = n := by omega
  have h2 : IntKind.u64.wrap (32 - (n : Int)) = ((32 - n : Nat) : Int) := by rw [IntKind.wrap_u64]; omega
  have h3 : min (32 - n) 32 = 32 - n := by omega
  go_enter Tryd.func30, Tryd.ntmps30
  go_wp2
  go_ret
  exact ⟨rfl, rfl⟩
theorem c42 (x : Int) (n : Nat) (k : Int) (w : World) (hn : n ≤ 32) (hk : bits .and .u64 (IntKind.u64.wrap k) 31 = ((32 - n : Nat) : Int)) : Calls Tryd.prog 35 #[.int .u32 x, .int .i64 k] w fun e w' => e = .returned (.int .u32 (rr x n)) ∧ w = w' := by
  obtain ⟨m, hm⟩ : ∃ m : Nat, 32 - n = m := ⟨_, rfl⟩
  rw [hm] at hk
  have h3 : min m 32 = m := by omega
  have h4 : IntKind.u64.wrap (32 - (m : Int)) = (n : Int) := by rw [IntKind.wrap_u64]; omega
  have h1 : min n 32 = n := by omega
  have HM := Lib.hid hm
  clear hm
  go_enter Tryd.func35, Tryd.ntmps35
  go_wp2
  go_ret
  refine ⟨?_, rfl⟩
  show Ending.returned (Value.int .u32 (bits .or .u32 (x * 2 ^ m % 4294967296) (x / 2 ^ n))) = _
  unfold rr
  rw [HM.out, bits_or_comm]
theorem c39 (x : Int) (n : Nat) (k kn : Int) (w : World) (hn : n ≤ 32) (h1 : IntKind.i64.wrap (-k) = kn) (hk : bits .and .u64 (IntKind.u64.wrap kn) 31 = ((32 - n : Nat) : Int)) : Calls Tryd.prog 34 #[.int .u32 x, .int .i64 k] w fun e w' => e = .returned (.int .u32 (rr x n)) ∧ w = w' := by
  have C := Lib.hid (c42 x n kn w hn hk)
  clear hk
  go_enter Tryd.func34, Tryd.ntmps34
  go_wp2_with fail
  refine C.out.mono ?_; rintro e w' ⟨rfl, rfl⟩
  go_wp2
  go_ret
  exact ⟨rfl, rfl⟩
/-- turned to the right by k -/
def rt (x k : Int) : Int := rr x k.toNat
def okR (k : Int) : Bool := decide (0 ≤ k ∧ k ≤ 32) && decide (IntKind.i64.wrap (-k) = -k) && decide (bits .and .u64 (IntKind.u64.wrap (-k)) 31 = ((32 - k.toNat : Nat) : Int))
theorem r39 (x k : Int) (w : World) (h : okR k = true) : Calls Tryd.prog 34 #[.int .u32 x, .int .i64 k] w fun e w' => e = .returned (.int .u32 (rt x k)) ∧ w = w' := by
  simp only [okR, Bool.and_eq_true, decide_eq_true_eq] at h
  exact c39 x k.toNat k (-k) w (by omega) h.1.2 h.2
theorem r28 (x k : Int) (w : World) (h : okR k = true) : Calls Tryd.prog 30 #[.int .u32 x, .int .u64 k] w fun e w' => e = .returned (.int .u32 (rt x k)) ∧ w = w' := by
  simp only [okR, Bool.and_eq_true, decide_eq_true_eq] at h
  have e : k = (k.toNat : Int) := by omega
  have := c28 x k.toNat w (by omega)
  rw [← e] at this
  exact this
theorem okR7 : okR 7 = true := by decide
theorem okR25 : okR 25 = true := by decide

def uvals (xs : List Int) : List Value := xs.map (Value.int .u32)
def ua (xs : List Int) : Array Value := (uvals xs).toArray
def ba (xs : List Int) : Array Value := (bvals xs).toArray
/-- a digest's cells -/
def da (mx bg : List Int) (n : Int) : Array Value := (uvals mx ++ (bvals bg ++ [Value.int .u64 n])).toArray
def iv : List Int := [1779033703, 3144134277, 1013904242, 2773480762, 1359893119, 2600822924, 528734635, 1541459225]
def zeros (n : Nat) : List Int := List.replicate n 0
def kk : List Int := [1116352408, 1899447441, 3049323471, 3921009573, 961987163, 1508970993, 2453635748, 2870763221, 3624381080, 310598401, 607225278, 1426881987, 1925078388, 2162078206, 2614888103, 3248222580, 3835390401, 4022224774, 264347078, 604807628, 770255983, 1249150122, 1555081692, 1996064986, 2554220882, 2821834349, 2952996808, 3210313671, 3336571891, 3584528711, 113926993, 338241895, 666307205, 773529912, 1294757372, 1396182291, 1695183700, 1986661051, 2177026350, 2456956037, 2730485921, 2820302411, 3259730800, 3345764771, 3516065817, 3600352804, 4094571909, 275423344, 430227734, 506948616, 659060556, 883997877, 958139571, 1322822218, 1537002063, 1747873779, 1955562222, 2024104815, 2227730452, 2361852424, 2428436474, 2756734187, 3204031479, 3329325298]

theorem sz {t : TypeId} {n : Nat} (h : (Tryd.prog.info? t).map (·.size) = some n) {c : Array Value} (hc : c.size = n) : (Tryd.prog.info? t).map (·.size) = some c.size := by rw [hc]; exact h
theorem s23 : (Tryd.prog.info? 54).map (·.size) = some 32 := by kernel_rfl
theorem s27 : (Tryd.prog.info? 23).map (·.size) = some 8 := by kernel_rfl
theorem s44 : (Tryd.prog.info? 57).map (·.size) = some 8 := by kernel_rfl
theorem s45 : (Tryd.prog.info? 58).map (·.size) = some 64 := by kernel_rfl
theorem s48 : (Tryd.prog.info? 61).map (·.size) = some 73 := by kernel_rfl
theorem s55 : (Tryd.prog.info? 66).map (·.size) = some 64 := by kernel_rfl
theorem z48 (w : World) : (zeroValue 61).run Tryd.prog w = .ok (.agg (da (zeros 8) (zeros 64) 0)) w := by kernel_rfl
theorem z55 (w : World) : (zeroValue 66).run Tryd.prog w = .ok (.agg (ua (zeros 64))) w := by kernel_rfl
theorem z45 (w : World) : (zeroValue 58).run Tryd.prog w = .ok (.agg (ba (zeros 64))) w := by kernel_rfl
theorem z23 (w : World) : (zeroValue 54).run Tryd.prog w = .ok (.agg (ba (zeros 32))) w := by kernel_rfl
theorem z44 (w : World) : (zeroValue 57).run Tryd.prog w = .ok (.agg (ua (zeros 8))) w := by kernel_rfl
theorem bu44 (w : World) : (Instr.build 57 #[(0, .int .u32 1779033703), (1, .int .u32 3144134277), (2, .int .u32 1013904242), (3, .int .u32 2773480762), (4, .int .u32 1359893119), (5, .int .u32 2600822924), (6, .int .u32 528734635), (7, .int .u32 1541459225)]).run Tryd.prog w = .ok (.agg (ua iv)) w := run_build w 57 _ _ (by kernel_rfl)
theorem bu48 (w : World) : (Instr.build 61 #[(0, .agg (ua iv))]).run Tryd.prog w = .ok (.agg (da iv (zeros 64) 0)) w := run_build w 61 _ _ (by kernel_rfl)
theorem ua_size (xs : List Int) : (ua xs).size = xs.length := by simp [ua, uvals]
theorem ba_size (xs : List Int) : (ba xs).size = xs.length := by simp [ba, bvals]
theorem da_size (mx bg : List Int) (n : Int) (h : mx.length = 8) (h2 : bg.length = 64) : (da mx bg n).size = 73 := by simp [da, uvals, bvals, h, h2]
theorem ua_one (xs : List Int) : (ua xs).all (·.oneCell') = true := by simp [ua, uvals, Value.oneCell']
theorem ba_one (xs : List Int) : (ba xs).all (·.oneCell') = true := by simp [ba, bvals, Value.oneCell']
theorem da_one (mx bg : List Int) (n : Int) : (da mx bg n).all (·.oneCell') = true := by
  simp only [da, List.all_toArray, List.all_append]
  simp [uvals, bvals, Value.oneCell']
theorem zeros_len (n : Nat) : (zeros n).length = n := by simp [zeros]

set_option maxRecDepth 100000 in
theorem c22 (w : World) : Calls Tryd.prog 25 #[] w fun e w' => e = .returned (.agg (da iv (zeros 64) 0)) ∧ Below w.heap.size w w' := by
  have h1 := z48
  have h2 := bu44
  have h3 := bu48
  go_enter Tryd.func25, Tryd.ntmps25
  go_wp2_with (refine wpList_store_rowTo rfl 61 (.tmp 0) (.tmp 2) rfl rfl w.heap.size (da iv (zeros 64) 0) rfl rfl 61 (da (zeros 8) (zeros 64) 0) (heap_alloc_last w _) (sz s48 (da_size _ _ _ rfl rfl)) (by rw [da_size _ _ _ rfl rfl, da_size _ _ _ rfl rfl]) (da_one _ _ _) ?_)
  rw [World.setRow_alloc_new]
  go_wp2
  refine bodyPost_ret (v := .agg (da iv (zeros 64) 0)) (results_cell_row rfl _ _ w.heap.size 61 _ (0, 0) _ rfl (heap_alloc_last w _) Tryd.underlying61 rfl (sz s48 (da_size _ _ _ rfl rfl))) rfl ⟨rfl, (Below.refl _ _).alloc (Nat.le_refl _) _⟩
set_option maxRecDepth 100000 in
theorem c27 (w : World) : Calls Tryd.prog 29 #[] w fun e w' => e = .returned (.agg (ua kk)) ∧ Below w.heap.size w w' := by
  have h1 := z55
  have h2 : ∀ w : World, (Instr.build 66 (((kk.zipIdx 0).map fun x => (x.2, Value.int .u32 x.1)).toArray)).run Tryd.prog w = .ok (.agg (ua kk)) w := fun w => run_build w 66 _ _ (by kernel_rfl)
  go_enter Tryd.func29, Tryd.ntmps29
  go_wp2_with (first | (refine wpList_buildFlatArrTo rfl 66 56 64 _ rfl .u32 kk (some 1) rfl Tryd.underlying66 (by kernel_rfl) (by kernel_rfl) (by kernel_rfl) ?_) | (refine wpList_store_rowTo rfl 66 (.tmp 0) (.tmp 1) rfl rfl w.heap.size (ua kk) rfl rfl 66 (ua (zeros 64)) (heap_alloc_last w _) (sz s55 (ua_size _)) (by rw [ua_size, ua_size]; rfl) (ua_one _) ?_))
  rw [World.setRow_alloc_new]
  go_wp2
  refine bodyPost_ret (v := .agg (ua kk)) (results_cell_row rfl _ _ w.heap.size 66 _ (0, 0) _ rfl (heap_alloc_last w _) Tryd.underlying66 rfl (sz s55 (ua_size _))) rfl ⟨rfl, (Below.refl _ _).alloc (Nat.le_refl _) _⟩
end Go.Proofs.YtimfinachecadaaDoor
