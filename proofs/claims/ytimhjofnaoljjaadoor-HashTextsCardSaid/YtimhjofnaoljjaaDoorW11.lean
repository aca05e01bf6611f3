/-
  strings.Builder, strings.IndexByte (by the library's own contracts); Text.
-/
import Derived.Test.YtimhjofnaoljjaaDoorW9
import Derived.Shelf.Strings.Builder1
import Derived.Shelf.Small.Strs
namespace Go.Proofs.YtimhjofnaoljjaaDoor
open Go.RowKit Go.Shelf
def lays169_ren : Go.Shelf.Ren := ⟨fun | 169 => 30 | n => n, fun | 70 => 58 | 9 => 9 | 0 => 0 | 72 => 60 | 37 => 25 | 127 => 69 | 3 => 3 | 5 => 5 | n => n, fun | n => n⟩
theorem lays169 : Go.Proofs.Lays.n169 Tryd.prog lays169_ren := {
  mixed := by kernel_rfl
  f169 := Tryd.func30.trans (congrArg some (by kernel_rfl))
  t0 := Tryd.underlying0
  a0 := Tryd.isAgg0
  z0 := Tryd.sizeOf0
  v0 := Tryd.zeroValue0
  t3 := Tryd.underlying3
  a3 := Tryd.isAgg3
  z3 := Tryd.sizeOf3
  v3 := Tryd.zeroValue3
  t9 := Tryd.underlying9
  a9 := Tryd.isAgg9
  z9 := Tryd.sizeOf9
  v9 := Tryd.zeroValue9
  t37 := Tryd.underlying25
  a37 := Tryd.isAgg25
  z37 := Tryd.sizeOf25
  v37 := Tryd.zeroValue25
  t70 := Tryd.underlying58
  a70 := Tryd.isAgg58
  z70 := Tryd.sizeOf58
  v70 := Tryd.zeroValue58
  t72 := Tryd.underlying60
  a72 := Tryd.isAgg60
  z72 := Tryd.sizeOf60
  v72 := Tryd.zeroValue60
  t127 := Tryd.underlying69
  a127 := Tryd.isAgg69
  z127 := Tryd.sizeOf69
  v127 := Tryd.zeroValue69 }
theorem bextra169 : Builder.Extra Tryd.prog lays169_ren := {
  sizeBuilder := by kernel_rfl
  liesBuilder := by kernel_rfl
  t5 := Tryd.underlying5
  a5 := Tryd.isAgg5
  z5 := Tryd.sizeOf5
  v5 := Tryd.zeroValue5
  infoByte := by kernel_rfl
  cellsByte := by kernel_rfl
  sizeByte := by kernel_rfl
  neB5 := by decide }
def lays137_ren : Go.Shelf.Ren := ⟨fun | 137 => 26 | 217 => 35 | 266 => 40 | n => n, fun | 9 => 9 | 5 => 5 | 3 => 3 | n => n, fun | n => n⟩
theorem lays137 : Go.Proofs.Lays.n137 Tryd.prog lays137_ren := {
  mixed := by kernel_rfl
  f137 := Tryd.func26.trans (congrArg some (by kernel_rfl))
  f217 := Tryd.func35.trans (congrArg some (by kernel_rfl))
  f266 := Tryd.func40.trans (congrArg some (by kernel_rfl))
  t3 := Tryd.underlying3
  a3 := Tryd.isAgg3
  z3 := Tryd.sizeOf3
  v3 := Tryd.zeroValue3
  t5 := Tryd.underlying5
  a5 := Tryd.isAgg5
  z5 := Tryd.sizeOf5
  v5 := Tryd.zeroValue5
  t9 := Tryd.underlying9
  a9 := Tryd.isAgg9
  z9 := Tryd.sizeOf9
  v9 := Tryd.zeroValue9 }
theorem builderString (B b : Nat) (l : List UInt8) (w : World) (h : Lib.IsBuilder 60 5 B b (Lib.byteCells l) w) (hBw : B ≤ w.heap.size) :
    Calls Tryd.prog 30 #[.pointer (some ⟨b, 0, none⟩)] w fun e w' => e = .returned (.string ⟨l.toArray⟩) ∧ Below B w w' := Any.Builder_String_any lays169 bextra169 B b l w h hBw
theorem indexByte (s : ByteArray) (c : Int) (w : World) :
    Calls Tryd.prog 26 #[.string s, .int .u8 c] w fun e w' => e = .returned (.int .i64 (Lib.indexByte s.data.toList c.toNat.toUInt8)) ∧ w' = w := Any.strings_IndexByte lays137 s c w
theorem sizeB : (Tryd.prog.info? 60).map (·.size) = some 2 := by kernel_rfl
set_option maxHeartbeats 1000000 in
set_option maxRecDepth 100000 in
theorem c36u (b : Nat) (w : World) (h0 : w.cell? ⟨b, 0, none⟩ = some (.pointer (some ⟨b, 0, none⟩))) :
    Calls Tryd.prog 36 #[.pointer (some ⟨b, 0, none⟩)] w fun e w' => e = .returned (.tuple #[]) ∧ w' = w := by
  obtain ⟨j, hj, _⟩ := Option.map_eq_some_iff.1 sizeB
  go_enter Tryd.func36, Tryd.ntmps36
  go_wp2
  rw [Lib.run_neq_ptr_same w _ Tryd.underlying58 hj]
  go_wp2
  go_end0
  exact ⟨rfl, rfl⟩
set_option maxHeartbeats 1000000 in
set_option maxRecDepth 100000 in
theorem c36f (b : Nat) (w : World) (h0 : w.cell? ⟨b, 0, none⟩ = some (.pointer none)) (hsh : w.shape? b = some (60, 2)) (hfz : w.frozen? ⟨b, 0, none⟩ = false) :
    Calls Tryd.prog 36 #[.pointer (some ⟨b, 0, none⟩)] w fun e w' => e = .returned (.tuple #[]) ∧ w' = w.setCell ⟨b, 0, none⟩ (.pointer (some ⟨b, 0, none⟩)) := by
  obtain ⟨j, hj, hjs⟩ := Option.map_eq_some_iff.1 sizeB
  go_enter Tryd.func36, Tryd.ntmps36
  go_wp2
  rw [Lib.run_to_unsafe w ⟨b, 0, none⟩ Tryd.underlying58 Tryd.underlying71 hj (by rw [hjs]; decide) hsh (Nat.zero_lt_succ 1)]
  simp only [Result.andThen]
  rw [Oper.upon_value]
  go_wp2
  rw [run_callFunc_extern Tryd.func41 (by kernel_rfl) (by kernel_rfl) (by kernel_rfl) (e := Extern.AbiNoEscape.same) (by kernel_rfl)]
  rw [Lib.run_noEscape]
  simp only [Result.andThen]
  rw [Oper.upon_value]
  go_wp2
  rw [Lib.run_from_unsafe w ⟨b, 0, none⟩ Tryd.underlying71 Tryd.underlying58 hj hsh (by kernel_rfl)]
  simp only [Result.andThen]
  rw [Oper.upon_value]
  go_wp2
  go_end0
  exact ⟨rfl, rfl⟩
theorem c36 (B b : Nat) (bs : List Value) (w : World) (h : Lib.IsBuilder 60 5 B b bs w) :
    Calls Tryd.prog 36 #[.pointer (some ⟨b, 0, none⟩)] w fun e w' => e = .returned (.tuple #[]) ∧ (Lib.BuilderAt 60 5 B b (.pointer (some ⟨b, 0, none⟩)) bs w' ∧ Below B w w') := by
  rcases h with h | h
  · refine (c36f b w h.cell0 h.shape h.frozen0).mono ?_
    rintro e w' ⟨rfl, rfl⟩
    exact ⟨rfl, h.used _, (Below.refl B w).setCell (p := ⟨b, 0, none⟩) h.1 _⟩
  · refine (c36u b w h.cell0).mono ?_
    rintro e w' ⟨rfl, rfl⟩
    exact ⟨rfl, h, Below.refl B _⟩
set_option maxHeartbeats 2000000 in
set_option maxRecDepth 100000 in
theorem c29 (B b : Nat) (bs : List Value) (c : Int) (w : World) (h : Lib.IsBuilder 60 5 B b bs w) (hlen : bs.length + 1 ≤ 140737488355328) (hBw : B ≤ w.heap.size) :
    Calls Tryd.prog 29 #[.pointer (some ⟨b, 0, none⟩), .int .u8 c] w fun e w' => e = .returned .nilIface ∧ (Lib.BuilderAt 60 5 B b (.pointer (some ⟨b, 0, none⟩)) (bs ++ [.int .u8 c]) w' ∧ Below B w w') := by
  obtain ⟨i0, hi, hz0, hz1, hz2⟩ := info_parts info5
  go_enter Tryd.func29, Tryd.ntmps29
  go_wp2_with (go_at_call 36; refine (c36 B b bs _ h).mono ?_)
  rintro e w1 ⟨rfl, h1, hb1⟩
  obtain ⟨hB, v, hbk, hown, hne⟩ := h1
  have c0 : w1.cell? ⟨b, 0, none⟩ = some (.pointer (some ⟨b, 0, none⟩)) := by rw [Lib.cell_of_heap hbk]; rfl
  have c1 : w1.cell? ⟨b, 1, none⟩ = some v := by rw [Lib.cell_of_heap hbk]; rfl
  go_wp2_with (at_builtin; refine wpList_append_own _ rfl _ _ 25 rfl B 5 i0 (.int .u8 0) 1 1 Tryd.underlying25 hi hz0 hz1 hz2 rfl (by decide) _ _ _ rfl (hown.alloc _) ⟨w1.heap.size, 0, none⟩ 1 1 [.int .u8 c] rfl rfl ?c1 ?c2 ?c3 ?c4 ?c5 ?_)
  case c1 =>
    intro j u hj
    match j, hj with
    | 0, hj => simp at hj; subst hj; simp [Addr.add]
  case c2 => intro u hu; simp at hu; subst hu; rfl
  case c3 => unfold maxLen; omega
  case c4 => omega
  case c5 => have := hb1.size; simp; omega
  intro v' w2 hown' hgrow _
  have hlt : b < w1.heap.size := lt_of_block hbk
  have hb2 : w2.heap[b]? = some (.cells #[.pointer (some ⟨b, 0, none⟩), v] 60 (0, 0)) := by
    rw [hgrow.block b (by simp; omega) (fun e => hne e.symm), Lib.alloc_old w1 _ b hlt]
    exact hbk
  have d0 : w2.cell? ⟨b, 0, none⟩ = some (.pointer (some ⟨b, 0, none⟩)) := by rw [Lib.cell_of_heap hb2]; rfl
  have d1 : w2.cell? ⟨b, 1, none⟩ = some v := by rw [Lib.cell_of_heap hb2]; rfl
  have f1 : w2.frozen? ⟨b, 1, none⟩ = false := Lib.frozen_of_heap hb2 1
  obtain ⟨g, cap, rfl⟩ : ∃ g cap, v' = .slice (some ⟨g, 0, none⟩) (bs.length + 1) cap := by
    rcases hown'.2 with ⟨_, h0⟩ | ⟨g, cap, cur, hv, _⟩
    · omega
    · exact ⟨g, cap, hv⟩
  go_wp2
  go_ret
  refine ⟨rfl, ?_, ?_⟩
  · exact Lib.BuilderAt.put (T := 60) (e := 5) hB hb2 (bs' := bs ++ [.int .u8 c]) (by simpa using hown') (by decide)
  · exact ((hb1.alloc (by have := hb1.size; omega) _).grown hgrow (by have := hb1.size; simp; omega) (fun k hk => (hown.lt k hk).1)).setCell (p := ⟨b, 1, none⟩) hB _


theorem byt_getD0 {xs : List Int} (h : Byt xs) (k : Nat) : 0 ≤ xs.getD k 0 ∧ xs.getD k 0 < 256 := by
  by_cases hk : k < xs.length
  · exact byt_getD h k hk
  · simp [List.getD, List.getElem?_eq_none (show xs.length ≤ k by omega)]
def hexD : List UInt8 := [48, 49, 50, 51, 52, 53, 54, 55, 56, 57, 97, 98, 99, 100, 101, 102]
def hx (z : Int) : UInt8 := hexD.getD z.toNat 0
def hexL (xs : List Int) : List UInt8 := xs.flatMap fun x => [hx (x / 16), hx (bits .and .u8 x 15)]
theorem hexL_one (xs : List Int) (x : Int) : hexL (xs ++ [x]) = hexL xs ++ [hx (x / 16), hx (bits .and .u8 x 15)] := by simp [hexL]
theorem hexL_len (xs : List Int) : (hexL xs).length = 2 * xs.length := by
  induction xs with
  | nil => rfl
  | cons x xs ih => simp only [hexL, List.flatMap_cons, List.length_append, List.length_cons, List.length_nil] at *; omega
theorem and15 (x : Int) (h0 : 0 ≤ x) (h1 : x < 256) : bits .and .u8 x 15 = x % 16 := by
  have h : ∀ n : Fin 256, bits .and .u8 ((n.val : Nat) : Int) 15 = ((n.val : Nat) : Int) % 16 := by decide +kernel
  obtain ⟨n, rfl⟩ := Int.eq_ofNat_of_zero_le h0
  exact h ⟨n, by omega⟩
theorem run_digit (z : Int) (w : World) (h0 : 0 ≤ z) (h1 : z < 16) : (Instr.index 9 (.string ⟨#[48, 49, 50, 51, 52, 53, 54, 55, 56, 57, 97, 98, 99, 100, 101, 102]⟩) (.int .u8 z)).run Tryd.prog w = .ok (.int .u8 ((hx z).toNat : Int)) w := by
  rcases (show z = 0 ∨ z = 1 ∨ z = 2 ∨ z = 3 ∨ z = 4 ∨ z = 5 ∨ z = 6 ∨ z = 7 ∨ z = 8 ∨ z = 9 ∨ z = 10 ∨ z = 11 ∨ z = 12 ∨ z = 13 ∨ z = 14 ∨ z = 15 by omega) with rfl | rfl | rfl | rfl | rfl | rfl | rfl | rfl | rfl | rfl | rfl | rfl | rfl | rfl | rfl | rfl <;> (clear h0 h1; kernel_rfl)
theorem byteCells_append (l k : List UInt8) : Lib.byteCells (l ++ k) = Lib.byteCells l ++ Lib.byteCells k := by simp [Lib.byteCells]
theorem c5s : (Tryd.prog.info? 5).map (·.size) = some 1 := by kernel_rfl
theorem run_index_ba (t n : Nat) (ht : Tryd.prog.underlying t = some (.array n 5)) (xs : List Int) (j : Nat) (w : World) (hl : xs.length = n) (hj : j < n) :
    (Instr.index t (.agg (ba xs)) (.int .i64 j)).run Tryd.prog w = .ok (.int .u8 (xs.getD j 0)) w := by
  have hu : Tryd.prog.underlying 5 = some (.int .u8) := by kernel_rfl
  have hq := c5s
  cases hi : Tryd.prog.info? 5 with
  | none => rw [hi] at hq; cases hq
  | some i =>
    have hs : i.size = 1 := by rw [hi] at hq; simpa using hq
    simp only [Instr.index, asIntOf, Sem.run_bind, Sem.run_pure, Result.andThen_ok, run_underlying ht]
    rw [if_pos (by omega)]
    simp [part, sizeOf, typeInfo, hi, hs, isAgg, run_underlying hu, ba, bvals, List.getD, hl, hj]
attribute [local irreducible] ba ua hexL
set_option maxRecDepth 100000 in
set_option maxHeartbeats 1000000 in
theorem c17 (xs : List Int) (w : World) (hl : xs.length = 8) (hb : Byt xs) :
    Calls Tryd.prog 17 #[.agg (ba xs)] w fun e w' => e = .returned (.string ⟨(hexL xs).toArray⟩) ∧ Below w.heap.size w w' := by
  have HL := Lib.hid hl
  have HB := Lib.hid hb
  clear hl hb
  obtain ⟨S, hS⟩ : ∃ S, w.heap.size = S := ⟨_, rfl⟩
  have T0 : Hid ((w.alloc (Obj.cells (ba xs) 27)).heap[S]? = some (.cells (ba xs) 27 (0, 0))) := by subst hS; exact heap_alloc_last w _
  have T1 : Hid (((w.alloc (Obj.cells (ba xs) 27)).alloc (Obj.cells #[.pointer none, .slice none 0 0] 60)).heap[S + 1]? = some (.cells #[.pointer none, .slice none 0 0] 60 (0, 0))) := by
    show _ = _
    subst hS
    have := heap_alloc_last (w.alloc (Obj.cells (ba xs) 27)) (Obj.cells #[.pointer none, .slice none 0 0] 60)
    simp only [World.size_alloc] at this
    exact this
  have T2 : Hid (((w.alloc (Obj.cells (ba xs) 27)).alloc (Obj.cells #[.pointer none, .slice none 0 0] 60)).heap[S]? = some (.cells (ba xs) 27 (0, 0))) := (Below.heap_alloc _ _ _ (lt_of_block T0.out)).trans T0.out
  have BB : Hid (Below S w ((w.alloc (Obj.cells (ba xs) 27)).alloc (Obj.cells #[.pointer none, .slice none 0 0] 60))) := by subst hS; exact ((Below.refl _ w).alloc (Nat.le_refl _) _).alloc (by simp) _
  go_enter Tryd.func17, Tryd.ntmps17
  go_wp2_with (refine wpList_load_row rfl 27 (.tmp 1) rfl S rfl 27 (ba xs) (0, 0) _ T2.out Tryd.underlying27 rfl (sz s27 (by rw [ba_size, HL.out])) ?_)
  go_loopw [7, 5] (fun i c wr => ∃ k : Nat, k ≤ 8 ∧ i = .int .i64 k ∧ Lib.IsBuilder 60 5 S (S + 1) (Lib.byteCells (hexL (xs.take k))) wr ∧ Below S w wr) (fun i _ _ => 8 - (intOf i).toNat)
  case atStart =>
    refine ⟨0, by omega, rfl, .inl ⟨by omega, .slice none 0 0, T1.out, ?_, by simp [Value.ownBlock]⟩, BB.out⟩
    rw [List.take_zero, show hexL [] = [] by unfold hexL; rfl]
    exact own_nil _ _
  case round =>
    clear T0 T1 T2 BB
    obtain ⟨k, hk, rfl, hI, hbel⟩ := hrel
    have HI := Lib.hid hI
    have BL := Lib.hid hbel
    clear hI hbel
    by_cases hlt : k < 8
    · have hix : ∀ w, (Instr.index 27 (.agg (ba xs)) (.int .i64 k)).run Tryd.prog w = .ok (.int .u8 (xs.getD k 0)) w := fun w => run_index_ba 27 8 Tryd.underlying27 xs k w HL.out hlt
      have hr := byt_getD0 HB.out k
      have ht : xs.take (k + 1) = xs.take k ++ [xs.getD k 0] := take_one xs k (by rw [HL.out]; exact hlt)
      have HTT := Lib.hid ht
      have hlen : (Lib.byteCells (hexL (xs.take k))).length = 2 * k := by
        rw [Lib.byteCells_length, hexL_len, List.length_take, HL.out]
        omega
      have HLN := Lib.hid hlen
      clear ht hlen
      generalize xs.getD k 0 = x at *
      obtain ⟨x0, x1⟩ := hr
      have hA : bits .and .u8 x 15 = x % 16 := and15 x x0 x1
      have d1 : ∀ w, (Instr.index 9 (.string ⟨#[48, 49, 50, 51, 52, 53, 54, 55, 56, 57, 97, 98, 99, 100, 101, 102]⟩) (.int .u8 (x / 16))).run Tryd.prog w = .ok (.int .u8 ((hx (x / 16)).toNat : Int)) w := fun w => run_digit _ w (by omega) (by omega)
      have d2 : ∀ w, (Instr.index 9 (.string ⟨#[48, 49, 50, 51, 52, 53, 54, 55, 56, 57, 97, 98, 99, 100, 101, 102]⟩) (.int .u8 (x % 16))).run Tryd.prog w = .ok (.int .u8 ((hx (x % 16)).toNat : Int)) w := fun w => run_digit _ w (by omega) (by omega)
      have HAA := Lib.hid hA
      have HIN : Hid (Lib.byteCells (hexL (xs.take (k + 1))) = Lib.byteCells (hexL (xs.take k)) ++ [Value.int .u8 ((hx (x / 16)).toNat : Int)] ++ [Value.int .u8 ((hx (x % 16)).toNat : Int)]) := by
        show _ = _
        rw [HTT.out, hexL_one, HAA.out, byteCells_append]
        simp [Lib.byteCells]
      generalize hx (x / 16) = y1 at *
      generalize hx (x % 16) = y2 at *
      have hsz : S ≤ wr.heap.size := by
        rcases HI.out with h | h
        · have := h.lt; omega
        · have := h.lt; omega
      have C := Lib.hid (c29 S (S + 1) _ (y1.toNat : Int) wr HI.out (by rw [HLN.out]; omega) hsz)
      clear hsz
      go_wp2_with fail
      refine C.out.mono ?_
      rintro e w1 ⟨rfl, hb1, hbl1⟩
      have C2 := Lib.hid (c29 S (S + 1) _ (y2.toNat : Int) w1 (.inr hb1) (by rw [List.length_append, HLN.out]; simp; omega) (by have := hb1.lt; omega))
      have BL1 := Lib.hid hbl1
      clear hb1 hbl1
      go_wp2_with fail
      refine C2.out.mono ?_
      rintro e w2 ⟨rfl, hb2, hbl2⟩
      rw [← HIN.out] at hb2
      have BU2 := Lib.hid hb2
      have BL2 : Hid (Below S w w2) := (BL.out.trans BL1.out).trans hbl2
      clear hb2 hbl2
      go_wp2
      go_roundw
      case rel => exact ⟨k + 1, by omega, by go_num, .inr BU2.out, BL2.out⟩
      case measure => simp [intOf]; omega
    · obtain rfl : k = 8 := by omega
      have ht : xs.take 8 = xs := List.take_of_length_le (by rw [HL.out]; exact Nat.le_refl _)
      rw [ht] at HI
      have hsz : S ≤ wr.heap.size := by
        rcases HI.out with h | h
        · have := h.lt; omega
        · have := h.lt; omega
      have C := Lib.hid (builderString S (S + 1) (hexL xs) wr HI.out hsz)
      have HSS := Lib.hid hS
      clear ht hsz hS
      go_wp2_with fail
      refine C.out.mono ?_
      rintro e w1 ⟨rfl, hbl1⟩
      have BL1 : Hid (Below S w w1) := BL.out.trans hbl1
      clear hbl1
      go_wp2
      go_ret
      exact ⟨rfl, by rw [HSS.out]; exact BL1.out⟩
end Go.Proofs.YtimhjofnaoljjaaDoor
