/-
  The walk of HashOrder.
-/
import Derived.Test.YtimhjofnaoljjaaDoorW14
import Derived.Deep.MidRow
namespace Go.Proofs.YtimhjofnaoljjaaDoor
open Go.RowKit
/-- the hash at place i of a row of hashes -/
def hh (l : List Int) (i : Nat) : List Int := (l.drop (8 * i)).take 8
theorem hh_len (l : List Int) (i n : Nat) (hl : l.length = 8 * n) (h : i < n) : (hh l i).length = 8 := by
  unfold hh
  rw [List.length_take, List.length_drop]
  omega
theorem hh_byt {l : List Int} (h : Byt l) (i : Nat) : Byt (hh l i) := byt_take (byt_drop h _) _
theorem list8 : ∀ (x : List Int), x.length = 8 → ∃ x0 x1 x2 x3 x4 x5 x6 x7, x = [x0, x1, x2, x3, x4, x5, x6, x7]
  | [x0, x1, x2, x3, x4, x5, x6, x7], _ => ⟨x0, x1, x2, x3, x4, x5, x6, x7, rfl⟩
theorem ba_eight {w : World} {b n : Nat} {t : TypeId} {l : List Int} (h : BA w b t l) (hl : l.length = 8 * n) (i : Nat) (hi : i < n) (x0 x1 x2 x3 x4 x5 x6 x7 : Int) (hx : hh l i = [x0, x1, x2, x3, x4, x5, x6, x7]) :
    w.cell? ⟨b, i * 8, none⟩ = some (.int .u8 x0) ∧ w.cell? ⟨b, i * 8 + 1, none⟩ = some (.int .u8 x1) ∧ w.cell? ⟨b, i * 8 + 2, none⟩ = some (.int .u8 x2) ∧ w.cell? ⟨b, i * 8 + 3, none⟩ = some (.int .u8 x3) ∧ w.cell? ⟨b, i * 8 + 4, none⟩ = some (.int .u8 x4) ∧ w.cell? ⟨b, i * 8 + 5, none⟩ = some (.int .u8 x5) ∧ w.cell? ⟨b, i * 8 + 6, none⟩ = some (.int .u8 x6) ∧ w.cell? ⟨b, i * 8 + 7, none⟩ = some (.int .u8 x7) := by
  have g : ∀ j, j < 8 → w.cell? ⟨b, i * 8 + j, none⟩ = some (.int .u8 ((hh l i).getD j 0)) := fun j hj => by
    rw [ba_cell h (i * 8 + j) (by omega)]
    simp [hh, List.getD, hj, Nat.mul_comm]
  rw [hx] at g
  exact ⟨g 0 (by decide), g 1 (by decide), g 2 (by decide), g 3 (by decide), g 4 (by decide), g 5 (by decide), g 6 (by decide), g 7 (by decide)⟩
theorem c20e (x0 x1 x2 x3 x4 x5 x6 x7 y0 y1 y2 y3 y4 y5 y6 y7 : Int) (w : World) : Calls Tryd.prog 20 #[.agg #[.int .u8 x0, .int .u8 x1, .int .u8 x2, .int .u8 x3, .int .u8 x4, .int .u8 x5, .int .u8 x6, .int .u8 x7], .agg #[.int .u8 y0, .int .u8 y1, .int .u8 y2, .int .u8 y3, .int .u8 y4, .int .u8 y5, .int .u8 y6, .int .u8 y7]] w fun e w' => e = .returned (.bool (lessB [x0, x1, x2, x3, x4, x5, x6, x7] [y0, y1, y2, y3, y4, y5, y6, y7])) ∧ Below w.heap.size w w' := c20 [x0, x1, x2, x3, x4, x5, x6, x7] [y0, y1, y2, y3, y4, y5, y6, y7] w rfl rfl
theorem eq27 (x0 x1 x2 x3 x4 x5 x6 x7 y0 y1 y2 y3 y4 y5 y6 y7 : Int) (w : World) : (Op.equalIn 10000 27 (.agg #[.int .u8 x0, .int .u8 x1, .int .u8 x2, .int .u8 x3, .int .u8 x4, .int .u8 x5, .int .u8 x6, .int .u8 x7]) (.agg #[.int .u8 y0, .int .u8 y1, .int .u8 y2, .int .u8 y3, .int .u8 y4, .int .u8 y5, .int .u8 y6, .int .u8 y7])).run Tryd.prog w = .ok (decide ([x0, x1, x2, x3, x4, x5, x6, x7] = [y0, y1, y2, y3, y4, y5, y6, y7])) w := eq_ba 27 8 9998 Tryd.underlying27 [x0, x1, x2, x3, x4, x5, x6, x7] [y0, y1, y2, y3, y4, y5, y6, y7] w rfl rfl
/- operations that stand behind a call: by names of their own -/
def op67 : Op := .move (.tmp 3)
theorem op67_eq : op67 = .move (.tmp 3) := rfl
attribute [local go_sem] op67_eq
def op68 : Op := .indexAddr 41 (.tmp 1) (.tmp 67)
theorem op68_eq : op68 = .indexAddr 41 (.tmp 1) (.tmp 67) := rfl
attribute [local go_sem] op68_eq
def op69 : Op := .load 27 (.tmp 68)
theorem op69_eq : op69 = .load 27 (.tmp 68) := rfl
attribute [local go_sem] op69_eq
def op70 : Op := .move (.tmp 7)
theorem op70_eq : op70 = .move (.tmp 7) := rfl
attribute [local go_sem] op70_eq
def op71 : Op := .indexAddr 41 (.tmp 1) (.tmp 70)
theorem op71_eq : op71 = .indexAddr 41 (.tmp 1) (.tmp 70) := rfl
attribute [local go_sem] op71_eq
def op72 : Op := .load 27 (.tmp 71)
theorem op72_eq : op72 = .load 27 (.tmp 71) := rfl
attribute [local go_sem] op72_eq
def op74 : Op := .unOp .not 4 (.tmp 73)
theorem op74_eq : op74 = .unOp .not 4 (.tmp 73) := rfl
attribute [local go_sem] op74_eq
attribute [local irreducible] ba ua hh
set_option maxRecDepth 100000 in
set_option maxHeartbeats 40000000 in
theorem walkOrder (l : List Int) (w : World) (hl : l.length = 24) (hb : Byt l) (hk : Keys w) :
    Calls Tryd.prog 7 #[.agg (ba l)] w fun e w' => e = .returned (.bool true) ∧ Below w.heap.size w w' := by
  have HL := Lib.hid hl
  have HB := Lib.hid hb
  have HK := Lib.hid hk
  have HP : Hid (0 < w.heap.size) := keys_pos hk
  clear hl hb hk
  obtain ⟨S, hS⟩ : ∃ S, w.heap.size = S := ⟨_, rfl⟩
  have T0 : Hid (BA (w.alloc (Obj.cells (ba l) 41)) S 41 l) := by subst hS; exact heap_alloc_last w _
  have B0 : Hid (Below S w (w.alloc (Obj.cells (ba l) 41))) := by subst hS; exact (Below.refl _ w).alloc (Nat.le_refl _) _
  have C := Lib.hid (c8 (w.alloc (Obj.cells (ba l) 41)) (keys_below HK.out B0.out (by rw [← hS]; exact HP.out)))
  have HS := Lib.hid hS
  go_enter Tryd.func7, Tryd.ntmps7
  go_wp2_with (go_at_call 8; refine C.out.mono ?_; rintro e w1 ⟨rfl, hb1⟩; have T1 : Hid (BA w1 S 41 l) := (hb1.block S (lt_of_block T0.out)).trans T0.out; have B1 : Hid (Below S w w1) := B0.out.trans (hb1.mono (Nat.le_of_lt (lt_of_block T0.out))); clear hb1)
  clear hS
  go_loopw [3, 4, 5, 6, 7] (fun i _ _ _ _ wr => ∃ k : Nat, k ≤ 3 ∧ i = .int .i64 k ∧ BA wr S 41 l ∧ Below S w wr) (fun i _ _ _ _ _ => 3 - (intOf i).toNat)
  case atStart => exact ⟨0, by omega, rfl, T1.out, B1.out⟩
  case round =>
    clear T0 T1 B0 B1 C
    obtain ⟨i, hi, rfl, hT, hbel⟩ := hrel
    have TT := Lib.hid hT
    have BB := Lib.hid hbel
    clear hT hbel
    by_cases hil : i < 3
    · have e1 : (i : Int) < 3 := by omega
      go_wp2_with fail
      go_loopw [4, 5, 6, 7] (fun jv _ _ _ wr => ∃ k : Nat, k ≤ 3 ∧ jv = .int .i64 k ∧ BA wr S 41 l ∧ Below S w wr) (fun jv _ _ _ _ => 3 - (intOf jv).toNat)
      case atStart => exact ⟨0, by omega, rfl, TT.out, BB.out⟩
      case round =>
        clear TT BB
        obtain ⟨j, hj, rfl, hT, hbel⟩ := hrel
        have TT := Lib.hid hT
        have BB := Lib.hid hbel
        clear hT hbel
        by_cases hjl : j < 3
        · have HLI : Hid (l.length = 8 * 3) := HL.out
          obtain ⟨x0, x1, x2, x3, x4, x5, x6, x7, hx⟩ := list8 _ (hh_len l i 3 HLI.out hil)
          obtain ⟨y0, y1, y2, y3, y4, y5, y6, y7, hy⟩ := list8 _ (hh_len l j 3 HLI.out hjl)
          have HXX := Lib.hid hx
          have HYY := Lib.hid hy
          have e2 : (j : Int) < 3 := by omega
          clear hx hy
          have PX : Hid (∀ w', BA w' S 41 l → w'.cell? ⟨S, i * 8, none⟩ = some (.int .u8 x0) ∧ w'.cell? ⟨S, i * 8 + 1, none⟩ = some (.int .u8 x1) ∧ w'.cell? ⟨S, i * 8 + 2, none⟩ = some (.int .u8 x2) ∧ w'.cell? ⟨S, i * 8 + 3, none⟩ = some (.int .u8 x3) ∧ w'.cell? ⟨S, i * 8 + 4, none⟩ = some (.int .u8 x4) ∧ w'.cell? ⟨S, i * 8 + 5, none⟩ = some (.int .u8 x5) ∧ w'.cell? ⟨S, i * 8 + 6, none⟩ = some (.int .u8 x6) ∧ w'.cell? ⟨S, i * 8 + 7, none⟩ = some (.int .u8 x7)) := fun w' h => ba_eight h HLI.out i hil _ _ _ _ _ _ _ _ HXX.out
          have PY : Hid (∀ w', BA w' S 41 l → w'.cell? ⟨S, j * 8, none⟩ = some (.int .u8 y0) ∧ w'.cell? ⟨S, j * 8 + 1, none⟩ = some (.int .u8 y1) ∧ w'.cell? ⟨S, j * 8 + 2, none⟩ = some (.int .u8 y2) ∧ w'.cell? ⟨S, j * 8 + 3, none⟩ = some (.int .u8 y3) ∧ w'.cell? ⟨S, j * 8 + 4, none⟩ = some (.int .u8 y4) ∧ w'.cell? ⟨S, j * 8 + 5, none⟩ = some (.int .u8 y5) ∧ w'.cell? ⟨S, j * 8 + 6, none⟩ = some (.int .u8 y6) ∧ w'.cell? ⟨S, j * 8 + 7, none⟩ = some (.int .u8 y7)) := fun w' h => ba_eight h HLI.out j hjl _ _ _ _ _ _ _ _ HYY.out
          obtain ⟨px0, px1, px2, px3, px4, px5, px6, px7⟩ := PX.out wr TT.out
          obtain ⟨py0, py1, py2, py3, py4, py5, py6, py7⟩ := PY.out wr TT.out
          have BQ := BB
          have TQ := TT
          have LQ : Hid (S < wr.heap.size) := lt_of_block TT.out
          go_wp2_with fail
          go_region_held3 (fun w' => (w'.cell? ⟨S, i * 8, none⟩ = some (.int .u8 x0) ∧ w'.cell? ⟨S, i * 8 + 1, none⟩ = some (.int .u8 x1) ∧ w'.cell? ⟨S, i * 8 + 2, none⟩ = some (.int .u8 x2) ∧ w'.cell? ⟨S, i * 8 + 3, none⟩ = some (.int .u8 x3) ∧ w'.cell? ⟨S, i * 8 + 4, none⟩ = some (.int .u8 x4) ∧ w'.cell? ⟨S, i * 8 + 5, none⟩ = some (.int .u8 x5) ∧ w'.cell? ⟨S, i * 8 + 6, none⟩ = some (.int .u8 x6) ∧ w'.cell? ⟨S, i * 8 + 7, none⟩ = some (.int .u8 x7)) ∧ (w'.cell? ⟨S, j * 8, none⟩ = some (.int .u8 y0) ∧ w'.cell? ⟨S, j * 8 + 1, none⟩ = some (.int .u8 y1) ∧ w'.cell? ⟨S, j * 8 + 2, none⟩ = some (.int .u8 y2) ∧ w'.cell? ⟨S, j * 8 + 3, none⟩ = some (.int .u8 y3) ∧ w'.cell? ⟨S, j * 8 + 4, none⟩ = some (.int .u8 y4) ∧ w'.cell? ⟨S, j * 8 + 5, none⟩ = some (.int .u8 y5) ∧ w'.cell? ⟨S, j * 8 + 6, none⟩ = some (.int .u8 y6) ∧ w'.cell? ⟨S, j * 8 + 7, none⟩ = some (.int .u8 y7))) (first | exact K8.out | exact K9.out | go_keep)
            (first
              | (go_at_call 20; refine (c20e x0 x1 x2 x3 x4 x5 x6 x7 y0 y1 y2 y3 y4 y5 y6 y7 _).mono ?_; rintro e wz ⟨rfl, hbz⟩; have BZ : Hid (Below S w wz) := BQ.out.drew.trans (hbz.mono (Nat.le_of_lt LQ.out)); have TZ : Hid (BA wz S 41 l) := (hbz.block S LQ.out).trans TQ.out; have LZ : Hid (S < wz.heap.size) := lt_of_block TZ.out; have K8 := Lib.hid (And.intro (PX.out wz TZ.out) (PY.out wz TZ.out)); clear hbz)
              | (go_at_call 20; refine (c20e y0 y1 y2 y3 y4 y5 y6 y7 x0 x1 x2 x3 x4 x5 x6 x7 _).mono ?_; rintro e wy ⟨rfl, hby⟩; have BY : Hid (Below S w wy) := BZ.out.trans (hby.mono (Nat.le_of_lt LZ.out)); have TY : Hid (BA wy S 41 l) := (hby.block S LZ.out).trans TZ.out; have K9 := Lib.hid (And.intro (PX.out wy TY.out) (PY.out wy TY.out)); clear hby))
          clear BQ TQ LQ BZ TZ LZ K8 K9 px0 px1 px2 px3 px4 px5 px6 px7 py0 py1 py2 py3 py4 py5 py6 py7
          have hboth : ¬ (lessB [x0, x1, x2, x3, x4, x5, x6, x7] [y0, y1, y2, y3, y4, y5, y6, y7] = true ∧ lessB [y0, y1, y2, y3, y4, y5, y6, y7] [x0, x1, x2, x3, x4, x5, x6, x7] = true) := fun h => less_both _ _ h.1 h.2
          have heqs := less_eq (x := [x0, x1, x2, x3, x4, x5, x6, x7]) (y := [y0, y1, y2, y3, y4, y5, y6, y7]) (by rw [← HXX.out]; exact hh_byt HB.out i) (by rw [← HYY.out]; exact hh_byt HB.out j)
          have HA : ∃ a, lessB [x0, x1, x2, x3, x4, x5, x6, x7] [y0, y1, y2, y3, y4, y5, y6, y7] = a := ⟨_, rfl⟩
          have HBB : ∃ b, lessB [y0, y1, y2, y3, y4, y5, y6, y7] [x0, x1, x2, x3, x4, x5, x6, x7] = b := ⟨_, rfl⟩
          obtain ⟨a, ha⟩ := HA
          obtain ⟨b, hbb⟩ := HBB
          rw [ha, hbb] at hboth heqs
          have HAA := Lib.hid ha
          have HEQ := Lib.hid heqs
          rename_i hHeld
          clear hHeld heqs
          rw [ha, hbb]
          clear ha hbb
          obtain ⟨px0, px1, px2, px3, px4, px5, px6, px7⟩ := PX.out wy TY.out
          obtain ⟨py0, py1, py2, py3, py4, py5, py6, py7⟩ := PY.out wy TY.out
          have eq27' : ∀ w, (Op.equalIn 10000 27 (.agg #[.int .u8 x0, .int .u8 x1, .int .u8 x2, .int .u8 x3, .int .u8 x4, .int .u8 x5, .int .u8 x6, .int .u8 x7]) (.agg #[.int .u8 y0, .int .u8 y1, .int .u8 y2, .int .u8 y3, .int .u8 y4, .int .u8 y5, .int .u8 y6, .int .u8 y7])).run Tryd.prog w = .ok (!a && !b) w := fun w => by rw [HEQ.out]; exact eq27 x0 x1 x2 x3 x4 x5 x6 x7 y0 y1 y2 y3 y4 y5 y6 y7 w
          cases a with
          | true =>
            have hb0 : b = false := by cases b; rfl; exact absurd ⟨rfl, rfl⟩ hboth
            subst hb0
            clear hboth
            go_wp2_with fail
            go_quiet (fail)
            clear eq27' px0 px1 px2 px3 px4 px5 px6 px7 py0 py1 py2 py3 py4 py5 py6 py7
            generalize hq : wy.drewN _ = wv
            have TV : Hid (BA wv S 41 l) := by rw [← hq]; exact TY.out
            have BV : Hid (Below S w wv) := by rw [← hq]; exact below_drewN BY.out _
            clear hq TY BY
            go_wp2_with fail
            go_loopw [7] (fun kv wr => ∃ k : Nat, k ≤ 3 ∧ kv = .int .i64 k ∧ BA wr S 41 l ∧ Below S w wr) (fun kv _ => 3 - (intOf kv).toNat)
            case atStart => exact ⟨0, by omega, rfl, TV.out, BV.out⟩
            case round =>
              clear TV BV TT BB
              obtain ⟨k, hk, rfl, hT, hbel⟩ := hrel
              have TT := Lib.hid hT
              have BB := Lib.hid hbel
              clear hT hbel
              by_cases hkl : k < 3
              · obtain ⟨z0, z1, z2, z3, z4, z5, z6, z7, hz⟩ := list8 _ (hh_len l k 3 HLI.out hkl)
                have HZZ := Lib.hid hz
                have e3 : (k : Int) < 3 := by omega
                clear hz
                have PZ : Hid (∀ w', BA w' S 41 l → w'.cell? ⟨S, k * 8, none⟩ = some (.int .u8 z0) ∧ w'.cell? ⟨S, k * 8 + 1, none⟩ = some (.int .u8 z1) ∧ w'.cell? ⟨S, k * 8 + 2, none⟩ = some (.int .u8 z2) ∧ w'.cell? ⟨S, k * 8 + 3, none⟩ = some (.int .u8 z3) ∧ w'.cell? ⟨S, k * 8 + 4, none⟩ = some (.int .u8 z4) ∧ w'.cell? ⟨S, k * 8 + 5, none⟩ = some (.int .u8 z5) ∧ w'.cell? ⟨S, k * 8 + 6, none⟩ = some (.int .u8 z6) ∧ w'.cell? ⟨S, k * 8 + 7, none⟩ = some (.int .u8 z7)) := fun w' h => ba_eight h HLI.out k hkl _ _ _ _ _ _ _ _ HZZ.out
                obtain ⟨px0, px1, px2, px3, px4, px5, px6, px7⟩ := PX.out wr TT.out
                obtain ⟨py0, py1, py2, py3, py4, py5, py6, py7⟩ := PY.out wr TT.out
                obtain ⟨pz0, pz1, pz2, pz3, pz4, pz5, pz6, pz7⟩ := PZ.out wr TT.out
                have LQ : Hid (S < wr.heap.size) := lt_of_block TT.out
                have C1 := fun w => c20e y0 y1 y2 y3 y4 y5 y6 y7 z0 z1 z2 z3 z4 z5 z6 z7 w
                have C2 := fun w => c20e x0 x1 x2 x3 x4 x5 x6 x7 z0 z1 z2 z3 z4 z5 z6 z7 w
                cases hc : lessB [y0, y1, y2, y3, y4, y5, y6, y7] [z0, z1, z2, z3, z4, z5, z6, z7] with
                | true =>
                  rw [hc] at C1
                  rw [less_trans HAA.out hc] at C2
                  have D1 := Lib.hid C1
                  have D2 := Lib.hid C2
                  clear C1 C2 hc
                  go_wp2_with fail
                  go_region_held3 (fun w' => (w'.cell? ⟨S, i * 8, none⟩ = some (.int .u8 x0) ∧ w'.cell? ⟨S, i * 8 + 1, none⟩ = some (.int .u8 x1) ∧ w'.cell? ⟨S, i * 8 + 2, none⟩ = some (.int .u8 x2) ∧ w'.cell? ⟨S, i * 8 + 3, none⟩ = some (.int .u8 x3) ∧ w'.cell? ⟨S, i * 8 + 4, none⟩ = some (.int .u8 x4) ∧ w'.cell? ⟨S, i * 8 + 5, none⟩ = some (.int .u8 x5) ∧ w'.cell? ⟨S, i * 8 + 6, none⟩ = some (.int .u8 x6) ∧ w'.cell? ⟨S, i * 8 + 7, none⟩ = some (.int .u8 x7)) ∧ (w'.cell? ⟨S, j * 8, none⟩ = some (.int .u8 y0) ∧ w'.cell? ⟨S, j * 8 + 1, none⟩ = some (.int .u8 y1) ∧ w'.cell? ⟨S, j * 8 + 2, none⟩ = some (.int .u8 y2) ∧ w'.cell? ⟨S, j * 8 + 3, none⟩ = some (.int .u8 y3) ∧ w'.cell? ⟨S, j * 8 + 4, none⟩ = some (.int .u8 y4) ∧ w'.cell? ⟨S, j * 8 + 5, none⟩ = some (.int .u8 y5) ∧ w'.cell? ⟨S, j * 8 + 6, none⟩ = some (.int .u8 y6) ∧ w'.cell? ⟨S, j * 8 + 7, none⟩ = some (.int .u8 y7)) ∧ (w'.cell? ⟨S, k * 8, none⟩ = some (.int .u8 z0) ∧ w'.cell? ⟨S, k * 8 + 1, none⟩ = some (.int .u8 z1) ∧ w'.cell? ⟨S, k * 8 + 2, none⟩ = some (.int .u8 z2) ∧ w'.cell? ⟨S, k * 8 + 3, none⟩ = some (.int .u8 z3) ∧ w'.cell? ⟨S, k * 8 + 4, none⟩ = some (.int .u8 z4) ∧ w'.cell? ⟨S, k * 8 + 5, none⟩ = some (.int .u8 z5) ∧ w'.cell? ⟨S, k * 8 + 6, none⟩ = some (.int .u8 z6) ∧ w'.cell? ⟨S, k * 8 + 7, none⟩ = some (.int .u8 z7))) (first | exact K8.out | exact K9.out | go_keep)
                    (first
                      | (go_at_call 20; refine (D1.out _).mono ?_; rintro e wz ⟨rfl, hbz⟩; have BZ : Hid (Below S w wz) := BB.out.drew.trans (hbz.mono (Nat.le_of_lt LQ.out)); have TZ : Hid (BA wz S 41 l) := (hbz.block S LQ.out).trans TT.out; have LZ : Hid (S < wz.heap.size) := lt_of_block TZ.out; have K8 := Lib.hid (And.intro (PX.out wz TZ.out) (And.intro (PY.out wz TZ.out) (PZ.out wz TZ.out))); clear hbz)
                      | (go_at_call 20; refine (D2.out _).mono ?_; rintro e wy ⟨rfl, hby⟩; have BY : Hid (Below S w wy) := BZ.out.trans (hby.mono (Nat.le_of_lt LZ.out)); have TY : Hid (BA wy S 41 l) := (hby.block S LZ.out).trans TZ.out; have K9 := Lib.hid (And.intro (PX.out wy TY.out) (And.intro (PY.out wy TY.out) (PZ.out wy TY.out))); clear hby))
                  rename_i hHeld
                  clear hHeld K8 K9 BZ TZ LZ LQ
                  go_wp2_with fail
                  go_roundw
                  case rel => exact ⟨k + 1, by omega, by go_num, TY.out, BY.out⟩
                  case measure => simp [intOf]; omega
                | false =>
                  rw [hc] at C1
                  have D1 := Lib.hid C1
                  clear C1 C2 hc
                  go_wp2_with fail
                  rw [← op67_eq, ← op68_eq, ← op69_eq, ← op70_eq, ← op71_eq, ← op72_eq, ← op74_eq]
                  go_region_held3 (fun w' => (w'.cell? ⟨S, i * 8, none⟩ = some (.int .u8 x0) ∧ w'.cell? ⟨S, i * 8 + 1, none⟩ = some (.int .u8 x1) ∧ w'.cell? ⟨S, i * 8 + 2, none⟩ = some (.int .u8 x2) ∧ w'.cell? ⟨S, i * 8 + 3, none⟩ = some (.int .u8 x3) ∧ w'.cell? ⟨S, i * 8 + 4, none⟩ = some (.int .u8 x4) ∧ w'.cell? ⟨S, i * 8 + 5, none⟩ = some (.int .u8 x5) ∧ w'.cell? ⟨S, i * 8 + 6, none⟩ = some (.int .u8 x6) ∧ w'.cell? ⟨S, i * 8 + 7, none⟩ = some (.int .u8 x7)) ∧ (w'.cell? ⟨S, j * 8, none⟩ = some (.int .u8 y0) ∧ w'.cell? ⟨S, j * 8 + 1, none⟩ = some (.int .u8 y1) ∧ w'.cell? ⟨S, j * 8 + 2, none⟩ = some (.int .u8 y2) ∧ w'.cell? ⟨S, j * 8 + 3, none⟩ = some (.int .u8 y3) ∧ w'.cell? ⟨S, j * 8 + 4, none⟩ = some (.int .u8 y4) ∧ w'.cell? ⟨S, j * 8 + 5, none⟩ = some (.int .u8 y5) ∧ w'.cell? ⟨S, j * 8 + 6, none⟩ = some (.int .u8 y6) ∧ w'.cell? ⟨S, j * 8 + 7, none⟩ = some (.int .u8 y7)) ∧ (w'.cell? ⟨S, k * 8, none⟩ = some (.int .u8 z0) ∧ w'.cell? ⟨S, k * 8 + 1, none⟩ = some (.int .u8 z1) ∧ w'.cell? ⟨S, k * 8 + 2, none⟩ = some (.int .u8 z2) ∧ w'.cell? ⟨S, k * 8 + 3, none⟩ = some (.int .u8 z3) ∧ w'.cell? ⟨S, k * 8 + 4, none⟩ = some (.int .u8 z4) ∧ w'.cell? ⟨S, k * 8 + 5, none⟩ = some (.int .u8 z5) ∧ w'.cell? ⟨S, k * 8 + 6, none⟩ = some (.int .u8 z6) ∧ w'.cell? ⟨S, k * 8 + 7, none⟩ = some (.int .u8 z7))) (first | exact K8.out | exact K9.out | go_keep)
                    (first
                      | (go_at_call 20; refine (D1.out _).mono ?_; rintro e wz ⟨rfl, hbz⟩; have BZ : Hid (Below S w wz) := BB.out.drew.trans (hbz.mono (Nat.le_of_lt LQ.out)); have TZ : Hid (BA wz S 41 l) := (hbz.block S LQ.out).trans TT.out; have LZ : Hid (S < wz.heap.size) := lt_of_block TZ.out; have K8 := Lib.hid (And.intro (PX.out wz TZ.out) (And.intro (PY.out wz TZ.out) (PZ.out wz TZ.out))); clear hbz))
                  all_goals
                    rename_i hHeld
                    clear hHeld K8 LZ LQ
                    go_wp2_with fail
                    go_roundw
                    case rel => exact ⟨k + 1, by omega, by go_num, TZ.out, BZ.out⟩
                    case measure => simp [intOf]; omega
              · go_wp2
                go_roundw
                case rel => exact ⟨j + 1, by omega, by go_num, TT.out, BB.out⟩
                case measure => simp [intOf]; omega
          | false =>
            clear hboth
            cases b with
            | true =>
              go_wp2_with fail
              go_quiet (fail)
              clear eq27' px0 px1 px2 px3 px4 px5 px6 px7 py0 py1 py2 py3 py4 py5 py6 py7
              generalize hq : wy.drewN _ = wv
              have TV : Hid (BA wv S 41 l) := by rw [← hq]; exact TY.out
              have BV : Hid (Below S w wv) := by rw [← hq]; exact below_drewN BY.out _
              clear hq TY BY
              go_wp2_with fail
              go_loopw [7] (fun kv wr => ∃ k : Nat, k ≤ 3 ∧ kv = .int .i64 k ∧ BA wr S 41 l ∧ Below S w wr) (fun kv _ => 3 - (intOf kv).toNat)
              case atStart => exact ⟨0, by omega, rfl, TV.out, BV.out⟩
              case round =>
                clear TV BV TT BB
                obtain ⟨k, hk, rfl, hT, hbel⟩ := hrel
                have TT := Lib.hid hT
                have BB := Lib.hid hbel
                clear hT hbel
                by_cases hkl : k < 3
                · go_wp2_with fail
                  go_quiet (fail)
                  go_wp2_with fail
                  go_roundw
                  case rel => exact ⟨k + 1, by omega, by go_num, TT.out, below_drewN BB.out _⟩
                  case measure => simp [intOf]; omega
                · go_wp2
                  go_roundw
                  case rel => exact ⟨j + 1, by omega, by go_num, TT.out, BB.out⟩
                  case measure => simp [intOf]; omega
            | false =>
              go_wp2_with fail
              go_quiet (fail)
              clear eq27' px0 px1 px2 px3 px4 px5 px6 px7 py0 py1 py2 py3 py4 py5 py6 py7
              generalize hq : wy.drewN _ = wv
              have TV : Hid (BA wv S 41 l) := by rw [← hq]; exact TY.out
              have BV : Hid (Below S w wv) := by rw [← hq]; exact below_drewN BY.out _
              clear hq TY BY
              go_wp2_with fail
              go_loopw [7] (fun kv wr => ∃ k : Nat, k ≤ 3 ∧ kv = .int .i64 k ∧ BA wr S 41 l ∧ Below S w wr) (fun kv _ => 3 - (intOf kv).toNat)
              case atStart => exact ⟨0, by omega, rfl, TV.out, BV.out⟩
              case round =>
                clear TV BV TT BB
                obtain ⟨k, hk, rfl, hT, hbel⟩ := hrel
                have TT := Lib.hid hT
                have BB := Lib.hid hbel
                clear hT hbel
                by_cases hkl : k < 3
                · go_wp2_with fail
                  go_quiet (fail)
                  go_wp2_with fail
                  go_roundw
                  case rel => exact ⟨k + 1, by omega, by go_num, TT.out, below_drewN BB.out _⟩
                  case measure => simp [intOf]; omega
                · go_wp2
                  go_roundw
                  case rel => exact ⟨j + 1, by omega, by go_num, TT.out, BB.out⟩
                  case measure => simp [intOf]; omega
        · go_wp2
          go_roundw
          case rel => exact ⟨i + 1, by omega, by go_num, TT.out, BB.out⟩
          case measure => simp [intOf]; omega
    · go_wp2
      go_ret
      exact ⟨rfl, by rw [HS.out]; exact BB.out⟩
end Go.Proofs.YtimhjofnaoljjaaDoor
