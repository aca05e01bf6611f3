/-
  mix: a chunk is mixed in.
-/
import Derived.Test.YtimfinachecadaaDoorH3
import Derived.Deep.Cut
namespace Go.Proofs.YtimfinachecadaaDoor
open Go.RowKit

structure S8 where
  a : Int
  b : Int
  c : Int
  d : Int
  e : Int
  f : Int
  g : Int
  h : Int
def S8.l (s : S8) : List Int := [s.a, s.b, s.c, s.d, s.e, s.f, s.g, s.h]
def bs1 (e : Int) : Int := bits .xor .u32 (bits .xor .u32 (rt e 6) (rt e 11)) (rt e 25)
def bs0 (e : Int) : Int := bits .xor .u32 (bits .xor .u32 (rt e 2) (rt e 13)) (rt e 22)
def ch (e f g : Int) : Int := bits .xor .u32 (bits .and .u32 e f) (bits .and .u32 (bits .xor .u32 IntKind.u32.max e) g)
def maj (a b c : Int) : Int := bits .xor .u32 (bits .xor .u32 (bits .and .u32 a b) (bits .and .u32 a c)) (bits .and .u32 b c)
def t1 (s : S8) (k w : Int) : Int := (s.h + bs1 s.e + ch s.e s.f s.g + k + w) % 4294967296
def t2 (s : S8) : Int := (bs0 s.a + maj s.a s.b s.c) % 4294967296
def S8.step (s : S8) (k w : Int) : S8 := ⟨(t1 s k w + t2 s) % 4294967296, s.a, s.b, s.c, (s.d + t1 s k w) % 4294967296, s.e, s.f, s.g⟩
def S8.run (s : S8) (ws : List Int) : Nat → S8
  | 0 => s
  | j + 1 => (s.run ws j).step (kk.getD j 0) (ws.getD j 0)
def S8.add (s r : S8) : S8 := ⟨(s.a + r.a) % 4294967296, (s.b + r.b) % 4294967296, (s.c + r.c) % 4294967296, (s.d + r.d) % 4294967296, (s.e + r.e) % 4294967296, (s.f + r.f) % 4294967296, (s.g + r.g) % 4294967296, (s.h + r.h) % 4294967296⟩
def mixd (xs ys : List Int) (k : Nat) : List Int := (List.range 8).map fun i => if i < k then (xs.getD i 0 + ys.getD i 0) % 4294967296 else xs.getD i 0
theorem mixd_len (xs ys : List Int) (k : Nat) : (mixd xs ys k).length = 8 := by simp [mixd]
theorem mixd_get (xs ys : List Int) (k : Nat) (h : k < 8) : (mixd xs ys k).getD k 0 = xs.getD k 0 := by
  simp [mixd, List.getD, h]
theorem mixd_set (xs ys : List Int) (k : Nat) : (mixd xs ys k).set k ((xs.getD k 0 + ys.getD k 0) % 4294967296) = mixd xs ys (k + 1) := by
  apply List.ext_getElem
  · simp [mixd]
  · intro i h1 h2
    simp only [List.length_set, mixd_len] at h1
    rw [List.getElem_set]
    simp only [mixd, List.getElem_map, List.getElem_range]
    by_cases e : k = i
    · subst e; simp
    · rw [if_neg e]
      by_cases e2 : i < k
      · rw [if_pos e2, if_pos (by omega)]
      · rw [if_neg e2, if_neg (by omega)]
theorem mixd_all (s r : S8) : mixd s.l r.l 8 = (s.add r).l := rfl
theorem mixd_none (s r : S8) : mixd s.l r.l 0 = s.l := rfl
/-- a chunk mixed in -/
def comp (s : S8) (bg : List Int) : S8 := s.add (s.run (sw bg 48) 64)
def Keys (w : World) : Prop := ∀ i, i < 64 → w.cell? ⟨0, i, none⟩ = some (.int .u32 (kk.getD i 0))
theorem keys_below {w W : World} {B : Nat} (h : Keys w) (hb : Below B w W) (hB : 0 < B) : Keys W := fun i hi => by rw [hb.cell (p := ⟨0, i, none⟩) hB]; exact h i hi
theorem q39 (x k : Int) (w : World) (h : okR k = true) : Calls Tryd.prog 34 #[.int .u32 x, .int .i64 k] w fun e w' => e = .returned (.int .u32 (rt x k)) ∧ w' = w := (r39 x k w h).mono fun _ _ h => ⟨h.1, h.2.symm⟩
theorem c43 : (Tryd.prog.info? 56).map (·.size) = some 1 := by kernel_rfl
theorem run_index_ua (t n : Nat) (ht : Tryd.prog.underlying t = some (.array n 56)) (xs : List Int) (j : Nat) (w : World) (hl : xs.length = n) (hj : j < n) :
    (Instr.index t (.agg (ua xs)) (.int .i64 j)).run Tryd.prog w = .ok (.int .u32 (xs.getD j 0)) w := by
  have hu : Tryd.prog.underlying 56 = some (.int .u32) := by kernel_rfl
  have hq := c43
  cases hi : Tryd.prog.info? 56 with
  | none => rw [hi] at hq; cases hq
  | some i =>
    have hs : i.size = 1 := by rw [hi] at hq; simpa using hq
    simp only [Instr.index, asIntOf, Sem.run_bind, Sem.run_pure, Result.andThen_ok, run_underlying ht]
    rw [if_pos (by omega)]
    simp [part, sizeOf, typeInfo, hi, hs, isAgg, run_underlying hu, ua, uvals, List.getD, hl, hj]
theorem S8.run0 (s : S8) (ws : List Int) : s.run ws 0 = s := rfl
theorem S8.run1 (s : S8) (ws : List Int) (j : Nat) : s.run ws (j + 1) = (s.run ws j).step (kk.getD j 0) (ws.getD j 0) := rfl
theorem ua_l (r : S8) : ua r.l = #[.int .u32 r.a, .int .u32 r.b, .int .u32 r.c, .int .u32 r.d, .int .u32 r.e, .int .u32 r.f, .int .u32 r.g, .int .u32 r.h] := rfl
attribute [local irreducible] ua da ba kk sw S8.run rt
set_option maxRecDepth 100000 in
set_option maxHeartbeats 800000 in
theorem c33 (b : Nat) (s : S8) (bg : List Int) (n : Int) (w : World) (hb : bg.length = 64) (h : DA w b s.l bg n) (hk : Keys w) (hb0 : 0 < b) :
    Calls Tryd.prog 31 #[.pointer (some ⟨b, 0, none⟩)] w fun e w' => e = .returned (.tuple #[]) ∧ DA w' b (comp s bg).l bg n ∧ Keys w' ∧ Below b w w' ∧ (∀ k, k < w.heap.size → k ≠ b → w'.heap[k]? = w.heap[k]?) := by
  have h1 := z55
  have HD := Lib.hid h
  have HB := Lib.hid hb
  have HK := Lib.hid hk
  have LT : Hid (b < w.heap.size) := lt_of_block h
  have L0 : Hid (0 < b) := hb0
  have C := Lib.hid (c38 b s.l bg n w rfl hb h)
  clear h hb hk hb0
  obtain ⟨ws, hws⟩ : ∃ ws, sw bg 48 = ws := ⟨_, rfl⟩
  have hwl : ws.length = 64 := by rw [← hws, sw_len]
  rw [hws] at C
  have HWS := Lib.hid hws
  have HWL := Lib.hid hwl
  clear hws hwl
  go_enter Tryd.func31, Tryd.ntmps31
  go_wp2_with (first
    | (go_at_call 33; refine C.out.mono ?_; rintro e w1 ⟨rfl, hb1⟩; have B1 := Lib.hid hb1; clear hb1)
    | (refine wpList_store_rowTo rfl 66 (.tmp 2) (.tmp 18) rfl rfl w1.heap.size (ua ws) rfl rfl 66 (ua (zeros 64)) (heap_alloc_last w1 _) (sz s55 (by rw [ua_size, HWL.out])) (by rw [ua_size, ua_size, HWL.out]; rfl) (ua_one _) ?_; rw [World.setRow_alloc_new]))
  have LQ : Hid (w.heap.size ≤ w1.heap.size) := B1.out.size
  generalize hq : w1.alloc (Obj.cells (ua ws) 66) = wq
  have B2 : Hid (Below w.heap.size w wq) := by rw [← hq]; exact B1.out.alloc B1.out.size _
  have U2 : Hid (UA wq w1.heap.size 66 ws) := by rw [← hq]; exact heap_alloc_last w1 _
  have D2 : Hid (DA wq b s.l bg n) := (B2.out.block b LT.out).trans HD.out
  clear hq
  generalize w1.heap.size = q at *
  have x0 : wq.cell? _ = some (.int .u32 s.a) := da_mx D2.out rfl 0 (by decide)
  have x1 : wq.cell? _ = some (.int .u32 s.b) := da_mx D2.out rfl 1 (by decide)
  have x2 : wq.cell? _ = some (.int .u32 s.c) := da_mx D2.out rfl 2 (by decide)
  have x3 : wq.cell? _ = some (.int .u32 s.d) := da_mx D2.out rfl 3 (by decide)
  go_wp2_with fail
  go_quiet (fail)
  clear x0 x1 x2 x3
  generalize hq : wq.drewN _ = wq2
  have B3 : Hid (Below w.heap.size w wq2) := by rw [← hq]; exact below_drewN B2.out _
  have U3 : Hid (UA wq2 q 66 ws) := by rw [← hq]; exact U2.out
  have D3 : Hid (DA wq2 b s.l bg n) := by rw [← hq]; exact D2.out
  clear hq
  have x0 : wq2.cell? _ = some (.int .u32 s.e) := da_mx D3.out rfl 4 (by decide)
  have x1 : wq2.cell? _ = some (.int .u32 s.f) := da_mx D3.out rfl 5 (by decide)
  have x2 : wq2.cell? _ = some (.int .u32 s.g) := da_mx D3.out rfl 6 (by decide)
  have x3 : wq2.cell? _ = some (.int .u32 s.h) := da_mx D3.out rfl 7 (by decide)
  go_wp2_with fail
  go_quiet (fail)
  clear x0 x1 x2 x3
  generalize hq : wq2.drewN _ = wq3
  have B4 : Hid (Below w.heap.size w wq3) := by rw [← hq]; exact below_drewN B3.out _
  have U4 : Hid (UA wq3 q 66 ws) := by rw [← hq]; exact U3.out
  have D4 : Hid (DA wq3 b s.l bg n) := by rw [← hq]; exact D3.out
  have K4 : Hid (Keys wq3) := keys_below HK.out B4.out (Nat.lt_of_lt_of_le L0.out (Nat.le_of_lt LT.out))
  clear hq
  go_wp2_with (refine wpList_load_row rfl 66 (.tmp 2) rfl q rfl 66 (ua ws) (0, 0) _ U4.out Tryd.underlying66 rfl (sz s55 (by rw [ua_size, HWL.out])) ?_)
  clear U2 D2 B2 U3 D3 B3 U4
  go_loopw [60, 11, 12, 13, 14, 3, 4, 5, 6, 7, 8, 9, 10] (fun i _ _ _ _ va vb vc vd ve vf vg vh wr => ∃ (j : Nat) (r : S8), j ≤ 64 ∧ i = .int .i64 j ∧ r = s.run ws j ∧ va = .int .u32 r.a ∧ vb = .int .u32 r.b ∧ vc = .int .u32 r.c ∧ vd = .int .u32 r.d ∧ ve = .int .u32 r.e ∧ vf = .int .u32 r.f ∧ vg = .int .u32 r.g ∧ vh = .int .u32 r.h ∧ DA wr b s.l bg n ∧ Keys wr ∧ Below w.heap.size w wr) (fun i _ _ _ _ _ _ _ _ _ _ _ _ _ => 64 - (intOf i).toNat)
  case atStart => exact ⟨0, s, by omega, rfl, (S8.run0 s ws).symm, rfl, rfl, rfl, rfl, rfl, rfl, rfl, rfl, D4.out, K4.out, B4.out⟩
  case round =>
    clear D4 K4 B4
    obtain ⟨j, r, hj, rfl, hr, rfl, rfl, rfl, rfl, rfl, rfl, rfl, rfl, hD, hK, hbel⟩ := hrel
    by_cases hlt : j < 64
    · have y0 := hK j hlt
      have hix : ∀ w, (Instr.index 66 (.agg (ua ws)) (.int .i64 j)).run Tryd.prog w = .ok (.int .u32 (ws.getD j 0)) w := fun w => run_index_ua 66 64 Tryd.underlying66 ws j w HWL.out hlt
      generalize hkj : kk.getD j 0 = kj at *
      generalize hwj : ws.getD j 0 = wj at *
      have HKJ := Lib.hid hkj
      have HWJ := Lib.hid hwj
      clear hkj hwj
      have DD := Lib.hid hD
      have KK := Lib.hid hK
      have BB := Lib.hid hbel
      have HR := Lib.hid hr
      clear hD hK hbel hr
      obtain ⟨V, hV⟩ : ∃ V, t2 r = V := ⟨_, rfl⟩
      have HVV := Lib.hid hV
      simp only [t2, bs0, maj] at hV
      go_wp2_with fail
      go_quiet (first | (go_at_call 34; refine Calls.quiet_of_same (q39 _ _ _ (by decide))))
      generalize hq : wr.drewN _ = wr2
      have K2 : Hid (Keys wr2) := by rw [← hq]; exact KK.out
      have D2 : Hid (DA wr2 b s.l bg n) := by rw [← hq]; exact DD.out
      have B2 : Hid (Below w.heap.size w wr2) := by rw [← hq]; exact below_drewN BB.out _
      clear hq
      go_wp2_with (go_at_call 34; refine (r39 _ _ _ (by decide)).mono ?_; rintro e w' ⟨rfl, rfl⟩)
      go_roundw
      case rel =>
        have e1 : s.run ws (j + 1) = r.step kj wj := by rw [S8.run1, HKJ.out, HWJ.out, HR.out]
        refine ⟨j + 1, r.step kj wj, by omega, by go_num, e1.symm, ?_, rfl, rfl, rfl, ?_, rfl, rfl, rfl, D2.out, K2.out, B2.out⟩
        · show _ = Value.int .u32 ((t1 r kj wj + t2 r) % 4294967296)
          rw [HVV.out]
          rfl
        · rfl
      case measure => simp [intOf]; omega
    · have HR := Lib.hid hr
      have hj64 : j = 64 := by omega
      have HJ := Lib.hid hj64
      have hn : ¬ (j : Int) < 64 := by omega
      have DD := Lib.hid hD
      have KK := Lib.hid hK
      have BB := Lib.hid hbel
      clear hr hj64 hD hK hbel hlt hj h1
      generalize (j : Int) = z64 at *
      go_wp2_with fail
      go_loopw [131, 15, 16] (fun i _ _ wr => ∃ j : Nat, j ≤ 8 ∧ i = .int .i64 j ∧ DA wr b (mixd s.l r.l j) bg n ∧ Keys wr ∧ Below b w wr ∧ (∀ k, k < w.heap.size → k ≠ b → wr.heap[k]? = w.heap[k]?)) (fun i _ _ _ => 8 - (intOf i).toNat)
      case atStart => exact ⟨0, by omega, rfl, DD.out, KK.out, BB.out.mono (Nat.le_of_lt LT.out), fun k hk _ => BB.out.block k hk⟩
      case round =>
        clear DD KK BB
        obtain ⟨j, hj, rfl, hD, hK, hbel, hoth⟩ := hrel
        by_cases hlt : j < 8
        · have hix : ∀ w, (Instr.index 57 (.agg (ua r.l)) (.int .i64 j)).run Tryd.prog w = .ok (.int .u32 (r.l.getD j 0)) w := fun w => run_index_ua 57 8 Tryd.underlying57 r.l j w rfl hlt
          rw [ua_l] at hix
          have x0 := da_mx hD (mixd_len _ _ _) j hlt
          have f0 : wr.drew.frozen? ⟨b, j, none⟩ = false := free_of hD j
          have x1 : wr.drew.cell? ⟨b, j, none⟩ = _ := x0
          rw [mixd_get _ _ _ hlt] at x0 x1
          have N1 : Hid (DA (wr.drew.setCell ⟨b, j, none⟩ (.int .u32 ((s.l.getD j 0 + r.l.getD j 0) % 4294967296))) b (mixd s.l r.l (j + 1)) bg n) := by
            have := da_set_mx (w := wr.drew) hD (mixd_len _ _ _) j hlt ((s.l.getD j 0 + r.l.getD j 0) % 4294967296)
            rw [mixd_set] at this
            exact this
          have N2 : Hid (Below b w (wr.drew.setCell ⟨b, j, none⟩ (.int .u32 ((s.l.getD j 0 + r.l.getD j 0) % 4294967296)))) := hbel.drew.setCell (Nat.le_refl _) _
          have N3 : Hid (Keys (wr.drew.setCell ⟨b, j, none⟩ (.int .u32 ((s.l.getD j 0 + r.l.getD j 0) % 4294967296)))) := keys_below hK ((Below.refl b wr).drew.setCell (Nat.le_refl _) _) L0.out
          have N4 : Hid (∀ k, k < w.heap.size → k ≠ b → (wr.drew.setCell ⟨b, j, none⟩ (.int .u32 ((s.l.getD j 0 + r.l.getD j 0) % 4294967296))).heap[k]? = w.heap[k]?) := fun k hk hne => heap_else j _ hne (hoth k hk hne)
          have q1 : (j : Int) < 8 := by omega
          clear hD hK hbel hoth
          generalize s.l.getD j 0 = sj at *
          generalize r.l.getD j 0 = rj at *
          go_wp2_with fail
          go_still_tail 11, (by kernel_rfl)
          change wpList _ _ _ _ _ wr.drew
          generalize wr.drew = wp at *
          go_wp2
          go_roundw
          case rel => exact ⟨j + 1, by omega, by go_num, N1.out, N3.out, N2.out, N4.out⟩
          case measure => simp [intOf]; omega
        · obtain rfl : j = 8 := by omega
          have hDD : DA wr b (comp s bg).l bg n := by
            rw [mixd_all] at hD
            unfold comp
            rw [HWS.out, ← HJ.out, ← HR.out]
            exact hD
          have HDD := Lib.hid hDD
          have HKK := Lib.hid hK
          have HBB := Lib.hid hbel
          have HOO := Lib.hid hoth
          clear hD hK hbel hoth hDD
          go_wp2
          go_end0
          exact ⟨rfl, HDD.out, HKK.out, HBB.out, HOO.out⟩
end Go.Proofs.YtimfinachecadaaDoor
