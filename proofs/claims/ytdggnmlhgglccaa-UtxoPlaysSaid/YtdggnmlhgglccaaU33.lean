/-
  maps.Keys at points: the iterator.
-/
import Derived.Test.YtdggnmlhgglccaaU32
namespace Go.Proofs.Ytdggnmlhgglccaa
open Go.RowKit Go.Maps
set_option maxRecDepth 100000
attribute [local go_sem] Oper.semAt_some
attribute [local irreducible] ptV cnV zeros
set_option maxHeartbeats 2000000 in
theorem keys1_in (F : Fence) (nf : Nat) (h10 : F.fn 43) (hro : F.round = none) (hn : 1 ≤ nf) (l Bm b n : Nat) (F0 : List Int → Option Cn) (K : List (List Int)) (D0 : DataW Unit) (J Jx : List Pt → World → Prop)
    (hki : ∀ v l, keyOf Try.prog 38 v = some l → has D0 l = true → ∃ p ∈ K, v = ptA p) (hKk : Keys F0 K) (hD : ∀ p l, okP p → keyOf Try.prog 38 (ptA p) = some l → has D0 l = (F0 p).isSome) (hsz : size D0 = n)
    (hY : ∀ pre x W, J pre W → pre.length < n → YieldAt F (nf - 1) Try.prog l (encP x) W fun e W' => (e = .returned (.bool true) ∧ J (pre ++ [x]) W' ∧ KeepsWalks W W') ∨ (e = .returned (.bool false) ∧ Jx (pre ++ [x]) W'))
    (W : World) (hJ : AbidesFrom W.heap.size J) (hm : W.cell? ⟨Bm, 0, none⟩ = some (.map (some b))) (hown : W.ownsMap Try.prog 38 cnR b n D0) (h0 : J [] W) :
    CallsIn F nf Try.prog 43 #[.func (.yield l) #[] #[], .pointer (some ⟨Bm, 0, none⟩)] W fun e W' => (∃ v, e = .returned v) ∧ ((∃ xs : List Pt, ((xs.map (·.1)).Nodup ∧ ∀ p, p ∈ xs.map (·.1) ↔ p ∈ K) ∧ J xs W') ∨ (∃ pre, True ∧ Jx pre W')) := by
  refine callsIn_of_wp Try.func43 rfl h10 ?_ hro
  simp only [Try.ntmps43, List.size_toArray, List.length_cons, List.length_nil, Nat.reduceAdd, Nat.reduceSub, Array.replicate_succ, Array.replicate_zero, List.push_toArray, List.append_toArray, List.nil_append, List.cons_append]
  gi_wp2_with (first
    | (gi_at_range; refine wpListIn_range_own _ rfl _ 67 rfl 38 47 keyed61 Try.underlying67 _ b n _ rfl hown ?_; intro w0 hrg0 hg0 hs0)
    | fail)
  go_frame
  gi_loopw [3] (fun _ wr => ∃ (left : Lit → Bool) (cnt : Nat) (ss : List Pt), wr.ranges Try.prog 38 cnR b W.heap.size n D0 left cnt ∧ ss.length + cnt ≤ n ∧ Come D0 left ss ∧ J ss wr) (fun _ wr => wr.rangeLeft b W.heap.size)
  case atStart => exact ⟨_, _, [], hrg0, by simp [hsz], come_start D0, hJ [] W w0 none h0 hg0 (fun r e => by cases e)⟩
  case round =>
    obtain ⟨left, cnt, ss, hrg, hcs, hC, hJs⟩ := hrel
    gi_wp2_with (first
      | (gi_at_next; refine wpListIn_next_ranges _ rfl _ rfl 38 keyed61 cnR (fun v : Value => v) (fun v : Value => v) (fun key kl _ => ⟨key, rfl⟩) (fun v _ _ => ⟨v, rfl⟩) b W.heap.size n _ _ _ rfl hrg ?_ ?_)
      | fail)
    · intro hc0 hl0
      gi_wp2
      go_end0
      refine ⟨⟨_, rfl⟩, .inl ⟨ss, ⟨hC.1, fun p => ⟨fun hp => ?_, fun hp => ?_⟩⟩, hJs⟩⟩
      · obtain ⟨x, _, rfl⟩ := List.mem_map.1 hp
        obtain ⟨l, hl⟩ := pt_key x.2
        have := ((hC.2 _ l x.2 hl).1 hp).1
        rw [hD _ l x.2 hl] at this
        exact (hKk.mem _).2 fun e => by rw [e] at this; cases this
      · have ho := hKk.ok p hp
        obtain ⟨l, hl⟩ := pt_key ho
        refine (hC.2 p l ho hl).2 ⟨?_, hl0 l⟩
        rw [hD p l ho hl]
        have := (hKk.mem p).1 hp
        cases e : F0 p with
        | none => exact absurd e this
        | some c => rfl
    · intro x c kl yd yp w2 cnt2 hkey hlk hv hat hrg2 hlt hg2 hs2 hen
      have hh : has D0 kl = true := has_true_of_atKey hat
      obtain ⟨p, hp, rfl⟩ := hki x kl hkey hh
      have hpo := hKk.ok p hp
      have hJ2 : J ss w2 := hJ ss wr w2 (some W.heap.size) hJs hg2 (fun r e => by cases e; exact ⟨Nat.le_refl _, hrg.iter_walk⟩)
      obtain ⟨w3, hw3⟩ : ∃ w3, (w2.alloc (Obj.cells (ptV (zeros 9)).toArray 38)).setRow w2.heap.size (ptV p).toArray = w3 := ⟨_, rfl⟩
      have hb3 : Below w2.heap.size w2 w3 := by rw [← hw3]; exact below_setRow ((Below.refl _ w2).alloc (Nat.le_refl _) _) (Nat.le_refl _) _
      have hJ3 : J ss w3 := hJ ss w2 w3 none hJ2 ⟨hb3.os, hb3.tape, hb3.output, hb3.size, fun k hk _ => hb3.block k hk⟩ (fun r e => (by cases e))
      have hk3 : KeepsWalks w2 w3 := ⟨hb3.size, fun k o hk _ => (hb3.block k (lt_of_block hk)).trans hk⟩
      have R3 : Hid (w3.rangeAt w2.heap.size 0 (ptV p)) := Lib.hid (by rw [← hw3]; exact range_of (setRow_heap _ _ _ _ _ _ (heap_alloc_last w2 _)))
      have h9 : Hid ((ptV p).length = 9) := ptV_len hpo

      obtain ⟨fn, tmps, assign, body, hy, hR⟩ := hY ss ⟨p, hpo⟩ w3 hJ3 (by omega)
      have hen' : (Instr.entry (.pointer (some ⟨W.heap.size, 0, none⟩))).run Try.prog w2 = .ok (.tuple #[.agg (ptV p).toArray, c]) w2 := hen
      have hy' : (Instr.yield l #[.agg (ptV p).toArray]).run Try.prog w3 = .ok (.round l fn tmps assign body) w3 := hy
      have RR := Lib.hid hR
      clear hs2 hen hy hR hY hat hv hJ2 hb3
      gi_wp2_with (first
        | (refine wpListIn_allocT rfl 38 _ z38 rfl ?_)
        | (refine wpListIn_storeT rfl 38 (.tmp 3) (.tmp 9) rfl w2.heap.size (ptV p).toArray rfl rfl 38 _ (heap_alloc_last _ _) (szA i38 h9.out) (by rw [List.size_toArray, List.size_toArray, ptV9, h9.out]) (all_oneCell_toArray (pt_one _)) ?_; rw [hw3])
        | (refine wpListIn_load_midG rfl 38 (.tmp 3) rfl w2.heap.size 0 rfl (ptV p) _ R3.out Try.underlying38 rfl (szL i38 h9.out) ?_)
        | fail)
      refine RR.out.mono ?_
      rintro e W3 (⟨rfl, hJ4, hk4⟩ | ⟨rfl, hJ4⟩)
      · gi_wp2
        have hrg3 := (hrg2.of_walks hk3).of_walks hk4
        go_roundw
        case rel => exact ⟨_, cnt2, ss ++ [⟨p, hpo⟩], hrg3, by simp; omega, come_step hC hkey hlk hh, hJ4⟩
        case measure => rw [hrg3.left_eq, hrg.left_eq]; exact hlt
      · gi_wp2
        refine bodyPost_ret (results_none rfl _ _ _) rfl ?_
        exact ⟨⟨_, rfl⟩, .inr ⟨_, trivial, hJ4⟩⟩
set_option maxHeartbeats 2000000 in
theorem keys1_nil_in (F : Fence) (nf : Nat) (h10 : F.fn 43) (hro : F.round = none) (l Bm : Nat) (J : List Pt → World → Prop)
    (W : World) (hJ : AbidesFrom W.heap.size J) (hm : W.cell? ⟨Bm, 0, none⟩ = some (.map none)) (h0 : J [] W) :
    CallsIn F nf Try.prog 43 #[.func (.yield l) #[] #[], .pointer (some ⟨Bm, 0, none⟩)] W fun e W' => (∃ v, e = .returned v) ∧ J [] W' := by
  refine callsIn_of_wp Try.func43 rfl h10 ?_ hro
  simp only [Try.ntmps43, List.size_toArray, List.length_cons, List.length_nil, Nat.reduceAdd, Nat.reduceSub, Array.replicate_succ, Array.replicate_zero, List.push_toArray, List.append_toArray, List.nil_append, List.cons_append]
  have hrg := run_range_nilMap (P := Try.prog) W 67 38 47 Try.underlying67
  have hnx : ∀ ty, (Instr.next (.pointer (some ⟨W.heap.size, 0, none⟩)) false ty).run Try.prog (W.alloc (.mapIter none 0 #[] 0)) = _ := fun ty => run_next_nilMap _ ty 0 0 #[]
  gi_wp2
  refine wpIn_loop_rounds 1 ?_
  rw [roundsIn_succ]
  gi_wp2
  go_end0
  exact ⟨⟨_, rfl⟩, hJ [] W _ none h0 (World.grownBy_alloc W _ none) (fun r e => by cases e)⟩
/-- a map of coins, or none: its points are K -/
def MapK (w : World) (m : Option Nat) (F : List Int → Option Cn) (K : List (List Int)) : Prop := Keys F K ∧ match m with
  | none => K = []
  | some b => MapC w b K.length F
theorem keys_stops (F : Fence) (nf : Nat) (h10 : F.fn 43) (hro : F.round = none) (hn : 1 ≤ nf) (Bm : Nat) (m : Option Nat) (F0 : List Int → Option Cn) (K : List (List Int)) (w : World) (hB : Bm < w.heap.size) (hm : w.cell? ⟨Bm, 0, none⟩ = some (.map m)) (h : MapK w m F0 K) :
    SeqStopsK F nf Try.prog 43 #[.pointer (some ⟨Bm, 0, none⟩)] encP KeepsWalks (fun xs => (xs.map (·.1)).Nodup ∧ ∀ p, p ∈ xs.map (·.1) ↔ p ∈ K) (fun _ => True) K.length w := fun l J Jx W hW hJ _ hY h0 => by
  have hm' := (hW.cell (p := ⟨Bm, 0, none⟩) hB).trans hm
  obtain ⟨hk, h⟩ := h
  cases m with
  | none =>
    have h : K = [] := h
    subst h
    exact (keys1_nil_in F nf h10 hro l Bm J W hJ hm' h0).mono fun e W' ⟨he, hj⟩ => ⟨he, .inl ⟨[], ⟨List.nodup_nil, fun p => Iff.rfl⟩, hj⟩⟩
  | some b =>
    have h : MapC w b K.length F0 := h
    have h' := h.keep (hW.block b h.lt)
    obtain ⟨D, h1, h2, h3⟩ := h'
    exact keys1_in F nf h10 hro hn l Bm b K.length F0 K D J Jx (fun v l hv hh => key_is hk rfl h1 h2 h3 hv hh) hk (fun p l hp hl => (h3 p l hp hl).1) h2 hY W hJ hm' h1 h0
theorem uKeys (m : Option Nat) (w : World) : Calls Try.prog 35 #[.map m] w fun e w' => e = .returned (.func (.func 43) #[] #[.pointer (some ⟨w.heap.size, 0, none⟩)]) ∧ w' = w.alloc (.cells #[.map m] 67) := by
  go_enter Try.func35, Try.ntmps35
  go_wp2
  go_ret
  exact ⟨rfl, rfl⟩
end Go.Proofs.Ytdggnmlhgglccaa
