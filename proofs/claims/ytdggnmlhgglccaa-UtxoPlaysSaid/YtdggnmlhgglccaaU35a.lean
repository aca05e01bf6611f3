/-
  Equality of arrays, of structs, part by part; of two hashes, two points, two coins.
-/
import Derived.Test.YtdggnmlhgglccaaU31
namespace Go.Proofs.Ytdggnmlhgglccaa
open Go.RowKit
set_option maxRecDepth 100000
theorem eq_byte (d : Nat) (a b : Int) (w : World) : (Op.equalIn (d + 1) 5 (.int .u8 a) (.int .u8 b)).run Try.prog w = .ok (a == b) w := by
  have hu : Try.prog.underlying 5 = some (.int .u8) := by kernel_rfl
  rw [Op.equalIn]
  simp [run_underlying hu]
theorem part_byte (xs : List Int) (i : Nat) (h : i < xs.length) (w : World) : (part 5 (bvals xs).toArray (i * 1)).run Try.prog w = .ok (.int .u8 (xs.getD i 0)) w := by
  have hu : Try.prog.underlying 5 = some (.int .u8) := by kernel_rfl
  simp [part, isAgg, run_underlying hu, bvals, List.getD, h]
theorem eq_ba (t n d : Nat) (ht : Try.prog.underlying t = some (.array n 5)) (xs ys : List Int) (w : World) (hx : xs.length = n) (hy : ys.length = n) :
    (Op.equalIn (d + 2) t (.agg (bvals xs).toArray) (.agg (bvals ys).toArray)).run Try.prog w = .ok (decide (xs = ys)) w := by
  have z5 := Try.sizeOf5
  rw [Op.equalIn]
  simp only [Sem.run_bind, run_underlying ht, Result.andThen_ok]
  have key : ∀ (L : List Nat) (hL : ∀ i ∈ L, i < n), Sem.run Try.prog (forIn L ((none, ()) : Option Bool × PUnit) fun i r => do
      let a ← part 5 (bvals xs).toArray (i * 1)
      let b ← part 5 (bvals ys).toArray (i * 1)
      let e ← Op.equalIn (d + 1) 5 a b
      if (!e) = true then pure (ForInStep.done (some false, ())) else pure (ForInStep.yield (none, ()))) w = .ok (if (∀ i ∈ L, xs.getD i 0 = ys.getD i 0) then (none, ()) else (some false, ())) w := by
    intro L
    induction L with
    | nil => intro _; simp
    | cons i L ih =>
      intro hL
      have hi := hL i (by simp)
      rw [List.forIn_cons]
      simp only [Sem.run_bind, part_byte xs i (by omega), part_byte ys i (by omega), Result.andThen_ok, eq_byte]
      by_cases e : xs.getD i 0 = ys.getD i 0
      · have := ih fun j hj => hL j (by simp [hj])
        simp only [e, beq_self_eq_true, Bool.not_true, Bool.false_eq_true, if_false, Sem.run_pure, Result.andThen_ok]
        rw [this]
        have e' : xs[i]?.getD 0 = ys[i]?.getD 0 := e
        simp [e']
      · have e' : ¬ xs[i]?.getD 0 = ys[i]?.getD 0 := e
        simp [e']
  simp only [z5, Result.andThen_ok, Std.Legacy.Range.forIn_eq_forIn_range', Std.Legacy.Range.size, Nat.sub_zero, Nat.add_sub_cancel, Nat.div_one]
  rw [key (List.range' 0 n) (fun i hi => by simp [List.mem_range'] at hi; omega)]
  have hall : (∀ i ∈ List.range' 0 n, xs.getD i 0 = ys.getD i 0) ↔ xs = ys := by
    constructor
    · intro h
      apply List.ext_getElem (by omega)
      intro i h1 h2
      have := h i (by simp [List.mem_range']; omega)
      simpa [List.getD, h1, h2] using this
    · rintro rfl _ _
      rfl
  by_cases e : xs = ys
  · rw [if_pos (hall.2 e)]
    simp [e]
  · rw [if_neg (fun h => e (hall.1 h))]
    simp [e]
theorem eq_arr {t e : TypeId} {n k d : Nat} (ht : Try.prog.underlying t = some (.array n e)) (hk : ∀ w, (sizeOf e).run Try.prog w = .ok k w) (xs ys : Array Value) (vx vy : Nat → Value) (F : Nat → Bool)
    (hx : ∀ i, i < n → ∀ w, (part e xs (i * k)).run Try.prog w = .ok (vx i) w) (hy : ∀ i, i < n → ∀ w, (part e ys (i * k)).run Try.prog w = .ok (vy i) w) (he : ∀ i, i < n → ∀ w, (Op.equalIn d e (vx i) (vy i)).run Try.prog w = .ok (F i) w) (w : World) :
    (Op.equalIn (d + 1) t (.agg xs) (.agg ys)).run Try.prog w = .ok ((List.range n).all F) w := by
  rw [Op.equalIn]
  simp only [Sem.run_bind, run_underlying ht, Result.andThen_ok]
  have key : ∀ (L : List Nat) (hL : ∀ i ∈ L, i < n), Sem.run Try.prog (forIn L ((none, ()) : Option Bool × PUnit) fun i r => do
      let a ← part e xs (i * k)
      let b ← part e ys (i * k)
      let q ← Op.equalIn d e a b
      if (!q) = true then pure (ForInStep.done (some false, ())) else pure (ForInStep.yield (none, ()))) w = .ok (if L.all F = true then (none, ()) else (some false, ())) w := by
    intro L
    induction L with
    | nil => intro _; simp
    | cons i L ih =>
      intro hL
      have hi := hL i (by simp)
      rw [List.forIn_cons]
      simp only [Sem.run_bind, hx i hi, hy i hi, he i hi, Result.andThen_ok]
      cases hq : F i
      · simp [hq]
      · have := ih fun j hj => hL j (by simp [hj])
        simp only [Bool.not_true, Bool.false_eq_true, if_false, Sem.run_pure, Result.andThen_ok, List.all_cons, hq, Bool.true_and]
        exact this
  simp only [hk, Result.andThen_ok, Std.Legacy.Range.forIn_eq_forIn_range', Std.Legacy.Range.size, Nat.sub_zero, Nat.add_sub_cancel, Nat.div_one]
  rw [key (List.range' 0 n) (fun i hi => by simp [List.mem_range'] at hi; omega)]
  rw [← List.range_eq_range']
  cases (List.range n).all F <;> simp
theorem eq_str {t : TypeId} {d : Nat} {fs : Array Field} (ht : Try.prog.underlying t = some (.struct fs)) (hs : Try.prog.stoodInHeld t = false) (hn : ∀ f ∈ fs.toList, f.name ≠ "_") (xs ys : Array Value) (vx vy : Field → Value) (F : Field → Bool)
    (hx : ∀ f ∈ fs.toList, ∀ w, (part f.type xs f.offset).run Try.prog w = .ok (vx f) w) (hy : ∀ f ∈ fs.toList, ∀ w, (part f.type ys f.offset).run Try.prog w = .ok (vy f) w) (he : ∀ f ∈ fs.toList, ∀ w, (Op.equalIn d f.type (vx f) (vy f)).run Try.prog w = .ok (F f) w) (w : World) :
    (Op.equalIn (d + 1) t (.agg xs) (.agg ys)).run Try.prog w = .ok (fs.toList.all F) w := by
  rw [Op.equalIn]
  simp only [Sem.run_bind, run_underlying ht, Result.andThen_ok, run_program, hs, Bool.false_eq_true, if_false]
  have key : ∀ (L : List Field) (hL : ∀ f ∈ L, f ∈ fs.toList), Sem.run Try.prog (forIn L ((none, ()) : Option Bool × PUnit) fun f r => do
      if f.name ≠ "_" then do
        let a ← part f.type xs f.offset
        let b ← part f.type ys f.offset
        let q ← Op.equalIn d f.type a b
        if (!q) = true then pure (ForInStep.done (some false, ())) else pure (ForInStep.yield (none, ()))
      else pure (ForInStep.yield (none, ()))) w = .ok (if L.all F = true then (none, ()) else (some false, ())) w := by
    intro L
    induction L with
    | nil => intro _; simp
    | cons f L ih =>
      intro hL
      have hi := hL f (by simp)
      rw [List.forIn_cons]
      rw [if_pos (hn f hi)]
      simp only [Sem.run_bind, hx f hi, hy f hi, he f hi, Result.andThen_ok]
      cases hq : F f
      · simp [hq]
      · have := ih fun j hj => hL j (by simp [hj])
        simp only [Bool.not_true, Bool.false_eq_true, if_false, Sem.run_pure, Result.andThen_ok, List.all_cons, hq, Bool.true_and]
        exact this
  rw [← Array.forIn_toList, key fs.toList fun f h => h]
  cases fs.toList.all F <;> simp
theorem part_int (cs : List Value) (i : Nat) (v : Value) (h : cs[i]? = some v) (w : World) : (part 3 cs.toArray i).run Try.prog w = .ok v w := by
  have hu : Try.prog.underlying 3 = some (.int .i64) := by kernel_rfl
  simp [part, isAgg, run_underlying hu, Result.andThen, h]
theorem part_agg {t k : Nat} {d : TypeDesc} (hu : Try.prog.underlying t = some d) (hd : d.isRow = true) (hk : ∀ w, (sizeOf t).run Try.prog w = .ok k w) (cs : List Value) (i : Nat) (w : World) : (part t cs.toArray i).run Try.prog w = .ok (.agg ((cs.drop i).take k).toArray) w := by
  have ha : (isAgg t).run Try.prog w = .ok true w := by
    cases d <;> simp [TypeDesc.isRow] at hd <;> simp [isAgg, run_underlying hu]
  simp [part, Sem.run_bind, ha, hk, Result.andThen]
theorem eq_int (d : Nat) (a b : Int) (w : World) : (Op.equalIn (d + 1) 3 (.int .i64 a) (.int .i64 b)).run Try.prog w = .ok (a == b) w := by
  have hu : Try.prog.underlying 3 = some (.int .i64) := by kernel_rfl
  rw [Op.equalIn]
  simp [run_underlying hu]
theorem seg_vals (S T U : Sch) (r : List Int) (i k : Nat) (hS : S.length = i) (hT : T.length = k) (hl : i + k ≤ r.length) : ((vals (S ++ (T ++ U)) r).drop i).take k = vals T (seg r i k) := by
  rw [vals_app (by omega), List.drop_left' (by rw [vals_len (by rw [List.length_take]; omega)]; exact hS), vals_app (by rw [List.length_drop]; omega), List.take_left' (by rw [vals_len (by rw [List.length_take, List.length_drop]; omega)]; exact hT)]
  subst hS hT
  rfl
theorem cel_ext {a b : List Int} (h : a.length = b.length) : a = b ↔ ∀ i, i < a.length → cel a i = cel b i := by
  constructor
  · rintro rfl i _; rfl
  · intro g
    apply List.ext_getElem h
    intro i h1 h2
    have := g i h1
    simpa [cel, List.getD, h1, h2] using this
theorem seg_ext {a b : List Int} {i k : Nat} (ha : i + k ≤ a.length) (hb : i + k ≤ b.length) : seg a i k = seg b i k ↔ ∀ j, j < k → cel a (i + j) = cel b (i + j) := by
  rw [cel_ext (by rw [seg_len ha, seg_len hb]), seg_len ha]
  constructor
  · intro h j hj
    have := h j hj
    rwa [cel_seg hj, cel_seg hj] at this
  · intro h j hj
    rw [cel_seg hj, cel_seg hj]
    exact h j hj
theorem seg_seg {r : List Int} {i k j m : Nat} (h : j + m ≤ k) : seg (seg r i k) j m = seg r (i + j) m := by
  unfold seg
  rw [List.drop_take, List.take_take, List.drop_drop, Nat.min_eq_left (by omega)]
theorem bvals_seg {x : List Int} (i k : Nat) : ((bvals x).drop i).take k = bvals (seg x i k) := by
  simp [bvals, seg, List.map_drop, List.map_take]
theorem eq_hash (d : Nat) (x y : List Int) (hx : x.length = 8) (hy : y.length = 8) (w : World) : (Op.equalIn (d + 2) 36 (.agg (bvals x).toArray) (.agg (bvals y).toArray)).run Try.prog w = .ok (decide (x = y)) w := by
  exact eq_ba 36 8 d Try.underlying36 x y w hx hy
theorem eq_pt (x y : List Int) (hx : x.length = 9) (hy : y.length = 9) (w : World) : (Op.equalIn 10000 38 (.agg (vals ptS x).toArray) (.agg (vals ptS y).toArray)).run Try.prog w = .ok (decide (x = y)) w := by
  have hc : ∀ (z : List Int), z.length = 9 → vals ptS z = bvals (seg z 0 8) ++ [.int .i64 (cel z 8)] := fun z hz => by
    match z, hz with
    | [a, b, c, d, e, f, g, i, j], _ => rfl
  have p0 : ∀ (z : List Int), z.length = 9 → ∀ (w : World), (part 36 (vals ptS z).toArray 0).run Try.prog w = .ok (.agg (bvals (seg z 0 8)).toArray) w := fun z hz w => by
    rw [part_agg Try.underlying36 rfl (fun w => Try.sizeOf36 w), hc z hz, List.drop_zero, List.take_left' (by rw [bv_len, seg_len (by omega)])]
  have p1 : ∀ (z : List Int), z.length = 9 → ∀ (w : World), (part 3 (vals ptS z).toArray 8).run Try.prog w = .ok (.int .i64 (cel z 8)) w := fun z hz w => part_int _ 8 _ (by rw [hc z hz, List.getElem?_append_right (by rw [bv_len, seg_len (by omega)]; omega), bv_len, seg_len (by omega)]; rfl) w
  have hs : Try.prog.stoodInHeld 38 = false := by kernel_rfl
  rw [eq_str Try.underlying38 hs (by simp) (vals ptS x).toArray (vals ptS y).toArray (fun f => if f.offset = 0 then .agg (bvals (seg x 0 8)).toArray else .int .i64 (cel x f.offset)) (fun f => if f.offset = 0 then .agg (bvals (seg y 0 8)).toArray else .int .i64 (cel y f.offset))
    (fun f => if f.offset = 0 then decide (seg x 0 8 = seg y 0 8) else (cel x f.offset == cel y f.offset))]
  · congr 1
    rw [Bool.eq_iff_iff, decide_eq_true_eq, cel_ext (a := x) (b := y) (by omega)]
    simp only [List.all_cons, List.all_nil, Bool.and_true, Bool.and_eq_true, if_true, decide_eq_true_eq, show ¬ (8 : Nat) = 0 by decide, if_false, beq_iff_eq]
    rw [seg_ext (by omega) (by omega)]
    constructor
    · rintro ⟨h1, h2⟩ i hi
      by_cases h8 : i < 8
      · have := h1 i h8; rwa [Nat.zero_add] at this
      · obtain rfl : i = 8 := by omega
        exact h2
    · intro h
      exact ⟨fun j hj => by rw [Nat.zero_add]; exact h j (by omega), h 8 (by omega)⟩
  · intro f hf w
    simp only [List.mem_cons, List.not_mem_nil, or_false] at hf
    rcases hf with rfl | rfl
    · exact p0 x hx w
    · exact p1 x hx w
  · intro f hf w
    simp only [List.mem_cons, List.not_mem_nil, or_false] at hf
    rcases hf with rfl | rfl
    · exact p0 y hy w
    · exact p1 y hy w
  · intro f hf w
    simp only [List.mem_cons, List.not_mem_nil, or_false] at hf
    rcases hf with rfl | rfl
    · exact eq_hash 9997 _ _ (seg_len (by omega)) (seg_len (by omega)) w
    · exact eq_int 9998 _ _ w
end Go.Proofs.Ytdggnmlhgglccaa
