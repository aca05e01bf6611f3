/-
  The parameters of so many certifiers may be; what they signed is right; the first thing that each law asks.
-/
import Derived.Test.YtfneopmgckejdaaDoorQ10
import Derived.Test.YtfneopmgckejdaaDoorQ12
import Derived.Test.YtfneopmgckejdaaDoorFB
namespace Go.Proofs.YtfneopmgckejdaaDoor
open Go.RowKit
/-- the roots, as numbers -/
def rv : Nat → List Int
  | 0 => [42, 27, 56, 72, 149, 84, 97, 106]
  | 1 => [198, 66, 121, 243, 225, 231, 225, 136]
  | 2 => [103, 242, 72, 14, 141, 212, 250, 235]
  | 3 => [136, 180, 213, 230, 174, 33, 93, 175]
  | _ => [170, 223, 126, 121, 129, 128, 94, 198]
theorem rootS_rv : ∀ k, k < 5 → rootS k = rv k
  | 0, _ => qr0
  | 1, _ => qr1
  | 2, _ => qr2
  | 3, _ => qr3
  | 4, _ => qr4
  | k + 5, h => by omega
theorem rv_fine : ∀ i, i < 5 → rv i ≠ zeros 8 ∧ ∀ k, k < i → rv k ≠ rv i := by decide
/-- the keys of so many -/
def FK (n : Nat) : Nat → List Int := at8 (cat rootS n)
theorem FK_at {n j : Nat} (h : j < n) : FK n j = rootS j := at8_cat rootS rootS_len n j h
theorem fineK (n : Nat) (h : n ≤ 5) : fineP (FK n) n := fun i hi => by
  have := rv_fine i (by omega)
  refine ⟨?_, fun k hk => ?_⟩
  · rw [FK_at hi, rootS_rv i (by omega)]
    exact this.1
  · rw [FK_at hi, FK_at (by omega), rootS_rv i (by omega), rootS_rv k (by omega)]
    exact this.2 k hk
theorem may_made (n : Nat) (c : Int) (h1 : 1 ≤ n) (h5 : n ≤ 5) (hc : 1 ≤ c) (hc2 : c ≤ n) : mayP (FK n) n 4 2 c = true := by
  unfold mayP mayK
  rw [win_yes (by omega) (by omega), win_yes hc hc2, win_yes (by decide) (by decide), win_yes (by decide) (by decide), decide_eq_true (fineK n h5)]
  rfl
theorem sgnL_at (m : List Int) (ws : List Int) (bs : List Bool) (k i : Nat) (h : i < k) : (sgnL m ws bs k).getD i sgd0 = sgF m ws bs i := by
  rw [List.getD_eq_getElem?_getD]
  simp [sgnL, h]
theorem sgnL_key (m : List Int) (ws : List Int) (bs : List Bool) (k i : Nat) (h : i < k) : keyAt (sgnL m ws bs k) i = ws.getD i 0 := by
  unfold keyAt
  rw [sgnL_at m ws bs k i h]
  rfl
/-- what a certifier signs is right -/
theorem ok_sgF (n : Nat) (m : List Int) (ws : List Int) (i p : Nat) (hp : ws.getD i 0 = (p : Int)) (hn : p < n) : okS (FK n) n m (sgF m ws [] i) = true := by
  have e : sgF m ws [] i = ⟨(p : Int), ((i % 8 : Nat) : Int), sigL (seedL p) (i % 8) m⟩ := sgF_eq rfl hp (by rw [mAt_no rfl])
  rw [e, okS_eq (x := ⟨(p : Int), ((i % 8 : Nat) : Int), sigL (seedL p) (i % 8) m⟩) ⟨by show (0 : Int) ≤ p; omega, by show (p : Int) < n; omega⟩]
  show ckB (FK n (p : Int).toNat) m _ _ = true
  rw [Int.toNat_natCast, FK_at hn]
  exact ck_sig (seedL p) m (i % 8) (Nat.mod_lt _ (by decide))
/-- whose keys are there -/
def inK (n : Nat) (ws : List Int) (k : Nat) : Prop := ∀ i, i < k → ∃ p : Nat, ws.getD i 0 = (p : Int) ∧ p < n
theorem all_made (n : Nat) (m : List Int) (ws : List Int) (k : Nat) (h : inK n ws k) : allP (FK n) n m (sgnL m ws [] k) := fun i hi => by
  rw [sgnL_len] at hi
  obtain ⟨p, hp, hn⟩ := h i hi
  rw [sgnL_at m ws [] k i hi]
  exact ok_sgF n m ws i p hp hn
def riseW (ws : List Int) (k : Nat) : Prop := ∀ i, i < k → i = 0 ∨ ws.getD (i - 1) 0 < ws.getD i 0
instance (ws : List Int) (k : Nat) : Decidable (riseW ws k) := inferInstanceAs (Decidable (∀ i, i < k → _))
theorem rise_made (m : List Int) (ws : List Int) (bs : List Bool) (k : Nat) : riseP (sgnL m ws bs k) ↔ riseW ws k := by
  constructor
  · intro h i hi
    have := h i (by rw [sgnL_len]; exact hi)
    rcases this with h0 | h1
    · exact .inl h0
    · by_cases h0 : i = 0
      · exact .inl h0
      · rw [sgnL_key _ _ _ _ _ hi, sgnL_key _ _ _ _ _ (by omega)] at h1
        exact .inr h1
  · intro h i hi
    rw [sgnL_len] at hi
    rcases h i hi with h0 | h1
    · exact .inl h0
    · by_cases h0 : i = 0
      · exact .inl h0
      · rw [sgnL_key _ _ _ _ _ hi, sgnL_key _ _ _ _ _ (by omega)]
        exact .inr h1
theorem enough_made (n : Nat) (c : Int) (m : List Int) (ws : List Int) (k : Nat) (h1 : 1 ≤ n) (h5 : n ≤ 5) (hc : 1 ≤ c) (hc2 : c ≤ n) (h : inK n ws k) :
    enough (FK n) n 4 2 c m (sgnL m ws [] k) = (decide (c ≤ (k : Int)) && decide (riseW ws k)) := by
  unfold enough
  rw [may_made n c h1 h5 hc hc2, decide_eq_true (all_made n m ws k h), sgnL_len, Bool.true_and, Bool.and_true, decide_eq_decide.2 (rise_made m ws [] k)]
theorem cnt_made (n : Nat) (m : List Int) (ws : List Int) (k : Nat) (h : inK n ws k) (hr : riseW ws k) : cnt (FK n) n m (sgnL m ws [] k) = k := by
  have := (cnt_all ((rise_made m ws [] k).2 hr)).2 (all_made n m ws k h)
  rwa [sgnL_len] at this
/-- of two -/
theorem cnt_two (n : Nat) (m : List Int) (x y : Nat) (hx : x < n) (hy : y < n) : cnt (FK n) n m (sgnL m [(x : Int), (y : Int)] [] 2) = if x = y then 1 else 2 := by
  have e1 : sgnL m [(x : Int), (y : Int)] [] 2 = ([] ++ [sgF m [(x : Int), (y : Int)] [] 0]) ++ [sgF m [(x : Int), (y : Int)] [] 1] := rfl
  have o0 := ok_sgF n m [(x : Int), (y : Int)] 0 x rfl hx
  have o1 := ok_sgF n m [(x : Int), (y : Int)] 1 y rfl hy
  have c1 : cnt (FK n) n m ([] ++ [sgF m [(x : Int), (y : Int)] [] 0]) = 1 := by rw [cnt_yes _ _ _ _ _ o0 rfl, cnt_nil]
  have h1 : has (FK n) n m ([] ++ [sgF m [(x : Int), (y : Int)] [] 0]) (sgF m [(x : Int), (y : Int)] [] 1).key.toNat = decide (x = y) := by
    show has (FK n) n m ([] ++ [sgF m [(x : Int), (y : Int)] [] 0]) (y : Int).toNat = _
    rw [has_app, o0, has_nil, Bool.false_or, Bool.and_true, Int.toNat_natCast]
    exact decide_eq_decide.2 (by show (x : Int) = (y : Int) ↔ x = y; omega)
  rw [e1]
  by_cases e : x = y
  · rw [cnt_again _ _ _ _ _ (by rw [h1, decide_eq_true e]) (by show (0 : Int) ≤ (y : Int); omega), c1, if_pos e]
  · rw [cnt_yes _ _ _ _ _ o1 (by rw [h1, decide_eq_false e]), c1, if_neg e]
theorem inK_two (n x y : Nat) (hx : x < n) (hy : y < n) : inK n [(x : Int), (y : Int)] 2 := fun i hi => by
  rcases (by omega : i = 0 ∨ i = 1) with rfl | rfl
  · exact ⟨x, rfl, hx⟩
  · exact ⟨y, rfl, hy⟩
theorem riseW_two (x y : Int) : decide (riseW [x, y] 2) = decide (x < y) := by
  refine decide_eq_decide.2 ⟨fun h => ?_, fun h i hi => ?_⟩
  · rcases h 1 (by omega) with h0 | h1
    · omega
    · exact h1
  · rcases (by omega : i = 0 ∨ i = 1) with rfl | rfl
    · exact .inl rfl
    · exact .inr h
theorem irow_two {w : World} {G : Nat} {x y : Int} (h : w.heap[G]? = some (.cells #[.int .i64 x, .int .i64 y] 3 (0, 0))) : IRow w (some ⟨G, 0, none⟩) [x, y] := by
  refine .inr ⟨G, 0, rfl, fun j hj => ?_⟩
  rw [Nat.zero_add, cell_of_row w G j _ 3 (0, 0) h]
  rcases (by simpa using hj : j < 2) with hj2
  rcases (by omega : j = 0 ∨ j = 1) with rfl | rfl <;> rfl
/-- two signatures, one by each -/
theorem cSigned2 (m : List Int) (x y : Int) (G : Nat) (w : World) (hk : Keys w) (hm : m.length = 8) (hbt : Byt m) (hG : w.heap[G]? = some (.cells #[.int .i64 x, .int .i64 y] 3 (0, 0))) :
    Calls Tryd.prog 11 #[.agg (bvals m).toArray, .slice (some ⟨G, 0, none⟩) 2 2, .slice none 0 0] w fun e w' => ∃ B c, e = .returned (.slice B 2 c) ∧ (w'.ownsRow w.heap.size 45 282 (.slice B 2 c) 2 ((sgnL m [x, y] [] 2).flatMap eS) ∧ SRow w' B (sgnL m [x, y] [] 2) ∧ 2 ≤ c ∧ c ≤ maxLen) ∧ Below w.heap.size w w' := by
  have := kSigned m (some ⟨G, 0, none⟩) 2 2 [x, y] none 0 0 [] w hk hm hbt (irow_two hG) rfl (.inl rfl) rfl (by decide)
  rw [ba_bvals m] at this
  refine this.mono ?_
  rintro e w' ⟨B, c, rfl, ho, hb⟩
  exact ⟨B, c, rfl, ⟨ho, own_srow ho (sgnL_280 _ _ _ _) (sgnL_len _ _ _ _)⟩, hb⟩
theorem cQuorum (n : Nat) (d : Int) (A : Option Addr) (c : Nat) (m : List Int) (B : Option Addr) (k c2 : Nat) (xs : List Sgd) (w : World) (hk : Keys w) (hs : Src w A (8 * n) (cat rootS n)) (hc : n ≤ c) (hc2 : c ≤ maxLen) (hm : m.length = 8) (hbt : Byt m) (hr : SRow w B xs) (hl : xs.length = k) (hd : k ≤ c2) (hd2 : c2 ≤ maxLen) (h64 : n ≤ 65536) (hl64 : k ≤ 65536) :
    Calls Tryd.prog 12 #[.agg #[.int .i64 4, .int .i64 2, .int .i64 d, .slice A n c], .agg (bvals m).toArray, .slice B k c2] w fun e w' => e = .returned (.bool (enough (FK n) n 4 2 d m xs)) ∧ Below w.heap.size w w' := by
  have := kQuorum A n c (cat rootS n) 4 2 d m B k c2 xs w hk hs hc hc2 hm hbt hr hl hd hd2 h64 hl64
  rw [ba_bvals m] at this
  exact this
theorem cCount (n : Nat) (d : Int) (A : Option Addr) (c : Nat) (m : List Int) (B : Option Addr) (k c2 : Nat) (xs : List Sgd) (w : World) (hk : Keys w) (hs : Src w A (8 * n) (cat rootS n)) (hm : m.length = 8) (hbt : Byt m) (hr : SRow w B xs) (hl : xs.length = k) (hd : k ≤ c2) (hd2 : c2 ≤ maxLen) (h64 : n ≤ 65536) (hl64 : k ≤ 65536) :
    Calls Tryd.prog 14 #[.agg #[.int .i64 4, .int .i64 2, .int .i64 d, .slice A n c], .agg (bvals m).toArray, .slice B k c2] w fun e w' => e = .returned (.int .i64 (cnt (FK n) n m xs)) ∧ Below w.heap.size w w' := by
  have := kCount A n c (cat rootS n) 4 2 d m B k c2 xs w hk hs hm hbt hr hl hd hd2 h64 hl64
  rw [ba_bvals m] at this
  exact this
theorem cMayM (n : Nat) (d : Int) (A : Option Addr) (c : Nat) (w : World) (hs : Src w A (8 * n) (cat rootS n)) (hc : n ≤ c) (hc2 : c ≤ maxLen) :
    Calls Tryd.prog 8 #[.agg #[.int .i64 4, .int .i64 2, .int .i64 d, .slice A n c]] w fun e w' => e = .returned (.bool (mayP (FK n) n 4 2 d)) ∧ Below w.heap.size w w' := kMay A n c (cat rootS n) 4 2 d w hs hc hc2
def m4 : List Int := [4, 0, 0, 0, 0, 0, 0, 0]
theorem ba_m4 : ba m4 = #[.int .u8 4, .int .u8 0, .int .u8 0, .int .u8 0, .int .u8 0, .int .u8 0, .int .u8 0, .int .u8 0] := rfl
theorem byt_m4 : Byt m4 := by intro x hx; simp [m4] at hx; rcases hx with rfl | rfl <;> omega
theorem m4_len : m4.length = 8 := rfl
attribute [local irreducible] ua da ba kk sw S8.run rt hs comp splice outB sha msg bvals at8 secM zeros sec keyF marksF mk pubk bt rootF leafH twoH stepsF cutN leadF provL rootV pubF pubs keyL opn sht way gives ckB chkB rootL sg eS fineP mayK win mayP okS has cnt cntN riseP allP enough keyAt cat opL shL sigL wayP wayL rootS seedL bend mAt sgF sgnL FK riseW m4
set_option maxRecDepth 100000 in
set_option maxHeartbeats 16000000 in
theorem kAwake (w : World) (hk : Keys w) : Calls Tryd.prog 7 #[] w fun e w' => e = .returned (.bool true) ∧ Below w.heap.size w w' := by
  have HK := Lib.hid hk
  have HP : Hid (0 < w.heap.size) := keys_pos hk
  obtain ⟨S, hS⟩ : ∃ S, w.heap.size = S := ⟨_, rfl⟩
  have HS := Lib.hid hS
  have KW : Hid (∀ w', Below S w w' → Keys w') := fun w' hb => keys_below HK.out hb (by rw [← HS.out]; exact HP.out)
  have C10 : Hid (Calls Tryd.prog 10 #[.int .i64 3, .int .i64 2] w fun e w' => ∃ A c, e = .returned (.agg #[.int .i64 4, .int .i64 2, .int .i64 2, .slice A 3 c]) ∧ Src w' A (8 * 3) (cat rootS 3) ∧ 3 ≤ c ∧ c ≤ maxLen ∧ Below w.heap.size w w') := kMade 3 2 w hk (by decide)
  clear hk
  go_enter Tryd.func7, Tryd.ntmps7
  go_wp2_with (first
    | (go_at_call 10
       refine C10.out.mono ?_
       rintro e w1 ⟨A, c, rfl, hsrc, hc3, hcm, hb⟩
       have S1 := Lib.hid hsrc
       have HC3 := Lib.hid hc3
       have HCM := Lib.hid hcm
       have B1 : Hid (Below S w w1) := by show Below _ _ _; rw [← HS.out]; exact hb
       obtain ⟨PBK, hP⟩ : ∃ q, w1.heap.size = q := ⟨_, rfl⟩
       have PQ1 := Lib.hid (pb_old (pb_new hP 4 2 2 (.slice A 3 c)) (Obj.cells #[.int .u8 4, .int .u8 0, .int .u8 0, .int .u8 0, .int .u8 0, .int .u8 0, .int .u8 0, .int .u8 0] 32))
       have MQ1 : Hid (BA ((w1.alloc (Obj.cells #[.int .i64 4, .int .i64 2, .int .i64 2, .slice A 3 c] 24)).alloc (Obj.cells #[.int .u8 4, .int .u8 0, .int .u8 0, .int .u8 0, .int .u8 0, .int .u8 0, .int .u8 0, .int .u8 0] 32)) (PBK + 1) 32 m4) := by
         have := ba_new (size_al hP (Obj.cells #[.int .i64 4, .int .i64 2, .int .i64 2, .slice A 3 c] 24)) m4 32
         rw [ba_m4] at this
         exact this
       have BW : Hid (Below PBK w1 ((w1.alloc (Obj.cells #[.int .i64 4, .int .i64 2, .int .i64 2, .slice A 3 c] 24)).alloc (Obj.cells #[.int .u8 4, .int .u8 0, .int .u8 0, .int .u8 0, .int .u8 0, .int .u8 0, .int .u8 0, .int .u8 0] 32))) := ((Below.refl _ w1).alloc (Nat.le_of_eq hP.symm) _).alloc (by rw [size_al hP]; omega) _
       have HPS : Hid (S ≤ PBK) := by show _ ≤ _; rw [← hP, ← HS.out]; exact hb.size
       clear hb hsrc hc3 hcm)
    | fail)
  generalize ((w1.alloc (Obj.cells #[.int .i64 4, .int .i64 2, .int .i64 2, .slice A 3 c] 24)).alloc (Obj.cells #[.int .u8 4, .int .u8 0, .int .u8 0, .int .u8 0, .int .u8 0, .int .u8 0, .int .u8 0, .int .u8 0] 32)) = wB at *
  have PQ := PQ1
  obtain ⟨mm, hmm⟩ : ∃ mm, m4 = mm := ⟨_, rfl⟩
  have MQ : Hid (BA wB (PBK + 1) 32 mm) := by rw [← hmm]; exact MQ1.out
  have LMM : Hid (mm.length = 8) := by rw [← hmm]; exact m4_len
  have BMM : Hid (Byt mm) := by rw [← hmm]; exact byt_m4
  have him := inf23 mm LMM.out
  obtain ⟨N, hN⟩ : ∃ N, wB.heap.size = N := ⟨_, rfl⟩
  have WN : Hid (wB.heap.size = N) := hN
  have LN : Hid (PBK + 1 < N) := by show _ < _; rw [← hN]; exact lt_of_block MQ.out
  have KN : Hid (∀ w', Below N wB w' → Below S w w') := fun w' hb => B1.out.trans ((BW.out.trans (hb.mono (by have := LN.out; omega))).mono HPS.out)
  have SN : Hid (∀ w', Below N wB w' → Src w' A (8 * 3) (cat rootS 3)) := fun w' hb => S1.out.keep fun q hq => (BW.out.trans (hb.mono (by have := LN.out; omega))).block q (by rw [← hP]; exact hq)
  have C8 : Hid (∀ w', Below N wB w' → Calls Tryd.prog 8 #[.agg #[.int .i64 4, .int .i64 2, .int .i64 2, .slice A 3 c]] w' fun e w'' => e = .returned (.bool true) ∧ Below w'.heap.size w' w'') := fun w' hb => by
    have := cMayM 3 2 A c w' (SN.out w' hb) HC3.out HCM.out
    rw [may_made 3 2 (by decide) (by decide) (by decide) (by decide)] at this
    exact this
  have C11 : Hid (∀ (x y : Int) (G : Nat) (w' : World), Below N wB w' → w'.heap[G]? = some (.cells #[.int .i64 x, .int .i64 y] 3 (0, 0)) → Calls Tryd.prog 11 #[.agg (bvals mm).toArray, .slice (some ⟨G, 0, none⟩) 2 2, .slice none 0 0] w' fun e w'' => ∃ B c, e = .returned (.slice B 2 c) ∧ (w''.ownsRow w'.heap.size 45 282 (.slice B 2 c) 2 ((sgnL mm [x, y] [] 2).flatMap eS) ∧ SRow w'' B (sgnL mm [x, y] [] 2) ∧ 2 ≤ c ∧ c ≤ maxLen) ∧ Below w'.heap.size w' w'') := fun x y G w' hb hG => cSigned2 mm x y G w' (KW.out w' (KN.out w' hb)) LMM.out BMM.out hG
  have C12 : Hid (∀ (x y : Nat) (v : Bool) (B : Option Addr) (c2 : Nat) (w' : World), x < 3 → y < 3 → decide ((x : Int) < (y : Int)) = v → Below N wB w' → SRow w' B (sgnL mm [(x : Int), (y : Int)] [] 2) → 2 ≤ c2 → c2 ≤ maxLen → Calls Tryd.prog 12 #[.agg #[.int .i64 4, .int .i64 2, .int .i64 2, .slice A 3 c], .agg (bvals mm).toArray, .slice B 2 c2] w' fun e w'' => e = .returned (.bool v) ∧ Below w'.heap.size w' w'') := fun x y v B c2 w' hx hy hv hb hr h2 h3 => by
    have := cQuorum 3 2 A c mm B 2 c2 _ w' (KW.out w' (KN.out w' hb)) (SN.out w' hb) HC3.out HCM.out LMM.out BMM.out hr (sgnL_len _ _ _ _) h2 h3 (by decide) (by decide)
    rw [enough_made 3 2 mm _ 2 (by decide) (by decide) (by decide) (by decide) (inK_two 3 x y hx hy), riseW_two, hv] at this
    exact this
  have C14 : Hid (∀ (B : Option Addr) (c2 : Nat) (w' : World), Below N wB w' → SRow w' B (sgnL mm [1, 1] [] 2) → 2 ≤ c2 → c2 ≤ maxLen → Calls Tryd.prog 14 #[.agg #[.int .i64 4, .int .i64 2, .int .i64 2, .slice A 3 c], .agg (bvals mm).toArray, .slice B 2 c2] w' fun e w'' => e = .returned (.int .i64 1) ∧ Below w'.heap.size w' w'') := fun B c2 w' hb hr h2 h3 => by
    have := cCount 3 2 A c mm B 2 c2 _ w' (KW.out w' (KN.out w' hb)) (SN.out w' hb) LMM.out BMM.out hr (sgnL_len _ _ _ _) h2 h3 (by decide) (by decide)
    have e := cnt_two 3 mm 1 1 (by decide) (by decide)
    rw [if_pos rfl] at e
    have e2 : cnt (FK 3) 3 mm (sgnL mm [1, 1] [] 2) = 1 := e
    rw [e2] at this
    exact this
  clear hmm hN hP hS PQ1 MQ1 B1 BW S1 C10
  have XX : Hid (Below N wB wB.drew) := (Below.refl _ _).drew
  refine wp_region_held_drew (S := (fun w' : World => ∀ q, q < N → w'.heap[q]? = wB.heap[q]?)) (by kernel_rfl) (by exact fun _ _ => rfl) (fun hHeld => ?_)
  refine wpAnyH_take (i := 0) rfl (by kernel_rfl) (by kernel_rfl) (by kernel_rfl) (fun _ _ _ h => h) (yieldsIf_load_mid (by rfl) 24 (.tmp 1) rfl (PBK) (0) rfl [.int .i64 4, .int .i64 2, .int .i64 2, .slice A 3 c] _ (fun w h => pb_range ((h _ (by have := LN.out; omega)).trans PQ.out)) Tryd.underlying24 rfl (pb_info 4 2 2 _)) (by assumption) ?_
  simp only [Act.put, List.getElem_toArray, List.getElem_cons_zero, List.setIfInBounds_toArray, List.set_cons_zero, List.set_cons_succ]
  refine wpAnyH_ready (rs := [1]) (by kernel_rfl) (by simp) ?_
  refine AllReadyH.cons rfl (fun Kq hKq => ?_) AllReadyH.nil
  go_simp
  go_at_call 8
  refine (C8.out _ XX.out).mono ?_
  rintro e wd ⟨rfl, hba⟩
  have XN : Hid (Below N wB wd) := XX.out.trans (hba.mono (by have := XX.out.size; have := WN.out; omega))
  clear XX hba
  have XX := XN
  clear XN
  (try go_wp2_with fail)
  refine hKq.out _ _ (by exact fun q hq => XX.out.block q hq) (fun _ => ?_)
  clear hKq Kq
  (try simp only [Act.put, List.getElem_toArray, List.getElem_cons_succ, List.getElem_cons_zero, List.setIfInBounds_toArray, List.set_cons_zero, List.set_cons_succ])
  refine wpAnyH_take (i := 2) (v := ?_) rfl (by kernel_rfl) (by kernel_rfl) (by kernel_rfl) (fun _ _ _ h => h) (Or.inl ⟨by rfl, ?_⟩) (by assumption) ?_
  rotate_left
  · (intro w hSw; (try dsimp only at hSw); go_simp; try with_reducible rfl)
  simp only [Act.put, List.getElem_toArray, List.getElem_cons_succ, List.getElem_cons_zero, List.setIfInBounds_toArray, List.set_cons_zero, List.set_cons_succ]
  refine wpAnyH_take (i := 3) rfl (by kernel_rfl) (by kernel_rfl) (by kernel_rfl) (fun _ _ _ h => h) (yieldsIf_load_mid (by rfl) 24 (.tmp 1) rfl (PBK) (0) rfl [.int .i64 4, .int .i64 2, .int .i64 2, .slice A 3 c] _ (fun w h => pb_range ((h _ (by have := LN.out; omega)).trans PQ.out)) Tryd.underlying24 rfl (pb_info 4 2 2 _)) (by assumption) ?_
  simp only [Act.put, List.getElem_toArray, List.getElem_cons_succ, List.getElem_cons_zero, List.setIfInBounds_toArray, List.set_cons_zero, List.set_cons_succ]
  refine wpAnyH_take (i := 4) rfl (by kernel_rfl) (by kernel_rfl) (by kernel_rfl) (fun _ _ _ h => h) (yieldsIf_load_mid (by rfl) 32 (.tmp 2) rfl (PBK + 1) (0) rfl (bvals mm) _ (fun w h => ba_range (t := 32) ((h _ (by have := LN.out; omega)).trans MQ.out)) Tryd.underlying32 rfl him) (by assumption) ?_
  simp only [Act.put, List.getElem_toArray, List.getElem_cons_succ, List.getElem_cons_zero, List.setIfInBounds_toArray, List.set_cons_zero, List.set_cons_succ]
  refine wpAnyH_take (i := 5) rfl (by kernel_rfl) (by kernel_rfl) (by kernel_rfl) (fun _ _ _ h => h) (yieldsIf_load_mid (by rfl) 32 (.tmp 2) rfl (PBK + 1) (0) rfl (bvals mm) _ (fun w h => ba_range (t := 32) ((h _ (by have := LN.out; omega)).trans MQ.out)) Tryd.underlying32 rfl him) (by assumption) ?_
  simp only [Act.put, List.getElem_toArray, List.getElem_cons_succ, List.getElem_cons_zero, List.setIfInBounds_toArray, List.set_cons_zero, List.set_cons_succ]
  (try clear hHeld)
  refine wpAnyH_ready (rs := [6]) (by kernel_rfl) (by simp) ?_
  refine AllReadyH.cons rfl (fun Kq hKq => ?_) AllReadyH.nil
  go_simp
  obtain ⟨G, hG⟩ : ∃ G, wd.heap.size = G := ⟨_, rfl⟩
  (try rw [hG])
  have HG : Hid ((wd.alloc (Obj.cells #[.int .i64 0, .int .i64 2] 3)).heap[G]? = some (.cells #[.int .i64 0, .int .i64 2] 3 (0, 0))) := by show _ = _; rw [← hG]; exact heap_alloc_last wd _
  have XN : Hid (Below N wB (wd.alloc (Obj.cells #[.int .i64 0, .int .i64 2] 3))) := XX.out.alloc (by have := XX.out.size; have := WN.out; omega) _
  clear XX hG
  have XX := XN
  clear XN
  generalize wd.alloc (Obj.cells #[.int .i64 0, .int .i64 2] 3) = we at *
  refine hKq.out _ _ (by exact fun q hq => XX.out.block q hq) (fun _ => ?_)
  clear hKq Kq
  (try simp only [Act.put, List.getElem_toArray, List.getElem_cons_succ, List.getElem_cons_zero, List.setIfInBounds_toArray, List.set_cons_zero, List.set_cons_succ])
  refine wpAnyH_ready (rs := [7]) (by kernel_rfl) (by simp) ?_
  refine AllReadyH.cons rfl (fun Kq hKq => ?_) AllReadyH.nil
  go_simp
  go_at_call 11
  refine (C11.out 0 2 _ _ XX.out HG.out).mono ?_
  rintro e wd ⟨B, cB, rfl, hrow, hba⟩
  have XN : Hid (Below N wB wd) := XX.out.trans (hba.mono (by have := XX.out.size; have := WN.out; omega))
  have SR := Lib.hid hrow
  clear hrow HG
  clear XX hba
  have XX := XN
  clear XN
  (try go_wp2_with fail)
  refine hKq.out _ _ (by exact fun q hq => XX.out.block q hq) (fun _ => ?_)
  clear hKq Kq
  (try simp only [Act.put, List.getElem_toArray, List.getElem_cons_succ, List.getElem_cons_zero, List.setIfInBounds_toArray, List.set_cons_zero, List.set_cons_succ])
  refine wpAnyH_ready (rs := [8]) (by kernel_rfl) (by simp) ?_
  refine AllReadyH.cons rfl (fun Kq hKq => ?_) AllReadyH.nil
  go_simp
  go_at_call 12
  refine (C12.out 0 2 true _ _ _ (by decide) (by decide) rfl XX.out SR.out.2.1 SR.out.2.2.1 SR.out.2.2.2).mono ?_
  rintro e wd ⟨rfl, hba⟩
  have XN : Hid (Below N wB wd) := XX.out.trans (hba.mono (by have := XX.out.size; have := WN.out; omega))
  clear SR
  clear XX hba
  have XX := XN
  clear XN
  (try go_wp2_with fail)
  refine hKq.out _ _ (by exact fun q hq => XX.out.block q hq) (fun _ => ?_)
  clear hKq Kq
  (try simp only [Act.put, List.getElem_toArray, List.getElem_cons_succ, List.getElem_cons_zero, List.setIfInBounds_toArray, List.set_cons_zero, List.set_cons_succ])
  refine wpAnyH_take (i := 9) (v := ?_) rfl (by kernel_rfl) (by kernel_rfl) (by kernel_rfl) (fun _ _ _ h => h) (Or.inl ⟨by rfl, ?_⟩) (by assumption) ?_
  rotate_left
  · (intro w hSw; (try dsimp only at hSw); go_simp; try with_reducible rfl)
  simp only [Act.put, List.getElem_toArray, List.getElem_cons_succ, List.getElem_cons_zero, List.setIfInBounds_toArray, List.set_cons_zero, List.set_cons_succ]
  refine wpAnyH_take (i := 10) (v := ?_) rfl (by kernel_rfl) (by kernel_rfl) (by kernel_rfl) (fun _ _ _ h => h) (Or.inl ⟨by rfl, ?_⟩) (by assumption) ?_
  rotate_left
  · (intro w hSw; (try dsimp only at hSw); go_simp; try with_reducible rfl)
  simp only [Act.put, List.getElem_toArray, List.getElem_cons_succ, List.getElem_cons_zero, List.setIfInBounds_toArray, List.set_cons_zero, List.set_cons_succ]
  refine wpAnyH_take (i := 11) rfl (by kernel_rfl) (by kernel_rfl) (by kernel_rfl) (fun _ _ _ h => h) (yieldsIf_load_mid (by rfl) 24 (.tmp 1) rfl (PBK) (0) rfl [.int .i64 4, .int .i64 2, .int .i64 2, .slice A 3 c] _ (fun w h => pb_range ((h _ (by have := LN.out; omega)).trans PQ.out)) Tryd.underlying24 rfl (pb_info 4 2 2 _)) (by assumption) ?_
  simp only [Act.put, List.getElem_toArray, List.getElem_cons_succ, List.getElem_cons_zero, List.setIfInBounds_toArray, List.set_cons_zero, List.set_cons_succ]
  refine wpAnyH_take (i := 12) rfl (by kernel_rfl) (by kernel_rfl) (by kernel_rfl) (fun _ _ _ h => h) (yieldsIf_load_mid (by rfl) 32 (.tmp 2) rfl (PBK + 1) (0) rfl (bvals mm) _ (fun w h => ba_range (t := 32) ((h _ (by have := LN.out; omega)).trans MQ.out)) Tryd.underlying32 rfl him) (by assumption) ?_
  simp only [Act.put, List.getElem_toArray, List.getElem_cons_succ, List.getElem_cons_zero, List.setIfInBounds_toArray, List.set_cons_zero, List.set_cons_succ]
  refine wpAnyH_take (i := 13) rfl (by kernel_rfl) (by kernel_rfl) (by kernel_rfl) (fun _ _ _ h => h) (yieldsIf_load_mid (by rfl) 32 (.tmp 2) rfl (PBK + 1) (0) rfl (bvals mm) _ (fun w h => ba_range (t := 32) ((h _ (by have := LN.out; omega)).trans MQ.out)) Tryd.underlying32 rfl him) (by assumption) ?_
  simp only [Act.put, List.getElem_toArray, List.getElem_cons_succ, List.getElem_cons_zero, List.setIfInBounds_toArray, List.set_cons_zero, List.set_cons_succ]
  refine wpAnyH_ready (rs := [14]) (by kernel_rfl) (by simp) ?_
  refine AllReadyH.cons rfl (fun Kq hKq => ?_) AllReadyH.nil
  go_simp
  obtain ⟨G, hG⟩ : ∃ G, wd.heap.size = G := ⟨_, rfl⟩
  (try rw [hG])
  have HG : Hid ((wd.alloc (Obj.cells #[.int .i64 2, .int .i64 0] 3)).heap[G]? = some (.cells #[.int .i64 2, .int .i64 0] 3 (0, 0))) := by show _ = _; rw [← hG]; exact heap_alloc_last wd _
  have XN : Hid (Below N wB (wd.alloc (Obj.cells #[.int .i64 2, .int .i64 0] 3))) := XX.out.alloc (by have := XX.out.size; have := WN.out; omega) _
  clear XX hG
  have XX := XN
  clear XN
  generalize wd.alloc (Obj.cells #[.int .i64 2, .int .i64 0] 3) = we at *
  refine hKq.out _ _ (by exact fun q hq => XX.out.block q hq) (fun _ => ?_)
  clear hKq Kq
  (try simp only [Act.put, List.getElem_toArray, List.getElem_cons_succ, List.getElem_cons_zero, List.setIfInBounds_toArray, List.set_cons_zero, List.set_cons_succ])
  refine wpAnyH_ready (rs := [15]) (by kernel_rfl) (by simp) ?_
  refine AllReadyH.cons rfl (fun Kq hKq => ?_) AllReadyH.nil
  go_simp
  go_at_call 11
  refine (C11.out 2 0 _ _ XX.out HG.out).mono ?_
  rintro e wd ⟨B, cB, rfl, hrow, hba⟩
  have XN : Hid (Below N wB wd) := XX.out.trans (hba.mono (by have := XX.out.size; have := WN.out; omega))
  have SR := Lib.hid hrow
  clear hrow HG
  clear XX hba
  have XX := XN
  clear XN
  (try go_wp2_with fail)
  refine hKq.out _ _ (by exact fun q hq => XX.out.block q hq) (fun _ => ?_)
  clear hKq Kq
  (try simp only [Act.put, List.getElem_toArray, List.getElem_cons_succ, List.getElem_cons_zero, List.setIfInBounds_toArray, List.set_cons_zero, List.set_cons_succ])
  refine wpAnyH_ready (rs := [16]) (by kernel_rfl) (by simp) ?_
  refine AllReadyH.cons rfl (fun Kq hKq => ?_) AllReadyH.nil
  go_simp
  go_at_call 12
  refine (C12.out 2 0 false _ _ _ (by decide) (by decide) rfl XX.out SR.out.2.1 SR.out.2.2.1 SR.out.2.2.2).mono ?_
  rintro e wd ⟨rfl, hba⟩
  have XN : Hid (Below N wB wd) := XX.out.trans (hba.mono (by have := XX.out.size; have := WN.out; omega))
  clear SR
  clear XX hba
  have XX := XN
  clear XN
  (try go_wp2_with fail)
  refine hKq.out _ _ (by exact fun q hq => XX.out.block q hq) (fun _ => ?_)
  clear hKq Kq
  (try simp only [Act.put, List.getElem_toArray, List.getElem_cons_succ, List.getElem_cons_zero, List.setIfInBounds_toArray, List.set_cons_zero, List.set_cons_succ])
  refine wpAnyH_take (i := 17) (v := ?_) rfl (by kernel_rfl) (by kernel_rfl) (by kernel_rfl) (fun _ _ _ h => h) (Or.inl ⟨by rfl, ?_⟩) (by assumption) ?_
  rotate_left
  · (intro w hSw; (try dsimp only at hSw); go_simp; try with_reducible rfl)
  simp only [Act.put, List.getElem_toArray, List.getElem_cons_succ, List.getElem_cons_zero, List.setIfInBounds_toArray, List.set_cons_zero, List.set_cons_succ]
  refine wpAnyH_take (i := 18) (v := ?_) rfl (by kernel_rfl) (by kernel_rfl) (by kernel_rfl) (fun _ _ _ h => h) (Or.inl ⟨by rfl, ?_⟩) (by assumption) ?_
  rotate_left
  · (intro w hSw; (try dsimp only at hSw); go_simp; try with_reducible rfl)
  simp only [Act.put, List.getElem_toArray, List.getElem_cons_succ, List.getElem_cons_zero, List.setIfInBounds_toArray, List.set_cons_zero, List.set_cons_succ]
  refine wpAnyH_take (i := 19) (v := ?_) rfl (by kernel_rfl) (by kernel_rfl) (by kernel_rfl) (fun _ _ _ h => h) (Or.inl ⟨by rfl, ?_⟩) (by assumption) ?_
  rotate_left
  · (intro w hSw; (try dsimp only at hSw); go_simp; try with_reducible rfl)
  simp only [Act.put, List.getElem_toArray, List.getElem_cons_succ, List.getElem_cons_zero, List.setIfInBounds_toArray, List.set_cons_zero, List.set_cons_succ]
  refine wpAnyH_take (i := 20) rfl (by kernel_rfl) (by kernel_rfl) (by kernel_rfl) (fun _ _ _ h => h) (yieldsIf_load_mid (by rfl) 24 (.tmp 1) rfl (PBK) (0) rfl [.int .i64 4, .int .i64 2, .int .i64 2, .slice A 3 c] _ (fun w h => pb_range ((h _ (by have := LN.out; omega)).trans PQ.out)) Tryd.underlying24 rfl (pb_info 4 2 2 _)) (by assumption) ?_
  simp only [Act.put, List.getElem_toArray, List.getElem_cons_succ, List.getElem_cons_zero, List.setIfInBounds_toArray, List.set_cons_zero, List.set_cons_succ]
  refine wpAnyH_take (i := 21) rfl (by kernel_rfl) (by kernel_rfl) (by kernel_rfl) (fun _ _ _ h => h) (yieldsIf_load_mid (by rfl) 32 (.tmp 2) rfl (PBK + 1) (0) rfl (bvals mm) _ (fun w h => ba_range (t := 32) ((h _ (by have := LN.out; omega)).trans MQ.out)) Tryd.underlying32 rfl him) (by assumption) ?_
  simp only [Act.put, List.getElem_toArray, List.getElem_cons_succ, List.getElem_cons_zero, List.setIfInBounds_toArray, List.set_cons_zero, List.set_cons_succ]
  refine wpAnyH_take (i := 22) rfl (by kernel_rfl) (by kernel_rfl) (by kernel_rfl) (fun _ _ _ h => h) (yieldsIf_load_mid (by rfl) 32 (.tmp 2) rfl (PBK + 1) (0) rfl (bvals mm) _ (fun w h => ba_range (t := 32) ((h _ (by have := LN.out; omega)).trans MQ.out)) Tryd.underlying32 rfl him) (by assumption) ?_
  simp only [Act.put, List.getElem_toArray, List.getElem_cons_succ, List.getElem_cons_zero, List.setIfInBounds_toArray, List.set_cons_zero, List.set_cons_succ]
  refine wpAnyH_ready (rs := [23]) (by kernel_rfl) (by simp) ?_
  refine AllReadyH.cons rfl (fun Kq hKq => ?_) AllReadyH.nil
  go_simp
  obtain ⟨G, hG⟩ : ∃ G, wd.heap.size = G := ⟨_, rfl⟩
  (try rw [hG])
  have HG : Hid ((wd.alloc (Obj.cells #[.int .i64 1, .int .i64 1] 3)).heap[G]? = some (.cells #[.int .i64 1, .int .i64 1] 3 (0, 0))) := by show _ = _; rw [← hG]; exact heap_alloc_last wd _
  have XN : Hid (Below N wB (wd.alloc (Obj.cells #[.int .i64 1, .int .i64 1] 3))) := XX.out.alloc (by have := XX.out.size; have := WN.out; omega) _
  clear XX hG
  have XX := XN
  clear XN
  generalize wd.alloc (Obj.cells #[.int .i64 1, .int .i64 1] 3) = we at *
  refine hKq.out _ _ (by exact fun q hq => XX.out.block q hq) (fun _ => ?_)
  clear hKq Kq
  (try simp only [Act.put, List.getElem_toArray, List.getElem_cons_succ, List.getElem_cons_zero, List.setIfInBounds_toArray, List.set_cons_zero, List.set_cons_succ])
  refine wpAnyH_ready (rs := [24]) (by kernel_rfl) (by simp) ?_
  refine AllReadyH.cons rfl (fun Kq hKq => ?_) AllReadyH.nil
  go_simp
  go_at_call 11
  refine (C11.out 1 1 _ _ XX.out HG.out).mono ?_
  rintro e wd ⟨B, cB, rfl, hrow, hba⟩
  have XN : Hid (Below N wB wd) := XX.out.trans (hba.mono (by have := XX.out.size; have := WN.out; omega))
  have SR := Lib.hid hrow
  clear hrow HG
  clear XX hba
  have XX := XN
  clear XN
  (try go_wp2_with fail)
  refine hKq.out _ _ (by exact fun q hq => XX.out.block q hq) (fun _ => ?_)
  clear hKq Kq
  (try simp only [Act.put, List.getElem_toArray, List.getElem_cons_succ, List.getElem_cons_zero, List.setIfInBounds_toArray, List.set_cons_zero, List.set_cons_succ])
  refine wpAnyH_ready (rs := [25]) (by kernel_rfl) (by simp) ?_
  refine AllReadyH.cons rfl (fun Kq hKq => ?_) AllReadyH.nil
  go_simp
  go_at_call 14
  refine (C14.out _ _ _ XX.out SR.out.2.1 SR.out.2.2.1 SR.out.2.2.2).mono ?_
  rintro e wd ⟨rfl, hba⟩
  have XN : Hid (Below N wB wd) := XX.out.trans (hba.mono (by have := XX.out.size; have := WN.out; omega))
  clear SR
  clear XX hba
  have XX := XN
  clear XN
  (try go_wp2_with fail)
  refine hKq.out _ _ (by exact fun q hq => XX.out.block q hq) (fun _ => ?_)
  clear hKq Kq
  (try simp only [Act.put, List.getElem_toArray, List.getElem_cons_succ, List.getElem_cons_zero, List.setIfInBounds_toArray, List.set_cons_zero, List.set_cons_succ])
  refine wpAnyH_take (i := 26) (v := ?_) rfl (by kernel_rfl) (by kernel_rfl) (by kernel_rfl) (fun _ _ _ h => h) (Or.inl ⟨by rfl, ?_⟩) (by assumption) ?_
  rotate_left
  · (intro w hSw; (try dsimp only at hSw); go_simp; try with_reducible rfl)
  simp only [Act.put, List.getElem_toArray, List.getElem_cons_succ, List.getElem_cons_zero, List.setIfInBounds_toArray, List.set_cons_zero, List.set_cons_succ]
  refine wpAnyH_take (i := 27) (v := ?_) rfl (by kernel_rfl) (by kernel_rfl) (by kernel_rfl) (fun _ _ _ h => h) (Or.inl ⟨by rfl, ?_⟩) (by assumption) ?_
  rotate_left
  · (intro w hSw; (try dsimp only at hSw); go_simp; try with_reducible rfl)
  simp only [Act.put, List.getElem_toArray, List.getElem_cons_succ, List.getElem_cons_zero, List.setIfInBounds_toArray, List.set_cons_zero, List.set_cons_succ]
  refine wpAnyH_take (i := 28) (v := ?_) rfl (by kernel_rfl) (by kernel_rfl) (by kernel_rfl) (fun _ _ _ h => h) (Or.inl ⟨by rfl, ?_⟩) (by assumption) ?_
  rotate_left
  · (intro w hSw; (try dsimp only at hSw); go_simp; try with_reducible rfl)
  simp only [Act.put, List.getElem_toArray, List.getElem_cons_succ, List.getElem_cons_zero, List.setIfInBounds_toArray, List.set_cons_zero]
  refine wpAnyH_done (by kernel_rfl) ?_ _
  go_wp2
  go_ret
  exact ⟨rfl, by rw [HS.out]; exact KN.out _ XX.out⟩
end Go.Proofs.YtfneopmgckejdaaDoor
