/-
  Joined: R41, R42.
-/
import Derived.Test.YtmcmdpbdipgahaaJR
/-
  The document's copy; a deed of RegistryCopies.
-/
namespace Go.Proofs.Ytmcmdpbdipgahaa
open Go.RowKit Go.Maps
set_option maxRecDepth 100000
theorem wpList_app0n {sl t : TypeId} {z : Value} {sz by' : Nat} (hu : Try.prog.underlying sl = some (.slice t)) (hi : (Try.prog.info? t).map (fun i => (i.zero, i.size, i.bytes)) = some (some z, sz, by'))
    {w : World} {ops : Array Oper} {rest : List Oper} {o : Oper} {a : Act} {Q : Exit → Act → World → Prop} (hgd : o.guard = none) (s y : Operand)
    (ho : o.op = .call { callee := .builtin .append, args := #[s, y], argTypes := #[sl, sl] }) (c : Nat) (hv : a.eval s = .slice none 0 0) (hx : a.eval y = .slice none 0 c)
    (h : wpList Try.prog ops Q rest (a.put o.dst (.slice none 0 0)) w) : wpList Try.prog ops Q (o :: rest) a w := by
  refine wpList_plain hgd fun K hK => ?_
  obtain ⟨i, i1, i2, i3, i4⟩ := info_parts hi
  have hr : (Builtin.append_ #[sl, sl] o.type #[.slice none 0 0, .slice none 0 c]).run Try.prog w = .ok (.slice none 0 0) w := by
    refine run_append_nothing w sl sl o.type t i hu i1 none 0 0 (Nat.le_refl _) _ ⟨.inl ⟨t, hu⟩, fun w' => ?_, ?_, ?_, ?_, fun u hu => by cases hu⟩
    · simp [Builtin.lenOf]
    · simp [Builtin.firstCells]
    · simp [Builtin.firstCells]
    · simp
  unfold Oper.wp execOp
  simp only [ho, resolve, invoke, builtin, Sem.run_bind, Sem.run_pure, Result.andThen_ok, List.map_toArray, List.map_cons, List.map_nil, hv, hx, hr]
  exact hK _ _ h
set_option maxHeartbeats 4000000 in
theorem dCopy (M : Nat) (A : Option Addr) (n c : Nat) (ys : List Sm) (w : World) (d : DocAt w M A n c ys) (h0 : n = 0 → A = none) (hn : n ≤ 8) :
    Calls Try.prog 30 #[.pointer (some ⟨M, 0, none⟩)] w fun e w' => ∃ M' A' c', e = .returned (.pointer (some ⟨M', 0, none⟩)) ∧ DocAt w' M' A' n c' ys ∧ Below w.heap.size w w' ∧ (n = 0 → A' = none) ∧ ∀ q, q = M' ∨ onB A' q → w.heap.size ≤ q := by
  have c0 := d.c0
  by_cases hz : n = 0
  · have hA := h0 hz
    subst hA hz
    have hys : ys = [] := List.length_eq_zero_iff.1 d.len
    subst hys
    clear d h0 hn
    go_enter Try.func30, Try.ntmps30
    go_wp2_with (first
      | (at_builtin; refine wpList_app0n Try.underlying27 infoS57 rfl (.const (.slice none 0 0)) (.tmp 6) rfl c rfl rfl ?_)
      | fail)
    go_ret
    exact ⟨w.heap.size, none, 0, rfl, ⟨heap_alloc_last w _, rfl, Nat.le_refl _, .inl rfl, fun b o e => (by cases e)⟩, below_alloc0 w _, fun _ => rfl, fun q e => e.elim (fun e => by omega) fun ⟨o, e⟩ => (by cases e)⟩
  · have SRC := Lib.hid d.src
    have LEN := Lib.hid d.len
    have HZ := Lib.hid hz
    have HN8 := Lib.hid hn
    clear d h0 hn
    go_enter Try.func30, Try.ntmps30
    go_wp2_with (first
      | (at_builtin; refine wpList_appG Try.underlying27 infoS57 szS57 (by decide) byS57 rfl (.const (.slice none 0 0)) (.tmp 6) rfl w.heap.size 0 n c (.slice none 0 0) [] (rwV ys) A rfl rfl (World.ownsRow_nil w _ _ _) SRC.out (by omega) (by have := HN8.out; omega) (Nat.le_refl _) ?_; intro A2 c2 w4 hown hb4; rw [Nat.zero_add, List.nil_append] at hown; have O2 := Lib.hid hown; have B4 := Lib.hid hb4; clear hown hb4)
      | fail)
    go_ret
    have b5 := below_alloc0 w4 (Obj.cells #[Value.slice A2 n c2] 29)
    have hs4 := B4.out.size
    rcases own_addr O2.out with ⟨_, e, _⟩ | ⟨g, rfl⟩
    · exact absurd e HZ.out
    have hg := ownG_base O2.out g rfl
    have r := ownG_rng O2.out
    obtain ⟨cur, hcur⟩ := own_cells O2.out (g := g) rfl
    refine ⟨w4.heap.size, some ⟨g, 0, none⟩, c2, by first | rfl | (simp; done), ⟨?_, LEN.out, r.2.1, .inr ⟨g, 0, rfl, Nat.lt_of_lt_of_le r.1 b5.size, fun i hi => range_keep1 (rw_range r.2.2 i (by rw [LEN.out]; exact hi)) (b5.block g r.1)⟩, fun b o e _ => ?_⟩, B4.out.trans (b5.mono hs4), fun e => absurd e HZ.out, ?_⟩
    · have := heap_alloc_last w4 (Obj.cells #[Value.slice (some ⟨g, 0, none⟩) n c2] 29)
      exact this
    · cases e
      exact ⟨cur, (b5.block g r.1).trans hcur⟩
    · rintro q (rfl | ⟨o, e⟩)
      · exact hs4
      · cases e
        exact hg
/-- the program's is copied, the document's not yet -/
structure HalfC (w w1 : World) (S : Nat) (m : Option Nat) (M : Nat) (A : Option Addr) (n c : Nat) (cs : List Con) : Prop where
  reg : ∃ xs, RegM w1 S m xs ∧ xs.map Sm.con = cs ∧ ∀ x ∈ xs, SdAt w1 (fun q => w.heap.size ≤ q) x
  doc : ∃ ys, DocAt w1 M A n c ys ∧ ys.map Sm.con = cs ∧ ∀ y ∈ ys, SdAt w1 (fun q => w.heap.size ≤ q) y
  bel : Below w.heap.size w w1
  lo : ∀ q, isP S m q → w.heap.size ≤ q
  nil : n = 0 → A = none
  len : n ≤ 8
theorem djC1 {N : Nat} {w0 w : World} {S : Nat} {m : Option Nat} {M : Nat} {A : Option Addr} {n c : Nat} {cs : List Con} (h : DJ N w0 w S m M A n c cs cs) :
    Calls Try.prog 18 #[.pointer (some ⟨S, 0, none⟩)] w fun e w1 => ∃ S' m', e = .returned (.pointer (some ⟨S', 0, none⟩)) ∧ HalfC w w1 S' m' M A n c cs := by
  obtain ⟨xs, h1, h2, h3⟩ := h.reg
  obtain ⟨ys, d1, d2, d3⟩ := h.doc
  refine (kCopy S m xs w h1).mono ?_
  rintro e w' ⟨S', m', rfl, k1, k2, k3⟩
  exact ⟨S', m', rfl, ⟨xs, k1, h2, fun x hx => (h3 x hx).old rfl k2⟩, ⟨ys, d1.grow k2, d2, fun y hy => (d3 y hy).old rfl k2⟩, k2, k3, h.nil, h.len⟩
theorem djC2 {w w1 : World} {S : Nat} {m : Option Nat} {M : Nat} {A : Option Addr} {n c : Nat} {cs : List Con} (h : HalfC w w1 S m M A n c cs) :
    Calls Try.prog 30 #[.pointer (some ⟨M, 0, none⟩)] w1 fun e w2 => ∃ M' A' c', e = .returned (.pointer (some ⟨M', 0, none⟩)) ∧ DJ w.heap.size w w2 S m M' A' n c' cs cs := by
  obtain ⟨xs, h1, h2, h3⟩ := h.reg
  obtain ⟨ys, d1, d2, d3⟩ := h.doc
  refine (dCopy M A n c ys w1 d1 h.nil h.len).mono ?_
  rintro e w2 ⟨M', A', c', rfl, k1, k2, k3, k4⟩
  have lo : ∀ q, apP S m M' A' q → w.heap.size ≤ q := fun q e => e.elim (h.lo q) fun e => Nat.le_trans h.bel.size (k4 q e)
  have hb : Below w.heap.size w w2 := h.bel.trans (k2.mono h.bel.size)
  exact ⟨M', A', c', rfl, ⟨xs, h1.grow k2, h2, fun x hx => ((h3 x hx).grow k2).weakF fun q _ e => lo q e⟩, ⟨ys, k1, d2, fun y hy => ((d3 y hy).grow k2).weakF fun q _ e => lo q e⟩, hb, lo, hb.size, k3, h.len⟩
theorem nums2 (dn dm : Int) : ∃ (u1 : Nat) (u3 : Int) (k1 : Nat), bits .and .i64 dn 3 = (u1 : Int) ∧ bits .and .i64 dm 255 = u3 ∧ wrap64 (1 + (u1 : Int)) = (k1 : Int) ∧ k1 ≤ 8 := by
  refine ⟨(dn % 4).toNat, _, 1 + (dn % 4).toNat, by rw [and3]; omega, rfl, ?_, by omega⟩
  unfold wrap64; omega
attribute [local irreducible] sdV MapV z0 fnS cat rootS mayP creC fwC con0 cM fwV fdV ddV wpQuiet sumN ceC
set_option maxHeartbeats 8000000 in
theorem q29 (d : Dd13) (hd : d.ok) {N : Nat} {w0 w : World} {S : Nat} {m : Option Nat} {M : Nat} {A : Option Addr} {n c : Nat} {cs : List Con} (h : DJ N w0 w S m M A n c cs cs) (hg : goodL cs) :
    Calls Try.prog 29 #[.pointer (some ⟨S, 0, none⟩), .pointer (some ⟨M, 0, none⟩), .agg (ddV d).toArray] w fun e w' => e = .returned (.bool true) ∧ ∃ m' A' n' c' cs', DJ N w0 w' S m' M A' n' c' cs' cs' ∧ goodL cs' := by
  have CM : Hid (∀ (n : Nat) (need : Int) (w : World), Keys w → n ≤ 8 → Calls Try.prog 11 #[.int .i64 n, .int .i64 need] w fun e w' => ∃ A c, e = .returned (.agg #[.int .i64 4, .int .i64 2, .int .i64 need, .slice A n c]) ∧ Src w' A (8 * n) (cat rootS n) ∧ n ≤ c ∧ c ≤ maxLen ∧ Below w.heap.size w w' ∧ ∀ g o, A = some ⟨g, o, none⟩ → w.heap.size ≤ g) := Lib.hid fun n need w hk hn => kMade2 n need w hk hn
  obtain ⟨dd, dn, dm, ⟨s, a, o, k⟩⟩ := d
  have HSN : Hid (wfI s ∧ wfI k) := Lib.hid hd.2.2.2
  have GR := Lib.hid hg
  have JV0 := Lib.hid (h.grow (below_alloc0 w (Obj.cells (ddV ⟨dd, dn, dm, ⟨s, a, o, k⟩⟩).toArray 35)))
  have RX : Hid (BL (w.alloc (Obj.cells (ddV ⟨dd, dn, dm, ⟨s, a, o, k⟩⟩).toArray 35)) w.heap.size (ddV ⟨dd, dn, dm, ⟨s, a, o, k⟩⟩) 35) := Lib.hid (heap_alloc_last w _)
  have JV := JV0
  clear h hg hd JV0
  obtain ⟨wv, hwv⟩ : ∃ v, w.alloc (Obj.cells (ddV ⟨dd, dn, dm, ⟨s, a, o, k⟩⟩).toArray 35) = v := ⟨_, rfl⟩
  rw [hwv] at JV RX
  obtain ⟨XB, hXB⟩ : ∃ q, w.heap.size = q := ⟨_, rfl⟩
  rw [hXB] at RX
  go_enter Try.func29, Try.ntmps29
  go_upto_region 1 with (fail)
  (try rw [hXB]); (try rw [hwv])
  clear hwv hXB
  have a0 := (dd_c0 RX.out).1
  have a1 := (dd_c0 RX.out).2.1
  have a2 := (dd_c0 RX.out).2.2
  by_cases he : bits .and .i64 dd 1 = 0
  · have he2 : (bits .and .i64 dd 1 == 0) = true := by rw [he]; rfl
    have KV : Hid (Keys wv) := Lib.hid (by have := bl_lt RX.out; unfold Keys; omega)
    obtain ⟨u1, u3, k1, hu1, hu3, hw1, hk1⟩ := nums2 dn dm
    have HK1 := Lib.hid hk1
    clear hk1
    have CMM := Lib.hid (CM.out k1 1 wv KV.out HK1.out)
    go_upto_region 3 with (first
      | (go_at_call 11; refine CMM.out.mono ?_; clear CMM; rintro e w3 ⟨KA, kc, rfl, s1, s2, s3, s4, s5⟩; have S1 := Lib.hid s1; have S2 := Lib.hid s2; have S3 := Lib.hid s3; have B3 := Lib.hid s4; have S5 := Lib.hid s5; clear s1 s2 s3 s4 s5)
      | fail)
    have BA4 := below_alloc0 w3 (Obj.cells #[.int .i64 4, .int .i64 2, .int .i64 1, .slice KA k1 kc] 38)
    have J4 := Lib.hid ((JV.out.grow B3.out).grow BA4)
    have P4 : Hid (PB (w3.alloc (Obj.cells #[.int .i64 4, .int .i64 2, .int .i64 1, .slice KA k1 kc] 38)) w3.heap.size 4 2 1 (.slice KA k1 kc)) := Lib.hid (pb_new rfl 4 2 1 (.slice KA k1 kc))
    have Q4 : Hid (Src (w3.alloc (Obj.cells #[.int .i64 4, .int .i64 2, .int .i64 1, .slice KA k1 kc] 38)) KA (8 * k1) (cat rootS k1)) := Lib.hid (S1.out.keep BA4.block)
    have X4 : Hid (BL (w3.alloc (Obj.cells #[.int .i64 4, .int .i64 2, .int .i64 1, .slice KA k1 kc] 38)) XB (ddV ⟨dd, dn, dm, ⟨s, a, o, k⟩⟩) 35) := Lib.hid (bl_keep (bl_keep RX.out (B3.out.block XB (bl_lt RX.out))) (BA4.block XB (Nat.lt_of_lt_of_le (bl_lt RX.out) B3.out.size)))
    have NK : Hid (∀ g o, KA = some ⟨g, o, none⟩ → ¬ apP S m M A g) := Lib.hid fun g o e hp => by have h1 := S5.out g o e; have h2 := JV.out.ltP g hp; omega
    obtain ⟨PB0, hPB0⟩ : ∃ b, w3.heap.size = b := ⟨_, rfl⟩
    rw [hPB0] at P4 ⊢
    generalize w3.alloc (Obj.cells #[.int .i64 4, .int .i64 2, .int .i64 1, .slice KA k1 kc] 38) = w4 at *
    clear BA4 hPB0 S1 B3 S5 KV RX JV
    have CR := djCreate J4.out (J4.out.len2 ▸ J4.out.len) 4 2 1 KA k1 kc (cat rootS k1) u3 Q4.out S2.out S3.out
    obtain ⟨ok, hok⟩ : ∃ ok, mayP (at8 (cat rootS k1)) k1 4 2 1 = ok := ⟨_, rfl⟩
    obtain ⟨r, hr⟩ : ∃ r, creC cs ok (con0 4 2 1 k1 (cat rootS k1) u3) = r := ⟨_, rfl⟩
    have GN : Hid (goodL r.1) := Lib.hid (by rw [← hr]; exact good_cre ok 4 2 1 k1 (cat rootS k1) u3 GR.out)
    rw [hok, hr] at CR
    have CD : Hid (∀ wz m', DJ N w0 wz S m' M A n c r.1 cs → Src wz KA (8 * k1) (cat rootS k1) → Calls Try.prog 13 #[.pointer (some ⟨M, 0, none⟩), .agg #[.int .i64 4, .int .i64 2, .int .i64 1, .slice KA k1 kc], .int .i64 u3] wz fun e w' => e = .returned (.tuple #[.int .i64 r.2.1, .int .i64 r.2.2]) ∧ ∃ A' n' c', DJ N w0 w' S m' M A' n' c' r.1 r.1 ∧ Fr wz w' (fun q => q = M)) := Lib.hid fun wz m' hj hs => by
      have := djCreateD hj 4 2 1 KA k1 kc (cat rootS k1) u3 hs S2.out S3.out
      rw [hok, hr] at this
      exact this
    obtain ⟨ra, hra⟩ : ∃ x, r.2.1 = x := ⟨_, rfl⟩
    obtain ⟨rb, hrb⟩ : ∃ x, r.2.2 = x := ⟨_, rfl⟩
    rw [hra, hrb] at CR CD
    obtain ⟨rl, hrl⟩ : ∃ x, r.1 = x := ⟨_, rfl⟩
    rw [hrl] at CR CD GN
    have CR := Lib.hid CR
    clear hr hra hrb hrl hok
    have a1 := (dd_c0 X4.out).2.2
    go_upto_region 4 with (first
      | (refine wpList_load_midG (by rfl) 38 (.tmp 7) rfl PB0 0 rfl [.int .i64 4, .int .i64 2, .int .i64 1, .slice KA k1 kc] _ (pb_range P4.out) Try.underlying38 rfl (pb_info 4 2 1 _) ?_)
      | (go_at_call 12; refine CR.out.mono ?_; clear CR; rintro e w5 ⟨rfl, m5, j5, f5⟩; have J5 := Lib.hid j5; have F5 := Lib.hid f5; clear j5 f5)
      | fail)
    have X5 : Hid (BL w5 XB (ddV ⟨dd, dn, dm, ⟨s, a, o, k⟩⟩) 35) := Lib.hid (bl_keep X4.out (F5.out.block XB (bl_lt X4.out) fun hp => J4.out.notP X4.out (by decide) (by decide) (by decide) (.inl hp)))
    have P5 : Hid (PB w5 PB0 4 2 1 (.slice KA k1 kc)) := Lib.hid ((F5.out.block PB0 (lt_of_block P4.out) fun hp => J4.out.notP P4.out (by decide) (by decide) (by decide) (.inl hp)).trans P4.out)
    have Q5 : Hid (Src w5 KA (8 * k1) (cat rootS k1)) := Lib.hid (src_fr Q4.out F5.out fun g o e hp => NK.out g o e (.inl hp))
    have CE := Lib.hid (CD.out w5 m5 J5.out Q5.out)
    clear a1 CD J4 F5 P4 Q4 X4
    have a1 := (dd_c0 X5.out).2.2
    go_upto_region 5 with (first
      | (refine wpList_load_midG (by rfl) 38 (.tmp 7) rfl PB0 0 rfl [.int .i64 4, .int .i64 2, .int .i64 1, .slice KA k1 kc] _ (pb_range P5.out) Try.underlying38 rfl (pb_info 4 2 1 _) ?_)
      | (go_at_call 13; refine CE.out.mono ?_; clear CE; rintro e w6 ⟨rfl, A6, n6, c6, j6, f6⟩; have J6 := Lib.hid j6; clear j6 f6)
      | fail)
    clear a1 hu1 hu3 hw1 P5 Q5 X5 J5 NK
    go_wp2
    go_ret
    exact ⟨rfl, _, _, _, _, _, J6.out, GN.out⟩
  · have he2 : (bits .and .i64 dd 1 == 0) = false := beq_false_of_ne he
    have JD : Hid (DJ N w0 wv.drew S m M A n c cs cs) := Lib.hid (JV.out.grow (Below.refl _ wv).drew)
    have RXD : Hid (BL wv.drew XB (ddV ⟨dd, dn, dm, ⟨s, a, o, k⟩⟩) 35) := Lib.hid RX.out
    have CF := djForward JD.out (JV.out.len2 ▸ JV.out.len) GR.out s a k o HSN.out.1 HSN.out.2
    obtain ⟨r, hr⟩ : ∃ r, fwC cs s k = r := ⟨_, rfl⟩
    have GN : Hid (goodL r.1) := Lib.hid (by rw [← hr]; exact good_fw s k GR.out)
    rw [hr] at CF
    have CD : Hid (∀ wz m', DJ N w0 wz S m' M A n c r.1 cs → Calls Try.prog 15 #[.pointer (some ⟨M, 0, none⟩), .agg (fwV s a o k).toArray] wz fun e w' => e = .returned (.int .i64 r.2) ∧ DJ N w0 w' S m' M A n c r.1 r.1 ∧ Fr wz w' (onB A)) := Lib.hid fun wz m' hj => by
      have := djForwardD hj GR.out s a k o HSN.out.1 HSN.out.2
      rw [hr] at this
      exact this
    obtain ⟨rb, hrb⟩ : ∃ x, r.2 = x := ⟨_, rfl⟩
    obtain ⟨rl, hrl⟩ : ∃ x, r.1 = x := ⟨_, rfl⟩
    rw [hrb, hrl] at CF CD
    rw [hrl] at GN
    have CF := Lib.hid CF
    clear hr hrb hrl
    go_upto_region 6 with (fail)
    refine wp_region_held_drew (S := fun W : World => BL W XB (ddV ⟨dd, dn, dm, ⟨s, a, o, k⟩⟩) 35) (by kernel_rfl) RXD.out (fun hHeld => ?_)
    refine wpAnyH_take (i := 0) (v := ?_) rfl (by kernel_rfl) (by kernel_rfl) (by kernel_rfl) (fun _ _ _ h => h) (Or.inl ⟨by rfl, ?_⟩) (by assumption) ?_
    rotate_left
    · (intro w hSw; (try dsimp only at hSw); go_simp; try with_reducible rfl)
    simp only [Act.put, List.getElem_toArray, List.getElem_cons_zero, List.setIfInBounds_toArray, List.set_cons_zero, List.set_cons_succ]
    refine wpAnyH_take (i := 1) (v := ?_) rfl (by kernel_rfl) (by kernel_rfl) (by kernel_rfl) (fun _ _ _ h => h) (Or.inl ⟨by rfl, ?_⟩) (by assumption) ?_
    rotate_left
    · (intro w hSw; (try dsimp only at hSw); go_simp; try with_reducible rfl)
    simp only [Act.put, List.getElem_toArray, List.getElem_cons_succ, List.getElem_cons_zero, List.setIfInBounds_toArray, List.set_cons_zero, List.set_cons_succ]
    refine wpAnyH_take (i := 2) rfl (by kernel_rfl) (by kernel_rfl) (by kernel_rfl) (fun _ _ _ h => h) (yieldsIf_load_mid (by rfl) 33 (.tmp 43) rfl XB (3) rfl (fwV s a o k) _ (fun w h => dd_fw' h) Try.underlying33 rfl (szL szF33 (fw_len s a k o))) (by assumption) ?_
    simp only [Act.put, List.getElem_toArray, List.getElem_cons_succ, List.getElem_cons_zero, List.setIfInBounds_toArray, List.set_cons_zero, List.set_cons_succ]
    refine wpAnyH_take (i := 4) (v := ?_) rfl (by kernel_rfl) (by kernel_rfl) (by kernel_rfl) (fun _ _ _ h => h) (Or.inl ⟨by rfl, ?_⟩) (by assumption) ?_
    rotate_left
    · (intro w hSw; (try dsimp only at hSw); go_simp; try with_reducible rfl)
    simp only [Act.put, List.getElem_toArray, List.getElem_cons_succ, List.getElem_cons_zero, List.setIfInBounds_toArray, List.set_cons_zero, List.set_cons_succ]
    refine wpAnyH_take (i := 5) (v := ?_) rfl (by kernel_rfl) (by kernel_rfl) (by kernel_rfl) (fun _ _ _ h => h) (Or.inl ⟨by rfl, ?_⟩) (by assumption) ?_
    rotate_left
    · (intro w hSw; (try dsimp only at hSw); go_simp; try with_reducible rfl)
    simp only [Act.put, List.getElem_toArray, List.getElem_cons_succ, List.getElem_cons_zero, List.setIfInBounds_toArray, List.set_cons_zero, List.set_cons_succ]
    refine wpAnyH_take (i := 6) rfl (by kernel_rfl) (by kernel_rfl) (by kernel_rfl) (fun _ _ _ h => h) (yieldsIf_load_mid (by rfl) 33 (.tmp 47) rfl XB (3) rfl (fwV s a o k) _ (fun w h => dd_fw' h) Try.underlying33 rfl (szL szF33 (fw_len s a k o))) (by assumption) ?_
    simp only [Act.put, List.getElem_toArray, List.getElem_cons_succ, List.getElem_cons_zero, List.setIfInBounds_toArray, List.set_cons_zero, List.set_cons_succ]
    refine wpAnyH_ready (rs := [3]) (by kernel_rfl) (by simp) ?_
    refine AllReadyH.cons rfl (fun K hK => ?_) AllReadyH.nil
    go_simp
    go_at_call 14
    refine CF.out.mono ?_
    rintro e w5 ⟨rfl, m5, j5, f5⟩
    have J5 := Lib.hid j5
    have X5 : Hid (BL w5 XB (ddV ⟨dd, dn, dm, ⟨s, a, o, k⟩⟩) 35) := Lib.hid (bl_keep RXD.out (f5.block XB (bl_lt RXD.out) fun hp => JD.out.notP RXD.out (by decide) (by decide) (by decide) (.inl hp)))
    have CG := Lib.hid (CD.out w5 m5 J5.out)
    clear j5 f5 CF
    (try go_wp2_with fail)
    refine hK.out _ _ X5.out (fun hHeld => ?_)
    clear hK K
    (try simp only [Act.put, List.getElem_toArray, List.getElem_cons_succ, List.getElem_cons_zero, List.setIfInBounds_toArray, List.set_cons_zero, List.set_cons_succ])
    refine wpAnyH_ready (rs := [7]) (by kernel_rfl) (by simp) ?_
    refine AllReadyH.cons rfl (fun K hK => ?_) AllReadyH.nil
    go_simp
    go_at_call 15
    refine CG.out.mono ?_
    rintro e w6 ⟨rfl, j6, f6⟩
    have J6 := Lib.hid j6
    have X6 : Hid (BL w6 XB (ddV ⟨dd, dn, dm, ⟨s, a, o, k⟩⟩) 35) := Lib.hid (bl_keep X5.out (f6.block XB (bl_lt X5.out) fun hp => J5.out.notP X5.out (by decide) (by decide) (by decide) (.inr (.inr hp))))
    clear j6 f6 CG CD
    (try go_wp2_with fail)
    refine hK.out _ _ X6.out (fun hHeld => ?_)
    clear hK K
    (try simp only [Act.put, List.getElem_toArray, List.getElem_cons_succ, List.getElem_cons_zero, List.setIfInBounds_toArray, List.set_cons_zero, List.set_cons_succ])
    refine wpAnyH_take (i := 8) (v := ?_) rfl (by kernel_rfl) (by kernel_rfl) (by kernel_rfl) (fun _ _ _ h => h) (Or.inl ⟨by rfl, ?_⟩) (by assumption) ?_
    rotate_left
    · (intro w hSw; (try dsimp only at hSw); go_simp; try with_reducible rfl)
    simp only [Act.put, List.getElem_toArray, List.getElem_cons_succ, List.getElem_cons_zero, List.setIfInBounds_toArray, List.set_cons_zero, List.set_cons_succ]
    refine wpAnyH_take (i := 9) (v := ?_) rfl (by kernel_rfl) (by kernel_rfl) (by kernel_rfl) (fun _ _ _ h => h) (Or.inl ⟨by rfl, ?_⟩) (by assumption) ?_
    rotate_left
    · (intro w hSw; (try dsimp only at hSw); go_simp; try with_reducible rfl)
    simp only [Act.put, List.getElem_toArray, List.getElem_cons_succ, List.getElem_cons_zero, List.setIfInBounds_toArray, List.set_cons_zero, List.set_cons_succ]
    clear hHeld
    refine wpAnyH_done (by kernel_rfl) ?_ _
    clear J5 X5 X6
    go_wp2
    go_ret
    exact ⟨rfl, _, _, _, _, _, J6.out, GN.out⟩
end Go.Proofs.Ytmcmdpbdipgahaa

/-
  RegistryCopies: the walk.
-/
namespace Go.Proofs.Ytmcmdpbdipgahaa
open Go.RowKit Go.Maps
set_option maxRecDepth 100000
/-- a deed of a row that came in -/
theorem row_deed {w : World} {N : Nat} {A0 : Option Addr} {n0 t : Nat} {D : Nat → Dd13} (hN : w.heap.size = N) (hd : DRow13 w A0 n0 D) (hlt : t < n0) : ∃ b o, A0 = some ⟨b, o, none⟩ ∧ ∀ w', Below N w w' → w'.rangeAt b (o + t * 14) (ddV (D t)) := by
  rcases hd with h0 | ⟨b, o, e, hrow⟩
  · omega
  · refine ⟨b, o, e, fun w' hb => ?_⟩
    have hc := hrow t hlt 0 (.int .i64 (D t).d) (dd_0 _)
    exact range_keep1 (hrow t hlt) (hb.block b (by rw [← hN]; exact World.block_lt_of_cell? w _ hc))
attribute [local irreducible] sdV MapV z0 fnS cat rootS mayP creC fwC con0 cM fwV fdV ddV wpQuiet sumN ceC
set_option maxHeartbeats 16000000 in
theorem qCopies (A0 : Option Addr) (n0 cap0 : Nat) (D : Nat → Dd13) (A1 : Option Addr) (n1 cap1 : Nat) (D1 : Nat → Dd13) (w : World) (hd : DRow13 w A0 n0 D) (hok : ∀ i, (D i).ok) (hd1 : DRow13 w A1 n1 D1) (hok1 : ∀ i, (D1 i).ok) :
    Calls Try.prog 8 #[.slice A0 n0 cap0, .slice A1 n1 cap1] w fun e w' => e = .returned (.bool true) ∧ Below w.heap.size w w' := by
  obtain ⟨N, hN⟩ : ∃ N, w.heap.size = N := ⟨_, rfl⟩
  have HN := Lib.hid hN
  have HD := Lib.hid hd
  have HOK := Lib.hid hok
  have HD1 := Lib.hid hd1
  have HOK1 := Lib.hid hok1
  have AW := Lib.hid rAwake
  rw [hN]
  clear hd hok hd1 hok1
  by_cases h20 : 20 < n0
  · have h20' : decide ((20 : Int) < (n0 : Int)) = true := decide_eq_true (by omega)
    go_enter Try.func8, Try.ntmps8
    go_wp2_with (first
      | (go_at_call 9; refine (AW.out _).mono ?_; clear AW; rintro e w1 ⟨rfl, hb⟩; have B1 := Lib.hid hb; clear hb)
      | fail)
    go_ret
    exact ⟨rfl, by rw [← HN.out]; exact B1.out⟩
  have h20' : decide ((20 : Int) < (n0 : Int)) = false := decide_eq_false (by omega)
  by_cases h21 : 20 < n1
  · have h21' : decide ((20 : Int) < (n1 : Int)) = true := decide_eq_true (by omega)
    go_enter Try.func8, Try.ntmps8
    go_wp2_with (first
      | (go_at_call 9; refine (AW.out _).mono ?_; clear AW; rintro e w1 ⟨rfl, hb⟩; have B1 := Lib.hid hb; clear hb)
      | fail)
    go_ret
    exact ⟨rfl, by rw [← HN.out]; exact B1.out⟩
  have h21' : decide ((20 : Int) < (n1 : Int)) = false := decide_eq_false (by omega)
  have H20 := Lib.hid h20
  have H21 := Lib.hid h21
  clear h20 h21
  go_enter Try.func8, Try.ntmps8
  go_upto_region 8 with (first
    | (go_at_call 9; refine (AW.out _).mono ?_; clear AW; rintro e w1 ⟨rfl, hb⟩; have B1 := Lib.hid hb; clear hb)
    | (go_at_call 10; refine (rNew _).mono ?_; rintro e w2 ⟨rfl, r1, r2⟩; have R2 := Lib.hid r1; have B2 := Lib.hid r2; clear r1 r2)
    | fail)
  have BW1 : Hid (Below N w w1) := Lib.hid (by rw [← HN.out]; exact B1.out)
  obtain ⟨S, hS⟩ : ∃ S, w1.heap.size = S := ⟨_, rfl⟩
  rw [hS] at R2 B2 ⊢
  have HS : Hid (N ≤ S) := Lib.hid (by rw [← hS, ← HN.out]; exact B1.out.size)
  have J2 := Lib.hid (DJ.start hS BW1.out HS.out R2.out B2.out)
  generalize w2.alloc (Obj.cells #[Value.slice none 0 0] 29) = w3 at *
  generalize w2.heap.size = M at *
  clear hS R2 B2 B1 BW1 h20' h21' HS
  go_wp2
  go_loopw [8] (fun iv wr => ∃ (t : Nat) (m A : _) (n c : Nat) (cs : List Con), t ≤ n0 ∧ iv = .int .i64 t ∧ DJ N w wr S m M A n c cs cs ∧ goodL cs) (fun iv _ => n0 - (intOf iv).toNat)
  case atStart => exact ⟨0, none, none, 0, 0, [], Nat.zero_le _, rfl, J2.out, fun c hc => by cases hc⟩
  case round =>
    clear J2
    obtain ⟨t, m, A, n, c, cs, ht, rfl, hj, hg⟩ := hrel
    have JR := Lib.hid hj
    have GR := Lib.hid hg
    clear hj hg
    by_cases hlt : t < n0
    · obtain ⟨b, ob, rfl, hrow⟩ := row_deed HN.out HD.out hlt
      have CK := Lib.hid (q29 (D t) (HOK.out t) JR.out GR.out)
      have ROW := Lib.hid (hrow wr JR.out.bel)
      generalize D t = d at *
      have HT : Hid (t < 20 ∧ t < n0) := Lib.hid ⟨by have := H20.out; omega, hlt⟩
      have t1 : (t : Int) < (n0 : Int) := by omega
      have t0 : (0 : Int) ≤ (t : Int) := by omega
      have KW : Hid (wrap64 ((t : Int) + 1) = ((t + 1 : Nat) : Int)) := Lib.hid (by have := HT.out; unfold wrap64; omega)
      have KW2 : Hid ((t : Int) + 1 = ((t + 1 : Nat) : Int)) := Lib.hid (by omega)
      clear hrow ht hlt
      go_wp2_with (first
        | (refine wpList_load_midG (by rfl) 35 (.tmp 38) rfl b (ob + t * 14) rfl (ddV d) _ ROW.out Try.underlying35 rfl (szL sz35 (ddV_len _)) ?_)
        | (go_at_call 29; refine CK.out.mono ?_; clear CK; rintro e w5 ⟨rfl, m5, A5, n5, c5, cs5, j5, g5⟩; have J5 := Lib.hid j5; have G5 := Lib.hid g5; clear j5 g5)
        | fail)
      go_roundw
      case rel => exact ⟨t + 1, m5, A5, n5, c5, cs5, HT.out.2, by first | exact congrArg _ KW.out | exact congrArg _ KW2.out, J5.out, G5.out⟩
      case measure => first | exact meas_up KW.out HT.out.2 | exact meas_up KW2.out HT.out.2
    · have tn : t = n0 := by omega
      have t1 : ¬ (t : Int) < (n0 : Int) := by omega
      have CC := Lib.hid (djC1 JR.out)
      clear hlt ht
      go_upto_region 17 with (first
        | (go_at_call 18; refine CC.out.mono ?_; clear CC; rintro e w5 ⟨S5, m5, rfl, h5⟩; have CD := Lib.hid (djC2 h5); clear h5)
        | (go_at_call 30; refine CD.out.mono ?_; clear CD; rintro e w6 ⟨M6, A6, c6, rfl, j6⟩; have J6 := Lib.hid j6; clear j6)
        | fail)
      clear t1
      go_wp2
      go_loopw [11] (fun iv wx => ∃ (u : Nat) (m' A' : _) (n' c' : Nat) (ds : List Con), u ≤ n1 ∧ iv = .int .i64 u ∧ DJ wr.heap.size wr wx S5 m' M6 A' n' c' ds ds ∧ goodL ds) (fun iv _ => n1 - (intOf iv).toNat)
      case atStart => exact ⟨0, m5, A6, n, c6, cs, Nat.zero_le _, rfl, J6.out, GR.out⟩
      case round =>
        clear J6
        obtain ⟨u, m7, A7, n7, c7, ds, hu, rfl, hj, hg⟩ := hrel
        rename World => wx
        have JX := Lib.hid hj
        have GX := Lib.hid hg
        have JS := Lib.hid (JR.out.grow hj.bel)
        clear hj hg
        by_cases hlt : u < n1
        · obtain ⟨b, ob, rfl, hrow⟩ := row_deed HN.out HD1.out hlt
          have CK := Lib.hid (q29 (D1 u) (HOK1.out u) JX.out GX.out)
          have ROW := Lib.hid (hrow wx JS.out.bel)
          generalize D1 u = d at *
          have HT : Hid (u < 20 ∧ u < n1) := Lib.hid ⟨by have := H21.out; omega, hlt⟩
          have t1 : (u : Int) < (n1 : Int) := by omega
          have t0 : (0 : Int) ≤ (u : Int) := by omega
          have KW : Hid (wrap64 ((u : Int) + 1) = ((u + 1 : Nat) : Int)) := Lib.hid (by have := HT.out; unfold wrap64; omega)
          have KW2 : Hid ((u : Int) + 1 = ((u + 1 : Nat) : Int)) := Lib.hid (by omega)
          clear hrow hu hlt JS
          go_wp2_with (first
            | (refine wpList_load_midG (by rfl) 35 (.tmp 59) rfl b (ob + u * 14) rfl (ddV d) _ ROW.out Try.underlying35 rfl (szL sz35 (ddV_len _)) ?_)
            | (go_at_call 29; refine CK.out.mono ?_; clear CK; rintro e w8 ⟨rfl, m8, A8, n8, c8, cs8, j8, g8⟩; have J8 := Lib.hid j8; have G8 := Lib.hid g8; clear j8 g8)
            | fail)
          go_roundw
          case rel => exact ⟨u + 1, m8, A8, n8, c8, cs8, HT.out.2, by first | exact congrArg _ KW.out | exact congrArg _ KW2.out, J8.out, G8.out⟩
          case measure => first | exact meas_up KW.out HT.out.2 | exact meas_up KW2.out HT.out.2
        · have t1 : ¬ (u : Int) < (n1 : Int) := by omega
          have S1 := Lib.hid (djSame JS.out GR.out)
          have T1 : Hid True := Lib.hid trivial
          have S2 : Hid (∀ w', Below wx.heap.size wx w' → Calls Try.prog 19 #[.pointer (some ⟨S5, 0, none⟩), .pointer (some ⟨M6, 0, none⟩)] w' fun e w'' => e = .returned (.bool true) ∧ Below w'.heap.size w' w'') := Lib.hid fun w' hb => djSame (JX.out.grow hb) GX.out
          clear hu hlt
          go_wp2_with (first
            | (clear T1; go_at_call 19; refine S1.out.mono ?_; clear S1; rintro e w9 ⟨rfl, hb⟩; have B9 := Lib.hid hb; clear hb)
            | (go_at_call 19; refine (S2.out _ B9.out).mono ?_; clear S2; rintro e w10 ⟨rfl, hb⟩; have B10 := Lib.hid hb; clear hb)
            | fail)
          go_ret
          exact ⟨rfl, JS.out.bel.trans ((B9.out.trans (B10.out.mono B9.out.size)).mono JS.out.sz)⟩
end Go.Proofs.Ytmcmdpbdipgahaa
