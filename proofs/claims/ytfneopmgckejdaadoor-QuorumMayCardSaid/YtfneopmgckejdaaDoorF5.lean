/-
  Marks, secrets, publics, the tree's root in the quick form.
-/
import Derived.Test.YtfneopmgckejdaaDoorK2
import Derived.Test.YtfneopmgckejdaaDoorF4
namespace Go.Proofs.YtfneopmgckejdaaDoor
open Go.RowKit
def qmk (x : List Nat) : List Nat := qsha ([112, 8, 0, 0, 0] ++ x)
def qsec (s : List Nat) (x i b : Nat) : List Nat := qsha ([115, 8, 0, 0, 0] ++ s ++ [4, 0, 0, 0, x, i, b, 0])
def qpk (l : List Nat) : List Nat := qsha ([107, 0, 1, 0, 0] ++ l)
def qleaf (x : List Nat) : List Nat := qsha ([108, 8, 0, 0, 0] ++ x)
def qtwo (x y : List Nat) : List Nat := qsha ([109, 8, 0, 0, 0] ++ x ++ [8, 0, 0, 0] ++ y)
theorem digs_8 : digs 8 4 = up [8, 0, 0, 0] := by decide
theorem digs_4 : digs 4 4 = up [4, 0, 0, 0] := by decide
theorem digs_256 : digs ((256 : Nat) : Int) 4 = up [0, 1, 0, 0] := by decide
theorem bytN_lit {l : List Nat} (h : l.all (fun x => decide (x < 256)) = true) : BytN l := fun x hx => by
  have := List.all_eq_true.1 h x hx
  simpa using this
theorem mk_q (x : List Nat) (h : BytN x) : mk (up x) = up (qmk x) := by
  unfold mk qmk
  rw [← sha_q _ (bytN_app (bytN_lit (by decide)) h)]
  congr 2
theorem sec_q (s : List Nat) (x i b : Nat) (h : BytN s) (hx : x < 256) (hi : i < 256) (hb : b < 256) : sec (up s) (x : Int) i b = up (qsec s x i b) := by
  unfold sec qsec
  rw [← sha_q _ (bytN_app (bytN_app (bytN_lit (by decide)) h) (bytN_lit (by simp [hx, hi, hb])))]
  congr 2
  unfold secM
  rw [digs_8, digs_4, up_app, up_app]
  show _ = up [115, 8, 0, 0, 0] ++ up s ++ up ([4, 0, 0, 0] ++ [x, i, b, 0])
  rw [up_app]
  simp only [List.append_assoc]
  rfl
theorem pk_q (l : List Nat) (h : BytN l) : pubk (up l) = up (qpk l) := by
  unfold pubk qpk
  rw [← sha_q _ (bytN_app (bytN_lit (by decide)) h)]
  congr 2
theorem leaf_q (x : List Nat) (h : BytN x) : leafH (up x) = up (qleaf x) := by
  unfold leafH qleaf
  rw [← sha_q _ (bytN_app (bytN_lit (by decide)) h)]
  congr 2
theorem two_q (x y : List Nat) (h : BytN x) (h2 : BytN y) : twoH (up x) (up y) = up (qtwo x y) := by
  unfold twoH qtwo
  rw [← sha_q _ (bytN_app (bytN_app (bytN_app (bytN_lit (by decide)) h) (bytN_lit (by decide))) h2)]
  congr 2
  unfold twoM
  rw [digs_8, up_app, up_app, up_app]
  rfl
def qcat (F : Nat → List Nat) : Nat → List Nat
  | 0 => []
  | n + 1 => qcat F n ++ F n
theorem qcat_byt (F : Nat → List Nat) (hF : ∀ j, BytN (F j)) : ∀ n, BytN (qcat F n)
  | 0 => fun x hx => by cases hx
  | n + 1 => bytN_app (qcat_byt F hF n) (hF n)
theorem qcat_up (F : Nat → List Nat) : ∀ n, up (qcat F n) = cat (fun j => up (F j)) n
  | 0 => rfl
  | n + 1 => by rw [qcat, up_app, qcat_up F n, cat_succ]
/-- a key's public -/
def qpub (s : List Nat) (x : Nat) : List Nat := qpk (qcat (fun j => qmk (qsec s x (j / 2) (j % 2))) 32)
theorem qpub_byt (s : List Nat) (x : Nat) : BytN (qpub s x) := qsha_byt _
theorem pub_q (s : List Nat) (x : Nat) (h : BytN s) (hx : x < 256) : pubF (up s) x = up (qpub s x) := by
  unfold pubF qpub
  rw [← pk_q _ (qcat_byt (fun j => qmk (qsec s x (j / 2) (j % 2))) (fun j => qsha_byt _) 32), qcat_up]
  refine congrArg pubk (cat_ext fun j hj => ?_)
  unfold marksF
  rw [at8_cat _ (keyF_len (up s) x) 32 j hj, ← mk_q (qsec s x (j / 2) (j % 2)) (qsha_byt _)]
  refine congrArg mk ?_
  rw [← sec_q s x (j / 2) (j % 2) h hx (by omega) (by omega)]
  rfl
theorem root_app (f n c : Nat) (A B : List Int) (hn : 2 ≤ n) (hc : cutN n = c) (hA : A.length = 8 * c) (hB : B.length = 8 * (n - c)) (hcn : c ≤ n) : rootF (f + 1) (A ++ B) = twoH (rootF f A) (rootF f B) := by
  rw [rootF_two f (A ++ B) n (by rw [List.length_append]; omega) hn, hc, List.take_left' hA, List.drop_left' hA]
theorem root_2 (f : Nat) (p q : List Int) (hp : p.length = 8) (hq : q.length = 8) : rootF (f + 2) (p ++ q) = twoH (leafH p) (leafH q) := by
  rw [root_app (f + 1) 2 1 p q (by omega) cut_2 (by omega) (by omega) (by omega), rootF_one f p (by omega), rootF_one f q (by omega)]
theorem root_4 (f : Nat) (p q r s : List Int) (hp : p.length = 8) (hq : q.length = 8) (hr : r.length = 8) (hs : s.length = 8) : rootF (f + 3) ((p ++ q) ++ (r ++ s)) = twoH (twoH (leafH p) (leafH q)) (twoH (leafH r) (leafH s)) := by
  rw [root_app (f + 2) 4 2 (p ++ q) (r ++ s) (by omega) cut_4 (by rw [List.length_append]; omega) (by rw [List.length_append]; omega) (by omega), root_2 f p q hp hq, root_2 f r s hr hs]
/-- a tree's root out of its publics -/
def qroot (p0 p1 p2 p3 p4 p5 p6 p7 : List Nat) : List Nat := qtwo (qtwo (qtwo (qleaf p0) (qleaf p1)) (qtwo (qleaf p2) (qleaf p3))) (qtwo (qtwo (qleaf p4) (qleaf p5)) (qtwo (qleaf p6) (qleaf p7)))
theorem pubs_8 (seed : List Int) : pubs seed = ((pubF seed 0 ++ pubF seed 1) ++ (pubF seed 2 ++ pubF seed 3)) ++ ((pubF seed 4 ++ pubF seed 5) ++ (pubF seed 6 ++ pubF seed 7)) := by
  unfold pubs
  simp only [cat, List.nil_append, List.append_assoc]
theorem root_q (s : List Nat) (h : BytN s) : rootL (up s) = up (qroot (qpub s 0) (qpub s 1) (qpub s 2) (qpub s 3) (qpub s 4) (qpub s 5) (qpub s 6) (qpub s 7)) := by
  unfold rootL qroot
  rw [rootV_ok _ (by decide), pubs_8]
  have l := pubF_len (up s)
  rw [root_app 7 8 4 _ _ (by omega) cut_8 (by simp only [List.length_append, l]) (by simp only [List.length_append, l]) (by omega), root_4 4 _ _ _ _ (l 0) (l 1) (l 2) (l 3), root_4 4 _ _ _ _ (l 4) (l 5) (l 6) (l 7)]
  rw [pub_q s 0 h (by omega), pub_q s 1 h (by omega), pub_q s 2 h (by omega), pub_q s 3 h (by omega), pub_q s 4 h (by omega), pub_q s 5 h (by omega), pub_q s 6 h (by omega), pub_q s 7 h (by omega)]
  simp only [leaf_q _ (qpub_byt _ _), two_q _ _ (qsha_byt _) (qsha_byt _), qleaf, qtwo]
end Go.Proofs.YtfneopmgckejdaaDoor
