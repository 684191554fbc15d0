/-
  Trees alike in everything but their places, and the tree without places.
-/
import Derived.Test.YtppliplalfpmaaaDoorExact
namespace Go.Proofs.YtppliplalfpmaaaDoor
open Go.RowKit

mutual
def sm : Tr → Tr → Bool
  | .mk o _ n m s ks, u => decide (o = u.op) && (decide (n = u.n) && (decide (m = u.m) && (decide (s = u.s) && smL ks u.ks)))
def smL : List Tr → List Tr → Bool
  | [], [] => true
  | [], _ :: _ => false
  | _ :: _, [] => false
  | t :: r, x :: l => sm t x && smL r l
end
mutual
def Tr.pl : Tr → Tr | .mk o _ n m s ks => .mk o 0 n m s (plL ks)
def plL : List Tr → List Tr | [] => [] | t :: r => t.pl :: plL r
end
theorem sm_eq (t u : Tr) : sm t u = (decide (t.op = u.op) && (decide (t.n = u.n) && (decide (t.m = u.m) && (decide (t.s = u.s) && smL t.ks u.ks)))) := by
  cases t; unfold sm; rfl
theorem smL_cons (t x : Tr) (r l : List Tr) : smL (t :: r) (x :: l) = (sm t x && smL r l) := rfl
theorem smL_len : ∀ {l r : List Tr}, smL l r = true → l.length = r.length := by
  intro l
  induction l with
  | nil => intro r h; cases r with
    | nil => rfl
    | cons _ _ => unfold smL at h; exact absurd h (by decide)
  | cons t l ih => intro r h; cases r with
    | nil => unfold smL at h; exact absurd h (by decide)
    | cons x r =>
      unfold smL at h
      have h2 := (Bool.and_eq_true _ _).mp h
      simp [ih h2.2]
theorem smL_all : ∀ {l r : List Tr}, l.length = r.length → (∀ (j : Nat) (x y : Tr), l[j]? = some x → r[j]? = some y → sm x y = true) → smL l r = true := by
  intro l
  induction l with
  | nil => intro r h _; cases r with
    | nil => unfold smL; rfl
    | cons _ _ => simp at h
  | cons t l ih => intro r h ha; cases r with
    | nil => simp at h
    | cons x r =>
      unfold smL
      have h0 := ha 0 t x (by simp) (by simp)
      have h1 : smL l r = true := ih (by simpa using h) (fun j a b h3 h4 => ha (j + 1) a b (by simpa using h3) (by simpa using h4))
      rw [h0, h1]; rfl
theorem smL_bad : ∀ {l r : List Tr} {k : Nat} {x y : Tr}, l[k]? = some x → r[k]? = some y → sm x y = false → smL l r = false := by
  intro l
  induction l with
  | nil => intro r k x y h; simp at h
  | cons t l ih => intro r k x y h1 h2 h3; cases r with
    | nil => simp at h2
    | cons z r =>
      unfold smL
      cases k with
      | zero =>
        have e1 : t = x := by simpa using h1
        have e2 : z = y := by simpa using h2
        rw [e1, e2, h3]; rfl
      | succ k =>
        have := ih (r := r) (k := k) (x := x) (y := y) (by simpa using h1) (by simpa using h2) h3
        rw [this, Bool.and_false]
mutual
theorem sm_pl : ∀ (t : Tr), sm t t.pl = true
  | .mk o a n m s ks => by
    unfold sm
    have h := smL_pl ks
    simp only [Tr.pl, Tr.op, Tr.n, Tr.m, Tr.s, Tr.ks, decide_true, Bool.true_and]
    exact h
theorem smL_pl : ∀ (l : List Tr), smL l (plL l) = true
  | [] => by unfold smL plL; rfl
  | t :: r => by
    have e : plL (t :: r) = t.pl :: plL r := by
      show plL (t :: r) = _
      conv => lhs; unfold plL
    rw [e, smL_cons, sm_pl t, smL_pl r]; rfl
end
theorem pl_ks (t : Tr) : t.pl.ks = plL t.ks := by cases t; rfl
theorem plL_at : ∀ {l : List Tr} {i : Nat} {x : Tr}, l[i]? = some x → (plL l)[i]? = some x.pl := by
  intro l
  induction l with
  | nil => intro i x h; simp at h
  | cons t l ih =>
    intro i x h
    unfold plL
    cases i with
    | zero => have e : t = x := by simpa using h
              rw [e]; rfl
    | succ i => simpa using ih (i := i) (x := x) (by simpa using h)
theorem plL_len : ∀ (l : List Tr), (plL l).length = l.length := by
  intro l
  induction l with
  | nil => unfold plL; rfl
  | cons t l ih => unfold plL; simp [ih]
mutual
theorem cnt_pl : ∀ (t : Tr), t.pl.cnt = t.cnt
  | .mk o a n m s ks => by unfold Tr.pl Tr.cnt; rw [cntL_pl ks]
theorem cntL_pl : ∀ (l : List Tr), cntL (plL l) = cntL l
  | [] => by unfold plL; rfl
  | t :: r => by unfold plL cntL; rw [cnt_pl t, cntL_pl r]
end
end Go.Proofs.YtppliplalfpmaaaDoor
