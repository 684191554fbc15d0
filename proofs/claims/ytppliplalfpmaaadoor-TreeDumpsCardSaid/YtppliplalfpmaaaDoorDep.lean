/-
  Depth, and the sum of counts along a list, as plain functions of trees.
-/
import Derived.Test.YtppliplalfpmaaaDoorTk
namespace Go.Proofs.YtppliplalfpmaaaDoor
open Go.RowKit

mutual
def Tr.dep : Tr → Nat | .mk _ _ _ _ _ ks => depL ks + 1
def depL : List Tr → Nat | [] => 0 | t :: r => max t.dep (depL r)
end
theorem dep_ks (t : Tr) : t.dep = depL t.ks + 1 := by cases t; rfl
theorem cnt_ks (t : Tr) : t.cnt = 1 + cntL t.ks := by cases t; rfl
theorem cntL_take {l : List Tr} {k : Nat} {x : Tr} (h : l[k]? = some x) : cntL (l.take (k + 1)) = cntL (l.take k) + x.cnt := by
  have hk := (List.getElem?_eq_some_iff.1 h).1
  have e : l.take (k + 1) = l.take k ++ [x] := by
    rw [List.take_add_one, h]
    rfl
  rw [e]
  generalize l.take k = m
  induction m with
  | nil => simp [cntL]
  | cons y r ih => simp only [List.cons_append, cntL]; omega
theorem depL_take {l : List Tr} {k : Nat} {x : Tr} (h : l[k]? = some x) : depL (l.take (k + 1)) = max (depL (l.take k)) x.dep := by
  have e : l.take (k + 1) = l.take k ++ [x] := by
    rw [List.take_add_one, h]
    rfl
  rw [e]
  generalize l.take k = m
  induction m with
  | nil => simp [depL]
  | cons y r ih => simp only [List.cons_append, depL]; omega
theorem depL_le : ∀ (l : List Tr), depL l ≤ cntL l ∧ ∀ (t : Tr), t ∈ l → t.dep ≤ t.cnt := by
  intro l
  exact depAux l
where
  depAux : ∀ (l : List Tr), depL l ≤ cntL l ∧ ∀ (t : Tr), t ∈ l → t.dep ≤ t.cnt := by
    intro l
    have key : ∀ n (l : List Tr), cntL l ≤ n → depL l ≤ cntL l ∧ ∀ (t : Tr), t ∈ l → t.dep ≤ t.cnt := by
      intro n
      induction n with
      | zero =>
        intro l h
        cases l with
        | nil => exact ⟨Nat.le_refl _, fun t ht => by cases ht⟩
        | cons x r => have := cnt_pos x; simp only [cntL] at h; omega
      | succ n ih =>
        intro l h
        induction l with
        | nil => exact ⟨Nat.le_refl _, fun t ht => by cases ht⟩
        | cons x r ih2 =>
          simp only [cntL] at h
          have hx : x.dep ≤ x.cnt := by
            have h1 := ih x.ks (by have := cnt_ks x; omega)
            rw [dep_ks, cnt_ks]
            omega
          have hr := ih2 (by omega)
          refine ⟨?_, fun t ht => ?_⟩
          · simp only [depL, cntL]
            have := hr.1
            omega
          · rcases List.mem_cons.1 ht with rfl | ht
            · exact hx
            · exact hr.2 t ht
    exact key (cntL l) l (Nat.le_refl _)
end Go.Proofs.YtppliplalfpmaaaDoor
