/-
  What rest of the reference makes of a node, against the plain functions of chapter 5.
-/
import Derived.Test.YtjnlifghobgkcaaR2
namespace Go.Proofs.Ytjnlifghobgkcaa
open Go.RowKit

def oneR (na : Int) (x : Tr) (d : Nat) (P : Part) : Res := match withinV P x (d + 1) true with
  | .error e => .error e
  | .ok p => .ok (.mk 64 na 0 0 noS [p])
/-- what rest of the reference makes of one node -/
def restR (na : Int) (l : Bool) (h : Nat) (s : Bool) (x : Tr) (d : Nat) (P : Part) : Res :=
  if 200 < d then .error 10 else if l = false ∨ h ≠ 1 then .error 24 else if s = true ∧ 200 < d + 1 then .error 10 else if s = true ∧ tgtB x = false then .error 24 else oneR na x d P
theorem made_one (op a m : Int) (x : Tr) (d : Nat) (Q : Part) : madeV op a m [x] d Q = match Q x (d + 1) true with
    | .error e => .error e
    | .ok p => .ok (.mk op a 0 m noS [p]) := by
  unfold madeV madeL
  simp only [List.isEmpty_nil]
  cases Q x (d + 1) true with
  | error e => rfl
  | ok p => unfold madeL; rfl
theorem made_two (op a m : Int) (x y : Tr) (d : Nat) (F G : Part) : madeV op a m [x, y] d (pairV F G) = match F x (d + 1) false with
    | .error e => .error e
    | .ok p => match G y (d + 1) true with
      | .error e => .error e
      | .ok q => .ok (.mk op a 0 m noS [p, q]) := by
  unfold madeV madeL madeL
  simp only [List.isEmpty_nil, List.isEmpty_cons, pairV, Bool.false_eq_true, if_false, if_true]
  cases F x (d + 1) false with
  | error e => rfl
  | ok p =>
    cases G y (d + 1) true with
    | error e => rfl
    | ok q => unfold madeL; rfl
theorem first_of_one {t : Tr} (h : t.ks.length = 1) : ∃ x, t.ks = [x] ∧ firstT t = x := by
  obtain ⟨x, hx⟩ := List.length_eq_one_iff.1 h
  exact ⟨x, hx, first_one (t := t) (x := x) (by rw [hx]; rfl)⟩
theorem rest_item {t : Tr} (h : t.op = 41) (d : Nat) (l : Bool) (P : Part) : itemG P t d l = restR t.a l t.ks.length false (firstT t) d P := by
  unfold itemG restR
  rw [if_neg (by omega)]
  unfold withinV
  by_cases h1 : 200 < d
  · rw [if_pos h1, if_pos h1]
  rw [if_neg h1, if_neg h1]
  unfold lisG
  rw [if_neg (by omega)]
  by_cases h2 : l = true ∧ t.ks.length = 1
  · obtain ⟨x, hx, hf⟩ := first_of_one h2.2
    rw [if_pos h2, if_neg (by simp [h2.1, h2.2]), if_neg (by simp), if_neg (by simp), hf, hx, made_one]
    rfl
  · rw [if_neg h2, if_pos (by
      cases l with
      | false => exact .inl rfl
      | true => exact .inr (fun e => h2 ⟨rfl, e⟩))]
theorem rest_prop {t : Tr} (h : t.op = 39) (h4 : t.n = 4) (d : Nat) (l : Bool) (P : Part) (hP : t.ks.length = 1 → tgtB (firstT t) = true → ∀ d l, P (firstT t) d l = .ok (firstT t)) : withinV (propG P) t d l = restR t.a l t.ks.length true (firstT t) d P := by
  unfold withinV restR
  by_cases h1 : 200 < d
  · rw [if_pos h1, if_pos h1]
  rw [if_neg h1, if_neg h1]
  unfold propG
  rw [if_neg (by omega), if_neg (by omega), if_neg (by omega)]
  by_cases h2 : l = true ∧ t.ks.length = 1
  · obtain ⟨x, hx, hf⟩ := first_of_one h2.2
    have hP' := hP h2.2
    rw [hf] at hP'
    rw [if_pos ⟨h4, h2.2, h2.1⟩, if_neg (by simp [h2.1, h2.2]), hf, hx, made_one]
    unfold oneR withinV
    by_cases h3 : 200 < d + 1
    · rw [if_pos h3, if_pos ⟨rfl, h3⟩]
    rw [if_neg h3, if_neg (fun e => h3 e.2)]
    unfold onlyV
    cases h5 : tgtB x with
    | true => rw [if_pos rfl, if_neg (by simp), if_neg h3, hP' h5]
    | false => rw [if_neg (by simp), if_pos ⟨rfl, rfl⟩]
  · rw [if_neg (fun e => h2 ⟨e.2.2, e.2.1⟩), if_pos (by
      cases l with
      | false => exact .inl rfl
      | true => exact .inr (fun e => h2 ⟨rfl, e⟩))]
end Go.Proofs.Ytjnlifghobgkcaa
