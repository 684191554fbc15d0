/-
  Sizes of what the conversions make; a pattern of a pattern.
-/
import Derived.Test.YtjnlifghobgkcaaE2
namespace Go.Proofs.Ytjnlifghobgkcaa
open Go.RowKit

/-- what comes back is not much bigger -/
def Dbl (P : Part) : Prop := ∀ t d l r, P t d l = .ok r → r.cnt + 1 ≤ 2 * t.cnt
def Sam (P : Part) : Prop := ∀ t d l r, P t d l = .ok r → r.cnt ≤ t.cnt
theorem sam_dbl {P : Part} (h : Sam P) : Dbl P := fun t d l r e => by have := h t d l r e; have := cnt_pos t; omega
theorem dbl_within {P : Part} (h : Dbl P) : Dbl (withinV P) := by
  intro t d l r e
  unfold withinV at e
  split at e
  · cases e
  · exact h t d l r e
theorem sam_within {P : Part} (h : Sam P) : Sam (withinV P) := by
  intro t d l r e
  unfold withinV at e
  split at e
  · cases e
  · exact h t d l r e
theorem sam_only (f : Tr → Bool) : Sam (onlyV f) := by
  intro t d l r e
  unfold onlyV at e
  split at e
  · cases e; exact Nat.le_refl _
  · cases e
theorem sam_keep : Sam keepV := by
  intro t d l r e
  cases e
  exact Nat.le_refl _
theorem dbl_pair {P Q : Part} (h : Dbl P) (k : Dbl Q) : Dbl (pairV P Q) := by
  intro t d l r e
  unfold pairV at e
  split at e
  · exact k t d _ r e
  · exact h t d _ r e
theorem sam_pair {P Q : Part} (h : Sam P) (k : Sam Q) : Sam (pairV P Q) := by
  intro t d l r e
  unfold pairV at e
  split at e
  · exact k t d _ r e
  · exact h t d _ r e
theorem madeL_ok {P : Part} {d : Nat} {t : Tr} {r : List Tr} {L : List Tr} (h : madeL P d (t :: r) = .ok L) : ∃ x l, L = x :: l ∧ P t d r.isEmpty = .ok x ∧ madeL P d r = .ok l := by
  unfold madeL at h
  cases h1 : P t d r.isEmpty with
  | error e => rw [h1] at h; cases h
  | ok x =>
    rw [h1] at h
    simp only at h
    cases h2 : madeL P d r with
    | error e => rw [h2] at h; cases h
    | ok l => rw [h2] at h; cases h; exact ⟨x, l, rfl, rfl, rfl⟩
theorem dbl_madeL {P : Part} (h : Dbl P) (d : Nat) : ∀ (ks L : List Tr), madeL P d ks = .ok L → cntL L ≤ 2 * cntL ks := by
  intro ks
  induction ks with
  | nil => intro L e; cases e; simp [cntL]
  | cons t r ih =>
    intro L e
    obtain ⟨x, l, rfl, hx, hl⟩ := madeL_ok e
    have := h _ _ _ _ hx
    have := ih l hl
    simp only [cntL]
    omega
theorem sam_madeL {P : Part} (h : Sam P) (d : Nat) : ∀ (ks L : List Tr), madeL P d ks = .ok L → cntL L ≤ cntL ks := by
  intro ks
  induction ks with
  | nil => intro L e; cases e; simp [cntL]
  | cons t r ih =>
    intro L e
    obtain ⟨x, l, rfl, hx, hl⟩ := madeL_ok e
    have := h _ _ _ _ hx
    have := ih l hl
    simp only [cntL]
    omega
theorem madeV_ok {op a m : Int} {ks : List Tr} {d : Nat} {P : Part} {r : Tr} (h : madeV op a m ks d P = .ok r) : ∃ L, madeL P (d + 1) ks = .ok L ∧ r = .mk op a 0 m noS L := by
  unfold madeV at h
  cases h1 : madeL P (d + 1) ks with
  | error e => rw [h1] at h; cases h
  | ok L => rw [h1] at h; cases h; exact ⟨L, rfl, rfl⟩
theorem cnt_mk (op a n m : Int) (s : ByteArray) (ks : List Tr) : (Tr.mk op a n m s ks).cnt = 1 + cntL ks := rfl
theorem cnt_ks (t : Tr) : t.cnt = 1 + cntL t.ks := by obtain ⟨op, a, n, m, s, ks⟩ := t; rfl
theorem dbl_madeV {P : Part} (h : Dbl P) {op a m : Int} {t : Tr} {d : Nat} {r : Tr} (e : madeV op a m t.ks d P = .ok r) : r.cnt + 1 ≤ 2 * t.cnt := by
  obtain ⟨L, hL, rfl⟩ := madeV_ok e
  have := dbl_madeL h _ _ _ hL
  have := cnt_ks t
  rw [cnt_mk]
  omega
theorem ele46 {P : Part} {t : Tr} {d : Nat} {l : Bool} {r : Tr} (h : t.op = 46) (e : eleG P t d l = .ok r) : r.cnt ≤ t.cnt := by
  unfold eleG at e
  rw [if_neg (by simpa using h)] at e
  split at e
  · obtain ⟨L, hL, rfl⟩ := madeV_ok e
    have := sam_madeL (sam_pair (sam_within (sam_only _)) sam_keep) _ _ _ hL
    have := cnt_ks t
    rw [cnt_mk]
    omega
  · cases e
theorem dbl_ele {P : Part} (h : Dbl P) : Dbl (eleG P) := by
  intro t d l r e
  by_cases h46 : t.op = 46
  · have := ele46 h46 e; have := cnt_pos t; omega
  · unfold eleG at e
    rw [if_pos h46] at e
    exact h t d l r e
theorem dbl_lis {P : Part} (h : Dbl P) : Dbl (lisG P) := by
  intro t d l r e
  unfold lisG at e
  split at e
  · exact dbl_ele h t d l r e
  · split at e
    · exact dbl_madeV (dbl_within h) e
    · cases e
theorem dbl_item {P : Part} (h : Dbl P) : Dbl (itemG P) := by
  intro t d l r e
  unfold itemG at e
  split at e
  · cases e; have := cnt_pos t; omega
  · exact dbl_within (dbl_lis h) t d l r e
theorem dbl_written {P : Part} (h : Dbl P) {op a m : Int} {t : Tr} {d : Nat} {r : Tr} (hl : t.ks.length = 1 ∨ t.ks.length = 2) (e : madeV op a m (writtenV t.ks) d (pairV (onlyV txtB) (withinV (eleG P))) = .ok r) : r.cnt + 1 ≤ 2 * t.cnt := by
  obtain ⟨L, hL, rfl⟩ := madeV_ok e
  have hc := cnt_ks t
  rw [cnt_mk]
  have key : ∀ (x v : Tr), madeL (pairV (onlyV txtB) (withinV (eleG P))) (d + 1) [x, v] = .ok L → (∀ r, eleG P v (d + 1) true = .ok r → r.cnt ≤ v.cnt) → cntL L ≤ x.cnt + v.cnt := by
    intro x v hL hv
    obtain ⟨a1, l1, rfl, h1, h2⟩ := madeL_ok hL
    obtain ⟨a2, l2, rfl, h3, h4⟩ := madeL_ok h2
    cases h4
    have e1 : a1.cnt ≤ x.cnt := by
      unfold pairV at h1
      simp only [List.isEmpty_cons, Bool.false_eq_true, if_false] at h1
      exact sam_only _ _ _ _ _ h1
    have e2 : a2.cnt ≤ v.cnt := by
      unfold pairV withinV at h3
      simp only [List.isEmpty_nil, if_true] at h3
      split at h3
      · cases h3
      · exact hv _ h3
    simp only [cntL]
    omega
  match hk : t.ks, hl with
  | [], hl => simp at hl
  | [x], _ =>
    rw [hk] at hc hL
    have := key x (.mk 34 x.a 0 0 x.s []) hL (fun r hr => by
      have := dbl_ele h _ _ _ _ hr
      simp only [cnt_mk, cntL] at this ⊢
      omega)
    have := cnt_pos x
    simp only [cnt_mk, cntL] at *
    omega
  | [x, y], _ =>
    rw [hk] at hc hL
    have := key x (.mk 46 x.a 0 0 eqS [.mk 34 x.a 0 0 x.s [], y]) hL (fun r hr => ele46 rfl hr)
    have := cnt_pos x
    have := cnt_pos y
    simp only [cnt_mk, cntL] at *
    omega
  | x :: y :: z :: r, hl => simp at hl
theorem dbl_prop {P : Part} (h : Dbl P) : Dbl (propG P) := by
  intro t d l r e
  unfold propG at e
  split at e
  · cases e
  · split at e
    · exact dbl_madeV (dbl_pair (sam_dbl sam_keep) (dbl_within (dbl_ele h))) e
    · split at e
      · rename_i hh
        exact dbl_written h hh.2 e
      · split at e
        · exact dbl_madeV (sam_dbl (sam_within (sam_only _))) e
        · cases e
theorem dbl_pat : ∀ f, Dbl (patF f) := by
  intro f
  induction f with
  | zero => intro t d l r e; cases e
  | succ f ih =>
    intro t d l r e
    unfold patF at e
    split at e
    · cases e; have := cnt_pos t; omega
    · split at e
      · exact dbl_madeV (dbl_item ih) e
      · split at e
        · exact dbl_madeV (dbl_within (dbl_prop ih)) e
        · cases e
/-- a pattern is a pattern -/
theorem patn_is {f : Nat} {t : Tr} {d : Nat} {l : Bool} {r : Tr} (e : patF f t d l = .ok r) : patB r = true := by
  cases f with
  | zero => cases e
  | succ f =>
    unfold patF at e
    split at e
    · rename_i h; cases e; exact h
    · split at e
      · obtain ⟨L, _, rfl⟩ := madeV_ok e; simp [patB, Tr.op]
      · split at e
        · obtain ⟨L, _, rfl⟩ := madeV_ok e; simp [patB, Tr.op]
        · cases e
theorem pat_again {t r : Tr} (e : patOf t = .ok r) : patOf r = .ok r := by
  have h := patn_is e
  unfold patOf
  obtain ⟨n, hn⟩ : ∃ n, r.cnt = n + 1 := ⟨r.cnt - 1, by have := cnt_pos r; omega⟩
  rw [hn]
  unfold patF
  rw [h]
  rfl
theorem pat_cnt {t r : Tr} (e : patOf t = .ok r) : r.cnt ≤ 2 * t.cnt := by
  have := dbl_pat _ _ _ _ _ e
  omega
def parH (f : Nat) : Part := fun t d l => match withinV (lisG (patF f)) t d l with
  | .error e => .error e
  | .ok p => if hasOf p then .error 24 else .ok p
theorem dbl_par (f : Nat) : Dbl (parH f) := by
  intro t d l r e
  unfold parH at e
  cases h1 : withinV (lisG (patF f)) t d l with
  | error x => rw [h1] at e; cases e
  | ok p =>
    rw [h1] at e
    simp only at e
    split at e
    · cases e
    · cases e; exact dbl_within (dbl_lis (dbl_pat f)) t d l _ h1
def parsL (t : Tr) : List Tr := if t.op = 7 then [] else if t.op = 48 then t.ks else [t]
def parsOf (t : Tr) : Res := madeV 5 t.a 0 (parsL t) 1 (parH t.cnt)
theorem pars_cnt {t r : Tr} (e : parsOf t = .ok r) : r.op = 5 ∧ r.cnt ≤ 2 * t.cnt + 1 := by
  obtain ⟨L, hL, rfl⟩ := madeV_ok e
  refine ⟨rfl, ?_⟩
  have h1 := dbl_madeL (dbl_par _) _ _ _ hL
  have h2 : cntL (parsL t) ≤ t.cnt := by
    have := cnt_ks t
    unfold parsL
    split
    · simp [cntL]
    · split
      · omega
      · simp [cntL]
  rw [cnt_mk]
  omega
end Go.Proofs.Ytjnlifghobgkcaa
