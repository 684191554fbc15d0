/-
  Numerals of the reference at this translation: the same value as the program's, as lists.
-/
import Derived.Test.YtjbnobcnlmkbmaaDoorTNum
import Derived.Test.YtjbnobcnlmkbmaaDoorRBytes
namespace Go.Proofs.YtjbnobcnlmkbmaaDoor
open Go.RowKit

def idT (l : List UInt8) : List UInt8 := l.takeWhile (fun c => idcB c.toNat)
theorem idT_nil : idT [] = [] := rfl
theorem idT_yes {c : UInt8} {t : List UInt8} (h : idcB c.toNat = true) : idT (c :: t) = c :: idT t := by simp [idT, h]
theorem idT_no {c : UInt8} {t : List UInt8} (h : idcB c.toNat = false) : idT (c :: t) = [] := by simp [idT, h]
theorem idT_take (l : List UInt8) : l.take (runLen idcB l) = idT l := by
  induction l with
  | nil => rfl
  | cons c t ih =>
    cases h : idcB c.toNat with
    | true => rw [run_yes h, idT_yes h, List.take_succ_cons, ih]
    | false => rw [run_no h, idT_no h]; rfl
theorem id_data (s : ByteArray) (k : Nat) : (s.extract k (numE s k)).data.toList = idT (s.data.toList.drop k) := by
  rw [Lib.extract_data]
  unfold numE
  rw [show k + runLen idcB (s.data.toList.drop k) - k = runLen idcB (s.data.toList.drop k) from by omega]
  exact idT_take _
theorem trim_id (l : List UInt8) (h : ∀ c ∈ l, ([9, 10, 13, 32] : List UInt8).contains c = false) : Lib.trimS l [9, 10, 13, 32] = l := by
  have dw : ∀ m : List UInt8, (∀ c ∈ m, ([9, 10, 13, 32] : List UInt8).contains c = false) → m.dropWhile (fun c => ([9, 10, 13, 32] : List UInt8).contains c) = m := by
    intro m hm
    cases m with
    | nil => rfl
    | cons a t => rw [List.dropWhile_cons, if_neg (by rw [hm a (by simp)]; simp)]
  unfold Lib.trimS Lib.trimRightS Lib.trimLeftS
  rw [dw l.reverse (fun c hc => h c (List.mem_reverse.1 hc)), List.reverse_reverse, dw l h]
theorem id_clean (l : List UInt8) : ∀ c ∈ idT l, ([9, 10, 13, 32] : List UInt8).contains c = false := by
  intro c hc
  have h1 : idcB c.toNat = true := by
    induction l with
    | nil => simp [idT] at hc
    | cons a t ih =>
      cases h : idcB a.toNat with
      | true =>
        rw [idT_yes h, List.mem_cons] at hc
        rcases hc with rfl | hc
        · exact h
        · exact ih hc
      | false => rw [idT_no h] at hc; simp at hc
  cases h : ([9, 10, 13, 32] : List UInt8).contains c with
  | false => rfl
  | true =>
    simp at h
    rcases h with rfl | rfl | rfl | rfl <;> (revert h1; decide)
def numO (l : List UInt8) : Option Int := if strD (idT l) = true then none else num.rdT (idT l)
def nuT (E : Nat) (o : Option Int) : RT :=
  match o with
  | some v => ⟨3, E, v, ⟨#[]⟩, false, 0⟩
  | none => noT 22
theorem numT_numO (s : ByteArray) (k : Nat) : numT s k = nuT (numE s k) (numO (s.data.toList.drop k)) := by
  rw [numT_eq, id_data]
  unfold num.rdS
  rw [trim_id _ (id_clean _)]
  unfold nmR numO nuT
  cases strD (idT (s.data.toList.drop k)) with
  | true => rfl
  | false => rfl

/-- the value of the digits l behind n; 'first': no digit has been read -/
def nuS (base : Int) (first : Bool) (l : List UInt8) (n : Int) : Option Int :=
  if first = true ∧ l = [] then none else if n ≤ 9007199254740992 then num.dgR base l n else none
theorem nu_start (base : Int) (l : List UInt8) : num.dgS base l = nuS base true l 0 := by
  unfold num.dgS nuS
  by_cases h : l = []
  · rw [if_pos h, if_pos ⟨rfl, h⟩]
  · rw [if_neg h, if_neg (by simp [h]), if_pos (by omega)]
theorem nu_more (base : Int) (c : UInt8) (t : List UInt8) : num.dgS base (c :: t) = nuS base false (c :: t) 0 := by
  unfold num.dgS nuS
  rw [if_neg (by simp), if_neg (by simp), if_pos (by omega)]
theorem nu_step {base n : Int} {f : Bool} {c : UInt8} {t : List UInt8} (h : num.dgV c.toNat < base) (hn : n ≤ 9007199254740992) (h0 : 0 ≤ n) (hb : 0 ≤ base) : nuS base f (c :: t) n = nuS base false t (n * base + num.dgV c.toNat) := by
  have hd := num.dgV_0 c.toNat
  have hm : 0 ≤ n * base := Int.mul_nonneg h0 hb
  unfold nuS
  rw [if_neg (by simp), if_pos hn, if_neg (by simp)]
  by_cases hi : n * base + num.dgV c.toNat ≤ 9007199254740992
  · rw [if_pos hi, num.dg_in h (by unfold num.inB; simp; omega)]
  · rw [if_neg hi, num.dg_out h (by unfold num.inB; simp; omega)]
theorem nu_far {base n : Int} {f : Bool} {c : UInt8} {t : List UInt8} (h : ¬ num.dgV c.toNat < base) : nuS base f (c :: t) n = none := by
  unfold nuS
  rw [if_neg (by simp)]
  split
  · exact num.dg_far h
  · rfl
theorem nu_over {base n : Int} {f : Bool} {l : List UInt8} (h : ¬ n ≤ 9007199254740992) : nuS base f l n = none := by
  unfold nuS
  rw [if_neg h]
  split <;> rfl
theorem nu_end {base n : Int} (h : n ≤ 9007199254740992) : nuS base false [] n = some n := by
  unfold nuS
  rw [if_neg (by simp), if_pos h]
  rfl
theorem nu_empty {base n : Int} : nuS base true [] n = none := by
  unfold nuS
  rw [if_pos ⟨rfl, rfl⟩]
theorem hex_dg (c : Int) : (0 ≤ hexV c → num.dgV c = hexV c ∧ num.dgV c < 16 ∧ idcB c = true) ∧ (hexV c < 0 → ¬ num.dgV c < 16) := by
  unfold hexV num.dgV idcB letB digB
  constructor
  · intro h
    repeat' split at h
    all_goals
      repeat' split
      all_goals (simp; omega)
  · intro h
    repeat' split at h
    all_goals
      repeat' split
      all_goals omega
theorem dig_dg (c : Int) : (digB c = true → num.dgV c = c - 48 ∧ num.dgV c < 10 ∧ idcB c = true) ∧ (digB c = false → ¬ num.dgV c < 10) := by
  unfold num.dgV idcB digB
  constructor
  · intro h
    simp at h
    rw [if_pos h]
    simp
    omega
  · intro h
    simp at h
    repeat' split
    all_goals omega
theorem num_hex {l : List UInt8} (h : Lib.hasPrefix l [48, 120] = true) : numO l = nuS 16 true (idT (l.drop 2)) 0 := by
  obtain ⟨t, rfl⟩ : ∃ t, l = 48 :: 120 :: t := by
    match l with
    | [] => simp [Lib.hasPrefix, List.isPrefixOf] at h
    | [x] => simp [Lib.hasPrefix, List.isPrefixOf] at h
    | x :: y :: t =>
      simp [Lib.hasPrefix, List.isPrefixOf] at h
      obtain ⟨rfl, rfl⟩ := h
      exact ⟨t, rfl⟩
  unfold numO
  rw [idT_yes (by decide), idT_yes (by decide), if_neg (by simp [strD]), num.rdT_cons, if_pos (Or.inl (show Lib.hasPrefix (48 :: 120 :: idT t) [48, 120] = true by simp [Lib.hasPrefix, List.isPrefixOf]))]
  exact nu_start 16 (idT t)
theorem num_dec {c : UInt8} {t : List UInt8} (hd : digB c.toNat = true) (h : Lib.hasPrefix (c :: t) [48, 120] = false) : numO (c :: t) = if strD (c :: idT t) = true then none else nuS 10 false (c :: idT t) 0 := by
  have hi := ((dig_dg c.toNat).1 hd).2.2
  unfold numO
  rw [idT_yes hi]
  cases hz : strD (c :: idT t) with
  | true => rfl
  | false =>
    rw [if_neg (by simp), if_neg (by simp), num.rdT_cons, if_neg, if_neg, if_neg, nu_more]
    · rintro rfl; revert hd; decide
    · rintro rfl; revert hd; decide
    · rintro (h1 | h1)
      · have : Lib.hasPrefix (c :: t) [48, 120] = true := by
          match t, h1 with
          | [], h1 => simp [idT, Lib.hasPrefix, List.isPrefixOf] at h1
          | d :: t', h1 =>
            cases hd2 : idcB d.toNat with
            | false => rw [idT_no hd2] at h1; simp [Lib.hasPrefix, List.isPrefixOf] at h1
            | true => rw [idT_yes hd2] at h1; simpa [Lib.hasPrefix, List.isPrefixOf] using h1
        rw [this] at h; cases h
      · match hm : idT t, h1 with
        | [], h1 => simp [Lib.hasPrefix, List.isPrefixOf] at h1
        | d :: t', h1 =>
          rw [hm] at hz
          simp [Lib.hasPrefix, List.isPrefixOf] at h1
          obtain ⟨rfl, rfl⟩ := h1
          revert hz
          simp [strD]
end Go.Proofs.YtjbnobcnlmkbmaaDoor
