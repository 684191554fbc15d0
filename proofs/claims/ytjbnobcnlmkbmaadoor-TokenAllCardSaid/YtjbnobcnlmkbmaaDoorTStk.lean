/-
  The nesting of All: the program's counts and the reference's list of bools say the same.
-/
import Derived.Test.YtjbnobcnlmkbmaaDoorTOff
namespace Go.Proofs.YtjbnobcnlmkbmaaDoor
open Go.RowKit

def encS (st : List Int) : List Bool := st.flatMap fun c => true :: List.replicate c.toNat false
theorem enc_snoc (a : List Int) (c : Int) : encS (a ++ [c]) = encS a ++ true :: List.replicate c.toNat false := by simp [encS]
def opR (ob : List Bool) (t : NT) : List Bool :=
  if t.kind = 6 then (if t.n = 1 then (if t.o = true then ob.dropLast ++ [true] else ob.dropLast) else if t.o = true then ob ++ [true] else ob)
  else if t.kind = 5 then (if t.s.toList = [123] then ob ++ [false] else if t.s.toList = [125] then ob.dropLast else ob)
  else ob
def tailR (ob : List Bool) : Bool := ob.getLast? == some true
def RelS (st : List Int) (ob : List Bool) : Prop := (∃ m, ob = List.replicate m false ++ encS st) ∧ ∀ x ∈ st, 0 ≤ x
theorem rel_nil : RelS [] [] := ⟨⟨0, rfl⟩, by simp⟩
theorem rep_snoc (n : Nat) (b : Bool) : List.replicate n b ++ [b] = List.replicate (n + 1) b := by rw [List.replicate_succ']
theorem drop_rep (n : Nat) (b : Bool) : (List.replicate n b).dropLast = List.replicate (n - 1) b := by simp
theorem rel_tail {st : List Int} {ob : List Bool} (h : RelS st ob) : tailR ob = tailV st := by
  obtain ⟨⟨m, rfl⟩, hp⟩ := h
  unfold tailR tailV
  rcases List.eq_nil_or_concat st with rfl | ⟨a, c, rfl⟩
  · cases m with
    | zero => simp [encS]
    | succ m => simp [encS, List.getLast?_replicate]
  · rw [List.concat_eq_append] at hp ⊢
    rw [enc_snoc]
    have hc := hp c (by simp)
    cases hn : c.toNat with
    | zero =>
      have : c = 0 := by omega
      subst this
      simp
    | succ n =>
      have : ¬ c = 0 := by omega
      rw [← rep_snoc, show List.replicate m false ++ (encS a ++ true :: (List.replicate n false ++ [false])) = (List.replicate m false ++ (encS a ++ true :: List.replicate n false)) ++ [false] by simp, List.getLast?_concat, List.getLast?_concat]
      have h0 : (some c == some (0 : Int)) = false := by simpa using this
      rw [h0]
      rfl
theorem rel_step {st st' : List Int} {ob : List Bool} {t : NT} (h : RelS st ob) (hn : nestV st t = some st') (h1 : t.kind = 6 → t.n = 1 → tailV st = true) (h2 : t.kind = 6 → t.n = 0 ∨ t.n = 1) (h3 : t.kind = 5 → t.s.toList = [125] → tailV st = false) : RelS st' (opR ob t) := by
  obtain ⟨⟨m, rfl⟩, hp⟩ := h
  unfold nestV at hn
  unfold opR
  by_cases k6 : t.kind = 6
  · rw [if_pos k6] at hn ⊢
    rcases h2 k6 with hn0 | hn1
    · rw [if_pos hn0] at hn
      rw [if_neg (by omega)]
      by_cases ho : t.o = true
      · rw [if_pos ho] at hn ⊢
        cases hn
        refine ⟨⟨m, ?_⟩, ?_⟩
        · rw [enc_snoc]; simp
        · intro x hx
          rcases List.mem_append.1 hx with hx | hx
          · exact hp x hx
          · simp at hx; omega
      · rw [if_neg ho] at hn ⊢
        cases hn
        exact ⟨⟨m, rfl⟩, hp⟩
    · rw [if_neg (by omega), if_pos hn1] at hn
      rw [if_pos hn1]
      have ht := h1 k6 hn1
      rcases List.eq_nil_or_concat st with rfl | ⟨a, c, rfl⟩
      · simp [tailV] at ht
      · rw [List.concat_eq_append] at hp hn ht ⊢
        have hc : c = 0 := by simpa [tailV] using ht
        subst hc
        have he : (List.replicate m false ++ encS (a ++ [0])).dropLast = List.replicate m false ++ encS a := by
          rw [enc_snoc, show List.replicate m false ++ (encS a ++ true :: List.replicate (0 : Int).toNat false) = (List.replicate m false ++ encS a) ++ [true] by simp]
          simp
        rw [he]
        by_cases ho : t.o = true
        · rw [if_pos ho] at hn ⊢
          cases hn
          refine ⟨⟨m, ?_⟩, hp⟩
          rw [enc_snoc]; simp
        · rw [if_neg ho, if_neg (by simp)] at hn
          rw [if_neg ho]
          simp only [List.dropLast_concat, Option.some.injEq] at hn
          subst hn
          exact ⟨⟨m, rfl⟩, fun x hx => hp x (by simp [hx])⟩
  · rw [if_neg k6] at hn ⊢
    by_cases k5 : t.kind = 5
    · rw [if_pos k5] at hn ⊢
      by_cases s1 : t.s.toList = [123]
      · rw [if_pos s1] at hn ⊢
        rcases List.eq_nil_or_concat st with rfl | ⟨a, c, rfl⟩
        · rw [if_pos rfl] at hn
          cases hn
          refine ⟨⟨m + 1, ?_⟩, hp⟩
          simp [encS, rep_snoc]
        · rw [List.concat_eq_append] at hp hn ⊢
          rw [if_neg (by simp)] at hn
          simp only [List.dropLast_concat, Option.some.injEq] at hn
          have hl : (a ++ [c]).getLastD 0 = c := by simp
          rw [hl] at hn
          subst hn
          have hc := hp c (by simp)
          refine ⟨⟨m, ?_⟩, ?_⟩
          · rw [enc_snoc, enc_snoc, show (c + 1).toNat = c.toNat + 1 by omega, ← rep_snoc]
            simp
          · intro x hx
            rcases List.mem_append.1 hx with hx | hx
            · exact hp x (by simp [hx])
            · simp at hx; omega
      · rw [if_neg s1] at hn ⊢
        by_cases s2 : t.s.toList = [125]
        · rw [if_pos s2] at hn ⊢
          have ht := h3 k5 s2
          rcases List.eq_nil_or_concat st with rfl | ⟨a, c, rfl⟩
          · rw [if_pos rfl] at hn
            cases hn
            refine ⟨⟨m - 1, ?_⟩, hp⟩
            simp [encS]
          · rw [List.concat_eq_append] at hp hn ht ⊢
            rw [if_neg (by simp)] at hn
            simp only [List.dropLast_concat, Option.some.injEq] at hn
            have hl : (a ++ [c]).getLastD 0 = c := by simp
            rw [hl] at hn
            subst hn
            have hc := hp c (by simp)
            have hc0 : ¬ c = 0 := by simpa [tailV] using ht
            refine ⟨⟨m, ?_⟩, ?_⟩
            · rw [enc_snoc, enc_snoc, show c.toNat = (c - 1).toNat + 1 by omega, ← rep_snoc, show List.replicate m false ++ (encS a ++ true :: (List.replicate (c - 1).toNat false ++ [false])) = (List.replicate m false ++ (encS a ++ true :: List.replicate (c - 1).toNat false)) ++ [false] by simp, List.dropLast_concat]
            · intro x hx
              rcases List.mem_append.1 hx with hx | hx
              · exact hp x (by simp [hx])
              · simp at hx; omega
        · rw [if_neg s2] at hn ⊢
          cases hn
          exact ⟨⟨m, rfl⟩, hp⟩
    · rw [if_neg k5] at hn ⊢
      cases hn
      exact ⟨⟨m, rfl⟩, hp⟩
end Go.Proofs.YtjbnobcnlmkbmaaDoor
