/-
  All of package token at this translation: the tokens of a text, as far as a count of rounds reaches.
-/
import Derived.Test.YthkjdllpgcocpaaGreatDoorTNest
namespace Go.Proofs.YthkjdllpgcocpaaGreatDoor
open Go.RowKit

def nestV (st : List Int) (t : NT) : Option (List Int) :=
  if t.kind = 6 then
    if t.n = 0 then (if t.o = true then some (st ++ [0]) else some st)
    else if t.n = 1 then (if t.o = true then some st else if st = [] then none else some st.dropLast)
    else some st
  else if t.kind = 5 then
    if t.s.toList = [123] then (if st = [] then some st else some (st.dropLast ++ [st.getLastD 0 + 1]))
    else if t.s.toList = [125] then (if st = [] then some st else some (st.dropLast ++ [st.getLastD 0 - 1]))
    else some st
  else some st
def tailV (st : List Int) : Bool := st.getLast? == some 0
def allV (s : ByteArray) : Nat → Int → List Int → List NT → Option (List NT × Int × Int)
  | 0, _, _, _ => none
  | n + 1, p, st, acc =>
    if (nxT s p (tailV st)).err = 0 then
      if (nxT s p (tailV st)).kind = 0 then some (acc ++ [nxT s p (tailV st)], 0, 0)
      else match nestV st (nxT s p (tailV st)) with
        | none => none
        | some st' => allV s n (nxT s p (tailV st)).to st' (acc ++ [nxT s p (tailV st)])
    else some ([], (nxT s p (tailV st)).fault, (nxT s p (tailV st)).err)
def Bnd (c : Nat) (st : List Int) : Prop := st.length ≤ c ∧ ∀ x ∈ st, -(c : Int) ≤ x ∧ x ≤ c
theorem bnd_nil : Bnd 0 [] := ⟨Nat.le_refl _, by simp⟩
theorem last_split (st : List Int) (h : ¬ st = []) : st = st.dropLast ++ [st.getLastD 0] := by
  have e := List.dropLast_concat_getLast h
  cases st with
  | nil => exact absurd rfl h
  | cons x t => exact e.symm
theorem bnd_more {c : Nat} {st st' : List Int} {t : NT} (h : Bnd c st) (hn : nestV st t = some st') : Bnd (c + 1) st' := by
  have up : Bnd (c + 1) st := ⟨by have := h.1; omega, fun x hx => by have := h.2 x hx; omega⟩
  have dl : Bnd (c + 1) st.dropLast := ⟨by have := h.1; simp; omega, fun x hx => up.2 x (List.dropLast_subset st hx)⟩
  have mid : ∀ y, ¬ st = [] → (y = st.getLastD 0 + 1 ∨ y = st.getLastD 0 - 1) → Bnd (c + 1) (st.dropLast ++ [y]) := by
    intro y hne hy
    have hs := last_split st hne
    have hm : st.getLastD 0 ∈ st := by rw [hs]; simp
    have hb := h.2 _ hm
    have hl : st.length = st.dropLast.length + 1 := by
      have := congrArg List.length hs
      simpa using this
    refine ⟨by simp only [List.length_append, List.length_singleton]; have := h.1; omega, fun x hx => ?_⟩
    rcases List.mem_append.1 hx with hx | hx
    · exact dl.2 x hx
    · simp at hx
      subst hx
      omega
  unfold nestV at hn
  split at hn
  · split at hn
    · split at hn
      · cases hn
        refine ⟨by simp; have := h.1; omega, fun x hx => ?_⟩
        rcases List.mem_append.1 hx with hx | hx
        · exact up.2 x hx
        · simp at hx
          subst hx
          omega
      · cases hn; exact up
    · split at hn
      · split at hn
        · cases hn; exact up
        · split at hn
          · cases hn
          · cases hn; exact dl
      · cases hn; exact up
  · split at hn
    · split at hn
      · split at hn
        · cases hn; exact up
        · rename_i hne
          cases hn
          exact mid _ hne (.inl rfl)
      · split at hn
        · split at hn
          · cases hn; exact up
          · rename_i hne
            cases hn
            exact mid _ hne (.inr rfl)
        · cases hn; exact up
    · cases hn; exact up
theorem ba_of {s : ByteArray} {l : List UInt8} (h : s.toList = l) : s = ⟨l.toArray⟩ := by
  rw [ByteArray.toList_eq] at h
  cases s with
  | mk d => subst h; rfl
theorem nest_any (B c : Nat) (u : Value) (st st' : List Int) (t : NT) (w : World) (hB : B ≤ w.heap.size) (h : StkAt w B u st) (hb : Bnd c st) (hc : c ≤ 1000000) (hn : nestV st t = some st') :
    Calls Tryz.prog 29 #[u, .agg #[.int .i64 t.kind, .int .i64 t.a, .int .i64 t.to, .int .i64 t.n, .string t.s, .bool t.line, .bool t.o]] w (NestPost w B u st') := by
  obtain ⟨kd, a, to, n, s, l, o, fa, er⟩ := t
  unfold nestV at hn
  simp only at hn ⊢
  have hlen : st.length ≤ 100000000 := by have := hb.1; omega
  by_cases h6 : kd = 6
  · rw [if_pos h6] at hn
    have b6 : (kd == 6) = true := by simpa using h6
    have b5 : (kd == 5) = false := by rw [h6]; rfl
    by_cases h0 : n = 0
    · rw [if_pos h0] at hn
      have z0 : (n == 0) = true := by simpa using h0
      have z1 : (n == 1) = false := by rw [h0]; rfl
      cases o with
      | true => cases hn; exact nest_push B u st kd a to n s l true w hB h hlen b6 z0 rfl
      | false => cases hn; exact nest_n2 B u st kd a to n s l false w hB h b6 b5 z0 z1 rfl
    · rw [if_neg h0] at hn
      have z0 : (n == 0) = false := by simpa using h0
      by_cases h1 : n = 1
      · rw [if_pos h1] at hn
        have z1 : (n == 1) = true := by simpa using h1
        cases o with
        | true => cases hn; exact nest_n3 B u st kd a to n s l true w hB h b6 b5 z0 z1 rfl
        | false =>
          by_cases hne : st = []
          · simp [hne] at hn
          · simp [hne] at hn
            subst hn
            have hs := last_split st hne
            rw [hs] at h
            exact nest_pop B u st.dropLast kd a to n s l false w hB _ h b6 z0 z1 rfl
      · rw [if_neg h1] at hn
        have z1 : (n == 1) = false := by simpa using h1
        cases hn
        exact nest_n4 B u st kd a to n s l o w hB h b6 b5 z0 z1
  · rw [if_neg h6] at hn
    have b6 : (kd == 6) = false := by simpa using h6
    by_cases h5 : kd = 5
    · rw [if_pos h5] at hn
      have b5 : (kd == 5) = true := by simpa using h5
      by_cases hs1 : s.toList = [123]
      · rw [if_pos hs1] at hn
        by_cases hne : st = []
        · rw [if_pos hne] at hn
          cases hn
          subst hne
          exact nest_e1 B u kd a to n s l o w hB (ba_of hs1) h b6 b5
        · rw [if_neg hne] at hn
          cases hn
          have hs := last_split st hne
          have hm : st.getLastD 0 ∈ st := by rw [hs]; simp
          have hx := hb.2 _ hm
          rw [hs] at h
          exact nest_inc B u st.dropLast kd a to n s l o w hB _ (by omega) (by omega) (ba_of hs1) h b6 b5
      · rw [if_neg hs1] at hn
        have y0 : (s.toList == [123]) = false := by simpa using hs1
        by_cases hs2 : s.toList = [125]
        · rw [if_pos hs2] at hn
          by_cases hne : st = []
          · rw [if_pos hne] at hn
            cases hn
            subst hne
            exact nest_e2 B u kd a to n s l o w hB (ba_of hs2) h b6 b5
          · rw [if_neg hne] at hn
            cases hn
            have hs := last_split st hne
            have hm : st.getLastD 0 ∈ st := by rw [hs]; simp
            have hx := hb.2 _ hm
            rw [hs] at h
            exact nest_dec B u st.dropLast kd a to n s l o w hB _ (by omega) (by omega) (ba_of hs2) h b6 b5
        · rw [if_neg hs2] at hn
          have y1 : (s.toList == [125]) = false := by simpa using hs2
          cases hn
          exact nest_n5 B u st kd a to n s l o w hB h b6 b5 y0 y1
    · rw [if_neg h5] at hn
      have b5 : (kd == 5) = false := by simpa using h5
      cases hn
      exact nest_n1 B u st kd a to n s l o w hB h b6 b5
end Go.Proofs.YthkjdllpgcocpaaGreatDoor
