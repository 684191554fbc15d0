/-
  What a piece and a closing brace say of the tail, and a step of All's nesting by both counts.
-/
import Derived.Test.YtjbnobcnlmkbmaaDoorTStk
namespace Go.Proofs.YtjbnobcnlmkbmaaDoor
open Go.RowKit

theorem read_six (s : ByteArray) (k : Nat) (tail : Bool) (hk : k < s.size) : ((readT s k tail).kind = 6 → (readT s k tail).n = 0 ∨ (readT s k tail).n = 1) ∧ ((readT s k tail).kind = 5 → (readT s k tail).s.toList = [125] → tail = false) := by
  obtain ⟨c, hc⟩ : ∃ c : UInt8, s[k] = c := ⟨_, rfl⟩
  rw [readT_at s k tail c hk hc]
  unfold readC
  by_cases h1 : letB c.toNat = true
  · rw [if_pos h1]
    unfold nameT
    simp only
    constructor
    · intro h; split at h <;> simp at h
    · intro h; split at h <;> simp at h
  · rw [if_neg h1]
    by_cases h2 : digB c.toNat = true
    · rw [if_pos h2, numT_eq]
      unfold nmR
      split
      · simp [noT]
      · split <;> simp [noT]
    · rw [if_neg h2]
      by_cases h3 : (c.toNat : Int) = 39 ∨ (c.toNat : Int) = 34
      · rw [if_pos h3]
        unfold textT
        split <;> simp [noT]
      · rw [if_neg h3]
        by_cases h4 : (c.toNat : Int) = 96 ∨ ((c.toNat : Int) = 125 ∧ tail = true)
        · rw [if_pos h4]
          unfold pieceT
          split
          · refine ⟨fun _ => ?_, fun h => by simp at h⟩
            simp only
            split
            · exact Or.inr rfl
            · exact Or.inl rfl
          · simp [noT]
        · rw [if_neg h4, signT_eq]
          cases hf : sgnL.find? (okS (s.data.toList.drop k)) with
          | none => simp [sgR, noT]
          | some q =>
            refine ⟨fun h => by simp [sgR] at h, fun _ h => ?_⟩
            have hq : q = [125] := by
              have : (⟨q.toArray⟩ : ByteArray).toList = [125] := h
              rw [ba_ls] at this
              exact this
            have h6 := List.find?_some hf
            have h7 : Lib.hasPrefix (s.data.toList.drop k) q = true := by
              unfold okS at h6
              simp only [Bool.and_eq_true] at h6
              exact h6.1
            rw [hq, drop_cons s k hk, hc] at h7
            have h8 : c = 125 := by
              simp [Lib.hasPrefix, List.isPrefixOf] at h7
              exact h7.symm
            cases tail with
            | false => rfl
            | true => exact absurd (Or.inr ⟨by rw [h8]; rfl, rfl⟩) h4
theorem nx_six (s : ByteArray) (p : Nat) (tail : Bool) (hs : s.size ≤ 65536) (hp : p ≤ s.size) :
    ((nxT s p tail).kind = 6 → (nxT s p tail).n = 0 ∨ (nxT s p tail).n = 1) ∧ ((nxT s p tail).kind = 5 → (nxT s p tail).s.toList = [125] → tail = false) := by
  unfold nxT
  rw [if_neg (by omega), if_neg (by omega), Int.toNat_natCast]
  generalize gapV (s.size + 1) (s.data.toList.drop p) p = g
  obtain ⟨f, er⟩ := g
  unfold nxG
  simp only
  split
  · split
    · simp only
      by_cases hf : f < s.size
      · exact read_six s f tail hf
      · rw [readT_end s f tail (by omega)]
        simp
    · simp [noN]
  · simp [noN]
theorem rel_next {s : ByteArray} {p : Nat} {st st' : List Int} {ob : List Bool} (hs : s.size ≤ 65536) (hp : p ≤ s.size) (h : RelS st ob) (he : (nxT s p (tailV st)).err = 0) (hk : ¬ (nxT s p (tailV st)).kind = 0) (hn : nestV st (nxT s p (tailV st)) = some st') :
    RelS st' (opR ob (nxT s p (tailV st))) :=
  rel_step h hn (nx_in s p (tailV st) hs hp he hk).2.2 (nx_six s p (tailV st) hs hp).1 (nx_six s p (tailV st) hs hp).2
end Go.Proofs.YtjbnobcnlmkbmaaDoor
