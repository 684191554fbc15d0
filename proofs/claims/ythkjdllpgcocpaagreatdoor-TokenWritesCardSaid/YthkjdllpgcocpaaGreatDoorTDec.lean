/-
  Whether a text holds a line terminator: strings.ContainsAny with these two bytes, for every text, whatever its bytes, at this translation.
-/
import Derived.Test.YthkjdllpgcocpaaGreatDoorTGap
import Derived.Handy
import Derived.Laws.RangeAny
import Derived.Laws.Runes
import Derived.WalkMore
import Derived.Deep.LoopGhost
import Derived.Deep.QuietTactic
import Derived.BigQuiet
import Derived.Lib.IndexAny
namespace Go.Proofs.YthkjdllpgcocpaaGreatDoor
open Go.RowKit

/-- the bytes of a code point of more than one byte are all above 127, and lie within the text -/
theorem dec_tail (s : ByteArray) (pos : Nat) (h : pos < s.size) (ha : 128 ≤ (s[pos]'h).toNat) :
    pos + (Utf8.decode s pos).2 ≤ s.size ∧ ∀ j, pos ≤ j → j < pos + (Utf8.decode s pos).2 → 128 ≤ (s.get! j).toNat := by
  have hn : ¬ (s[pos]'h).toNat < 128 := by omega
  have hg : s.get! pos = s[pos]'h := get_at s pos h
  have h0 : 128 ≤ (s.get! pos).toNat := by rw [hg]; exact ha
  simp only [Utf8.decode, get_at s pos h, hn, if_false]
  have one : pos + 1 ≤ s.size ∧ ∀ j, pos ≤ j → j < pos + 1 → 128 ≤ (s.get! j).toNat := by
    refine ⟨by omega, fun j h1 h2 => ?_⟩
    obtain rfl : j = pos := by omega
    exact h0
  split
  · rename_i hc
    simp at hc
    split
    · refine ⟨by simp; omega, fun j h1 h2 => ?_⟩
      simp at h2
      have e : j = pos ∨ j = pos + 1 := by omega
      rcases e with rfl | rfl
      · exact h0
      · omega
    · exact one
  · split
    · rename_i hc
      simp at hc
      split
      · refine ⟨by simp; omega, fun j h1 h2 => ?_⟩
        simp at h2
        have e : j = pos ∨ j = pos + 1 ∨ j = pos + 2 := by omega
        rcases e with rfl | rfl | rfl
        · exact h0
        · omega
        · omega
      · exact one
    · split
      · rename_i hc
        simp at hc
        split
        · refine ⟨by simp; omega, fun j h1 h2 => ?_⟩
          simp at h2
          have e : j = pos ∨ j = pos + 1 ∨ j = pos + 2 ∨ j = pos + 3 := by omega
          rcases e with rfl | rfl | rfl | rfl
          · exact h0
          · omega
          · omega
          · omega
        · exact one
      · exact one
def nlC : List UInt8 := [10, 13]
theorem nl_high {b : UInt8} (h : 128 ≤ b.toNat) : nlC.contains b = false := by
  have h1 : ¬ b = 10 := by rintro rfl; revert h; decide
  have h2 : ¬ b = 13 := by rintro rfl; revert h; decide
  simp [nlC, h1, h2]
theorem noany_more {s : ByteArray} {i n : Nat} (h : Lib.NoAny s.data.toList nlC i) (hb : ∀ j, i ≤ j → j < i + n → 128 ≤ (s.get! j).toNat) (hs : i + n ≤ s.size) : Lib.NoAny s.data.toList nlC (i + n) := by
  intro j b hj hx
  by_cases hji : j < i
  · exact h j b hji hx
  · have h1 := hb j (by omega) hj
    have h2 : s.get! j = b := by
      have hjs : j < s.size := by omega
      have e : s.data.toList[j]? = some s[j] := by
        rw [List.getElem?_eq_getElem (by simpa using hjs)]
        rfl
      rw [e] at hx
      have := get_at s j hjs
      rw [Nat.add_zero] at this
      rw [this]
      exact Option.some.inj hx
    exact nl_high (h2 ▸ h1)
def nlL (l : List UInt8) : Bool := decide (0 ≤ Lib.indexAny l nlC)

theorem enc_2 (r : Int) (h0 : 128 ≤ r) (h1 : r < 2048) : (Utf8.encode r).size = 2 ∧ ∀ h : 1 < (Utf8.encode r).size, 128 ≤ ((Utf8.encode r)[1]).toNat := by
  have hv : Utf8.valid r = true := by simp [Utf8.valid]; omega
  have c1 : ¬ r.toNat < 128 := by omega
  have c2 : r.toNat < 2048 := by omega
  have e : Utf8.encode r = ⟨#[UInt8.ofNat (192 + r.toNat / 64), UInt8.ofNat (128 + r.toNat % 64)]⟩ := by
    simp [Utf8.encode, hv, c1, c2]
  rw [e]
  refine ⟨rfl, fun _ => ?_⟩
  show 128 ≤ (UInt8.ofNat (128 + r.toNat % 64)).toNat
  simp
  omega
theorem enc_3 (r : Int) (h0 : 2048 ≤ r) (h1 : Lib.validRune r = true) : 3 ≤ (Utf8.encode r).size ∧ (Utf8.encode r).size ≤ 4 := by
  have hv : Utf8.valid r = true := by simp [Lib.validRune] at h1; simp [Utf8.valid]; omega
  have c1 : ¬ r.toNat < 128 := by omega
  have c2 : ¬ r.toNat < 2048 := by omega
  by_cases c3 : r.toNat < 65536
  · have e : Utf8.encode r = ⟨#[UInt8.ofNat (224 + r.toNat / 4096), UInt8.ofNat (128 + r.toNat / 64 % 64), UInt8.ofNat (128 + r.toNat % 64)]⟩ := by
      simp [Utf8.encode, hv, c1, c2, c3]
    rw [e]
    show 3 ≤ 3 ∧ 3 ≤ 4
    omega
  · have e : Utf8.encode r = ⟨#[UInt8.ofNat (240 + r.toNat / 262144), UInt8.ofNat (128 + r.toNat / 4096 % 64), UInt8.ofNat (128 + r.toNat / 64 % 64), UInt8.ofNat (128 + r.toNat % 64)]⟩ := by
      simp [Utf8.encode, hv, c1, c2, c3]
    rw [e]
    show 3 ≤ 4 ∧ 4 ≤ 4
    omega
end Go.Proofs.YthkjdllpgcocpaaGreatDoor
