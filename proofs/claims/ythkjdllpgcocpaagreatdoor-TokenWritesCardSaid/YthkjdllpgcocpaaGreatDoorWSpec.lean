/-
  P3.3 and P3.4 as plain functions of bytes: the text of one token, and of a list of tokens.
-/
import Derived.Test.YthkjdllpgcocpaaGreatDoorQuote
import Derived.Test.YthkjdllpgcocpaaGreatDoorTTok
import Derived.Lib.ItoaMem
namespace Go.Proofs.YthkjdllpgcocpaaGreatDoor
open Go.RowKit

/-- how one byte stands where the bytes of m are marked by a backslash -/
def wI (m : List Int) (c : Int) : List Int := if c ∈ m then [92, c] else if c = 10 then [92, 110] else if c = 9 then [92, 116] else if c = 13 then [92, 114] else if c = 0 then [92, 48] else if c < 32 ∨ 126 < c then [92, 120, hexD (c / 16), hexD (c % 16)] else [c]
def wL (m : List Int) (l : List UInt8) : List UInt8 := l.flatMap fun c => (wI m c.toNat).map byt
/-- how the program writes one byte of a piece -/
def pI (c : Int) : List Int := if c = 96 ∨ c = 36 then [92, c] else if c = 34 then [34] else qI c
def mkT : List Int := [34, 92]
def mkP : List Int := [96, 36, 92]
theorem wI_qF : ∀ n : Fin 256, wI mkT n.val = qI n.val := by decide +kernel
theorem wI_pF : ∀ n : Fin 256, wI mkP n.val = pI n.val := by decide +kernel
theorem wI_q (c : UInt8) : wI mkT c.toNat = qI c.toNat := wI_qF ⟨c.toNat, c.toNat_lt⟩
theorem wI_p (c : UInt8) : wI mkP c.toNat = pI c.toNat := wI_pF ⟨c.toNat, c.toNat_lt⟩
theorem wL_q (l : List UInt8) : wL mkT l = qL l := by
  unfold wL qL
  congr 1
  funext c
  rw [wI_q]
/-- the text of one token: kind, number, text, open -/
def tkV (k n : Int) (s : ByteArray) (o : Bool) : List UInt8 :=
  if k = 1 ∨ k = 2 ∨ k = 5 then s.data.toList else if k = 3 then Lib.itoa n else if k = 4 then 34 :: (wL mkT s.data.toList ++ [34]) else if k = 6 then (if n = 1 then 125 else 96) :: (wL mkP s.data.toList ++ (if o then [36, 123] else [96])) else []
theorem wI_len (m : List Int) (c : Int) : (wI m c).length ≤ 4 := by
  unfold wI
  by_cases h0 : c ∈ m
  · rw [if_pos h0]; simp
  rw [if_neg h0]
  by_cases h1 : c = 10
  · rw [if_pos h1]; simp
  rw [if_neg h1]
  by_cases h2 : c = 9
  · rw [if_pos h2]; simp
  rw [if_neg h2]
  by_cases h3 : c = 13
  · rw [if_pos h3]; simp
  rw [if_neg h3]
  by_cases h4 : c = 0
  · rw [if_pos h4]; simp
  rw [if_neg h4]
  by_cases h5 : c < 32 ∨ 126 < c
  · rw [if_pos h5]; simp
  rw [if_neg h5]
  simp
theorem wL_len (m : List Int) (l : List UInt8) : (wL m l).length ≤ 4 * l.length := by
  induction l with
  | nil => simp [wL]
  | cons c l ih =>
    have := wI_len m c.toNat
    simp only [wL, List.flatMap_cons, List.length_append, List.length_map, List.length_cons] at ih ⊢
    omega
theorem wL_snoc (m : List Int) (l : List UInt8) (c : UInt8) : wL m (l ++ [c]) = wL m l ++ (wI m c.toNat).map byt := by simp [wL]
end Go.Proofs.YthkjdllpgcocpaaGreatDoor
