/-
  The bits of the low words, as plain numbers: what each operator gives, bit by bit.
-/
import Derived.Laws.Entries
namespace Go.Proofs.YtokpmpmlbmpnmaaDoor

def lo (n : Int) : Int := (n + 2147483648) % 4294967296 - 2147483648
def un (x : Int) : Nat := (x % 4294967296).toNat
def bt (X i : Nat) : Nat := X / 2 ^ i % 2
theorem lo_b (n : Int) : -2147483648 ≤ lo n ∧ lo n ≤ 2147483647 := by unfold lo; omega
theorem lo_id (n : Int) (h : -2147483648 ≤ n ∧ n ≤ 2147483647) : lo n = n := by unfold lo; omega
theorem un_lt (x : Int) : un x < 4294967296 := by unfold un; omega
theorem un_id (n : Nat) (h : n < 4294967296) : un n = n := by unfold un; omega
theorem lo_un (x : Int) : lo (un x) = lo x := by unfold lo un; omega
theorem un_lo (x : Int) : un (lo x) = un x := by unfold lo un; omega
theorem un_neg (x : Int) (h : -2147483648 ≤ x) (h' : x ≤ 2147483647) : ((un x : Nat) : Int) = if x < 0 then x + 4294967296 else x := by unfold un; split <;> omega
theorem bt_01 (X i : Nat) : bt X i = 0 ∨ bt X i = 1 := by unfold bt; omega
theorem bt_test (X i : Nat) : X.testBit i = decide (bt X i = 1) := by
  unfold bt
  rw [Nat.testBit_eq_decide_div_mod_eq]
theorem bt_of {X i : Nat} {b : Bool} (h : X.testBit i = b) : bt X i = if b = true then 1 else 0 := by
  rw [bt_test] at h
  rcases bt_01 X i with h' | h' <;> rw [h'] at h ⊢ <;> subst h <;> simp
theorem bt_and (X Y i : Nat) : bt (X &&& Y) i = bt X i * bt Y i := by
  rw [bt_of (Nat.testBit_and X Y i), bt_test X, bt_test Y]
  rcases bt_01 X i with h | h <;> rcases bt_01 Y i with h' | h' <;> rw [h, h'] <;> rfl
theorem bt_or (X Y i : Nat) : bt (X ||| Y) i = max (bt X i) (bt Y i) := by
  rw [bt_of (Nat.testBit_or X Y i), bt_test X, bt_test Y]
  rcases bt_01 X i with h | h <;> rcases bt_01 Y i with h' | h' <;> rw [h, h'] <;> rfl
theorem bt_xor (X Y i : Nat) : bt (X ^^^ Y) i = (bt X i + bt Y i) % 2 := by
  rw [bt_of (Nat.testBit_xor X Y i), bt_test X, bt_test Y]
  rcases bt_01 X i with h | h <;> rcases bt_01 Y i with h' | h' <;> rw [h, h'] <;> rfl
theorem bt_shl (X k i : Nat) (hi : i < 32) : bt (X * 2 ^ k % 4294967296) i = if i < k then 0 else bt X (i - k) := by
  have e : X * 2 ^ k % 4294967296 = (X <<< k) % 2 ^ 32 := by rw [Nat.shiftLeft_eq]
  rw [e, bt_of (Nat.testBit_mod_two_pow _ _ _), Nat.testBit_shiftLeft, bt_test]
  by_cases h : i < k
  · simp [h, Nat.not_le.2 h]
  · rw [if_neg h]
    rcases bt_01 X (i - k) with h' | h' <;> rw [h'] <;> simp [hi] <;> omega
theorem un_bv (z : Int) : un z = (BitVec.ofInt 32 z).toNat := by
  rw [BitVec.toNat_ofInt]
  rfl
/-- the bits of a word shifted to the right, its sign drawn after -/
theorem bt_shr (x : Int) (h0 : -2147483648 ≤ x) (h1 : x ≤ 2147483647) (k i : Nat) (hi : i < 32) : bt (un (x / 2 ^ k)) i = bt (un x) (min (i + k) 31) := by
  have e1 : (BitVec.ofInt 32 x).toInt = x := by
    rw [BitVec.toInt_ofInt]
    simp [Int.bmod]
    omega
  have e2 : BitVec.ofInt 32 (x / 2 ^ k) = (BitVec.ofInt 32 x).sshiftRight k := by
    rw [BitVec.sshiftRight_eq, e1, Int.shiftRight_eq_div_pow]
    simp
  have e3 : (un (x / 2 ^ k)).testBit i = (un x).testBit (min (i + k) 31) := by
    rw [un_bv, un_bv, BitVec.testBit_toNat, BitVec.testBit_toNat, e2, BitVec.getLsbD_sshiftRight]
    by_cases h : k + i < 32
    · rw [show min (i + k) 31 = k + i from by omega]
      simp [h, hi]
    · rw [show min (i + k) 31 = 31 from by omega]
      simp [h, hi, BitVec.msb_eq_getLsbD_last]
  rw [bt_of e3, bt_test]
  rcases bt_01 (un x) (min (i + k) 31) with h | h <;> rw [h] <;> rfl
/-- a number below 2^32 is laid anew out of its bits, the highest first -/
theorem rise (N i : Nat) : N / 2 ^ (i + 1) * 2 + bt N i = N / 2 ^ i := by
  unfold bt
  rw [Nat.pow_succ, ← Nat.div_div_eq_div_mul]
  omega
end Go.Proofs.YtokpmpmlbmpnmaaDoor
