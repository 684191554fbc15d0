/-
  What 'add' does to the builder, at this translation: one byte or escape sequence, for every string and every offset in it, at a builder of at most 65536 bytes that the call itself has made.
-/
import Derived.Test.YthkjdllpgcocpaaGreatDoorEsc
import Derived.Test.YthkjdllpgcocpaaGreatDoorBuild
import Derived.ShutString
namespace Go.Proofs.YthkjdllpgcocpaaGreatDoor
open Go.RowKit

/-- what stands at the head: its byte, how many bytes it takes, the error's number -/
def unitV : List UInt8 → Int × Nat × Int
  | [] => (0, 0, 8)
  | c :: t => if (c.toNat : Int) = 92 then ((esc t).1, (esc t).2.1 + 1, (esc t).2.2) else (c.toNat, 1, 0)
def byt (n : Int) : UInt8 := UInt8.ofNat n.toNat

theorem byt_val (n : Int) (h0 : 0 ≤ n) (h1 : n ≤ 255) : ((byt n).toNat : Int) = n := by
  unfold byt
  rw [UInt8.toNat_ofNat']
  omega
theorem esc_some {c : UInt8} {t : List UInt8} {b : Int} (h : esc1 c.toNat = some b) : esc (c :: t) = (b, 1, 0) := by simp [esc, h]
theorem esc_hex {c : UInt8} {t : List UInt8} (h : (c.toNat : Int) = 120) : esc (c :: t) = hex2 t := by simp [esc, h, esc1]
theorem esc_bad {c : UInt8} {t : List UInt8} (h : esc1 c.toNat = none) (h' : ¬ (c.toNat : Int) = 120) : esc (c :: t) = (0, 0, 21) := by simp [esc, h, h']
theorem unit_esc {c : UInt8} {t : List UInt8} (h : (c.toNat : Int) = 92) : unitV (c :: t) = ((esc t).1, (esc t).2.1 + 1, (esc t).2.2) := by simp [unitV, h]
theorem unit_one {c : UInt8} {t : List UInt8} (h : ¬ (c.toNat : Int) = 92) : unitV (c :: t) = ((c.toNat : Int), 1, 0) := by show (if (c.toNat : Int) = 92 then _ else _) = _; rw [if_neg h]
theorem hex2_b (l : List UInt8) : 0 ≤ (hex2 l).1 ∧ (hex2 l).1 ≤ 255 := by
  match l with
  | [] => simp [hex2]
  | [a] => by_cases h1 : hexV a.toNat = -1 <;> simp [hex2, h1]
  | a :: b :: t =>
    have := hexV_lo a.toNat
    have := hexV_hi a.toNat
    have := hexV_lo b.toNat
    have := hexV_hi b.toNat
    by_cases h1 : hexV a.toNat = -1 <;> by_cases h2 : hexV b.toNat = -1 <;> simp [hex2, h1, h2] <;> omega
theorem esc1_b (x b : Int) (h0 : 0 ≤ x) (h1 : x ≤ 255) (h : esc1 x = some b) : 0 ≤ b ∧ b ≤ 255 := by
  unfold esc1 at h
  repeat' split at h
  all_goals simp at h
  all_goals omega
theorem esc_b (l : List UInt8) : 0 ≤ (esc l).1 ∧ (esc l).1 ≤ 255 := by
  match l with
  | [] => simp [esc]
  | c :: t =>
    have := c.toNat_lt
    by_cases h : (c.toNat : Int) = 120
    · rw [esc_hex h]; exact hex2_b t
    · cases hb : esc1 c.toNat with
      | none => rw [esc_bad hb h]; simp
      | some b => rw [esc_some hb]; exact esc1_b _ _ (by omega) (by omega) hb
theorem unit_b (l : List UInt8) : 0 ≤ (unitV l).1 ∧ (unitV l).1 ≤ 255 := by
  match l with
  | [] => simp [unitV]
  | c :: t =>
    have := c.toNat_lt
    by_cases h : (c.toNat : Int) = 92
    · rw [unit_esc h]; exact esc_b t
    · rw [unit_one h]; simp; omega
theorem hex2_n (l : List UInt8) : (hex2 l).2.1 ≤ 3 := by
  match l with
  | [] => simp [hex2]
  | [a] => by_cases h1 : hexV a.toNat = -1 <;> simp [hex2, h1]
  | a :: b :: t => by_cases h1 : hexV a.toNat = -1 <;> by_cases h2 : hexV b.toNat = -1 <;> simp [hex2, h1, h2]
theorem hex2_len (l : List UInt8) (h : (hex2 l).2.2 = 0) : 2 ≤ l.length := by
  match l with
  | [] => simp [hex2] at h
  | [a] => by_cases h1 : hexV a.toNat = -1 <;> simp [hex2, h1] at h
  | a :: b :: t => simp
theorem esc_len (l : List UInt8) (h : (esc l).2.2 = 0) : (esc l).2.1 ≤ l.length ∧ 1 ≤ (esc l).2.1 := by
  match l with
  | [] => simp [esc] at h
  | c :: t =>
    by_cases h1 : (c.toNat : Int) = 120
    · rw [esc_hex h1] at h ⊢
      have := hex2_w t h
      have := hex2_len t h
      simp only [List.length_cons]; omega
    · cases hb : esc1 c.toNat with
      | none => rw [esc_bad hb h1] at h; simp at h
      | some b => rw [esc_some hb]; simp
theorem unit_len (l : List UInt8) (h : (unitV l).2.2 = 0) : (unitV l).2.1 ≤ l.length ∧ 1 ≤ (unitV l).2.1 := by
  match l with
  | [] => simp [unitV] at h
  | c :: t =>
    by_cases h1 : (c.toNat : Int) = 92
    · rw [unit_esc h1] at h ⊢
      have := esc_len t h
      simp only [List.length_cons]; omega
    · rw [unit_one h1]; simp

theorem escR_ok {k : Nat} {r : Int × Nat × Int} (h : r.2.2 = 0) : escR k r = .returned (.tuple #[.int .u8 r.1, .int .i64 ((k : Int) + r.2.1), .int .i64 0]) := by
  simp [escR, h]
theorem escR_err {k : Nat} {r : Int × Nat × Int} (h : ¬ r.2.2 = 0) : escR k r = .returned (.tuple #[.int .u8 r.1, .int .i64 0, .int .i64 r.2.2]) := by
  simp [escR, h]

theorem bc_snoc (out : List UInt8) (n : Int) (h0 : 0 ≤ n) (h1 : n ≤ 255) : Lib.byteCells (out ++ [byt n]) = Lib.byteCells out ++ [.int .u8 n] := by
  rw [Lib.byteCells_append]
  simp [Lib.byteCells, byt_val n h0 h1]

set_option maxHeartbeats 1000000 in
theorem add_err (s : ByteArray) (k : Nat) (b : Nat) (w : World) (hs : s.size ≤ 4000000) (hk : k < s.size) (he : ¬ (unitV (s.data.toList.drop k)).2.2 = 0) :
    Calls Tryz.prog 153 #[.pointer (some ⟨b, 0, none⟩), .string s, .int .i64 k] w fun e w' => e = .returned (.tuple #[.int .i64 0, .int .i64 (unitV (s.data.toList.drop k)).2.2]) ∧ w = w' := by
  obtain ⟨x, hx⟩ : ∃ x : UInt8, s[k] = x := ⟨_, rfl⟩
  rw [drop_at s k hk, hx] at he ⊢
  by_cases h92 : (x.toNat : Int) = 92
  · have e2 : (unitV (x :: s.data.toList.drop (k + 1))).2.2 = (esc (s.data.toList.drop (k + 1))).2.2 := by simp [unitV, h92]
    rw [e2] at he ⊢
    have H := escape_any s (k + 1) w hs (by omega)
    rw [escR_err he] at H
    have e1 : ((k + 1 : Nat) : Int) = (k : Int) + 1 := by omega
    rw [e1] at H
    clear e1 e2
    obtain ⟨re, hre⟩ : ∃ re, re = (esc (s.data.toList.drop (k + 1))).2.2 := ⟨_, rfl⟩
    obtain ⟨rb, hrb⟩ : ∃ rb, rb = (esc (s.data.toList.drop (k + 1))).1 := ⟨_, rfl⟩
    rw [← hre, ← hrb] at H
    rw [← hre] at he ⊢
    clear hre hrb
    have hne : (re != 0) = true := by simpa using he
    have h92b : ((x.toNat : Int) == 92) = true := by simpa using h92
    clear h92 he
    go_enter Tryz.func153, Tryz.ntmps153
    go_wp2_with (go_at_call 178; refine H.mono ?_; rintro e w' ⟨rfl, rfl⟩)
    go_ret2
    exact ⟨rfl, rfl⟩
  · simp [unitV, h92] at he

theorem hs_len (out : List UInt8) : (Lib.byteCells out).length = out.length := Lib.byteCells_length out

set_option maxHeartbeats 1000000 in
theorem add_long (s : ByteArray) (k : Nat) (B b : Nat) (out : List UInt8) (w : World) (hs : s.size ≤ 4000000) (hk : k < s.size) (he : (unitV (s.data.toList.drop k)).2.2 = 0) (hB : Lib.IsBuilder 53 5 B b (Lib.byteCells out) w) (ho : out.length = 65536) :
    Calls Tryz.prog 153 #[.pointer (some ⟨b, 0, none⟩), .string s, .int .i64 k] w fun e w' => e = .returned (.tuple #[.int .i64 0, .int .i64 9]) ∧ w = w' := by
  obtain ⟨x, hx⟩ : ∃ x : UInt8, s[k] = x := ⟨_, rfl⟩
  rw [drop_at s k hk, hx] at he
  have L := Tryz.Builder_Len B b _ w hB
  rw [hs_len, ho] at L
  clear ho
  by_cases h92 : (x.toNat : Int) = 92
  · have e2 : (unitV (x :: s.data.toList.drop (k + 1))).2.2 = (esc (s.data.toList.drop (k + 1))).2.2 := by simp [unitV, h92]
    rw [e2] at he
    have H := escape_any s (k + 1) w hs (by omega)
    rw [escR_ok he] at H
    have e1 : ((k + 1 : Nat) : Int) = (k : Int) + 1 := by omega
    rw [e1] at H
    clear e1 e2
    obtain ⟨rn, hrn⟩ : ∃ rn : Int, rn = (k : Int) + 1 + ((esc (s.data.toList.drop (k + 1))).2.1 : Nat) := ⟨_, rfl⟩
    obtain ⟨rb, hrb⟩ : ∃ rb, rb = (esc (s.data.toList.drop (k + 1))).1 := ⟨_, rfl⟩
    rw [← hrn, ← hrb] at H
    clear hrn hrb he
    have h92b : ((x.toNat : Int) == 92) = true := by simpa using h92
    clear h92
    go_enter Tryz.func153, Tryz.ntmps153
    go_wp2_with (first | (go_at_call 178; refine H.mono ?_; rintro e w' ⟨rfl, rfl⟩) | (go_at_call 179; refine L.mono ?_; rintro e w' ⟨rfl, hw⟩; subst hw))
    go_ret2
    exact ⟨rfl, rfl⟩
  · have h92b : ((x.toNat : Int) == 92) = false := by simpa using h92
    clear h92 he
    go_enter Tryz.func153, Tryz.ntmps153
    go_wp2_with (go_at_call 179; refine L.mono ?_; rintro e w' ⟨rfl, hw⟩; subst hw)
    go_ret2
    exact ⟨rfl, rfl⟩

set_option maxHeartbeats 1000000 in
theorem add_ok (s : ByteArray) (k : Nat) (B b : Nat) (out : List UInt8) (w : World) (hs : s.size ≤ 4000000) (hk : k < s.size) (he : (unitV (s.data.toList.drop k)).2.2 = 0) (hB : Lib.IsBuilder 53 5 B b (Lib.byteCells out) w) (ho : out.length < 65536) (hBw : B ≤ w.heap.size) :
    Calls Tryz.prog 153 #[.pointer (some ⟨b, 0, none⟩), .string s, .int .i64 k] w fun e w' => e = .returned (.tuple #[.int .i64 ((k : Int) + ((unitV (s.data.toList.drop k)).2.1 : Nat)), .int .i64 0]) ∧ Lib.IsBuilder 53 5 B b (Lib.byteCells (out ++ [byt (unitV (s.data.toList.drop k)).1])) w' ∧ Below B w w' := by
  have ub := unit_b (s.data.toList.drop k)
  rw [bc_snoc _ _ ub.1 ub.2]
  clear ub
  obtain ⟨x, hx⟩ : ∃ x : UInt8, s[k] = x := ⟨_, rfl⟩
  rw [drop_at s k hk, hx] at he ⊢
  have L := Tryz.Builder_Len B b _ w hB
  rw [hs_len] at L
  have hlen : (Lib.byteCells out).length + 1 ≤ 140737488355328 := by rw [hs_len]; omega
  have hne : ((out.length : Int) == 65536) = false := by rw [beq_eq_false_iff_ne]; omega
  by_cases h92 : (x.toNat : Int) = 92
  · rw [unit_esc h92] at he ⊢
    have he1 : (esc (s.data.toList.drop (k + 1))).2.2 = 0 := he
    have H := escape_any s (k + 1) w hs (by omega)
    rw [escR_ok he1] at H
    clear he1
    have e1 : ((k + 1 : Nat) : Int) = (k : Int) + 1 := by omega
    rw [e1] at H
    clear e1
    obtain ⟨rn, hrn⟩ : ∃ rn : Int, rn = (k : Int) + 1 + ((esc (s.data.toList.drop (k + 1))).2.1 : Nat) := ⟨_, rfl⟩
    have e3 : (k : Int) + (((esc (s.data.toList.drop (k + 1))).2.1 + 1 : Nat) : Int) = rn := by omega
    obtain ⟨rb, hrb⟩ : ∃ rb, rb = (esc (s.data.toList.drop (k + 1))).1 := ⟨_, rfl⟩
    rw [← hrn, ← hrb] at H
    simp only [e3, ← hrb]
    clear hrn hrb he e3
    have h92b : ((x.toNat : Int) == 92) = true := by simpa using h92
    clear h92
    have W := writeByte_any B b _ rb w hB hlen hBw
    go_enter Tryz.func153, Tryz.ntmps153
    go_wp2_with (first | (go_at_call 178; refine H.mono ?_; rintro e w' ⟨rfl, rfl⟩) | (go_at_call 179; refine L.mono ?_; rintro e w' ⟨rfl, hw⟩; subst hw) | (go_at_call 25; refine W.mono ?_; rintro e w' ⟨rfl, hw1, hw2⟩))
    go_ret2
    exact ⟨rfl, Or.inr hw1, hw2⟩
  · rw [unit_one h92]
    have h92b : ((x.toNat : Int) == 92) = false := by simpa using h92
    clear h92 he
    have W := writeByte_any B b _ (x.toNat : Int) w hB hlen hBw
    go_enter Tryz.func153, Tryz.ntmps153
    go_wp2_with (first | (go_at_call 179; refine L.mono ?_; rintro e w' ⟨rfl, hw⟩; subst hw) | (go_at_call 25; refine W.mono ?_; rintro e w' ⟨rfl, hw1, hw2⟩))
    go_ret2
    exact ⟨rfl, Or.inr hw1, hw2⟩

end Go.Proofs.YthkjdllpgcocpaaGreatDoor
