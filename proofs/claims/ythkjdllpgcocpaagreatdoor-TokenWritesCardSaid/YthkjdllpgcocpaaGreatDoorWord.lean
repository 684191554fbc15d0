/-
  What literal.Word answers at this translation: for every string of at most 4000000 bytes.
-/
import Derived.Test.YthkjdllpgcocpaaGreatDoorWord1
import Derived.Test.YthkjdllpgcocpaaGreatDoorWord2
import Derived.Test.YthkjdllpgcocpaaGreatDoorWord3
import Derived.Lib.IndexBytes
namespace Go.Proofs.YthkjdllpgcocpaaGreatDoor
open Go.RowKit

def W1 : List (List UInt8) := [[98, 114, 101, 97, 107], [99, 97, 115, 101], [99, 97, 116, 99, 104], [99, 108, 97, 115, 115], [99, 111, 110, 115, 116], [99, 111, 110, 116, 105, 110, 117, 101], [100, 101, 98, 117, 103, 103, 101, 114], [100, 101, 102, 97, 117, 108, 116], [100, 101, 108, 101, 116, 101], [100, 111], [101, 108, 115, 101], [101, 110, 117, 109], [101, 120, 112, 111, 114, 116], [101, 120, 116, 101, 110, 100, 115], [102, 97, 108, 115, 101], [102, 105, 110, 97, 108, 108, 121], [102, 111, 114], [102, 117, 110, 99, 116, 105, 111, 110], [105, 102], [105, 109, 112, 111, 114, 116], [105, 110], [105, 110, 115, 116, 97, 110, 99, 101, 111, 102], [110, 101, 119], [110, 117, 108, 108], [114, 101, 116, 117, 114, 110], [115, 117, 112, 101, 114], [115, 119, 105, 116, 99, 104], [116, 104, 105, 115], [116, 104, 114, 111, 119], [116, 114, 117, 101], [116, 114, 121], [116, 121, 112, 101, 111, 102], [118, 97, 114], [118, 111, 105, 100], [119, 104, 105, 108, 101], [119, 105, 116, 104]]
def W2 : List (List UInt8) := [[105, 109, 112, 108, 101, 109, 101, 110, 116, 115], [105, 110, 116, 101, 114, 102, 97, 99, 101], [108, 101, 116], [112, 97, 99, 107, 97, 103, 101], [112, 114, 105, 118, 97, 116, 101], [112, 114, 111, 116, 101, 99, 116, 101, 100], [112, 117, 98, 108, 105, 99], [115, 116, 97, 116, 105, 99], [121, 105, 101, 108, 100]]
def wordI (l : List UInt8) : Int := if W1.any (fun x => x == l) = true then 1 else if W2.any (fun x => x == l) = true then 2 else 0

theorem ba_eq {s : ByteArray} {l : List UInt8} (h : l = s.data.toList) : s = ⟨l.toArray⟩ := by
  obtain ⟨d⟩ := s
  simp only at h
  rw [h]
theorem no_word {s : ByteArray} {l : List UInt8} (h : (l == s.data.toList) = false) : (s.toList == l) = false := by
  rw [Lib.toList_data]
  rw [beq_eq_false_iff_ne] at h ⊢
  exact fun e => h e.symm

set_option maxHeartbeats 4000000 in
set_option maxRecDepth 100000 in
theorem word_none (s : ByteArray) (w : World) (h0 : (s.toList == [98, 114, 101, 97, 107]) = false) (h1 : (s.toList == [99, 97, 115, 101]) = false) (h2 : (s.toList == [99, 97, 116, 99, 104]) = false) (h3 : (s.toList == [99, 108, 97, 115, 115]) = false) (h4 : (s.toList == [99, 111, 110, 115, 116]) = false) (h5 : (s.toList == [99, 111, 110, 116, 105, 110, 117, 101]) = false) (h6 : (s.toList == [100, 101, 98, 117, 103, 103, 101, 114]) = false) (h7 : (s.toList == [100, 101, 102, 97, 117, 108, 116]) = false) (h8 : (s.toList == [100, 101, 108, 101, 116, 101]) = false) (h9 : (s.toList == [100, 111]) = false) (h10 : (s.toList == [101, 108, 115, 101]) = false) (h11 : (s.toList == [101, 110, 117, 109]) = false) (h12 : (s.toList == [101, 120, 112, 111, 114, 116]) = false) (h13 : (s.toList == [101, 120, 116, 101, 110, 100, 115]) = false) (h14 : (s.toList == [102, 97, 108, 115, 101]) = false) (h15 : (s.toList == [102, 105, 110, 97, 108, 108, 121]) = false) (h16 : (s.toList == [102, 111, 114]) = false) (h17 : (s.toList == [102, 117, 110, 99, 116, 105, 111, 110]) = false) (h18 : (s.toList == [105, 102]) = false) (h19 : (s.toList == [105, 109, 112, 111, 114, 116]) = false) (h20 : (s.toList == [105, 110]) = false) (h21 : (s.toList == [105, 110, 115, 116, 97, 110, 99, 101, 111, 102]) = false) (h22 : (s.toList == [110, 101, 119]) = false) (h23 : (s.toList == [110, 117, 108, 108]) = false) (h24 : (s.toList == [114, 101, 116, 117, 114, 110]) = false) (h25 : (s.toList == [115, 117, 112, 101, 114]) = false) (h26 : (s.toList == [115, 119, 105, 116, 99, 104]) = false) (h27 : (s.toList == [116, 104, 105, 115]) = false) (h28 : (s.toList == [116, 104, 114, 111, 119]) = false) (h29 : (s.toList == [116, 114, 117, 101]) = false) (h30 : (s.toList == [116, 114, 121]) = false) (h31 : (s.toList == [116, 121, 112, 101, 111, 102]) = false) (h32 : (s.toList == [118, 97, 114]) = false) (h33 : (s.toList == [118, 111, 105, 100]) = false) (h34 : (s.toList == [119, 104, 105, 108, 101]) = false) (h35 : (s.toList == [119, 105, 116, 104]) = false) (h36 : (s.toList == [105, 109, 112, 108, 101, 109, 101, 110, 116, 115]) = false) (h37 : (s.toList == [105, 110, 116, 101, 114, 102, 97, 99, 101]) = false) (h38 : (s.toList == [108, 101, 116]) = false) (h39 : (s.toList == [112, 97, 99, 107, 97, 103, 101]) = false) (h40 : (s.toList == [112, 114, 105, 118, 97, 116, 101]) = false) (h41 : (s.toList == [112, 114, 111, 116, 101, 99, 116, 101, 100]) = false) (h42 : (s.toList == [112, 117, 98, 108, 105, 99]) = false) (h43 : (s.toList == [115, 116, 97, 116, 105, 99]) = false) (h44 : (s.toList == [121, 105, 101, 108, 100]) = false) :
    Calls Tryz.prog 99 #[.string s] w fun e w' => e = .returned (.int .i64 0) ∧ w = w' := by
  go_enter Tryz.func99, Tryz.ntmps99
  go_wp2
  go_ret
  exact ⟨rfl, rfl⟩

set_option maxRecDepth 100000 in
theorem word_any (s : ByteArray) (w : World) : Calls Tryz.prog 99 #[.string s] w fun e w' => e = .returned (.int .i64 (wordI s.data.toList)) ∧ w = w' := by
  by_cases h1 : W1.any (fun x => x == s.data.toList) = true
  · have e : wordI s.data.toList = 1 := by unfold wordI; rw [if_pos h1]
    rw [e]
    simp only [W1, List.any_cons, List.any_nil, Bool.or_false, Bool.or_eq_true, beq_iff_eq] at h1
    rcases h1 with h | h | h | h | h | h | h | h | h | h | h | h | h | h | h | h | h | h | h | h | h | h | h | h | h | h | h | h | h | h | h | h | h | h | h | h
    · rw [ba_eq h]; exact word_at0 w
    · rw [ba_eq h]; exact word_at1 w
    · rw [ba_eq h]; exact word_at2 w
    · rw [ba_eq h]; exact word_at3 w
    · rw [ba_eq h]; exact word_at4 w
    · rw [ba_eq h]; exact word_at5 w
    · rw [ba_eq h]; exact word_at6 w
    · rw [ba_eq h]; exact word_at7 w
    · rw [ba_eq h]; exact word_at8 w
    · rw [ba_eq h]; exact word_at9 w
    · rw [ba_eq h]; exact word_at10 w
    · rw [ba_eq h]; exact word_at11 w
    · rw [ba_eq h]; exact word_at12 w
    · rw [ba_eq h]; exact word_at13 w
    · rw [ba_eq h]; exact word_at14 w
    · rw [ba_eq h]; exact word_at15 w
    · rw [ba_eq h]; exact word_at16 w
    · rw [ba_eq h]; exact word_at17 w
    · rw [ba_eq h]; exact word_at18 w
    · rw [ba_eq h]; exact word_at19 w
    · rw [ba_eq h]; exact word_at20 w
    · rw [ba_eq h]; exact word_at21 w
    · rw [ba_eq h]; exact word_at22 w
    · rw [ba_eq h]; exact word_at23 w
    · rw [ba_eq h]; exact word_at24 w
    · rw [ba_eq h]; exact word_at25 w
    · rw [ba_eq h]; exact word_at26 w
    · rw [ba_eq h]; exact word_at27 w
    · rw [ba_eq h]; exact word_at28 w
    · rw [ba_eq h]; exact word_at29 w
    · rw [ba_eq h]; exact word_at30 w
    · rw [ba_eq h]; exact word_at31 w
    · rw [ba_eq h]; exact word_at32 w
    · rw [ba_eq h]; exact word_at33 w
    · rw [ba_eq h]; exact word_at34 w
    · rw [ba_eq h]; exact word_at35 w
  · by_cases h2 : W2.any (fun x => x == s.data.toList) = true
    · have e : wordI s.data.toList = 2 := by unfold wordI; rw [if_neg h1, if_pos h2]
      rw [e]
      simp only [W2, List.any_cons, List.any_nil, Bool.or_false, Bool.or_eq_true, beq_iff_eq] at h2
      rcases h2 with h | h | h | h | h | h | h | h | h
      · rw [ba_eq h]; exact word_at36 w
      · rw [ba_eq h]; exact word_at37 w
      · rw [ba_eq h]; exact word_at38 w
      · rw [ba_eq h]; exact word_at39 w
      · rw [ba_eq h]; exact word_at40 w
      · rw [ba_eq h]; exact word_at41 w
      · rw [ba_eq h]; exact word_at42 w
      · rw [ba_eq h]; exact word_at43 w
      · rw [ba_eq h]; exact word_at44 w
    · have e : wordI s.data.toList = 0 := by unfold wordI; rw [if_neg h1, if_neg h2]
      rw [e]
      simp only [W1, List.any_cons, List.any_nil, Bool.or_false, Bool.or_eq_true, not_or, Bool.not_eq_true] at h1
      simp only [W2, List.any_cons, List.any_nil, Bool.or_false, Bool.or_eq_true, not_or, Bool.not_eq_true] at h2
      obtain ⟨a0, a1, a2, a3, a4, a5, a6, a7, a8, a9, a10, a11, a12, a13, a14, a15, a16, a17, a18, a19, a20, a21, a22, a23, a24, a25, a26, a27, a28, a29, a30, a31, a32, a33, a34, a35⟩ := h1
      obtain ⟨a36, a37, a38, a39, a40, a41, a42, a43, a44⟩ := h2
      exact word_none s w (no_word a0) (no_word a1) (no_word a2) (no_word a3) (no_word a4) (no_word a5) (no_word a6) (no_word a7) (no_word a8) (no_word a9) (no_word a10) (no_word a11) (no_word a12) (no_word a13) (no_word a14) (no_word a15) (no_word a16) (no_word a17) (no_word a18) (no_word a19) (no_word a20) (no_word a21) (no_word a22) (no_word a23) (no_word a24) (no_word a25) (no_word a26) (no_word a27) (no_word a28) (no_word a29) (no_word a30) (no_word a31) (no_word a32) (no_word a33) (no_word a34) (no_word a35) (no_word a36) (no_word a37) (no_word a38) (no_word a39) (no_word a40) (no_word a41) (no_word a42) (no_word a43) (no_word a44)
end Go.Proofs.YthkjdllpgcocpaaGreatDoor
