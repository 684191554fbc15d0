/-
  What Name, IsName and Word of the program and of the reference answer at this translation.
-/
import Derived.Test.YtokpmpmlbmpnmabRead
import Derived.Test.YtokpmpmlbmpnmabWord
namespace Go.Proofs.Ytokpmpmlbmpnmab
open Go.RowKit

def idB (c : UInt8) : Bool := letB c.toNat || digB c.toNat
def idLen (l : List UInt8) : Nat := (l.takeWhile idB).length
theorem id_nil : idLen [] = 0 := rfl
theorem id_yes {c : UInt8} {t : List UInt8} (h : idB c = true) : idLen (c :: t) = idLen t + 1 := by simp [idLen, h]
theorem id_no {c : UInt8} {t : List UInt8} (h : idB c = false) : idLen (c :: t) = 0 := by simp [idLen, h]
theorem id_le (l : List UInt8) : idLen l ≤ l.length := by
  unfold idLen
  induction l with
  | nil => simp
  | cons a t ih => rw [List.takeWhile_cons]; split <;> simp <;> omega

def nameR (s : ByteArray) (k : Nat) : Ending := .returned (.tuple #[.string (s.extract k (k + 1 + idLen (s.data.toList.drop (k + 1)))), .int .i64 ((k + 1 + idLen (s.data.toList.drop (k + 1)) : Nat) : Int)])

set_option maxHeartbeats 1000000 in
set_option maxRecDepth 100000 in
theorem name_in (s : ByteArray) (k : Nat) (x : UInt8) (w : World) (hs : s.size ≤ 4000000) (hk : k < s.size) (hx : s[k] = x) (hl : letB x.toNat = true) :
    Calls Try.prog 13 #[.string s, .int .i64 k] w fun e w' => e = nameR s k ∧ w = w' := by
  have x0 : (0 : Int) ≤ x.toNat := by omega
  have x1 : (x.toNat : Int) ≤ 255 := by have := x.toNat_lt; omega
  have hk0 : decide ((k : Int) < 0) = false := by simp
  have hk1 : decide (s.size ≤ k) = false := by simpa using hk
  obtain ⟨E, hE⟩ : ∃ E, E = k + 1 + idLen (s.data.toList.drop (k + 1)) := ⟨_, rfl⟩
  unfold nameR
  rw [← hE]
  have HE := Lib.hid hE
  clear hE
  go_enter Try.func13, Try.ntmps13
  go_wp2_with (go_at_call 25; refine (isLetter_any _ _ x0 x1).mono ?_; rintro e w' ⟨rfl, rfl⟩)
  go_loop [5] (fun i => ∃ j : Nat, i = .int .i64 j ∧ k < j ∧ j ≤ s.size ∧ E = j + idLen (s.data.toList.drop j)) (fun i => s.size - (intOf i).toNat)
  case atStart => exact ⟨k + 1, by go_num, by omega, by omega, HE.out⟩
  case round =>
    obtain ⟨j, rfl, hkj, hj, hEj⟩ := hrel
    have HJ := Lib.hid hEj
    clear hEj HE
    by_cases hjs : j < s.size
    · obtain ⟨c, hc⟩ : ∃ c : UInt8, s[j] = c := ⟨_, rfl⟩
      have c0 : (0 : Int) ≤ c.toNat := by omega
      have c1 : (c.toNat : Int) ≤ 255 := by have := c.toNat_lt; omega
      cases hcl : letB c.toNat with
      | true =>
        go_wp2_with (go_at_call 25; refine (isLetter_any _ _ c0 c1).mono ?_; rintro e w' ⟨rfl, rfl⟩)
        go_round
        case rel =>
          refine ⟨j + 1, by go_num, by omega, by omega, ?_⟩
          have h := HJ.out
          rw [drop_at s j hjs, hc, id_yes (by simp [idB, hcl])] at h
          omega
        case measure => simp [intOf]; omega
      | false =>
        cases hcd : digB c.toNat with
        | true =>
          go_wp2_with (first | (go_at_call 25; refine (isLetter_any _ _ c0 c1).mono ?_; rintro e w' ⟨rfl, rfl⟩) | (go_at_call 26; refine (isDigit_any _ _ c0 c1).mono ?_; rintro e w' ⟨rfl, rfl⟩))
          go_round
          case rel =>
            refine ⟨j + 1, by go_num, by omega, by omega, ?_⟩
            have h := HJ.out
            rw [drop_at s j hjs, hc, id_yes (by simp [idB, hcd])] at h
            omega
          case measure => simp [intOf]; omega
        | false =>
          have hEj : E = j := by
            have h := HJ.out
            rw [drop_at s j hjs, hc, id_no (by simp [idB, hcl, hcd])] at h
            omega
          subst hEj
          clear HJ
          go_wp2_with (first | (go_at_call 25; refine (isLetter_any _ _ c0 c1).mono ?_; rintro e w' ⟨rfl, rfl⟩) | (go_at_call 26; refine (isDigit_any _ _ c0 c1).mono ?_; rintro e w' ⟨rfl, rfl⟩))
          go_ret2
          exact ⟨rfl, rfl⟩
    · have hEj : E = j := by
        have h := HJ.out
        rw [drop_out s j hjs, id_nil] at h
        omega
      subst hEj
      clear HJ
      go_wp2
      go_ret2
      exact ⟨rfl, rfl⟩


/-- the reference's search through a list of words -/
def amV (s : List UInt8) : List UInt8 → List UInt8 → Bool
  | [], cur => cur == s || false
  | c :: t, cur => if c = 32 then (cur == s || amV s t []) else amV s t (cur ++ [c])
theorem am_nil (s cur : List UInt8) : amV s [] cur = (cur == s) := by simp [amV]
theorem am_sp {s cur t : List UInt8} {c : UInt8} (h : c = 32) : amV s (c :: t) cur = (cur == s || amV s t []) := by simp [amV, h]
theorem am_ch {s cur t : List UInt8} {c : UInt8} (h : ¬ c = 32) : amV s (c :: t) cur = amV s t (cur ++ [c]) := by simp [amV, h]

theorem piece_snoc (l : ByteArray) (f i : Nat) (hf : f ≤ i) (hi : i < l.size) : (l.data.toList.drop f).take (i + 1 - f) = (l.data.toList.drop f).take (i - f) ++ [l[i]] := by
  rw [show i + 1 - f = (i - f) + 1 from by omega, List.take_succ_eq_append_getElem (by rw [List.length_drop]; simp; omega)]
  congr 1
  simp only [List.getElem_drop]
  congr 1
  simp only [show f + (i - f) = i from by omega]
  rfl

set_option maxHeartbeats 2000000 in
set_option maxRecDepth 100000 in
theorem among_any (s l : ByteArray) (w : World) (hl : l.size ≤ 4000000) :
    Calls Try.prog 28 #[.string s, .string l] w fun e w' => e = .returned (.bool (amV s.data.toList l.data.toList [])) ∧ w = w' := by
  obtain ⟨A, hA⟩ : ∃ A, A = amV s.data.toList l.data.toList [] := ⟨_, rfl⟩
  rw [← hA]
  have HA := Lib.hid hA
  clear hA
  go_enter Try.func28, Try.ntmps28
  go_wp2
  go_loop [5, 6] (fun u v => ∃ f i : Nat, u = .int .i64 f ∧ v = .int .i64 i ∧ f ≤ i ∧ i ≤ l.size + 1 ∧ (i ≤ l.size → A = amV s.data.toList (l.data.toList.drop i) ((l.data.toList.drop f).take (i - f))) ∧ (i = l.size + 1 → A = false)) (fun _ v => l.size + 1 - (intOf v).toNat)
  case atStart => exact ⟨0, 0, by go_num, by go_num, by omega, by omega, fun _ => by simpa using HA.out, fun h => by omega⟩
  case round =>
    obtain ⟨f, i, rfl, rfl, hf, hi, hr, hz⟩ := hrel
    have HR := Lib.hid hr
    have HZ := Lib.hid hz
    clear hr hz HA
    by_cases hil : i ≤ l.size
    · have hil1 : decide (i ≤ l.size) = true := by simpa using hil
      have hex : (l.extract f i).data.toList = (l.data.toList.drop f).take (i - f) := Lib.extract_data l f i
      by_cases hcmp : ((l.data.toList.drop f).take (i - f) == s.data.toList) = true
      · have hcb : ((l.extract f i).toList == s.toList) = true := by rw [Lib.toList_data, Lib.toList_data, hex]; exact hcmp
        by_cases hie : i = l.size
        · have hA : A = true := by
            rw [HR.out hil, drop_out l i (by omega), am_nil]
            exact hcmp
          have hie1 : ((i : Int) == (l.size : Int)) = true := by rw [hie]; simp
          have HT := Lib.hid hA
          have HE := Lib.hid hie
          clear hA hie hcmp hex
          go_wp2
          go_ret
          exact ⟨ret_b HT.out.symm, rfl⟩
        · have his : i < l.size := by omega
          have hie1 : ((i : Int) == (l.size : Int)) = false := beq_f (by omega)
          obtain ⟨c, hc⟩ : ∃ c : UInt8, l[i] = c := ⟨_, rfl⟩
          by_cases h32 : c = 32
          · have hA : A = true := by
              rw [HR.out hil, drop_at l i his, hc, am_sp h32, hcmp]
              rfl
            have h32b : ((c.toNat : Int) == 32) = true := by rw [h32]; rfl
            have HT := Lib.hid hA
            clear hA hcmp hex h32 hie
            go_wp2
            go_ret
            exact ⟨ret_b HT.out.symm, rfl⟩
          · have h32b : ((c.toNat : Int) == 32) = false := beq_f (fun h => h32 (UInt8.toNat_inj.1 (by show c.toNat = 32; omega)))
            have hN : A = amV s.data.toList (l.data.toList.drop (i + 1)) ((l.data.toList.drop f).take (i + 1 - f)) := by
              rw [HR.out hil, drop_at l i his, hc, am_ch h32, piece_snoc l f i hf his, hc]
            have HN := Lib.hid hN
            clear hN hcmp hex h32 hie
            go_wp2
            go_round
            case rel => exact ⟨f, i + 1, by go_num, by go_num, by omega, by omega, fun _ => HN.out, fun h => by omega⟩
            case measure => simp [intOf]; omega
      · have hcf : ((l.data.toList.drop f).take (i - f) == s.data.toList) = false := by simpa using hcmp
        have hcb : ((l.extract f i).toList == s.toList) = false := by rw [Lib.toList_data, Lib.toList_data, hex]; exact hcf
        by_cases hie : i = l.size
        · have hA : A = false := by
            rw [HR.out hil, drop_out l i (by omega), am_nil]
            exact hcf
          have hie1 : ((i : Int) == (l.size : Int)) = true := by rw [hie]; simp
          have HT := Lib.hid hA
          have hie2 : i + 1 = l.size + 1 := by omega
          have HE := Lib.hid hie2
          clear hA hie hie2 hcmp hex hcf
          go_wp2
          go_round
          case rel => exact ⟨i + 1, i + 1, by go_num, by go_num, by omega, by have := HE.out; omega, fun h => by have := HE.out; omega, fun _ => HT.out⟩
          case measure => simp [intOf]; have := HE.out; omega
        · have his : i < l.size := by omega
          have hie1 : ((i : Int) == (l.size : Int)) = false := beq_f (by omega)
          obtain ⟨c, hc⟩ : ∃ c : UInt8, l[i] = c := ⟨_, rfl⟩
          by_cases h32 : c = 32
          · have hN : A = amV s.data.toList (l.data.toList.drop (i + 1)) ((l.data.toList.drop (i + 1)).take (i + 1 - (i + 1))) := by
              rw [HR.out hil, drop_at l i his, hc, am_sp h32, hcf]
              simp
            have h32b : ((c.toNat : Int) == 32) = true := by rw [h32]; rfl
            have HN := Lib.hid hN
            clear hN hcmp hex h32 hcf hie
            go_wp2
            go_round
            case rel => exact ⟨i + 1, i + 1, by go_num, by go_num, by omega, by omega, fun _ => HN.out, fun h => by omega⟩
            case measure => simp [intOf]; omega
          · have h32b : ((c.toNat : Int) == 32) = false := beq_f (fun h => h32 (UInt8.toNat_inj.1 (by show c.toNat = 32; omega)))
            have hN : A = amV s.data.toList (l.data.toList.drop (i + 1)) ((l.data.toList.drop f).take (i + 1 - f)) := by
              rw [HR.out hil, drop_at l i his, hc, am_ch h32, piece_snoc l f i hf his, hc]
            have HN := Lib.hid hN
            clear hN hcmp hex h32 hcf hie
            go_wp2
            go_round
            case rel => exact ⟨f, i + 1, by go_num, by go_num, by omega, by omega, fun _ => HN.out, fun h => by omega⟩
            case measure => simp [intOf]; omega
    · have hil1 : decide (i ≤ l.size) = false := by simpa using hil
      have hA : A = false := HZ.out (by omega)
      have HT := Lib.hid hA
      clear hA
      go_wp2
      go_ret
      exact ⟨ret_b HT.out.symm, rfl⟩
end Go.Proofs.Ytokpmpmlbmpnmab
