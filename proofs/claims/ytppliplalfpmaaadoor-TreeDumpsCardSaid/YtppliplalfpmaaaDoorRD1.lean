/-
  has, coded, Digits and Name of the reference, at this translation.
-/
import Derived.Test.YtppliplalfpmaaaDoorRt1
import Derived.Test.YtppliplalfpmaaaDoorDump
import Derived.Test.YtppliplalfpmaaaDoorRt3
namespace Go.Proofs.YtppliplalfpmaaaDoor
open Go.RowKit

theorem ret_bb {a b : Bool} (h : a = b) : Ending.returned (.bool a) = .returned (.bool b) := by rw [h]
theorem ret_s {a b : ByteArray} (h : a = b) : Ending.returned (.string a) = .returned (.string b) := by rw [h]
theorem dropc (s : ByteArray) (j : Nat) (h : j < s.size) : s.data.toList.drop j = s[j] :: s.data.toList.drop (j + 1) := by
  rw [List.drop_eq_getElem_cons (by simpa using h)]
  rfl
theorem dropn (s : ByteArray) (j : Nat) (h : s.size ≤ j) : s.data.toList.drop j = [] := List.drop_of_length_le (by rw [Array.length_toList]; exact h)
def sgnB : ByteArray := ⟨#[97, 98, 99, 100, 101, 102, 103, 104, 105, 106, 107, 108, 109, 110, 111, 112, 113, 114, 115, 116, 117, 118, 119, 120, 121, 122, 65, 66, 67, 68, 69, 70, 71, 72, 73, 74, 75, 76, 77, 78, 79, 80, 81, 82, 83, 84, 85, 86, 87, 88, 89, 90, 48, 49, 50, 51, 52, 53, 54, 55, 56, 57, 95, 36]⟩
theorem sgn_all : ((List.range 256).all fun n => sgnB.data.toList.contains (UInt8.ofNat n) == (letB ((UInt8.ofNat n).toNat : Int) || digB ((UInt8.ofNat n).toNat : Int))) = true := by kernel_rfl
theorem sgn_has (c : UInt8) : sgnB.data.toList.contains c = (letB (c.toNat : Int) || digB (c.toNat : Int)) := by
  have h := List.all_eq_true.1 sgn_all c.toNat (List.mem_range.2 c.toNat_lt)
  have e : UInt8.ofNat c.toNat = c := UInt8.ofNat_toNat
  rw [e] at h
  exact eq_of_beq h
set_option linter.unusedVariables false in
set_option maxRecDepth 100000 in
set_option maxHeartbeats 2000000 in
theorem has_any (s : ByteArray) (c : UInt8) (w : World) (hs : s.size ≤ 1000) : Calls Tryd.prog 39 #[.string s, .int .u8 c.toNat] w fun e w' => e = .returned (.bool (s.data.toList.contains c)) ∧ w = w' := by
  obtain ⟨R, hR⟩ : ∃ R, R = s.data.toList.contains c := ⟨_, rfl⟩
  rw [← hR]
  have HR := Lib.hid hR
  clear hR
  go_enter Tryd.func39, Tryd.ntmps39
  go_wp2
  go_loop [5] (fun i => ∃ k : Nat, i = .int .i64 k ∧ k ≤ s.size ∧ R = (s.data.toList.drop k).contains c) (fun i => s.size - natOf i)
  case atStart => exact ⟨0, rfl, Nat.zero_le _, HR.out⟩
  case round =>
    obtain ⟨k, rfl, hk, hRk⟩ := hrel
    have HRk := Lib.hid hRk
    clear hRk HR
    by_cases hks : k < s.size
    · have g1 : decide ((k : Int) < (s.size : Int)) = true := decide_eq_true (by omega)
      obtain ⟨x, hx⟩ : ∃ x : UInt8, s[k] = x := ⟨_, rfl⟩
      have hk1 : (k : Int) + 1 ≤ (s.size : Int) := by omega
      have hst : (s.data.toList.drop k).contains c = (c == x || (s.data.toList.drop (k + 1)).contains c) := by rw [dropc s k hks, hx]; exact List.contains_cons
      have HST := Lib.hid hst
      clear hst
      by_cases hxc : x = c
      · have g2 : ((x.toNat : Int) == (c.toNat : Int)) = true := by rw [hxc]; exact beq_self_eq_true _
        have hF : R = true := by rw [HRk.out, HST.out, hxc]; simp
        have HF := Lib.hid hF
        clear hF hxc
        go_wp2
        go_ret
        exact ⟨ret_bb HF.out.symm, rfl⟩
      · have g2 : ((x.toNat : Int) == (c.toNat : Int)) = false := by
          refine beq_eq_false_iff_ne.2 (fun e => hxc ?_)
          exact UInt8.toNat_inj.1 (by omega)
        have hF : R = (s.data.toList.drop (k + 1)).contains c := by rw [HRk.out, HST.out, show (c == x) = false from beq_eq_false_iff_ne.2 (fun e => hxc e.symm)]; rfl
        have HF := Lib.hid hF
        clear hF hxc
        go_wp2
        go_round
        case rel => exact ⟨k + 1, by go_num, by omega, HF.out⟩
        case measure => simp [natOf]; omega
    · have g1 : decide ((k : Int) < (s.size : Int)) = false := decide_eq_false (by omega)
      have hF : R = false := by rw [HRk.out, dropn s k (by omega)]; rfl
      have HF := Lib.hid hF
      clear hF
      go_wp2
      go_ret
      exact ⟨ret_bb HF.out.symm, rfl⟩
theorem ext1 (s : ByteArray) (k : Nat) (h : k < s.size) : (s.extract k (k + 1)).data.toList = [s[k]] := by
  rw [Lib.extract_data]
  have : s.data.toList.drop k = s[k] :: s.data.toList.drop (k + 1) := dropc s k h
  rw [this, show k + 1 - k = 1 from by omega]
  rfl
theorem hex1 (k : Nat) (h : k < 16) : (hexA.extract k (k + 1)).data.toList = [hexB k] := by
  rw [ext1 hexA k (by simpa [hexA, ByteArray.size] using h), hexA_at k h]
theorem enc3 (o : ByteArray) (a b : Nat) (ha : a < 16) (hb : b < 16) : (o ++ ⟨#[37]⟩ ++ hexA.extract a (a + 1) ++ hexA.extract b (b + 1)).data.toList = o.data.toList ++ [37, hexB a, hexB b] := by
  have h1 := hex1 a ha
  have h2 := hex1 b hb
  simp only [ByteArray.data_append, Array.toList_append, h1, h2]
  simp
set_option linter.unusedVariables false in
set_option maxRecDepth 100000 in
set_option maxHeartbeats 2000000 in
theorem coded_any (s : ByteArray) (w : World) (hs : s.size ≤ 1000000) : Calls Tryd.prog 33 #[.string s] w fun e w' => e = .returned (.string ⟨(encL s.data.toList).toArray⟩) ∧ Below w.heap.size w w' := by
  go_enter Tryd.func33, Tryd.ntmps33
  go_wp2
  go_loopw [4, 5] (fun v i wr => ∃ (k : Nat) (o : ByteArray), i = .int .i64 k ∧ k ≤ s.size ∧ v = .string o ∧ o.data.toList = encL (s.data.toList.take k) ∧ Below w.heap.size w wr) (fun _ i _ => s.size - natOf i)
  case atStart => exact ⟨0, ⟨#[]⟩, rfl, Nat.zero_le _, rfl, by simp [encL], Below.refl _ _⟩
  case round =>
    obtain ⟨k, o, rfl, hk, rfl, ho, hb⟩ := hrel
    have hoz : o.size ≤ 3000000 := by
      have h1 := (encL_len (s.data.toList.take k)).1
      rw [← ho, Array.length_toList] at h1
      have h2 : (s.data.toList.take k).length ≤ k := by simp; omega
      have h3 : o.data.size = o.size := rfl
      omega
    have HO := Lib.hid ho
    have HB := Lib.hid hb
    clear ho hb
    by_cases hks : k < s.size
    · have g1 : decide ((k : Int) < (s.size : Int)) = true := decide_eq_true (by omega)
      obtain ⟨c, hc⟩ : ∃ c : UInt8, s[k] = c := ⟨_, rfl⟩
      have hat : s.data.toList[k]? = some c := by
        rw [← hc]
        simp [ByteArray.getElem_eq_getElem_data, hks]
      have hst := encL_take hat
      have hx1 := ext1 s k hks
      rw [hc] at hx1
      have HST := Lib.hid (And.intro hst hx1)
      have c0 : (0 : Int) ≤ c.toNat := by omega
      have c1 : (c.toNat : Int) ≤ 255 := by have := c.toNat_lt; omega
      have hk1 : (k : Int) + 1 ≤ (s.size : Int) := by omega
      have HH := Lib.hid (fun (W : World) => has_any sgnB c W (by decide))
      rw [sgn_has] at HH
      clear hst hat hx1
      cases hok : (letB c.toNat || digB c.toNat) with
      | true =>
        have hen : encB c = [c] := by unfold encB; rw [hok]; rfl
        have HEN := Lib.hid hen
        rw [hok] at HH
        clear hen hok
        go_wp2_with fail
        refine (HH.out _).mono ?_
        rintro e w2 ⟨rfl, rfl⟩
        go_wp2
        go_roundw
        case rel => exact ⟨k + 1, _, by go_num, by omega, rfl, by rw [HST.out.1, HEN.out, ← HO.out, ← HST.out.2]; simp, HB.out⟩
        case measure => simp [natOf]; omega
      | false =>
        have hen : encB c = [37, hexB (c.toNat / 16), hexB (c.toNat % 16)] := by unfold encB; rw [hok]; rfl
        have HEN := Lib.hid hen
        rw [hok] at HH
        have q1 : (0 : Int) ≤ (c.toNat : Int) / 16 := by omega
        have q2 : (c.toNat : Int) / 16 + 1 ≤ 16 := by omega
        have q3 : (0 : Int) ≤ (c.toNat : Int) % 16 := by omega
        have q4 : (c.toNat : Int) % 16 + 1 ≤ 16 := by omega
        clear hen hok
        go_wp2_with fail
        refine (HH.out _).mono ?_
        rintro e w2 ⟨rfl, rfl⟩
        go_wp2_with fail
        go_quiet (fail)
        go_wp2
        go_roundw
        case rel =>
          refine ⟨k + 1, _, by go_num, by omega, rfl, ?_, drewN_below HB.out _⟩
          rw [HST.out.1, HEN.out, ← HO.out]
          exact enc3 o (c.toNat / 16) (c.toNat % 16) (by omega) (by omega)
        case measure => simp [natOf]; omega
    · have g1 : decide ((k : Int) < (s.size : Int)) = false := decide_eq_false (by omega)
      have ht : s.data.toList.take k = s.data.toList := List.take_of_length_le (by rw [Array.length_toList]; have h2 : s.data.size = s.size := rfl; omega)
      have hF : o = ⟨(encL s.data.toList).toArray⟩ := ByteArray.ext (Array.ext' (by rw [HO.out, ht]))
      have HF := Lib.hid hF
      clear hF ht
      go_wp2
      go_ret
      exact ⟨ret_s HF.out, HB.out⟩
def digA : ByteArray := ⟨#[48, 49, 50, 51, 52, 53, 54, 55, 56, 57]⟩
theorem digA_at : ∀ k, (h : k < 10) → digA[k]'(by simpa [digA, ByteArray.size] using h) = UInt8.ofNat (48 + k) := by decide
theorem dig1 (k : Nat) (h : k < 10) : (digA.extract k (k + 1)).data.toList = [UInt8.ofNat (48 + k)] := by
  rw [ext1 digA k (by simpa [digA, ByteArray.size] using h), digA_at k h]
theorem dd_sz (u : Nat) (hu : u < 18446744073709551616) : (⟨(Lib.decDigits u).toArray⟩ : ByteArray).size ≤ 20 := by
  have := dd_len u hu
  simpa [ByteArray.size] using this
set_option linter.unusedVariables false in
set_option maxRecDepth 100000 in
set_option maxHeartbeats 2000000 in
theorem rdigits_any : ∀ (N u : Nat) (w : World), u ≤ N → u ≤ 9223372036854775807 → Calls Tryd.prog 38 #[.int .i64 u] w fun e w' => e = .returned (.string ⟨(Lib.decDigits u).toArray⟩) ∧ ∃ m, w' = w.drewN m := by
  intro N
  induction N with
  | zero =>
    intro u w hu hb
    obtain rfl : u = 0 := by omega
    have hd : digA.extract 0 1 = ⟨(Lib.decDigits 0).toArray⟩ := ByteArray.ext (Array.ext' (by rw [dig1 0 (by omega), dd_one 0 (by omega)]))
    have HD := Lib.hid hd
    clear hd
    go_enter Tryd.func38, Tryd.ntmps38
    go_wp2
    go_ret
    exact ⟨ret_s HD.out, 0, rfl⟩
  | succ N ih =>
    intro u w hu hb
    by_cases h10 : u < 10
    · have g1 : decide ((u : Int) < 10) = true := decide_eq_true (by omega)
      have g2 : (u : Int) + 1 ≤ 10 := by omega
      have hd : digA.extract u (u + 1) = ⟨(Lib.decDigits u).toArray⟩ := ByteArray.ext (Array.ext' (by rw [dig1 u h10, dd_one u h10]))
      have HD := Lib.hid hd
      clear hd
      go_enter Tryd.func38, Tryd.ntmps38
      go_wp2
      go_ret
      exact ⟨ret_s HD.out, 0, rfl⟩
    · have g1 : decide ((u : Int) < 10) = false := decide_eq_false (by omega)
      have HI := Lib.hid (fun (W : World) => ih (u / 10) W (by omega) (by omega))
      have q1 : (0 : Int) ≤ (u : Int) % 10 := by omega
      have q2 : (u : Int) % 10 + 1 ≤ 10 := by omega
      have hp1 := dd_sz (u / 10) (by omega)
      obtain ⟨p, hp⟩ : ∃ p : ByteArray, p = ⟨(Lib.decDigits (u / 10)).toArray⟩ := ⟨_, rfl⟩
      rw [← hp] at HI hp1
      have hd : p ++ digA.extract (u % 10) (u % 10 + 1) = ⟨(Lib.decDigits u).toArray⟩ := by
        refine ByteArray.ext (Array.ext' ?_)
        have h1 := dig1 (u % 10) (by omega)
        rw [dd_more u h10, ByteArray.data_append, Array.toList_append, h1, hp]
      have HD := Lib.hid hd
      clear hd hp ih
      go_enter Tryd.func38, Tryd.ntmps38
      go_wp2_with fail
      go_quiet (first | (go_at_call 38; exact Calls.quiet_of (HI.out _)))
      go_wp2
      go_ret
      exact ⟨ret_s HD.out, _, rfl⟩
end Go.Proofs.YtppliplalfpmaaaDoor
