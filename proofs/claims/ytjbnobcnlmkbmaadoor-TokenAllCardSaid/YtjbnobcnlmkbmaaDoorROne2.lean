/-
  one of the reference at this translation, for every first byte: the token that the program's read gives.
-/
import Derived.Test.YtjbnobcnlmkbmaaDoorROne
namespace Go.Proofs.YtjbnobcnlmkbmaaDoor
open Go.RowKit

theorem id_run (l : List UInt8) : idLen l = runLen idcB l := rfl
set_option linter.unusedVariables false in
set_option maxRecDepth 100000 in
set_option maxHeartbeats 2000000 in
theorem ro_name (s : ByteArray) (k : Nat) (tail : Bool) (c : UInt8) (E : Nat) (kw : Bool) (w : World) (hs : s.size ≤ 65536) (hk : k < s.size) (hc : s[k] = c) (HL0 : Hid (LetR c true)) (HE : Hid (k + runLen idcB (s.data.toList.drop k) = E))
    (HW : Hid (∀ W, Calls Tryd.prog 36 #[.string (s.extract k E)] W fun e w' => e = .returned (.bool kw) ∧ Below W.heap.size W w')) :
    Calls Tryd.prog 19 #[.string s, .int .i64 k, .bool tail] w fun e w' => e = .returned (.tuple #[.agg #[.int .i64 (if kw = true then 2 else 1), .int .i64 k, .int .i64 E, .int .i64 0, .string (s.extract k E), .bool false, .bool false], .int .i64 0]) ∧ Below w.heap.size w w' := by
  have g0 : ((k : Int) == (s.size : Int)) = false := by simp; omega
  go_enter Tryd.func19, Tryd.ntmps19
  go_wp2_with (go_at_call 34; refine (HL0.out _).mono ?_; rintro e w' ⟨rfl, rfl⟩)
  clear hc HL0
  go_loop [9] (fun v => ∃ j : Nat, v = .int .i64 j ∧ j ≤ s.size ∧ k ≤ j ∧ Hid (j + runLen idcB (s.data.toList.drop j) = E)) (fun v => s.size - (intOf v).toNat)
  case atStart => exact ⟨k, rfl, by omega, by omega, HE⟩
  case round =>
    obtain ⟨j, rfl, hj, hkj, HI⟩ := hrel
    clear HE
    by_cases hjs : j < s.size
    · obtain ⟨d, hd⟩ : ∃ d : UInt8, s[j] = d := ⟨_, rfl⟩
      have hj1 : decide (j < s.size) = true := by simpa using hjs
      have HL := Lib.hid (let_r d)
      have HD := Lib.hid (dig_r d)
      have hI := HI.out
      rw [drop_cons s j hjs, hd] at hI
      have hic : idcB d.toNat = (letB d.toNat || digB d.toNat) := rfl
      cases hl : letB d.toNat <;> cases hg : digB d.toNat
      case false.false =>
        rw [hl, hg] at hic
        rw [run_no hic] at hI
        rw [hl] at HL
        rw [hg] at HD
        have hjE : j = E := by omega
        subst hjE
        have hki : (k : Int) ≤ j := by omega
        have hji : (j : Int) ≤ s.size := by omega
        clear hI HI hic
        go_wp2_with (first | (go_at_call 34; refine (HL.out _).mono ?_; rintro e w' ⟨rfl, rfl⟩) | (go_at_call 35; refine (HD.out _).mono ?_; rintro e w' ⟨rfl, rfl⟩))
        refine (HW.out _).mono ?_
        rintro e w1 ⟨rfl, hb⟩
        have hg := t_kept hb (by simp) (heap_alloc_new w _)
        obtain ⟨⟨q0, q1, q2, q3, q4, q5, q6⟩, ⟨f0, f1, f2, f3, f4, f5, f6⟩, hl⟩ := t_seven hg
        have hB : Below w.heap.size w w1 := t_thr (t_bel1 w _) hb (by simp)
        clear hb HW hg
        cases kw
        all_goals
          go_wp2
          refine bodyPost_ret (v := .tuple #[.agg #[.int .i64 _, .int .i64 k, .int .i64 j, .int .i64 0, .string (s.extract k j), .bool false, .bool false], .int .i64 0]) (by simp [results, Tryd.results19, go_sem, q0, q1, q2, q3, q4, q5, q6]; rfl) rfl ?_
          exact ⟨rfl, t_st7 hB (Nat.le_refl _)⟩
      all_goals
        rw [hl, hg] at hic
        rw [run_yes hic] at hI
        rw [hl] at HL
        rw [hg] at HD
        have HI2 := Lib.hid (show j + 1 + runLen idcB (s.data.toList.drop (j + 1)) = E by omega)
        clear hI HI hic HW
        go_wp2_with (first | (go_at_call 34; refine (HL.out _).mono ?_; rintro e w' ⟨rfl, rfl⟩) | (go_at_call 35; refine (HD.out _).mono ?_; rintro e w' ⟨rfl, rfl⟩))
        go_round
        case rel => exact ⟨j + 1, by go_num, by omega, by omega, HI2⟩
        case measure => simp [intOf]; omega
    · have hj1 : decide (j < s.size) = false := by simpa using hjs
      have hI := HI.out
      rw [drop_none s j (by omega), run_nil] at hI
      have hjE : j = E := by omega
      subst hjE
      have hki : (k : Int) ≤ j := by omega
      have hji : (j : Int) ≤ s.size := by omega
      clear hI HI
      go_wp2_with fail
      refine (HW.out _).mono ?_
      rintro e w1 ⟨rfl, hb⟩
      have hg := t_kept hb (by simp) (heap_alloc_new w _)
      obtain ⟨⟨q0, q1, q2, q3, q4, q5, q6⟩, ⟨f0, f1, f2, f3, f4, f5, f6⟩, hl⟩ := t_seven hg
      have hB : Below w.heap.size w w1 := t_thr (t_bel1 w _) hb (by simp)
      clear hb HW hg
      cases kw
      all_goals
        go_wp2
        refine bodyPost_ret (v := .tuple #[.agg #[.int .i64 _, .int .i64 k, .int .i64 j, .int .i64 0, .string (s.extract k j), .bool false, .bool false], .int .i64 0]) (by simp [results, Tryd.results19, go_sem, q0, q1, q2, q3, q4, q5, q6]; rfl) rfl ?_
        exact ⟨rfl, t_st7 hB (Nat.le_refl _)⟩
end Go.Proofs.YtjbnobcnlmkbmaaDoor
