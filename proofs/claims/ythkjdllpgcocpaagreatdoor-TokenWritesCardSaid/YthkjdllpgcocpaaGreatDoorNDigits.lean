/-
  digit and digits of package num at this translation.
-/
import Derived.Test.YthkjdllpgcocpaaGreatDoorNArith
import Derived.LoopTactic
namespace Go.Proofs.YthkjdllpgcocpaaGreatDoor.num
open Go.RowKit

def dgV (c : Int) : Int := if 48 ≤ c ∧ c ≤ 57 then c - 48 else if 97 ≤ c ∧ c ≤ 102 then c - 97 + 10 else if 65 ≤ c ∧ c ≤ 70 then c - 65 + 10 else 16
theorem dgV_0 (c : Int) : 0 ≤ dgV c := by
  unfold dgV
  repeat' split
  all_goals omega
theorem dgV_1 (c : Int) : dgV c ≤ 16 := by
  unfold dgV
  repeat' split
  all_goals omega
def dgR (base : Int) : List UInt8 → Int → Option Int
  | [], n => some n
  | b :: l, n => if dgV (b.toNat : Int) < base then (if inB (n * base + dgV (b.toNat : Int)) = true then dgR base l (n * base + dgV (b.toNat : Int)) else none) else none
def dgS (base : Int) (l : List UInt8) : Option Int := if l = [] then none else dgR base l 0
def vK : Option Int → Int
  | some _ => 3
  | none => 4
def vN : Option Int → Int
  | some n => n
  | none => 0
theorem drop_at (s : ByteArray) (j : Nat) (h : j < s.size) : s.data.toList.drop j = s[j] :: s.data.toList.drop (j + 1) := by
  rw [List.drop_eq_getElem_cons (by simpa using h)]
  simp [ByteArray.getElem_eq_getElem_data]
theorem drop_end (s : ByteArray) (j : Nat) (h : s.size ≤ j) : s.data.toList.drop j = [] := by
  rw [List.drop_eq_nil_iff]; simpa using h
theorem dg_end (base n : Int) : dgR base [] n = some n := rfl
theorem dg_far {base n : Int} {b : UInt8} {l : List UInt8} (h : ¬ dgV (b.toNat : Int) < base) : dgR base (b :: l) n = none := by simp [dgR, h]
theorem dg_out {base n : Int} {b : UInt8} {l : List UInt8} (h : dgV (b.toNat : Int) < base) (h' : inB (n * base + dgV (b.toNat : Int)) = false) : dgR base (b :: l) n = none := by simp [dgR, h, h']
theorem dg_in {base n : Int} {b : UInt8} {l : List UInt8} (h : dgV (b.toNat : Int) < base) (h' : inB (n * base + dgV (b.toNat : Int)) = true) : dgR base (b :: l) n = dgR base l (n * base + dgV (b.toNat : Int)) := by simp [dgR, h, h']
theorem of_in {n : Int} (h : inB n = true) : ofK n = 3 ∧ ofN n = n := by simp [ofK, ofN, h]

set_option maxHeartbeats 1000000 in
theorem digit_any (c : Int) (w : World) (h0 : 0 ≤ c) (h1 : c ≤ 255) : Calls Tryz.prog 176 #[.int .u8 c] w fun e w' => e = .returned (.int .i64 (dgV c)) ∧ w = w' := by
  by_cases a : 48 ≤ c ∧ c ≤ 57
  · have e : dgV c = c - 48 := by unfold dgV; rw [if_pos a]
    rw [e]
    obtain ⟨a1, a2⟩ := a
    go_enter Tryz.func176, Tryz.ntmps176
    go_wp2
    go_ret
    exact ⟨rfl, rfl⟩
  · by_cases b : 97 ≤ c ∧ c ≤ 102
    · have e : dgV c = c - 97 + 10 := by unfold dgV; rw [if_neg a, if_pos b]
      rw [e]
      obtain ⟨a1, a2⟩ := b
      go_enter Tryz.func176, Tryz.ntmps176
      go_wp2
      go_ret
      exact ⟨rfl, rfl⟩
    · by_cases d : 65 ≤ c ∧ c ≤ 70
      · have e : dgV c = c - 65 + 10 := by unfold dgV; rw [if_neg a, if_neg b, if_pos d]
        rw [e]
        obtain ⟨a1, a2⟩ := d
        go_enter Tryz.func176, Tryz.ntmps176
        go_wp2
        go_ret
        exact ⟨rfl, rfl⟩
      · have e : dgV c = 16 := by unfold dgV; rw [if_neg a, if_neg b, if_neg d]
        rw [e]
        have a' : c < 48 ∨ 57 < c := by omega
        have b' : c < 97 ∨ 102 < c := by omega
        have d' : c < 65 ∨ 70 < c := by omega
        clear a b d e
        rcases a' with a | a <;> rcases b' with b | b <;> rcases d' with d | d <;> first | omega | (
          go_enter Tryz.func176, Tryz.ntmps176
          go_wp2
          go_ret
          exact ⟨rfl, rfl⟩)

set_option maxRecDepth 100000 in
set_option maxHeartbeats 4000000 in
theorem digits10_any (s : ByteArray) (w : World) (hsz : s.size ≤ 9223372036854775807) : Calls Tryz.prog 150 #[.string s, .int .i64 10] w fun e w' => e = .returned (.agg #[.int .i64 (vK (dgS 10 s.data.toList)), .int .i64 (vN (dgS 10 s.data.toList)), .string ⟨#[]⟩]) ∧ Below w.heap.size w w' := by
  by_cases hs : s.data.toList = []
  · have e1 : dgS 10 s.data.toList = none := by unfold dgS; rw [if_pos hs]
    rw [e1]
    have hs' : s.toList.isEmpty = true := by rw [ByteArray.toList_eq, hs]; rfl
    clear e1
    show Calls Tryz.prog 150 _ w fun e w' => e = .returned (.agg #[.int .i64 4, .int .i64 0, .string ⟨#[]⟩]) ∧ Below w.heap.size w w'
    go_enter Tryz.func150, Tryz.ntmps150
    go_wp2_with fail
    refine (nan_any _).mono ?_
    rintro e w1 ⟨rfl, hb⟩
    obtain ⟨q0, q1, q2, f0, f1, f2, hz⟩ := three hb (by simp) (heap_alloc_new w _)
    have hB : Below w.heap.size w w1 := thr (bel1 w _) hb (by simp)
    go_wp2
    refine bodyPost_ret (v := .agg #[.int .i64 4, .int .i64 0, .string ⟨#[]⟩]) (by simp [results, Tryz.results150, go_sem, q0, q1, q2]) rfl ?_
    exact ⟨rfl, st3 hB (Nat.le_refl _)⟩
  · have e1 : dgS 10 s.data.toList = dgR 10 (s.data.toList.drop 0) 0 := by unfold dgS; rw [if_neg hs]; rfl
    rw [e1]
    have hs' : s.toList.isEmpty = false := by rw [ByteArray.toList_eq]; simpa using hs
    obtain ⟨R, hR⟩ : ∃ R, R = dgR 10 (s.data.toList.drop 0) 0 := ⟨_, rfl⟩
    rw [← hR]
    have HR := Lib.hid hR
    clear hR e1 hs
    go_enter Tryz.func150, Tryz.ntmps150
    go_wp2_with fail
    go_loop [5, 13] (fun n i => ∃ (m : Int) (j : Nat), n = .int .i64 m ∧ i = .int .i64 j ∧ j ≤ s.size ∧ 0 ≤ m ∧ m ≤ 9007199254740992 ∧ R = dgR 10 (s.data.toList.drop j) m) (fun _ i => s.size - (intOf i).toNat)
    case atStart => exact ⟨0, 0, by go_num, by go_num, by omega, by omega, by omega, HR.out⟩
    case round =>
      obtain ⟨m, j, rfl, rfl, hj, m0, m1, hRj⟩ := hrel
      have HJ := Lib.hid hRj
      clear hRj HR
      by_cases hjs : j < s.size
      · obtain ⟨c, hc⟩ : ∃ c : UInt8, s[j] = c := ⟨_, rfl⟩
        have c0 : (0 : Int) ≤ c.toNat := by omega
        have c1 : (c.toNat : Int) ≤ 255 := by have := c.toNat_lt; omega
        have d0 := dgV_0 c.toNat
        have d1 := dgV_1 c.toNat
        by_cases hd : dgV (c.toNat : Int) < 10
        · cases hin : inB (m * 10 + dgV (c.toNat : Int)) with
          | true =>
            obtain ⟨i0, i1⟩ := in_yes hin
            go_wp2_with (first | (go_at_call 176; refine (digit_any _ _ c0 c1).mono ?_; rintro e w' ⟨rfl, rfl⟩) | (go_at_call 174; refine (in_any _ _).mono ?_; rintro e w' ⟨rfl, rfl⟩))
            go_round
            case rel =>
              refine ⟨m * 10 + dgV (c.toNat : Int), j + 1, by go_num, by go_num, by omega, by omega, by omega, ?_⟩
              have h := HJ.out
              rw [drop_at s j hjs, hc, dg_in hd hin] at h
              exact h
            case measure => simp [intOf]; omega
          | false =>
            have hE : R = none := by
              have h := HJ.out
              rw [drop_at s j hjs, hc, dg_out hd hin] at h
              exact h
            subst hE
            clear HJ
            go_wp2_with (first | (go_at_call 176; refine (digit_any _ _ c0 c1).mono ?_; rintro e w' ⟨rfl, rfl⟩) | (go_at_call 174; refine (in_any _ _).mono ?_; rintro e w' ⟨rfl, rfl⟩))
            refine (nan_any _).mono ?_
            rintro e w1 ⟨rfl, hb⟩
            obtain ⟨q0, q1, q2, f0, f1, f2, hz⟩ := three hb (by simp) (heap_alloc_new w _)
            have hB : Below w.heap.size w w1 := thr (bel1 w _) hb (by simp)
            go_wp2
            refine bodyPost_ret (v := .agg #[.int .i64 4, .int .i64 0, .string ⟨#[]⟩]) (by simp [results, Tryz.results150, go_sem, q0, q1, q2]) rfl ?_
            exact ⟨rfl, st3 hB (Nat.le_refl _)⟩
        · have hE : R = none := by
            have h := HJ.out
            rw [drop_at s j hjs, hc, dg_far hd] at h
            exact h
          subst hE
          clear HJ
          go_wp2_with (first | (go_at_call 176; refine (digit_any _ _ c0 c1).mono ?_; rintro e w' ⟨rfl, rfl⟩) | (go_at_call 174; refine (in_any _ _).mono ?_; rintro e w' ⟨rfl, rfl⟩))
          refine (nan_any _).mono ?_
          rintro e w1 ⟨rfl, hb⟩
          obtain ⟨q0, q1, q2, f0, f1, f2, hz⟩ := three hb (by simp) (heap_alloc_new w _)
          have hB : Below w.heap.size w w1 := thr (bel1 w _) hb (by simp)
          go_wp2
          refine bodyPost_ret (v := .agg #[.int .i64 4, .int .i64 0, .string ⟨#[]⟩]) (by simp [results, Tryz.results150, go_sem, q0, q1, q2]) rfl ?_
          exact ⟨rfl, st3 hB (Nat.le_refl _)⟩
      · have hE : R = some m := by
          have h := HJ.out
          rw [drop_end s j (by omega)] at h
          exact h
        subst hE
        clear HJ
        have hin : inB m = true := by unfold inB; simp; omega
        have O := fun W => of_any m W
        rw [(of_in hin).1, (of_in hin).2] at O
        have HO := Lib.hid O
        clear O
        show Code.wp _ _ _ _ _
        go_wp2_with fail
        refine (HO.out _).mono ?_
        rintro e w1 ⟨rfl, hb⟩
        obtain ⟨q0, q1, q2, f0, f1, f2, hz⟩ := three hb (by simp) (heap_alloc_new w _)
        have hB : Below w.heap.size w w1 := thr (bel1 w _) hb (by simp)
        go_wp2
        refine bodyPost_ret (v := .agg #[.int .i64 3, .int .i64 m, .string ⟨#[]⟩]) (by simp [results, Tryz.results150, go_sem, q0, q1, q2]) rfl ?_
        exact ⟨rfl, st3 hB (Nat.le_refl _)⟩

set_option maxRecDepth 100000 in
set_option maxHeartbeats 4000000 in
theorem digits16_any (s : ByteArray) (w : World) (hsz : s.size ≤ 9223372036854775807) : Calls Tryz.prog 150 #[.string s, .int .i64 16] w fun e w' => e = .returned (.agg #[.int .i64 (vK (dgS 16 s.data.toList)), .int .i64 (vN (dgS 16 s.data.toList)), .string ⟨#[]⟩]) ∧ Below w.heap.size w w' := by
  by_cases hs : s.data.toList = []
  · have e1 : dgS 16 s.data.toList = none := by unfold dgS; rw [if_pos hs]
    rw [e1]
    have hs' : s.toList.isEmpty = true := by rw [ByteArray.toList_eq, hs]; rfl
    clear e1
    show Calls Tryz.prog 150 _ w fun e w' => e = .returned (.agg #[.int .i64 4, .int .i64 0, .string ⟨#[]⟩]) ∧ Below w.heap.size w w'
    go_enter Tryz.func150, Tryz.ntmps150
    go_wp2_with fail
    refine (nan_any _).mono ?_
    rintro e w1 ⟨rfl, hb⟩
    obtain ⟨q0, q1, q2, f0, f1, f2, hz⟩ := three hb (by simp) (heap_alloc_new w _)
    have hB : Below w.heap.size w w1 := thr (bel1 w _) hb (by simp)
    go_wp2
    refine bodyPost_ret (v := .agg #[.int .i64 4, .int .i64 0, .string ⟨#[]⟩]) (by simp [results, Tryz.results150, go_sem, q0, q1, q2]) rfl ?_
    exact ⟨rfl, st3 hB (Nat.le_refl _)⟩
  · have e1 : dgS 16 s.data.toList = dgR 16 (s.data.toList.drop 0) 0 := by unfold dgS; rw [if_neg hs]; rfl
    rw [e1]
    have hs' : s.toList.isEmpty = false := by rw [ByteArray.toList_eq]; simpa using hs
    obtain ⟨R, hR⟩ : ∃ R, R = dgR 16 (s.data.toList.drop 0) 0 := ⟨_, rfl⟩
    rw [← hR]
    have HR := Lib.hid hR
    clear hR e1 hs
    go_enter Tryz.func150, Tryz.ntmps150
    go_wp2_with fail
    go_loop [5, 13] (fun n i => ∃ (m : Int) (j : Nat), n = .int .i64 m ∧ i = .int .i64 j ∧ j ≤ s.size ∧ 0 ≤ m ∧ m ≤ 9007199254740992 ∧ R = dgR 16 (s.data.toList.drop j) m) (fun _ i => s.size - (intOf i).toNat)
    case atStart => exact ⟨0, 0, by go_num, by go_num, by omega, by omega, by omega, HR.out⟩
    case round =>
      obtain ⟨m, j, rfl, rfl, hj, m0, m1, hRj⟩ := hrel
      have HJ := Lib.hid hRj
      clear hRj HR
      by_cases hjs : j < s.size
      · obtain ⟨c, hc⟩ : ∃ c : UInt8, s[j] = c := ⟨_, rfl⟩
        have c0 : (0 : Int) ≤ c.toNat := by omega
        have c1 : (c.toNat : Int) ≤ 255 := by have := c.toNat_lt; omega
        have d0 := dgV_0 c.toNat
        have d1 := dgV_1 c.toNat
        by_cases hd : dgV (c.toNat : Int) < 16
        · cases hin : inB (m * 16 + dgV (c.toNat : Int)) with
          | true =>
            obtain ⟨i0, i1⟩ := in_yes hin
            go_wp2_with (first | (go_at_call 176; refine (digit_any _ _ c0 c1).mono ?_; rintro e w' ⟨rfl, rfl⟩) | (go_at_call 174; refine (in_any _ _).mono ?_; rintro e w' ⟨rfl, rfl⟩))
            go_round
            case rel =>
              refine ⟨m * 16 + dgV (c.toNat : Int), j + 1, by go_num, by go_num, by omega, by omega, by omega, ?_⟩
              have h := HJ.out
              rw [drop_at s j hjs, hc, dg_in hd hin] at h
              exact h
            case measure => simp [intOf]; omega
          | false =>
            have hE : R = none := by
              have h := HJ.out
              rw [drop_at s j hjs, hc, dg_out hd hin] at h
              exact h
            subst hE
            clear HJ
            go_wp2_with (first | (go_at_call 176; refine (digit_any _ _ c0 c1).mono ?_; rintro e w' ⟨rfl, rfl⟩) | (go_at_call 174; refine (in_any _ _).mono ?_; rintro e w' ⟨rfl, rfl⟩))
            refine (nan_any _).mono ?_
            rintro e w1 ⟨rfl, hb⟩
            obtain ⟨q0, q1, q2, f0, f1, f2, hz⟩ := three hb (by simp) (heap_alloc_new w _)
            have hB : Below w.heap.size w w1 := thr (bel1 w _) hb (by simp)
            go_wp2
            refine bodyPost_ret (v := .agg #[.int .i64 4, .int .i64 0, .string ⟨#[]⟩]) (by simp [results, Tryz.results150, go_sem, q0, q1, q2]) rfl ?_
            exact ⟨rfl, st3 hB (Nat.le_refl _)⟩
        · have hE : R = none := by
            have h := HJ.out
            rw [drop_at s j hjs, hc, dg_far hd] at h
            exact h
          subst hE
          clear HJ
          go_wp2_with (first | (go_at_call 176; refine (digit_any _ _ c0 c1).mono ?_; rintro e w' ⟨rfl, rfl⟩) | (go_at_call 174; refine (in_any _ _).mono ?_; rintro e w' ⟨rfl, rfl⟩))
          refine (nan_any _).mono ?_
          rintro e w1 ⟨rfl, hb⟩
          obtain ⟨q0, q1, q2, f0, f1, f2, hz⟩ := three hb (by simp) (heap_alloc_new w _)
          have hB : Below w.heap.size w w1 := thr (bel1 w _) hb (by simp)
          go_wp2
          refine bodyPost_ret (v := .agg #[.int .i64 4, .int .i64 0, .string ⟨#[]⟩]) (by simp [results, Tryz.results150, go_sem, q0, q1, q2]) rfl ?_
          exact ⟨rfl, st3 hB (Nat.le_refl _)⟩
      · have hE : R = some m := by
          have h := HJ.out
          rw [drop_end s j (by omega)] at h
          exact h
        subst hE
        clear HJ
        have hin : inB m = true := by unfold inB; simp; omega
        have O := fun W => of_any m W
        rw [(of_in hin).1, (of_in hin).2] at O
        have HO := Lib.hid O
        clear O
        show Code.wp _ _ _ _ _
        go_wp2_with fail
        refine (HO.out _).mono ?_
        rintro e w1 ⟨rfl, hb⟩
        obtain ⟨q0, q1, q2, f0, f1, f2, hz⟩ := three hb (by simp) (heap_alloc_new w _)
        have hB : Below w.heap.size w w1 := thr (bel1 w _) hb (by simp)
        go_wp2
        refine bodyPost_ret (v := .agg #[.int .i64 3, .int .i64 m, .string ⟨#[]⟩]) (by simp [results, Tryz.results150, go_sem, q0, q1, q2]) rfl ?_
        exact ⟨rfl, st3 hB (Nat.le_refl _)⟩
end Go.Proofs.YthkjdllpgcocpaaGreatDoor.num
