/-
  Digits of any int and Name of the reference, at this translation.
-/
import Derived.Test.YtppliplalfpmaaaDoorRD1
namespace Go.Proofs.YtppliplalfpmaaaDoor
open Go.RowKit

def dgE (k : Nat) : List UInt8 := if k = 0 then [] else Lib.decDigits k
theorem dgE_step (k : Nat) (h : 0 < k) : dgE k = dgE (k / 10) ++ [UInt8.ofNat (48 + k % 10)] := by
  unfold dgE
  rw [if_neg (by omega)]
  by_cases h10 : k < 10
  · rw [if_pos (by omega), dd_one k h10, show k % 10 = k from by omega]
    rfl
  · rw [if_neg (by omega), dd_more k h10]
theorem dgE_len (k : Nat) (hu : k < 18446744073709551616) : (dgE k).length ≤ 20 := by
  unfold dgE
  split
  · simp
  · exact dd_len k hu
set_option linter.unusedVariables false in
set_option maxRecDepth 100000 in
set_option maxHeartbeats 2000000 in
theorem rDig_any (n : Int) (w : World) (h0 : -9223372036854775808 ≤ n) (h1 : n ≤ 9223372036854775807) : Calls Tryd.prog 32 #[.int .i64 n] w fun e w' => e = .returned (.string ⟨(Lib.itoa n).toArray⟩) ∧ Below w.heap.size w w' := by
  by_cases hn : 0 ≤ n
  · obtain ⟨u, rfl⟩ : ∃ u : Nat, n = u := ⟨n.toNat, by omega⟩
    have hi : Lib.itoa (u : Int) = Lib.decDigits u := by unfold Lib.itoa; rw [if_neg (by omega)]; simp
    rw [hi]
    have g1 : decide ((0 : Int) ≤ (u : Int)) = true := decide_eq_true (by omega)
    have HD := Lib.hid (fun (W : World) => rdigits_any u u W (Nat.le_refl _) (by omega))
    clear hi
    go_enter Tryd.func32, Tryd.ntmps32
    go_wp2_with fail
    refine (HD.out _).mono ?_
    rintro e w2 ⟨rfl, m, rfl⟩
    go_wp2
    go_ret
    exact ⟨rfl, drewN_below (Below.refl _ _) _⟩
  · obtain ⟨K, rfl⟩ : ∃ K : Nat, n = -(K : Int) := ⟨n.natAbs, by omega⟩
    have hK : 0 < K ∧ K ≤ 9223372036854775808 := by omega
    have hi : Lib.itoa (-(K : Int)) = 45 :: dgE K := by
      unfold Lib.itoa dgE
      rw [if_pos (by omega), if_neg (by omega)]
      simp
    rw [hi]
    have g1 : decide ((0 : Int) ≤ -(K : Int)) = false := decide_eq_false (by omega)
    have hK2 := hK.2
    clear hi
    go_enter Tryd.func32, Tryd.ntmps32
    go_wp2
    go_loopw [0, 3] (fun v s wr => ∃ (k : Nat) (o : ByteArray), v = .int .i64 (-(k : Int)) ∧ s = .string o ∧ k ≤ K ∧ dgE K = dgE k ++ o.data.toList ∧ Below w.heap.size w wr) (fun v _ _ => match v with | .int _ z => (-z).toNat | _ => 0)
    case atStart => exact ⟨K, ⟨#[]⟩, rfl, rfl, Nat.le_refl _, by simp, Below.refl _ _⟩
    case round =>
      obtain ⟨k, o, rfl, rfl, hk, ho, hb⟩ := hrel
      have hoz : o.size ≤ 20 := by
        have h2 := dgE_len K (by omega)
        have h3 := congrArg List.length ho
        rw [List.length_append] at h3
        have h4 : o.data.toList.length = o.size := by rw [Array.length_toList]; rfl
        omega
      have HO := Lib.hid (And.intro ho hb)
      clear ho hb
      by_cases hk0 : 0 < k
      · have g2 : decide (-(k : Int) < 0) = true := decide_eq_true (by omega)
        have hm : Int.tmod (-(k : Int)) 10 = -((k : Int) % 10) := by
          rw [Int.neg_tmod, Int.tmod_eq_emod_of_nonneg (by omega)]
        have hq : Int.tdiv (-(k : Int)) 10 = -((k : Int) / 10) := by
          rw [Int.neg_tdiv, Int.tdiv_eq_ediv_of_nonneg (by omega)]
        have HD := Lib.hid (fun (W : World) => rdigits_any (k % 10) (k % 10) W (Nat.le_refl _) (by omega))
        have hc : (((k % 10 : Nat) : Int)) = (k : Int) % 10 := by omega
        rw [hc] at HD
        rw [dd_one (k % 10) (by omega)] at HD
        have hst := dgE_step k hk0
        have HST := Lib.hid hst
        clear hst hc
        go_wp2
        go_roundw
        case rel =>
          refine ⟨k / 10, digA.extract (k % 10) (k % 10 + 1) ++ o, by rw [Int.natCast_ediv]; rfl, rfl, by omega, ?_, HO.out.2⟩
          have h5 := dig1 (k % 10) (by omega)
          rw [HO.out.1, HST.out, ByteArray.data_append, Array.toList_append, h5, List.append_assoc]
        case measure => show (-(-((k : Int) / 10))).toNat < (-(-(k : Int))).toNat; omega
      · have g2 : decide (-(k : Int) < 0) = false := decide_eq_false (by omega)
        obtain rfl : k = 0 := by omega
        have hF : (⟨#[45]⟩ : ByteArray) ++ o = ⟨(45 :: dgE K).toArray⟩ := ByteArray.ext (Array.ext' (by rw [HO.out.1]; simp [dgE]))
        have HF := Lib.hid hF
        clear hF
        go_wp2
        go_ret
        exact ⟨ret_s HF.out, HO.out.2⟩
def nmB : List ByteArray := nmL.map fun z => ⟨z.toArray⟩
set_option linter.unusedVariables false in
set_option maxRecDepth 100000 in
set_option maxHeartbeats 2000000 in
theorem rName_any (op : Int) (w : World) : Calls Tryd.prog 21 #[.int .i64 op] w fun e w' => e = .returned (.string ⟨(nmOf op).toArray⟩) ∧ Below w.heap.size w w' := by
  obtain ⟨W1, hW1⟩ : ∃ W1, W1 = w.alloc (.cells nmC 9) := ⟨_, rfl⟩
  have hb1 : Below w.heap.size w W1 := by rw [hW1]; exact c_box w _
  have hx1 : W1.heap[w.heap.size]? = some (.cells nmC 9 (0, 0)) := by rw [hW1]; exact heap_alloc_new w _
  have HNS : Hid (Calls Tryd.prog 34 #[] w fun e w' => e = .returned (.slice (some ⟨w.heap.size, 0, none⟩) 65 65) ∧ w' = W1) := Lib.hid (by
    go_enter Tryd.func34, Tryd.ntmps34
    go_wp2
    go_ret
    exact ⟨rfl, hW1.symm⟩)
  have HX := Lib.hid (And.intro hb1 hx1)
  have hlt := c_lt hx1
  clear hb1 hx1 hW1
  by_cases h0 : op < 0
  · have hn : nmOf op = [] := by unfold nmOf; rw [if_neg (by omega)]
    rw [hn]
    have g1 : decide (op < 0) = true := decide_eq_true h0
    go_enter Tryd.func21, Tryd.ntmps21
    go_wp2_with fail
    refine HNS.out.mono ?_
    rintro e w2 ⟨rfl, rfl⟩
    go_wp2
    go_ret
    exact ⟨rfl, HX.out.1⟩
  · obtain ⟨k, rfl⟩ : ∃ k : Nat, op = k := ⟨op.toNat, by omega⟩
    have g1 : decide ((k : Int) < 0) = false := decide_eq_false (by omega)
    by_cases h1 : 65 ≤ k
    · have hn : nmOf k = [] := by unfold nmOf; rw [if_neg (by omega)]
      rw [hn]
      have g2 : decide ((65 : Int) ≤ (k : Int)) = true := decide_eq_true (by omega)
      go_enter Tryd.func21, Tryd.ntmps21
      go_wp2_with fail
      refine HNS.out.mono ?_
      rintro e w2 ⟨rfl, rfl⟩
      go_wp2
      go_ret
      exact ⟨rfl, HX.out.1⟩
    · have hn : nmOf k = nmL.getD k [] := by unfold nmOf; rw [if_pos (by omega)]; rfl
      rw [hn]
      have g2 : decide ((65 : Int) ≤ (k : Int)) = false := decide_eq_false (by omega)
      have g3 : (k : Int) < 65 := by omega
      have hc : W1.cell? ⟨w.heap.size, k, none⟩ = some (.string ⟨(nmL.getD k []).toArray⟩) := by
        refine (Lib.cell_of_heap HX.out.2 k).trans ?_
        have e : nmC = (nmL.map fun z => Value.string ⟨z.toArray⟩).toArray := rfl
        have hl : k < nmL.length := by simp [nmL]; omega
        rw [e]
        simp [List.getD, hl]
      go_enter Tryd.func21, Tryd.ntmps21
      go_wp2_with fail
      refine HNS.out.mono ?_
      rintro e w2 ⟨rfl, rfl⟩
      go_wp2
      go_ret
      exact ⟨rfl, HX.out.1⟩
end Go.Proofs.YtppliplalfpmaaaDoor
