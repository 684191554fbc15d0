/-
  Bits of the reference at this translation, operator by operator.
-/
import Derived.Test.YtokpmpmlbmpnmaaDoorBitsR
import Derived.Test.YtokpmpmlbmpnmaaDoorBits2
import Derived.Test.YtokpmpmlbmpnmaaDoorIs
namespace Go.Proofs.YtokpmpmlbmpnmaaDoor
open Go.RowKit

set_option maxRecDepth 100000 in
set_option maxHeartbeats 4000000 in
theorem rb_and_p (k n k' n' x y : Int) (c N : Nat) (s s' : ByteArray) (w : World) (H1 : Hid (∀ W, Calls Tryd.prog 39 #[.agg #[.int .i64 k, .int .i64 n, .string s]] W fun e w' => e = .returned (.int .i64 x) ∧ Below W.heap.size W w')) (H2 : Hid (∀ W, Calls Tryd.prog 39 #[.agg #[.int .i64 k', .int .i64 n', .string s']] W fun e w' => e = .returned (.int .i64 y) ∧ Below W.heap.size W w')) (HB : Hid (∀ i : Nat, i ≤ 31 → ∀ W, Calls Tryd.prog 40 #[.string ⟨#[38]⟩, .int .i64 x, .int .i64 y, .int .i64 c, .int .i64 i] W fun e w' => e = .returned (.int .i64 (bt N i : Nat)) ∧ W = w')) (hN : N < 4294967296)
    (hr : y.tmod 32 = (c : Int))  :
    Calls Tryd.prog 26 #[.string ⟨#[38]⟩, .agg #[.int .i64 k, .int .i64 n, .string s], .agg #[.int .i64 k', .int .i64 n', .string s']] w fun e w' => e = .returned (.agg #[.int .i64 3, .int .i64 (lo N), .string ⟨#[]⟩]) ∧ Below w.heap.size w w' := by
  have eN : ofK (N : Int) = 3 ∧ ofN (N : Int) = N := of_in (in_of (by omega) (by omega))
  have HO1 := Lib.hid (fun W => refof_any (N : Int) W)
  rw [eN.1, eN.2] at HO1
  have eL := lo_b N
  have eM : ofK (lo N) = 3 ∧ ofN (lo N) = lo N := of_in (in_of (by omega) (by omega))
  have HO2 := Lib.hid (fun W => refof_any (lo N) W)
  rw [eM.1, eM.2] at HO2
  have eW : lwV 3 (N : Int) ⟨#[]⟩ = lo N := by
    unfold lwV
    rw [(wh3 (N : Int) (in_of (by omega) (by omega))).2]
  have HL := Lib.hid (fun W => reflow_any 3 (N : Int) ⟨#[]⟩ W)
  rw [eW] at HL
  obtain ⟨z, hz⟩ : ∃ z, z = lo N := ⟨_, rfl⟩
  rw [← hz] at HO2 HL ⊢
  clear eN eM eW eL hz
  go_enter Tryd.func26, Tryd.ntmps26
  go_wp2_with fail
  refine cutQ (fin_bt26 ⟨#[38]⟩ k n k' n' x y s s' w w.heap.size _ _ _ _ _ _ _ _ _ _ _ _ _ _ _ _ _ _) ?_ (fun hR => reg_bt26 _ (fun _ _ _ _ _ h => h) ⟨#[38]⟩ k n k' n' x y s s' w w.heap.size _ _ _ _ _ _ _ _ _ _ _ _ _ _ _ _ _ _ (Lib.hid hR) H1 H2 _ (k2_of (bel3 w _ _ _).drew (old2 w _ _ _) (mid2 w _ _ _) ⟨_, _, _, blk2 w _ _ _⟩))
  rintro a U ⟨rfl, hU⟩
  obtain ⟨hB, ⟨_, _, _, _, _, hg⟩, _⟩ := hU
  clear H1 H2
  have HG := Lib.hid hg
  clear hg
  go_wp2_with fail
  clear hr 
  go_loop [10, 11] (fun v i => ∃ j : Nat, j ≤ 32 ∧ i = .int .i64 ((j : Int) - 1) ∧ v = .int .i64 ((N / 2 ^ j : Nat) : Int)) (fun _ i => (intOf i + 1).toNat)
  case atStart => exact ⟨32, by omega, by go_num, by rw [Nat.div_eq_of_lt (show N < 2 ^ 32 from hN)]; go_num⟩
  case round =>
    obtain ⟨j, hj, rfl, rfl⟩ := hrel
    cases j with
    | zero =>
      rw [show N / 2 ^ 0 = N from by simp, show ((0 : Nat) : Int) - 1 = -1 from by omega]
      go_wp2_with fail
      refine (HO1.out _).mono ?_
      rintro e V1 ⟨rfl, hb⟩
      have b1 := thr hB hb hB.size
      have g1 := kept hb (tri HG.out).2.2.2.2.2.2 HG.out
      have HG1 := Lib.hid g1
      clear hb g1 HG hB HO1
      go_wp2_with fail
      refine (HL.out _).mono ?_
      rintro e V2 ⟨rfl, hb⟩
      have b2 := thr b1 hb b1.size
      have g2 := kept hb (tri HG1.out).2.2.2.2.2.2 HG1.out
      have HG2 := Lib.hid g2
      clear hb g2 HG1 b1 HL
      go_wp2_with fail
      refine (HO2.out _).mono ?_
      rintro e V3 ⟨rfl, hb⟩
      have b3 := thr b2 hb b2.size
      have g3 := kept hb (tri HG2.out).2.2.2.2.2.2 HG2.out
      obtain ⟨q0, q1, q2, f0, f1, f2, hl⟩ := tri g3
      clear hb b2 HG2 HO2 HB
      go_wp2
      refine bodyPost_ret (v := .agg #[.int .i64 3, .int .i64 z, .string ⟨#[]⟩]) (by simp [results, Tryd.results26, go_sem, q0, q1, q2]) rfl ?_
      exact ⟨rfl, st3 b3 (by omega)⟩
    | succ m =>
      obtain ⟨Y, hY⟩ : ∃ Y, Y = N / 2 ^ (m + 1) := ⟨_, rfl⟩
      have hYl : Y < 4294967296 := by rw [hY]; exact Nat.lt_of_le_of_lt (Nat.div_le_self _ _) hN
      have hb1 := bt_01 N m
      have hrise := rise N m
      have HM := HB.out m (by omega)
      obtain ⟨b, hbb⟩ : ∃ b, b = bt N m := ⟨_, rfl⟩
      rw [← hY, ← hbb] at hrise
      rw [← hbb] at hb1 HM
      rw [← hY, show ((m + 1 : Nat) : Int) - 1 = m from by omega]
      have HR := Lib.hid hrise
      have HMM := Lib.hid HM
      have hb2 : b ≤ 1 := by omega
      clear hY hbb hrise HM hb1
      go_wp2_with fail
      refine (HMM.out _).mono ?_
      rintro e w' ⟨rfl, rfl⟩
      go_wp2
      go_round
      case rel => exact ⟨m, by omega, by go_num, by rw [← HR.out]; go_num⟩
      case measure => simp [intOf]

set_option maxRecDepth 100000 in
set_option maxHeartbeats 4000000 in
theorem rb_and_m (k n k' n' x y r : Int) (c N : Nat) (s s' : ByteArray) (w : World) (H1 : Hid (∀ W, Calls Tryd.prog 39 #[.agg #[.int .i64 k, .int .i64 n, .string s]] W fun e w' => e = .returned (.int .i64 x) ∧ Below W.heap.size W w')) (H2 : Hid (∀ W, Calls Tryd.prog 39 #[.agg #[.int .i64 k', .int .i64 n', .string s']] W fun e w' => e = .returned (.int .i64 y) ∧ Below W.heap.size W w')) (HB : Hid (∀ i : Nat, i ≤ 31 → ∀ W, Calls Tryd.prog 40 #[.string ⟨#[38]⟩, .int .i64 x, .int .i64 y, .int .i64 c, .int .i64 i] W fun e w' => e = .returned (.int .i64 (bt N i : Nat)) ∧ W = w')) (hN : N < 4294967296)
    (hr : y.tmod 32 = r) (r0 : r < 0) (r1 : -32 < r) (er : r + 32 = (c : Int)) :
    Calls Tryd.prog 26 #[.string ⟨#[38]⟩, .agg #[.int .i64 k, .int .i64 n, .string s], .agg #[.int .i64 k', .int .i64 n', .string s']] w fun e w' => e = .returned (.agg #[.int .i64 3, .int .i64 (lo N), .string ⟨#[]⟩]) ∧ Below w.heap.size w w' := by
  have eN : ofK (N : Int) = 3 ∧ ofN (N : Int) = N := of_in (in_of (by omega) (by omega))
  have HO1 := Lib.hid (fun W => refof_any (N : Int) W)
  rw [eN.1, eN.2] at HO1
  have eL := lo_b N
  have eM : ofK (lo N) = 3 ∧ ofN (lo N) = lo N := of_in (in_of (by omega) (by omega))
  have HO2 := Lib.hid (fun W => refof_any (lo N) W)
  rw [eM.1, eM.2] at HO2
  have eW : lwV 3 (N : Int) ⟨#[]⟩ = lo N := by
    unfold lwV
    rw [(wh3 (N : Int) (in_of (by omega) (by omega))).2]
  have HL := Lib.hid (fun W => reflow_any 3 (N : Int) ⟨#[]⟩ W)
  rw [eW] at HL
  obtain ⟨z, hz⟩ : ∃ z, z = lo N := ⟨_, rfl⟩
  rw [← hz] at HO2 HL ⊢
  clear eN eM eW eL hz
  go_enter Tryd.func26, Tryd.ntmps26
  go_wp2_with fail
  refine cutQ (fin_bt26 ⟨#[38]⟩ k n k' n' x y s s' w w.heap.size _ _ _ _ _ _ _ _ _ _ _ _ _ _ _ _ _ _) ?_ (fun hR => reg_bt26 _ (fun _ _ _ _ _ h => h) ⟨#[38]⟩ k n k' n' x y s s' w w.heap.size _ _ _ _ _ _ _ _ _ _ _ _ _ _ _ _ _ _ (Lib.hid hR) H1 H2 _ (k2_of (bel3 w _ _ _).drew (old2 w _ _ _) (mid2 w _ _ _) ⟨_, _, _, blk2 w _ _ _⟩))
  rintro a U ⟨rfl, hU⟩
  obtain ⟨hB, ⟨_, _, _, _, _, hg⟩, _⟩ := hU
  clear H1 H2
  have HG := Lib.hid hg
  clear hg
  go_wp2_with fail
  clear hr er r0 r1
  go_loop [10, 11] (fun v i => ∃ j : Nat, j ≤ 32 ∧ i = .int .i64 ((j : Int) - 1) ∧ v = .int .i64 ((N / 2 ^ j : Nat) : Int)) (fun _ i => (intOf i + 1).toNat)
  case atStart => exact ⟨32, by omega, by go_num, by rw [Nat.div_eq_of_lt (show N < 2 ^ 32 from hN)]; go_num⟩
  case round =>
    obtain ⟨j, hj, rfl, rfl⟩ := hrel
    cases j with
    | zero =>
      rw [show N / 2 ^ 0 = N from by simp, show ((0 : Nat) : Int) - 1 = -1 from by omega]
      go_wp2_with fail
      refine (HO1.out _).mono ?_
      rintro e V1 ⟨rfl, hb⟩
      have b1 := thr hB hb hB.size
      have g1 := kept hb (tri HG.out).2.2.2.2.2.2 HG.out
      have HG1 := Lib.hid g1
      clear hb g1 HG hB HO1
      go_wp2_with fail
      refine (HL.out _).mono ?_
      rintro e V2 ⟨rfl, hb⟩
      have b2 := thr b1 hb b1.size
      have g2 := kept hb (tri HG1.out).2.2.2.2.2.2 HG1.out
      have HG2 := Lib.hid g2
      clear hb g2 HG1 b1 HL
      go_wp2_with fail
      refine (HO2.out _).mono ?_
      rintro e V3 ⟨rfl, hb⟩
      have b3 := thr b2 hb b2.size
      have g3 := kept hb (tri HG2.out).2.2.2.2.2.2 HG2.out
      obtain ⟨q0, q1, q2, f0, f1, f2, hl⟩ := tri g3
      clear hb b2 HG2 HO2 HB
      go_wp2
      refine bodyPost_ret (v := .agg #[.int .i64 3, .int .i64 z, .string ⟨#[]⟩]) (by simp [results, Tryd.results26, go_sem, q0, q1, q2]) rfl ?_
      exact ⟨rfl, st3 b3 (by omega)⟩
    | succ m =>
      obtain ⟨Y, hY⟩ : ∃ Y, Y = N / 2 ^ (m + 1) := ⟨_, rfl⟩
      have hYl : Y < 4294967296 := by rw [hY]; exact Nat.lt_of_le_of_lt (Nat.div_le_self _ _) hN
      have hb1 := bt_01 N m
      have hrise := rise N m
      have HM := HB.out m (by omega)
      obtain ⟨b, hbb⟩ : ∃ b, b = bt N m := ⟨_, rfl⟩
      rw [← hY, ← hbb] at hrise
      rw [← hbb] at hb1 HM
      rw [← hY, show ((m + 1 : Nat) : Int) - 1 = m from by omega]
      have HR := Lib.hid hrise
      have HMM := Lib.hid HM
      have hb2 : b ≤ 1 := by omega
      clear hY hbb hrise HM hb1
      go_wp2_with fail
      refine (HMM.out _).mono ?_
      rintro e w' ⟨rfl, rfl⟩
      go_wp2
      go_round
      case rel => exact ⟨m, by omega, by go_num, by rw [← HR.out]; go_num⟩
      case measure => simp [intOf]

set_option maxRecDepth 100000 in
set_option maxHeartbeats 4000000 in
theorem rb_or_p (k n k' n' x y : Int) (c N : Nat) (s s' : ByteArray) (w : World) (H1 : Hid (∀ W, Calls Tryd.prog 39 #[.agg #[.int .i64 k, .int .i64 n, .string s]] W fun e w' => e = .returned (.int .i64 x) ∧ Below W.heap.size W w')) (H2 : Hid (∀ W, Calls Tryd.prog 39 #[.agg #[.int .i64 k', .int .i64 n', .string s']] W fun e w' => e = .returned (.int .i64 y) ∧ Below W.heap.size W w')) (HB : Hid (∀ i : Nat, i ≤ 31 → ∀ W, Calls Tryd.prog 40 #[.string ⟨#[124]⟩, .int .i64 x, .int .i64 y, .int .i64 c, .int .i64 i] W fun e w' => e = .returned (.int .i64 (bt N i : Nat)) ∧ W = w')) (hN : N < 4294967296)
    (hr : y.tmod 32 = (c : Int))  :
    Calls Tryd.prog 26 #[.string ⟨#[124]⟩, .agg #[.int .i64 k, .int .i64 n, .string s], .agg #[.int .i64 k', .int .i64 n', .string s']] w fun e w' => e = .returned (.agg #[.int .i64 3, .int .i64 (lo N), .string ⟨#[]⟩]) ∧ Below w.heap.size w w' := by
  have eN : ofK (N : Int) = 3 ∧ ofN (N : Int) = N := of_in (in_of (by omega) (by omega))
  have HO1 := Lib.hid (fun W => refof_any (N : Int) W)
  rw [eN.1, eN.2] at HO1
  have eL := lo_b N
  have eM : ofK (lo N) = 3 ∧ ofN (lo N) = lo N := of_in (in_of (by omega) (by omega))
  have HO2 := Lib.hid (fun W => refof_any (lo N) W)
  rw [eM.1, eM.2] at HO2
  have eW : lwV 3 (N : Int) ⟨#[]⟩ = lo N := by
    unfold lwV
    rw [(wh3 (N : Int) (in_of (by omega) (by omega))).2]
  have HL := Lib.hid (fun W => reflow_any 3 (N : Int) ⟨#[]⟩ W)
  rw [eW] at HL
  obtain ⟨z, hz⟩ : ∃ z, z = lo N := ⟨_, rfl⟩
  rw [← hz] at HO2 HL ⊢
  clear eN eM eW eL hz
  go_enter Tryd.func26, Tryd.ntmps26
  go_wp2_with fail
  refine cutQ (fin_bt26 ⟨#[124]⟩ k n k' n' x y s s' w w.heap.size _ _ _ _ _ _ _ _ _ _ _ _ _ _ _ _ _ _) ?_ (fun hR => reg_bt26 _ (fun _ _ _ _ _ h => h) ⟨#[124]⟩ k n k' n' x y s s' w w.heap.size _ _ _ _ _ _ _ _ _ _ _ _ _ _ _ _ _ _ (Lib.hid hR) H1 H2 _ (k2_of (bel3 w _ _ _).drew (old2 w _ _ _) (mid2 w _ _ _) ⟨_, _, _, blk2 w _ _ _⟩))
  rintro a U ⟨rfl, hU⟩
  obtain ⟨hB, ⟨_, _, _, _, _, hg⟩, _⟩ := hU
  clear H1 H2
  have HG := Lib.hid hg
  clear hg
  go_wp2_with fail
  clear hr 
  go_loop [10, 11] (fun v i => ∃ j : Nat, j ≤ 32 ∧ i = .int .i64 ((j : Int) - 1) ∧ v = .int .i64 ((N / 2 ^ j : Nat) : Int)) (fun _ i => (intOf i + 1).toNat)
  case atStart => exact ⟨32, by omega, by go_num, by rw [Nat.div_eq_of_lt (show N < 2 ^ 32 from hN)]; go_num⟩
  case round =>
    obtain ⟨j, hj, rfl, rfl⟩ := hrel
    cases j with
    | zero =>
      rw [show N / 2 ^ 0 = N from by simp, show ((0 : Nat) : Int) - 1 = -1 from by omega]
      go_wp2_with fail
      refine (HO1.out _).mono ?_
      rintro e V1 ⟨rfl, hb⟩
      have b1 := thr hB hb hB.size
      have g1 := kept hb (tri HG.out).2.2.2.2.2.2 HG.out
      have HG1 := Lib.hid g1
      clear hb g1 HG hB HO1
      go_wp2_with fail
      refine (HL.out _).mono ?_
      rintro e V2 ⟨rfl, hb⟩
      have b2 := thr b1 hb b1.size
      have g2 := kept hb (tri HG1.out).2.2.2.2.2.2 HG1.out
      have HG2 := Lib.hid g2
      clear hb g2 HG1 b1 HL
      go_wp2_with fail
      refine (HO2.out _).mono ?_
      rintro e V3 ⟨rfl, hb⟩
      have b3 := thr b2 hb b2.size
      have g3 := kept hb (tri HG2.out).2.2.2.2.2.2 HG2.out
      obtain ⟨q0, q1, q2, f0, f1, f2, hl⟩ := tri g3
      clear hb b2 HG2 HO2 HB
      go_wp2
      refine bodyPost_ret (v := .agg #[.int .i64 3, .int .i64 z, .string ⟨#[]⟩]) (by simp [results, Tryd.results26, go_sem, q0, q1, q2]) rfl ?_
      exact ⟨rfl, st3 b3 (by omega)⟩
    | succ m =>
      obtain ⟨Y, hY⟩ : ∃ Y, Y = N / 2 ^ (m + 1) := ⟨_, rfl⟩
      have hYl : Y < 4294967296 := by rw [hY]; exact Nat.lt_of_le_of_lt (Nat.div_le_self _ _) hN
      have hb1 := bt_01 N m
      have hrise := rise N m
      have HM := HB.out m (by omega)
      obtain ⟨b, hbb⟩ : ∃ b, b = bt N m := ⟨_, rfl⟩
      rw [← hY, ← hbb] at hrise
      rw [← hbb] at hb1 HM
      rw [← hY, show ((m + 1 : Nat) : Int) - 1 = m from by omega]
      have HR := Lib.hid hrise
      have HMM := Lib.hid HM
      have hb2 : b ≤ 1 := by omega
      clear hY hbb hrise HM hb1
      go_wp2_with fail
      refine (HMM.out _).mono ?_
      rintro e w' ⟨rfl, rfl⟩
      go_wp2
      go_round
      case rel => exact ⟨m, by omega, by go_num, by rw [← HR.out]; go_num⟩
      case measure => simp [intOf]

set_option maxRecDepth 100000 in
set_option maxHeartbeats 4000000 in
theorem rb_or_m (k n k' n' x y r : Int) (c N : Nat) (s s' : ByteArray) (w : World) (H1 : Hid (∀ W, Calls Tryd.prog 39 #[.agg #[.int .i64 k, .int .i64 n, .string s]] W fun e w' => e = .returned (.int .i64 x) ∧ Below W.heap.size W w')) (H2 : Hid (∀ W, Calls Tryd.prog 39 #[.agg #[.int .i64 k', .int .i64 n', .string s']] W fun e w' => e = .returned (.int .i64 y) ∧ Below W.heap.size W w')) (HB : Hid (∀ i : Nat, i ≤ 31 → ∀ W, Calls Tryd.prog 40 #[.string ⟨#[124]⟩, .int .i64 x, .int .i64 y, .int .i64 c, .int .i64 i] W fun e w' => e = .returned (.int .i64 (bt N i : Nat)) ∧ W = w')) (hN : N < 4294967296)
    (hr : y.tmod 32 = r) (r0 : r < 0) (r1 : -32 < r) (er : r + 32 = (c : Int)) :
    Calls Tryd.prog 26 #[.string ⟨#[124]⟩, .agg #[.int .i64 k, .int .i64 n, .string s], .agg #[.int .i64 k', .int .i64 n', .string s']] w fun e w' => e = .returned (.agg #[.int .i64 3, .int .i64 (lo N), .string ⟨#[]⟩]) ∧ Below w.heap.size w w' := by
  have eN : ofK (N : Int) = 3 ∧ ofN (N : Int) = N := of_in (in_of (by omega) (by omega))
  have HO1 := Lib.hid (fun W => refof_any (N : Int) W)
  rw [eN.1, eN.2] at HO1
  have eL := lo_b N
  have eM : ofK (lo N) = 3 ∧ ofN (lo N) = lo N := of_in (in_of (by omega) (by omega))
  have HO2 := Lib.hid (fun W => refof_any (lo N) W)
  rw [eM.1, eM.2] at HO2
  have eW : lwV 3 (N : Int) ⟨#[]⟩ = lo N := by
    unfold lwV
    rw [(wh3 (N : Int) (in_of (by omega) (by omega))).2]
  have HL := Lib.hid (fun W => reflow_any 3 (N : Int) ⟨#[]⟩ W)
  rw [eW] at HL
  obtain ⟨z, hz⟩ : ∃ z, z = lo N := ⟨_, rfl⟩
  rw [← hz] at HO2 HL ⊢
  clear eN eM eW eL hz
  go_enter Tryd.func26, Tryd.ntmps26
  go_wp2_with fail
  refine cutQ (fin_bt26 ⟨#[124]⟩ k n k' n' x y s s' w w.heap.size _ _ _ _ _ _ _ _ _ _ _ _ _ _ _ _ _ _) ?_ (fun hR => reg_bt26 _ (fun _ _ _ _ _ h => h) ⟨#[124]⟩ k n k' n' x y s s' w w.heap.size _ _ _ _ _ _ _ _ _ _ _ _ _ _ _ _ _ _ (Lib.hid hR) H1 H2 _ (k2_of (bel3 w _ _ _).drew (old2 w _ _ _) (mid2 w _ _ _) ⟨_, _, _, blk2 w _ _ _⟩))
  rintro a U ⟨rfl, hU⟩
  obtain ⟨hB, ⟨_, _, _, _, _, hg⟩, _⟩ := hU
  clear H1 H2
  have HG := Lib.hid hg
  clear hg
  go_wp2_with fail
  clear hr er r0 r1
  go_loop [10, 11] (fun v i => ∃ j : Nat, j ≤ 32 ∧ i = .int .i64 ((j : Int) - 1) ∧ v = .int .i64 ((N / 2 ^ j : Nat) : Int)) (fun _ i => (intOf i + 1).toNat)
  case atStart => exact ⟨32, by omega, by go_num, by rw [Nat.div_eq_of_lt (show N < 2 ^ 32 from hN)]; go_num⟩
  case round =>
    obtain ⟨j, hj, rfl, rfl⟩ := hrel
    cases j with
    | zero =>
      rw [show N / 2 ^ 0 = N from by simp, show ((0 : Nat) : Int) - 1 = -1 from by omega]
      go_wp2_with fail
      refine (HO1.out _).mono ?_
      rintro e V1 ⟨rfl, hb⟩
      have b1 := thr hB hb hB.size
      have g1 := kept hb (tri HG.out).2.2.2.2.2.2 HG.out
      have HG1 := Lib.hid g1
      clear hb g1 HG hB HO1
      go_wp2_with fail
      refine (HL.out _).mono ?_
      rintro e V2 ⟨rfl, hb⟩
      have b2 := thr b1 hb b1.size
      have g2 := kept hb (tri HG1.out).2.2.2.2.2.2 HG1.out
      have HG2 := Lib.hid g2
      clear hb g2 HG1 b1 HL
      go_wp2_with fail
      refine (HO2.out _).mono ?_
      rintro e V3 ⟨rfl, hb⟩
      have b3 := thr b2 hb b2.size
      have g3 := kept hb (tri HG2.out).2.2.2.2.2.2 HG2.out
      obtain ⟨q0, q1, q2, f0, f1, f2, hl⟩ := tri g3
      clear hb b2 HG2 HO2 HB
      go_wp2
      refine bodyPost_ret (v := .agg #[.int .i64 3, .int .i64 z, .string ⟨#[]⟩]) (by simp [results, Tryd.results26, go_sem, q0, q1, q2]) rfl ?_
      exact ⟨rfl, st3 b3 (by omega)⟩
    | succ m =>
      obtain ⟨Y, hY⟩ : ∃ Y, Y = N / 2 ^ (m + 1) := ⟨_, rfl⟩
      have hYl : Y < 4294967296 := by rw [hY]; exact Nat.lt_of_le_of_lt (Nat.div_le_self _ _) hN
      have hb1 := bt_01 N m
      have hrise := rise N m
      have HM := HB.out m (by omega)
      obtain ⟨b, hbb⟩ : ∃ b, b = bt N m := ⟨_, rfl⟩
      rw [← hY, ← hbb] at hrise
      rw [← hbb] at hb1 HM
      rw [← hY, show ((m + 1 : Nat) : Int) - 1 = m from by omega]
      have HR := Lib.hid hrise
      have HMM := Lib.hid HM
      have hb2 : b ≤ 1 := by omega
      clear hY hbb hrise HM hb1
      go_wp2_with fail
      refine (HMM.out _).mono ?_
      rintro e w' ⟨rfl, rfl⟩
      go_wp2
      go_round
      case rel => exact ⟨m, by omega, by go_num, by rw [← HR.out]; go_num⟩
      case measure => simp [intOf]

set_option maxRecDepth 100000 in
set_option maxHeartbeats 4000000 in
theorem rb_xor_p (k n k' n' x y : Int) (c N : Nat) (s s' : ByteArray) (w : World) (H1 : Hid (∀ W, Calls Tryd.prog 39 #[.agg #[.int .i64 k, .int .i64 n, .string s]] W fun e w' => e = .returned (.int .i64 x) ∧ Below W.heap.size W w')) (H2 : Hid (∀ W, Calls Tryd.prog 39 #[.agg #[.int .i64 k', .int .i64 n', .string s']] W fun e w' => e = .returned (.int .i64 y) ∧ Below W.heap.size W w')) (HB : Hid (∀ i : Nat, i ≤ 31 → ∀ W, Calls Tryd.prog 40 #[.string ⟨#[94]⟩, .int .i64 x, .int .i64 y, .int .i64 c, .int .i64 i] W fun e w' => e = .returned (.int .i64 (bt N i : Nat)) ∧ W = w')) (hN : N < 4294967296)
    (hr : y.tmod 32 = (c : Int))  :
    Calls Tryd.prog 26 #[.string ⟨#[94]⟩, .agg #[.int .i64 k, .int .i64 n, .string s], .agg #[.int .i64 k', .int .i64 n', .string s']] w fun e w' => e = .returned (.agg #[.int .i64 3, .int .i64 (lo N), .string ⟨#[]⟩]) ∧ Below w.heap.size w w' := by
  have eN : ofK (N : Int) = 3 ∧ ofN (N : Int) = N := of_in (in_of (by omega) (by omega))
  have HO1 := Lib.hid (fun W => refof_any (N : Int) W)
  rw [eN.1, eN.2] at HO1
  have eL := lo_b N
  have eM : ofK (lo N) = 3 ∧ ofN (lo N) = lo N := of_in (in_of (by omega) (by omega))
  have HO2 := Lib.hid (fun W => refof_any (lo N) W)
  rw [eM.1, eM.2] at HO2
  have eW : lwV 3 (N : Int) ⟨#[]⟩ = lo N := by
    unfold lwV
    rw [(wh3 (N : Int) (in_of (by omega) (by omega))).2]
  have HL := Lib.hid (fun W => reflow_any 3 (N : Int) ⟨#[]⟩ W)
  rw [eW] at HL
  obtain ⟨z, hz⟩ : ∃ z, z = lo N := ⟨_, rfl⟩
  rw [← hz] at HO2 HL ⊢
  clear eN eM eW eL hz
  go_enter Tryd.func26, Tryd.ntmps26
  go_wp2_with fail
  refine cutQ (fin_bt26 ⟨#[94]⟩ k n k' n' x y s s' w w.heap.size _ _ _ _ _ _ _ _ _ _ _ _ _ _ _ _ _ _) ?_ (fun hR => reg_bt26 _ (fun _ _ _ _ _ h => h) ⟨#[94]⟩ k n k' n' x y s s' w w.heap.size _ _ _ _ _ _ _ _ _ _ _ _ _ _ _ _ _ _ (Lib.hid hR) H1 H2 _ (k2_of (bel3 w _ _ _).drew (old2 w _ _ _) (mid2 w _ _ _) ⟨_, _, _, blk2 w _ _ _⟩))
  rintro a U ⟨rfl, hU⟩
  obtain ⟨hB, ⟨_, _, _, _, _, hg⟩, _⟩ := hU
  clear H1 H2
  have HG := Lib.hid hg
  clear hg
  go_wp2_with fail
  clear hr 
  go_loop [10, 11] (fun v i => ∃ j : Nat, j ≤ 32 ∧ i = .int .i64 ((j : Int) - 1) ∧ v = .int .i64 ((N / 2 ^ j : Nat) : Int)) (fun _ i => (intOf i + 1).toNat)
  case atStart => exact ⟨32, by omega, by go_num, by rw [Nat.div_eq_of_lt (show N < 2 ^ 32 from hN)]; go_num⟩
  case round =>
    obtain ⟨j, hj, rfl, rfl⟩ := hrel
    cases j with
    | zero =>
      rw [show N / 2 ^ 0 = N from by simp, show ((0 : Nat) : Int) - 1 = -1 from by omega]
      go_wp2_with fail
      refine (HO1.out _).mono ?_
      rintro e V1 ⟨rfl, hb⟩
      have b1 := thr hB hb hB.size
      have g1 := kept hb (tri HG.out).2.2.2.2.2.2 HG.out
      have HG1 := Lib.hid g1
      clear hb g1 HG hB HO1
      go_wp2_with fail
      refine (HL.out _).mono ?_
      rintro e V2 ⟨rfl, hb⟩
      have b2 := thr b1 hb b1.size
      have g2 := kept hb (tri HG1.out).2.2.2.2.2.2 HG1.out
      have HG2 := Lib.hid g2
      clear hb g2 HG1 b1 HL
      go_wp2_with fail
      refine (HO2.out _).mono ?_
      rintro e V3 ⟨rfl, hb⟩
      have b3 := thr b2 hb b2.size
      have g3 := kept hb (tri HG2.out).2.2.2.2.2.2 HG2.out
      obtain ⟨q0, q1, q2, f0, f1, f2, hl⟩ := tri g3
      clear hb b2 HG2 HO2 HB
      go_wp2
      refine bodyPost_ret (v := .agg #[.int .i64 3, .int .i64 z, .string ⟨#[]⟩]) (by simp [results, Tryd.results26, go_sem, q0, q1, q2]) rfl ?_
      exact ⟨rfl, st3 b3 (by omega)⟩
    | succ m =>
      obtain ⟨Y, hY⟩ : ∃ Y, Y = N / 2 ^ (m + 1) := ⟨_, rfl⟩
      have hYl : Y < 4294967296 := by rw [hY]; exact Nat.lt_of_le_of_lt (Nat.div_le_self _ _) hN
      have hb1 := bt_01 N m
      have hrise := rise N m
      have HM := HB.out m (by omega)
      obtain ⟨b, hbb⟩ : ∃ b, b = bt N m := ⟨_, rfl⟩
      rw [← hY, ← hbb] at hrise
      rw [← hbb] at hb1 HM
      rw [← hY, show ((m + 1 : Nat) : Int) - 1 = m from by omega]
      have HR := Lib.hid hrise
      have HMM := Lib.hid HM
      have hb2 : b ≤ 1 := by omega
      clear hY hbb hrise HM hb1
      go_wp2_with fail
      refine (HMM.out _).mono ?_
      rintro e w' ⟨rfl, rfl⟩
      go_wp2
      go_round
      case rel => exact ⟨m, by omega, by go_num, by rw [← HR.out]; go_num⟩
      case measure => simp [intOf]

set_option maxRecDepth 100000 in
set_option maxHeartbeats 4000000 in
theorem rb_xor_m (k n k' n' x y r : Int) (c N : Nat) (s s' : ByteArray) (w : World) (H1 : Hid (∀ W, Calls Tryd.prog 39 #[.agg #[.int .i64 k, .int .i64 n, .string s]] W fun e w' => e = .returned (.int .i64 x) ∧ Below W.heap.size W w')) (H2 : Hid (∀ W, Calls Tryd.prog 39 #[.agg #[.int .i64 k', .int .i64 n', .string s']] W fun e w' => e = .returned (.int .i64 y) ∧ Below W.heap.size W w')) (HB : Hid (∀ i : Nat, i ≤ 31 → ∀ W, Calls Tryd.prog 40 #[.string ⟨#[94]⟩, .int .i64 x, .int .i64 y, .int .i64 c, .int .i64 i] W fun e w' => e = .returned (.int .i64 (bt N i : Nat)) ∧ W = w')) (hN : N < 4294967296)
    (hr : y.tmod 32 = r) (r0 : r < 0) (r1 : -32 < r) (er : r + 32 = (c : Int)) :
    Calls Tryd.prog 26 #[.string ⟨#[94]⟩, .agg #[.int .i64 k, .int .i64 n, .string s], .agg #[.int .i64 k', .int .i64 n', .string s']] w fun e w' => e = .returned (.agg #[.int .i64 3, .int .i64 (lo N), .string ⟨#[]⟩]) ∧ Below w.heap.size w w' := by
  have eN : ofK (N : Int) = 3 ∧ ofN (N : Int) = N := of_in (in_of (by omega) (by omega))
  have HO1 := Lib.hid (fun W => refof_any (N : Int) W)
  rw [eN.1, eN.2] at HO1
  have eL := lo_b N
  have eM : ofK (lo N) = 3 ∧ ofN (lo N) = lo N := of_in (in_of (by omega) (by omega))
  have HO2 := Lib.hid (fun W => refof_any (lo N) W)
  rw [eM.1, eM.2] at HO2
  have eW : lwV 3 (N : Int) ⟨#[]⟩ = lo N := by
    unfold lwV
    rw [(wh3 (N : Int) (in_of (by omega) (by omega))).2]
  have HL := Lib.hid (fun W => reflow_any 3 (N : Int) ⟨#[]⟩ W)
  rw [eW] at HL
  obtain ⟨z, hz⟩ : ∃ z, z = lo N := ⟨_, rfl⟩
  rw [← hz] at HO2 HL ⊢
  clear eN eM eW eL hz
  go_enter Tryd.func26, Tryd.ntmps26
  go_wp2_with fail
  refine cutQ (fin_bt26 ⟨#[94]⟩ k n k' n' x y s s' w w.heap.size _ _ _ _ _ _ _ _ _ _ _ _ _ _ _ _ _ _) ?_ (fun hR => reg_bt26 _ (fun _ _ _ _ _ h => h) ⟨#[94]⟩ k n k' n' x y s s' w w.heap.size _ _ _ _ _ _ _ _ _ _ _ _ _ _ _ _ _ _ (Lib.hid hR) H1 H2 _ (k2_of (bel3 w _ _ _).drew (old2 w _ _ _) (mid2 w _ _ _) ⟨_, _, _, blk2 w _ _ _⟩))
  rintro a U ⟨rfl, hU⟩
  obtain ⟨hB, ⟨_, _, _, _, _, hg⟩, _⟩ := hU
  clear H1 H2
  have HG := Lib.hid hg
  clear hg
  go_wp2_with fail
  clear hr er r0 r1
  go_loop [10, 11] (fun v i => ∃ j : Nat, j ≤ 32 ∧ i = .int .i64 ((j : Int) - 1) ∧ v = .int .i64 ((N / 2 ^ j : Nat) : Int)) (fun _ i => (intOf i + 1).toNat)
  case atStart => exact ⟨32, by omega, by go_num, by rw [Nat.div_eq_of_lt (show N < 2 ^ 32 from hN)]; go_num⟩
  case round =>
    obtain ⟨j, hj, rfl, rfl⟩ := hrel
    cases j with
    | zero =>
      rw [show N / 2 ^ 0 = N from by simp, show ((0 : Nat) : Int) - 1 = -1 from by omega]
      go_wp2_with fail
      refine (HO1.out _).mono ?_
      rintro e V1 ⟨rfl, hb⟩
      have b1 := thr hB hb hB.size
      have g1 := kept hb (tri HG.out).2.2.2.2.2.2 HG.out
      have HG1 := Lib.hid g1
      clear hb g1 HG hB HO1
      go_wp2_with fail
      refine (HL.out _).mono ?_
      rintro e V2 ⟨rfl, hb⟩
      have b2 := thr b1 hb b1.size
      have g2 := kept hb (tri HG1.out).2.2.2.2.2.2 HG1.out
      have HG2 := Lib.hid g2
      clear hb g2 HG1 b1 HL
      go_wp2_with fail
      refine (HO2.out _).mono ?_
      rintro e V3 ⟨rfl, hb⟩
      have b3 := thr b2 hb b2.size
      have g3 := kept hb (tri HG2.out).2.2.2.2.2.2 HG2.out
      obtain ⟨q0, q1, q2, f0, f1, f2, hl⟩ := tri g3
      clear hb b2 HG2 HO2 HB
      go_wp2
      refine bodyPost_ret (v := .agg #[.int .i64 3, .int .i64 z, .string ⟨#[]⟩]) (by simp [results, Tryd.results26, go_sem, q0, q1, q2]) rfl ?_
      exact ⟨rfl, st3 b3 (by omega)⟩
    | succ m =>
      obtain ⟨Y, hY⟩ : ∃ Y, Y = N / 2 ^ (m + 1) := ⟨_, rfl⟩
      have hYl : Y < 4294967296 := by rw [hY]; exact Nat.lt_of_le_of_lt (Nat.div_le_self _ _) hN
      have hb1 := bt_01 N m
      have hrise := rise N m
      have HM := HB.out m (by omega)
      obtain ⟨b, hbb⟩ : ∃ b, b = bt N m := ⟨_, rfl⟩
      rw [← hY, ← hbb] at hrise
      rw [← hbb] at hb1 HM
      rw [← hY, show ((m + 1 : Nat) : Int) - 1 = m from by omega]
      have HR := Lib.hid hrise
      have HMM := Lib.hid HM
      have hb2 : b ≤ 1 := by omega
      clear hY hbb hrise HM hb1
      go_wp2_with fail
      refine (HMM.out _).mono ?_
      rintro e w' ⟨rfl, rfl⟩
      go_wp2
      go_round
      case rel => exact ⟨m, by omega, by go_num, by rw [← HR.out]; go_num⟩
      case measure => simp [intOf]

set_option maxRecDepth 100000 in
set_option maxHeartbeats 4000000 in
theorem rb_shl_p (k n k' n' x y : Int) (c N : Nat) (s s' : ByteArray) (w : World) (H1 : Hid (∀ W, Calls Tryd.prog 39 #[.agg #[.int .i64 k, .int .i64 n, .string s]] W fun e w' => e = .returned (.int .i64 x) ∧ Below W.heap.size W w')) (H2 : Hid (∀ W, Calls Tryd.prog 39 #[.agg #[.int .i64 k', .int .i64 n', .string s']] W fun e w' => e = .returned (.int .i64 y) ∧ Below W.heap.size W w')) (HB : Hid (∀ i : Nat, i ≤ 31 → ∀ W, Calls Tryd.prog 40 #[.string ⟨#[60, 60]⟩, .int .i64 x, .int .i64 y, .int .i64 c, .int .i64 i] W fun e w' => e = .returned (.int .i64 (bt N i : Nat)) ∧ W = w')) (hN : N < 4294967296)
    (hr : y.tmod 32 = (c : Int))  :
    Calls Tryd.prog 26 #[.string ⟨#[60, 60]⟩, .agg #[.int .i64 k, .int .i64 n, .string s], .agg #[.int .i64 k', .int .i64 n', .string s']] w fun e w' => e = .returned (.agg #[.int .i64 3, .int .i64 (lo N), .string ⟨#[]⟩]) ∧ Below w.heap.size w w' := by
  have eN : ofK (N : Int) = 3 ∧ ofN (N : Int) = N := of_in (in_of (by omega) (by omega))
  have HO1 := Lib.hid (fun W => refof_any (N : Int) W)
  rw [eN.1, eN.2] at HO1
  have eL := lo_b N
  have eM : ofK (lo N) = 3 ∧ ofN (lo N) = lo N := of_in (in_of (by omega) (by omega))
  have HO2 := Lib.hid (fun W => refof_any (lo N) W)
  rw [eM.1, eM.2] at HO2
  have eW : lwV 3 (N : Int) ⟨#[]⟩ = lo N := by
    unfold lwV
    rw [(wh3 (N : Int) (in_of (by omega) (by omega))).2]
  have HL := Lib.hid (fun W => reflow_any 3 (N : Int) ⟨#[]⟩ W)
  rw [eW] at HL
  obtain ⟨z, hz⟩ : ∃ z, z = lo N := ⟨_, rfl⟩
  rw [← hz] at HO2 HL ⊢
  clear eN eM eW eL hz
  go_enter Tryd.func26, Tryd.ntmps26
  go_wp2_with fail
  refine cutQ (fin_bt26 ⟨#[60, 60]⟩ k n k' n' x y s s' w w.heap.size _ _ _ _ _ _ _ _ _ _ _ _ _ _ _ _ _ _) ?_ (fun hR => reg_bt26 _ (fun _ _ _ _ _ h => h) ⟨#[60, 60]⟩ k n k' n' x y s s' w w.heap.size _ _ _ _ _ _ _ _ _ _ _ _ _ _ _ _ _ _ (Lib.hid hR) H1 H2 _ (k2_of (bel3 w _ _ _).drew (old2 w _ _ _) (mid2 w _ _ _) ⟨_, _, _, blk2 w _ _ _⟩))
  rintro a U ⟨rfl, hU⟩
  obtain ⟨hB, ⟨_, _, _, _, _, hg⟩, _⟩ := hU
  clear H1 H2
  have HG := Lib.hid hg
  clear hg
  go_wp2_with fail
  clear hr 
  go_loop [10, 11] (fun v i => ∃ j : Nat, j ≤ 32 ∧ i = .int .i64 ((j : Int) - 1) ∧ v = .int .i64 ((N / 2 ^ j : Nat) : Int)) (fun _ i => (intOf i + 1).toNat)
  case atStart => exact ⟨32, by omega, by go_num, by rw [Nat.div_eq_of_lt (show N < 2 ^ 32 from hN)]; go_num⟩
  case round =>
    obtain ⟨j, hj, rfl, rfl⟩ := hrel
    cases j with
    | zero =>
      rw [show N / 2 ^ 0 = N from by simp, show ((0 : Nat) : Int) - 1 = -1 from by omega]
      go_wp2_with fail
      refine (HO1.out _).mono ?_
      rintro e V1 ⟨rfl, hb⟩
      have b1 := thr hB hb hB.size
      have g1 := kept hb (tri HG.out).2.2.2.2.2.2 HG.out
      have HG1 := Lib.hid g1
      clear hb g1 HG hB HO1
      go_wp2_with fail
      refine (HL.out _).mono ?_
      rintro e V2 ⟨rfl, hb⟩
      have b2 := thr b1 hb b1.size
      have g2 := kept hb (tri HG1.out).2.2.2.2.2.2 HG1.out
      have HG2 := Lib.hid g2
      clear hb g2 HG1 b1 HL
      go_wp2_with fail
      refine (HO2.out _).mono ?_
      rintro e V3 ⟨rfl, hb⟩
      have b3 := thr b2 hb b2.size
      have g3 := kept hb (tri HG2.out).2.2.2.2.2.2 HG2.out
      obtain ⟨q0, q1, q2, f0, f1, f2, hl⟩ := tri g3
      clear hb b2 HG2 HO2 HB
      go_wp2
      refine bodyPost_ret (v := .agg #[.int .i64 3, .int .i64 z, .string ⟨#[]⟩]) (by simp [results, Tryd.results26, go_sem, q0, q1, q2]) rfl ?_
      exact ⟨rfl, st3 b3 (by omega)⟩
    | succ m =>
      obtain ⟨Y, hY⟩ : ∃ Y, Y = N / 2 ^ (m + 1) := ⟨_, rfl⟩
      have hYl : Y < 4294967296 := by rw [hY]; exact Nat.lt_of_le_of_lt (Nat.div_le_self _ _) hN
      have hb1 := bt_01 N m
      have hrise := rise N m
      have HM := HB.out m (by omega)
      obtain ⟨b, hbb⟩ : ∃ b, b = bt N m := ⟨_, rfl⟩
      rw [← hY, ← hbb] at hrise
      rw [← hbb] at hb1 HM
      rw [← hY, show ((m + 1 : Nat) : Int) - 1 = m from by omega]
      have HR := Lib.hid hrise
      have HMM := Lib.hid HM
      have hb2 : b ≤ 1 := by omega
      clear hY hbb hrise HM hb1
      go_wp2_with fail
      refine (HMM.out _).mono ?_
      rintro e w' ⟨rfl, rfl⟩
      go_wp2
      go_round
      case rel => exact ⟨m, by omega, by go_num, by rw [← HR.out]; go_num⟩
      case measure => simp [intOf]

set_option maxRecDepth 100000 in
set_option maxHeartbeats 4000000 in
theorem rb_shl_m (k n k' n' x y r : Int) (c N : Nat) (s s' : ByteArray) (w : World) (H1 : Hid (∀ W, Calls Tryd.prog 39 #[.agg #[.int .i64 k, .int .i64 n, .string s]] W fun e w' => e = .returned (.int .i64 x) ∧ Below W.heap.size W w')) (H2 : Hid (∀ W, Calls Tryd.prog 39 #[.agg #[.int .i64 k', .int .i64 n', .string s']] W fun e w' => e = .returned (.int .i64 y) ∧ Below W.heap.size W w')) (HB : Hid (∀ i : Nat, i ≤ 31 → ∀ W, Calls Tryd.prog 40 #[.string ⟨#[60, 60]⟩, .int .i64 x, .int .i64 y, .int .i64 c, .int .i64 i] W fun e w' => e = .returned (.int .i64 (bt N i : Nat)) ∧ W = w')) (hN : N < 4294967296)
    (hr : y.tmod 32 = r) (r0 : r < 0) (r1 : -32 < r) (er : r + 32 = (c : Int)) :
    Calls Tryd.prog 26 #[.string ⟨#[60, 60]⟩, .agg #[.int .i64 k, .int .i64 n, .string s], .agg #[.int .i64 k', .int .i64 n', .string s']] w fun e w' => e = .returned (.agg #[.int .i64 3, .int .i64 (lo N), .string ⟨#[]⟩]) ∧ Below w.heap.size w w' := by
  have eN : ofK (N : Int) = 3 ∧ ofN (N : Int) = N := of_in (in_of (by omega) (by omega))
  have HO1 := Lib.hid (fun W => refof_any (N : Int) W)
  rw [eN.1, eN.2] at HO1
  have eL := lo_b N
  have eM : ofK (lo N) = 3 ∧ ofN (lo N) = lo N := of_in (in_of (by omega) (by omega))
  have HO2 := Lib.hid (fun W => refof_any (lo N) W)
  rw [eM.1, eM.2] at HO2
  have eW : lwV 3 (N : Int) ⟨#[]⟩ = lo N := by
    unfold lwV
    rw [(wh3 (N : Int) (in_of (by omega) (by omega))).2]
  have HL := Lib.hid (fun W => reflow_any 3 (N : Int) ⟨#[]⟩ W)
  rw [eW] at HL
  obtain ⟨z, hz⟩ : ∃ z, z = lo N := ⟨_, rfl⟩
  rw [← hz] at HO2 HL ⊢
  clear eN eM eW eL hz
  go_enter Tryd.func26, Tryd.ntmps26
  go_wp2_with fail
  refine cutQ (fin_bt26 ⟨#[60, 60]⟩ k n k' n' x y s s' w w.heap.size _ _ _ _ _ _ _ _ _ _ _ _ _ _ _ _ _ _) ?_ (fun hR => reg_bt26 _ (fun _ _ _ _ _ h => h) ⟨#[60, 60]⟩ k n k' n' x y s s' w w.heap.size _ _ _ _ _ _ _ _ _ _ _ _ _ _ _ _ _ _ (Lib.hid hR) H1 H2 _ (k2_of (bel3 w _ _ _).drew (old2 w _ _ _) (mid2 w _ _ _) ⟨_, _, _, blk2 w _ _ _⟩))
  rintro a U ⟨rfl, hU⟩
  obtain ⟨hB, ⟨_, _, _, _, _, hg⟩, _⟩ := hU
  clear H1 H2
  have HG := Lib.hid hg
  clear hg
  go_wp2_with fail
  clear hr er r0 r1
  go_loop [10, 11] (fun v i => ∃ j : Nat, j ≤ 32 ∧ i = .int .i64 ((j : Int) - 1) ∧ v = .int .i64 ((N / 2 ^ j : Nat) : Int)) (fun _ i => (intOf i + 1).toNat)
  case atStart => exact ⟨32, by omega, by go_num, by rw [Nat.div_eq_of_lt (show N < 2 ^ 32 from hN)]; go_num⟩
  case round =>
    obtain ⟨j, hj, rfl, rfl⟩ := hrel
    cases j with
    | zero =>
      rw [show N / 2 ^ 0 = N from by simp, show ((0 : Nat) : Int) - 1 = -1 from by omega]
      go_wp2_with fail
      refine (HO1.out _).mono ?_
      rintro e V1 ⟨rfl, hb⟩
      have b1 := thr hB hb hB.size
      have g1 := kept hb (tri HG.out).2.2.2.2.2.2 HG.out
      have HG1 := Lib.hid g1
      clear hb g1 HG hB HO1
      go_wp2_with fail
      refine (HL.out _).mono ?_
      rintro e V2 ⟨rfl, hb⟩
      have b2 := thr b1 hb b1.size
      have g2 := kept hb (tri HG1.out).2.2.2.2.2.2 HG1.out
      have HG2 := Lib.hid g2
      clear hb g2 HG1 b1 HL
      go_wp2_with fail
      refine (HO2.out _).mono ?_
      rintro e V3 ⟨rfl, hb⟩
      have b3 := thr b2 hb b2.size
      have g3 := kept hb (tri HG2.out).2.2.2.2.2.2 HG2.out
      obtain ⟨q0, q1, q2, f0, f1, f2, hl⟩ := tri g3
      clear hb b2 HG2 HO2 HB
      go_wp2
      refine bodyPost_ret (v := .agg #[.int .i64 3, .int .i64 z, .string ⟨#[]⟩]) (by simp [results, Tryd.results26, go_sem, q0, q1, q2]) rfl ?_
      exact ⟨rfl, st3 b3 (by omega)⟩
    | succ m =>
      obtain ⟨Y, hY⟩ : ∃ Y, Y = N / 2 ^ (m + 1) := ⟨_, rfl⟩
      have hYl : Y < 4294967296 := by rw [hY]; exact Nat.lt_of_le_of_lt (Nat.div_le_self _ _) hN
      have hb1 := bt_01 N m
      have hrise := rise N m
      have HM := HB.out m (by omega)
      obtain ⟨b, hbb⟩ : ∃ b, b = bt N m := ⟨_, rfl⟩
      rw [← hY, ← hbb] at hrise
      rw [← hbb] at hb1 HM
      rw [← hY, show ((m + 1 : Nat) : Int) - 1 = m from by omega]
      have HR := Lib.hid hrise
      have HMM := Lib.hid HM
      have hb2 : b ≤ 1 := by omega
      clear hY hbb hrise HM hb1
      go_wp2_with fail
      refine (HMM.out _).mono ?_
      rintro e w' ⟨rfl, rfl⟩
      go_wp2
      go_round
      case rel => exact ⟨m, by omega, by go_num, by rw [← HR.out]; go_num⟩
      case measure => simp [intOf]

set_option maxRecDepth 100000 in
set_option maxHeartbeats 4000000 in
theorem rb_shr_p (k n k' n' x y : Int) (c N : Nat) (s s' : ByteArray) (w : World) (H1 : Hid (∀ W, Calls Tryd.prog 39 #[.agg #[.int .i64 k, .int .i64 n, .string s]] W fun e w' => e = .returned (.int .i64 x) ∧ Below W.heap.size W w')) (H2 : Hid (∀ W, Calls Tryd.prog 39 #[.agg #[.int .i64 k', .int .i64 n', .string s']] W fun e w' => e = .returned (.int .i64 y) ∧ Below W.heap.size W w')) (HB : Hid (∀ i : Nat, i ≤ 31 → ∀ W, Calls Tryd.prog 40 #[.string ⟨#[62, 62]⟩, .int .i64 x, .int .i64 y, .int .i64 c, .int .i64 i] W fun e w' => e = .returned (.int .i64 (bt N i : Nat)) ∧ W = w')) (hN : N < 4294967296)
    (hr : y.tmod 32 = (c : Int))  :
    Calls Tryd.prog 26 #[.string ⟨#[62, 62]⟩, .agg #[.int .i64 k, .int .i64 n, .string s], .agg #[.int .i64 k', .int .i64 n', .string s']] w fun e w' => e = .returned (.agg #[.int .i64 3, .int .i64 (lo N), .string ⟨#[]⟩]) ∧ Below w.heap.size w w' := by
  have eN : ofK (N : Int) = 3 ∧ ofN (N : Int) = N := of_in (in_of (by omega) (by omega))
  have HO1 := Lib.hid (fun W => refof_any (N : Int) W)
  rw [eN.1, eN.2] at HO1
  have eL := lo_b N
  have eM : ofK (lo N) = 3 ∧ ofN (lo N) = lo N := of_in (in_of (by omega) (by omega))
  have HO2 := Lib.hid (fun W => refof_any (lo N) W)
  rw [eM.1, eM.2] at HO2
  have eW : lwV 3 (N : Int) ⟨#[]⟩ = lo N := by
    unfold lwV
    rw [(wh3 (N : Int) (in_of (by omega) (by omega))).2]
  have HL := Lib.hid (fun W => reflow_any 3 (N : Int) ⟨#[]⟩ W)
  rw [eW] at HL
  obtain ⟨z, hz⟩ : ∃ z, z = lo N := ⟨_, rfl⟩
  rw [← hz] at HO2 HL ⊢
  clear eN eM eW eL hz
  go_enter Tryd.func26, Tryd.ntmps26
  go_wp2_with fail
  refine cutQ (fin_bt26 ⟨#[62, 62]⟩ k n k' n' x y s s' w w.heap.size _ _ _ _ _ _ _ _ _ _ _ _ _ _ _ _ _ _) ?_ (fun hR => reg_bt26 _ (fun _ _ _ _ _ h => h) ⟨#[62, 62]⟩ k n k' n' x y s s' w w.heap.size _ _ _ _ _ _ _ _ _ _ _ _ _ _ _ _ _ _ (Lib.hid hR) H1 H2 _ (k2_of (bel3 w _ _ _).drew (old2 w _ _ _) (mid2 w _ _ _) ⟨_, _, _, blk2 w _ _ _⟩))
  rintro a U ⟨rfl, hU⟩
  obtain ⟨hB, ⟨_, _, _, _, _, hg⟩, _⟩ := hU
  clear H1 H2
  have HG := Lib.hid hg
  clear hg
  go_wp2_with fail
  clear hr 
  go_loop [10, 11] (fun v i => ∃ j : Nat, j ≤ 32 ∧ i = .int .i64 ((j : Int) - 1) ∧ v = .int .i64 ((N / 2 ^ j : Nat) : Int)) (fun _ i => (intOf i + 1).toNat)
  case atStart => exact ⟨32, by omega, by go_num, by rw [Nat.div_eq_of_lt (show N < 2 ^ 32 from hN)]; go_num⟩
  case round =>
    obtain ⟨j, hj, rfl, rfl⟩ := hrel
    cases j with
    | zero =>
      rw [show N / 2 ^ 0 = N from by simp, show ((0 : Nat) : Int) - 1 = -1 from by omega]
      go_wp2_with fail
      refine (HO1.out _).mono ?_
      rintro e V1 ⟨rfl, hb⟩
      have b1 := thr hB hb hB.size
      have g1 := kept hb (tri HG.out).2.2.2.2.2.2 HG.out
      have HG1 := Lib.hid g1
      clear hb g1 HG hB HO1
      go_wp2_with fail
      refine (HL.out _).mono ?_
      rintro e V2 ⟨rfl, hb⟩
      have b2 := thr b1 hb b1.size
      have g2 := kept hb (tri HG1.out).2.2.2.2.2.2 HG1.out
      have HG2 := Lib.hid g2
      clear hb g2 HG1 b1 HL
      go_wp2_with fail
      refine (HO2.out _).mono ?_
      rintro e V3 ⟨rfl, hb⟩
      have b3 := thr b2 hb b2.size
      have g3 := kept hb (tri HG2.out).2.2.2.2.2.2 HG2.out
      obtain ⟨q0, q1, q2, f0, f1, f2, hl⟩ := tri g3
      clear hb b2 HG2 HO2 HB
      go_wp2
      refine bodyPost_ret (v := .agg #[.int .i64 3, .int .i64 z, .string ⟨#[]⟩]) (by simp [results, Tryd.results26, go_sem, q0, q1, q2]) rfl ?_
      exact ⟨rfl, st3 b3 (by omega)⟩
    | succ m =>
      obtain ⟨Y, hY⟩ : ∃ Y, Y = N / 2 ^ (m + 1) := ⟨_, rfl⟩
      have hYl : Y < 4294967296 := by rw [hY]; exact Nat.lt_of_le_of_lt (Nat.div_le_self _ _) hN
      have hb1 := bt_01 N m
      have hrise := rise N m
      have HM := HB.out m (by omega)
      obtain ⟨b, hbb⟩ : ∃ b, b = bt N m := ⟨_, rfl⟩
      rw [← hY, ← hbb] at hrise
      rw [← hbb] at hb1 HM
      rw [← hY, show ((m + 1 : Nat) : Int) - 1 = m from by omega]
      have HR := Lib.hid hrise
      have HMM := Lib.hid HM
      have hb2 : b ≤ 1 := by omega
      clear hY hbb hrise HM hb1
      go_wp2_with fail
      refine (HMM.out _).mono ?_
      rintro e w' ⟨rfl, rfl⟩
      go_wp2
      go_round
      case rel => exact ⟨m, by omega, by go_num, by rw [← HR.out]; go_num⟩
      case measure => simp [intOf]

set_option maxRecDepth 100000 in
set_option maxHeartbeats 4000000 in
theorem rb_shr_m (k n k' n' x y r : Int) (c N : Nat) (s s' : ByteArray) (w : World) (H1 : Hid (∀ W, Calls Tryd.prog 39 #[.agg #[.int .i64 k, .int .i64 n, .string s]] W fun e w' => e = .returned (.int .i64 x) ∧ Below W.heap.size W w')) (H2 : Hid (∀ W, Calls Tryd.prog 39 #[.agg #[.int .i64 k', .int .i64 n', .string s']] W fun e w' => e = .returned (.int .i64 y) ∧ Below W.heap.size W w')) (HB : Hid (∀ i : Nat, i ≤ 31 → ∀ W, Calls Tryd.prog 40 #[.string ⟨#[62, 62]⟩, .int .i64 x, .int .i64 y, .int .i64 c, .int .i64 i] W fun e w' => e = .returned (.int .i64 (bt N i : Nat)) ∧ W = w')) (hN : N < 4294967296)
    (hr : y.tmod 32 = r) (r0 : r < 0) (r1 : -32 < r) (er : r + 32 = (c : Int)) :
    Calls Tryd.prog 26 #[.string ⟨#[62, 62]⟩, .agg #[.int .i64 k, .int .i64 n, .string s], .agg #[.int .i64 k', .int .i64 n', .string s']] w fun e w' => e = .returned (.agg #[.int .i64 3, .int .i64 (lo N), .string ⟨#[]⟩]) ∧ Below w.heap.size w w' := by
  have eN : ofK (N : Int) = 3 ∧ ofN (N : Int) = N := of_in (in_of (by omega) (by omega))
  have HO1 := Lib.hid (fun W => refof_any (N : Int) W)
  rw [eN.1, eN.2] at HO1
  have eL := lo_b N
  have eM : ofK (lo N) = 3 ∧ ofN (lo N) = lo N := of_in (in_of (by omega) (by omega))
  have HO2 := Lib.hid (fun W => refof_any (lo N) W)
  rw [eM.1, eM.2] at HO2
  have eW : lwV 3 (N : Int) ⟨#[]⟩ = lo N := by
    unfold lwV
    rw [(wh3 (N : Int) (in_of (by omega) (by omega))).2]
  have HL := Lib.hid (fun W => reflow_any 3 (N : Int) ⟨#[]⟩ W)
  rw [eW] at HL
  obtain ⟨z, hz⟩ : ∃ z, z = lo N := ⟨_, rfl⟩
  rw [← hz] at HO2 HL ⊢
  clear eN eM eW eL hz
  go_enter Tryd.func26, Tryd.ntmps26
  go_wp2_with fail
  refine cutQ (fin_bt26 ⟨#[62, 62]⟩ k n k' n' x y s s' w w.heap.size _ _ _ _ _ _ _ _ _ _ _ _ _ _ _ _ _ _) ?_ (fun hR => reg_bt26 _ (fun _ _ _ _ _ h => h) ⟨#[62, 62]⟩ k n k' n' x y s s' w w.heap.size _ _ _ _ _ _ _ _ _ _ _ _ _ _ _ _ _ _ (Lib.hid hR) H1 H2 _ (k2_of (bel3 w _ _ _).drew (old2 w _ _ _) (mid2 w _ _ _) ⟨_, _, _, blk2 w _ _ _⟩))
  rintro a U ⟨rfl, hU⟩
  obtain ⟨hB, ⟨_, _, _, _, _, hg⟩, _⟩ := hU
  clear H1 H2
  have HG := Lib.hid hg
  clear hg
  go_wp2_with fail
  clear hr er r0 r1
  go_loop [10, 11] (fun v i => ∃ j : Nat, j ≤ 32 ∧ i = .int .i64 ((j : Int) - 1) ∧ v = .int .i64 ((N / 2 ^ j : Nat) : Int)) (fun _ i => (intOf i + 1).toNat)
  case atStart => exact ⟨32, by omega, by go_num, by rw [Nat.div_eq_of_lt (show N < 2 ^ 32 from hN)]; go_num⟩
  case round =>
    obtain ⟨j, hj, rfl, rfl⟩ := hrel
    cases j with
    | zero =>
      rw [show N / 2 ^ 0 = N from by simp, show ((0 : Nat) : Int) - 1 = -1 from by omega]
      go_wp2_with fail
      refine (HO1.out _).mono ?_
      rintro e V1 ⟨rfl, hb⟩
      have b1 := thr hB hb hB.size
      have g1 := kept hb (tri HG.out).2.2.2.2.2.2 HG.out
      have HG1 := Lib.hid g1
      clear hb g1 HG hB HO1
      go_wp2_with fail
      refine (HL.out _).mono ?_
      rintro e V2 ⟨rfl, hb⟩
      have b2 := thr b1 hb b1.size
      have g2 := kept hb (tri HG1.out).2.2.2.2.2.2 HG1.out
      have HG2 := Lib.hid g2
      clear hb g2 HG1 b1 HL
      go_wp2_with fail
      refine (HO2.out _).mono ?_
      rintro e V3 ⟨rfl, hb⟩
      have b3 := thr b2 hb b2.size
      have g3 := kept hb (tri HG2.out).2.2.2.2.2.2 HG2.out
      obtain ⟨q0, q1, q2, f0, f1, f2, hl⟩ := tri g3
      clear hb b2 HG2 HO2 HB
      go_wp2
      refine bodyPost_ret (v := .agg #[.int .i64 3, .int .i64 z, .string ⟨#[]⟩]) (by simp [results, Tryd.results26, go_sem, q0, q1, q2]) rfl ?_
      exact ⟨rfl, st3 b3 (by omega)⟩
    | succ m =>
      obtain ⟨Y, hY⟩ : ∃ Y, Y = N / 2 ^ (m + 1) := ⟨_, rfl⟩
      have hYl : Y < 4294967296 := by rw [hY]; exact Nat.lt_of_le_of_lt (Nat.div_le_self _ _) hN
      have hb1 := bt_01 N m
      have hrise := rise N m
      have HM := HB.out m (by omega)
      obtain ⟨b, hbb⟩ : ∃ b, b = bt N m := ⟨_, rfl⟩
      rw [← hY, ← hbb] at hrise
      rw [← hbb] at hb1 HM
      rw [← hY, show ((m + 1 : Nat) : Int) - 1 = m from by omega]
      have HR := Lib.hid hrise
      have HMM := Lib.hid HM
      have hb2 : b ≤ 1 := by omega
      clear hY hbb hrise HM hb1
      go_wp2_with fail
      refine (HMM.out _).mono ?_
      rintro e w' ⟨rfl, rfl⟩
      go_wp2
      go_round
      case rel => exact ⟨m, by omega, by go_num, by rw [← HR.out]; go_num⟩
      case measure => simp [intOf]
end Go.Proofs.YtokpmpmlbmpnmaaDoor
