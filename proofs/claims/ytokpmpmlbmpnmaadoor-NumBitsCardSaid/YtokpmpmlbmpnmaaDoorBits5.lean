/-
  Bits of num and Bits of the reference at this translation: one answer, for every operator and any two values.
-/
import Derived.Test.YtokpmpmlbmpnmaaDoorBits3
import Derived.Test.YtokpmpmlbmpnmaaDoorBits4
namespace Go.Proofs.YtokpmpmlbmpnmaaDoor
open Go.RowKit

def BothBits (op : ByteArray) (k n k' n' : Int) (s s' : ByteArray) : Prop := ∃ K z : Int,
  (∀ W, Calls Tryd.prog 25 #[.string op, .agg #[.int .i64 k, .int .i64 n, .string s], .agg #[.int .i64 k', .int .i64 n', .string s']] W fun e w' => e = .returned (.agg #[.int .i64 K, .int .i64 z, .string ⟨#[]⟩]) ∧ Below W.heap.size W w') ∧
  (∀ W, Calls Tryd.prog 26 #[.string op, .agg #[.int .i64 k, .int .i64 n, .string s], .agg #[.int .i64 k', .int .i64 n', .string s']] W fun e w' => e = .returned (.agg #[.int .i64 K, .int .i64 z, .string ⟨#[]⟩]) ∧ Below W.heap.size W w')
theorem lw_b (k n : Int) (s : ByteArray) : -2147483648 ≤ lwV k n s ∧ lwV k n s ≤ 2147483647 := lo_b _
theorem of_lo (N : Nat) (W : World) : Calls Tryd.prog 10 #[.int .i64 (lo N)] W fun e w' => e = .returned (.agg #[.int .i64 3, .int .i64 (lo N), .string ⟨#[]⟩]) ∧ Below W.heap.size W w' := by
  have h := of_any (lo N) W
  have e := of_in (lo_in N)
  rw [e.1, e.2] at h
  exact h
/-- the count of a shift, as the reference has it -/
theorem by_of (y : Int) : ∃ c : Nat, c ≤ 31 ∧ y % 32 = c ∧ (y.tmod 32 = (c : Int) ∨ (y.tmod 32 < 0 ∧ -32 < y.tmod 32 ∧ y.tmod 32 + 32 = (c : Int))) := by
  refine ⟨(y % 32).toNat, by omega, by omega, ?_⟩
  by_cases h : 0 ≤ y
  · left
    rw [Int.tmod_eq_emod_of_nonneg h]
    omega
  · have h3 : (-y).tmod 32 = -(y.tmod 32) := Int.neg_tmod y 32
    rw [Int.tmod_eq_emod_of_nonneg (by omega)] at h3
    omega
theorem both_and (k n k' n' : Int) (s s' : ByteArray) : BothBits ⟨#[38]⟩ k n k' n' s s' := by
  have hx := lw_b k n s
  have hy := lw_b k' n' s'
  have HL1 := Lib.hid (fun W => low_any k n s W)
  have HL2 := Lib.hid (fun W => low_any k' n' s' W)
  have HR1 := Lib.hid (fun W => reflow_any k n s W)
  have HR2 := Lib.hid (fun W => reflow_any k' n' s' W)
  generalize lwV k n s = x at hx HL1 HR1
  generalize lwV k' n' s' = y at hy HL2 HR2
  obtain ⟨c, hc, ey, hcase⟩ := by_of y
  refine ⟨3, lo ((un x &&& un y : Nat)), fun W => ?_, fun W => ?_⟩
  · exact bits_and_go k n k' n' x y _ s s' W HL1 HL2 (Lib.hid (fun W => of_lo (un x &&& un y) W)) (bits_and_lo x y) (lo_b _).1 (lo_b _).2
  · have HB : Hid (∀ i : Nat, i ≤ 31 → ∀ W, Calls Tryd.prog 40 #[.string ⟨#[38]⟩, .int .i64 x, .int .i64 y, .int .i64 c, .int .i64 i] W fun e w' => e = .returned (.int .i64 (bt (un x &&& un y) i : Nat)) ∧ W = w') := Lib.hid (fun i hi W => one_and x y c i W hx.1 hx.2 hy.1 hy.2 hi)
    have hN : un x &&& un y < 4294967296 := Nat.lt_of_le_of_lt Nat.and_le_left (un_lt x)
    rcases hcase with h | ⟨h0, h1, h2⟩
    · exact rb_and_p k n k' n' x y c _ s s' W HR1 HR2 HB hN h
    · exact rb_and_m k n k' n' x y _ c _ s s' W HR1 HR2 HB hN rfl h0 h1 h2
theorem both_or (k n k' n' : Int) (s s' : ByteArray) : BothBits ⟨#[124]⟩ k n k' n' s s' := by
  have hx := lw_b k n s
  have hy := lw_b k' n' s'
  have HL1 := Lib.hid (fun W => low_any k n s W)
  have HL2 := Lib.hid (fun W => low_any k' n' s' W)
  have HR1 := Lib.hid (fun W => reflow_any k n s W)
  have HR2 := Lib.hid (fun W => reflow_any k' n' s' W)
  generalize lwV k n s = x at hx HL1 HR1
  generalize lwV k' n' s' = y at hy HL2 HR2
  obtain ⟨c, hc, ey, hcase⟩ := by_of y
  refine ⟨3, lo ((un x ||| un y : Nat)), fun W => ?_, fun W => ?_⟩
  · exact bits_or_go k n k' n' x y _ s s' W HL1 HL2 (Lib.hid (fun W => of_lo (un x ||| un y) W)) (bits_or_lo x y) (lo_b _).1 (lo_b _).2
  · have HB : Hid (∀ i : Nat, i ≤ 31 → ∀ W, Calls Tryd.prog 40 #[.string ⟨#[124]⟩, .int .i64 x, .int .i64 y, .int .i64 c, .int .i64 i] W fun e w' => e = .returned (.int .i64 (bt (un x ||| un y) i : Nat)) ∧ W = w') := Lib.hid (fun i hi W => one_or x y c i W hx.1 hx.2 hy.1 hy.2 hi)
    have hN : un x ||| un y < 4294967296 := Nat.or_lt_two_pow (n := 32) (un_lt x) (un_lt y)
    rcases hcase with h | ⟨h0, h1, h2⟩
    · exact rb_or_p k n k' n' x y c _ s s' W HR1 HR2 HB hN h
    · exact rb_or_m k n k' n' x y _ c _ s s' W HR1 HR2 HB hN rfl h0 h1 h2
theorem both_xor (k n k' n' : Int) (s s' : ByteArray) : BothBits ⟨#[94]⟩ k n k' n' s s' := by
  have hx := lw_b k n s
  have hy := lw_b k' n' s'
  have HL1 := Lib.hid (fun W => low_any k n s W)
  have HL2 := Lib.hid (fun W => low_any k' n' s' W)
  have HR1 := Lib.hid (fun W => reflow_any k n s W)
  have HR2 := Lib.hid (fun W => reflow_any k' n' s' W)
  generalize lwV k n s = x at hx HL1 HR1
  generalize lwV k' n' s' = y at hy HL2 HR2
  obtain ⟨c, hc, ey, hcase⟩ := by_of y
  refine ⟨3, lo ((un x ^^^ un y : Nat)), fun W => ?_, fun W => ?_⟩
  · exact bits_xor_go k n k' n' x y _ s s' W HL1 HL2 (Lib.hid (fun W => of_lo (un x ^^^ un y) W)) (bits_xor_lo x y) (lo_b _).1 (lo_b _).2
  · have HB : Hid (∀ i : Nat, i ≤ 31 → ∀ W, Calls Tryd.prog 40 #[.string ⟨#[94]⟩, .int .i64 x, .int .i64 y, .int .i64 c, .int .i64 i] W fun e w' => e = .returned (.int .i64 (bt (un x ^^^ un y) i : Nat)) ∧ W = w') := Lib.hid (fun i hi W => one_xor x y c i W hx.1 hx.2 hy.1 hy.2 hi)
    have hN : un x ^^^ un y < 4294967296 := Nat.xor_lt_two_pow (n := 32) (un_lt x) (un_lt y)
    rcases hcase with h | ⟨h0, h1, h2⟩
    · exact rb_xor_p k n k' n' x y c _ s s' W HR1 HR2 HB hN h
    · exact rb_xor_m k n k' n' x y _ c _ s s' W HR1 HR2 HB hN rfl h0 h1 h2
theorem shr_lo (x : Int) (c : Nat) (h0 : -2147483648 ≤ x) (h1 : x ≤ 2147483647) : x / 2 ^ c = lo ((un (x / 2 ^ c) : Nat)) := by
  rw [lo_un, lo_id]
  have hp : (0 : Int) < 2 ^ c := Int.pow_pos (by decide)
  have h2 : (1 : Int) ≤ 2 ^ c := by omega
  constructor
  · have : -2147483648 * 2 ^ c ≤ x := by
      have : (-2147483648 : Int) * 2 ^ c ≤ -2147483648 * 1 := Int.mul_le_mul_of_nonpos_left (by decide) h2
      omega
    exact (Int.le_ediv_iff_mul_le hp).2 this
  · have : x < (2147483647 + 1) * 2 ^ c := by
      have : (2147483647 + 1 : Int) * 1 ≤ (2147483647 + 1) * 2 ^ c := Int.mul_le_mul_of_nonneg_left h2 (by decide)
      omega
    have := (Int.ediv_lt_iff_lt_mul hp).2 this
    omega
theorem both_shl (k n k' n' : Int) (s s' : ByteArray) : BothBits ⟨#[60, 60]⟩ k n k' n' s s' := by
  have hx := lw_b k n s
  have hy := lw_b k' n' s'
  have HL1 := Lib.hid (fun W => low_any k n s W)
  have HL2 := Lib.hid (fun W => low_any k' n' s' W)
  have HR1 := Lib.hid (fun W => reflow_any k n s W)
  have HR2 := Lib.hid (fun W => reflow_any k' n' s' W)
  generalize lwV k n s = x at hx HL1 HR1
  generalize lwV k' n' s' = y at hy HL2 HR2
  obtain ⟨c, hc, ey, hcase⟩ := by_of y
  refine ⟨3, lo ((un x * 2 ^ c % 4294967296 : Nat)), fun W => ?_, fun W => ?_⟩
  · exact bits_shl_go k n k' n' x y _ s s' W HL1 HL2 (Lib.hid (fun W => of_lo (un x * 2 ^ c % 4294967296) W)) c hc (Lib.hid (fun W => by rw [← ey]; exact shift_any y W)) (shl_lo x c) (lo_b _).1 (lo_b _).2
  · have HB : Hid (∀ i : Nat, i ≤ 31 → ∀ W, Calls Tryd.prog 40 #[.string ⟨#[60, 60]⟩, .int .i64 x, .int .i64 y, .int .i64 c, .int .i64 i] W fun e w' => e = .returned (.int .i64 (bt (un x * 2 ^ c % 4294967296) i : Nat)) ∧ W = w') := Lib.hid (fun i hi W => one_shl x y c i W hx.1 hx.2 hc hi)
    have hN : un x * 2 ^ c % 4294967296 < 4294967296 := Nat.mod_lt _ (by omega)
    rcases hcase with h | ⟨h0, h1, h2⟩
    · exact rb_shl_p k n k' n' x y c _ s s' W HR1 HR2 HB hN h
    · exact rb_shl_m k n k' n' x y _ c _ s s' W HR1 HR2 HB hN rfl h0 h1 h2
theorem both_shr (k n k' n' : Int) (s s' : ByteArray) : BothBits ⟨#[62, 62]⟩ k n k' n' s s' := by
  have hx := lw_b k n s
  have hy := lw_b k' n' s'
  have HL1 := Lib.hid (fun W => low_any k n s W)
  have HL2 := Lib.hid (fun W => low_any k' n' s' W)
  have HR1 := Lib.hid (fun W => reflow_any k n s W)
  have HR2 := Lib.hid (fun W => reflow_any k' n' s' W)
  generalize lwV k n s = x at hx HL1 HR1
  generalize lwV k' n' s' = y at hy HL2 HR2
  obtain ⟨c, hc, ey, hcase⟩ := by_of y
  refine ⟨3, lo ((un (x / 2 ^ c) : Nat)), fun W => ?_, fun W => ?_⟩
  · exact bits_shr_go k n k' n' x y _ s s' W HL1 HL2 (Lib.hid (fun W => of_lo (un (x / 2 ^ c)) W)) c hc (Lib.hid (fun W => by rw [← ey]; exact shift_any y W)) (shr_lo x c hx.1 hx.2) (lo_b _).1 (lo_b _).2
  · have HB : Hid (∀ i : Nat, i ≤ 31 → ∀ W, Calls Tryd.prog 40 #[.string ⟨#[62, 62]⟩, .int .i64 x, .int .i64 y, .int .i64 c, .int .i64 i] W fun e w' => e = .returned (.int .i64 (bt (un (x / 2 ^ c)) i : Nat)) ∧ W = w') := Lib.hid (fun i hi W => one_shr x y c i W hx.1 hx.2 hc hi)
    have hN : un (x / 2 ^ c) < 4294967296 := un_lt _
    rcases hcase with h | ⟨h0, h1, h2⟩
    · exact rb_shr_p k n k' n' x y c _ s s' W HR1 HR2 HB hN h
    · exact rb_shr_m k n k' n' x y _ c _ s s' W HR1 HR2 HB hN rfl h0 h1 h2

set_option maxRecDepth 100000 in
set_option maxHeartbeats 2000000 in
theorem both_none (op : ByteArray) (k n k' n' : Int) (s s' : ByteArray) (h1 : ¬ op.toList = [38]) (h2 : ¬ op.toList = [124]) (h3 : ¬ op.toList = [94]) (h4 : ¬ op.toList = [60, 60]) (h5 : ¬ op.toList = [62, 62]) : BothBits op k n k' n' s s' := by
  have g1 : (op.toList == [38]) = false := by simpa using h1
  have g2 : (op.toList == [124]) = false := by simpa using h2
  have g3 : (op.toList == [94]) = false := by simpa using h3
  have g4 : (op.toList == [60, 60]) = false := by simpa using h4
  have g5 : (op.toList == [62, 62]) = false := by simpa using h5
  refine ⟨4, 0, fun w => ?_, fun w => ?_⟩
  · have H1 := Lib.hid (fun W => low_any k n s W)
    have H2 := Lib.hid (fun W => low_any k' n' s' W)
    generalize lwV k n s = x at H1
    generalize lwV k' n' s' = y at H2
    go_enter Tryd.func25, Tryd.ntmps25
    go_wp2_with fail
    refine cutQ (fin_bt25 op k n k' n' x y s s' w w.heap.size) ?_ (fun hR => reg_bt25 _ (fun _ _ _ _ _ h => h) op k n k' n' x y s s' w w.heap.size (Lib.hid hR) H1 H2 _ (k2_of (bel3 w _ _ _).drew (old2 w _ _ _) (mid2 w _ _ _) ⟨_, _, _, blk2 w _ _ _⟩))
    rintro a U ⟨rfl, hU⟩
    obtain ⟨hB, ⟨_, _, _, _, _, hg⟩, _⟩ := hU
    clear H1 H2
    go_wp2_with fail
    refine (nan_any _).mono ?_
    rintro e V ⟨rfl, hb⟩
    have b2 : Below w.heap.size w V := thr hB hb hB.size
    replace hg := kept hb (tri hg).2.2.2.2.2.2 hg
    obtain ⟨q0, q1, q2, f0, f1, f2, hl⟩ := tri hg
    clear hb hB
    go_wp2
    refine bodyPost_ret (v := .agg #[.int .i64 4, .int .i64 0, .string ⟨#[]⟩]) (by simp [results, Tryd.results25, go_sem, q0, q1, q2]) rfl ?_
    exact ⟨rfl, st3 b2 (by omega)⟩
  · go_enter Tryd.func26, Tryd.ntmps26
    go_wp2_with fail
    go_returns
    exact ⟨rfl, by go_grown⟩
end Go.Proofs.YtokpmpmlbmpnmaaDoor
