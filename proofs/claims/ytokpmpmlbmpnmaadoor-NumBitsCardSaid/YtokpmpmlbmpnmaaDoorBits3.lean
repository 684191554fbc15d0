/-
  Bits of num at this translation, operator by operator.
-/
import Derived.Test.YtokpmpmlbmpnmaaDoorBitsR
import Derived.Test.YtokpmpmlbmpnmaaDoorBits2
namespace Go.Proofs.YtokpmpmlbmpnmaaDoor
open Go.RowKit

theorem bits_and_lo (x y : Int) : bits .and .i32 x y = lo ((un x &&& un y : Nat) : Int) := by
  unfold bits
  show IntKind.i32.wrap ((BitVec.ofInt 32 x &&& BitVec.ofInt 32 y).toNat : Int) = _
  rw [wrap_lo, BitVec.toNat_and, ← un_bv, ← un_bv]
theorem bits_or_lo (x y : Int) : bits .or .i32 x y = lo ((un x ||| un y : Nat) : Int) := by
  unfold bits
  show IntKind.i32.wrap ((BitVec.ofInt 32 x ||| BitVec.ofInt 32 y).toNat : Int) = _
  rw [wrap_lo, BitVec.toNat_or, ← un_bv, ← un_bv]
theorem bits_xor_lo (x y : Int) : bits .xor .i32 x y = lo ((un x ^^^ un y : Nat) : Int) := by
  unfold bits
  show IntKind.i32.wrap ((BitVec.ofInt 32 x ^^^ BitVec.ofInt 32 y).toNat : Int) = _
  rw [wrap_lo, BitVec.toNat_xor, ← un_bv, ← un_bv]
theorem shl_lo (x : Int) (c : Nat) : wrap32 (x * 2 ^ c) = lo ((un x * 2 ^ c % 4294967296 : Nat) : Int) := by
  unfold wrap32 lo un
  have e : ((x % 4294967296).toNat : Int) = x % 4294967296 := by omega
  have h : ((x % 4294967296).toNat : Int) * 2 ^ c = x * 2 ^ c + 4294967296 * (-(x / 4294967296) * 2 ^ c) := by
    have e2 : x % 4294967296 = x + 4294967296 * (-(x / 4294967296)) := by omega
    rw [e, e2, Int.add_mul, Int.mul_assoc]
  have h2 : (((x % 4294967296).toNat * 2 ^ c % 4294967296 : Nat) : Int) = ((x % 4294967296).toNat : Int) * 2 ^ c % 4294967296 := by
    rw [Int.natCast_emod, Int.natCast_mul, Int.natCast_pow]
    rfl
  rw [h2, h]
  generalize -(x / 4294967296) * 2 ^ c = q
  generalize x * 2 ^ c = p
  omega
theorem lo_in (z : Int) : inB (lo z) = true := by
  have := lo_b z
  exact in_of (by omega) (by omega)
theorem three_boxes (w : World) (X Y Z : Obj) : Below w.heap.size w (((w.alloc X).alloc Y).alloc Z) := bel3 w X Y Z
def BitEnd (w : World) (k n : Int) (e : Ending) (w' : World) : Prop := e = .returned (.agg #[.int .i64 k, .int .i64 n, .string ⟨#[]⟩]) ∧ Below w.heap.size w w'

set_option maxRecDepth 100000 in
set_option maxHeartbeats 2000000 in
theorem bits_and_go (k n k' n' x y z : Int) (s s' : ByteArray) (w : World) (H1 : Hid (∀ W, Calls Tryd.prog 37 #[.agg #[.int .i64 k, .int .i64 n, .string s]] W fun e w' => e = .returned (.int .i32 x) ∧ Below W.heap.size W w')) (H2 : Hid (∀ W, Calls Tryd.prog 37 #[.agg #[.int .i64 k', .int .i64 n', .string s']] W fun e w' => e = .returned (.int .i32 y) ∧ Below W.heap.size W w')) (HO : Hid (∀ W, Calls Tryd.prog 10 #[.int .i64 z] W fun e w' => e = .returned (.agg #[.int .i64 3, .int .i64 z, .string ⟨#[]⟩]) ∧ Below W.heap.size W w')) (hz : bits .and .i32 x y = z) (z0 : -2147483648 ≤ z) (z1 : z ≤ 2147483647) :
    Calls Tryd.prog 25 #[.string ⟨#[38]⟩, .agg #[.int .i64 k, .int .i64 n, .string s], .agg #[.int .i64 k', .int .i64 n', .string s']] w fun e w' => e = .returned (.agg #[.int .i64 3, .int .i64 z, .string ⟨#[]⟩]) ∧ Below w.heap.size w w' := by
  go_enter Tryd.func25, Tryd.ntmps25
  go_wp2_with fail
  refine cutQ (fin_bt25 ⟨#[38]⟩ k n k' n' x y s s' w w.heap.size) ?_ (fun hR => reg_bt25 _ (fun _ _ _ _ _ h => h) ⟨#[38]⟩ k n k' n' x y s s' w w.heap.size (Lib.hid hR) H1 H2 _ (k2_of (bel3 w _ _ _).drew (old2 w _ _ _) (mid2 w _ _ _) ⟨_, _, _, blk2 w _ _ _⟩))
  rintro a U ⟨rfl, hU⟩
  obtain ⟨hB, ⟨_, _, _, _, _, hg⟩, _⟩ := hU
  clear H1 H2
  go_wp2_with fail
  refine (HO.out _).mono ?_
  rintro e V ⟨rfl, hb⟩
  have b2 : Below w.heap.size w V := thr hB hb hB.size
  replace hg := kept hb (tri hg).2.2.2.2.2.2 hg
  obtain ⟨q0, q1, q2, f0, f1, f2, hl⟩ := tri hg
  clear hb hB HO
  go_wp2
  refine bodyPost_ret (v := .agg #[.int .i64 3, .int .i64 z, .string ⟨#[]⟩]) (by simp [results, Tryd.results25, go_sem, q0, q1, q2]) rfl ?_
  exact ⟨rfl, st3 b2 (by omega)⟩

set_option maxRecDepth 100000 in
set_option maxHeartbeats 2000000 in
theorem bits_or_go (k n k' n' x y z : Int) (s s' : ByteArray) (w : World) (H1 : Hid (∀ W, Calls Tryd.prog 37 #[.agg #[.int .i64 k, .int .i64 n, .string s]] W fun e w' => e = .returned (.int .i32 x) ∧ Below W.heap.size W w')) (H2 : Hid (∀ W, Calls Tryd.prog 37 #[.agg #[.int .i64 k', .int .i64 n', .string s']] W fun e w' => e = .returned (.int .i32 y) ∧ Below W.heap.size W w')) (HO : Hid (∀ W, Calls Tryd.prog 10 #[.int .i64 z] W fun e w' => e = .returned (.agg #[.int .i64 3, .int .i64 z, .string ⟨#[]⟩]) ∧ Below W.heap.size W w')) (hz : bits .or .i32 x y = z) (z0 : -2147483648 ≤ z) (z1 : z ≤ 2147483647) :
    Calls Tryd.prog 25 #[.string ⟨#[124]⟩, .agg #[.int .i64 k, .int .i64 n, .string s], .agg #[.int .i64 k', .int .i64 n', .string s']] w fun e w' => e = .returned (.agg #[.int .i64 3, .int .i64 z, .string ⟨#[]⟩]) ∧ Below w.heap.size w w' := by
  go_enter Tryd.func25, Tryd.ntmps25
  go_wp2_with fail
  refine cutQ (fin_bt25 ⟨#[124]⟩ k n k' n' x y s s' w w.heap.size) ?_ (fun hR => reg_bt25 _ (fun _ _ _ _ _ h => h) ⟨#[124]⟩ k n k' n' x y s s' w w.heap.size (Lib.hid hR) H1 H2 _ (k2_of (bel3 w _ _ _).drew (old2 w _ _ _) (mid2 w _ _ _) ⟨_, _, _, blk2 w _ _ _⟩))
  rintro a U ⟨rfl, hU⟩
  obtain ⟨hB, ⟨_, _, _, _, _, hg⟩, _⟩ := hU
  clear H1 H2
  go_wp2_with fail
  refine (HO.out _).mono ?_
  rintro e V ⟨rfl, hb⟩
  have b2 : Below w.heap.size w V := thr hB hb hB.size
  replace hg := kept hb (tri hg).2.2.2.2.2.2 hg
  obtain ⟨q0, q1, q2, f0, f1, f2, hl⟩ := tri hg
  clear hb hB HO
  go_wp2
  refine bodyPost_ret (v := .agg #[.int .i64 3, .int .i64 z, .string ⟨#[]⟩]) (by simp [results, Tryd.results25, go_sem, q0, q1, q2]) rfl ?_
  exact ⟨rfl, st3 b2 (by omega)⟩

set_option maxRecDepth 100000 in
set_option maxHeartbeats 2000000 in
theorem bits_xor_go (k n k' n' x y z : Int) (s s' : ByteArray) (w : World) (H1 : Hid (∀ W, Calls Tryd.prog 37 #[.agg #[.int .i64 k, .int .i64 n, .string s]] W fun e w' => e = .returned (.int .i32 x) ∧ Below W.heap.size W w')) (H2 : Hid (∀ W, Calls Tryd.prog 37 #[.agg #[.int .i64 k', .int .i64 n', .string s']] W fun e w' => e = .returned (.int .i32 y) ∧ Below W.heap.size W w')) (HO : Hid (∀ W, Calls Tryd.prog 10 #[.int .i64 z] W fun e w' => e = .returned (.agg #[.int .i64 3, .int .i64 z, .string ⟨#[]⟩]) ∧ Below W.heap.size W w')) (hz : bits .xor .i32 x y = z) (z0 : -2147483648 ≤ z) (z1 : z ≤ 2147483647) :
    Calls Tryd.prog 25 #[.string ⟨#[94]⟩, .agg #[.int .i64 k, .int .i64 n, .string s], .agg #[.int .i64 k', .int .i64 n', .string s']] w fun e w' => e = .returned (.agg #[.int .i64 3, .int .i64 z, .string ⟨#[]⟩]) ∧ Below w.heap.size w w' := by
  go_enter Tryd.func25, Tryd.ntmps25
  go_wp2_with fail
  refine cutQ (fin_bt25 ⟨#[94]⟩ k n k' n' x y s s' w w.heap.size) ?_ (fun hR => reg_bt25 _ (fun _ _ _ _ _ h => h) ⟨#[94]⟩ k n k' n' x y s s' w w.heap.size (Lib.hid hR) H1 H2 _ (k2_of (bel3 w _ _ _).drew (old2 w _ _ _) (mid2 w _ _ _) ⟨_, _, _, blk2 w _ _ _⟩))
  rintro a U ⟨rfl, hU⟩
  obtain ⟨hB, ⟨_, _, _, _, _, hg⟩, _⟩ := hU
  clear H1 H2
  go_wp2_with fail
  refine (HO.out _).mono ?_
  rintro e V ⟨rfl, hb⟩
  have b2 : Below w.heap.size w V := thr hB hb hB.size
  replace hg := kept hb (tri hg).2.2.2.2.2.2 hg
  obtain ⟨q0, q1, q2, f0, f1, f2, hl⟩ := tri hg
  clear hb hB HO
  go_wp2
  refine bodyPost_ret (v := .agg #[.int .i64 3, .int .i64 z, .string ⟨#[]⟩]) (by simp [results, Tryd.results25, go_sem, q0, q1, q2]) rfl ?_
  exact ⟨rfl, st3 b2 (by omega)⟩

set_option maxRecDepth 100000 in
set_option maxHeartbeats 2000000 in
theorem bits_shl_go (k n k' n' x y z : Int) (s s' : ByteArray) (w : World) (H1 : Hid (∀ W, Calls Tryd.prog 37 #[.agg #[.int .i64 k, .int .i64 n, .string s]] W fun e w' => e = .returned (.int .i32 x) ∧ Below W.heap.size W w')) (H2 : Hid (∀ W, Calls Tryd.prog 37 #[.agg #[.int .i64 k', .int .i64 n', .string s']] W fun e w' => e = .returned (.int .i32 y) ∧ Below W.heap.size W w')) (HO : Hid (∀ W, Calls Tryd.prog 10 #[.int .i64 z] W fun e w' => e = .returned (.agg #[.int .i64 3, .int .i64 z, .string ⟨#[]⟩]) ∧ Below W.heap.size W w')) (c : Nat) (hc : c ≤ 31) (HC : Hid (∀ W, Calls Tryd.prog 38 #[.int .i32 y] W fun e w' => e = .returned (.int .i64 c) ∧ W = w')) (hz : wrap32 (x * 2 ^ c) = z) (z0 : -2147483648 ≤ z) (z1 : z ≤ 2147483647) :
    Calls Tryd.prog 25 #[.string ⟨#[60, 60]⟩, .agg #[.int .i64 k, .int .i64 n, .string s], .agg #[.int .i64 k', .int .i64 n', .string s']] w fun e w' => e = .returned (.agg #[.int .i64 3, .int .i64 z, .string ⟨#[]⟩]) ∧ Below w.heap.size w w' := by
  go_enter Tryd.func25, Tryd.ntmps25
  go_wp2_with fail
  refine cutQ (fin_bt25 ⟨#[60, 60]⟩ k n k' n' x y s s' w w.heap.size) ?_ (fun hR => reg_bt25 _ (fun _ _ _ _ _ h => h) ⟨#[60, 60]⟩ k n k' n' x y s s' w w.heap.size (Lib.hid hR) H1 H2 _ (k2_of (bel3 w _ _ _).drew (old2 w _ _ _) (mid2 w _ _ _) ⟨_, _, _, blk2 w _ _ _⟩))
  rintro a U ⟨rfl, hU⟩
  obtain ⟨hB, ⟨_, _, _, _, _, hg⟩, _⟩ := hU
  clear H1 H2
  go_wp2_with fail
  refine (HC.out _).mono ?_
  rintro e V ⟨rfl, rfl⟩
  clear HC
  go_wp2_with fail
  refine (HO.out _).mono ?_
  rintro e V ⟨rfl, hb⟩
  have b2 : Below w.heap.size w V := thr hB hb hB.size
  replace hg := kept hb (tri hg).2.2.2.2.2.2 hg
  obtain ⟨q0, q1, q2, f0, f1, f2, hl⟩ := tri hg
  clear hb hB HO
  go_wp2
  refine bodyPost_ret (v := .agg #[.int .i64 3, .int .i64 z, .string ⟨#[]⟩]) (by simp [results, Tryd.results25, go_sem, q0, q1, q2]) rfl ?_
  exact ⟨rfl, st3 b2 (by omega)⟩

set_option maxRecDepth 100000 in
set_option maxHeartbeats 2000000 in
theorem bits_shr_go (k n k' n' x y z : Int) (s s' : ByteArray) (w : World) (H1 : Hid (∀ W, Calls Tryd.prog 37 #[.agg #[.int .i64 k, .int .i64 n, .string s]] W fun e w' => e = .returned (.int .i32 x) ∧ Below W.heap.size W w')) (H2 : Hid (∀ W, Calls Tryd.prog 37 #[.agg #[.int .i64 k', .int .i64 n', .string s']] W fun e w' => e = .returned (.int .i32 y) ∧ Below W.heap.size W w')) (HO : Hid (∀ W, Calls Tryd.prog 10 #[.int .i64 z] W fun e w' => e = .returned (.agg #[.int .i64 3, .int .i64 z, .string ⟨#[]⟩]) ∧ Below W.heap.size W w')) (c : Nat) (hc : c ≤ 31) (HC : Hid (∀ W, Calls Tryd.prog 38 #[.int .i32 y] W fun e w' => e = .returned (.int .i64 c) ∧ W = w')) (hz : x / 2 ^ c = z) (z0 : -2147483648 ≤ z) (z1 : z ≤ 2147483647) :
    Calls Tryd.prog 25 #[.string ⟨#[62, 62]⟩, .agg #[.int .i64 k, .int .i64 n, .string s], .agg #[.int .i64 k', .int .i64 n', .string s']] w fun e w' => e = .returned (.agg #[.int .i64 3, .int .i64 z, .string ⟨#[]⟩]) ∧ Below w.heap.size w w' := by
  go_enter Tryd.func25, Tryd.ntmps25
  go_wp2_with fail
  refine cutQ (fin_bt25 ⟨#[62, 62]⟩ k n k' n' x y s s' w w.heap.size) ?_ (fun hR => reg_bt25 _ (fun _ _ _ _ _ h => h) ⟨#[62, 62]⟩ k n k' n' x y s s' w w.heap.size (Lib.hid hR) H1 H2 _ (k2_of (bel3 w _ _ _).drew (old2 w _ _ _) (mid2 w _ _ _) ⟨_, _, _, blk2 w _ _ _⟩))
  rintro a U ⟨rfl, hU⟩
  obtain ⟨hB, ⟨_, _, _, _, _, hg⟩, _⟩ := hU
  clear H1 H2
  go_wp2_with fail
  refine (HC.out _).mono ?_
  rintro e V ⟨rfl, rfl⟩
  clear HC
  go_wp2_with fail
  refine (HO.out _).mono ?_
  rintro e V ⟨rfl, hb⟩
  have b2 : Below w.heap.size w V := thr hB hb hB.size
  replace hg := kept hb (tri hg).2.2.2.2.2.2 hg
  obtain ⟨q0, q1, q2, f0, f1, f2, hl⟩ := tri hg
  clear hb hB HO
  go_wp2
  refine bodyPost_ret (v := .agg #[.int .i64 3, .int .i64 z, .string ⟨#[]⟩]) (by simp [results, Tryd.results25, go_sem, q0, q1, q2]) rfl ?_
  exact ⟨rfl, st3 b2 (by omega)⟩
end Go.Proofs.YtokpmpmlbmpnmaaDoor
