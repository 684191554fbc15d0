/-
  Digits and Text of the reference at this translation: the decimal numeral of an integer.
-/
import Derived.Test.YtokpmpmlbmpnmaaDoorIs
import Derived.Test.YtokpmpmlbmpnmaaDoorText
import Derived.Lib.ItoaLen
namespace Go.Proofs.YtokpmpmlbmpnmaaDoor
open Go.RowKit

theorem dg_one : ((List.range 10).all fun n => decide ((⟨#[48, 49, 50, 51, 52, 53, 54, 55, 56, 57]⟩ : ByteArray).extract n (n + 1) = ⟨#[UInt8.ofNat (48 + n)]⟩)) = true := by kernel_rfl
theorem dg_at (n : Nat) (h : n < 10) : (⟨#[48, 49, 50, 51, 52, 53, 54, 55, 56, 57]⟩ : ByteArray).extract n (n + 1) = ⟨#[UInt8.ofNat (48 + n)]⟩ := by
  have := List.all_eq_true.1 dg_one n (List.mem_range.2 h)
  simpa using this
theorem dec_one (n : Nat) (h : n < 10) : Lib.decDigits n = [UInt8.ofNat (48 + n)] := by rw [Lib.decDigits, dif_pos h]
theorem dec_more (n : Nat) (h : ¬ n < 10) : (⟨(Lib.decDigits (n / 10)).toArray⟩ : ByteArray) ++ ⟨#[UInt8.ofNat (48 + n % 10)]⟩ = ⟨(Lib.decDigits n).toArray⟩ := by
  rw [Lib.decDigits.eq_def n, dif_neg h]
  apply ByteArray.ext
  simp

def ops_dg : Array Oper := #[{ dst := some 11, op := Op.move (Operand.tmp 0), type := 3, pos := "ref.go:142", after := #[], guard := none }, { dst := some 12, op := Op.binOp BinOp.quo 3 (Operand.tmp 11) (Operand.const (Value.int IntKind.i64 10)) 3, type := 3, pos := "ref.go:142", after := #[{ on := 0, ground := Ground.data }], guard := none }, { dst := some 13, op := Op.call { callee := Callee.value (Operand.func 33), args := #[Operand.tmp 12], argTypes := #[3] }, type := 9, pos := "ref.go:142", after := #[{ on := 1, ground := Ground.data }], guard := none }, { dst := some 14, op := Op.move (Operand.tmp 3), type := 9, pos := "ref.go:142", after := #[], guard := none }, { dst := some 15, op := Op.move (Operand.tmp 0), type := 3, pos := "ref.go:142", after := #[], guard := none }, { dst := some 16, op := Op.binOp BinOp.rem 3 (Operand.tmp 15) (Operand.const (Value.int IntKind.i64 10)) 3, type := 3, pos := "ref.go:142", after := #[{ on := 4, ground := Ground.data }], guard := none }, { dst := some 17, op := Op.move (Operand.tmp 0), type := 3, pos := "ref.go:142", after := #[], guard := none }, { dst := some 18, op := Op.binOp BinOp.rem 3 (Operand.tmp 17) (Operand.const (Value.int IntKind.i64 10)) 3, type := 3, pos := "ref.go:142", after := #[{ on := 6, ground := Ground.data }], guard := none }, { dst := some 19, op := Op.binOp BinOp.add 3 (Operand.tmp 18) (Operand.const (Value.int IntKind.i64 1)) 3, type := 3, pos := "ref.go:142", after := #[{ on := 7, ground := Ground.data }], guard := none }, { dst := some 20, op := Op.slice 9 (Operand.tmp 14) (some (Operand.tmp 16)) (some (Operand.tmp 19)) none, type := 9, pos := "ref.go:142", after := #[{ on := 3, ground := Ground.data }, { on := 5, ground := Ground.data }, { on := 8, ground := Ground.data }], guard := none }, { dst := some 21, op := Op.binOp BinOp.add 9 (Operand.tmp 13) (Operand.tmp 20) 9, type := 9, pos := "ref.go:142", after := #[{ on := 2, ground := Ground.data }, { on := 9, ground := Ground.data }], guard := none }, { dst := some 2, op := Op.assign (Operand.tmp 21), type := 9, pos := "ref.go:142", after := #[{ on := 10, ground := Ground.data }, { on := 2, ground := Ground.chain }, { on := 0, ground := Ground.phase }, { on := 1, ground := Ground.phase }, { on := 2, ground := Ground.phase }, { on := 3, ground := Ground.phase }, { on := 4, ground := Ground.phase }, { on := 5, ground := Ground.phase }, { on := 6, ground := Ground.phase }, { on := 7, ground := Ground.phase }, { on := 8, ground := Ground.phase }, { on := 9, ground := Ground.phase }, { on := 10, ground := Ground.phase }], guard := none }]
def fin_dg (a q r : Int) (l c d : ByteArray) (w : World) : Act → World → Prop := fun act V => act = { tmps := #[.int .i64 a, undef, .string d, .string ⟨#[48, 49, 50, 51, 52, 53, 54, 55, 56, 57]⟩, .int .i64 a, .bool false, undef, undef, undef, undef, undef, .int .i64 a, .int .i64 q, .string l, .string ⟨#[48, 49, 50, 51, 52, 53, 54, 55, 56, 57]⟩, .int .i64 a, .int .i64 r, .int .i64 a, .int .i64 r, .int .i64 (r + 1), .string c, .string d], defers := [] } ∧ (Below w.heap.size w) V

set_option maxRecDepth 100000 in
set_option linter.unusedVariables false in
set_option maxHeartbeats 2000000 in
theorem dg_12 (Q : Exit → Act → World → Prop) (hQ : ∀ c a (d : Nat) v w, Q (.panic c) (Act.put a (some d) v) w → Q (.panic c) a w) (a q r : Int) (l c d : ByteArray) (w : World) (HR : Hid (∀ act V, fin_dg a q r l c d w act V → Q .normal act V)) (HC : Hid (∀ W, Calls Tryd.prog 33 #[.int .i64 q] W fun e w' => e = .returned (.string l) ∧ Below W.heap.size W w')) (hq : a.tdiv 10 = q) (hr : a.tmod 10 = r) (q0 : 0 ≤ q) (q1 : q ≤ 9007199254740992) (hls : l.size + c.size ≤ 9223372036854775807) (r0 : 0 ≤ r) (r1 : r ≤ 9) (hc : (⟨#[48, 49, 50, 51, 52, 53, 54, 55, 56, 57]⟩ : ByteArray).extract r.toNat (r + 1).toNat = c) (hd : l ++ c = d) (V : World) (hV : (Below w.heap.size w) V) : wpAnyH Tryd.prog .any ops_dg Q (Below w.heap.size w) 0 #[true, true, true, true, true, true, true, true, true, true, true, true] { tmps := #[.int .i64 a, undef, .string d, .string ⟨#[48, 49, 50, 51, 52, 53, 54, 55, 56, 57]⟩, .int .i64 a, .bool false, undef, undef, undef, undef, undef, .int .i64 a, .int .i64 q, .string l, .string ⟨#[48, 49, 50, 51, 52, 53, 54, 55, 56, 57]⟩, .int .i64 a, .int .i64 r, .int .i64 a, .int .i64 r, .int .i64 (r + 1), .string c, .string d], defers := [] } V := by
  refine wpAnyH_done (by kernel_rfl) ?_ _
  exact HR.out _ _ ⟨rfl, hV⟩

set_option maxRecDepth 100000 in
set_option linter.unusedVariables false in
set_option maxHeartbeats 2000000 in
theorem dg_11 (Q : Exit → Act → World → Prop) (hQ : ∀ c a (d : Nat) v w, Q (.panic c) (Act.put a (some d) v) w → Q (.panic c) a w) (a q r : Int) (l c d : ByteArray) (w : World) (HR : Hid (∀ act V, fin_dg a q r l c d w act V → Q .normal act V)) (HC : Hid (∀ W, Calls Tryd.prog 33 #[.int .i64 q] W fun e w' => e = .returned (.string l) ∧ Below W.heap.size W w')) (hq : a.tdiv 10 = q) (hr : a.tmod 10 = r) (q0 : 0 ≤ q) (q1 : q ≤ 9007199254740992) (hls : l.size + c.size ≤ 9223372036854775807) (r0 : 0 ≤ r) (r1 : r ≤ 9) (hc : (⟨#[48, 49, 50, 51, 52, 53, 54, 55, 56, 57]⟩ : ByteArray).extract r.toNat (r + 1).toNat = c) (hd : l ++ c = d) (V : World) (hV : (Below w.heap.size w) V) : wpAnyH Tryd.prog .any ops_dg Q (Below w.heap.size w) 1 #[true, true, true, true, true, true, true, true, true, true, true, false] { tmps := #[.int .i64 a, undef, .string ⟨#[]⟩, .string ⟨#[48, 49, 50, 51, 52, 53, 54, 55, 56, 57]⟩, .int .i64 a, .bool false, undef, undef, undef, undef, undef, .int .i64 a, .int .i64 q, .string l, .string ⟨#[48, 49, 50, 51, 52, 53, 54, 55, 56, 57]⟩, .int .i64 a, .int .i64 r, .int .i64 a, .int .i64 r, .int .i64 (r + 1), .string c, .string d], defers := [] } V := by
  refine wpAnyH_take (i := 11) (oi := { dst := some 2, op := Op.assign (Operand.tmp 21), type := 9, pos := "ref.go:142", after := #[{ on := 10, ground := Ground.data }, { on := 2, ground := Ground.chain }, { on := 0, ground := Ground.phase }, { on := 1, ground := Ground.phase }, { on := 2, ground := Ground.phase }, { on := 3, ground := Ground.phase }, { on := 4, ground := Ground.phase }, { on := 5, ground := Ground.phase }, { on := 6, ground := Ground.phase }, { on := 7, ground := Ground.phase }, { on := 8, ground := Ground.phase }, { on := 9, ground := Ground.phase }, { on := 10, ground := Ground.phase }], guard := none }) (v := .string d) rfl (by kernel_rfl) (by kernel_rfl) (by kernel_rfl) (fun c a w h => hQ c a _ _ w h) (Or.inl ⟨by kernel_rfl, ?_⟩) (by exact hV) ?_
  · intro U hS
    go_simp
  exact dg_12 Q hQ a q r l c d w HR HC hq hr q0 q1 hls r0 r1 hc hd _ hV

set_option maxRecDepth 100000 in
set_option linter.unusedVariables false in
set_option maxHeartbeats 2000000 in
theorem dg_10 (Q : Exit → Act → World → Prop) (hQ : ∀ c a (d : Nat) v w, Q (.panic c) (Act.put a (some d) v) w → Q (.panic c) a w) (a q r : Int) (l c d : ByteArray) (w : World) (HR : Hid (∀ act V, fin_dg a q r l c d w act V → Q .normal act V)) (HC : Hid (∀ W, Calls Tryd.prog 33 #[.int .i64 q] W fun e w' => e = .returned (.string l) ∧ Below W.heap.size W w')) (hq : a.tdiv 10 = q) (hr : a.tmod 10 = r) (q0 : 0 ≤ q) (q1 : q ≤ 9007199254740992) (hls : l.size + c.size ≤ 9223372036854775807) (r0 : 0 ≤ r) (r1 : r ≤ 9) (hc : (⟨#[48, 49, 50, 51, 52, 53, 54, 55, 56, 57]⟩ : ByteArray).extract r.toNat (r + 1).toNat = c) (hd : l ++ c = d) (V : World) (hV : (Below w.heap.size w) V) : wpAnyH Tryd.prog .any ops_dg Q (Below w.heap.size w) 2 #[true, true, true, true, true, true, true, true, true, true, false, false] { tmps := #[.int .i64 a, undef, .string ⟨#[]⟩, .string ⟨#[48, 49, 50, 51, 52, 53, 54, 55, 56, 57]⟩, .int .i64 a, .bool false, undef, undef, undef, undef, undef, .int .i64 a, .int .i64 q, .string l, .string ⟨#[48, 49, 50, 51, 52, 53, 54, 55, 56, 57]⟩, .int .i64 a, .int .i64 r, .int .i64 a, .int .i64 r, .int .i64 (r + 1), .string c, undef], defers := [] } V := by
  refine wpAnyH_take (i := 10) (oi := { dst := some 21, op := Op.binOp BinOp.add 9 (Operand.tmp 13) (Operand.tmp 20) 9, type := 9, pos := "ref.go:142", after := #[{ on := 2, ground := Ground.data }, { on := 9, ground := Ground.data }], guard := none }) (v := .string d) rfl (by kernel_rfl) (by kernel_rfl) (by kernel_rfl) (fun c a w h => hQ c a _ _ w h) (Or.inl ⟨by kernel_rfl, ?_⟩) (by exact hV) ?_
  · intro U hS
    go_simp
  exact dg_11 Q hQ a q r l c d w HR HC hq hr q0 q1 hls r0 r1 hc hd _ hV

set_option maxRecDepth 100000 in
set_option linter.unusedVariables false in
set_option maxHeartbeats 2000000 in
theorem dg_9 (Q : Exit → Act → World → Prop) (hQ : ∀ c a (d : Nat) v w, Q (.panic c) (Act.put a (some d) v) w → Q (.panic c) a w) (a q r : Int) (l c d : ByteArray) (w : World) (HR : Hid (∀ act V, fin_dg a q r l c d w act V → Q .normal act V)) (HC : Hid (∀ W, Calls Tryd.prog 33 #[.int .i64 q] W fun e w' => e = .returned (.string l) ∧ Below W.heap.size W w')) (hq : a.tdiv 10 = q) (hr : a.tmod 10 = r) (q0 : 0 ≤ q) (q1 : q ≤ 9007199254740992) (hls : l.size + c.size ≤ 9223372036854775807) (r0 : 0 ≤ r) (r1 : r ≤ 9) (hc : (⟨#[48, 49, 50, 51, 52, 53, 54, 55, 56, 57]⟩ : ByteArray).extract r.toNat (r + 1).toNat = c) (hd : l ++ c = d) (V : World) (hV : (Below w.heap.size w) V) : wpAnyH Tryd.prog .any ops_dg Q (Below w.heap.size w) 3 #[true, true, false, true, true, true, true, true, true, true, false, false] { tmps := #[.int .i64 a, undef, .string ⟨#[]⟩, .string ⟨#[48, 49, 50, 51, 52, 53, 54, 55, 56, 57]⟩, .int .i64 a, .bool false, undef, undef, undef, undef, undef, .int .i64 a, .int .i64 q, undef, .string ⟨#[48, 49, 50, 51, 52, 53, 54, 55, 56, 57]⟩, .int .i64 a, .int .i64 r, .int .i64 a, .int .i64 r, .int .i64 (r + 1), .string c, undef], defers := [] } V := by
  refine wpAnyH_ready (rs := [2]) (by kernel_rfl) (by simp) ?_
  refine AllReadyH.cons (o := { dst := some 13, op := Op.call { callee := Callee.value (Operand.func 33), args := #[Operand.tmp 12], argTypes := #[3] }, type := 9, pos := "ref.go:142", after := #[{ on := 1, ground := Ground.data }], guard := none }) rfl (fun K hK => ?_) AllReadyH.nil
  have HK := Lib.hid hK.out
  clear hK
  go_wp2_with fail
  refine (HC.out _).mono ?_
  rintro e V' ⟨rfl, hb⟩
  replace hV : Below w.heap.size w V' := thr hV hb hV.size
  clear hb
  refine HK.out _ _ (by exact hV) (fun _ => ?_)
  exact dg_10 Q hQ a q r l c d w HR HC hq hr q0 q1 hls r0 r1 hc hd _ hV

set_option maxRecDepth 100000 in
set_option linter.unusedVariables false in
set_option maxHeartbeats 2000000 in
theorem dg_8 (Q : Exit → Act → World → Prop) (hQ : ∀ c a (d : Nat) v w, Q (.panic c) (Act.put a (some d) v) w → Q (.panic c) a w) (a q r : Int) (l c d : ByteArray) (w : World) (HR : Hid (∀ act V, fin_dg a q r l c d w act V → Q .normal act V)) (HC : Hid (∀ W, Calls Tryd.prog 33 #[.int .i64 q] W fun e w' => e = .returned (.string l) ∧ Below W.heap.size W w')) (hq : a.tdiv 10 = q) (hr : a.tmod 10 = r) (q0 : 0 ≤ q) (q1 : q ≤ 9007199254740992) (hls : l.size + c.size ≤ 9223372036854775807) (r0 : 0 ≤ r) (r1 : r ≤ 9) (hc : (⟨#[48, 49, 50, 51, 52, 53, 54, 55, 56, 57]⟩ : ByteArray).extract r.toNat (r + 1).toNat = c) (hd : l ++ c = d) (V : World) (hV : (Below w.heap.size w) V) : wpAnyH Tryd.prog .any ops_dg Q (Below w.heap.size w) 4 #[true, true, false, true, true, true, true, true, true, false, false, false] { tmps := #[.int .i64 a, undef, .string ⟨#[]⟩, .string ⟨#[48, 49, 50, 51, 52, 53, 54, 55, 56, 57]⟩, .int .i64 a, .bool false, undef, undef, undef, undef, undef, .int .i64 a, .int .i64 q, undef, .string ⟨#[48, 49, 50, 51, 52, 53, 54, 55, 56, 57]⟩, .int .i64 a, .int .i64 r, .int .i64 a, .int .i64 r, .int .i64 (r + 1), undef, undef], defers := [] } V := by
  refine wpAnyH_take (i := 9) (oi := { dst := some 20, op := Op.slice 9 (Operand.tmp 14) (some (Operand.tmp 16)) (some (Operand.tmp 19)) none, type := 9, pos := "ref.go:142", after := #[{ on := 3, ground := Ground.data }, { on := 5, ground := Ground.data }, { on := 8, ground := Ground.data }], guard := none }) (v := .string c) rfl (by kernel_rfl) (by kernel_rfl) (by kernel_rfl) (fun c a w h => hQ c a _ _ w h) (Or.inl ⟨by kernel_rfl, ?_⟩) (by exact hV) ?_
  · intro U hS
    go_simp
    rw [if_pos ⟨by omega, by omega⟩, if_pos (by omega)]
  exact dg_9 Q hQ a q r l c d w HR HC hq hr q0 q1 hls r0 r1 hc hd _ hV

set_option maxRecDepth 100000 in
set_option linter.unusedVariables false in
set_option maxHeartbeats 2000000 in
theorem dg_7 (Q : Exit → Act → World → Prop) (hQ : ∀ c a (d : Nat) v w, Q (.panic c) (Act.put a (some d) v) w → Q (.panic c) a w) (a q r : Int) (l c d : ByteArray) (w : World) (HR : Hid (∀ act V, fin_dg a q r l c d w act V → Q .normal act V)) (HC : Hid (∀ W, Calls Tryd.prog 33 #[.int .i64 q] W fun e w' => e = .returned (.string l) ∧ Below W.heap.size W w')) (hq : a.tdiv 10 = q) (hr : a.tmod 10 = r) (q0 : 0 ≤ q) (q1 : q ≤ 9007199254740992) (hls : l.size + c.size ≤ 9223372036854775807) (r0 : 0 ≤ r) (r1 : r ≤ 9) (hc : (⟨#[48, 49, 50, 51, 52, 53, 54, 55, 56, 57]⟩ : ByteArray).extract r.toNat (r + 1).toNat = c) (hd : l ++ c = d) (V : World) (hV : (Below w.heap.size w) V) : wpAnyH Tryd.prog .any ops_dg Q (Below w.heap.size w) 5 #[true, true, false, true, true, true, true, true, false, false, false, false] { tmps := #[.int .i64 a, undef, .string ⟨#[]⟩, .string ⟨#[48, 49, 50, 51, 52, 53, 54, 55, 56, 57]⟩, .int .i64 a, .bool false, undef, undef, undef, undef, undef, .int .i64 a, .int .i64 q, undef, .string ⟨#[48, 49, 50, 51, 52, 53, 54, 55, 56, 57]⟩, .int .i64 a, .int .i64 r, .int .i64 a, .int .i64 r, undef, undef, undef], defers := [] } V := by
  refine wpAnyH_take (i := 8) (oi := { dst := some 19, op := Op.binOp BinOp.add 3 (Operand.tmp 18) (Operand.const (Value.int IntKind.i64 1)) 3, type := 3, pos := "ref.go:142", after := #[{ on := 7, ground := Ground.data }], guard := none }) (v := .int .i64 (r + 1)) rfl (by kernel_rfl) (by kernel_rfl) (by kernel_rfl) (fun c a w h => hQ c a _ _ w h) (Or.inl ⟨by kernel_rfl, ?_⟩) (by exact hV) ?_
  · intro U hS
    go_simp
    simp (disch := omega) only [IntWalk.i64_in]
  exact dg_8 Q hQ a q r l c d w HR HC hq hr q0 q1 hls r0 r1 hc hd _ hV

set_option maxRecDepth 100000 in
set_option linter.unusedVariables false in
set_option maxHeartbeats 2000000 in
theorem dg_6 (Q : Exit → Act → World → Prop) (hQ : ∀ c a (d : Nat) v w, Q (.panic c) (Act.put a (some d) v) w → Q (.panic c) a w) (a q r : Int) (l c d : ByteArray) (w : World) (HR : Hid (∀ act V, fin_dg a q r l c d w act V → Q .normal act V)) (HC : Hid (∀ W, Calls Tryd.prog 33 #[.int .i64 q] W fun e w' => e = .returned (.string l) ∧ Below W.heap.size W w')) (hq : a.tdiv 10 = q) (hr : a.tmod 10 = r) (q0 : 0 ≤ q) (q1 : q ≤ 9007199254740992) (hls : l.size + c.size ≤ 9223372036854775807) (r0 : 0 ≤ r) (r1 : r ≤ 9) (hc : (⟨#[48, 49, 50, 51, 52, 53, 54, 55, 56, 57]⟩ : ByteArray).extract r.toNat (r + 1).toNat = c) (hd : l ++ c = d) (V : World) (hV : (Below w.heap.size w) V) : wpAnyH Tryd.prog .any ops_dg Q (Below w.heap.size w) 6 #[true, true, false, true, true, true, true, false, false, false, false, false] { tmps := #[.int .i64 a, undef, .string ⟨#[]⟩, .string ⟨#[48, 49, 50, 51, 52, 53, 54, 55, 56, 57]⟩, .int .i64 a, .bool false, undef, undef, undef, undef, undef, .int .i64 a, .int .i64 q, undef, .string ⟨#[48, 49, 50, 51, 52, 53, 54, 55, 56, 57]⟩, .int .i64 a, .int .i64 r, .int .i64 a, undef, undef, undef, undef], defers := [] } V := by
  refine wpAnyH_take (i := 7) (oi := { dst := some 18, op := Op.binOp BinOp.rem 3 (Operand.tmp 17) (Operand.const (Value.int IntKind.i64 10)) 3, type := 3, pos := "ref.go:142", after := #[{ on := 6, ground := Ground.data }], guard := none }) (v := .int .i64 r) rfl (by kernel_rfl) (by kernel_rfl) (by kernel_rfl) (fun c a w h => hQ c a _ _ w h) (Or.inl ⟨by kernel_rfl, ?_⟩) (by exact hV) ?_
  · intro U hS
    go_simp
  exact dg_7 Q hQ a q r l c d w HR HC hq hr q0 q1 hls r0 r1 hc hd _ hV

set_option maxRecDepth 100000 in
set_option linter.unusedVariables false in
set_option maxHeartbeats 2000000 in
theorem dg_5 (Q : Exit → Act → World → Prop) (hQ : ∀ c a (d : Nat) v w, Q (.panic c) (Act.put a (some d) v) w → Q (.panic c) a w) (a q r : Int) (l c d : ByteArray) (w : World) (HR : Hid (∀ act V, fin_dg a q r l c d w act V → Q .normal act V)) (HC : Hid (∀ W, Calls Tryd.prog 33 #[.int .i64 q] W fun e w' => e = .returned (.string l) ∧ Below W.heap.size W w')) (hq : a.tdiv 10 = q) (hr : a.tmod 10 = r) (q0 : 0 ≤ q) (q1 : q ≤ 9007199254740992) (hls : l.size + c.size ≤ 9223372036854775807) (r0 : 0 ≤ r) (r1 : r ≤ 9) (hc : (⟨#[48, 49, 50, 51, 52, 53, 54, 55, 56, 57]⟩ : ByteArray).extract r.toNat (r + 1).toNat = c) (hd : l ++ c = d) (V : World) (hV : (Below w.heap.size w) V) : wpAnyH Tryd.prog .any ops_dg Q (Below w.heap.size w) 7 #[true, true, false, true, true, true, false, false, false, false, false, false] { tmps := #[.int .i64 a, undef, .string ⟨#[]⟩, .string ⟨#[48, 49, 50, 51, 52, 53, 54, 55, 56, 57]⟩, .int .i64 a, .bool false, undef, undef, undef, undef, undef, .int .i64 a, .int .i64 q, undef, .string ⟨#[48, 49, 50, 51, 52, 53, 54, 55, 56, 57]⟩, .int .i64 a, .int .i64 r, undef, undef, undef, undef, undef], defers := [] } V := by
  refine wpAnyH_take (i := 6) (oi := { dst := some 17, op := Op.move (Operand.tmp 0), type := 3, pos := "ref.go:142", after := #[], guard := none }) (v := .int .i64 a) rfl (by kernel_rfl) (by kernel_rfl) (by kernel_rfl) (fun c a w h => hQ c a _ _ w h) (Or.inl ⟨by kernel_rfl, ?_⟩) (by exact hV) ?_
  · intro U hS
    go_simp
  exact dg_6 Q hQ a q r l c d w HR HC hq hr q0 q1 hls r0 r1 hc hd _ hV

set_option maxRecDepth 100000 in
set_option linter.unusedVariables false in
set_option maxHeartbeats 2000000 in
theorem dg_4 (Q : Exit → Act → World → Prop) (hQ : ∀ c a (d : Nat) v w, Q (.panic c) (Act.put a (some d) v) w → Q (.panic c) a w) (a q r : Int) (l c d : ByteArray) (w : World) (HR : Hid (∀ act V, fin_dg a q r l c d w act V → Q .normal act V)) (HC : Hid (∀ W, Calls Tryd.prog 33 #[.int .i64 q] W fun e w' => e = .returned (.string l) ∧ Below W.heap.size W w')) (hq : a.tdiv 10 = q) (hr : a.tmod 10 = r) (q0 : 0 ≤ q) (q1 : q ≤ 9007199254740992) (hls : l.size + c.size ≤ 9223372036854775807) (r0 : 0 ≤ r) (r1 : r ≤ 9) (hc : (⟨#[48, 49, 50, 51, 52, 53, 54, 55, 56, 57]⟩ : ByteArray).extract r.toNat (r + 1).toNat = c) (hd : l ++ c = d) (V : World) (hV : (Below w.heap.size w) V) : wpAnyH Tryd.prog .any ops_dg Q (Below w.heap.size w) 8 #[true, true, false, true, true, false, false, false, false, false, false, false] { tmps := #[.int .i64 a, undef, .string ⟨#[]⟩, .string ⟨#[48, 49, 50, 51, 52, 53, 54, 55, 56, 57]⟩, .int .i64 a, .bool false, undef, undef, undef, undef, undef, .int .i64 a, .int .i64 q, undef, .string ⟨#[48, 49, 50, 51, 52, 53, 54, 55, 56, 57]⟩, .int .i64 a, undef, undef, undef, undef, undef, undef], defers := [] } V := by
  refine wpAnyH_take (i := 5) (oi := { dst := some 16, op := Op.binOp BinOp.rem 3 (Operand.tmp 15) (Operand.const (Value.int IntKind.i64 10)) 3, type := 3, pos := "ref.go:142", after := #[{ on := 4, ground := Ground.data }], guard := none }) (v := .int .i64 r) rfl (by kernel_rfl) (by kernel_rfl) (by kernel_rfl) (fun c a w h => hQ c a _ _ w h) (Or.inl ⟨by kernel_rfl, ?_⟩) (by exact hV) ?_
  · intro U hS
    go_simp
  exact dg_5 Q hQ a q r l c d w HR HC hq hr q0 q1 hls r0 r1 hc hd _ hV

set_option maxRecDepth 100000 in
set_option linter.unusedVariables false in
set_option maxHeartbeats 2000000 in
theorem dg_3 (Q : Exit → Act → World → Prop) (hQ : ∀ c a (d : Nat) v w, Q (.panic c) (Act.put a (some d) v) w → Q (.panic c) a w) (a q r : Int) (l c d : ByteArray) (w : World) (HR : Hid (∀ act V, fin_dg a q r l c d w act V → Q .normal act V)) (HC : Hid (∀ W, Calls Tryd.prog 33 #[.int .i64 q] W fun e w' => e = .returned (.string l) ∧ Below W.heap.size W w')) (hq : a.tdiv 10 = q) (hr : a.tmod 10 = r) (q0 : 0 ≤ q) (q1 : q ≤ 9007199254740992) (hls : l.size + c.size ≤ 9223372036854775807) (r0 : 0 ≤ r) (r1 : r ≤ 9) (hc : (⟨#[48, 49, 50, 51, 52, 53, 54, 55, 56, 57]⟩ : ByteArray).extract r.toNat (r + 1).toNat = c) (hd : l ++ c = d) (V : World) (hV : (Below w.heap.size w) V) : wpAnyH Tryd.prog .any ops_dg Q (Below w.heap.size w) 9 #[true, true, false, true, false, false, false, false, false, false, false, false] { tmps := #[.int .i64 a, undef, .string ⟨#[]⟩, .string ⟨#[48, 49, 50, 51, 52, 53, 54, 55, 56, 57]⟩, .int .i64 a, .bool false, undef, undef, undef, undef, undef, .int .i64 a, .int .i64 q, undef, .string ⟨#[48, 49, 50, 51, 52, 53, 54, 55, 56, 57]⟩, undef, undef, undef, undef, undef, undef, undef], defers := [] } V := by
  refine wpAnyH_take (i := 4) (oi := { dst := some 15, op := Op.move (Operand.tmp 0), type := 3, pos := "ref.go:142", after := #[], guard := none }) (v := .int .i64 a) rfl (by kernel_rfl) (by kernel_rfl) (by kernel_rfl) (fun c a w h => hQ c a _ _ w h) (Or.inl ⟨by kernel_rfl, ?_⟩) (by exact hV) ?_
  · intro U hS
    go_simp
  exact dg_4 Q hQ a q r l c d w HR HC hq hr q0 q1 hls r0 r1 hc hd _ hV

set_option maxRecDepth 100000 in
set_option linter.unusedVariables false in
set_option maxHeartbeats 2000000 in
theorem dg_2 (Q : Exit → Act → World → Prop) (hQ : ∀ c a (d : Nat) v w, Q (.panic c) (Act.put a (some d) v) w → Q (.panic c) a w) (a q r : Int) (l c d : ByteArray) (w : World) (HR : Hid (∀ act V, fin_dg a q r l c d w act V → Q .normal act V)) (HC : Hid (∀ W, Calls Tryd.prog 33 #[.int .i64 q] W fun e w' => e = .returned (.string l) ∧ Below W.heap.size W w')) (hq : a.tdiv 10 = q) (hr : a.tmod 10 = r) (q0 : 0 ≤ q) (q1 : q ≤ 9007199254740992) (hls : l.size + c.size ≤ 9223372036854775807) (r0 : 0 ≤ r) (r1 : r ≤ 9) (hc : (⟨#[48, 49, 50, 51, 52, 53, 54, 55, 56, 57]⟩ : ByteArray).extract r.toNat (r + 1).toNat = c) (hd : l ++ c = d) (V : World) (hV : (Below w.heap.size w) V) : wpAnyH Tryd.prog .any ops_dg Q (Below w.heap.size w) 10 #[true, true, false, false, false, false, false, false, false, false, false, false] { tmps := #[.int .i64 a, undef, .string ⟨#[]⟩, .string ⟨#[48, 49, 50, 51, 52, 53, 54, 55, 56, 57]⟩, .int .i64 a, .bool false, undef, undef, undef, undef, undef, .int .i64 a, .int .i64 q, undef, undef, undef, undef, undef, undef, undef, undef, undef], defers := [] } V := by
  refine wpAnyH_take (i := 3) (oi := { dst := some 14, op := Op.move (Operand.tmp 3), type := 9, pos := "ref.go:142", after := #[], guard := none }) (v := .string ⟨#[48, 49, 50, 51, 52, 53, 54, 55, 56, 57]⟩) rfl (by kernel_rfl) (by kernel_rfl) (by kernel_rfl) (fun c a w h => hQ c a _ _ w h) (Or.inl ⟨by kernel_rfl, ?_⟩) (by exact hV) ?_
  · intro U hS
    go_simp
  exact dg_3 Q hQ a q r l c d w HR HC hq hr q0 q1 hls r0 r1 hc hd _ hV

set_option maxRecDepth 100000 in
set_option linter.unusedVariables false in
set_option maxHeartbeats 2000000 in
theorem dg_1 (Q : Exit → Act → World → Prop) (hQ : ∀ c a (d : Nat) v w, Q (.panic c) (Act.put a (some d) v) w → Q (.panic c) a w) (a q r : Int) (l c d : ByteArray) (w : World) (HR : Hid (∀ act V, fin_dg a q r l c d w act V → Q .normal act V)) (HC : Hid (∀ W, Calls Tryd.prog 33 #[.int .i64 q] W fun e w' => e = .returned (.string l) ∧ Below W.heap.size W w')) (hq : a.tdiv 10 = q) (hr : a.tmod 10 = r) (q0 : 0 ≤ q) (q1 : q ≤ 9007199254740992) (hls : l.size + c.size ≤ 9223372036854775807) (r0 : 0 ≤ r) (r1 : r ≤ 9) (hc : (⟨#[48, 49, 50, 51, 52, 53, 54, 55, 56, 57]⟩ : ByteArray).extract r.toNat (r + 1).toNat = c) (hd : l ++ c = d) (V : World) (hV : (Below w.heap.size w) V) : wpAnyH Tryd.prog .any ops_dg Q (Below w.heap.size w) 11 #[true, false, false, false, false, false, false, false, false, false, false, false] { tmps := #[.int .i64 a, undef, .string ⟨#[]⟩, .string ⟨#[48, 49, 50, 51, 52, 53, 54, 55, 56, 57]⟩, .int .i64 a, .bool false, undef, undef, undef, undef, undef, .int .i64 a, undef, undef, undef, undef, undef, undef, undef, undef, undef, undef], defers := [] } V := by
  refine wpAnyH_take (i := 1) (oi := { dst := some 12, op := Op.binOp BinOp.quo 3 (Operand.tmp 11) (Operand.const (Value.int IntKind.i64 10)) 3, type := 3, pos := "ref.go:142", after := #[{ on := 0, ground := Ground.data }], guard := none }) (v := .int .i64 q) rfl (by kernel_rfl) (by kernel_rfl) (by kernel_rfl) (fun c a w h => hQ c a _ _ w h) (Or.inl ⟨by kernel_rfl, ?_⟩) (by exact hV) ?_
  · intro U hS
    go_simp
    simp (disch := omega) only [IntWalk.i64_in]
  exact dg_2 Q hQ a q r l c d w HR HC hq hr q0 q1 hls r0 r1 hc hd _ hV

set_option maxRecDepth 100000 in
set_option linter.unusedVariables false in
set_option maxHeartbeats 2000000 in
theorem dg_0 (Q : Exit → Act → World → Prop) (hQ : ∀ c a (d : Nat) v w, Q (.panic c) (Act.put a (some d) v) w → Q (.panic c) a w) (a q r : Int) (l c d : ByteArray) (w : World) (HR : Hid (∀ act V, fin_dg a q r l c d w act V → Q .normal act V)) (HC : Hid (∀ W, Calls Tryd.prog 33 #[.int .i64 q] W fun e w' => e = .returned (.string l) ∧ Below W.heap.size W w')) (hq : a.tdiv 10 = q) (hr : a.tmod 10 = r) (q0 : 0 ≤ q) (q1 : q ≤ 9007199254740992) (hls : l.size + c.size ≤ 9223372036854775807) (r0 : 0 ≤ r) (r1 : r ≤ 9) (hc : (⟨#[48, 49, 50, 51, 52, 53, 54, 55, 56, 57]⟩ : ByteArray).extract r.toNat (r + 1).toNat = c) (hd : l ++ c = d) (V : World) (hV : (Below w.heap.size w) V) : wpAnyH Tryd.prog .any ops_dg Q (Below w.heap.size w) 12 #[false, false, false, false, false, false, false, false, false, false, false, false] { tmps := #[.int .i64 a, undef, .string ⟨#[]⟩, .string ⟨#[48, 49, 50, 51, 52, 53, 54, 55, 56, 57]⟩, .int .i64 a, .bool false, undef, undef, undef, undef, undef, undef, undef, undef, undef, undef, undef, undef, undef, undef, undef, undef], defers := [] } V := by
  refine wpAnyH_take (i := 0) (oi := { dst := some 11, op := Op.move (Operand.tmp 0), type := 3, pos := "ref.go:142", after := #[], guard := none }) (v := .int .i64 a) rfl (by kernel_rfl) (by kernel_rfl) (by kernel_rfl) (fun c a w h => hQ c a _ _ w h) (Or.inl ⟨by kernel_rfl, ?_⟩) (by exact hV) ?_
  · intro U hS
    go_simp
  exact dg_1 Q hQ a q r l c d w HR HC hq hr q0 q1 hls r0 r1 hc hd _ hV

set_option maxRecDepth 100000 in
set_option linter.unusedVariables false in
set_option maxHeartbeats 2000000 in
theorem reg_dg (Q : Exit → Act → World → Prop) (hQ : ∀ c a (d : Nat) v w, Q (.panic c) (Act.put a (some d) v) w → Q (.panic c) a w) (a q r : Int) (l c d : ByteArray) (w : World) (HR : Hid (∀ act V, fin_dg a q r l c d w act V → Q .normal act V)) (HC : Hid (∀ W, Calls Tryd.prog 33 #[.int .i64 q] W fun e w' => e = .returned (.string l) ∧ Below W.heap.size W w')) (hq : a.tdiv 10 = q) (hr : a.tmod 10 = r) (q0 : 0 ≤ q) (q1 : q ≤ 9007199254740992) (hls : l.size + c.size ≤ 9223372036854775807) (r0 : 0 ≤ r) (r1 : r ≤ 9) (hc : (⟨#[48, 49, 50, 51, 52, 53, 54, 55, 56, 57]⟩ : ByteArray).extract r.toNat (r + 1).toNat = c) (hd : l ++ c = d) (W : World) (hW : (Below w.heap.size w) W.drew) : Code.wp Tryd.prog (Code.region 4 ops_dg true) Q { tmps := #[.int .i64 a, undef, .string ⟨#[]⟩, .string ⟨#[48, 49, 50, 51, 52, 53, 54, 55, 56, 57]⟩, .int .i64 a, .bool false, undef, undef, undef, undef, undef, undef, undef, undef, undef, undef, undef, undef, undef, undef, undef, undef], defers := [] } W := by
  refine wp_region_held_drew (S := (Below w.heap.size w)) (by kernel_rfl) (by exact hW) (fun hV => ?_)
  exact dg_0 Q hQ a q r l c d w HR HC hq hr q0 q1 hls r0 r1 hc hd _ hV

set_option maxRecDepth 100000 in
set_option maxHeartbeats 2000000 in
theorem digs_any : ∀ (n : Nat) (w : World), n ≤ 9007199254740992 → Calls Tryd.prog 33 #[.int .i64 (n : Int)] w fun e w' => e = .returned (.string ⟨(Lib.decDigits n).toArray⟩) ∧ Below w.heap.size w w' := by
  intro n
  induction n using Nat.strongRecOn with
  | ind n ih =>
    intro w hn
    by_cases h : n < 10
    · have e := dg_at n h
      rw [dec_one n h]
      have h0 : (n : Int) < 10 := by omega
      have H := Lib.hid e
      clear e ih
      go_enter Tryd.func33, Tryd.ntmps33
      go_wp2
      go_ret
      refine ⟨?_, by go_grown⟩
      rw [← H.out]
      rfl
    · have h0 : ¬ (n : Int) < 10 := by omega
      have HC := Lib.hid (fun W => ih (n / 10) (by omega) W (by omega))
      have eq : (n : Int).tdiv 10 = ((n / 10 : Nat) : Int) := by rw [Int.tdiv_eq_ediv_of_nonneg (by omega)]; omega
      have er : (n : Int).tmod 10 = ((n % 10 : Nat) : Int) := by rw [Int.tmod_eq_emod_of_nonneg (by omega)]; omega
      have ec : (⟨#[48, 49, 50, 51, 52, 53, 54, 55, 56, 57]⟩ : ByteArray).extract (((n % 10 : Nat) : Int)).toNat (((n % 10 : Nat) : Int) + 1).toNat = ⟨#[UInt8.ofNat (48 + n % 10)]⟩ := by
        have := dg_at (n % 10) (by omega)
        have e1 : (((n % 10 : Nat) : Int)).toNat = n % 10 := by omega
        have e2 : (((n % 10 : Nat) : Int) + 1).toNat = n % 10 + 1 := by omega
        rw [e1, e2]
        exact this
      have ed := dec_more n h
      have q0 : 0 ≤ ((n / 10 : Nat) : Int) := by omega
      have q1 : ((n / 10 : Nat) : Int) ≤ 9007199254740992 := by omega
      have hls : (⟨(Lib.decDigits (n / 10)).toArray⟩ : ByteArray).size + (⟨#[UInt8.ofNat (48 + n % 10)]⟩ : ByteArray).size ≤ 9223372036854775807 := by
        have h1 := Lib.itoa_length_le ((n / 10 : Nat) : Int) (by omega) (by omega)
        rw [Lib.itoa_nonneg] at h1
        have h2 : (⟨(Lib.decDigits (n / 10)).toArray⟩ : ByteArray).size = (Lib.decDigits (n / 10)).length := by simp [ByteArray.size]
        have h3 : (⟨#[UInt8.ofNat (48 + n % 10)]⟩ : ByteArray).size = 1 := rfl
        omega
      have r0 : 0 ≤ ((n % 10 : Nat) : Int) := by omega
      have r1 : ((n % 10 : Nat) : Int) ≤ 9 := by omega
      obtain ⟨qv, hqv⟩ : ∃ qv, qv = ((n / 10 : Nat) : Int) := ⟨_, rfl⟩
      obtain ⟨rv, hrv⟩ : ∃ rv, rv = ((n % 10 : Nat) : Int) := ⟨_, rfl⟩
      obtain ⟨av, hav⟩ : ∃ av, av = (n : Int) := ⟨_, rfl⟩
      obtain ⟨lv, hlv⟩ : ∃ lv : ByteArray, lv = ⟨(Lib.decDigits (n / 10)).toArray⟩ := ⟨_, rfl⟩
      obtain ⟨dv, hdv⟩ : ∃ dv : ByteArray, dv = ⟨(Lib.decDigits n).toArray⟩ := ⟨_, rfl⟩
      obtain ⟨cv, hcv⟩ : ∃ cv : ByteArray, cv = ⟨#[UInt8.ofNat (48 + n % 10)]⟩ := ⟨_, rfl⟩
      have hA : av ≤ 9007199254740992 := by omega
      simp only [← hqv, ← hrv, ← hav, ← hlv, ← hdv, ← hcv] at h0 HC eq er ec ed r0 r1 q0 q1 hls ⊢
      clear ih hqv hrv hav hlv hdv hcv h hn
      have HE := Lib.hid (And.intro ec ed)
      clear ec ed
      go_enter Tryd.func33, Tryd.ntmps33
      go_wp2_with fail
      refine cutQ (fin_dg av qv rv lv cv dv w) ?_ (fun hR => reg_dg _ (fun _ _ _ _ _ h => h) av qv rv lv cv dv w (Lib.hid hR) HC eq er q0 q1 hls r0 r1 HE.out.1 HE.out.2 w (Below.refl _ w).drew)
      rintro a U ⟨rfl, hU⟩
      go_wp2
      go_ret
      exact ⟨rfl, hU⟩

theorem isk_wh (k n : Int) (s : ByteArray) : whK k n s = (isK k n s && (k == 3)) := by
  unfold whK isK
  by_cases h3 : k = 3
  · subst h3
    cases s.toList.isEmpty <;> cases inB n <;> rfl
  · have : (k == 3) = false := by simpa using h3
    rw [this]
    simp
set_option maxHeartbeats 1000000 in
theorem some_any (k n : Int) (s : ByteArray) (w : World) : Calls Tryd.prog 32 #[.agg #[.int .i64 k, .int .i64 n, .string s]] w fun e w' => e = .returned (.bool (whK k n s)) ∧ Below w.heap.size w w' := by
  rw [isk_wh]
  have P := fun W => refis_any k n s W
  cases hk : isK k n s with
  | false =>
    rw [hk] at P
    have HP := Lib.hid P
    clear P hk
    go_enter Tryd.func32, Tryd.ntmps32
    go_wp2_with fail
    refine (HP.out _).mono ?_
    rintro e w1 ⟨rfl, hb⟩
    have h1 : Below w.heap.size w w1 := thr (bel1 w _) hb (by simp)
    go_wp2
    go_ret
    exact ⟨rfl, h1⟩
  | true =>
    rw [hk] at P
    have HP := Lib.hid P
    clear P hk
    go_enter Tryd.func32, Tryd.ntmps32
    go_wp2_with fail
    refine (HP.out _).mono ?_
    rintro e w1 ⟨rfl, hb⟩
    have h1 : Below w.heap.size w w1 := thr (bel1 w _) hb (by simp)
    obtain ⟨p0, p1, p2, _, _, _, _⟩ := tri (kept hb (by simp) (heap_alloc_new w _))
    clear hb
    go_wp2
    go_ret
    exact ⟨ret_b (by simp), h1⟩

set_option maxHeartbeats 1000000 in
theorem reftext_any (k n : Int) (s : ByteArray) (w : World) : Calls Tryd.prog 15 #[.agg #[.int .i64 k, .int .i64 n, .string s]] w fun e w' => e = .returned (.string (txV k n s)) ∧ Below w.heap.size w w' := by
  have P := fun W => some_any k n s W
  unfold txV
  cases hk : whK k n s with
  | false =>
    rw [hk] at P
    have HP := Lib.hid P
    clear P hk
    rw [if_neg (by simp)]
    go_enter Tryd.func15, Tryd.ntmps15
    go_wp2_with fail
    refine (HP.out _).mono ?_
    rintro e w1 ⟨rfl, hb⟩
    have h1 : Below w.heap.size w w1 := thr (bel1 w _) hb (by simp)
    go_wp2
    go_ret
    exact ⟨rfl, h1⟩
  | true =>
    rw [hk] at P
    have HP := Lib.hid P
    clear P
    rw [if_pos rfl]
    have hi : inB n = true := by
      unfold whK at hk
      simp only [Bool.and_eq_true] at hk
      exact hk.2
    obtain ⟨i0, i1⟩ := in_yes hi
    clear hk hi
    unfold Lib.itoa
    by_cases hn : n < 0
    · rw [if_pos hn]
      have D := fun W => digs_any n.natAbs W (by omega)
      have e1 : ((n.natAbs : Nat) : Int) = -n := by omega
      rw [e1] at D
      have e2 : (⟨#[45]⟩ : ByteArray) ++ ⟨(Lib.decDigits n.natAbs).toArray⟩ = ⟨(45 :: Lib.decDigits n.natAbs).toArray⟩ := by
        apply ByteArray.ext
        simp
      have e3 : (⟨#[45]⟩ : ByteArray).size + (⟨(Lib.decDigits n.natAbs).toArray⟩ : ByteArray).size ≤ 9223372036854775807 := by
        have h1 := Lib.itoa_length_le ((n.natAbs : Nat) : Int) (by omega) (by omega)
        rw [Lib.itoa_nonneg] at h1
        have h2 : (⟨(Lib.decDigits n.natAbs).toArray⟩ : ByteArray).size = (Lib.decDigits n.natAbs).length := by simp [ByteArray.size]
        have h3 : (⟨#[45]⟩ : ByteArray).size = 1 := rfl
        omega
      obtain ⟨l, hl⟩ : ∃ l : ByteArray, l = ⟨(Lib.decDigits n.natAbs).toArray⟩ := ⟨_, rfl⟩
      obtain ⟨d, hd⟩ : ∃ d : ByteArray, d = ⟨(45 :: Lib.decDigits n.natAbs).toArray⟩ := ⟨_, rfl⟩
      simp only [← hl, ← hd] at D e2 e3 ⊢
      have HD := Lib.hid D
      have HE := Lib.hid e2
      clear D hl hd e1 e2
      go_enter Tryd.func15, Tryd.ntmps15
      go_wp2_with fail
      refine (HP.out _).mono ?_
      rintro e w1 ⟨rfl, hb⟩
      have h1 : Below w.heap.size w w1 := thr (bel1 w _) hb (by simp)
      obtain ⟨p0, p1, p2, _, _, _, _⟩ := tri (kept hb (by simp) (heap_alloc_new w _))
      clear hb
      go_wp2_with fail
      refine (HD.out _).mono ?_
      rintro e w2 ⟨rfl, hb⟩
      have h2 : Below w.heap.size w w2 := thr h1 hb h1.size
      go_wp2
      go_ret
      refine ⟨?_, h2⟩
      rw [← HE.out]
      rfl
    · rw [if_neg hn]
      have D := fun W => digs_any n.toNat W (by omega)
      have e1 : ((n.toNat : Nat) : Int) = n := by omega
      rw [e1] at D
      obtain ⟨l, hl⟩ : ∃ l : ByteArray, l = ⟨(Lib.decDigits n.toNat).toArray⟩ := ⟨_, rfl⟩
      simp only [← hl] at D ⊢
      have HD := Lib.hid D
      clear D hl e1
      go_enter Tryd.func15, Tryd.ntmps15
      go_wp2_with fail
      refine (HP.out _).mono ?_
      rintro e w1 ⟨rfl, hb⟩
      have h1 : Below w.heap.size w w1 := thr (bel1 w _) hb (by simp)
      obtain ⟨p0, p1, p2, _, _, _, _⟩ := tri (kept hb (by simp) (heap_alloc_new w _))
      clear hb
      go_wp2_with fail
      refine (HD.out _).mono ?_
      rintro e w2 ⟨rfl, hb⟩
      have h2 : Below w.heap.size w w2 := thr h1 hb h1.size
      go_wp2
      go_ret
      exact ⟨rfl, h2⟩
end Go.Proofs.YtokpmpmlbmpnmaaDoor
