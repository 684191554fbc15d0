/-
  Is of package num at this translation, and Of, Is and Some of the reference.
-/
import Derived.Test.YtokpmpmlbmpnmaaDoorRestsR
namespace Go.Proofs.YtokpmpmlbmpnmaaDoor
open Go.RowKit

def isK (k n : Int) (s : ByteArray) : Bool := s.toList.isEmpty && ((k == 3 && inB n) || (k == 4 && n == 0))

set_option maxHeartbeats 1000000 in
theorem refof_any (n : Int) (w : World) : Calls Tryd.prog 11 #[.int .i64 n] w fun e w' => e = .returned (.agg #[.int .i64 (ofK n), .int .i64 (ofN n), .string ⟨#[]⟩]) ∧ Below w.heap.size w w' := by
  cases h : inB n with
  | true =>
    obtain ⟨h0, h1⟩ := in_yes h
    rw [(of_in h).1, (of_in h).2]
    go_enter Tryd.func11, Tryd.ntmps11
    go_wp2
    go_returns
    exact ⟨rfl, by go_grown⟩
  | false =>
    have hk : ofK n = 4 := by simp [ofK, h]
    have hn : ofN n = 0 := by simp [ofN, h]
    rw [hk, hn]
    clear hk hn
    rcases in_no h with h0 | h0
    · go_enter Tryd.func11, Tryd.ntmps11
      go_wp2
      go_returns
      exact ⟨rfl, by go_grown⟩
    · go_enter Tryd.func11, Tryd.ntmps11
      go_wp2
      go_returns
      exact ⟨rfl, by go_grown⟩

set_option maxHeartbeats 1000000 in
theorem refis_any (k n : Int) (s : ByteArray) (w : World) : Calls Tryd.prog 13 #[.agg #[.int .i64 k, .int .i64 n, .string s]] w fun e w' => e = .returned (.bool (isK k n s)) ∧ Below w.heap.size w w' := by
  unfold isK
  cases hs : s.toList.isEmpty with
  | false =>
    rw [Bool.false_and]
    go_enter Tryd.func13, Tryd.ntmps13
    go_wp2
    go_ret
    exact ⟨rfl, by go_grown⟩
  | true =>
    rw [Bool.true_and]
    by_cases h3 : k = 3
    · subst h3
      cases h : inB n with
      | true =>
        obtain ⟨h0, h1⟩ := in_yes h
        go_enter Tryd.func13, Tryd.ntmps13
        go_wp2
        go_ret
        exact ⟨rfl, by go_grown⟩
      | false =>
        rcases in_no h with h0 | h0
        · go_enter Tryd.func13, Tryd.ntmps13
          go_wp2
          go_ret
          exact ⟨rfl, by go_grown⟩
        · have hd : decide (n ≤ 9007199254740992) = false := decide_eq_false (by omega)
          go_enter Tryd.func13, Tryd.ntmps13
          go_wp2
          go_ret
          exact ⟨ret_b rfl, by go_grown⟩
    · have h3b : (k == 3) = false := by simpa using h3
      by_cases h4 : k = 4
      · subst h4
        cases hn : (n == 0) with
        | true =>
          go_enter Tryd.func13, Tryd.ntmps13
          go_wp2
          go_ret
          exact ⟨rfl, by go_grown⟩
        | false =>
          go_enter Tryd.func13, Tryd.ntmps13
          go_wp2
          go_ret
          exact ⟨rfl, by go_grown⟩
      · have h4b : (k == 4) = false := by simpa using h4
        rw [h3b, h4b]
        go_enter Tryd.func13, Tryd.ntmps13
        go_wp2
        go_ret
        exact ⟨rfl, by go_grown⟩

def K1 (w : World) (b : Nat) (k n : Int) (s : ByteArray) : World → Prop := fun U => Below w.heap.size w U ∧ U.heap[b]? = some (.cells #[.int .i64 k, .int .i64 n, .string s] 23 (0, 0)) ∧ U.cell? ⟨b, 0, none⟩ = some (.int .i64 k) ∧ U.cell? ⟨b, 1, none⟩ = some (.int .i64 n) ∧ U.cell? ⟨b, 2, none⟩ = some (.string s)
theorem k1_of {w U : World} {b : Nat} {k n : Int} {s : ByteArray} (B : Below w.heap.size w U) (f : U.heap[b]? = some (.cells #[.int .i64 k, .int .i64 n, .string s] 23 (0, 0))) : K1 w b k n s U := by
  obtain ⟨p0, p1, p2, _, _, _, _⟩ := tri f
  exact ⟨B, f, p0, p1, p2⟩
theorem k1_call {w U U' : World} {b : Nat} {k n : Int} {s : ByteArray} (h : K1 w b k n s U) (hb : Below U.heap.size U U') : K1 w b k n s U' := by
  obtain ⟨B, f, _⟩ := h
  exact k1_of (thr B hb B.size) (kept hb (tri f).2.2.2.2.2.2 f)

def ops_isY : Array Oper := #[{ dst := some 10, op := Op.move (Operand.tmp 4), type := 4, pos := "num.go:24", after := #[], guard := none }, { dst := some 11, op := Op.move (Operand.tmp 10), type := 4, pos := "num.go:24", after := #[{ on := 0, ground := Ground.data }], guard := none }, { dst := some 12, op := Op.load 23 (Operand.tmp 1), type := 23, pos := "num.go:24", after := #[{ on := 1, ground := Ground.guard }], guard := some (1, false) }, { dst := some 13, op := Op.call { callee := Callee.value (Operand.func 29), args := #[], argTypes := #[] }, type := 23, pos := "num.go:24", after := #[{ on := 1, ground := Ground.chain }, { on := 1, ground := Ground.guard }], guard := some (1, false) }, { dst := some 14, op := Op.binOp BinOp.eql 23 (Operand.tmp 12) (Operand.tmp 13) 23, type := 4, pos := "num.go:24", after := #[{ on := 2, ground := Ground.data }, { on := 3, ground := Ground.data }, { on := 1, ground := Ground.guard }], guard := some (1, false) }, { dst := some 15, op := Op.pick (Operand.tmp 11) (Operand.const (Value.bool true)) (Operand.tmp 14), type := 4, pos := "num.go:24", after := #[{ on := 1, ground := Ground.data }, { on := 4, ground := Ground.data }], guard := none }, { dst := some 2, op := Op.assign (Operand.tmp 15), type := 4, pos := "num.go:24", after := #[{ on := 5, ground := Ground.data }, { on := 3, ground := Ground.chain }, { on := 0, ground := Ground.phase }, { on := 1, ground := Ground.phase }, { on := 2, ground := Ground.phase }, { on := 3, ground := Ground.phase }, { on := 4, ground := Ground.phase }, { on := 5, ground := Ground.phase }], guard := none }]
def fin_isY (k n m : Int) (s : ByteArray) (w : World) (b : Nat) : Act → World → Prop := fun a V => a = { tmps := #[.agg #[.int .i64 k, .int .i64 n, .string s], .pointer (some ⟨b, 0, none⟩), .bool true, .int .i64 m, .bool true, .tuple #[.int .i64 m, .bool true], .agg #[.int .i64 k, .int .i64 n, .string s], .tuple #[.int .i64 m, .bool true], .int .i64 m, .bool true, .bool true, .bool true, undef, undef, undef, .bool true], defers := [] } ∧ (K1 w b k n s) V

set_option maxRecDepth 100000 in
set_option linter.unusedVariables false in
set_option maxHeartbeats 2000000 in
theorem isY_7 (Q : Exit → Act → World → Prop) (hQ : ∀ c a (d : Nat) v w, Q (.panic c) (Act.put a (some d) v) w → Q (.panic c) a w) (k n m : Int) (s : ByteArray) (w : World) (b : Nat) (HR : Hid (∀ a V, fin_isY k n m s w b a V → Q .normal a V))  (V : World) (hV : (K1 w b k n s) V) : wpAnyH Tryd.prog .any ops_isY Q (K1 w b k n s) 0 #[true, true, true, true, true, true, true] { tmps := #[.agg #[.int .i64 k, .int .i64 n, .string s], .pointer (some ⟨b, 0, none⟩), .bool true, .int .i64 m, .bool true, .tuple #[.int .i64 m, .bool true], .agg #[.int .i64 k, .int .i64 n, .string s], .tuple #[.int .i64 m, .bool true], .int .i64 m, .bool true, .bool true, .bool true, undef, undef, undef, .bool true], defers := [] } V := by
  refine wpAnyH_done (by kernel_rfl) ?_ _
  exact HR.out _ _ ⟨rfl, hV⟩

set_option maxRecDepth 100000 in
set_option linter.unusedVariables false in
set_option maxHeartbeats 2000000 in
theorem isY_6 (Q : Exit → Act → World → Prop) (hQ : ∀ c a (d : Nat) v w, Q (.panic c) (Act.put a (some d) v) w → Q (.panic c) a w) (k n m : Int) (s : ByteArray) (w : World) (b : Nat) (HR : Hid (∀ a V, fin_isY k n m s w b a V → Q .normal a V))  (V : World) (hV : (K1 w b k n s) V) : wpAnyH Tryd.prog .any ops_isY Q (K1 w b k n s) 1 #[true, true, true, true, true, true, false] { tmps := #[.agg #[.int .i64 k, .int .i64 n, .string s], .pointer (some ⟨b, 0, none⟩), .bool false, .int .i64 m, .bool true, .tuple #[.int .i64 m, .bool true], .agg #[.int .i64 k, .int .i64 n, .string s], .tuple #[.int .i64 m, .bool true], .int .i64 m, .bool true, .bool true, .bool true, undef, undef, undef, .bool true], defers := [] } V := by
  refine wpAnyH_take (i := 6) (oi := { dst := some 2, op := Op.assign (Operand.tmp 15), type := 4, pos := "num.go:24", after := #[{ on := 5, ground := Ground.data }, { on := 3, ground := Ground.chain }, { on := 0, ground := Ground.phase }, { on := 1, ground := Ground.phase }, { on := 2, ground := Ground.phase }, { on := 3, ground := Ground.phase }, { on := 4, ground := Ground.phase }, { on := 5, ground := Ground.phase }], guard := none }) (v := .bool true) rfl (by kernel_rfl) (by kernel_rfl) (by kernel_rfl) (fun c a w h => hQ c a _ _ w h) (Or.inl ⟨by kernel_rfl, ?_⟩) (by exact hV) ?_
  · intro U hS
    go_simp
  exact isY_7 Q hQ k n m s w b HR  _ hV

set_option maxRecDepth 100000 in
set_option linter.unusedVariables false in
set_option maxHeartbeats 2000000 in
theorem isY_5 (Q : Exit → Act → World → Prop) (hQ : ∀ c a (d : Nat) v w, Q (.panic c) (Act.put a (some d) v) w → Q (.panic c) a w) (k n m : Int) (s : ByteArray) (w : World) (b : Nat) (HR : Hid (∀ a V, fin_isY k n m s w b a V → Q .normal a V))  (V : World) (hV : (K1 w b k n s) V) : wpAnyH Tryd.prog .any ops_isY Q (K1 w b k n s) 2 #[true, true, true, true, true, false, false] { tmps := #[.agg #[.int .i64 k, .int .i64 n, .string s], .pointer (some ⟨b, 0, none⟩), .bool false, .int .i64 m, .bool true, .tuple #[.int .i64 m, .bool true], .agg #[.int .i64 k, .int .i64 n, .string s], .tuple #[.int .i64 m, .bool true], .int .i64 m, .bool true, .bool true, .bool true, undef, undef, undef, undef], defers := [] } V := by
  refine wpAnyH_take (i := 5) (oi := { dst := some 15, op := Op.pick (Operand.tmp 11) (Operand.const (Value.bool true)) (Operand.tmp 14), type := 4, pos := "num.go:24", after := #[{ on := 1, ground := Ground.data }, { on := 4, ground := Ground.data }], guard := none }) (v := .bool true) rfl (by kernel_rfl) (by kernel_rfl) (by kernel_rfl) (fun c a w h => hQ c a _ _ w h) (Or.inl ⟨by kernel_rfl, ?_⟩) (by exact hV) ?_
  · intro U hS
    go_simp
  exact isY_6 Q hQ k n m s w b HR  _ hV

set_option maxRecDepth 100000 in
set_option linter.unusedVariables false in
set_option maxHeartbeats 2000000 in
theorem isY_4 (Q : Exit → Act → World → Prop) (hQ : ∀ c a (d : Nat) v w, Q (.panic c) (Act.put a (some d) v) w → Q (.panic c) a w) (k n m : Int) (s : ByteArray) (w : World) (b : Nat) (HR : Hid (∀ a V, fin_isY k n m s w b a V → Q .normal a V))  (V : World) (hV : (K1 w b k n s) V) : wpAnyH Tryd.prog .any ops_isY Q (K1 w b k n s) 3 #[true, true, true, true, false, false, false] { tmps := #[.agg #[.int .i64 k, .int .i64 n, .string s], .pointer (some ⟨b, 0, none⟩), .bool false, .int .i64 m, .bool true, .tuple #[.int .i64 m, .bool true], .agg #[.int .i64 k, .int .i64 n, .string s], .tuple #[.int .i64 m, .bool true], .int .i64 m, .bool true, .bool true, .bool true, undef, undef, undef, undef], defers := [] } V := by
  refine wpAnyH_take (i := 4) (oi := { dst := some 14, op := Op.binOp BinOp.eql 23 (Operand.tmp 12) (Operand.tmp 13) 23, type := 4, pos := "num.go:24", after := #[{ on := 2, ground := Ground.data }, { on := 3, ground := Ground.data }, { on := 1, ground := Ground.guard }], guard := some (1, false) }) (v := undef) rfl (by kernel_rfl) (by kernel_rfl) (by kernel_rfl) (fun c a w h => hQ c a _ _ w h) (Or.inr ⟨by kernel_rfl, rfl⟩) (by exact hV) ?_
  exact isY_5 Q hQ k n m s w b HR  _ hV

set_option maxRecDepth 100000 in
set_option linter.unusedVariables false in
set_option maxHeartbeats 2000000 in
theorem isY_3 (Q : Exit → Act → World → Prop) (hQ : ∀ c a (d : Nat) v w, Q (.panic c) (Act.put a (some d) v) w → Q (.panic c) a w) (k n m : Int) (s : ByteArray) (w : World) (b : Nat) (HR : Hid (∀ a V, fin_isY k n m s w b a V → Q .normal a V))  (V : World) (hV : (K1 w b k n s) V) : wpAnyH Tryd.prog .any ops_isY Q (K1 w b k n s) 4 #[true, true, true, false, false, false, false] { tmps := #[.agg #[.int .i64 k, .int .i64 n, .string s], .pointer (some ⟨b, 0, none⟩), .bool false, .int .i64 m, .bool true, .tuple #[.int .i64 m, .bool true], .agg #[.int .i64 k, .int .i64 n, .string s], .tuple #[.int .i64 m, .bool true], .int .i64 m, .bool true, .bool true, .bool true, undef, undef, undef, undef], defers := [] } V := by
  refine wpAnyH_take (i := 3) (oi := { dst := some 13, op := Op.call { callee := Callee.value (Operand.func 29), args := #[], argTypes := #[] }, type := 23, pos := "num.go:24", after := #[{ on := 1, ground := Ground.chain }, { on := 1, ground := Ground.guard }], guard := some (1, false) }) (v := undef) rfl (by kernel_rfl) (by kernel_rfl) (by kernel_rfl) (fun c a w h => hQ c a _ _ w h) (Or.inr ⟨by kernel_rfl, rfl⟩) (by exact hV) ?_
  exact isY_4 Q hQ k n m s w b HR  _ hV

set_option maxRecDepth 100000 in
set_option linter.unusedVariables false in
set_option maxHeartbeats 2000000 in
theorem isY_2 (Q : Exit → Act → World → Prop) (hQ : ∀ c a (d : Nat) v w, Q (.panic c) (Act.put a (some d) v) w → Q (.panic c) a w) (k n m : Int) (s : ByteArray) (w : World) (b : Nat) (HR : Hid (∀ a V, fin_isY k n m s w b a V → Q .normal a V))  (V : World) (hV : (K1 w b k n s) V) : wpAnyH Tryd.prog .any ops_isY Q (K1 w b k n s) 5 #[true, true, false, false, false, false, false] { tmps := #[.agg #[.int .i64 k, .int .i64 n, .string s], .pointer (some ⟨b, 0, none⟩), .bool false, .int .i64 m, .bool true, .tuple #[.int .i64 m, .bool true], .agg #[.int .i64 k, .int .i64 n, .string s], .tuple #[.int .i64 m, .bool true], .int .i64 m, .bool true, .bool true, .bool true, undef, undef, undef, undef], defers := [] } V := by
  refine wpAnyH_take (i := 2) (oi := { dst := some 12, op := Op.load 23 (Operand.tmp 1), type := 23, pos := "num.go:24", after := #[{ on := 1, ground := Ground.guard }], guard := some (1, false) }) (v := undef) rfl (by kernel_rfl) (by kernel_rfl) (by kernel_rfl) (fun c a w h => hQ c a _ _ w h) (Or.inr ⟨by kernel_rfl, rfl⟩) (by exact hV) ?_
  exact isY_3 Q hQ k n m s w b HR  _ hV

set_option maxRecDepth 100000 in
set_option linter.unusedVariables false in
set_option maxHeartbeats 2000000 in
theorem isY_1 (Q : Exit → Act → World → Prop) (hQ : ∀ c a (d : Nat) v w, Q (.panic c) (Act.put a (some d) v) w → Q (.panic c) a w) (k n m : Int) (s : ByteArray) (w : World) (b : Nat) (HR : Hid (∀ a V, fin_isY k n m s w b a V → Q .normal a V))  (V : World) (hV : (K1 w b k n s) V) : wpAnyH Tryd.prog .any ops_isY Q (K1 w b k n s) 6 #[true, false, false, false, false, false, false] { tmps := #[.agg #[.int .i64 k, .int .i64 n, .string s], .pointer (some ⟨b, 0, none⟩), .bool false, .int .i64 m, .bool true, .tuple #[.int .i64 m, .bool true], .agg #[.int .i64 k, .int .i64 n, .string s], .tuple #[.int .i64 m, .bool true], .int .i64 m, .bool true, .bool true, undef, undef, undef, undef, undef], defers := [] } V := by
  refine wpAnyH_take (i := 1) (oi := { dst := some 11, op := Op.move (Operand.tmp 10), type := 4, pos := "num.go:24", after := #[{ on := 0, ground := Ground.data }], guard := none }) (v := .bool true) rfl (by kernel_rfl) (by kernel_rfl) (by kernel_rfl) (fun c a w h => hQ c a _ _ w h) (Or.inl ⟨by kernel_rfl, ?_⟩) (by exact hV) ?_
  · intro U hS
    go_simp
  exact isY_2 Q hQ k n m s w b HR  _ hV

set_option maxRecDepth 100000 in
set_option linter.unusedVariables false in
set_option maxHeartbeats 2000000 in
theorem isY_0 (Q : Exit → Act → World → Prop) (hQ : ∀ c a (d : Nat) v w, Q (.panic c) (Act.put a (some d) v) w → Q (.panic c) a w) (k n m : Int) (s : ByteArray) (w : World) (b : Nat) (HR : Hid (∀ a V, fin_isY k n m s w b a V → Q .normal a V))  (V : World) (hV : (K1 w b k n s) V) : wpAnyH Tryd.prog .any ops_isY Q (K1 w b k n s) 7 #[false, false, false, false, false, false, false] { tmps := #[.agg #[.int .i64 k, .int .i64 n, .string s], .pointer (some ⟨b, 0, none⟩), .bool false, .int .i64 m, .bool true, .tuple #[.int .i64 m, .bool true], .agg #[.int .i64 k, .int .i64 n, .string s], .tuple #[.int .i64 m, .bool true], .int .i64 m, .bool true, undef, undef, undef, undef, undef, undef], defers := [] } V := by
  refine wpAnyH_take (i := 0) (oi := { dst := some 10, op := Op.move (Operand.tmp 4), type := 4, pos := "num.go:24", after := #[], guard := none }) (v := .bool true) rfl (by kernel_rfl) (by kernel_rfl) (by kernel_rfl) (fun c a w h => hQ c a _ _ w h) (Or.inl ⟨by kernel_rfl, ?_⟩) (by exact hV) ?_
  · intro U hS
    go_simp
  exact isY_1 Q hQ k n m s w b HR  _ hV

set_option maxRecDepth 100000 in
set_option linter.unusedVariables false in
set_option maxHeartbeats 2000000 in
theorem reg_isY (Q : Exit → Act → World → Prop) (hQ : ∀ c a (d : Nat) v w, Q (.panic c) (Act.put a (some d) v) w → Q (.panic c) a w) (k n m : Int) (s : ByteArray) (w : World) (b : Nat) (HR : Hid (∀ a V, fin_isY k n m s w b a V → Q .normal a V))  (W : World) (hW : (K1 w b k n s) W.drew) : Code.wp Tryd.prog (Code.region 2 ops_isY true) Q { tmps := #[.agg #[.int .i64 k, .int .i64 n, .string s], .pointer (some ⟨b, 0, none⟩), .bool false, .int .i64 m, .bool true, .tuple #[.int .i64 m, .bool true], .agg #[.int .i64 k, .int .i64 n, .string s], .tuple #[.int .i64 m, .bool true], .int .i64 m, .bool true, undef, undef, undef, undef, undef, undef], defers := [] } W := by
  refine wp_region_held_drew (S := (K1 w b k n s)) (by kernel_rfl) (by exact hW) (fun hV => ?_)
  exact isY_0 Q hQ k n m s w b HR  _ hV

def ops_isN : Array Oper := #[{ dst := some 10, op := Op.move (Operand.tmp 4), type := 4, pos := "num.go:24", after := #[], guard := none }, { dst := some 11, op := Op.move (Operand.tmp 10), type := 4, pos := "num.go:24", after := #[{ on := 0, ground := Ground.data }], guard := none }, { dst := some 12, op := Op.load 23 (Operand.tmp 1), type := 23, pos := "num.go:24", after := #[{ on := 1, ground := Ground.guard }], guard := some (1, false) }, { dst := some 13, op := Op.call { callee := Callee.value (Operand.func 29), args := #[], argTypes := #[] }, type := 23, pos := "num.go:24", after := #[{ on := 1, ground := Ground.chain }, { on := 1, ground := Ground.guard }], guard := some (1, false) }, { dst := some 14, op := Op.binOp BinOp.eql 23 (Operand.tmp 12) (Operand.tmp 13) 23, type := 4, pos := "num.go:24", after := #[{ on := 2, ground := Ground.data }, { on := 3, ground := Ground.data }, { on := 1, ground := Ground.guard }], guard := some (1, false) }, { dst := some 15, op := Op.pick (Operand.tmp 11) (Operand.const (Value.bool true)) (Operand.tmp 14), type := 4, pos := "num.go:24", after := #[{ on := 1, ground := Ground.data }, { on := 4, ground := Ground.data }], guard := none }, { dst := some 2, op := Op.assign (Operand.tmp 15), type := 4, pos := "num.go:24", after := #[{ on := 5, ground := Ground.data }, { on := 3, ground := Ground.chain }, { on := 0, ground := Ground.phase }, { on := 1, ground := Ground.phase }, { on := 2, ground := Ground.phase }, { on := 3, ground := Ground.phase }, { on := 4, ground := Ground.phase }, { on := 5, ground := Ground.phase }], guard := none }]
def fin_isN (k n m : Int) (s : ByteArray) (w : World) (b : Nat) (z : Bool) : Act → World → Prop := fun a V => a = { tmps := #[.agg #[.int .i64 k, .int .i64 n, .string s], .pointer (some ⟨b, 0, none⟩), .bool z, .int .i64 m, .bool false, .tuple #[.int .i64 m, .bool false], .agg #[.int .i64 k, .int .i64 n, .string s], .tuple #[.int .i64 m, .bool false], .int .i64 m, .bool false, .bool false, .bool false, .agg #[.int .i64 k, .int .i64 n, .string s], .agg #[.int .i64 4, .int .i64 0, .string ⟨#[]⟩], .bool z, .bool z], defers := [] } ∧ (K1 w b k n s) V

set_option maxRecDepth 100000 in
set_option linter.unusedVariables false in
set_option maxHeartbeats 2000000 in
theorem isN_7 (Q : Exit → Act → World → Prop) (hQ : ∀ c a (d : Nat) v w, Q (.panic c) (Act.put a (some d) v) w → Q (.panic c) a w) (k n m : Int) (s : ByteArray) (w : World) (b : Nat) (z : Bool) (HR : Hid (∀ a V, fin_isN k n m s w b z a V → Q .normal a V)) (hz : (¬ k = 4 ∧ z = false) ∨ ((k = 4 ∧ ¬ n = 0) ∧ z = false) ∨ ((k = 4 ∧ n = 0 ∧ s.toList.isEmpty = false) ∧ z = false) ∨ ((k = 4 ∧ n = 0 ∧ s.toList.isEmpty = true) ∧ z = true)) (V : World) (hV : (K1 w b k n s) V) : wpAnyH Tryd.prog .any ops_isN Q (K1 w b k n s) 0 #[true, true, true, true, true, true, true] { tmps := #[.agg #[.int .i64 k, .int .i64 n, .string s], .pointer (some ⟨b, 0, none⟩), .bool z, .int .i64 m, .bool false, .tuple #[.int .i64 m, .bool false], .agg #[.int .i64 k, .int .i64 n, .string s], .tuple #[.int .i64 m, .bool false], .int .i64 m, .bool false, .bool false, .bool false, .agg #[.int .i64 k, .int .i64 n, .string s], .agg #[.int .i64 4, .int .i64 0, .string ⟨#[]⟩], .bool z, .bool z], defers := [] } V := by
  refine wpAnyH_done (by kernel_rfl) ?_ _
  exact HR.out _ _ ⟨rfl, hV⟩

set_option maxRecDepth 100000 in
set_option linter.unusedVariables false in
set_option maxHeartbeats 2000000 in
theorem isN_6 (Q : Exit → Act → World → Prop) (hQ : ∀ c a (d : Nat) v w, Q (.panic c) (Act.put a (some d) v) w → Q (.panic c) a w) (k n m : Int) (s : ByteArray) (w : World) (b : Nat) (z : Bool) (HR : Hid (∀ a V, fin_isN k n m s w b z a V → Q .normal a V)) (hz : (¬ k = 4 ∧ z = false) ∨ ((k = 4 ∧ ¬ n = 0) ∧ z = false) ∨ ((k = 4 ∧ n = 0 ∧ s.toList.isEmpty = false) ∧ z = false) ∨ ((k = 4 ∧ n = 0 ∧ s.toList.isEmpty = true) ∧ z = true)) (V : World) (hV : (K1 w b k n s) V) : wpAnyH Tryd.prog .any ops_isN Q (K1 w b k n s) 1 #[true, true, true, true, true, true, false] { tmps := #[.agg #[.int .i64 k, .int .i64 n, .string s], .pointer (some ⟨b, 0, none⟩), .bool false, .int .i64 m, .bool false, .tuple #[.int .i64 m, .bool false], .agg #[.int .i64 k, .int .i64 n, .string s], .tuple #[.int .i64 m, .bool false], .int .i64 m, .bool false, .bool false, .bool false, .agg #[.int .i64 k, .int .i64 n, .string s], .agg #[.int .i64 4, .int .i64 0, .string ⟨#[]⟩], .bool z, .bool z], defers := [] } V := by
  refine wpAnyH_take (i := 6) (oi := { dst := some 2, op := Op.assign (Operand.tmp 15), type := 4, pos := "num.go:24", after := #[{ on := 5, ground := Ground.data }, { on := 3, ground := Ground.chain }, { on := 0, ground := Ground.phase }, { on := 1, ground := Ground.phase }, { on := 2, ground := Ground.phase }, { on := 3, ground := Ground.phase }, { on := 4, ground := Ground.phase }, { on := 5, ground := Ground.phase }], guard := none }) (v := .bool z) rfl (by kernel_rfl) (by kernel_rfl) (by kernel_rfl) (fun c a w h => hQ c a _ _ w h) (Or.inl ⟨by kernel_rfl, ?_⟩) (by exact hV) ?_
  · intro U hS
    go_simp
  exact isN_7 Q hQ k n m s w b z HR hz _ hV

set_option maxRecDepth 100000 in
set_option linter.unusedVariables false in
set_option maxHeartbeats 2000000 in
theorem isN_5 (Q : Exit → Act → World → Prop) (hQ : ∀ c a (d : Nat) v w, Q (.panic c) (Act.put a (some d) v) w → Q (.panic c) a w) (k n m : Int) (s : ByteArray) (w : World) (b : Nat) (z : Bool) (HR : Hid (∀ a V, fin_isN k n m s w b z a V → Q .normal a V)) (hz : (¬ k = 4 ∧ z = false) ∨ ((k = 4 ∧ ¬ n = 0) ∧ z = false) ∨ ((k = 4 ∧ n = 0 ∧ s.toList.isEmpty = false) ∧ z = false) ∨ ((k = 4 ∧ n = 0 ∧ s.toList.isEmpty = true) ∧ z = true)) (V : World) (hV : (K1 w b k n s) V) : wpAnyH Tryd.prog .any ops_isN Q (K1 w b k n s) 2 #[true, true, true, true, true, false, false] { tmps := #[.agg #[.int .i64 k, .int .i64 n, .string s], .pointer (some ⟨b, 0, none⟩), .bool false, .int .i64 m, .bool false, .tuple #[.int .i64 m, .bool false], .agg #[.int .i64 k, .int .i64 n, .string s], .tuple #[.int .i64 m, .bool false], .int .i64 m, .bool false, .bool false, .bool false, .agg #[.int .i64 k, .int .i64 n, .string s], .agg #[.int .i64 4, .int .i64 0, .string ⟨#[]⟩], .bool z, undef], defers := [] } V := by
  refine wpAnyH_take (i := 5) (oi := { dst := some 15, op := Op.pick (Operand.tmp 11) (Operand.const (Value.bool true)) (Operand.tmp 14), type := 4, pos := "num.go:24", after := #[{ on := 1, ground := Ground.data }, { on := 4, ground := Ground.data }], guard := none }) (v := .bool z) rfl (by kernel_rfl) (by kernel_rfl) (by kernel_rfl) (fun c a w h => hQ c a _ _ w h) (Or.inl ⟨by kernel_rfl, ?_⟩) (by exact hV) ?_
  · intro U hS
    go_simp
  exact isN_6 Q hQ k n m s w b z HR hz _ hV

set_option maxRecDepth 100000 in
set_option linter.unusedVariables false in
set_option maxHeartbeats 2000000 in
theorem isN_4 (Q : Exit → Act → World → Prop) (hQ : ∀ c a (d : Nat) v w, Q (.panic c) (Act.put a (some d) v) w → Q (.panic c) a w) (k n m : Int) (s : ByteArray) (w : World) (b : Nat) (z : Bool) (HR : Hid (∀ a V, fin_isN k n m s w b z a V → Q .normal a V)) (hz : (¬ k = 4 ∧ z = false) ∨ ((k = 4 ∧ ¬ n = 0) ∧ z = false) ∨ ((k = 4 ∧ n = 0 ∧ s.toList.isEmpty = false) ∧ z = false) ∨ ((k = 4 ∧ n = 0 ∧ s.toList.isEmpty = true) ∧ z = true)) (V : World) (hV : (K1 w b k n s) V) : wpAnyH Tryd.prog .any ops_isN Q (K1 w b k n s) 3 #[true, true, true, true, false, false, false] { tmps := #[.agg #[.int .i64 k, .int .i64 n, .string s], .pointer (some ⟨b, 0, none⟩), .bool false, .int .i64 m, .bool false, .tuple #[.int .i64 m, .bool false], .agg #[.int .i64 k, .int .i64 n, .string s], .tuple #[.int .i64 m, .bool false], .int .i64 m, .bool false, .bool false, .bool false, .agg #[.int .i64 k, .int .i64 n, .string s], .agg #[.int .i64 4, .int .i64 0, .string ⟨#[]⟩], undef, undef], defers := [] } V := by
  refine wpAnyH_take (i := 4) (oi := { dst := some 14, op := Op.binOp BinOp.eql 23 (Operand.tmp 12) (Operand.tmp 13) 23, type := 4, pos := "num.go:24", after := #[{ on := 2, ground := Ground.data }, { on := 3, ground := Ground.data }, { on := 1, ground := Ground.guard }], guard := some (1, false) }) (v := .bool z) rfl (by kernel_rfl) (by kernel_rfl) (by kernel_rfl) (fun c a w h => hQ c a _ _ w h) (Or.inl ⟨by kernel_rfl, ?_⟩) (by exact hV) ?_
  · intro U hS
    rcases hz with ⟨h1, h2⟩ | ⟨h1, h2⟩ | ⟨h1, h2⟩ | ⟨h1, h2⟩
    · subst h2
      have : (k == 4) = false := by simpa using h1
      go_simp
    · obtain ⟨h3, h4⟩ := h1
      subst h2
      subst h3
      have : (n == 0) = false := by simpa using h4
      go_simp
    · obtain ⟨h3, h4, h5⟩ := h1
      subst h2
      subst h3
      subst h4
      go_simp
    · obtain ⟨h3, h4, h5⟩ := h1
      subst h2
      subst h3
      subst h4
      go_simp
  exact isN_5 Q hQ k n m s w b z HR hz _ hV

set_option maxRecDepth 100000 in
set_option linter.unusedVariables false in
set_option maxHeartbeats 2000000 in
theorem isN_3 (Q : Exit → Act → World → Prop) (hQ : ∀ c a (d : Nat) v w, Q (.panic c) (Act.put a (some d) v) w → Q (.panic c) a w) (k n m : Int) (s : ByteArray) (w : World) (b : Nat) (z : Bool) (HR : Hid (∀ a V, fin_isN k n m s w b z a V → Q .normal a V)) (hz : (¬ k = 4 ∧ z = false) ∨ ((k = 4 ∧ ¬ n = 0) ∧ z = false) ∨ ((k = 4 ∧ n = 0 ∧ s.toList.isEmpty = false) ∧ z = false) ∨ ((k = 4 ∧ n = 0 ∧ s.toList.isEmpty = true) ∧ z = true)) (V : World) (hV : (K1 w b k n s) V) : wpAnyH Tryd.prog .any ops_isN Q (K1 w b k n s) 4 #[true, true, true, false, false, false, false] { tmps := #[.agg #[.int .i64 k, .int .i64 n, .string s], .pointer (some ⟨b, 0, none⟩), .bool false, .int .i64 m, .bool false, .tuple #[.int .i64 m, .bool false], .agg #[.int .i64 k, .int .i64 n, .string s], .tuple #[.int .i64 m, .bool false], .int .i64 m, .bool false, .bool false, .bool false, .agg #[.int .i64 k, .int .i64 n, .string s], undef, undef, undef], defers := [] } V := by
  refine wpAnyH_ready (rs := [3]) (by kernel_rfl) (by simp) ?_
  refine AllReadyH.cons (o := { dst := some 13, op := Op.call { callee := Callee.value (Operand.func 29), args := #[], argTypes := #[] }, type := 23, pos := "num.go:24", after := #[{ on := 1, ground := Ground.chain }, { on := 1, ground := Ground.guard }], guard := some (1, false) }) rfl (fun K hK => ?_) AllReadyH.nil
  have HK := Lib.hid hK.out
  clear hK
  go_wp2_with fail
  refine (nan_any _).mono ?_
  rintro e V' ⟨rfl, hb⟩
  replace hV := k1_call hV hb
  clear hb
  refine HK.out _ _ (by exact hV) (fun _ => ?_)
  exact isN_4 Q hQ k n m s w b z HR hz _ hV

set_option maxRecDepth 100000 in
set_option linter.unusedVariables false in
set_option maxHeartbeats 2000000 in
theorem isN_2 (Q : Exit → Act → World → Prop) (hQ : ∀ c a (d : Nat) v w, Q (.panic c) (Act.put a (some d) v) w → Q (.panic c) a w) (k n m : Int) (s : ByteArray) (w : World) (b : Nat) (z : Bool) (HR : Hid (∀ a V, fin_isN k n m s w b z a V → Q .normal a V)) (hz : (¬ k = 4 ∧ z = false) ∨ ((k = 4 ∧ ¬ n = 0) ∧ z = false) ∨ ((k = 4 ∧ n = 0 ∧ s.toList.isEmpty = false) ∧ z = false) ∨ ((k = 4 ∧ n = 0 ∧ s.toList.isEmpty = true) ∧ z = true)) (V : World) (hV : (K1 w b k n s) V) : wpAnyH Tryd.prog .any ops_isN Q (K1 w b k n s) 5 #[true, true, false, false, false, false, false] { tmps := #[.agg #[.int .i64 k, .int .i64 n, .string s], .pointer (some ⟨b, 0, none⟩), .bool false, .int .i64 m, .bool false, .tuple #[.int .i64 m, .bool false], .agg #[.int .i64 k, .int .i64 n, .string s], .tuple #[.int .i64 m, .bool false], .int .i64 m, .bool false, .bool false, .bool false, undef, undef, undef, undef], defers := [] } V := by
  refine wpAnyH_take (i := 2) (oi := { dst := some 12, op := Op.load 23 (Operand.tmp 1), type := 23, pos := "num.go:24", after := #[{ on := 1, ground := Ground.guard }], guard := some (1, false) }) (v := .agg #[.int .i64 k, .int .i64 n, .string s]) rfl (by kernel_rfl) (by kernel_rfl) (by kernel_rfl) (fun c a w h => hQ c a _ _ w h) (Or.inl ⟨by kernel_rfl, ?_⟩) (by exact hV) ?_
  · intro U hS
    obtain ⟨_, _, p0, p1, p2⟩ := hS
    go_simp
  exact isN_3 Q hQ k n m s w b z HR hz _ hV

set_option maxRecDepth 100000 in
set_option linter.unusedVariables false in
set_option maxHeartbeats 2000000 in
theorem isN_1 (Q : Exit → Act → World → Prop) (hQ : ∀ c a (d : Nat) v w, Q (.panic c) (Act.put a (some d) v) w → Q (.panic c) a w) (k n m : Int) (s : ByteArray) (w : World) (b : Nat) (z : Bool) (HR : Hid (∀ a V, fin_isN k n m s w b z a V → Q .normal a V)) (hz : (¬ k = 4 ∧ z = false) ∨ ((k = 4 ∧ ¬ n = 0) ∧ z = false) ∨ ((k = 4 ∧ n = 0 ∧ s.toList.isEmpty = false) ∧ z = false) ∨ ((k = 4 ∧ n = 0 ∧ s.toList.isEmpty = true) ∧ z = true)) (V : World) (hV : (K1 w b k n s) V) : wpAnyH Tryd.prog .any ops_isN Q (K1 w b k n s) 6 #[true, false, false, false, false, false, false] { tmps := #[.agg #[.int .i64 k, .int .i64 n, .string s], .pointer (some ⟨b, 0, none⟩), .bool false, .int .i64 m, .bool false, .tuple #[.int .i64 m, .bool false], .agg #[.int .i64 k, .int .i64 n, .string s], .tuple #[.int .i64 m, .bool false], .int .i64 m, .bool false, .bool false, undef, undef, undef, undef, undef], defers := [] } V := by
  refine wpAnyH_take (i := 1) (oi := { dst := some 11, op := Op.move (Operand.tmp 10), type := 4, pos := "num.go:24", after := #[{ on := 0, ground := Ground.data }], guard := none }) (v := .bool false) rfl (by kernel_rfl) (by kernel_rfl) (by kernel_rfl) (fun c a w h => hQ c a _ _ w h) (Or.inl ⟨by kernel_rfl, ?_⟩) (by exact hV) ?_
  · intro U hS
    go_simp
  exact isN_2 Q hQ k n m s w b z HR hz _ hV

set_option maxRecDepth 100000 in
set_option linter.unusedVariables false in
set_option maxHeartbeats 2000000 in
theorem isN_0 (Q : Exit → Act → World → Prop) (hQ : ∀ c a (d : Nat) v w, Q (.panic c) (Act.put a (some d) v) w → Q (.panic c) a w) (k n m : Int) (s : ByteArray) (w : World) (b : Nat) (z : Bool) (HR : Hid (∀ a V, fin_isN k n m s w b z a V → Q .normal a V)) (hz : (¬ k = 4 ∧ z = false) ∨ ((k = 4 ∧ ¬ n = 0) ∧ z = false) ∨ ((k = 4 ∧ n = 0 ∧ s.toList.isEmpty = false) ∧ z = false) ∨ ((k = 4 ∧ n = 0 ∧ s.toList.isEmpty = true) ∧ z = true)) (V : World) (hV : (K1 w b k n s) V) : wpAnyH Tryd.prog .any ops_isN Q (K1 w b k n s) 7 #[false, false, false, false, false, false, false] { tmps := #[.agg #[.int .i64 k, .int .i64 n, .string s], .pointer (some ⟨b, 0, none⟩), .bool false, .int .i64 m, .bool false, .tuple #[.int .i64 m, .bool false], .agg #[.int .i64 k, .int .i64 n, .string s], .tuple #[.int .i64 m, .bool false], .int .i64 m, .bool false, undef, undef, undef, undef, undef, undef], defers := [] } V := by
  refine wpAnyH_take (i := 0) (oi := { dst := some 10, op := Op.move (Operand.tmp 4), type := 4, pos := "num.go:24", after := #[], guard := none }) (v := .bool false) rfl (by kernel_rfl) (by kernel_rfl) (by kernel_rfl) (fun c a w h => hQ c a _ _ w h) (Or.inl ⟨by kernel_rfl, ?_⟩) (by exact hV) ?_
  · intro U hS
    go_simp
  exact isN_1 Q hQ k n m s w b z HR hz _ hV

set_option maxRecDepth 100000 in
set_option linter.unusedVariables false in
set_option maxHeartbeats 2000000 in
theorem reg_isN (Q : Exit → Act → World → Prop) (hQ : ∀ c a (d : Nat) v w, Q (.panic c) (Act.put a (some d) v) w → Q (.panic c) a w) (k n m : Int) (s : ByteArray) (w : World) (b : Nat) (z : Bool) (HR : Hid (∀ a V, fin_isN k n m s w b z a V → Q .normal a V)) (hz : (¬ k = 4 ∧ z = false) ∨ ((k = 4 ∧ ¬ n = 0) ∧ z = false) ∨ ((k = 4 ∧ n = 0 ∧ s.toList.isEmpty = false) ∧ z = false) ∨ ((k = 4 ∧ n = 0 ∧ s.toList.isEmpty = true) ∧ z = true)) (W : World) (hW : (K1 w b k n s) W.drew) : Code.wp Tryd.prog (Code.region 2 ops_isN true) Q { tmps := #[.agg #[.int .i64 k, .int .i64 n, .string s], .pointer (some ⟨b, 0, none⟩), .bool false, .int .i64 m, .bool false, .tuple #[.int .i64 m, .bool false], .agg #[.int .i64 k, .int .i64 n, .string s], .tuple #[.int .i64 m, .bool false], .int .i64 m, .bool false, undef, undef, undef, undef, undef, undef], defers := [] } W := by
  refine wp_region_held_drew (S := (K1 w b k n s)) (by kernel_rfl) (by exact hW) (fun hV => ?_)
  exact isN_0 Q hQ k n m s w b z HR hz _ hV

set_option maxRecDepth 100000 in
set_option maxHeartbeats 1000000 in
theorem is_any (k n : Int) (s : ByteArray) (w : World) : Calls Tryd.prog 12 #[.agg #[.int .i64 k, .int .i64 n, .string s]] w fun e w' => e = .returned (.bool (isK k n s)) ∧ Below w.heap.size w w' := by
  have P := fun W => whole_any k n s W
  obtain ⟨m, hm⟩ : ∃ m, m = whN k n s := ⟨_, rfl⟩
  simp only [← hm] at P
  clear hm
  cases hk : whK k n s with
  | true =>
    rw [hk] at P
    have e : isK k n s = true := by
      unfold whK at hk
      unfold isK
      simp only [Bool.and_eq_true] at hk
      rw [hk.1.2, hk.1.1, hk.2]
      rfl
    rw [e]
    have HP := Lib.hid P
    clear P hk e
    go_enter Tryd.func12, Tryd.ntmps12
    go_wp2_with fail
    refine (HP.out _).mono ?_
    rintro e w1 ⟨rfl, hb⟩
    have h1 : Below w.heap.size w w1 := thr (bel1 w _) hb (by simp)
    have h2 := kept hb (by simp) (heap_alloc_new w _)
    clear hb HP
    go_wp2_with fail
    refine cutQ (fin_isY k n m s w w.heap.size) ?_ (fun hR => reg_isY _ (fun _ _ _ _ _ h => h) k n m s w w.heap.size (Lib.hid hR) w1 (k1_of h1.drew h2))
    rintro a U ⟨rfl, hU⟩
    have hUB := hU.1
    clear hU h1 h2
    go_wp2
    go_ret
    exact ⟨rfl, hUB⟩
  | false =>
    rw [hk] at P
    obtain ⟨z, hzz⟩ : ∃ z, z = isK k n s := ⟨_, rfl⟩
    have hz : (¬ k = 4 ∧ z = false) ∨ ((k = 4 ∧ ¬ n = 0) ∧ z = false) ∨ ((k = 4 ∧ n = 0 ∧ s.toList.isEmpty = false) ∧ z = false) ∨ ((k = 4 ∧ n = 0 ∧ s.toList.isEmpty = true) ∧ z = true) := by
      unfold whK at hk
      unfold isK at hzz
      rw [hzz]
      cases hs : s.toList.isEmpty with
      | false =>
        by_cases h4 : k = 4
        · by_cases hn : n = 0
          · exact .inr (.inr (.inl ⟨⟨h4, hn, rfl⟩, rfl⟩))
          · exact .inr (.inl ⟨⟨h4, hn⟩, rfl⟩)
        · exact .inl ⟨h4, rfl⟩
      | true =>
        rw [hs] at hk
        have hk' : (k == 3 && inB n) = false := by simpa using hk
        rw [hk']
        by_cases h4 : k = 4
        · by_cases hn : n = 0
          · exact .inr (.inr (.inr ⟨⟨h4, hn, rfl⟩, by simp [h4, hn]⟩))
          · exact .inr (.inl ⟨⟨h4, hn⟩, by simp [hn]⟩)
        · exact .inl ⟨h4, by simp [h4]⟩
    rw [← hzz]
    have HP := Lib.hid P
    have HZ := Lib.hid hz
    clear P hk hzz hz
    go_enter Tryd.func12, Tryd.ntmps12
    go_wp2_with fail
    refine (HP.out _).mono ?_
    rintro e w1 ⟨rfl, hb⟩
    have h1 : Below w.heap.size w w1 := thr (bel1 w _) hb (by simp)
    have h2 := kept hb (by simp) (heap_alloc_new w _)
    clear hb HP
    go_wp2_with fail
    refine cutQ (fin_isN k n m s w w.heap.size z) ?_ (fun hR => reg_isN _ (fun _ _ _ _ _ h => h) k n m s w w.heap.size z (Lib.hid hR) HZ.out w1 (k1_of h1.drew h2))
    rintro a U ⟨rfl, hU⟩
    have hUB := hU.1
    clear hU h1 h2
    go_wp2
    go_ret
    exact ⟨rfl, hUB⟩
end Go.Proofs.YtokpmpmlbmpnmaaDoor
