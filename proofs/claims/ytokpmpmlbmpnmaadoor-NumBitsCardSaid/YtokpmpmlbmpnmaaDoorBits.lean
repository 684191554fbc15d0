/-
  The law NumBits of package num at this translation: the walk.
-/
import Derived.Test.YtokpmpmlbmpnmaaDoorBits5
import Derived.Test.YtokpmpmlbmpnmaaDoorReckons
namespace Go.Proofs.YtokpmpmlbmpnmaaDoor
open Go.RowKit

def opL : Nat → ByteArray
  | 0 => ⟨#[38]⟩
  | 1 => ⟨#[124]⟩
  | 2 => ⟨#[94]⟩
  | 3 => ⟨#[60, 60]⟩
  | _ => ⟨#[62, 62]⟩
def opC : Array Value := #[.string ⟨#[38]⟩, .string ⟨#[124]⟩, .string ⟨#[94]⟩, .string ⟨#[60, 60]⟩, .string ⟨#[62, 62]⟩]
def K5 (w : World) (b c j : Nat) (q : ByteArray) (k n k' n' : Int) (s s' : ByteArray) : World → Prop := fun U => Below w.heap.size w U ∧ (U.heap[b]? = some (.cells #[.int .i64 k, .int .i64 n, .string s] 23 (0, 0)) ∧ U.heap[b + 1]? = some (.cells #[.int .i64 k', .int .i64 n', .string s'] 23 (0, 0)) ∧ U.heap[c]? = some (.cells opC 9 (0, 0))) ∧ U.cell? ⟨b, 0, none⟩ = some (.int .i64 k) ∧ U.cell? ⟨b, 1, none⟩ = some (.int .i64 n) ∧ U.cell? ⟨b, 2, none⟩ = some (.string s) ∧ U.cell? ⟨b + 1, 0, none⟩ = some (.int .i64 k') ∧ U.cell? ⟨b + 1, 1, none⟩ = some (.int .i64 n') ∧ U.cell? ⟨b + 1, 2, none⟩ = some (.string s') ∧ U.cell? ⟨c, j, none⟩ = some (.string q)
theorem blk_lt {w : World} {b : Nat} {o : Obj} (h : w.heap[b]? = some o) : b < w.heap.size := by
  rcases Nat.lt_or_ge b w.heap.size with h' | h'
  · exact h'
  · simp [Array.getElem?_eq_none h'] at h
theorem op_cell {w : World} {c j : Nat} (h : w.heap[c]? = some (.cells opC 9 (0, 0))) (hj : j < 5) : w.cell? ⟨c, j, none⟩ = some (.string (opL j)) := by
  have e : j = 0 ∨ j = 1 ∨ j = 2 ∨ j = 3 ∨ j = 4 := by omega
  rcases e with rfl | rfl | rfl | rfl | rfl <;> simp [World.cell?, h, opC, opL]
theorem k5_of {w U : World} {b c j : Nat} {k n k' n' : Int} {s s' : ByteArray} (B : Below w.heap.size w U) (f : U.heap[b]? = some (.cells #[.int .i64 k, .int .i64 n, .string s] 23 (0, 0))) (f' : U.heap[b + 1]? = some (.cells #[.int .i64 k', .int .i64 n', .string s'] 23 (0, 0))) (g : U.heap[c]? = some (.cells opC 9 (0, 0))) (hj : j < 5) (q : ByteArray) (hq : q = opL j) : K5 w b c j q k n k' n' s s' U := by
  obtain ⟨p0, p1, p2, _, _, _, _⟩ := tri f
  obtain ⟨q0, q1, q2, _, _, _, _⟩ := tri f'
  exact ⟨B, ⟨f, f', g⟩, p0, p1, p2, q0, q1, q2, hq ▸ op_cell g hj⟩
theorem k5_call {w U U' : World} {b c j : Nat} {q : ByteArray} {k n k' n' : Int} {s s' : ByteArray} (h : K5 w b c j q k n k' n' s s' U) (hb : Below U.heap.size U U') : K5 w b c j q k n k' n' s s' U' := by
  obtain ⟨B, ⟨f, f', g⟩, p0, p1, p2, q0, q1, q2, hq⟩ := h
  have hc := hb.cell (p := ⟨c, j, none⟩) (blk_lt g)
  obtain ⟨p0, p1, p2, _, _, _, _⟩ := tri (kept hb (tri f).2.2.2.2.2.2 f)
  obtain ⟨q0, q1, q2, _, _, _, _⟩ := tri (kept hb (tri f').2.2.2.2.2.2 f')
  exact ⟨thr B hb B.size, ⟨kept hb (tri f).2.2.2.2.2.2 f, kept hb (tri f').2.2.2.2.2.2 f', kept hb (blk_lt g) g⟩, p0, p1, p2, q0, q1, q2, hc.trans hq⟩

def ops_nb3 : Array Oper := #[{ dst := some 11, op := Op.move (Operand.tmp 0), type := 9, pos := "law.go:62", after := #[], guard := none }, { dst := some 12, op := Op.load 23 (Operand.tmp 4), type := 23, pos := "law.go:62", after := #[], guard := none }, { dst := some 13, op := Op.load 23 (Operand.tmp 5), type := 23, pos := "law.go:62", after := #[], guard := none }, { dst := some 14, op := Op.call { callee := Callee.value (Operand.func 25), args := #[Operand.tmp 11, Operand.tmp 12, Operand.tmp 13], argTypes := #[9, 23, 23] }, type := 23, pos := "law.go:62", after := #[{ on := 0, ground := Ground.data }, { on := 1, ground := Ground.data }, { on := 2, ground := Ground.data }], guard := none }, { dst := some 15, op := Op.move (Operand.tmp 0), type := 9, pos := "law.go:62", after := #[], guard := none }, { dst := some 16, op := Op.load 23 (Operand.tmp 4), type := 23, pos := "law.go:62", after := #[], guard := none }, { dst := some 17, op := Op.load 23 (Operand.tmp 5), type := 23, pos := "law.go:62", after := #[], guard := none }, { dst := some 18, op := Op.call { callee := Callee.value (Operand.func 26), args := #[Operand.tmp 15, Operand.tmp 16, Operand.tmp 17], argTypes := #[9, 23, 23] }, type := 23, pos := "law.go:62", after := #[{ on := 4, ground := Ground.data }, { on := 5, ground := Ground.data }, { on := 6, ground := Ground.data }, { on := 3, ground := Ground.chain }], guard := none }, { dst := some 19, op := Op.binOp BinOp.neq 23 (Operand.tmp 14) (Operand.tmp 18) 23, type := 4, pos := "law.go:62", after := #[{ on := 3, ground := Ground.data }, { on := 7, ground := Ground.data }], guard := none }]
set_option linter.unusedVariables false in
def fin_nb3 (op : ByteArray) (k n k' n' rk z : Int) (s s' : ByteArray) (w : World) (b : Nat) : Act → World → Prop := fun act V => act = { tmps := #[.string op, .agg #[.int .i64 k, .int .i64 n, .string s], .agg #[.int .i64 k', .int .i64 n', .string s'], undef, .pointer (some ⟨b, 0, none⟩), .pointer (some ⟨b + 1, 0, none⟩), .bool false, undef, undef, .bool true, .bool false, .string op, .agg #[.int .i64 k, .int .i64 n, .string s], .agg #[.int .i64 k', .int .i64 n', .string s'], .agg #[.int .i64 rk, .int .i64 z, .string ⟨#[]⟩], .string op, .agg #[.int .i64 k, .int .i64 n, .string s], .agg #[.int .i64 k', .int .i64 n', .string s'], .agg #[.int .i64 rk, .int .i64 z, .string ⟨#[]⟩], .bool false, undef, undef, undef, undef, undef, undef, undef, undef, undef, undef, undef, undef, undef, undef, undef, undef, undef, undef, undef, undef, undef, undef], defers := [] } ∧ (K3 w b k n k' n' s s') V

set_option maxRecDepth 100000 in
set_option linter.unusedVariables false in
set_option maxHeartbeats 2000000 in
theorem nb3_9 (Q : Exit → Act → World → Prop) (hQ : ∀ c a (d : Nat) v w, Q (.panic c) (Act.put a (some d) v) w → Q (.panic c) a w) (op : ByteArray) (k n k' n' rk z : Int) (s s' : ByteArray) (w : World) (b : Nat) (HR : Hid (∀ act V, fin_nb3 op k n k' n' rk z s s' w b act V → Q .normal act V)) (H1 : Hid (∀ W, Calls Tryd.prog 25 #[.string op, .agg #[.int .i64 k, .int .i64 n, .string s], .agg #[.int .i64 k', .int .i64 n', .string s']] W fun e w' => e = .returned (.agg #[.int .i64 rk, .int .i64 z, .string ⟨#[]⟩]) ∧ Below W.heap.size W w')) (G1 : Hid (∀ W, Calls Tryd.prog 26 #[.string op, .agg #[.int .i64 k, .int .i64 n, .string s], .agg #[.int .i64 k', .int .i64 n', .string s']] W fun e w' => e = .returned (.agg #[.int .i64 rk, .int .i64 z, .string ⟨#[]⟩]) ∧ Below W.heap.size W w')) (V : World) (hV : (K3 w b k n k' n' s s') V) : wpAnyH Tryd.prog .any ops_nb3 Q (K3 w b k n k' n' s s') 0 #[true, true, true, true, true, true, true, true, true] { tmps := #[.string op, .agg #[.int .i64 k, .int .i64 n, .string s], .agg #[.int .i64 k', .int .i64 n', .string s'], undef, .pointer (some ⟨b, 0, none⟩), .pointer (some ⟨b + 1, 0, none⟩), .bool false, undef, undef, .bool true, .bool false, .string op, .agg #[.int .i64 k, .int .i64 n, .string s], .agg #[.int .i64 k', .int .i64 n', .string s'], .agg #[.int .i64 rk, .int .i64 z, .string ⟨#[]⟩], .string op, .agg #[.int .i64 k, .int .i64 n, .string s], .agg #[.int .i64 k', .int .i64 n', .string s'], .agg #[.int .i64 rk, .int .i64 z, .string ⟨#[]⟩], .bool false, undef, undef, undef, undef, undef, undef, undef, undef, undef, undef, undef, undef, undef, undef, undef, undef, undef, undef, undef, undef, undef, undef], defers := [] } V := by
  refine wpAnyH_done (by kernel_rfl) ?_ _
  exact HR.out _ _ ⟨rfl, hV⟩

set_option maxRecDepth 100000 in
set_option linter.unusedVariables false in
set_option maxHeartbeats 2000000 in
theorem nb3_8 (Q : Exit → Act → World → Prop) (hQ : ∀ c a (d : Nat) v w, Q (.panic c) (Act.put a (some d) v) w → Q (.panic c) a w) (op : ByteArray) (k n k' n' rk z : Int) (s s' : ByteArray) (w : World) (b : Nat) (HR : Hid (∀ act V, fin_nb3 op k n k' n' rk z s s' w b act V → Q .normal act V)) (H1 : Hid (∀ W, Calls Tryd.prog 25 #[.string op, .agg #[.int .i64 k, .int .i64 n, .string s], .agg #[.int .i64 k', .int .i64 n', .string s']] W fun e w' => e = .returned (.agg #[.int .i64 rk, .int .i64 z, .string ⟨#[]⟩]) ∧ Below W.heap.size W w')) (G1 : Hid (∀ W, Calls Tryd.prog 26 #[.string op, .agg #[.int .i64 k, .int .i64 n, .string s], .agg #[.int .i64 k', .int .i64 n', .string s']] W fun e w' => e = .returned (.agg #[.int .i64 rk, .int .i64 z, .string ⟨#[]⟩]) ∧ Below W.heap.size W w')) (V : World) (hV : (K3 w b k n k' n' s s') V) : wpAnyH Tryd.prog .any ops_nb3 Q (K3 w b k n k' n' s s') 1 #[true, true, true, true, true, true, true, true, false] { tmps := #[.string op, .agg #[.int .i64 k, .int .i64 n, .string s], .agg #[.int .i64 k', .int .i64 n', .string s'], undef, .pointer (some ⟨b, 0, none⟩), .pointer (some ⟨b + 1, 0, none⟩), .bool false, undef, undef, .bool true, .bool false, .string op, .agg #[.int .i64 k, .int .i64 n, .string s], .agg #[.int .i64 k', .int .i64 n', .string s'], .agg #[.int .i64 rk, .int .i64 z, .string ⟨#[]⟩], .string op, .agg #[.int .i64 k, .int .i64 n, .string s], .agg #[.int .i64 k', .int .i64 n', .string s'], .agg #[.int .i64 rk, .int .i64 z, .string ⟨#[]⟩], undef, undef, undef, undef, undef, undef, undef, undef, undef, undef, undef, undef, undef, undef, undef, undef, undef, undef, undef, undef, undef, undef, undef], defers := [] } V := by
  refine wpAnyH_take (i := 8) (oi := { dst := some 19, op := Op.binOp BinOp.neq 23 (Operand.tmp 14) (Operand.tmp 18) 23, type := 4, pos := "law.go:62", after := #[{ on := 3, ground := Ground.data }, { on := 7, ground := Ground.data }], guard := none }) (v := .bool false) rfl (by kernel_rfl) (by kernel_rfl) (by kernel_rfl) (fun c a w h => hQ c a _ _ w h) (Or.inl ⟨by kernel_rfl, ?_⟩) (by exact hV) ?_
  · intro U hS
    go_simp
  exact nb3_9 Q hQ op k n k' n' rk z s s' w b HR H1 G1 _ hV

set_option maxRecDepth 100000 in
set_option linter.unusedVariables false in
set_option maxHeartbeats 2000000 in
theorem nb3_7 (Q : Exit → Act → World → Prop) (hQ : ∀ c a (d : Nat) v w, Q (.panic c) (Act.put a (some d) v) w → Q (.panic c) a w) (op : ByteArray) (k n k' n' rk z : Int) (s s' : ByteArray) (w : World) (b : Nat) (HR : Hid (∀ act V, fin_nb3 op k n k' n' rk z s s' w b act V → Q .normal act V)) (H1 : Hid (∀ W, Calls Tryd.prog 25 #[.string op, .agg #[.int .i64 k, .int .i64 n, .string s], .agg #[.int .i64 k', .int .i64 n', .string s']] W fun e w' => e = .returned (.agg #[.int .i64 rk, .int .i64 z, .string ⟨#[]⟩]) ∧ Below W.heap.size W w')) (G1 : Hid (∀ W, Calls Tryd.prog 26 #[.string op, .agg #[.int .i64 k, .int .i64 n, .string s], .agg #[.int .i64 k', .int .i64 n', .string s']] W fun e w' => e = .returned (.agg #[.int .i64 rk, .int .i64 z, .string ⟨#[]⟩]) ∧ Below W.heap.size W w')) (V : World) (hV : (K3 w b k n k' n' s s') V) : wpAnyH Tryd.prog .any ops_nb3 Q (K3 w b k n k' n' s s') 2 #[true, true, true, true, true, true, true, false, false] { tmps := #[.string op, .agg #[.int .i64 k, .int .i64 n, .string s], .agg #[.int .i64 k', .int .i64 n', .string s'], undef, .pointer (some ⟨b, 0, none⟩), .pointer (some ⟨b + 1, 0, none⟩), .bool false, undef, undef, .bool true, .bool false, .string op, .agg #[.int .i64 k, .int .i64 n, .string s], .agg #[.int .i64 k', .int .i64 n', .string s'], .agg #[.int .i64 rk, .int .i64 z, .string ⟨#[]⟩], .string op, .agg #[.int .i64 k, .int .i64 n, .string s], .agg #[.int .i64 k', .int .i64 n', .string s'], undef, undef, undef, undef, undef, undef, undef, undef, undef, undef, undef, undef, undef, undef, undef, undef, undef, undef, undef, undef, undef, undef, undef, undef], defers := [] } V := by
  refine wpAnyH_ready (rs := [7]) (by kernel_rfl) (by simp) ?_
  refine AllReadyH.cons (o := { dst := some 18, op := Op.call { callee := Callee.value (Operand.func 26), args := #[Operand.tmp 15, Operand.tmp 16, Operand.tmp 17], argTypes := #[9, 23, 23] }, type := 23, pos := "law.go:62", after := #[{ on := 4, ground := Ground.data }, { on := 5, ground := Ground.data }, { on := 6, ground := Ground.data }, { on := 3, ground := Ground.chain }], guard := none }) rfl (fun K hK => ?_) AllReadyH.nil
  have HK := Lib.hid hK.out
  clear hK
  go_wp2_with fail
  refine (G1.out _).mono ?_
  rintro e V' ⟨rfl, hb⟩
  replace hV := k3_call hV hb
  clear hb
  refine HK.out _ _ (by exact hV) (fun _ => ?_)
  exact nb3_8 Q hQ op k n k' n' rk z s s' w b HR H1 G1 _ hV

set_option maxRecDepth 100000 in
set_option linter.unusedVariables false in
set_option maxHeartbeats 2000000 in
theorem nb3_6 (Q : Exit → Act → World → Prop) (hQ : ∀ c a (d : Nat) v w, Q (.panic c) (Act.put a (some d) v) w → Q (.panic c) a w) (op : ByteArray) (k n k' n' rk z : Int) (s s' : ByteArray) (w : World) (b : Nat) (HR : Hid (∀ act V, fin_nb3 op k n k' n' rk z s s' w b act V → Q .normal act V)) (H1 : Hid (∀ W, Calls Tryd.prog 25 #[.string op, .agg #[.int .i64 k, .int .i64 n, .string s], .agg #[.int .i64 k', .int .i64 n', .string s']] W fun e w' => e = .returned (.agg #[.int .i64 rk, .int .i64 z, .string ⟨#[]⟩]) ∧ Below W.heap.size W w')) (G1 : Hid (∀ W, Calls Tryd.prog 26 #[.string op, .agg #[.int .i64 k, .int .i64 n, .string s], .agg #[.int .i64 k', .int .i64 n', .string s']] W fun e w' => e = .returned (.agg #[.int .i64 rk, .int .i64 z, .string ⟨#[]⟩]) ∧ Below W.heap.size W w')) (V : World) (hV : (K3 w b k n k' n' s s') V) : wpAnyH Tryd.prog .any ops_nb3 Q (K3 w b k n k' n' s s') 3 #[true, true, true, false, true, true, true, false, false] { tmps := #[.string op, .agg #[.int .i64 k, .int .i64 n, .string s], .agg #[.int .i64 k', .int .i64 n', .string s'], undef, .pointer (some ⟨b, 0, none⟩), .pointer (some ⟨b + 1, 0, none⟩), .bool false, undef, undef, .bool true, .bool false, .string op, .agg #[.int .i64 k, .int .i64 n, .string s], .agg #[.int .i64 k', .int .i64 n', .string s'], undef, .string op, .agg #[.int .i64 k, .int .i64 n, .string s], .agg #[.int .i64 k', .int .i64 n', .string s'], undef, undef, undef, undef, undef, undef, undef, undef, undef, undef, undef, undef, undef, undef, undef, undef, undef, undef, undef, undef, undef, undef, undef, undef], defers := [] } V := by
  refine wpAnyH_ready (rs := [3]) (by kernel_rfl) (by simp) ?_
  refine AllReadyH.cons (o := { dst := some 14, op := Op.call { callee := Callee.value (Operand.func 25), args := #[Operand.tmp 11, Operand.tmp 12, Operand.tmp 13], argTypes := #[9, 23, 23] }, type := 23, pos := "law.go:62", after := #[{ on := 0, ground := Ground.data }, { on := 1, ground := Ground.data }, { on := 2, ground := Ground.data }], guard := none }) rfl (fun K hK => ?_) AllReadyH.nil
  have HK := Lib.hid hK.out
  clear hK
  go_wp2_with fail
  refine (H1.out _).mono ?_
  rintro e V' ⟨rfl, hb⟩
  replace hV := k3_call hV hb
  clear hb
  refine HK.out _ _ (by exact hV) (fun _ => ?_)
  exact nb3_7 Q hQ op k n k' n' rk z s s' w b HR H1 G1 _ hV

set_option maxRecDepth 100000 in
set_option linter.unusedVariables false in
set_option maxHeartbeats 2000000 in
theorem nb3_5 (Q : Exit → Act → World → Prop) (hQ : ∀ c a (d : Nat) v w, Q (.panic c) (Act.put a (some d) v) w → Q (.panic c) a w) (op : ByteArray) (k n k' n' rk z : Int) (s s' : ByteArray) (w : World) (b : Nat) (HR : Hid (∀ act V, fin_nb3 op k n k' n' rk z s s' w b act V → Q .normal act V)) (H1 : Hid (∀ W, Calls Tryd.prog 25 #[.string op, .agg #[.int .i64 k, .int .i64 n, .string s], .agg #[.int .i64 k', .int .i64 n', .string s']] W fun e w' => e = .returned (.agg #[.int .i64 rk, .int .i64 z, .string ⟨#[]⟩]) ∧ Below W.heap.size W w')) (G1 : Hid (∀ W, Calls Tryd.prog 26 #[.string op, .agg #[.int .i64 k, .int .i64 n, .string s], .agg #[.int .i64 k', .int .i64 n', .string s']] W fun e w' => e = .returned (.agg #[.int .i64 rk, .int .i64 z, .string ⟨#[]⟩]) ∧ Below W.heap.size W w')) (V : World) (hV : (K3 w b k n k' n' s s') V) : wpAnyH Tryd.prog .any ops_nb3 Q (K3 w b k n k' n' s s') 4 #[true, true, true, false, true, true, false, false, false] { tmps := #[.string op, .agg #[.int .i64 k, .int .i64 n, .string s], .agg #[.int .i64 k', .int .i64 n', .string s'], undef, .pointer (some ⟨b, 0, none⟩), .pointer (some ⟨b + 1, 0, none⟩), .bool false, undef, undef, .bool true, .bool false, .string op, .agg #[.int .i64 k, .int .i64 n, .string s], .agg #[.int .i64 k', .int .i64 n', .string s'], undef, .string op, .agg #[.int .i64 k, .int .i64 n, .string s], undef, undef, undef, undef, undef, undef, undef, undef, undef, undef, undef, undef, undef, undef, undef, undef, undef, undef, undef, undef, undef, undef, undef, undef, undef], defers := [] } V := by
  refine wpAnyH_take (i := 6) (oi := { dst := some 17, op := Op.load 23 (Operand.tmp 5), type := 23, pos := "law.go:62", after := #[], guard := none }) (v := .agg #[.int .i64 k', .int .i64 n', .string s']) rfl (by kernel_rfl) (by kernel_rfl) (by kernel_rfl) (fun c a w h => hQ c a _ _ w h) (Or.inl ⟨by kernel_rfl, ?_⟩) (by exact hV) ?_
  · intro U hS
    obtain ⟨_, _, p0, p1, p2, q0, q1, q2⟩ := hS
    go_simp
  exact nb3_6 Q hQ op k n k' n' rk z s s' w b HR H1 G1 _ hV

set_option maxRecDepth 100000 in
set_option linter.unusedVariables false in
set_option maxHeartbeats 2000000 in
theorem nb3_4 (Q : Exit → Act → World → Prop) (hQ : ∀ c a (d : Nat) v w, Q (.panic c) (Act.put a (some d) v) w → Q (.panic c) a w) (op : ByteArray) (k n k' n' rk z : Int) (s s' : ByteArray) (w : World) (b : Nat) (HR : Hid (∀ act V, fin_nb3 op k n k' n' rk z s s' w b act V → Q .normal act V)) (H1 : Hid (∀ W, Calls Tryd.prog 25 #[.string op, .agg #[.int .i64 k, .int .i64 n, .string s], .agg #[.int .i64 k', .int .i64 n', .string s']] W fun e w' => e = .returned (.agg #[.int .i64 rk, .int .i64 z, .string ⟨#[]⟩]) ∧ Below W.heap.size W w')) (G1 : Hid (∀ W, Calls Tryd.prog 26 #[.string op, .agg #[.int .i64 k, .int .i64 n, .string s], .agg #[.int .i64 k', .int .i64 n', .string s']] W fun e w' => e = .returned (.agg #[.int .i64 rk, .int .i64 z, .string ⟨#[]⟩]) ∧ Below W.heap.size W w')) (V : World) (hV : (K3 w b k n k' n' s s') V) : wpAnyH Tryd.prog .any ops_nb3 Q (K3 w b k n k' n' s s') 5 #[true, true, true, false, true, false, false, false, false] { tmps := #[.string op, .agg #[.int .i64 k, .int .i64 n, .string s], .agg #[.int .i64 k', .int .i64 n', .string s'], undef, .pointer (some ⟨b, 0, none⟩), .pointer (some ⟨b + 1, 0, none⟩), .bool false, undef, undef, .bool true, .bool false, .string op, .agg #[.int .i64 k, .int .i64 n, .string s], .agg #[.int .i64 k', .int .i64 n', .string s'], undef, .string op, undef, undef, undef, undef, undef, undef, undef, undef, undef, undef, undef, undef, undef, undef, undef, undef, undef, undef, undef, undef, undef, undef, undef, undef, undef, undef], defers := [] } V := by
  refine wpAnyH_take (i := 5) (oi := { dst := some 16, op := Op.load 23 (Operand.tmp 4), type := 23, pos := "law.go:62", after := #[], guard := none }) (v := .agg #[.int .i64 k, .int .i64 n, .string s]) rfl (by kernel_rfl) (by kernel_rfl) (by kernel_rfl) (fun c a w h => hQ c a _ _ w h) (Or.inl ⟨by kernel_rfl, ?_⟩) (by exact hV) ?_
  · intro U hS
    obtain ⟨_, _, p0, p1, p2, q0, q1, q2⟩ := hS
    go_simp
  exact nb3_5 Q hQ op k n k' n' rk z s s' w b HR H1 G1 _ hV

set_option maxRecDepth 100000 in
set_option linter.unusedVariables false in
set_option maxHeartbeats 2000000 in
theorem nb3_3 (Q : Exit → Act → World → Prop) (hQ : ∀ c a (d : Nat) v w, Q (.panic c) (Act.put a (some d) v) w → Q (.panic c) a w) (op : ByteArray) (k n k' n' rk z : Int) (s s' : ByteArray) (w : World) (b : Nat) (HR : Hid (∀ act V, fin_nb3 op k n k' n' rk z s s' w b act V → Q .normal act V)) (H1 : Hid (∀ W, Calls Tryd.prog 25 #[.string op, .agg #[.int .i64 k, .int .i64 n, .string s], .agg #[.int .i64 k', .int .i64 n', .string s']] W fun e w' => e = .returned (.agg #[.int .i64 rk, .int .i64 z, .string ⟨#[]⟩]) ∧ Below W.heap.size W w')) (G1 : Hid (∀ W, Calls Tryd.prog 26 #[.string op, .agg #[.int .i64 k, .int .i64 n, .string s], .agg #[.int .i64 k', .int .i64 n', .string s']] W fun e w' => e = .returned (.agg #[.int .i64 rk, .int .i64 z, .string ⟨#[]⟩]) ∧ Below W.heap.size W w')) (V : World) (hV : (K3 w b k n k' n' s s') V) : wpAnyH Tryd.prog .any ops_nb3 Q (K3 w b k n k' n' s s') 6 #[true, true, true, false, false, false, false, false, false] { tmps := #[.string op, .agg #[.int .i64 k, .int .i64 n, .string s], .agg #[.int .i64 k', .int .i64 n', .string s'], undef, .pointer (some ⟨b, 0, none⟩), .pointer (some ⟨b + 1, 0, none⟩), .bool false, undef, undef, .bool true, .bool false, .string op, .agg #[.int .i64 k, .int .i64 n, .string s], .agg #[.int .i64 k', .int .i64 n', .string s'], undef, undef, undef, undef, undef, undef, undef, undef, undef, undef, undef, undef, undef, undef, undef, undef, undef, undef, undef, undef, undef, undef, undef, undef, undef, undef, undef, undef], defers := [] } V := by
  refine wpAnyH_take (i := 4) (oi := { dst := some 15, op := Op.move (Operand.tmp 0), type := 9, pos := "law.go:62", after := #[], guard := none }) (v := .string op) rfl (by kernel_rfl) (by kernel_rfl) (by kernel_rfl) (fun c a w h => hQ c a _ _ w h) (Or.inl ⟨by kernel_rfl, ?_⟩) (by exact hV) ?_
  · intro U hS
    go_simp
  exact nb3_4 Q hQ op k n k' n' rk z s s' w b HR H1 G1 _ hV

set_option maxRecDepth 100000 in
set_option linter.unusedVariables false in
set_option maxHeartbeats 2000000 in
theorem nb3_2 (Q : Exit → Act → World → Prop) (hQ : ∀ c a (d : Nat) v w, Q (.panic c) (Act.put a (some d) v) w → Q (.panic c) a w) (op : ByteArray) (k n k' n' rk z : Int) (s s' : ByteArray) (w : World) (b : Nat) (HR : Hid (∀ act V, fin_nb3 op k n k' n' rk z s s' w b act V → Q .normal act V)) (H1 : Hid (∀ W, Calls Tryd.prog 25 #[.string op, .agg #[.int .i64 k, .int .i64 n, .string s], .agg #[.int .i64 k', .int .i64 n', .string s']] W fun e w' => e = .returned (.agg #[.int .i64 rk, .int .i64 z, .string ⟨#[]⟩]) ∧ Below W.heap.size W w')) (G1 : Hid (∀ W, Calls Tryd.prog 26 #[.string op, .agg #[.int .i64 k, .int .i64 n, .string s], .agg #[.int .i64 k', .int .i64 n', .string s']] W fun e w' => e = .returned (.agg #[.int .i64 rk, .int .i64 z, .string ⟨#[]⟩]) ∧ Below W.heap.size W w')) (V : World) (hV : (K3 w b k n k' n' s s') V) : wpAnyH Tryd.prog .any ops_nb3 Q (K3 w b k n k' n' s s') 7 #[true, true, false, false, false, false, false, false, false] { tmps := #[.string op, .agg #[.int .i64 k, .int .i64 n, .string s], .agg #[.int .i64 k', .int .i64 n', .string s'], undef, .pointer (some ⟨b, 0, none⟩), .pointer (some ⟨b + 1, 0, none⟩), .bool false, undef, undef, .bool true, .bool false, .string op, .agg #[.int .i64 k, .int .i64 n, .string s], undef, undef, undef, undef, undef, undef, undef, undef, undef, undef, undef, undef, undef, undef, undef, undef, undef, undef, undef, undef, undef, undef, undef, undef, undef, undef, undef, undef, undef], defers := [] } V := by
  refine wpAnyH_take (i := 2) (oi := { dst := some 13, op := Op.load 23 (Operand.tmp 5), type := 23, pos := "law.go:62", after := #[], guard := none }) (v := .agg #[.int .i64 k', .int .i64 n', .string s']) rfl (by kernel_rfl) (by kernel_rfl) (by kernel_rfl) (fun c a w h => hQ c a _ _ w h) (Or.inl ⟨by kernel_rfl, ?_⟩) (by exact hV) ?_
  · intro U hS
    obtain ⟨_, _, p0, p1, p2, q0, q1, q2⟩ := hS
    go_simp
  exact nb3_3 Q hQ op k n k' n' rk z s s' w b HR H1 G1 _ hV

set_option maxRecDepth 100000 in
set_option linter.unusedVariables false in
set_option maxHeartbeats 2000000 in
theorem nb3_1 (Q : Exit → Act → World → Prop) (hQ : ∀ c a (d : Nat) v w, Q (.panic c) (Act.put a (some d) v) w → Q (.panic c) a w) (op : ByteArray) (k n k' n' rk z : Int) (s s' : ByteArray) (w : World) (b : Nat) (HR : Hid (∀ act V, fin_nb3 op k n k' n' rk z s s' w b act V → Q .normal act V)) (H1 : Hid (∀ W, Calls Tryd.prog 25 #[.string op, .agg #[.int .i64 k, .int .i64 n, .string s], .agg #[.int .i64 k', .int .i64 n', .string s']] W fun e w' => e = .returned (.agg #[.int .i64 rk, .int .i64 z, .string ⟨#[]⟩]) ∧ Below W.heap.size W w')) (G1 : Hid (∀ W, Calls Tryd.prog 26 #[.string op, .agg #[.int .i64 k, .int .i64 n, .string s], .agg #[.int .i64 k', .int .i64 n', .string s']] W fun e w' => e = .returned (.agg #[.int .i64 rk, .int .i64 z, .string ⟨#[]⟩]) ∧ Below W.heap.size W w')) (V : World) (hV : (K3 w b k n k' n' s s') V) : wpAnyH Tryd.prog .any ops_nb3 Q (K3 w b k n k' n' s s') 8 #[true, false, false, false, false, false, false, false, false] { tmps := #[.string op, .agg #[.int .i64 k, .int .i64 n, .string s], .agg #[.int .i64 k', .int .i64 n', .string s'], undef, .pointer (some ⟨b, 0, none⟩), .pointer (some ⟨b + 1, 0, none⟩), .bool false, undef, undef, .bool true, .bool false, .string op, undef, undef, undef, undef, undef, undef, undef, undef, undef, undef, undef, undef, undef, undef, undef, undef, undef, undef, undef, undef, undef, undef, undef, undef, undef, undef, undef, undef, undef, undef], defers := [] } V := by
  refine wpAnyH_take (i := 1) (oi := { dst := some 12, op := Op.load 23 (Operand.tmp 4), type := 23, pos := "law.go:62", after := #[], guard := none }) (v := .agg #[.int .i64 k, .int .i64 n, .string s]) rfl (by kernel_rfl) (by kernel_rfl) (by kernel_rfl) (fun c a w h => hQ c a _ _ w h) (Or.inl ⟨by kernel_rfl, ?_⟩) (by exact hV) ?_
  · intro U hS
    obtain ⟨_, _, p0, p1, p2, q0, q1, q2⟩ := hS
    go_simp
  exact nb3_2 Q hQ op k n k' n' rk z s s' w b HR H1 G1 _ hV

set_option maxRecDepth 100000 in
set_option linter.unusedVariables false in
set_option maxHeartbeats 2000000 in
theorem nb3_0 (Q : Exit → Act → World → Prop) (hQ : ∀ c a (d : Nat) v w, Q (.panic c) (Act.put a (some d) v) w → Q (.panic c) a w) (op : ByteArray) (k n k' n' rk z : Int) (s s' : ByteArray) (w : World) (b : Nat) (HR : Hid (∀ act V, fin_nb3 op k n k' n' rk z s s' w b act V → Q .normal act V)) (H1 : Hid (∀ W, Calls Tryd.prog 25 #[.string op, .agg #[.int .i64 k, .int .i64 n, .string s], .agg #[.int .i64 k', .int .i64 n', .string s']] W fun e w' => e = .returned (.agg #[.int .i64 rk, .int .i64 z, .string ⟨#[]⟩]) ∧ Below W.heap.size W w')) (G1 : Hid (∀ W, Calls Tryd.prog 26 #[.string op, .agg #[.int .i64 k, .int .i64 n, .string s], .agg #[.int .i64 k', .int .i64 n', .string s']] W fun e w' => e = .returned (.agg #[.int .i64 rk, .int .i64 z, .string ⟨#[]⟩]) ∧ Below W.heap.size W w')) (V : World) (hV : (K3 w b k n k' n' s s') V) : wpAnyH Tryd.prog .any ops_nb3 Q (K3 w b k n k' n' s s') 9 #[false, false, false, false, false, false, false, false, false] { tmps := #[.string op, .agg #[.int .i64 k, .int .i64 n, .string s], .agg #[.int .i64 k', .int .i64 n', .string s'], undef, .pointer (some ⟨b, 0, none⟩), .pointer (some ⟨b + 1, 0, none⟩), .bool false, undef, undef, .bool true, .bool false, undef, undef, undef, undef, undef, undef, undef, undef, undef, undef, undef, undef, undef, undef, undef, undef, undef, undef, undef, undef, undef, undef, undef, undef, undef, undef, undef, undef, undef, undef, undef], defers := [] } V := by
  refine wpAnyH_take (i := 0) (oi := { dst := some 11, op := Op.move (Operand.tmp 0), type := 9, pos := "law.go:62", after := #[], guard := none }) (v := .string op) rfl (by kernel_rfl) (by kernel_rfl) (by kernel_rfl) (fun c a w h => hQ c a _ _ w h) (Or.inl ⟨by kernel_rfl, ?_⟩) (by exact hV) ?_
  · intro U hS
    go_simp
  exact nb3_1 Q hQ op k n k' n' rk z s s' w b HR H1 G1 _ hV

set_option maxRecDepth 100000 in
set_option linter.unusedVariables false in
set_option maxHeartbeats 2000000 in
theorem reg_nb3 (Q : Exit → Act → World → Prop) (hQ : ∀ c a (d : Nat) v w, Q (.panic c) (Act.put a (some d) v) w → Q (.panic c) a w) (op : ByteArray) (k n k' n' rk z : Int) (s s' : ByteArray) (w : World) (b : Nat) (HR : Hid (∀ act V, fin_nb3 op k n k' n' rk z s s' w b act V → Q .normal act V)) (H1 : Hid (∀ W, Calls Tryd.prog 25 #[.string op, .agg #[.int .i64 k, .int .i64 n, .string s], .agg #[.int .i64 k', .int .i64 n', .string s']] W fun e w' => e = .returned (.agg #[.int .i64 rk, .int .i64 z, .string ⟨#[]⟩]) ∧ Below W.heap.size W w')) (G1 : Hid (∀ W, Calls Tryd.prog 26 #[.string op, .agg #[.int .i64 k, .int .i64 n, .string s], .agg #[.int .i64 k', .int .i64 n', .string s']] W fun e w' => e = .returned (.agg #[.int .i64 rk, .int .i64 z, .string ⟨#[]⟩]) ∧ Below W.heap.size W w')) (W : World) (hW : (K3 w b k n k' n' s s') W.drew) : Code.wp Tryd.prog (Code.region 3 ops_nb3 true) Q { tmps := #[.string op, .agg #[.int .i64 k, .int .i64 n, .string s], .agg #[.int .i64 k', .int .i64 n', .string s'], undef, .pointer (some ⟨b, 0, none⟩), .pointer (some ⟨b + 1, 0, none⟩), .bool false, undef, undef, .bool true, .bool false, undef, undef, undef, undef, undef, undef, undef, undef, undef, undef, undef, undef, undef, undef, undef, undef, undef, undef, undef, undef, undef, undef, undef, undef, undef, undef, undef, undef, undef, undef, undef], defers := [] } W := by
  refine wp_region_held_drew (S := (K3 w b k n k' n' s s')) (by kernel_rfl) (by exact hW) (fun hV => ?_)
  exact nb3_0 Q hQ op k n k' n' rk z s s' w b HR H1 G1 _ hV

def ops_nb9 : Array Oper := #[{ dst := some 27, op := Op.move (Operand.tmp 7), type := 37, pos := "law.go:67", after := #[], guard := none }, { dst := some 28, op := Op.move (Operand.tmp 8), type := 3, pos := "law.go:67", after := #[], guard := none }, { dst := some 29, op := Op.indexAddr 37 (Operand.tmp 27) (Operand.tmp 28), type := 0, pos := "law.go:67", after := #[{ on := 0, ground := Ground.data }, { on := 1, ground := Ground.data }], guard := none }, { dst := some 30, op := Op.load 9 (Operand.tmp 29), type := 9, pos := "law.go:67", after := #[{ on := 2, ground := Ground.data }], guard := none }, { dst := some 31, op := Op.load 23 (Operand.tmp 4), type := 23, pos := "law.go:67", after := #[], guard := none }, { dst := some 32, op := Op.load 23 (Operand.tmp 5), type := 23, pos := "law.go:67", after := #[], guard := none }, { dst := some 33, op := Op.call { callee := Callee.value (Operand.func 25), args := #[Operand.tmp 30, Operand.tmp 31, Operand.tmp 32], argTypes := #[9, 23, 23] }, type := 23, pos := "law.go:67", after := #[{ on := 3, ground := Ground.data }, { on := 4, ground := Ground.data }, { on := 5, ground := Ground.data }], guard := none }, { dst := some 34, op := Op.move (Operand.tmp 7), type := 37, pos := "law.go:67", after := #[], guard := none }, { dst := some 35, op := Op.move (Operand.tmp 8), type := 3, pos := "law.go:67", after := #[], guard := none }, { dst := some 36, op := Op.indexAddr 37 (Operand.tmp 34) (Operand.tmp 35), type := 0, pos := "law.go:67", after := #[{ on := 7, ground := Ground.data }, { on := 8, ground := Ground.data }], guard := none }, { dst := some 37, op := Op.load 9 (Operand.tmp 36), type := 9, pos := "law.go:67", after := #[{ on := 9, ground := Ground.data }], guard := none }, { dst := some 38, op := Op.load 23 (Operand.tmp 4), type := 23, pos := "law.go:67", after := #[], guard := none }, { dst := some 39, op := Op.load 23 (Operand.tmp 5), type := 23, pos := "law.go:67", after := #[], guard := none }, { dst := some 40, op := Op.call { callee := Callee.value (Operand.func 26), args := #[Operand.tmp 37, Operand.tmp 38, Operand.tmp 39], argTypes := #[9, 23, 23] }, type := 23, pos := "law.go:67", after := #[{ on := 10, ground := Ground.data }, { on := 11, ground := Ground.data }, { on := 12, ground := Ground.data }, { on := 6, ground := Ground.chain }], guard := none }, { dst := some 41, op := Op.binOp BinOp.neq 23 (Operand.tmp 33) (Operand.tmp 40) 23, type := 4, pos := "law.go:67", after := #[{ on := 6, ground := Ground.data }, { on := 13, ground := Ground.data }], guard := none }]
set_option linter.unusedVariables false in
def fin_nb9 (op q : ByteArray) (k n k' n' rk z : Int) (s s' : ByteArray) (w : World) (b c j : Nat) (X6 X11 X12 X13 X14 X15 X16 X17 X18 X19 X20 X21 X22 X23 X24 X25 X26 X27 X28 X29 X30 X31 X32 X33 X34 X35 X36 X37 X38 X39 X40 X41 : Value) : Act → World → Prop := fun act V => act = { tmps := #[.string op, .agg #[.int .i64 k, .int .i64 n, .string s], .agg #[.int .i64 k', .int .i64 n', .string s'], undef, .pointer (some ⟨b, 0, none⟩), .pointer (some ⟨b + 1, 0, none⟩), X6, .slice (some ⟨c, 0, none⟩) 5 5, .int .i64 j, .bool true, .bool false, X11, X12, X13, X14, X15, X16, X17, X18, X19, X20, X21, X22, X23, X24, X25, X26, .slice (some ⟨c, 0, none⟩) 5 5, .int .i64 j, .pointer (some ⟨c, j, none⟩), .string q, .agg #[.int .i64 k, .int .i64 n, .string s], .agg #[.int .i64 k', .int .i64 n', .string s'], .agg #[.int .i64 rk, .int .i64 z, .string ⟨#[]⟩], .slice (some ⟨c, 0, none⟩) 5 5, .int .i64 j, .pointer (some ⟨c, j, none⟩), .string q, .agg #[.int .i64 k, .int .i64 n, .string s], .agg #[.int .i64 k', .int .i64 n', .string s'], .agg #[.int .i64 rk, .int .i64 z, .string ⟨#[]⟩], .bool false], defers := [] } ∧ (K5 w b c j q k n k' n' s s') V

set_option maxRecDepth 100000 in
set_option linter.unusedVariables false in
set_option maxHeartbeats 2000000 in
theorem nb9_15 (Q : Exit → Act → World → Prop) (hQ : ∀ c a (d : Nat) v w, Q (.panic c) (Act.put a (some d) v) w → Q (.panic c) a w) (op q : ByteArray) (k n k' n' rk z : Int) (s s' : ByteArray) (w : World) (b c j : Nat) (X6 X11 X12 X13 X14 X15 X16 X17 X18 X19 X20 X21 X22 X23 X24 X25 X26 X27 X28 X29 X30 X31 X32 X33 X34 X35 X36 X37 X38 X39 X40 X41 : Value) (HR : Hid (∀ act V, fin_nb9 op q k n k' n' rk z s s' w b c j X6 X11 X12 X13 X14 X15 X16 X17 X18 X19 X20 X21 X22 X23 X24 X25 X26 X27 X28 X29 X30 X31 X32 X33 X34 X35 X36 X37 X38 X39 X40 X41 act V → Q .normal act V)) (H1 : Hid (∀ W, Calls Tryd.prog 25 #[.string q, .agg #[.int .i64 k, .int .i64 n, .string s], .agg #[.int .i64 k', .int .i64 n', .string s']] W fun e w' => e = .returned (.agg #[.int .i64 rk, .int .i64 z, .string ⟨#[]⟩]) ∧ Below W.heap.size W w')) (G1 : Hid (∀ W, Calls Tryd.prog 26 #[.string q, .agg #[.int .i64 k, .int .i64 n, .string s], .agg #[.int .i64 k', .int .i64 n', .string s']] W fun e w' => e = .returned (.agg #[.int .i64 rk, .int .i64 z, .string ⟨#[]⟩]) ∧ Below W.heap.size W w')) (hj : j < 5) (V : World) (hV : (K5 w b c j q k n k' n' s s') V) : wpAnyH Tryd.prog .any ops_nb9 Q (K5 w b c j q k n k' n' s s') 0 #[true, true, true, true, true, true, true, true, true, true, true, true, true, true, true] { tmps := #[.string op, .agg #[.int .i64 k, .int .i64 n, .string s], .agg #[.int .i64 k', .int .i64 n', .string s'], undef, .pointer (some ⟨b, 0, none⟩), .pointer (some ⟨b + 1, 0, none⟩), X6, .slice (some ⟨c, 0, none⟩) 5 5, .int .i64 j, .bool true, .bool false, X11, X12, X13, X14, X15, X16, X17, X18, X19, X20, X21, X22, X23, X24, X25, X26, .slice (some ⟨c, 0, none⟩) 5 5, .int .i64 j, .pointer (some ⟨c, j, none⟩), .string q, .agg #[.int .i64 k, .int .i64 n, .string s], .agg #[.int .i64 k', .int .i64 n', .string s'], .agg #[.int .i64 rk, .int .i64 z, .string ⟨#[]⟩], .slice (some ⟨c, 0, none⟩) 5 5, .int .i64 j, .pointer (some ⟨c, j, none⟩), .string q, .agg #[.int .i64 k, .int .i64 n, .string s], .agg #[.int .i64 k', .int .i64 n', .string s'], .agg #[.int .i64 rk, .int .i64 z, .string ⟨#[]⟩], .bool false], defers := [] } V := by
  refine wpAnyH_done (by kernel_rfl) ?_ _
  exact HR.out _ _ ⟨rfl, hV⟩

set_option maxRecDepth 100000 in
set_option linter.unusedVariables false in
set_option maxHeartbeats 2000000 in
theorem nb9_14 (Q : Exit → Act → World → Prop) (hQ : ∀ c a (d : Nat) v w, Q (.panic c) (Act.put a (some d) v) w → Q (.panic c) a w) (op q : ByteArray) (k n k' n' rk z : Int) (s s' : ByteArray) (w : World) (b c j : Nat) (X6 X11 X12 X13 X14 X15 X16 X17 X18 X19 X20 X21 X22 X23 X24 X25 X26 X27 X28 X29 X30 X31 X32 X33 X34 X35 X36 X37 X38 X39 X40 X41 : Value) (HR : Hid (∀ act V, fin_nb9 op q k n k' n' rk z s s' w b c j X6 X11 X12 X13 X14 X15 X16 X17 X18 X19 X20 X21 X22 X23 X24 X25 X26 X27 X28 X29 X30 X31 X32 X33 X34 X35 X36 X37 X38 X39 X40 X41 act V → Q .normal act V)) (H1 : Hid (∀ W, Calls Tryd.prog 25 #[.string q, .agg #[.int .i64 k, .int .i64 n, .string s], .agg #[.int .i64 k', .int .i64 n', .string s']] W fun e w' => e = .returned (.agg #[.int .i64 rk, .int .i64 z, .string ⟨#[]⟩]) ∧ Below W.heap.size W w')) (G1 : Hid (∀ W, Calls Tryd.prog 26 #[.string q, .agg #[.int .i64 k, .int .i64 n, .string s], .agg #[.int .i64 k', .int .i64 n', .string s']] W fun e w' => e = .returned (.agg #[.int .i64 rk, .int .i64 z, .string ⟨#[]⟩]) ∧ Below W.heap.size W w')) (hj : j < 5) (V : World) (hV : (K5 w b c j q k n k' n' s s') V) : wpAnyH Tryd.prog .any ops_nb9 Q (K5 w b c j q k n k' n' s s') 1 #[true, true, true, true, true, true, true, true, true, true, true, true, true, true, false] { tmps := #[.string op, .agg #[.int .i64 k, .int .i64 n, .string s], .agg #[.int .i64 k', .int .i64 n', .string s'], undef, .pointer (some ⟨b, 0, none⟩), .pointer (some ⟨b + 1, 0, none⟩), X6, .slice (some ⟨c, 0, none⟩) 5 5, .int .i64 j, .bool true, .bool false, X11, X12, X13, X14, X15, X16, X17, X18, X19, X20, X21, X22, X23, X24, X25, X26, .slice (some ⟨c, 0, none⟩) 5 5, .int .i64 j, .pointer (some ⟨c, j, none⟩), .string q, .agg #[.int .i64 k, .int .i64 n, .string s], .agg #[.int .i64 k', .int .i64 n', .string s'], .agg #[.int .i64 rk, .int .i64 z, .string ⟨#[]⟩], .slice (some ⟨c, 0, none⟩) 5 5, .int .i64 j, .pointer (some ⟨c, j, none⟩), .string q, .agg #[.int .i64 k, .int .i64 n, .string s], .agg #[.int .i64 k', .int .i64 n', .string s'], .agg #[.int .i64 rk, .int .i64 z, .string ⟨#[]⟩], X41], defers := [] } V := by
  refine wpAnyH_take (i := 14) (oi := { dst := some 41, op := Op.binOp BinOp.neq 23 (Operand.tmp 33) (Operand.tmp 40) 23, type := 4, pos := "law.go:67", after := #[{ on := 6, ground := Ground.data }, { on := 13, ground := Ground.data }], guard := none }) (v := .bool false) rfl (by kernel_rfl) (by kernel_rfl) (by kernel_rfl) (fun c a w h => hQ c a _ _ w h) (Or.inl ⟨by kernel_rfl, ?_⟩) (by exact hV) ?_
  · intro U hS
    go_simp
  exact nb9_15 Q hQ op q k n k' n' rk z s s' w b c j X6 X11 X12 X13 X14 X15 X16 X17 X18 X19 X20 X21 X22 X23 X24 X25 X26 X27 X28 X29 X30 X31 X32 X33 X34 X35 X36 X37 X38 X39 X40 X41 HR H1 G1 hj _ hV

set_option maxRecDepth 100000 in
set_option linter.unusedVariables false in
set_option maxHeartbeats 2000000 in
theorem nb9_13 (Q : Exit → Act → World → Prop) (hQ : ∀ c a (d : Nat) v w, Q (.panic c) (Act.put a (some d) v) w → Q (.panic c) a w) (op q : ByteArray) (k n k' n' rk z : Int) (s s' : ByteArray) (w : World) (b c j : Nat) (X6 X11 X12 X13 X14 X15 X16 X17 X18 X19 X20 X21 X22 X23 X24 X25 X26 X27 X28 X29 X30 X31 X32 X33 X34 X35 X36 X37 X38 X39 X40 X41 : Value) (HR : Hid (∀ act V, fin_nb9 op q k n k' n' rk z s s' w b c j X6 X11 X12 X13 X14 X15 X16 X17 X18 X19 X20 X21 X22 X23 X24 X25 X26 X27 X28 X29 X30 X31 X32 X33 X34 X35 X36 X37 X38 X39 X40 X41 act V → Q .normal act V)) (H1 : Hid (∀ W, Calls Tryd.prog 25 #[.string q, .agg #[.int .i64 k, .int .i64 n, .string s], .agg #[.int .i64 k', .int .i64 n', .string s']] W fun e w' => e = .returned (.agg #[.int .i64 rk, .int .i64 z, .string ⟨#[]⟩]) ∧ Below W.heap.size W w')) (G1 : Hid (∀ W, Calls Tryd.prog 26 #[.string q, .agg #[.int .i64 k, .int .i64 n, .string s], .agg #[.int .i64 k', .int .i64 n', .string s']] W fun e w' => e = .returned (.agg #[.int .i64 rk, .int .i64 z, .string ⟨#[]⟩]) ∧ Below W.heap.size W w')) (hj : j < 5) (V : World) (hV : (K5 w b c j q k n k' n' s s') V) : wpAnyH Tryd.prog .any ops_nb9 Q (K5 w b c j q k n k' n' s s') 2 #[true, true, true, true, true, true, true, true, true, true, true, true, true, false, false] { tmps := #[.string op, .agg #[.int .i64 k, .int .i64 n, .string s], .agg #[.int .i64 k', .int .i64 n', .string s'], undef, .pointer (some ⟨b, 0, none⟩), .pointer (some ⟨b + 1, 0, none⟩), X6, .slice (some ⟨c, 0, none⟩) 5 5, .int .i64 j, .bool true, .bool false, X11, X12, X13, X14, X15, X16, X17, X18, X19, X20, X21, X22, X23, X24, X25, X26, .slice (some ⟨c, 0, none⟩) 5 5, .int .i64 j, .pointer (some ⟨c, j, none⟩), .string q, .agg #[.int .i64 k, .int .i64 n, .string s], .agg #[.int .i64 k', .int .i64 n', .string s'], .agg #[.int .i64 rk, .int .i64 z, .string ⟨#[]⟩], .slice (some ⟨c, 0, none⟩) 5 5, .int .i64 j, .pointer (some ⟨c, j, none⟩), .string q, .agg #[.int .i64 k, .int .i64 n, .string s], .agg #[.int .i64 k', .int .i64 n', .string s'], X40, X41], defers := [] } V := by
  refine wpAnyH_ready (rs := [13]) (by kernel_rfl) (by simp) ?_
  refine AllReadyH.cons (o := { dst := some 40, op := Op.call { callee := Callee.value (Operand.func 26), args := #[Operand.tmp 37, Operand.tmp 38, Operand.tmp 39], argTypes := #[9, 23, 23] }, type := 23, pos := "law.go:67", after := #[{ on := 10, ground := Ground.data }, { on := 11, ground := Ground.data }, { on := 12, ground := Ground.data }, { on := 6, ground := Ground.chain }], guard := none }) rfl (fun K hK => ?_) AllReadyH.nil
  have HK := Lib.hid hK.out
  clear hK
  go_wp2_with fail
  refine (G1.out _).mono ?_
  rintro e V' ⟨rfl, hb⟩
  replace hV := k5_call hV hb
  clear hb
  refine HK.out _ _ (by exact hV) (fun _ => ?_)
  exact nb9_14 Q hQ op q k n k' n' rk z s s' w b c j X6 X11 X12 X13 X14 X15 X16 X17 X18 X19 X20 X21 X22 X23 X24 X25 X26 X27 X28 X29 X30 X31 X32 X33 X34 X35 X36 X37 X38 X39 X40 X41 HR H1 G1 hj _ hV

set_option maxRecDepth 100000 in
set_option linter.unusedVariables false in
set_option maxHeartbeats 2000000 in
theorem nb9_12 (Q : Exit → Act → World → Prop) (hQ : ∀ c a (d : Nat) v w, Q (.panic c) (Act.put a (some d) v) w → Q (.panic c) a w) (op q : ByteArray) (k n k' n' rk z : Int) (s s' : ByteArray) (w : World) (b c j : Nat) (X6 X11 X12 X13 X14 X15 X16 X17 X18 X19 X20 X21 X22 X23 X24 X25 X26 X27 X28 X29 X30 X31 X32 X33 X34 X35 X36 X37 X38 X39 X40 X41 : Value) (HR : Hid (∀ act V, fin_nb9 op q k n k' n' rk z s s' w b c j X6 X11 X12 X13 X14 X15 X16 X17 X18 X19 X20 X21 X22 X23 X24 X25 X26 X27 X28 X29 X30 X31 X32 X33 X34 X35 X36 X37 X38 X39 X40 X41 act V → Q .normal act V)) (H1 : Hid (∀ W, Calls Tryd.prog 25 #[.string q, .agg #[.int .i64 k, .int .i64 n, .string s], .agg #[.int .i64 k', .int .i64 n', .string s']] W fun e w' => e = .returned (.agg #[.int .i64 rk, .int .i64 z, .string ⟨#[]⟩]) ∧ Below W.heap.size W w')) (G1 : Hid (∀ W, Calls Tryd.prog 26 #[.string q, .agg #[.int .i64 k, .int .i64 n, .string s], .agg #[.int .i64 k', .int .i64 n', .string s']] W fun e w' => e = .returned (.agg #[.int .i64 rk, .int .i64 z, .string ⟨#[]⟩]) ∧ Below W.heap.size W w')) (hj : j < 5) (V : World) (hV : (K5 w b c j q k n k' n' s s') V) : wpAnyH Tryd.prog .any ops_nb9 Q (K5 w b c j q k n k' n' s s') 3 #[true, true, true, true, true, true, false, true, true, true, true, true, true, false, false] { tmps := #[.string op, .agg #[.int .i64 k, .int .i64 n, .string s], .agg #[.int .i64 k', .int .i64 n', .string s'], undef, .pointer (some ⟨b, 0, none⟩), .pointer (some ⟨b + 1, 0, none⟩), X6, .slice (some ⟨c, 0, none⟩) 5 5, .int .i64 j, .bool true, .bool false, X11, X12, X13, X14, X15, X16, X17, X18, X19, X20, X21, X22, X23, X24, X25, X26, .slice (some ⟨c, 0, none⟩) 5 5, .int .i64 j, .pointer (some ⟨c, j, none⟩), .string q, .agg #[.int .i64 k, .int .i64 n, .string s], .agg #[.int .i64 k', .int .i64 n', .string s'], X33, .slice (some ⟨c, 0, none⟩) 5 5, .int .i64 j, .pointer (some ⟨c, j, none⟩), .string q, .agg #[.int .i64 k, .int .i64 n, .string s], .agg #[.int .i64 k', .int .i64 n', .string s'], X40, X41], defers := [] } V := by
  refine wpAnyH_ready (rs := [6]) (by kernel_rfl) (by simp) ?_
  refine AllReadyH.cons (o := { dst := some 33, op := Op.call { callee := Callee.value (Operand.func 25), args := #[Operand.tmp 30, Operand.tmp 31, Operand.tmp 32], argTypes := #[9, 23, 23] }, type := 23, pos := "law.go:67", after := #[{ on := 3, ground := Ground.data }, { on := 4, ground := Ground.data }, { on := 5, ground := Ground.data }], guard := none }) rfl (fun K hK => ?_) AllReadyH.nil
  have HK := Lib.hid hK.out
  clear hK
  go_wp2_with fail
  refine (H1.out _).mono ?_
  rintro e V' ⟨rfl, hb⟩
  replace hV := k5_call hV hb
  clear hb
  refine HK.out _ _ (by exact hV) (fun _ => ?_)
  exact nb9_13 Q hQ op q k n k' n' rk z s s' w b c j X6 X11 X12 X13 X14 X15 X16 X17 X18 X19 X20 X21 X22 X23 X24 X25 X26 X27 X28 X29 X30 X31 X32 X33 X34 X35 X36 X37 X38 X39 X40 X41 HR H1 G1 hj _ hV

set_option maxRecDepth 100000 in
set_option linter.unusedVariables false in
set_option maxHeartbeats 2000000 in
theorem nb9_11 (Q : Exit → Act → World → Prop) (hQ : ∀ c a (d : Nat) v w, Q (.panic c) (Act.put a (some d) v) w → Q (.panic c) a w) (op q : ByteArray) (k n k' n' rk z : Int) (s s' : ByteArray) (w : World) (b c j : Nat) (X6 X11 X12 X13 X14 X15 X16 X17 X18 X19 X20 X21 X22 X23 X24 X25 X26 X27 X28 X29 X30 X31 X32 X33 X34 X35 X36 X37 X38 X39 X40 X41 : Value) (HR : Hid (∀ act V, fin_nb9 op q k n k' n' rk z s s' w b c j X6 X11 X12 X13 X14 X15 X16 X17 X18 X19 X20 X21 X22 X23 X24 X25 X26 X27 X28 X29 X30 X31 X32 X33 X34 X35 X36 X37 X38 X39 X40 X41 act V → Q .normal act V)) (H1 : Hid (∀ W, Calls Tryd.prog 25 #[.string q, .agg #[.int .i64 k, .int .i64 n, .string s], .agg #[.int .i64 k', .int .i64 n', .string s']] W fun e w' => e = .returned (.agg #[.int .i64 rk, .int .i64 z, .string ⟨#[]⟩]) ∧ Below W.heap.size W w')) (G1 : Hid (∀ W, Calls Tryd.prog 26 #[.string q, .agg #[.int .i64 k, .int .i64 n, .string s], .agg #[.int .i64 k', .int .i64 n', .string s']] W fun e w' => e = .returned (.agg #[.int .i64 rk, .int .i64 z, .string ⟨#[]⟩]) ∧ Below W.heap.size W w')) (hj : j < 5) (V : World) (hV : (K5 w b c j q k n k' n' s s') V) : wpAnyH Tryd.prog .any ops_nb9 Q (K5 w b c j q k n k' n' s s') 4 #[true, true, true, true, true, true, false, true, true, true, true, true, false, false, false] { tmps := #[.string op, .agg #[.int .i64 k, .int .i64 n, .string s], .agg #[.int .i64 k', .int .i64 n', .string s'], undef, .pointer (some ⟨b, 0, none⟩), .pointer (some ⟨b + 1, 0, none⟩), X6, .slice (some ⟨c, 0, none⟩) 5 5, .int .i64 j, .bool true, .bool false, X11, X12, X13, X14, X15, X16, X17, X18, X19, X20, X21, X22, X23, X24, X25, X26, .slice (some ⟨c, 0, none⟩) 5 5, .int .i64 j, .pointer (some ⟨c, j, none⟩), .string q, .agg #[.int .i64 k, .int .i64 n, .string s], .agg #[.int .i64 k', .int .i64 n', .string s'], X33, .slice (some ⟨c, 0, none⟩) 5 5, .int .i64 j, .pointer (some ⟨c, j, none⟩), .string q, .agg #[.int .i64 k, .int .i64 n, .string s], X39, X40, X41], defers := [] } V := by
  refine wpAnyH_take (i := 12) (oi := { dst := some 39, op := Op.load 23 (Operand.tmp 5), type := 23, pos := "law.go:67", after := #[], guard := none }) (v := .agg #[.int .i64 k', .int .i64 n', .string s']) rfl (by kernel_rfl) (by kernel_rfl) (by kernel_rfl) (fun c a w h => hQ c a _ _ w h) (Or.inl ⟨by kernel_rfl, ?_⟩) (by exact hV) ?_
  · intro U hS
    obtain ⟨_, _, p0, p1, p2, q0, q1, q2, r0⟩ := hS
    go_simp
  exact nb9_12 Q hQ op q k n k' n' rk z s s' w b c j X6 X11 X12 X13 X14 X15 X16 X17 X18 X19 X20 X21 X22 X23 X24 X25 X26 X27 X28 X29 X30 X31 X32 X33 X34 X35 X36 X37 X38 X39 X40 X41 HR H1 G1 hj _ hV

set_option maxRecDepth 100000 in
set_option linter.unusedVariables false in
set_option maxHeartbeats 2000000 in
theorem nb9_10 (Q : Exit → Act → World → Prop) (hQ : ∀ c a (d : Nat) v w, Q (.panic c) (Act.put a (some d) v) w → Q (.panic c) a w) (op q : ByteArray) (k n k' n' rk z : Int) (s s' : ByteArray) (w : World) (b c j : Nat) (X6 X11 X12 X13 X14 X15 X16 X17 X18 X19 X20 X21 X22 X23 X24 X25 X26 X27 X28 X29 X30 X31 X32 X33 X34 X35 X36 X37 X38 X39 X40 X41 : Value) (HR : Hid (∀ act V, fin_nb9 op q k n k' n' rk z s s' w b c j X6 X11 X12 X13 X14 X15 X16 X17 X18 X19 X20 X21 X22 X23 X24 X25 X26 X27 X28 X29 X30 X31 X32 X33 X34 X35 X36 X37 X38 X39 X40 X41 act V → Q .normal act V)) (H1 : Hid (∀ W, Calls Tryd.prog 25 #[.string q, .agg #[.int .i64 k, .int .i64 n, .string s], .agg #[.int .i64 k', .int .i64 n', .string s']] W fun e w' => e = .returned (.agg #[.int .i64 rk, .int .i64 z, .string ⟨#[]⟩]) ∧ Below W.heap.size W w')) (G1 : Hid (∀ W, Calls Tryd.prog 26 #[.string q, .agg #[.int .i64 k, .int .i64 n, .string s], .agg #[.int .i64 k', .int .i64 n', .string s']] W fun e w' => e = .returned (.agg #[.int .i64 rk, .int .i64 z, .string ⟨#[]⟩]) ∧ Below W.heap.size W w')) (hj : j < 5) (V : World) (hV : (K5 w b c j q k n k' n' s s') V) : wpAnyH Tryd.prog .any ops_nb9 Q (K5 w b c j q k n k' n' s s') 5 #[true, true, true, true, true, true, false, true, true, true, true, false, false, false, false] { tmps := #[.string op, .agg #[.int .i64 k, .int .i64 n, .string s], .agg #[.int .i64 k', .int .i64 n', .string s'], undef, .pointer (some ⟨b, 0, none⟩), .pointer (some ⟨b + 1, 0, none⟩), X6, .slice (some ⟨c, 0, none⟩) 5 5, .int .i64 j, .bool true, .bool false, X11, X12, X13, X14, X15, X16, X17, X18, X19, X20, X21, X22, X23, X24, X25, X26, .slice (some ⟨c, 0, none⟩) 5 5, .int .i64 j, .pointer (some ⟨c, j, none⟩), .string q, .agg #[.int .i64 k, .int .i64 n, .string s], .agg #[.int .i64 k', .int .i64 n', .string s'], X33, .slice (some ⟨c, 0, none⟩) 5 5, .int .i64 j, .pointer (some ⟨c, j, none⟩), .string q, X38, X39, X40, X41], defers := [] } V := by
  refine wpAnyH_take (i := 11) (oi := { dst := some 38, op := Op.load 23 (Operand.tmp 4), type := 23, pos := "law.go:67", after := #[], guard := none }) (v := .agg #[.int .i64 k, .int .i64 n, .string s]) rfl (by kernel_rfl) (by kernel_rfl) (by kernel_rfl) (fun c a w h => hQ c a _ _ w h) (Or.inl ⟨by kernel_rfl, ?_⟩) (by exact hV) ?_
  · intro U hS
    obtain ⟨_, _, p0, p1, p2, q0, q1, q2, r0⟩ := hS
    go_simp
  exact nb9_11 Q hQ op q k n k' n' rk z s s' w b c j X6 X11 X12 X13 X14 X15 X16 X17 X18 X19 X20 X21 X22 X23 X24 X25 X26 X27 X28 X29 X30 X31 X32 X33 X34 X35 X36 X37 X38 X39 X40 X41 HR H1 G1 hj _ hV

set_option maxRecDepth 100000 in
set_option linter.unusedVariables false in
set_option maxHeartbeats 2000000 in
theorem nb9_9 (Q : Exit → Act → World → Prop) (hQ : ∀ c a (d : Nat) v w, Q (.panic c) (Act.put a (some d) v) w → Q (.panic c) a w) (op q : ByteArray) (k n k' n' rk z : Int) (s s' : ByteArray) (w : World) (b c j : Nat) (X6 X11 X12 X13 X14 X15 X16 X17 X18 X19 X20 X21 X22 X23 X24 X25 X26 X27 X28 X29 X30 X31 X32 X33 X34 X35 X36 X37 X38 X39 X40 X41 : Value) (HR : Hid (∀ act V, fin_nb9 op q k n k' n' rk z s s' w b c j X6 X11 X12 X13 X14 X15 X16 X17 X18 X19 X20 X21 X22 X23 X24 X25 X26 X27 X28 X29 X30 X31 X32 X33 X34 X35 X36 X37 X38 X39 X40 X41 act V → Q .normal act V)) (H1 : Hid (∀ W, Calls Tryd.prog 25 #[.string q, .agg #[.int .i64 k, .int .i64 n, .string s], .agg #[.int .i64 k', .int .i64 n', .string s']] W fun e w' => e = .returned (.agg #[.int .i64 rk, .int .i64 z, .string ⟨#[]⟩]) ∧ Below W.heap.size W w')) (G1 : Hid (∀ W, Calls Tryd.prog 26 #[.string q, .agg #[.int .i64 k, .int .i64 n, .string s], .agg #[.int .i64 k', .int .i64 n', .string s']] W fun e w' => e = .returned (.agg #[.int .i64 rk, .int .i64 z, .string ⟨#[]⟩]) ∧ Below W.heap.size W w')) (hj : j < 5) (V : World) (hV : (K5 w b c j q k n k' n' s s') V) : wpAnyH Tryd.prog .any ops_nb9 Q (K5 w b c j q k n k' n' s s') 6 #[true, true, true, true, true, true, false, true, true, true, false, false, false, false, false] { tmps := #[.string op, .agg #[.int .i64 k, .int .i64 n, .string s], .agg #[.int .i64 k', .int .i64 n', .string s'], undef, .pointer (some ⟨b, 0, none⟩), .pointer (some ⟨b + 1, 0, none⟩), X6, .slice (some ⟨c, 0, none⟩) 5 5, .int .i64 j, .bool true, .bool false, X11, X12, X13, X14, X15, X16, X17, X18, X19, X20, X21, X22, X23, X24, X25, X26, .slice (some ⟨c, 0, none⟩) 5 5, .int .i64 j, .pointer (some ⟨c, j, none⟩), .string q, .agg #[.int .i64 k, .int .i64 n, .string s], .agg #[.int .i64 k', .int .i64 n', .string s'], X33, .slice (some ⟨c, 0, none⟩) 5 5, .int .i64 j, .pointer (some ⟨c, j, none⟩), X37, X38, X39, X40, X41], defers := [] } V := by
  refine wpAnyH_take (i := 10) (oi := { dst := some 37, op := Op.load 9 (Operand.tmp 36), type := 9, pos := "law.go:67", after := #[{ on := 9, ground := Ground.data }], guard := none }) (v := .string q) rfl (by kernel_rfl) (by kernel_rfl) (by kernel_rfl) (fun c a w h => hQ c a _ _ w h) (Or.inl ⟨by kernel_rfl, ?_⟩) (by exact hV) ?_
  · intro U hS
    obtain ⟨_, _, p0, p1, p2, q0, q1, q2, r0⟩ := hS
    go_simp
  exact nb9_10 Q hQ op q k n k' n' rk z s s' w b c j X6 X11 X12 X13 X14 X15 X16 X17 X18 X19 X20 X21 X22 X23 X24 X25 X26 X27 X28 X29 X30 X31 X32 X33 X34 X35 X36 X37 X38 X39 X40 X41 HR H1 G1 hj _ hV

set_option maxRecDepth 100000 in
set_option linter.unusedVariables false in
set_option maxHeartbeats 2000000 in
theorem nb9_8 (Q : Exit → Act → World → Prop) (hQ : ∀ c a (d : Nat) v w, Q (.panic c) (Act.put a (some d) v) w → Q (.panic c) a w) (op q : ByteArray) (k n k' n' rk z : Int) (s s' : ByteArray) (w : World) (b c j : Nat) (X6 X11 X12 X13 X14 X15 X16 X17 X18 X19 X20 X21 X22 X23 X24 X25 X26 X27 X28 X29 X30 X31 X32 X33 X34 X35 X36 X37 X38 X39 X40 X41 : Value) (HR : Hid (∀ act V, fin_nb9 op q k n k' n' rk z s s' w b c j X6 X11 X12 X13 X14 X15 X16 X17 X18 X19 X20 X21 X22 X23 X24 X25 X26 X27 X28 X29 X30 X31 X32 X33 X34 X35 X36 X37 X38 X39 X40 X41 act V → Q .normal act V)) (H1 : Hid (∀ W, Calls Tryd.prog 25 #[.string q, .agg #[.int .i64 k, .int .i64 n, .string s], .agg #[.int .i64 k', .int .i64 n', .string s']] W fun e w' => e = .returned (.agg #[.int .i64 rk, .int .i64 z, .string ⟨#[]⟩]) ∧ Below W.heap.size W w')) (G1 : Hid (∀ W, Calls Tryd.prog 26 #[.string q, .agg #[.int .i64 k, .int .i64 n, .string s], .agg #[.int .i64 k', .int .i64 n', .string s']] W fun e w' => e = .returned (.agg #[.int .i64 rk, .int .i64 z, .string ⟨#[]⟩]) ∧ Below W.heap.size W w')) (hj : j < 5) (V : World) (hV : (K5 w b c j q k n k' n' s s') V) : wpAnyH Tryd.prog .any ops_nb9 Q (K5 w b c j q k n k' n' s s') 7 #[true, true, true, true, true, true, false, true, true, false, false, false, false, false, false] { tmps := #[.string op, .agg #[.int .i64 k, .int .i64 n, .string s], .agg #[.int .i64 k', .int .i64 n', .string s'], undef, .pointer (some ⟨b, 0, none⟩), .pointer (some ⟨b + 1, 0, none⟩), X6, .slice (some ⟨c, 0, none⟩) 5 5, .int .i64 j, .bool true, .bool false, X11, X12, X13, X14, X15, X16, X17, X18, X19, X20, X21, X22, X23, X24, X25, X26, .slice (some ⟨c, 0, none⟩) 5 5, .int .i64 j, .pointer (some ⟨c, j, none⟩), .string q, .agg #[.int .i64 k, .int .i64 n, .string s], .agg #[.int .i64 k', .int .i64 n', .string s'], X33, .slice (some ⟨c, 0, none⟩) 5 5, .int .i64 j, X36, X37, X38, X39, X40, X41], defers := [] } V := by
  refine wpAnyH_take (i := 9) (oi := { dst := some 36, op := Op.indexAddr 37 (Operand.tmp 34) (Operand.tmp 35), type := 0, pos := "law.go:67", after := #[{ on := 7, ground := Ground.data }, { on := 8, ground := Ground.data }], guard := none }) (v := .pointer (some ⟨c, j, none⟩)) rfl (by kernel_rfl) (by kernel_rfl) (by kernel_rfl) (fun c a w h => hQ c a _ _ w h) (Or.inl ⟨by kernel_rfl, ?_⟩) (by exact hV) ?_
  · intro U hS
    go_simp
    intro h
    omega
  exact nb9_9 Q hQ op q k n k' n' rk z s s' w b c j X6 X11 X12 X13 X14 X15 X16 X17 X18 X19 X20 X21 X22 X23 X24 X25 X26 X27 X28 X29 X30 X31 X32 X33 X34 X35 X36 X37 X38 X39 X40 X41 HR H1 G1 hj _ hV

set_option maxRecDepth 100000 in
set_option linter.unusedVariables false in
set_option maxHeartbeats 2000000 in
theorem nb9_7 (Q : Exit → Act → World → Prop) (hQ : ∀ c a (d : Nat) v w, Q (.panic c) (Act.put a (some d) v) w → Q (.panic c) a w) (op q : ByteArray) (k n k' n' rk z : Int) (s s' : ByteArray) (w : World) (b c j : Nat) (X6 X11 X12 X13 X14 X15 X16 X17 X18 X19 X20 X21 X22 X23 X24 X25 X26 X27 X28 X29 X30 X31 X32 X33 X34 X35 X36 X37 X38 X39 X40 X41 : Value) (HR : Hid (∀ act V, fin_nb9 op q k n k' n' rk z s s' w b c j X6 X11 X12 X13 X14 X15 X16 X17 X18 X19 X20 X21 X22 X23 X24 X25 X26 X27 X28 X29 X30 X31 X32 X33 X34 X35 X36 X37 X38 X39 X40 X41 act V → Q .normal act V)) (H1 : Hid (∀ W, Calls Tryd.prog 25 #[.string q, .agg #[.int .i64 k, .int .i64 n, .string s], .agg #[.int .i64 k', .int .i64 n', .string s']] W fun e w' => e = .returned (.agg #[.int .i64 rk, .int .i64 z, .string ⟨#[]⟩]) ∧ Below W.heap.size W w')) (G1 : Hid (∀ W, Calls Tryd.prog 26 #[.string q, .agg #[.int .i64 k, .int .i64 n, .string s], .agg #[.int .i64 k', .int .i64 n', .string s']] W fun e w' => e = .returned (.agg #[.int .i64 rk, .int .i64 z, .string ⟨#[]⟩]) ∧ Below W.heap.size W w')) (hj : j < 5) (V : World) (hV : (K5 w b c j q k n k' n' s s') V) : wpAnyH Tryd.prog .any ops_nb9 Q (K5 w b c j q k n k' n' s s') 8 #[true, true, true, true, true, true, false, true, false, false, false, false, false, false, false] { tmps := #[.string op, .agg #[.int .i64 k, .int .i64 n, .string s], .agg #[.int .i64 k', .int .i64 n', .string s'], undef, .pointer (some ⟨b, 0, none⟩), .pointer (some ⟨b + 1, 0, none⟩), X6, .slice (some ⟨c, 0, none⟩) 5 5, .int .i64 j, .bool true, .bool false, X11, X12, X13, X14, X15, X16, X17, X18, X19, X20, X21, X22, X23, X24, X25, X26, .slice (some ⟨c, 0, none⟩) 5 5, .int .i64 j, .pointer (some ⟨c, j, none⟩), .string q, .agg #[.int .i64 k, .int .i64 n, .string s], .agg #[.int .i64 k', .int .i64 n', .string s'], X33, .slice (some ⟨c, 0, none⟩) 5 5, X35, X36, X37, X38, X39, X40, X41], defers := [] } V := by
  refine wpAnyH_take (i := 8) (oi := { dst := some 35, op := Op.move (Operand.tmp 8), type := 3, pos := "law.go:67", after := #[], guard := none }) (v := .int .i64 j) rfl (by kernel_rfl) (by kernel_rfl) (by kernel_rfl) (fun c a w h => hQ c a _ _ w h) (Or.inl ⟨by kernel_rfl, ?_⟩) (by exact hV) ?_
  · intro U hS
    go_simp
  exact nb9_8 Q hQ op q k n k' n' rk z s s' w b c j X6 X11 X12 X13 X14 X15 X16 X17 X18 X19 X20 X21 X22 X23 X24 X25 X26 X27 X28 X29 X30 X31 X32 X33 X34 X35 X36 X37 X38 X39 X40 X41 HR H1 G1 hj _ hV

set_option maxRecDepth 100000 in
set_option linter.unusedVariables false in
set_option maxHeartbeats 2000000 in
theorem nb9_6 (Q : Exit → Act → World → Prop) (hQ : ∀ c a (d : Nat) v w, Q (.panic c) (Act.put a (some d) v) w → Q (.panic c) a w) (op q : ByteArray) (k n k' n' rk z : Int) (s s' : ByteArray) (w : World) (b c j : Nat) (X6 X11 X12 X13 X14 X15 X16 X17 X18 X19 X20 X21 X22 X23 X24 X25 X26 X27 X28 X29 X30 X31 X32 X33 X34 X35 X36 X37 X38 X39 X40 X41 : Value) (HR : Hid (∀ act V, fin_nb9 op q k n k' n' rk z s s' w b c j X6 X11 X12 X13 X14 X15 X16 X17 X18 X19 X20 X21 X22 X23 X24 X25 X26 X27 X28 X29 X30 X31 X32 X33 X34 X35 X36 X37 X38 X39 X40 X41 act V → Q .normal act V)) (H1 : Hid (∀ W, Calls Tryd.prog 25 #[.string q, .agg #[.int .i64 k, .int .i64 n, .string s], .agg #[.int .i64 k', .int .i64 n', .string s']] W fun e w' => e = .returned (.agg #[.int .i64 rk, .int .i64 z, .string ⟨#[]⟩]) ∧ Below W.heap.size W w')) (G1 : Hid (∀ W, Calls Tryd.prog 26 #[.string q, .agg #[.int .i64 k, .int .i64 n, .string s], .agg #[.int .i64 k', .int .i64 n', .string s']] W fun e w' => e = .returned (.agg #[.int .i64 rk, .int .i64 z, .string ⟨#[]⟩]) ∧ Below W.heap.size W w')) (hj : j < 5) (V : World) (hV : (K5 w b c j q k n k' n' s s') V) : wpAnyH Tryd.prog .any ops_nb9 Q (K5 w b c j q k n k' n' s s') 9 #[true, true, true, true, true, true, false, false, false, false, false, false, false, false, false] { tmps := #[.string op, .agg #[.int .i64 k, .int .i64 n, .string s], .agg #[.int .i64 k', .int .i64 n', .string s'], undef, .pointer (some ⟨b, 0, none⟩), .pointer (some ⟨b + 1, 0, none⟩), X6, .slice (some ⟨c, 0, none⟩) 5 5, .int .i64 j, .bool true, .bool false, X11, X12, X13, X14, X15, X16, X17, X18, X19, X20, X21, X22, X23, X24, X25, X26, .slice (some ⟨c, 0, none⟩) 5 5, .int .i64 j, .pointer (some ⟨c, j, none⟩), .string q, .agg #[.int .i64 k, .int .i64 n, .string s], .agg #[.int .i64 k', .int .i64 n', .string s'], X33, X34, X35, X36, X37, X38, X39, X40, X41], defers := [] } V := by
  refine wpAnyH_take (i := 7) (oi := { dst := some 34, op := Op.move (Operand.tmp 7), type := 37, pos := "law.go:67", after := #[], guard := none }) (v := .slice (some ⟨c, 0, none⟩) 5 5) rfl (by kernel_rfl) (by kernel_rfl) (by kernel_rfl) (fun c a w h => hQ c a _ _ w h) (Or.inl ⟨by kernel_rfl, ?_⟩) (by exact hV) ?_
  · intro U hS
    go_simp
  exact nb9_7 Q hQ op q k n k' n' rk z s s' w b c j X6 X11 X12 X13 X14 X15 X16 X17 X18 X19 X20 X21 X22 X23 X24 X25 X26 X27 X28 X29 X30 X31 X32 X33 X34 X35 X36 X37 X38 X39 X40 X41 HR H1 G1 hj _ hV

set_option maxRecDepth 100000 in
set_option linter.unusedVariables false in
set_option maxHeartbeats 2000000 in
theorem nb9_5 (Q : Exit → Act → World → Prop) (hQ : ∀ c a (d : Nat) v w, Q (.panic c) (Act.put a (some d) v) w → Q (.panic c) a w) (op q : ByteArray) (k n k' n' rk z : Int) (s s' : ByteArray) (w : World) (b c j : Nat) (X6 X11 X12 X13 X14 X15 X16 X17 X18 X19 X20 X21 X22 X23 X24 X25 X26 X27 X28 X29 X30 X31 X32 X33 X34 X35 X36 X37 X38 X39 X40 X41 : Value) (HR : Hid (∀ act V, fin_nb9 op q k n k' n' rk z s s' w b c j X6 X11 X12 X13 X14 X15 X16 X17 X18 X19 X20 X21 X22 X23 X24 X25 X26 X27 X28 X29 X30 X31 X32 X33 X34 X35 X36 X37 X38 X39 X40 X41 act V → Q .normal act V)) (H1 : Hid (∀ W, Calls Tryd.prog 25 #[.string q, .agg #[.int .i64 k, .int .i64 n, .string s], .agg #[.int .i64 k', .int .i64 n', .string s']] W fun e w' => e = .returned (.agg #[.int .i64 rk, .int .i64 z, .string ⟨#[]⟩]) ∧ Below W.heap.size W w')) (G1 : Hid (∀ W, Calls Tryd.prog 26 #[.string q, .agg #[.int .i64 k, .int .i64 n, .string s], .agg #[.int .i64 k', .int .i64 n', .string s']] W fun e w' => e = .returned (.agg #[.int .i64 rk, .int .i64 z, .string ⟨#[]⟩]) ∧ Below W.heap.size W w')) (hj : j < 5) (V : World) (hV : (K5 w b c j q k n k' n' s s') V) : wpAnyH Tryd.prog .any ops_nb9 Q (K5 w b c j q k n k' n' s s') 10 #[true, true, true, true, true, false, false, false, false, false, false, false, false, false, false] { tmps := #[.string op, .agg #[.int .i64 k, .int .i64 n, .string s], .agg #[.int .i64 k', .int .i64 n', .string s'], undef, .pointer (some ⟨b, 0, none⟩), .pointer (some ⟨b + 1, 0, none⟩), X6, .slice (some ⟨c, 0, none⟩) 5 5, .int .i64 j, .bool true, .bool false, X11, X12, X13, X14, X15, X16, X17, X18, X19, X20, X21, X22, X23, X24, X25, X26, .slice (some ⟨c, 0, none⟩) 5 5, .int .i64 j, .pointer (some ⟨c, j, none⟩), .string q, .agg #[.int .i64 k, .int .i64 n, .string s], X32, X33, X34, X35, X36, X37, X38, X39, X40, X41], defers := [] } V := by
  refine wpAnyH_take (i := 5) (oi := { dst := some 32, op := Op.load 23 (Operand.tmp 5), type := 23, pos := "law.go:67", after := #[], guard := none }) (v := .agg #[.int .i64 k', .int .i64 n', .string s']) rfl (by kernel_rfl) (by kernel_rfl) (by kernel_rfl) (fun c a w h => hQ c a _ _ w h) (Or.inl ⟨by kernel_rfl, ?_⟩) (by exact hV) ?_
  · intro U hS
    obtain ⟨_, _, p0, p1, p2, q0, q1, q2, r0⟩ := hS
    go_simp
  exact nb9_6 Q hQ op q k n k' n' rk z s s' w b c j X6 X11 X12 X13 X14 X15 X16 X17 X18 X19 X20 X21 X22 X23 X24 X25 X26 X27 X28 X29 X30 X31 X32 X33 X34 X35 X36 X37 X38 X39 X40 X41 HR H1 G1 hj _ hV

set_option maxRecDepth 100000 in
set_option linter.unusedVariables false in
set_option maxHeartbeats 2000000 in
theorem nb9_4 (Q : Exit → Act → World → Prop) (hQ : ∀ c a (d : Nat) v w, Q (.panic c) (Act.put a (some d) v) w → Q (.panic c) a w) (op q : ByteArray) (k n k' n' rk z : Int) (s s' : ByteArray) (w : World) (b c j : Nat) (X6 X11 X12 X13 X14 X15 X16 X17 X18 X19 X20 X21 X22 X23 X24 X25 X26 X27 X28 X29 X30 X31 X32 X33 X34 X35 X36 X37 X38 X39 X40 X41 : Value) (HR : Hid (∀ act V, fin_nb9 op q k n k' n' rk z s s' w b c j X6 X11 X12 X13 X14 X15 X16 X17 X18 X19 X20 X21 X22 X23 X24 X25 X26 X27 X28 X29 X30 X31 X32 X33 X34 X35 X36 X37 X38 X39 X40 X41 act V → Q .normal act V)) (H1 : Hid (∀ W, Calls Tryd.prog 25 #[.string q, .agg #[.int .i64 k, .int .i64 n, .string s], .agg #[.int .i64 k', .int .i64 n', .string s']] W fun e w' => e = .returned (.agg #[.int .i64 rk, .int .i64 z, .string ⟨#[]⟩]) ∧ Below W.heap.size W w')) (G1 : Hid (∀ W, Calls Tryd.prog 26 #[.string q, .agg #[.int .i64 k, .int .i64 n, .string s], .agg #[.int .i64 k', .int .i64 n', .string s']] W fun e w' => e = .returned (.agg #[.int .i64 rk, .int .i64 z, .string ⟨#[]⟩]) ∧ Below W.heap.size W w')) (hj : j < 5) (V : World) (hV : (K5 w b c j q k n k' n' s s') V) : wpAnyH Tryd.prog .any ops_nb9 Q (K5 w b c j q k n k' n' s s') 11 #[true, true, true, true, false, false, false, false, false, false, false, false, false, false, false] { tmps := #[.string op, .agg #[.int .i64 k, .int .i64 n, .string s], .agg #[.int .i64 k', .int .i64 n', .string s'], undef, .pointer (some ⟨b, 0, none⟩), .pointer (some ⟨b + 1, 0, none⟩), X6, .slice (some ⟨c, 0, none⟩) 5 5, .int .i64 j, .bool true, .bool false, X11, X12, X13, X14, X15, X16, X17, X18, X19, X20, X21, X22, X23, X24, X25, X26, .slice (some ⟨c, 0, none⟩) 5 5, .int .i64 j, .pointer (some ⟨c, j, none⟩), .string q, X31, X32, X33, X34, X35, X36, X37, X38, X39, X40, X41], defers := [] } V := by
  refine wpAnyH_take (i := 4) (oi := { dst := some 31, op := Op.load 23 (Operand.tmp 4), type := 23, pos := "law.go:67", after := #[], guard := none }) (v := .agg #[.int .i64 k, .int .i64 n, .string s]) rfl (by kernel_rfl) (by kernel_rfl) (by kernel_rfl) (fun c a w h => hQ c a _ _ w h) (Or.inl ⟨by kernel_rfl, ?_⟩) (by exact hV) ?_
  · intro U hS
    obtain ⟨_, _, p0, p1, p2, q0, q1, q2, r0⟩ := hS
    go_simp
  exact nb9_5 Q hQ op q k n k' n' rk z s s' w b c j X6 X11 X12 X13 X14 X15 X16 X17 X18 X19 X20 X21 X22 X23 X24 X25 X26 X27 X28 X29 X30 X31 X32 X33 X34 X35 X36 X37 X38 X39 X40 X41 HR H1 G1 hj _ hV

set_option maxRecDepth 100000 in
set_option linter.unusedVariables false in
set_option maxHeartbeats 2000000 in
theorem nb9_3 (Q : Exit → Act → World → Prop) (hQ : ∀ c a (d : Nat) v w, Q (.panic c) (Act.put a (some d) v) w → Q (.panic c) a w) (op q : ByteArray) (k n k' n' rk z : Int) (s s' : ByteArray) (w : World) (b c j : Nat) (X6 X11 X12 X13 X14 X15 X16 X17 X18 X19 X20 X21 X22 X23 X24 X25 X26 X27 X28 X29 X30 X31 X32 X33 X34 X35 X36 X37 X38 X39 X40 X41 : Value) (HR : Hid (∀ act V, fin_nb9 op q k n k' n' rk z s s' w b c j X6 X11 X12 X13 X14 X15 X16 X17 X18 X19 X20 X21 X22 X23 X24 X25 X26 X27 X28 X29 X30 X31 X32 X33 X34 X35 X36 X37 X38 X39 X40 X41 act V → Q .normal act V)) (H1 : Hid (∀ W, Calls Tryd.prog 25 #[.string q, .agg #[.int .i64 k, .int .i64 n, .string s], .agg #[.int .i64 k', .int .i64 n', .string s']] W fun e w' => e = .returned (.agg #[.int .i64 rk, .int .i64 z, .string ⟨#[]⟩]) ∧ Below W.heap.size W w')) (G1 : Hid (∀ W, Calls Tryd.prog 26 #[.string q, .agg #[.int .i64 k, .int .i64 n, .string s], .agg #[.int .i64 k', .int .i64 n', .string s']] W fun e w' => e = .returned (.agg #[.int .i64 rk, .int .i64 z, .string ⟨#[]⟩]) ∧ Below W.heap.size W w')) (hj : j < 5) (V : World) (hV : (K5 w b c j q k n k' n' s s') V) : wpAnyH Tryd.prog .any ops_nb9 Q (K5 w b c j q k n k' n' s s') 12 #[true, true, true, false, false, false, false, false, false, false, false, false, false, false, false] { tmps := #[.string op, .agg #[.int .i64 k, .int .i64 n, .string s], .agg #[.int .i64 k', .int .i64 n', .string s'], undef, .pointer (some ⟨b, 0, none⟩), .pointer (some ⟨b + 1, 0, none⟩), X6, .slice (some ⟨c, 0, none⟩) 5 5, .int .i64 j, .bool true, .bool false, X11, X12, X13, X14, X15, X16, X17, X18, X19, X20, X21, X22, X23, X24, X25, X26, .slice (some ⟨c, 0, none⟩) 5 5, .int .i64 j, .pointer (some ⟨c, j, none⟩), X30, X31, X32, X33, X34, X35, X36, X37, X38, X39, X40, X41], defers := [] } V := by
  refine wpAnyH_take (i := 3) (oi := { dst := some 30, op := Op.load 9 (Operand.tmp 29), type := 9, pos := "law.go:67", after := #[{ on := 2, ground := Ground.data }], guard := none }) (v := .string q) rfl (by kernel_rfl) (by kernel_rfl) (by kernel_rfl) (fun c a w h => hQ c a _ _ w h) (Or.inl ⟨by kernel_rfl, ?_⟩) (by exact hV) ?_
  · intro U hS
    obtain ⟨_, _, p0, p1, p2, q0, q1, q2, r0⟩ := hS
    go_simp
  exact nb9_4 Q hQ op q k n k' n' rk z s s' w b c j X6 X11 X12 X13 X14 X15 X16 X17 X18 X19 X20 X21 X22 X23 X24 X25 X26 X27 X28 X29 X30 X31 X32 X33 X34 X35 X36 X37 X38 X39 X40 X41 HR H1 G1 hj _ hV

set_option maxRecDepth 100000 in
set_option linter.unusedVariables false in
set_option maxHeartbeats 2000000 in
theorem nb9_2 (Q : Exit → Act → World → Prop) (hQ : ∀ c a (d : Nat) v w, Q (.panic c) (Act.put a (some d) v) w → Q (.panic c) a w) (op q : ByteArray) (k n k' n' rk z : Int) (s s' : ByteArray) (w : World) (b c j : Nat) (X6 X11 X12 X13 X14 X15 X16 X17 X18 X19 X20 X21 X22 X23 X24 X25 X26 X27 X28 X29 X30 X31 X32 X33 X34 X35 X36 X37 X38 X39 X40 X41 : Value) (HR : Hid (∀ act V, fin_nb9 op q k n k' n' rk z s s' w b c j X6 X11 X12 X13 X14 X15 X16 X17 X18 X19 X20 X21 X22 X23 X24 X25 X26 X27 X28 X29 X30 X31 X32 X33 X34 X35 X36 X37 X38 X39 X40 X41 act V → Q .normal act V)) (H1 : Hid (∀ W, Calls Tryd.prog 25 #[.string q, .agg #[.int .i64 k, .int .i64 n, .string s], .agg #[.int .i64 k', .int .i64 n', .string s']] W fun e w' => e = .returned (.agg #[.int .i64 rk, .int .i64 z, .string ⟨#[]⟩]) ∧ Below W.heap.size W w')) (G1 : Hid (∀ W, Calls Tryd.prog 26 #[.string q, .agg #[.int .i64 k, .int .i64 n, .string s], .agg #[.int .i64 k', .int .i64 n', .string s']] W fun e w' => e = .returned (.agg #[.int .i64 rk, .int .i64 z, .string ⟨#[]⟩]) ∧ Below W.heap.size W w')) (hj : j < 5) (V : World) (hV : (K5 w b c j q k n k' n' s s') V) : wpAnyH Tryd.prog .any ops_nb9 Q (K5 w b c j q k n k' n' s s') 13 #[true, true, false, false, false, false, false, false, false, false, false, false, false, false, false] { tmps := #[.string op, .agg #[.int .i64 k, .int .i64 n, .string s], .agg #[.int .i64 k', .int .i64 n', .string s'], undef, .pointer (some ⟨b, 0, none⟩), .pointer (some ⟨b + 1, 0, none⟩), X6, .slice (some ⟨c, 0, none⟩) 5 5, .int .i64 j, .bool true, .bool false, X11, X12, X13, X14, X15, X16, X17, X18, X19, X20, X21, X22, X23, X24, X25, X26, .slice (some ⟨c, 0, none⟩) 5 5, .int .i64 j, X29, X30, X31, X32, X33, X34, X35, X36, X37, X38, X39, X40, X41], defers := [] } V := by
  refine wpAnyH_take (i := 2) (oi := { dst := some 29, op := Op.indexAddr 37 (Operand.tmp 27) (Operand.tmp 28), type := 0, pos := "law.go:67", after := #[{ on := 0, ground := Ground.data }, { on := 1, ground := Ground.data }], guard := none }) (v := .pointer (some ⟨c, j, none⟩)) rfl (by kernel_rfl) (by kernel_rfl) (by kernel_rfl) (fun c a w h => hQ c a _ _ w h) (Or.inl ⟨by kernel_rfl, ?_⟩) (by exact hV) ?_
  · intro U hS
    go_simp
    intro h
    omega
  exact nb9_3 Q hQ op q k n k' n' rk z s s' w b c j X6 X11 X12 X13 X14 X15 X16 X17 X18 X19 X20 X21 X22 X23 X24 X25 X26 X27 X28 X29 X30 X31 X32 X33 X34 X35 X36 X37 X38 X39 X40 X41 HR H1 G1 hj _ hV

set_option maxRecDepth 100000 in
set_option linter.unusedVariables false in
set_option maxHeartbeats 2000000 in
theorem nb9_1 (Q : Exit → Act → World → Prop) (hQ : ∀ c a (d : Nat) v w, Q (.panic c) (Act.put a (some d) v) w → Q (.panic c) a w) (op q : ByteArray) (k n k' n' rk z : Int) (s s' : ByteArray) (w : World) (b c j : Nat) (X6 X11 X12 X13 X14 X15 X16 X17 X18 X19 X20 X21 X22 X23 X24 X25 X26 X27 X28 X29 X30 X31 X32 X33 X34 X35 X36 X37 X38 X39 X40 X41 : Value) (HR : Hid (∀ act V, fin_nb9 op q k n k' n' rk z s s' w b c j X6 X11 X12 X13 X14 X15 X16 X17 X18 X19 X20 X21 X22 X23 X24 X25 X26 X27 X28 X29 X30 X31 X32 X33 X34 X35 X36 X37 X38 X39 X40 X41 act V → Q .normal act V)) (H1 : Hid (∀ W, Calls Tryd.prog 25 #[.string q, .agg #[.int .i64 k, .int .i64 n, .string s], .agg #[.int .i64 k', .int .i64 n', .string s']] W fun e w' => e = .returned (.agg #[.int .i64 rk, .int .i64 z, .string ⟨#[]⟩]) ∧ Below W.heap.size W w')) (G1 : Hid (∀ W, Calls Tryd.prog 26 #[.string q, .agg #[.int .i64 k, .int .i64 n, .string s], .agg #[.int .i64 k', .int .i64 n', .string s']] W fun e w' => e = .returned (.agg #[.int .i64 rk, .int .i64 z, .string ⟨#[]⟩]) ∧ Below W.heap.size W w')) (hj : j < 5) (V : World) (hV : (K5 w b c j q k n k' n' s s') V) : wpAnyH Tryd.prog .any ops_nb9 Q (K5 w b c j q k n k' n' s s') 14 #[true, false, false, false, false, false, false, false, false, false, false, false, false, false, false] { tmps := #[.string op, .agg #[.int .i64 k, .int .i64 n, .string s], .agg #[.int .i64 k', .int .i64 n', .string s'], undef, .pointer (some ⟨b, 0, none⟩), .pointer (some ⟨b + 1, 0, none⟩), X6, .slice (some ⟨c, 0, none⟩) 5 5, .int .i64 j, .bool true, .bool false, X11, X12, X13, X14, X15, X16, X17, X18, X19, X20, X21, X22, X23, X24, X25, X26, .slice (some ⟨c, 0, none⟩) 5 5, X28, X29, X30, X31, X32, X33, X34, X35, X36, X37, X38, X39, X40, X41], defers := [] } V := by
  refine wpAnyH_take (i := 1) (oi := { dst := some 28, op := Op.move (Operand.tmp 8), type := 3, pos := "law.go:67", after := #[], guard := none }) (v := .int .i64 j) rfl (by kernel_rfl) (by kernel_rfl) (by kernel_rfl) (fun c a w h => hQ c a _ _ w h) (Or.inl ⟨by kernel_rfl, ?_⟩) (by exact hV) ?_
  · intro U hS
    go_simp
  exact nb9_2 Q hQ op q k n k' n' rk z s s' w b c j X6 X11 X12 X13 X14 X15 X16 X17 X18 X19 X20 X21 X22 X23 X24 X25 X26 X27 X28 X29 X30 X31 X32 X33 X34 X35 X36 X37 X38 X39 X40 X41 HR H1 G1 hj _ hV

set_option maxRecDepth 100000 in
set_option linter.unusedVariables false in
set_option maxHeartbeats 2000000 in
theorem nb9_0 (Q : Exit → Act → World → Prop) (hQ : ∀ c a (d : Nat) v w, Q (.panic c) (Act.put a (some d) v) w → Q (.panic c) a w) (op q : ByteArray) (k n k' n' rk z : Int) (s s' : ByteArray) (w : World) (b c j : Nat) (X6 X11 X12 X13 X14 X15 X16 X17 X18 X19 X20 X21 X22 X23 X24 X25 X26 X27 X28 X29 X30 X31 X32 X33 X34 X35 X36 X37 X38 X39 X40 X41 : Value) (HR : Hid (∀ act V, fin_nb9 op q k n k' n' rk z s s' w b c j X6 X11 X12 X13 X14 X15 X16 X17 X18 X19 X20 X21 X22 X23 X24 X25 X26 X27 X28 X29 X30 X31 X32 X33 X34 X35 X36 X37 X38 X39 X40 X41 act V → Q .normal act V)) (H1 : Hid (∀ W, Calls Tryd.prog 25 #[.string q, .agg #[.int .i64 k, .int .i64 n, .string s], .agg #[.int .i64 k', .int .i64 n', .string s']] W fun e w' => e = .returned (.agg #[.int .i64 rk, .int .i64 z, .string ⟨#[]⟩]) ∧ Below W.heap.size W w')) (G1 : Hid (∀ W, Calls Tryd.prog 26 #[.string q, .agg #[.int .i64 k, .int .i64 n, .string s], .agg #[.int .i64 k', .int .i64 n', .string s']] W fun e w' => e = .returned (.agg #[.int .i64 rk, .int .i64 z, .string ⟨#[]⟩]) ∧ Below W.heap.size W w')) (hj : j < 5) (V : World) (hV : (K5 w b c j q k n k' n' s s') V) : wpAnyH Tryd.prog .any ops_nb9 Q (K5 w b c j q k n k' n' s s') 15 #[false, false, false, false, false, false, false, false, false, false, false, false, false, false, false] { tmps := #[.string op, .agg #[.int .i64 k, .int .i64 n, .string s], .agg #[.int .i64 k', .int .i64 n', .string s'], undef, .pointer (some ⟨b, 0, none⟩), .pointer (some ⟨b + 1, 0, none⟩), X6, .slice (some ⟨c, 0, none⟩) 5 5, .int .i64 j, .bool true, .bool false, X11, X12, X13, X14, X15, X16, X17, X18, X19, X20, X21, X22, X23, X24, X25, X26, X27, X28, X29, X30, X31, X32, X33, X34, X35, X36, X37, X38, X39, X40, X41], defers := [] } V := by
  refine wpAnyH_take (i := 0) (oi := { dst := some 27, op := Op.move (Operand.tmp 7), type := 37, pos := "law.go:67", after := #[], guard := none }) (v := .slice (some ⟨c, 0, none⟩) 5 5) rfl (by kernel_rfl) (by kernel_rfl) (by kernel_rfl) (fun c a w h => hQ c a _ _ w h) (Or.inl ⟨by kernel_rfl, ?_⟩) (by exact hV) ?_
  · intro U hS
    go_simp
  exact nb9_1 Q hQ op q k n k' n' rk z s s' w b c j X6 X11 X12 X13 X14 X15 X16 X17 X18 X19 X20 X21 X22 X23 X24 X25 X26 X27 X28 X29 X30 X31 X32 X33 X34 X35 X36 X37 X38 X39 X40 X41 HR H1 G1 hj _ hV

set_option maxRecDepth 100000 in
set_option linter.unusedVariables false in
set_option maxHeartbeats 2000000 in
theorem reg_nb9 (Q : Exit → Act → World → Prop) (hQ : ∀ c a (d : Nat) v w, Q (.panic c) (Act.put a (some d) v) w → Q (.panic c) a w) (op q : ByteArray) (k n k' n' rk z : Int) (s s' : ByteArray) (w : World) (b c j : Nat) (X6 X11 X12 X13 X14 X15 X16 X17 X18 X19 X20 X21 X22 X23 X24 X25 X26 X27 X28 X29 X30 X31 X32 X33 X34 X35 X36 X37 X38 X39 X40 X41 : Value) (HR : Hid (∀ act V, fin_nb9 op q k n k' n' rk z s s' w b c j X6 X11 X12 X13 X14 X15 X16 X17 X18 X19 X20 X21 X22 X23 X24 X25 X26 X27 X28 X29 X30 X31 X32 X33 X34 X35 X36 X37 X38 X39 X40 X41 act V → Q .normal act V)) (H1 : Hid (∀ W, Calls Tryd.prog 25 #[.string q, .agg #[.int .i64 k, .int .i64 n, .string s], .agg #[.int .i64 k', .int .i64 n', .string s']] W fun e w' => e = .returned (.agg #[.int .i64 rk, .int .i64 z, .string ⟨#[]⟩]) ∧ Below W.heap.size W w')) (G1 : Hid (∀ W, Calls Tryd.prog 26 #[.string q, .agg #[.int .i64 k, .int .i64 n, .string s], .agg #[.int .i64 k', .int .i64 n', .string s']] W fun e w' => e = .returned (.agg #[.int .i64 rk, .int .i64 z, .string ⟨#[]⟩]) ∧ Below W.heap.size W w')) (hj : j < 5) (W : World) (hW : (K5 w b c j q k n k' n' s s') W.drew) : Code.wp Tryd.prog (Code.region 9 ops_nb9 true) Q { tmps := #[.string op, .agg #[.int .i64 k, .int .i64 n, .string s], .agg #[.int .i64 k', .int .i64 n', .string s'], undef, .pointer (some ⟨b, 0, none⟩), .pointer (some ⟨b + 1, 0, none⟩), X6, .slice (some ⟨c, 0, none⟩) 5 5, .int .i64 j, .bool true, .bool false, X11, X12, X13, X14, X15, X16, X17, X18, X19, X20, X21, X22, X23, X24, X25, X26, X27, X28, X29, X30, X31, X32, X33, X34, X35, X36, X37, X38, X39, X40, X41], defers := [] } W := by
  refine wp_region_held_drew (S := (K5 w b c j q k n k' n' s s')) (by kernel_rfl) (by exact hW) (fun hV => ?_)
  exact nb9_0 Q hQ op q k n k' n' rk z s s' w b c j X6 X11 X12 X13 X14 X15 X16 X17 X18 X19 X20 X21 X22 X23 X24 X25 X26 X27 X28 X29 X30 X31 X32 X33 X34 X35 X36 X37 X38 X39 X40 X41 HR H1 G1 hj _ hV

theorem both_at (j : Nat) (k n k' n' : Int) (s s' : ByteArray) : BothBits (opL j) k n k' n' s s' := by
  match j with
  | 0 => exact both_and k n k' n' s s'
  | 1 => exact both_or k n k' n' s s'
  | 2 => exact both_xor k n k' n' s s'
  | 3 => exact both_shl k n k' n' s s'
  | _ + 4 => exact both_shr k n k' n' s s'
theorem both_any (op : ByteArray) (k n k' n' : Int) (s s' : ByteArray) : BothBits op k n k' n' s s' := by
  have e : ∀ l : List UInt8, op.toList = l → op = ⟨l.toArray⟩ := by
    intro l h
    rw [ByteArray.toList_eq] at h
    cases op with
    | mk d => subst h; rfl
  by_cases h1 : op.toList = [38]
  · rw [e _ h1]; exact both_and k n k' n' s s'
  · by_cases h2 : op.toList = [124]
    · rw [e _ h2]; exact both_or k n k' n' s s'
    · by_cases h3 : op.toList = [94]
      · rw [e _ h3]; exact both_xor k n k' n' s s'
      · by_cases h4 : op.toList = [60, 60]
        · rw [e _ h4]; exact both_shl k n k' n' s s'
        · by_cases h5 : op.toList = [62, 62]
          · rw [e _ h5]; exact both_shr k n k' n' s s'
          · exact both_none op k n k' n' s s' h1 h2 h3 h4 h5

set_option maxRecDepth 100000 in
set_option maxHeartbeats 4000000 in
theorem bits_any (op : ByteArray) (k n : Int) (s : ByteArray) (k' n' : Int) (s' : ByteArray) (w : World) (ht : Tab w) : Calls Tryd.prog 6 #[.string op, .agg #[.int .i64 k, .int .i64 n, .string s], .agg #[.int .i64 k', .int .i64 n', .string s']] w fun e w' => e = .returned (.bool true) ∧ Below w.heap.size w w' := by
  obtain ⟨rk, z, h1, g1⟩ := both_any op k n k' n' s s'
  have H1 := Lib.hid h1
  have G1 := Lib.hid g1
  clear h1 g1
  have HB := Lib.hid (fun j => both_at j k n k' n' s s')
  go_enter Tryd.func6, Tryd.ntmps6
  go_wp2_with fail
  refine (awake_any _ (tab_grown ht (bel2 w _ _))).mono ?_
  rintro e w1 ⟨rfl, hb⟩
  have b1 : Below w.heap.size w w1 := thr (bel2 w _ _) hb (by simp <;> omega)
  have oa := kept hb (by simp <;> omega) (old1 w _ _)
  have ob := kept hb (by simp) (blk1 w _ _)
  clear hb ht
  go_wp2_with fail
  refine cutQ (fin_nb3 op k n k' n' rk z s s' w w.heap.size) ?_ (fun hR => reg_nb3 _ (fun _ _ _ _ _ h => h) op k n k' n' rk z s s' w w.heap.size (Lib.hid hR) H1 G1 w1 (k3_of b1.drew oa ob))
  rintro a U ⟨rfl, hU⟩
  clear b1 oa ob H1 G1
  obtain ⟨BU, ⟨f, f'⟩, _⟩ := hU
  have KI : Hid (K5 w w.heap.size U.heap.size 0 (opL 0) k n k' n' s s' (U.alloc (.cells opC 9 (0, 0)))) := Lib.hid (k5_of (BU.alloc BU.size _) ((heap_alloc_old U _ (blk_lt f)).trans f) ((heap_alloc_old U _ (blk_lt f')).trans f') (heap_alloc_new U _) (by omega) _ rfl)
  clear BU f f'
  obtain ⟨c, hc⟩ : ∃ c, c = U.heap.size := ⟨_, rfl⟩
  rw [← hc] at KI
  have HC := Lib.hid hc
  clear hc
  go_wp2_with fail
  rw [← HC.out]
  clear HC
  go_loopw [8] (fun v wr => ∃ j : Nat, j ≤ 5 ∧ v = .int .i64 j ∧ K5 w w.heap.size c 0 (opL 0) k n k' n' s s' wr) (fun v _ => 5 - (intOf v).toNat)
  case atStart => exact ⟨0, by omega, by go_num, KI.out⟩
  case round =>
    obtain ⟨j, hj, rfl, hI⟩ := hrel
    clear KI
    obtain ⟨BU, ⟨f, f', g⟩, _⟩ := hI
    by_cases hj5 : j < 5
    · obtain ⟨rk2, z2, h2, g2⟩ := HB.out j
      have H2 := Lib.hid h2
      have G2 := Lib.hid g2
      clear h2 g2
      obtain ⟨q, hq⟩ : ∃ q, q = opL j := ⟨_, rfl⟩
      rw [← hq] at H2 G2
      have HK := Lib.hid (k5_of (j := j) (BU.drew) f f' g hj5 q hq)
      clear BU f f' g hq
      go_wp2_with fail
      refine cutQ (fin_nb9 op q k n k' n' rk2 z2 s s' w w.heap.size c j _ _ _ _ _ _ _ _ _ _ _ _ _ _ _ _ _ _ _ _ _ _ _ _ _ _ _ _ _ _ _ _) ?_ (fun hR => reg_nb9 _ (fun _ _ _ _ _ h => h) op q k n k' n' rk2 z2 s s' w w.heap.size c j _ _ _ _ _ _ _ _ _ _ _ _ _ _ _ _ _ _ _ _ _ _ _ _ _ _ _ _ _ _ _ _ (Lib.hid hR) H2 G2 hj5 _ HK.out)
      rintro a V ⟨rfl, hV⟩
      clear H2 G2 HK HB
      obtain ⟨BV, ⟨f, f', g⟩, _⟩ := hV
      have HK := Lib.hid (k5_of (j := 0) BV f f' g (by omega) _ rfl)
      clear BV f f' g
      go_wp2
      go_roundw
      case rel => exact ⟨j + 1, by omega, by go_num, HK.out⟩
      case measure => simp [intOf]; omega
    · have hB := Lib.hid BU
      clear BU f f' g HB
      go_wp2
      go_ret
      exact ⟨rfl, hB.out⟩
end Go.Proofs.YtokpmpmlbmpnmaaDoor
