/-
  The law TreeDumps: the region that cuts both trees and lays each back, in every order.
-/
import Derived.Test.YtppliplalfpmaaaDoorCut2
import Derived.Test.YtppliplalfpmaaaDoorAwake
namespace Go.Proofs.YtppliplalfpmaaaDoor
open Go.RowKit


/-- blocks besides the two variables -/
def NB (bA bB : Nat) : Nat → Prop := fun b => b ≠ bA ∧ b ≠ bB
theorem nb_new {V v1 : World} {bA bB : Nat} {t : Tr} {k : Value} (h : TIn v1 (Fresh V) t k) (hA : bA < V.heap.size) (hB : bB < V.heap.size) : TIn v1 (NB bA bB) t k :=
  tin_mono h (fun b _ hs => by have h2 : V.heap.size ≤ b := hs; exact ⟨by omega, by omega⟩)
theorem c_set6 {W : World} {b : Nat} {T : TypeId} {y0 y1 y2 y3 y4 y5 : Value} (x0 x1 x2 x3 x4 x5 : Value) (h : W.heap[b]? = some (.cells #[y0, y1, y2, y3, y4, y5] T (0, 0))) : (st6 W b 0 x0 x1 x2 x3 x4 x5).heap[b]? = some (.cells #[x0, x1, x2, x3, x4, x5] T (0, 0)) :=
  c_one 5 x5 (c_one 4 x4 (c_one 3 x3 (c_one 2 x2 (c_one 1 x1 (c_one 0 x0 h)))))
def opsD : Array Oper := #[{ dst := some 11, op := Op.load 24 (Operand.tmp 3), type := 24, pos := "law.go:116", after := #[], guard := none }, { dst := some 12, op := Op.call { callee := Callee.value (Operand.func 7), args := #[Operand.tmp 11], argTypes := #[24] }, type := 24, pos := "law.go:116", after := #[{ on := 0, ground := Ground.data }], guard := none }, { dst := some 13, op := Op.load 24 (Operand.tmp 4), type := 24, pos := "law.go:116", after := #[], guard := none }, { dst := some 14, op := Op.call { callee := Callee.value (Operand.func 7), args := #[Operand.tmp 13], argTypes := #[24] }, type := 24, pos := "law.go:116", after := #[{ on := 2, ground := Ground.data }, { on := 1, ground := Ground.chain }], guard := none }, { dst := none, op := Op.store 24 (Operand.tmp 3) (Operand.tmp 12), type := 0, pos := "law.go:116", after := #[{ on := 1, ground := Ground.data }, { on := 3, ground := Ground.chain }, { on := 0, ground := Ground.phase }, { on := 1, ground := Ground.phase }, { on := 2, ground := Ground.textOnly Departure.lateStores }, { on := 3, ground := Ground.textOnly Departure.lateStoresUnsure }], guard := none }, { dst := none, op := Op.store 24 (Operand.tmp 4) (Operand.tmp 14), type := 0, pos := "law.go:116", after := #[{ on := 3, ground := Ground.data }, { on := 4, ground := Ground.chain }, { on := 0, ground := Ground.phase }, { on := 1, ground := Ground.phase }, { on := 2, ground := Ground.phase }, { on := 3, ground := Ground.phase }, { on := 4, ground := Ground.phase }], guard := none }]
def R3 (X0 X1 X2 X5 X7 X8 : Value) (x y : Tr) (xo yo : Option Addr) (xc yc : Nat) (w : World) (bA bB : Nat) : Act → World → Prop := fun a V => ∃ (t u : Tr) (o : Option Addr) (c : Nat) (p : Option Addr) (d : Nat), a = { tmps := #[X0, X1, X2, .pointer (some ⟨bA, 0, none⟩), .pointer (some ⟨bB, 0, none⟩), X5, .bool false, X7, X8, .bool true, .bool false, .agg #[.int .i64 x.op, .int .i64 x.a, .int .i64 x.n, .int .i64 x.m, .string x.s, .slice xo x.ks.length xc], .agg #[.int .i64 t.op, .int .i64 t.a, .int .i64 t.n, .int .i64 t.m, .string t.s, .slice o t.ks.length c], .agg #[.int .i64 y.op, .int .i64 y.a, .int .i64 y.n, .int .i64 y.m, .string y.s, .slice yo y.ks.length yc], .agg #[.int .i64 u.op, .int .i64 u.a, .int .i64 u.n, .int .i64 u.m, .string u.s, .slice p u.ks.length d], undef, undef, undef, undef, undef, undef, undef, undef, undef, undef, undef, undef, undef, undef, undef, undef, undef, undef, undef, undef, undef, undef, undef, undef, undef, undef, undef, undef, undef, undef, undef, undef, undef, undef, undef, undef, undef, undef, undef], defers := [] } ∧ Below w.heap.size w V ∧ V.heap[bA]? = some (.cells #[.int .i64 t.op, .int .i64 t.a, .int .i64 t.n, .int .i64 t.m, .string t.s, .slice o t.ks.length c] 24 (0, 0)) ∧ V.heap[bB]? = some (.cells #[.int .i64 u.op, .int .i64 u.a, .int .i64 u.n, .int .i64 u.m, .string u.s, .slice p u.ks.length d] 24 (0, 0)) ∧ TIn V (NB bA bB) t (.slice o t.ks.length c) ∧ TIn V (NB bA bB) u (.slice p u.ks.length d) ∧ Hid (t.cnt ≤ 1501 ∧ Q t) ∧ Hid (u.cnt ≤ 1501 ∧ Q u)

set_option linter.unusedVariables false in
set_option maxRecDepth 100000 in
set_option maxHeartbeats 2000000 in
theorem dr_012345 (Q9 : Exit → Act → World → Prop) (X0 X1 X2 X5 X7 X8 : Value) (x y : Tr) (xo yo : Option Addr) (xc yc : Nat) (w : World) (bA bB : Nat) (lA : w.heap.size ≤ bA) (lB : w.heap.size ≤ bB) (nAB : bA ≠ bB) (HR : Hid (∀ a V, R3 X0 X1 X2 X5 X7 X8 x y xo yo xc yc w bA bB a V → Q9 .normal a V)) (HF : Hid (∀ W, Below w.heap.size w W → Calls Tryd.prog 7 #[.agg #[.int .i64 x.op, .int .i64 x.a, .int .i64 x.n, .int .i64 x.m, .string x.s, .slice xo x.ks.length xc]] W (FewPost2 W))) (HG : Hid (∀ W, Below w.heap.size w W → Calls Tryd.prog 7 #[.agg #[.int .i64 y.op, .int .i64 y.a, .int .i64 y.n, .int .i64 y.m, .string y.s, .slice yo y.ks.length yc]] W (FewPost2 W))) (t : Tr) (o : Option Addr) (c : Nat) (u : Tr) (p : Option Addr) (d : Nat) (V : World) (BV : Below w.heap.size w V) (fA : V.heap[bA]? = some (.cells #[.int .i64 t.op, .int .i64 t.a, .int .i64 t.n, .int .i64 t.m, .string t.s, .slice o t.ks.length c] 24 (0, 0))) (fB : V.heap[bB]? = some (.cells #[.int .i64 u.op, .int .i64 u.a, .int .i64 u.n, .int .i64 u.m, .string u.s, .slice p u.ks.length d] 24 (0, 0))) (tt : TIn V (NB bA bB) t (.slice o t.ks.length c)) (ct : Hid (t.cnt ≤ 1501 ∧ Q t)) (tu : TIn V (NB bA bB) u (.slice p u.ks.length d)) (cu : Hid (u.cnt ≤ 1501 ∧ Q u)) : wpAnyH Tryd.prog .any opsD Q9 (fun _ => True) 0 #[true, true, true, true, true, true] { tmps := #[X0, X1, X2, .pointer (some ⟨bA, 0, none⟩), .pointer (some ⟨bB, 0, none⟩), X5, .bool false, X7, X8, .bool true, .bool false, .agg #[.int .i64 x.op, .int .i64 x.a, .int .i64 x.n, .int .i64 x.m, .string x.s, .slice xo x.ks.length xc], .agg #[.int .i64 t.op, .int .i64 t.a, .int .i64 t.n, .int .i64 t.m, .string t.s, .slice o t.ks.length c], .agg #[.int .i64 y.op, .int .i64 y.a, .int .i64 y.n, .int .i64 y.m, .string y.s, .slice yo y.ks.length yc], .agg #[.int .i64 u.op, .int .i64 u.a, .int .i64 u.n, .int .i64 u.m, .string u.s, .slice p u.ks.length d], undef, undef, undef, undef, undef, undef, undef, undef, undef, undef, undef, undef, undef, undef, undef, undef, undef, undef, undef, undef, undef, undef, undef, undef, undef, undef, undef, undef, undef, undef, undef, undef, undef, undef, undef, undef, undef, undef, undef], defers := [] } V := by
  refine wpAnyH_done (by kernel_rfl) ?_ _
  exact HR.out _ _ ⟨t, u, o, c, p, d, rfl, BV, fA, fB, tt, tu, ct, cu⟩

set_option linter.unusedVariables false in
set_option maxRecDepth 100000 in
set_option maxHeartbeats 2000000 in
theorem dr_01234 (Q9 : Exit → Act → World → Prop) (X0 X1 X2 X5 X7 X8 : Value) (x y : Tr) (xo yo : Option Addr) (xc yc : Nat) (w : World) (bA bB : Nat) (lA : w.heap.size ≤ bA) (lB : w.heap.size ≤ bB) (nAB : bA ≠ bB) (HR : Hid (∀ a V, R3 X0 X1 X2 X5 X7 X8 x y xo yo xc yc w bA bB a V → Q9 .normal a V)) (HF : Hid (∀ W, Below w.heap.size w W → Calls Tryd.prog 7 #[.agg #[.int .i64 x.op, .int .i64 x.a, .int .i64 x.n, .int .i64 x.m, .string x.s, .slice xo x.ks.length xc]] W (FewPost2 W))) (HG : Hid (∀ W, Below w.heap.size w W → Calls Tryd.prog 7 #[.agg #[.int .i64 y.op, .int .i64 y.a, .int .i64 y.n, .int .i64 y.m, .string y.s, .slice yo y.ks.length yc]] W (FewPost2 W))) (t : Tr) (o : Option Addr) (c : Nat) (u : Tr) (p : Option Addr) (d : Nat) (V : World) (BV : Below w.heap.size w V) (fA : V.heap[bA]? = some (.cells #[.int .i64 t.op, .int .i64 t.a, .int .i64 t.n, .int .i64 t.m, .string t.s, .slice o t.ks.length c] 24 (0, 0))) (fB : V.heap[bB]? = some (.cells #[.int .i64 y.op, .int .i64 y.a, .int .i64 y.n, .int .i64 y.m, .string y.s, .slice yo y.ks.length yc] 24 (0, 0))) (tt : TIn V (NB bA bB) t (.slice o t.ks.length c)) (ct : Hid (t.cnt ≤ 1501 ∧ Q t)) (tu : TIn V (NB bA bB) u (.slice p u.ks.length d)) (cu : Hid (u.cnt ≤ 1501 ∧ Q u)) : wpAnyH Tryd.prog .any opsD Q9 (fun _ => True) 1 #[true, true, true, true, true, false] { tmps := #[X0, X1, X2, .pointer (some ⟨bA, 0, none⟩), .pointer (some ⟨bB, 0, none⟩), X5, .bool false, X7, X8, .bool true, .bool false, .agg #[.int .i64 x.op, .int .i64 x.a, .int .i64 x.n, .int .i64 x.m, .string x.s, .slice xo x.ks.length xc], .agg #[.int .i64 t.op, .int .i64 t.a, .int .i64 t.n, .int .i64 t.m, .string t.s, .slice o t.ks.length c], .agg #[.int .i64 y.op, .int .i64 y.a, .int .i64 y.n, .int .i64 y.m, .string y.s, .slice yo y.ks.length yc], .agg #[.int .i64 u.op, .int .i64 u.a, .int .i64 u.n, .int .i64 u.m, .string u.s, .slice p u.ks.length d], undef, undef, undef, undef, undef, undef, undef, undef, undef, undef, undef, undef, undef, undef, undef, undef, undef, undef, undef, undef, undef, undef, undef, undef, undef, undef, undef, undef, undef, undef, undef, undef, undef, undef, undef, undef, undef, undef, undef], defers := [] } V := by
  refine wpAnyH_ready (rs := [5]) (by kernel_rfl) (by simp) ?_
  refine AllReadyH.cons (o := { dst := none, op := Op.store 24 (Operand.tmp 4) (Operand.tmp 14), type := 0, pos := "law.go:116", after := #[{ on := 3, ground := Ground.data }, { on := 4, ground := Ground.chain }, { on := 0, ground := Ground.phase }, { on := 1, ground := Ground.phase }, { on := 2, ground := Ground.phase }, { on := 3, ground := Ground.phase }, { on := 4, ground := Ground.phase }], guard := none }) rfl (fun K hK => ?_) ?_
  · replace hK := Lib.hid hK
    obtain ⟨⟨q0, q1, q2, q3, q4, q5⟩, ⟨z0, z1, z2, z3, z4, z5⟩, _⟩ := c_six fB
    go_simp
    obtain ⟨v1, e1⟩ : ∃ U, U = st6 V bB 0 (.int .i64 u.op) (.int .i64 u.a) (.int .i64 u.n) (.int .i64 u.m) (.string u.s) (.slice p u.ks.length d) := ⟨_, rfl⟩
    have BV1 : Below w.heap.size w v1 := by rw [e1]; exact c_st6 BV lB
    have hgr : V.grownBy v1 (some bB) := by rw [e1]; exact st6_grown _ _ _ _ _ _ _ _ _
    have fB1 := by have h := fB; exact c_set6 (.int .i64 u.op) (.int .i64 u.a) (.int .i64 u.n) (.int .i64 u.m) (.string u.s) (.slice p u.ks.length d) h
    rw [← e1] at fB1
    have fA1 : v1.heap[bA]? = some (.cells #[.int .i64 t.op, .int .i64 t.a, .int .i64 t.n, .int .i64 t.m, .string t.s, .slice o t.ks.length c] 24 (0, 0)) := by rw [e1]; exact (st6_heap _ _ _ _ _ _ _ _ _ _ (by omega)).trans fA
    have tt1 : TIn v1 (NB bA bB) t (.slice o t.ks.length c) := tin_grown tt hgr (fun b _ hs e => hs.2 (Option.some.inj e))
    have tu1 : TIn v1 (NB bA bB) u (.slice p u.ks.length d) := tin_grown tu hgr (fun b _ hs e => hs.2 (Option.some.inj e))
    change K _ (st6 V bB 0 (.int .i64 u.op) (.int .i64 u.a) (.int .i64 u.n) (.int .i64 u.m) (.string u.s) (.slice p u.ks.length d))
    rw [← e1]
    refine hK.out _ _ trivial (fun _ => ?_)
    exact dr_012345 Q9 X0 X1 X2 X5 X7 X8 x y xo yo xc yc w bA bB lA lB nAB HR HF HG t o c u p d v1 BV1 fA1 fB1 tt1 ct tu1 cu
  · exact AllReadyH.nil

set_option linter.unusedVariables false in
set_option maxRecDepth 100000 in
set_option maxHeartbeats 2000000 in
theorem dr_0123 (Q9 : Exit → Act → World → Prop) (X0 X1 X2 X5 X7 X8 : Value) (x y : Tr) (xo yo : Option Addr) (xc yc : Nat) (w : World) (bA bB : Nat) (lA : w.heap.size ≤ bA) (lB : w.heap.size ≤ bB) (nAB : bA ≠ bB) (HR : Hid (∀ a V, R3 X0 X1 X2 X5 X7 X8 x y xo yo xc yc w bA bB a V → Q9 .normal a V)) (HF : Hid (∀ W, Below w.heap.size w W → Calls Tryd.prog 7 #[.agg #[.int .i64 x.op, .int .i64 x.a, .int .i64 x.n, .int .i64 x.m, .string x.s, .slice xo x.ks.length xc]] W (FewPost2 W))) (HG : Hid (∀ W, Below w.heap.size w W → Calls Tryd.prog 7 #[.agg #[.int .i64 y.op, .int .i64 y.a, .int .i64 y.n, .int .i64 y.m, .string y.s, .slice yo y.ks.length yc]] W (FewPost2 W))) (t : Tr) (o : Option Addr) (c : Nat) (u : Tr) (p : Option Addr) (d : Nat) (V : World) (BV : Below w.heap.size w V) (fA : V.heap[bA]? = some (.cells #[.int .i64 x.op, .int .i64 x.a, .int .i64 x.n, .int .i64 x.m, .string x.s, .slice xo x.ks.length xc] 24 (0, 0))) (fB : V.heap[bB]? = some (.cells #[.int .i64 y.op, .int .i64 y.a, .int .i64 y.n, .int .i64 y.m, .string y.s, .slice yo y.ks.length yc] 24 (0, 0))) (tt : TIn V (NB bA bB) t (.slice o t.ks.length c)) (ct : Hid (t.cnt ≤ 1501 ∧ Q t)) (tu : TIn V (NB bA bB) u (.slice p u.ks.length d)) (cu : Hid (u.cnt ≤ 1501 ∧ Q u)) : wpAnyH Tryd.prog .any opsD Q9 (fun _ => True) 2 #[true, true, true, true, false, false] { tmps := #[X0, X1, X2, .pointer (some ⟨bA, 0, none⟩), .pointer (some ⟨bB, 0, none⟩), X5, .bool false, X7, X8, .bool true, .bool false, .agg #[.int .i64 x.op, .int .i64 x.a, .int .i64 x.n, .int .i64 x.m, .string x.s, .slice xo x.ks.length xc], .agg #[.int .i64 t.op, .int .i64 t.a, .int .i64 t.n, .int .i64 t.m, .string t.s, .slice o t.ks.length c], .agg #[.int .i64 y.op, .int .i64 y.a, .int .i64 y.n, .int .i64 y.m, .string y.s, .slice yo y.ks.length yc], .agg #[.int .i64 u.op, .int .i64 u.a, .int .i64 u.n, .int .i64 u.m, .string u.s, .slice p u.ks.length d], undef, undef, undef, undef, undef, undef, undef, undef, undef, undef, undef, undef, undef, undef, undef, undef, undef, undef, undef, undef, undef, undef, undef, undef, undef, undef, undef, undef, undef, undef, undef, undef, undef, undef, undef, undef, undef, undef, undef], defers := [] } V := by
  refine wpAnyH_ready (rs := [4]) (by kernel_rfl) (by simp) ?_
  refine AllReadyH.cons (o := { dst := none, op := Op.store 24 (Operand.tmp 3) (Operand.tmp 12), type := 0, pos := "law.go:116", after := #[{ on := 1, ground := Ground.data }, { on := 3, ground := Ground.chain }, { on := 0, ground := Ground.phase }, { on := 1, ground := Ground.phase }, { on := 2, ground := Ground.textOnly Departure.lateStores }, { on := 3, ground := Ground.textOnly Departure.lateStoresUnsure }], guard := none }) rfl (fun K hK => ?_) ?_
  · replace hK := Lib.hid hK
    obtain ⟨⟨q0, q1, q2, q3, q4, q5⟩, ⟨z0, z1, z2, z3, z4, z5⟩, _⟩ := c_six fA
    go_simp
    obtain ⟨v1, e1⟩ : ∃ U, U = st6 V bA 0 (.int .i64 t.op) (.int .i64 t.a) (.int .i64 t.n) (.int .i64 t.m) (.string t.s) (.slice o t.ks.length c) := ⟨_, rfl⟩
    have BV1 : Below w.heap.size w v1 := by rw [e1]; exact c_st6 BV lA
    have hgr : V.grownBy v1 (some bA) := by rw [e1]; exact st6_grown _ _ _ _ _ _ _ _ _
    have fA1 := by have h := fA; exact c_set6 (.int .i64 t.op) (.int .i64 t.a) (.int .i64 t.n) (.int .i64 t.m) (.string t.s) (.slice o t.ks.length c) h
    rw [← e1] at fA1
    have fB1 : v1.heap[bB]? = some (.cells #[.int .i64 y.op, .int .i64 y.a, .int .i64 y.n, .int .i64 y.m, .string y.s, .slice yo y.ks.length yc] 24 (0, 0)) := by rw [e1]; exact (st6_heap _ _ _ _ _ _ _ _ _ _ (by omega)).trans fB
    have tt1 : TIn v1 (NB bA bB) t (.slice o t.ks.length c) := tin_grown tt hgr (fun b _ hs e => hs.1 (Option.some.inj e))
    have tu1 : TIn v1 (NB bA bB) u (.slice p u.ks.length d) := tin_grown tu hgr (fun b _ hs e => hs.1 (Option.some.inj e))
    change K _ (st6 V bA 0 (.int .i64 t.op) (.int .i64 t.a) (.int .i64 t.n) (.int .i64 t.m) (.string t.s) (.slice o t.ks.length c))
    rw [← e1]
    refine hK.out _ _ trivial (fun _ => ?_)
    exact dr_01234 Q9 X0 X1 X2 X5 X7 X8 x y xo yo xc yc w bA bB lA lB nAB HR HF HG t o c u p d v1 BV1 fA1 fB1 tt1 ct tu1 cu
  · exact AllReadyH.nil

set_option linter.unusedVariables false in
set_option maxRecDepth 100000 in
set_option maxHeartbeats 2000000 in
theorem dr_012 (Q9 : Exit → Act → World → Prop) (X0 X1 X2 X5 X7 X8 : Value) (x y : Tr) (xo yo : Option Addr) (xc yc : Nat) (w : World) (bA bB : Nat) (lA : w.heap.size ≤ bA) (lB : w.heap.size ≤ bB) (nAB : bA ≠ bB) (HR : Hid (∀ a V, R3 X0 X1 X2 X5 X7 X8 x y xo yo xc yc w bA bB a V → Q9 .normal a V)) (HF : Hid (∀ W, Below w.heap.size w W → Calls Tryd.prog 7 #[.agg #[.int .i64 x.op, .int .i64 x.a, .int .i64 x.n, .int .i64 x.m, .string x.s, .slice xo x.ks.length xc]] W (FewPost2 W))) (HG : Hid (∀ W, Below w.heap.size w W → Calls Tryd.prog 7 #[.agg #[.int .i64 y.op, .int .i64 y.a, .int .i64 y.n, .int .i64 y.m, .string y.s, .slice yo y.ks.length yc]] W (FewPost2 W))) (t : Tr) (o : Option Addr) (c : Nat) (V : World) (BV : Below w.heap.size w V) (fA : V.heap[bA]? = some (.cells #[.int .i64 x.op, .int .i64 x.a, .int .i64 x.n, .int .i64 x.m, .string x.s, .slice xo x.ks.length xc] 24 (0, 0))) (fB : V.heap[bB]? = some (.cells #[.int .i64 y.op, .int .i64 y.a, .int .i64 y.n, .int .i64 y.m, .string y.s, .slice yo y.ks.length yc] 24 (0, 0))) (tt : TIn V (NB bA bB) t (.slice o t.ks.length c)) (ct : Hid (t.cnt ≤ 1501 ∧ Q t)) : wpAnyH Tryd.prog .any opsD Q9 (fun _ => True) 3 #[true, true, true, false, false, false] { tmps := #[X0, X1, X2, .pointer (some ⟨bA, 0, none⟩), .pointer (some ⟨bB, 0, none⟩), X5, .bool false, X7, X8, .bool true, .bool false, .agg #[.int .i64 x.op, .int .i64 x.a, .int .i64 x.n, .int .i64 x.m, .string x.s, .slice xo x.ks.length xc], .agg #[.int .i64 t.op, .int .i64 t.a, .int .i64 t.n, .int .i64 t.m, .string t.s, .slice o t.ks.length c], .agg #[.int .i64 y.op, .int .i64 y.a, .int .i64 y.n, .int .i64 y.m, .string y.s, .slice yo y.ks.length yc], undef, undef, undef, undef, undef, undef, undef, undef, undef, undef, undef, undef, undef, undef, undef, undef, undef, undef, undef, undef, undef, undef, undef, undef, undef, undef, undef, undef, undef, undef, undef, undef, undef, undef, undef, undef, undef, undef, undef, undef], defers := [] } V := by
  refine wpAnyH_ready (rs := [3]) (by kernel_rfl) (by simp) ?_
  refine AllReadyH.cons (o := { dst := some 14, op := Op.call { callee := Callee.value (Operand.func 7), args := #[Operand.tmp 13], argTypes := #[24] }, type := 24, pos := "law.go:116", after := #[{ on := 2, ground := Ground.data }, { on := 1, ground := Ground.chain }], guard := none }) rfl (fun K hK => ?_) ?_
  · replace hK := Lib.hid hK
    go_wp2_with fail
    refine (HG.out _ BV).mono ?_
    rintro e v1 ⟨u, p, ll, d, rfl, htn, hcn, _, hb, hq⟩
    obtain rfl := tin_len htn
    have BV1 : Below w.heap.size w v1 := c_thr BV hb BV.size
    have fA1 := c_kept hb (c_lt fA) fA
    have fB1 := c_kept hb (c_lt fB) fB
    have tu1 : TIn v1 (NB bA bB) u (.slice p u.ks.length d) := nb_new htn (c_lt fA) (c_lt fB)
    have cu := Lib.hid (And.intro hcn hq)
    have tt1 := tin_kept tt hb
    refine hK.out _ _ trivial (fun _ => ?_)
    exact dr_0123 Q9 X0 X1 X2 X5 X7 X8 x y xo yo xc yc w bA bB lA lB nAB HR HF HG t o c u p d v1 BV1 fA1 fB1 tt1 ct tu1 cu
  · exact AllReadyH.nil

set_option linter.unusedVariables false in
set_option maxRecDepth 100000 in
set_option maxHeartbeats 2000000 in
theorem dr_01 (Q9 : Exit → Act → World → Prop) (X0 X1 X2 X5 X7 X8 : Value) (x y : Tr) (xo yo : Option Addr) (xc yc : Nat) (w : World) (bA bB : Nat) (lA : w.heap.size ≤ bA) (lB : w.heap.size ≤ bB) (nAB : bA ≠ bB) (HR : Hid (∀ a V, R3 X0 X1 X2 X5 X7 X8 x y xo yo xc yc w bA bB a V → Q9 .normal a V)) (HF : Hid (∀ W, Below w.heap.size w W → Calls Tryd.prog 7 #[.agg #[.int .i64 x.op, .int .i64 x.a, .int .i64 x.n, .int .i64 x.m, .string x.s, .slice xo x.ks.length xc]] W (FewPost2 W))) (HG : Hid (∀ W, Below w.heap.size w W → Calls Tryd.prog 7 #[.agg #[.int .i64 y.op, .int .i64 y.a, .int .i64 y.n, .int .i64 y.m, .string y.s, .slice yo y.ks.length yc]] W (FewPost2 W))) (t : Tr) (o : Option Addr) (c : Nat) (V : World) (BV : Below w.heap.size w V) (fA : V.heap[bA]? = some (.cells #[.int .i64 x.op, .int .i64 x.a, .int .i64 x.n, .int .i64 x.m, .string x.s, .slice xo x.ks.length xc] 24 (0, 0))) (fB : V.heap[bB]? = some (.cells #[.int .i64 y.op, .int .i64 y.a, .int .i64 y.n, .int .i64 y.m, .string y.s, .slice yo y.ks.length yc] 24 (0, 0))) (tt : TIn V (NB bA bB) t (.slice o t.ks.length c)) (ct : Hid (t.cnt ≤ 1501 ∧ Q t)) : wpAnyH Tryd.prog .any opsD Q9 (fun _ => True) 4 #[true, true, false, false, false, false] { tmps := #[X0, X1, X2, .pointer (some ⟨bA, 0, none⟩), .pointer (some ⟨bB, 0, none⟩), X5, .bool false, X7, X8, .bool true, .bool false, .agg #[.int .i64 x.op, .int .i64 x.a, .int .i64 x.n, .int .i64 x.m, .string x.s, .slice xo x.ks.length xc], .agg #[.int .i64 t.op, .int .i64 t.a, .int .i64 t.n, .int .i64 t.m, .string t.s, .slice o t.ks.length c], undef, undef, undef, undef, undef, undef, undef, undef, undef, undef, undef, undef, undef, undef, undef, undef, undef, undef, undef, undef, undef, undef, undef, undef, undef, undef, undef, undef, undef, undef, undef, undef, undef, undef, undef, undef, undef, undef, undef, undef, undef], defers := [] } V := by
  refine wpAnyH_ready (rs := [2]) (by kernel_rfl) (by simp) ?_
  refine AllReadyH.cons (o := { dst := some 13, op := Op.load 24 (Operand.tmp 4), type := 24, pos := "law.go:116", after := #[], guard := none }) rfl (fun K hK => ?_) ?_
  · replace hK := Lib.hid hK
    obtain ⟨⟨q0, q1, q2, q3, q4, q5⟩, _, _⟩ := c_six fB
    go_simp
    refine hK.out _ _ trivial (fun _ => ?_)
    exact dr_012 Q9 X0 X1 X2 X5 X7 X8 x y xo yo xc yc w bA bB lA lB nAB HR HF HG t o c V BV fA fB tt ct
  · exact AllReadyH.nil

set_option linter.unusedVariables false in
set_option maxRecDepth 100000 in
set_option maxHeartbeats 2000000 in
theorem dr_02 (Q9 : Exit → Act → World → Prop) (X0 X1 X2 X5 X7 X8 : Value) (x y : Tr) (xo yo : Option Addr) (xc yc : Nat) (w : World) (bA bB : Nat) (lA : w.heap.size ≤ bA) (lB : w.heap.size ≤ bB) (nAB : bA ≠ bB) (HR : Hid (∀ a V, R3 X0 X1 X2 X5 X7 X8 x y xo yo xc yc w bA bB a V → Q9 .normal a V)) (HF : Hid (∀ W, Below w.heap.size w W → Calls Tryd.prog 7 #[.agg #[.int .i64 x.op, .int .i64 x.a, .int .i64 x.n, .int .i64 x.m, .string x.s, .slice xo x.ks.length xc]] W (FewPost2 W))) (HG : Hid (∀ W, Below w.heap.size w W → Calls Tryd.prog 7 #[.agg #[.int .i64 y.op, .int .i64 y.a, .int .i64 y.n, .int .i64 y.m, .string y.s, .slice yo y.ks.length yc]] W (FewPost2 W))) (V : World) (BV : Below w.heap.size w V) (fA : V.heap[bA]? = some (.cells #[.int .i64 x.op, .int .i64 x.a, .int .i64 x.n, .int .i64 x.m, .string x.s, .slice xo x.ks.length xc] 24 (0, 0))) (fB : V.heap[bB]? = some (.cells #[.int .i64 y.op, .int .i64 y.a, .int .i64 y.n, .int .i64 y.m, .string y.s, .slice yo y.ks.length yc] 24 (0, 0))) : wpAnyH Tryd.prog .any opsD Q9 (fun _ => True) 4 #[true, false, true, false, false, false] { tmps := #[X0, X1, X2, .pointer (some ⟨bA, 0, none⟩), .pointer (some ⟨bB, 0, none⟩), X5, .bool false, X7, X8, .bool true, .bool false, .agg #[.int .i64 x.op, .int .i64 x.a, .int .i64 x.n, .int .i64 x.m, .string x.s, .slice xo x.ks.length xc], undef, .agg #[.int .i64 y.op, .int .i64 y.a, .int .i64 y.n, .int .i64 y.m, .string y.s, .slice yo y.ks.length yc], undef, undef, undef, undef, undef, undef, undef, undef, undef, undef, undef, undef, undef, undef, undef, undef, undef, undef, undef, undef, undef, undef, undef, undef, undef, undef, undef, undef, undef, undef, undef, undef, undef, undef, undef, undef, undef, undef, undef, undef], defers := [] } V := by
  refine wpAnyH_ready (rs := [1]) (by kernel_rfl) (by simp) ?_
  refine AllReadyH.cons (o := { dst := some 12, op := Op.call { callee := Callee.value (Operand.func 7), args := #[Operand.tmp 11], argTypes := #[24] }, type := 24, pos := "law.go:116", after := #[{ on := 0, ground := Ground.data }], guard := none }) rfl (fun K hK => ?_) ?_
  · replace hK := Lib.hid hK
    go_wp2_with fail
    refine (HF.out _ BV).mono ?_
    rintro e v1 ⟨t, o, ll, c, rfl, htn, hcn, _, hb, hq⟩
    obtain rfl := tin_len htn
    have BV1 : Below w.heap.size w v1 := c_thr BV hb BV.size
    have fA1 := c_kept hb (c_lt fA) fA
    have fB1 := c_kept hb (c_lt fB) fB
    have tt1 : TIn v1 (NB bA bB) t (.slice o t.ks.length c) := nb_new htn (c_lt fA) (c_lt fB)
    have ct := Lib.hid (And.intro hcn hq)
    refine hK.out _ _ trivial (fun _ => ?_)
    exact dr_012 Q9 X0 X1 X2 X5 X7 X8 x y xo yo xc yc w bA bB lA lB nAB HR HF HG t o c v1 BV1 fA1 fB1 tt1 ct
  · exact AllReadyH.nil

set_option linter.unusedVariables false in
set_option maxRecDepth 100000 in
set_option maxHeartbeats 2000000 in
theorem dr_0 (Q9 : Exit → Act → World → Prop) (X0 X1 X2 X5 X7 X8 : Value) (x y : Tr) (xo yo : Option Addr) (xc yc : Nat) (w : World) (bA bB : Nat) (lA : w.heap.size ≤ bA) (lB : w.heap.size ≤ bB) (nAB : bA ≠ bB) (HR : Hid (∀ a V, R3 X0 X1 X2 X5 X7 X8 x y xo yo xc yc w bA bB a V → Q9 .normal a V)) (HF : Hid (∀ W, Below w.heap.size w W → Calls Tryd.prog 7 #[.agg #[.int .i64 x.op, .int .i64 x.a, .int .i64 x.n, .int .i64 x.m, .string x.s, .slice xo x.ks.length xc]] W (FewPost2 W))) (HG : Hid (∀ W, Below w.heap.size w W → Calls Tryd.prog 7 #[.agg #[.int .i64 y.op, .int .i64 y.a, .int .i64 y.n, .int .i64 y.m, .string y.s, .slice yo y.ks.length yc]] W (FewPost2 W))) (V : World) (BV : Below w.heap.size w V) (fA : V.heap[bA]? = some (.cells #[.int .i64 x.op, .int .i64 x.a, .int .i64 x.n, .int .i64 x.m, .string x.s, .slice xo x.ks.length xc] 24 (0, 0))) (fB : V.heap[bB]? = some (.cells #[.int .i64 y.op, .int .i64 y.a, .int .i64 y.n, .int .i64 y.m, .string y.s, .slice yo y.ks.length yc] 24 (0, 0))) : wpAnyH Tryd.prog .any opsD Q9 (fun _ => True) 5 #[true, false, false, false, false, false] { tmps := #[X0, X1, X2, .pointer (some ⟨bA, 0, none⟩), .pointer (some ⟨bB, 0, none⟩), X5, .bool false, X7, X8, .bool true, .bool false, .agg #[.int .i64 x.op, .int .i64 x.a, .int .i64 x.n, .int .i64 x.m, .string x.s, .slice xo x.ks.length xc], undef, undef, undef, undef, undef, undef, undef, undef, undef, undef, undef, undef, undef, undef, undef, undef, undef, undef, undef, undef, undef, undef, undef, undef, undef, undef, undef, undef, undef, undef, undef, undef, undef, undef, undef, undef, undef, undef, undef, undef, undef, undef], defers := [] } V := by
  refine wpAnyH_ready (rs := [1, 2]) (by kernel_rfl) (by simp) ?_
  refine AllReadyH.cons (o := { dst := some 12, op := Op.call { callee := Callee.value (Operand.func 7), args := #[Operand.tmp 11], argTypes := #[24] }, type := 24, pos := "law.go:116", after := #[{ on := 0, ground := Ground.data }], guard := none }) rfl (fun K hK => ?_) ?_
  · replace hK := Lib.hid hK
    go_wp2_with fail
    refine (HF.out _ BV).mono ?_
    rintro e v1 ⟨t, o, ll, c, rfl, htn, hcn, _, hb, hq⟩
    obtain rfl := tin_len htn
    have BV1 : Below w.heap.size w v1 := c_thr BV hb BV.size
    have fA1 := c_kept hb (c_lt fA) fA
    have fB1 := c_kept hb (c_lt fB) fB
    have tt1 : TIn v1 (NB bA bB) t (.slice o t.ks.length c) := nb_new htn (c_lt fA) (c_lt fB)
    have ct := Lib.hid (And.intro hcn hq)
    refine hK.out _ _ trivial (fun _ => ?_)
    exact dr_01 Q9 X0 X1 X2 X5 X7 X8 x y xo yo xc yc w bA bB lA lB nAB HR HF HG t o c v1 BV1 fA1 fB1 tt1 ct
  · refine AllReadyH.cons (o := { dst := some 13, op := Op.load 24 (Operand.tmp 4), type := 24, pos := "law.go:116", after := #[], guard := none }) rfl (fun K hK => ?_) ?_
    · replace hK := Lib.hid hK
      obtain ⟨⟨q0, q1, q2, q3, q4, q5⟩, _, _⟩ := c_six fB
      go_simp
      refine hK.out _ _ trivial (fun _ => ?_)
      exact dr_02 Q9 X0 X1 X2 X5 X7 X8 x y xo yo xc yc w bA bB lA lB nAB HR HF HG V BV fA fB
    · exact AllReadyH.nil

set_option linter.unusedVariables false in
set_option maxRecDepth 100000 in
set_option maxHeartbeats 2000000 in
theorem dr_2 (Q9 : Exit → Act → World → Prop) (X0 X1 X2 X5 X7 X8 : Value) (x y : Tr) (xo yo : Option Addr) (xc yc : Nat) (w : World) (bA bB : Nat) (lA : w.heap.size ≤ bA) (lB : w.heap.size ≤ bB) (nAB : bA ≠ bB) (HR : Hid (∀ a V, R3 X0 X1 X2 X5 X7 X8 x y xo yo xc yc w bA bB a V → Q9 .normal a V)) (HF : Hid (∀ W, Below w.heap.size w W → Calls Tryd.prog 7 #[.agg #[.int .i64 x.op, .int .i64 x.a, .int .i64 x.n, .int .i64 x.m, .string x.s, .slice xo x.ks.length xc]] W (FewPost2 W))) (HG : Hid (∀ W, Below w.heap.size w W → Calls Tryd.prog 7 #[.agg #[.int .i64 y.op, .int .i64 y.a, .int .i64 y.n, .int .i64 y.m, .string y.s, .slice yo y.ks.length yc]] W (FewPost2 W))) (V : World) (BV : Below w.heap.size w V) (fA : V.heap[bA]? = some (.cells #[.int .i64 x.op, .int .i64 x.a, .int .i64 x.n, .int .i64 x.m, .string x.s, .slice xo x.ks.length xc] 24 (0, 0))) (fB : V.heap[bB]? = some (.cells #[.int .i64 y.op, .int .i64 y.a, .int .i64 y.n, .int .i64 y.m, .string y.s, .slice yo y.ks.length yc] 24 (0, 0))) : wpAnyH Tryd.prog .any opsD Q9 (fun _ => True) 5 #[false, false, true, false, false, false] { tmps := #[X0, X1, X2, .pointer (some ⟨bA, 0, none⟩), .pointer (some ⟨bB, 0, none⟩), X5, .bool false, X7, X8, .bool true, .bool false, undef, undef, .agg #[.int .i64 y.op, .int .i64 y.a, .int .i64 y.n, .int .i64 y.m, .string y.s, .slice yo y.ks.length yc], undef, undef, undef, undef, undef, undef, undef, undef, undef, undef, undef, undef, undef, undef, undef, undef, undef, undef, undef, undef, undef, undef, undef, undef, undef, undef, undef, undef, undef, undef, undef, undef, undef, undef, undef, undef, undef, undef, undef, undef], defers := [] } V := by
  refine wpAnyH_ready (rs := [0]) (by kernel_rfl) (by simp) ?_
  refine AllReadyH.cons (o := { dst := some 11, op := Op.load 24 (Operand.tmp 3), type := 24, pos := "law.go:116", after := #[], guard := none }) rfl (fun K hK => ?_) ?_
  · replace hK := Lib.hid hK
    obtain ⟨⟨q0, q1, q2, q3, q4, q5⟩, _, _⟩ := c_six fA
    go_simp
    refine hK.out _ _ trivial (fun _ => ?_)
    exact dr_02 Q9 X0 X1 X2 X5 X7 X8 x y xo yo xc yc w bA bB lA lB nAB HR HF HG V BV fA fB
  · exact AllReadyH.nil

set_option linter.unusedVariables false in
set_option maxRecDepth 100000 in
set_option maxHeartbeats 2000000 in
theorem dr_ (Q9 : Exit → Act → World → Prop) (X0 X1 X2 X5 X7 X8 : Value) (x y : Tr) (xo yo : Option Addr) (xc yc : Nat) (w : World) (bA bB : Nat) (lA : w.heap.size ≤ bA) (lB : w.heap.size ≤ bB) (nAB : bA ≠ bB) (HR : Hid (∀ a V, R3 X0 X1 X2 X5 X7 X8 x y xo yo xc yc w bA bB a V → Q9 .normal a V)) (HF : Hid (∀ W, Below w.heap.size w W → Calls Tryd.prog 7 #[.agg #[.int .i64 x.op, .int .i64 x.a, .int .i64 x.n, .int .i64 x.m, .string x.s, .slice xo x.ks.length xc]] W (FewPost2 W))) (HG : Hid (∀ W, Below w.heap.size w W → Calls Tryd.prog 7 #[.agg #[.int .i64 y.op, .int .i64 y.a, .int .i64 y.n, .int .i64 y.m, .string y.s, .slice yo y.ks.length yc]] W (FewPost2 W))) (V : World) (BV : Below w.heap.size w V) (fA : V.heap[bA]? = some (.cells #[.int .i64 x.op, .int .i64 x.a, .int .i64 x.n, .int .i64 x.m, .string x.s, .slice xo x.ks.length xc] 24 (0, 0))) (fB : V.heap[bB]? = some (.cells #[.int .i64 y.op, .int .i64 y.a, .int .i64 y.n, .int .i64 y.m, .string y.s, .slice yo y.ks.length yc] 24 (0, 0))) : wpAnyH Tryd.prog .any opsD Q9 (fun _ => True) 6 #[false, false, false, false, false, false] { tmps := #[X0, X1, X2, .pointer (some ⟨bA, 0, none⟩), .pointer (some ⟨bB, 0, none⟩), X5, .bool false, X7, X8, .bool true, .bool false, undef, undef, undef, undef, undef, undef, undef, undef, undef, undef, undef, undef, undef, undef, undef, undef, undef, undef, undef, undef, undef, undef, undef, undef, undef, undef, undef, undef, undef, undef, undef, undef, undef, undef, undef, undef, undef, undef, undef, undef, undef, undef, undef], defers := [] } V := by
  refine wpAnyH_ready (rs := [0, 2]) (by kernel_rfl) (by simp) ?_
  refine AllReadyH.cons (o := { dst := some 11, op := Op.load 24 (Operand.tmp 3), type := 24, pos := "law.go:116", after := #[], guard := none }) rfl (fun K hK => ?_) ?_
  · replace hK := Lib.hid hK
    obtain ⟨⟨q0, q1, q2, q3, q4, q5⟩, _, _⟩ := c_six fA
    go_simp
    refine hK.out _ _ trivial (fun _ => ?_)
    exact dr_0 Q9 X0 X1 X2 X5 X7 X8 x y xo yo xc yc w bA bB lA lB nAB HR HF HG V BV fA fB
  · refine AllReadyH.cons (o := { dst := some 13, op := Op.load 24 (Operand.tmp 4), type := 24, pos := "law.go:116", after := #[], guard := none }) rfl (fun K hK => ?_) ?_
    · replace hK := Lib.hid hK
      obtain ⟨⟨q0, q1, q2, q3, q4, q5⟩, _, _⟩ := c_six fB
      go_simp
      refine hK.out _ _ trivial (fun _ => ?_)
      exact dr_2 Q9 X0 X1 X2 X5 X7 X8 x y xo yo xc yc w bA bB lA lB nAB HR HF HG V BV fA fB
    · exact AllReadyH.nil

set_option linter.unusedVariables false in
set_option maxRecDepth 100000 in
set_option maxHeartbeats 2000000 in
theorem startD (Q9 : Exit → Act → World → Prop) (X0 X1 X2 X5 X7 X8 : Value) (x y : Tr) (xo yo : Option Addr) (xc yc : Nat) (w : World) (bA bB : Nat) (lA : w.heap.size ≤ bA) (lB : w.heap.size ≤ bB) (nAB : bA ≠ bB) (HR : Hid (∀ a V, R3 X0 X1 X2 X5 X7 X8 x y xo yo xc yc w bA bB a V → Q9 .normal a V)) (HF : Hid (∀ W, Below w.heap.size w W → Calls Tryd.prog 7 #[.agg #[.int .i64 x.op, .int .i64 x.a, .int .i64 x.n, .int .i64 x.m, .string x.s, .slice xo x.ks.length xc]] W (FewPost2 W))) (HG : Hid (∀ W, Below w.heap.size w W → Calls Tryd.prog 7 #[.agg #[.int .i64 y.op, .int .i64 y.a, .int .i64 y.n, .int .i64 y.m, .string y.s, .slice yo y.ks.length yc]] W (FewPost2 W))) (W : World) (BV : Below w.heap.size w W.drew) (fA : W.drew.heap[bA]? = some (.cells #[.int .i64 x.op, .int .i64 x.a, .int .i64 x.n, .int .i64 x.m, .string x.s, .slice xo x.ks.length xc] 24 (0, 0))) (fB : W.drew.heap[bB]? = some (.cells #[.int .i64 y.op, .int .i64 y.a, .int .i64 y.n, .int .i64 y.m, .string y.s, .slice yo y.ks.length yc] 24 (0, 0))) : Code.wp Tryd.prog (Code.region 3 opsD true) Q9 { tmps := #[X0, X1, X2, .pointer (some ⟨bA, 0, none⟩), .pointer (some ⟨bB, 0, none⟩), X5, .bool false, X7, X8, .bool true, .bool false, undef, undef, undef, undef, undef, undef, undef, undef, undef, undef, undef, undef, undef, undef, undef, undef, undef, undef, undef, undef, undef, undef, undef, undef, undef, undef, undef, undef, undef, undef, undef, undef, undef, undef, undef, undef, undef, undef, undef, undef, undef, undef, undef], defers := [] } W := by
  refine wp_region_held_drew (S := fun _ => True) (by kernel_rfl) trivial (fun _ => ?_)
  exact dr_ Q9 X0 X1 X2 X5 X7 X8 x y xo yo xc yc w bA bB lA lB nAB HR HF HG W.drew BV fA fB
end Go.Proofs.YtppliplalfpmaaaDoor
