/-
  The law TreeCounts: the region that makes a copy and a plain copy and lays each in a variable, in every order.
-/
import Derived.Test.YtppliplalfpmaaaDoorAwake2
import Derived.Test.YtppliplalfpmaaaDoorCopy2
import Derived.Test.YtppliplalfpmaaaDoorFew
import Derived.Test.YtppliplalfpmaaaDoorExact
namespace Go.Proofs.YtppliplalfpmaaaDoor
open Go.RowKit


/-- the copy's blocks: made since w, below mc, none of l -/
def FC (w : World) (mc : Nat) (l : List Nat) : Nat → Prop := fun b => w.heap.size ≤ b ∧ b < mc ∧ ¬ b ∈ l
def FP (mc : Nat) (l : List Nat) : Nat → Prop := fun b => mc ≤ b ∧ ¬ b ∈ l
theorem fc_new {w V v1 : World} {l : List Nat} {t : Tr} {k : Value} (h : TIn v1 (Fresh V) t k) (hw : w.heap.size ≤ V.heap.size) (hl : ∀ y ∈ l, y < V.heap.size) : TIn v1 (FC w v1.heap.size l) t k :=
  tin_mono h (fun b hb hs => ⟨Nat.le_trans hw hs, hb, fun hm => by have := hl b hm; have h2 : V.heap.size ≤ b := hs; omega⟩)
theorem fp_new {V v1 : World} {mc : Nat} {l : List Nat} {t : Tr} {k : Value} (h : TIn v1 (Fresh V) t k) (hw : mc ≤ V.heap.size) (hl : ∀ y ∈ l, y < V.heap.size) : TIn v1 (FP mc l) t k :=
  tin_mono h (fun b _ hs => ⟨Nat.le_trans hw hs, fun hm => by have := hl b hm; have h2 : V.heap.size ≤ b := hs; omega⟩)
theorem fc_alloc {w V : World} {mc : Nat} {l l' : List Nat} {t : Tr} {k : Value} {o : Obj} (h : TIn V (FC w mc l) t k) (hl : ∀ y ∈ l', y ∈ l ∨ y = V.heap.size) : TIn (V.alloc o) (FC w mc l') t k :=
  tin_imp (fun b hb hs => ⟨⟨hs.1, hs.2.1, fun hm => by rcases hl b hm with h1 | h1; exact hs.2.2 h1; omega⟩, (c_box V o).block b hb⟩) (c_box V o).size _ _ h
theorem fp_alloc {V : World} {mc : Nat} {l l' : List Nat} {t : Tr} {k : Value} {o : Obj} (h : TIn V (FP mc l) t k) (hl : ∀ y ∈ l', y ∈ l ∨ y = V.heap.size) : TIn (V.alloc o) (FP mc l') t k :=
  tin_imp (fun b hb hs => ⟨⟨hs.1, fun hm => by rcases hl b hm with h1 | h1; exact hs.2 h1; omega⟩, (c_box V o).block b hb⟩) (c_box V o).size _ _ h
theorem c_set6 {W : World} {b : Nat} {T : TypeId} {y0 y1 y2 y3 y4 y5 : Value} (x0 x1 x2 x3 x4 x5 : Value) (h : W.heap[b]? = some (.cells #[y0, y1, y2, y3, y4, y5] T (0, 0))) : (st6 W b 0 x0 x1 x2 x3 x4 x5).heap[b]? = some (.cells #[x0, x1, x2, x3, x4, x5] T (0, 0)) :=
  c_one 5 x5 (c_one 4 x4 (c_one 3 x3 (c_one 2 x2 (c_one 1 x1 (c_one 0 x0 h)))))
/-- the block of a slice is none of l, and nothing of it is frozen -/
def UC (V : World) (l : List Nat) (co : Option Addr) : Prop := ∀ (b i : Nat), co = some ⟨b, i, none⟩ → ¬ b ∈ l ∧ ∃ cs T, V.heap[b]? = some (.cells cs T (0, 0))
theorem uc_new {V v1 : World} {l : List Nat} {co : Option Addr} (h : UnfF V v1 co) (hl : ∀ y ∈ l, y < V.heap.size) : UC v1 l co := fun b i e => ⟨fun hm => by have := hl b hm; have := (h b i e).1; omega, (h b i e).2⟩
theorem uc_kept {V v1 : World} {l : List Nat} {co : Option Addr} (h : UC V l co) (hb : Below V.heap.size V v1) : UC v1 l co := fun b i e => ⟨(h b i e).1, by obtain ⟨cs, T, h2⟩ := (h b i e).2; exact ⟨cs, T, c_kept hb (c_lt h2) h2⟩⟩
theorem uc_alloc {V : World} {l l' : List Nat} {co : Option Addr} {o : Obj} (h : UC V l co) (hl : ∀ y ∈ l', y ∈ l ∨ y = V.heap.size) : UC (V.alloc o) l' co := fun b i e => by
  obtain ⟨h1, cs, T, h2⟩ := h b i e
  exact ⟨fun hm => by rcases hl b hm with h3 | h3; exact h1 h3; have := c_lt h2; omega, cs, T, c_kept (c_box V o) (c_lt h2) h2⟩
theorem uc_st6 {V : World} {l : List Nat} {co : Option Addr} {g : Nat} {x0 x1 x2 x3 x4 x5 : Value} (h : UC V l co) (hg : g ∈ l) : UC (st6 V g 0 x0 x1 x2 x3 x4 x5) l co := fun b i e => by
  obtain ⟨h1, cs, T, h2⟩ := h b i e
  exact ⟨h1, cs, T, (st6_heap _ _ _ _ _ _ _ _ _ _ (fun e2 => h1 (by rw [e2]; exact hg))).trans h2⟩
def opsC : Array Oper := #[{ dst := some 10, op := Op.load 24 (Operand.tmp 1), type := 24, pos := "law.go:53", after := #[], guard := none }, { dst := some 11, op := Op.call { callee := Callee.value (Operand.func 8), args := #[Operand.tmp 10], argTypes := #[24] }, type := 24, pos := "law.go:53", after := #[{ on := 0, ground := Ground.data }], guard := none }, { dst := some 12, op := Op.load 24 (Operand.tmp 1), type := 24, pos := "law.go:53", after := #[], guard := none }, { dst := some 13, op := Op.call { callee := Callee.value (Operand.func 9), args := #[Operand.tmp 12], argTypes := #[24] }, type := 24, pos := "law.go:53", after := #[{ on := 2, ground := Ground.data }, { on := 1, ground := Ground.chain }], guard := none }, { dst := some 3, op := Op.alloc 24, type := 0, pos := "law.go:53", after := #[], guard := none }, { dst := some 4, op := Op.alloc 24, type := 0, pos := "law.go:53", after := #[], guard := none }, { dst := none, op := Op.store 24 (Operand.tmp 3) (Operand.tmp 11), type := 0, pos := "law.go:53", after := #[{ on := 4, ground := Ground.data }, { on := 1, ground := Ground.data }, { on := 3, ground := Ground.chain }, { on := 0, ground := Ground.phase }, { on := 1, ground := Ground.phase }, { on := 2, ground := Ground.textOnly Departure.lateStores }, { on := 3, ground := Ground.textOnly Departure.lateStoresUnsure }, { on := 4, ground := Ground.phase }, { on := 5, ground := Ground.phase }], guard := none }, { dst := none, op := Op.store 24 (Operand.tmp 4) (Operand.tmp 13), type := 0, pos := "law.go:53", after := #[{ on := 5, ground := Ground.data }, { on := 3, ground := Ground.data }, { on := 6, ground := Ground.chain }, { on := 0, ground := Ground.phase }, { on := 1, ground := Ground.phase }, { on := 2, ground := Ground.phase }, { on := 3, ground := Ground.phase }, { on := 4, ground := Ground.phase }, { on := 5, ground := Ground.phase }, { on := 6, ground := Ground.phase }], guard := none }]
def SC (bx : Nat) (t : Tr) (o : Option Addr) (c : Nat) : World → Prop := fun V => V.heap[bx]? = some (.cells #[.int .i64 t.op, .int .i64 t.a, .int .i64 t.n, .int .i64 t.m, .string t.s, .slice o t.ks.length c] 24 (0, 0))
def R4 (X0 X8 : Value) (t : Tr) (o : Option Addr) (c : Nat) (w : World) (bx : Nat) : Act → World → Prop := fun a V => ∃ (b3 b4 mc : Nat) (co : Option Addr) (cc : Nat) (po : Option Addr) (pc : Nat), a = { tmps := #[X0, .pointer (some ⟨bx, 0, none⟩), .bool false, .pointer (some ⟨b3, 0, none⟩), .pointer (some ⟨b4, 0, none⟩), undef, .bool true, .bool false, X8, .agg #[.int .i64 t.op, .int .i64 t.a, .int .i64 t.n, .int .i64 t.m, .string t.s, .slice o t.ks.length c], .agg #[.int .i64 t.op, .int .i64 t.a, .int .i64 t.n, .int .i64 t.m, .string t.s, .slice o t.ks.length c], .agg #[.int .i64 t.op, .int .i64 t.a, .int .i64 t.n, .int .i64 t.m, .string t.s, .slice co t.ks.length cc], .agg #[.int .i64 t.op, .int .i64 t.a, .int .i64 t.n, .int .i64 t.m, .string t.s, .slice o t.ks.length c], .agg #[.int .i64 t.pl.op, .int .i64 t.pl.a, .int .i64 t.pl.n, .int .i64 t.pl.m, .string t.pl.s, .slice po t.pl.ks.length pc], undef, undef, undef, undef, undef, undef, undef, undef, undef, undef, undef, undef, undef, undef, undef, undef, undef, undef, undef, undef, undef, undef, undef, undef, undef, undef, undef, undef, undef, undef, undef, undef, undef, undef, undef, undef, undef, undef, undef, undef, undef, undef, undef, undef, undef, undef, undef, undef, undef, undef, undef, undef, undef, undef, undef, undef, undef, undef, undef, undef, undef, undef, undef], defers := [] } ∧ Below w.heap.size w V ∧ V.heap[bx]? = some (.cells #[.int .i64 t.op, .int .i64 t.a, .int .i64 t.n, .int .i64 t.m, .string t.s, .slice o t.ks.length c] 24 (0, 0)) ∧ w.heap.size ≤ b3 ∧ w.heap.size ≤ b4 ∧ b3 ≠ b4 ∧ V.heap[b3]? = some (.cells #[.int .i64 t.op, .int .i64 t.a, .int .i64 t.n, .int .i64 t.m, .string t.s, .slice co t.ks.length cc] 24 (0, 0)) ∧ V.heap[b4]? = some (.cells #[.int .i64 t.pl.op, .int .i64 t.pl.a, .int .i64 t.pl.n, .int .i64 t.pl.m, .string t.pl.s, .slice po t.pl.ks.length pc] 24 (0, 0)) ∧ TIn V (FC w mc [b3, b4]) t (.slice co t.ks.length cc) ∧ TIn V (FP mc [b3, b4]) t.pl (.slice po t.pl.ks.length pc) ∧ UC V [b3, b4] co ∧ UC V [b3, b4] po

set_option linter.unusedVariables false in
set_option maxRecDepth 100000 in
set_option maxHeartbeats 2000000 in
theorem cp_411 (Q : Exit → Act → World → Prop) (X0 X8 : Value) (t : Tr) (o : Option Addr) (c : Nat) (w : World) (bx : Nat) (lbx : bx < w.heap.size) (HR : Hid (∀ a V, R4 X0 X8 t o c w bx a V → Q .normal a V)) (HC : Hid (∀ W, Below w.heap.size w W → Calls Tryd.prog 8 #[.agg #[.int .i64 t.op, .int .i64 t.a, .int .i64 t.n, .int .i64 t.m, .string t.s, .slice o t.ks.length c]] W (PlPost2 W t))) (HP : Hid (∀ W, Below w.heap.size w W → Calls Tryd.prog 9 #[.agg #[.int .i64 t.op, .int .i64 t.a, .int .i64 t.n, .int .i64 t.m, .string t.s, .slice o t.ks.length c]] W (PlPost2 W t.pl))) (V : World) (BV : Below w.heap.size w V) (fxV : V.heap[bx]? = some (.cells #[.int .i64 t.op, .int .i64 t.a, .int .i64 t.n, .int .i64 t.m, .string t.s, .slice o t.ks.length c] 24 (0, 0))) (b3 : Nat) (l3 : w.heap.size ≤ b3) (b4 : Nat) (l4 : w.heap.size ≤ b4) (n34 : b3 ≠ b4) (mc : Nat) (co : Option Addr) (cc : Nat) (hmc : mc ≤ V.heap.size) (tcV : TIn V (FC w mc [b3, b4]) t (.slice co t.ks.length cc)) (ucV : UC V [b3, b4] co) (po : Option Addr) (pc : Nat) (tpV : TIn V (FP mc [b3, b4]) t.pl (.slice po t.pl.ks.length pc)) (upV : UC V [b3, b4] po) (g3V : V.heap[b3]? = some (.cells #[.int .i64 t.op, .int .i64 t.a, .int .i64 t.n, .int .i64 t.m, .string t.s, .slice co t.ks.length cc] 24 (0, 0))) (g4V : V.heap[b4]? = some (.cells #[.int .i64 t.pl.op, .int .i64 t.pl.a, .int .i64 t.pl.n, .int .i64 t.pl.m, .string t.pl.s, .slice po t.pl.ks.length pc] 24 (0, 0))) : wpAnyH Tryd.prog .any opsC Q (SC bx t o c) 0 #[true, true, true, true, true, true, true, true] { tmps := #[X0, .pointer (some ⟨bx, 0, none⟩), .bool false, .pointer (some ⟨b3, 0, none⟩), .pointer (some ⟨b4, 0, none⟩), undef, .bool true, .bool false, X8, .agg #[.int .i64 t.op, .int .i64 t.a, .int .i64 t.n, .int .i64 t.m, .string t.s, .slice o t.ks.length c], .agg #[.int .i64 t.op, .int .i64 t.a, .int .i64 t.n, .int .i64 t.m, .string t.s, .slice o t.ks.length c], .agg #[.int .i64 t.op, .int .i64 t.a, .int .i64 t.n, .int .i64 t.m, .string t.s, .slice co t.ks.length cc], .agg #[.int .i64 t.op, .int .i64 t.a, .int .i64 t.n, .int .i64 t.m, .string t.s, .slice o t.ks.length c], .agg #[.int .i64 t.pl.op, .int .i64 t.pl.a, .int .i64 t.pl.n, .int .i64 t.pl.m, .string t.pl.s, .slice po t.pl.ks.length pc], undef, undef, undef, undef, undef, undef, undef, undef, undef, undef, undef, undef, undef, undef, undef, undef, undef, undef, undef, undef, undef, undef, undef, undef, undef, undef, undef, undef, undef, undef, undef, undef, undef, undef, undef, undef, undef, undef, undef, undef, undef, undef, undef, undef, undef, undef, undef, undef, undef, undef, undef, undef, undef, undef, undef, undef, undef, undef, undef, undef, undef, undef, undef], defers := [] } V := by
  refine wpAnyH_done (by kernel_rfl) ?_ _
  exact HR.out _ _ ⟨b3, b4, mc, co, cc, po, pc, rfl, BV, fxV, l3, l4, n34, g3V, g4V, tcV, tpV, ucV, upV⟩

set_option linter.unusedVariables false in
set_option maxRecDepth 100000 in
set_option maxHeartbeats 2000000 in
theorem cp_311 (Q : Exit → Act → World → Prop) (X0 X8 : Value) (t : Tr) (o : Option Addr) (c : Nat) (w : World) (bx : Nat) (lbx : bx < w.heap.size) (HR : Hid (∀ a V, R4 X0 X8 t o c w bx a V → Q .normal a V)) (HC : Hid (∀ W, Below w.heap.size w W → Calls Tryd.prog 8 #[.agg #[.int .i64 t.op, .int .i64 t.a, .int .i64 t.n, .int .i64 t.m, .string t.s, .slice o t.ks.length c]] W (PlPost2 W t))) (HP : Hid (∀ W, Below w.heap.size w W → Calls Tryd.prog 9 #[.agg #[.int .i64 t.op, .int .i64 t.a, .int .i64 t.n, .int .i64 t.m, .string t.s, .slice o t.ks.length c]] W (PlPost2 W t.pl))) (V : World) (BV : Below w.heap.size w V) (fxV : V.heap[bx]? = some (.cells #[.int .i64 t.op, .int .i64 t.a, .int .i64 t.n, .int .i64 t.m, .string t.s, .slice o t.ks.length c] 24 (0, 0))) (b3 : Nat) (l3 : w.heap.size ≤ b3) (b4 : Nat) (l4 : w.heap.size ≤ b4) (n34 : b3 ≠ b4) (mc : Nat) (co : Option Addr) (cc : Nat) (hmc : mc ≤ V.heap.size) (tcV : TIn V (FC w mc [b3, b4]) t (.slice co t.ks.length cc)) (ucV : UC V [b3, b4] co) (po : Option Addr) (pc : Nat) (tpV : TIn V (FP mc [b3, b4]) t.pl (.slice po t.pl.ks.length pc)) (upV : UC V [b3, b4] po) (g3V : V.heap[b3]? = some (.cells #[.int .i64 t.op, .int .i64 t.a, .int .i64 t.n, .int .i64 t.m, .string t.s, .slice co t.ks.length cc] 24 (0, 0))) (g4V : V.heap[b4]? = some (.cells #[.int .i64 0, .int .i64 0, .int .i64 0, .int .i64 0, .string ⟨#[]⟩, .slice none 0 0] 24 (0, 0))) : wpAnyH Tryd.prog .any opsC Q (SC bx t o c) 1 #[true, true, true, true, true, true, true, false] { tmps := #[X0, .pointer (some ⟨bx, 0, none⟩), .bool false, .pointer (some ⟨b3, 0, none⟩), .pointer (some ⟨b4, 0, none⟩), undef, .bool true, .bool false, X8, .agg #[.int .i64 t.op, .int .i64 t.a, .int .i64 t.n, .int .i64 t.m, .string t.s, .slice o t.ks.length c], .agg #[.int .i64 t.op, .int .i64 t.a, .int .i64 t.n, .int .i64 t.m, .string t.s, .slice o t.ks.length c], .agg #[.int .i64 t.op, .int .i64 t.a, .int .i64 t.n, .int .i64 t.m, .string t.s, .slice co t.ks.length cc], .agg #[.int .i64 t.op, .int .i64 t.a, .int .i64 t.n, .int .i64 t.m, .string t.s, .slice o t.ks.length c], .agg #[.int .i64 t.pl.op, .int .i64 t.pl.a, .int .i64 t.pl.n, .int .i64 t.pl.m, .string t.pl.s, .slice po t.pl.ks.length pc], undef, undef, undef, undef, undef, undef, undef, undef, undef, undef, undef, undef, undef, undef, undef, undef, undef, undef, undef, undef, undef, undef, undef, undef, undef, undef, undef, undef, undef, undef, undef, undef, undef, undef, undef, undef, undef, undef, undef, undef, undef, undef, undef, undef, undef, undef, undef, undef, undef, undef, undef, undef, undef, undef, undef, undef, undef, undef, undef, undef, undef, undef, undef], defers := [] } V := by
  refine wpAnyH_ready (rs := [7]) (by kernel_rfl) (by simp) ?_
  refine AllReadyH.cons (o := { dst := none, op := Op.store 24 (Operand.tmp 4) (Operand.tmp 13), type := 0, pos := "law.go:53", after := #[{ on := 5, ground := Ground.data }, { on := 3, ground := Ground.data }, { on := 6, ground := Ground.chain }, { on := 0, ground := Ground.phase }, { on := 1, ground := Ground.phase }, { on := 2, ground := Ground.phase }, { on := 3, ground := Ground.phase }, { on := 4, ground := Ground.phase }, { on := 5, ground := Ground.phase }, { on := 6, ground := Ground.phase }], guard := none }) rfl (fun K hK => ?_) ?_
  · replace hK := Lib.hid hK
    obtain ⟨⟨q0, q1, q2, q3, q4, q5⟩, ⟨z0, z1, z2, z3, z4, z5⟩, _⟩ := c_six g4V
    go_simp
    obtain ⟨v1, e1⟩ : ∃ U, U = st6 V b4 0 (.int .i64 t.pl.op) (.int .i64 t.pl.a) (.int .i64 t.pl.n) (.int .i64 t.pl.m) (.string t.pl.s) (.slice po t.pl.ks.length pc) := ⟨_, rfl⟩
    have B1 : Below w.heap.size w v1 := by rw [e1]; exact c_st6 BV l4
    have hgr : V.grownBy v1 (some b4) := by rw [e1]; exact st6_grown _ _ _ _ _ _ _ _ _
    have fx1 : v1.heap[bx]? = some (.cells #[.int .i64 t.op, .int .i64 t.a, .int .i64 t.n, .int .i64 t.m, .string t.s, .slice o t.ks.length c] 24 (0, 0)) := by rw [e1]; exact (st6_heap _ _ _ _ _ _ _ _ _ _ (by omega)).trans fxV
    have g41 := by have h := g4V; exact c_set6 (.int .i64 t.pl.op) (.int .i64 t.pl.a) (.int .i64 t.pl.n) (.int .i64 t.pl.m) (.string t.pl.s) (.slice po t.pl.ks.length pc) h
    rw [← e1] at g41
    have g31 : v1.heap[b3]? = some (.cells #[.int .i64 t.op, .int .i64 t.a, .int .i64 t.n, .int .i64 t.m, .string t.s, .slice co t.ks.length cc] 24 (0, 0)) := by rw [e1]; exact (st6_heap _ _ _ _ _ _ _ _ _ _ (by omega)).trans g3V
    have tc1 : TIn v1 (FC w mc [b3, b4]) t (.slice co t.ks.length cc) := tin_grown tcV hgr (fun b _ hs e => hs.2.2 (by have := Option.some.inj e; simp [this]))
    have hmc1 : mc ≤ v1.heap.size := Nat.le_trans hmc hgr.size
    have tp1 : TIn v1 (FP mc [b3, b4]) t.pl (.slice po t.pl.ks.length pc) := tin_grown tpV hgr (fun b _ hs e => hs.2 (by have := Option.some.inj e; simp [this]))
    have uc1 : UC v1 [b3, b4] co := by rw [e1]; exact uc_st6 ucV (by simp)
    have up1 : UC v1 [b3, b4] po := by rw [e1]; exact uc_st6 upV (by simp)
    change K _ (st6 V b4 0 (.int .i64 t.pl.op) (.int .i64 t.pl.a) (.int .i64 t.pl.n) (.int .i64 t.pl.m) (.string t.pl.s) (.slice po t.pl.ks.length pc))
    rw [← e1]
    refine hK.out _ _ (by exact fx1) (fun _ => ?_)
    exact cp_411 Q X0 X8 t o c w bx lbx HR HC HP v1 B1 fx1 b3 l3 b4 l4 n34 mc co cc hmc1 tc1 uc1 po pc tp1 up1 g31 g41
  · exact AllReadyH.nil

set_option linter.unusedVariables false in
set_option maxRecDepth 100000 in
set_option maxHeartbeats 2000000 in
theorem cp_211 (Q : Exit → Act → World → Prop) (X0 X8 : Value) (t : Tr) (o : Option Addr) (c : Nat) (w : World) (bx : Nat) (lbx : bx < w.heap.size) (HR : Hid (∀ a V, R4 X0 X8 t o c w bx a V → Q .normal a V)) (HC : Hid (∀ W, Below w.heap.size w W → Calls Tryd.prog 8 #[.agg #[.int .i64 t.op, .int .i64 t.a, .int .i64 t.n, .int .i64 t.m, .string t.s, .slice o t.ks.length c]] W (PlPost2 W t))) (HP : Hid (∀ W, Below w.heap.size w W → Calls Tryd.prog 9 #[.agg #[.int .i64 t.op, .int .i64 t.a, .int .i64 t.n, .int .i64 t.m, .string t.s, .slice o t.ks.length c]] W (PlPost2 W t.pl))) (V : World) (BV : Below w.heap.size w V) (fxV : V.heap[bx]? = some (.cells #[.int .i64 t.op, .int .i64 t.a, .int .i64 t.n, .int .i64 t.m, .string t.s, .slice o t.ks.length c] 24 (0, 0))) (b3 : Nat) (l3 : w.heap.size ≤ b3) (b4 : Nat) (l4 : w.heap.size ≤ b4) (n34 : b3 ≠ b4) (mc : Nat) (co : Option Addr) (cc : Nat) (hmc : mc ≤ V.heap.size) (tcV : TIn V (FC w mc [b3, b4]) t (.slice co t.ks.length cc)) (ucV : UC V [b3, b4] co) (po : Option Addr) (pc : Nat) (tpV : TIn V (FP mc [b3, b4]) t.pl (.slice po t.pl.ks.length pc)) (upV : UC V [b3, b4] po) (g3V : V.heap[b3]? = some (.cells #[.int .i64 0, .int .i64 0, .int .i64 0, .int .i64 0, .string ⟨#[]⟩, .slice none 0 0] 24 (0, 0))) (g4V : V.heap[b4]? = some (.cells #[.int .i64 0, .int .i64 0, .int .i64 0, .int .i64 0, .string ⟨#[]⟩, .slice none 0 0] 24 (0, 0))) : wpAnyH Tryd.prog .any opsC Q (SC bx t o c) 2 #[true, true, true, true, true, true, false, false] { tmps := #[X0, .pointer (some ⟨bx, 0, none⟩), .bool false, .pointer (some ⟨b3, 0, none⟩), .pointer (some ⟨b4, 0, none⟩), undef, .bool true, .bool false, X8, .agg #[.int .i64 t.op, .int .i64 t.a, .int .i64 t.n, .int .i64 t.m, .string t.s, .slice o t.ks.length c], .agg #[.int .i64 t.op, .int .i64 t.a, .int .i64 t.n, .int .i64 t.m, .string t.s, .slice o t.ks.length c], .agg #[.int .i64 t.op, .int .i64 t.a, .int .i64 t.n, .int .i64 t.m, .string t.s, .slice co t.ks.length cc], .agg #[.int .i64 t.op, .int .i64 t.a, .int .i64 t.n, .int .i64 t.m, .string t.s, .slice o t.ks.length c], .agg #[.int .i64 t.pl.op, .int .i64 t.pl.a, .int .i64 t.pl.n, .int .i64 t.pl.m, .string t.pl.s, .slice po t.pl.ks.length pc], undef, undef, undef, undef, undef, undef, undef, undef, undef, undef, undef, undef, undef, undef, undef, undef, undef, undef, undef, undef, undef, undef, undef, undef, undef, undef, undef, undef, undef, undef, undef, undef, undef, undef, undef, undef, undef, undef, undef, undef, undef, undef, undef, undef, undef, undef, undef, undef, undef, undef, undef, undef, undef, undef, undef, undef, undef, undef, undef, undef, undef, undef, undef], defers := [] } V := by
  refine wpAnyH_ready (rs := [6]) (by kernel_rfl) (by simp) ?_
  refine AllReadyH.cons (o := { dst := none, op := Op.store 24 (Operand.tmp 3) (Operand.tmp 11), type := 0, pos := "law.go:53", after := #[{ on := 4, ground := Ground.data }, { on := 1, ground := Ground.data }, { on := 3, ground := Ground.chain }, { on := 0, ground := Ground.phase }, { on := 1, ground := Ground.phase }, { on := 2, ground := Ground.textOnly Departure.lateStores }, { on := 3, ground := Ground.textOnly Departure.lateStoresUnsure }, { on := 4, ground := Ground.phase }, { on := 5, ground := Ground.phase }], guard := none }) rfl (fun K hK => ?_) ?_
  · replace hK := Lib.hid hK
    obtain ⟨⟨q0, q1, q2, q3, q4, q5⟩, ⟨z0, z1, z2, z3, z4, z5⟩, _⟩ := c_six g3V
    go_simp
    obtain ⟨v1, e1⟩ : ∃ U, U = st6 V b3 0 (.int .i64 t.op) (.int .i64 t.a) (.int .i64 t.n) (.int .i64 t.m) (.string t.s) (.slice co t.ks.length cc) := ⟨_, rfl⟩
    have B1 : Below w.heap.size w v1 := by rw [e1]; exact c_st6 BV l3
    have hgr : V.grownBy v1 (some b3) := by rw [e1]; exact st6_grown _ _ _ _ _ _ _ _ _
    have fx1 : v1.heap[bx]? = some (.cells #[.int .i64 t.op, .int .i64 t.a, .int .i64 t.n, .int .i64 t.m, .string t.s, .slice o t.ks.length c] 24 (0, 0)) := by rw [e1]; exact (st6_heap _ _ _ _ _ _ _ _ _ _ (by omega)).trans fxV
    have g31 := by have h := g3V; exact c_set6 (.int .i64 t.op) (.int .i64 t.a) (.int .i64 t.n) (.int .i64 t.m) (.string t.s) (.slice co t.ks.length cc) h
    rw [← e1] at g31
    have g41 : v1.heap[b4]? = some (.cells #[.int .i64 0, .int .i64 0, .int .i64 0, .int .i64 0, .string ⟨#[]⟩, .slice none 0 0] 24 (0, 0)) := by rw [e1]; exact (st6_heap _ _ _ _ _ _ _ _ _ _ (by omega)).trans g4V
    have tc1 : TIn v1 (FC w mc [b3, b4]) t (.slice co t.ks.length cc) := tin_grown tcV hgr (fun b _ hs e => hs.2.2 (by have := Option.some.inj e; simp [this]))
    have hmc1 : mc ≤ v1.heap.size := Nat.le_trans hmc hgr.size
    have tp1 : TIn v1 (FP mc [b3, b4]) t.pl (.slice po t.pl.ks.length pc) := tin_grown tpV hgr (fun b _ hs e => hs.2 (by have := Option.some.inj e; simp [this]))
    have uc1 : UC v1 [b3, b4] co := by rw [e1]; exact uc_st6 ucV (by simp)
    have up1 : UC v1 [b3, b4] po := by rw [e1]; exact uc_st6 upV (by simp)
    change K _ (st6 V b3 0 (.int .i64 t.op) (.int .i64 t.a) (.int .i64 t.n) (.int .i64 t.m) (.string t.s) (.slice co t.ks.length cc))
    rw [← e1]
    refine hK.out _ _ (by exact fx1) (fun _ => ?_)
    exact cp_311 Q X0 X8 t o c w bx lbx HR HC HP v1 B1 fx1 b3 l3 b4 l4 n34 mc co cc hmc1 tc1 uc1 po pc tp1 up1 g31 g41
  · exact AllReadyH.nil

set_option linter.unusedVariables false in
set_option maxRecDepth 100000 in
set_option maxHeartbeats 2000000 in
theorem cp_210 (Q : Exit → Act → World → Prop) (X0 X8 : Value) (t : Tr) (o : Option Addr) (c : Nat) (w : World) (bx : Nat) (lbx : bx < w.heap.size) (HR : Hid (∀ a V, R4 X0 X8 t o c w bx a V → Q .normal a V)) (HC : Hid (∀ W, Below w.heap.size w W → Calls Tryd.prog 8 #[.agg #[.int .i64 t.op, .int .i64 t.a, .int .i64 t.n, .int .i64 t.m, .string t.s, .slice o t.ks.length c]] W (PlPost2 W t))) (HP : Hid (∀ W, Below w.heap.size w W → Calls Tryd.prog 9 #[.agg #[.int .i64 t.op, .int .i64 t.a, .int .i64 t.n, .int .i64 t.m, .string t.s, .slice o t.ks.length c]] W (PlPost2 W t.pl))) (V : World) (BV : Below w.heap.size w V) (fxV : V.heap[bx]? = some (.cells #[.int .i64 t.op, .int .i64 t.a, .int .i64 t.n, .int .i64 t.m, .string t.s, .slice o t.ks.length c] 24 (0, 0))) (b3 : Nat) (l3 : w.heap.size ≤ b3) (mc : Nat) (co : Option Addr) (cc : Nat) (hmc : mc ≤ V.heap.size) (tcV : TIn V (FC w mc [b3]) t (.slice co t.ks.length cc)) (ucV : UC V [b3] co) (po : Option Addr) (pc : Nat) (tpV : TIn V (FP mc [b3]) t.pl (.slice po t.pl.ks.length pc)) (upV : UC V [b3] po) (g3V : V.heap[b3]? = some (.cells #[.int .i64 0, .int .i64 0, .int .i64 0, .int .i64 0, .string ⟨#[]⟩, .slice none 0 0] 24 (0, 0))) : wpAnyH Tryd.prog .any opsC Q (SC bx t o c) 3 #[true, true, true, true, true, false, false, false] { tmps := #[X0, .pointer (some ⟨bx, 0, none⟩), .bool false, .pointer (some ⟨b3, 0, none⟩), undef, undef, .bool true, .bool false, X8, .agg #[.int .i64 t.op, .int .i64 t.a, .int .i64 t.n, .int .i64 t.m, .string t.s, .slice o t.ks.length c], .agg #[.int .i64 t.op, .int .i64 t.a, .int .i64 t.n, .int .i64 t.m, .string t.s, .slice o t.ks.length c], .agg #[.int .i64 t.op, .int .i64 t.a, .int .i64 t.n, .int .i64 t.m, .string t.s, .slice co t.ks.length cc], .agg #[.int .i64 t.op, .int .i64 t.a, .int .i64 t.n, .int .i64 t.m, .string t.s, .slice o t.ks.length c], .agg #[.int .i64 t.pl.op, .int .i64 t.pl.a, .int .i64 t.pl.n, .int .i64 t.pl.m, .string t.pl.s, .slice po t.pl.ks.length pc], undef, undef, undef, undef, undef, undef, undef, undef, undef, undef, undef, undef, undef, undef, undef, undef, undef, undef, undef, undef, undef, undef, undef, undef, undef, undef, undef, undef, undef, undef, undef, undef, undef, undef, undef, undef, undef, undef, undef, undef, undef, undef, undef, undef, undef, undef, undef, undef, undef, undef, undef, undef, undef, undef, undef, undef, undef, undef, undef, undef, undef, undef, undef], defers := [] } V := by
  refine wpAnyH_ready (rs := [5]) (by kernel_rfl) (by simp) ?_
  refine AllReadyH.cons (o := { dst := some 4, op := Op.alloc 24, type := 0, pos := "law.go:53", after := #[], guard := none }) rfl (fun K hK => ?_) ?_
  · replace hK := Lib.hid hK
    go_simp
    obtain ⟨v1, e1⟩ : ∃ U, U = World.alloc V (.cells #[.int .i64 0, .int .i64 0, .int .i64 0, .int .i64 0, .string ⟨#[]⟩, .slice none 0 0] 24) := ⟨_, rfl⟩
    obtain ⟨b4, e2⟩ : ∃ b : Nat, b = V.heap.size := ⟨_, rfl⟩
    have hb : Below V.heap.size V v1 := by rw [e1]; exact c_box V _
    have B1 : Below w.heap.size w v1 := c_thr BV hb BV.size
    have fx1 := c_kept hb (c_lt fxV) fxV
    have g31 := c_kept hb (c_lt g3V) g3V
    have g41 : v1.heap[b4]? = some (.cells #[.int .i64 0, .int .i64 0, .int .i64 0, .int .i64 0, .string ⟨#[]⟩, .slice none 0 0] 24 (0, 0)) := by rw [e1, e2]; exact heap_alloc_new _ _
    have l4 : w.heap.size ≤ b4 := by rw [e2]; exact BV.size
    have n34 : b3 ≠ b4 := by have := c_lt g3V; omega
    have tc1 : TIn v1 (FC w mc [b3, b4]) t (.slice co t.ks.length cc) := by rw [e1]; exact fc_alloc tcV (fun y hy => by simp at hy ⊢; omega)
    have hmc1 : mc ≤ v1.heap.size := Nat.le_trans hmc hb.size
    have uc1 : UC v1 [b3, b4] co := by rw [e1]; exact uc_alloc ucV (fun y hy => by simp at hy ⊢; omega)
    have tp1 : TIn v1 (FP mc [b3, b4]) t.pl (.slice po t.pl.ks.length pc) := by rw [e1]; exact fp_alloc tpV (fun y hy => by simp at hy ⊢; omega)
    have up1 : UC v1 [b3, b4] po := by rw [e1]; exact uc_alloc upV (fun y hy => by simp at hy ⊢; omega)
    simp only [← e1, ← e2]
    refine hK.out _ _ (by exact fx1) (fun _ => ?_)
    exact cp_211 Q X0 X8 t o c w bx lbx HR HC HP v1 B1 fx1 b3 l3 b4 l4 n34 mc co cc hmc1 tc1 uc1 po pc tp1 up1 g31 g41
  · exact AllReadyH.nil

set_option linter.unusedVariables false in
set_option maxRecDepth 100000 in
set_option maxHeartbeats 2000000 in
theorem cp_201 (Q : Exit → Act → World → Prop) (X0 X8 : Value) (t : Tr) (o : Option Addr) (c : Nat) (w : World) (bx : Nat) (lbx : bx < w.heap.size) (HR : Hid (∀ a V, R4 X0 X8 t o c w bx a V → Q .normal a V)) (HC : Hid (∀ W, Below w.heap.size w W → Calls Tryd.prog 8 #[.agg #[.int .i64 t.op, .int .i64 t.a, .int .i64 t.n, .int .i64 t.m, .string t.s, .slice o t.ks.length c]] W (PlPost2 W t))) (HP : Hid (∀ W, Below w.heap.size w W → Calls Tryd.prog 9 #[.agg #[.int .i64 t.op, .int .i64 t.a, .int .i64 t.n, .int .i64 t.m, .string t.s, .slice o t.ks.length c]] W (PlPost2 W t.pl))) (V : World) (BV : Below w.heap.size w V) (fxV : V.heap[bx]? = some (.cells #[.int .i64 t.op, .int .i64 t.a, .int .i64 t.n, .int .i64 t.m, .string t.s, .slice o t.ks.length c] 24 (0, 0))) (b4 : Nat) (l4 : w.heap.size ≤ b4) (mc : Nat) (co : Option Addr) (cc : Nat) (hmc : mc ≤ V.heap.size) (tcV : TIn V (FC w mc [b4]) t (.slice co t.ks.length cc)) (ucV : UC V [b4] co) (po : Option Addr) (pc : Nat) (tpV : TIn V (FP mc [b4]) t.pl (.slice po t.pl.ks.length pc)) (upV : UC V [b4] po) (g4V : V.heap[b4]? = some (.cells #[.int .i64 0, .int .i64 0, .int .i64 0, .int .i64 0, .string ⟨#[]⟩, .slice none 0 0] 24 (0, 0))) : wpAnyH Tryd.prog .any opsC Q (SC bx t o c) 3 #[true, true, true, true, false, true, false, false] { tmps := #[X0, .pointer (some ⟨bx, 0, none⟩), .bool false, undef, .pointer (some ⟨b4, 0, none⟩), undef, .bool true, .bool false, X8, .agg #[.int .i64 t.op, .int .i64 t.a, .int .i64 t.n, .int .i64 t.m, .string t.s, .slice o t.ks.length c], .agg #[.int .i64 t.op, .int .i64 t.a, .int .i64 t.n, .int .i64 t.m, .string t.s, .slice o t.ks.length c], .agg #[.int .i64 t.op, .int .i64 t.a, .int .i64 t.n, .int .i64 t.m, .string t.s, .slice co t.ks.length cc], .agg #[.int .i64 t.op, .int .i64 t.a, .int .i64 t.n, .int .i64 t.m, .string t.s, .slice o t.ks.length c], .agg #[.int .i64 t.pl.op, .int .i64 t.pl.a, .int .i64 t.pl.n, .int .i64 t.pl.m, .string t.pl.s, .slice po t.pl.ks.length pc], undef, undef, undef, undef, undef, undef, undef, undef, undef, undef, undef, undef, undef, undef, undef, undef, undef, undef, undef, undef, undef, undef, undef, undef, undef, undef, undef, undef, undef, undef, undef, undef, undef, undef, undef, undef, undef, undef, undef, undef, undef, undef, undef, undef, undef, undef, undef, undef, undef, undef, undef, undef, undef, undef, undef, undef, undef, undef, undef, undef, undef, undef, undef], defers := [] } V := by
  refine wpAnyH_ready (rs := [4]) (by kernel_rfl) (by simp) ?_
  refine AllReadyH.cons (o := { dst := some 3, op := Op.alloc 24, type := 0, pos := "law.go:53", after := #[], guard := none }) rfl (fun K hK => ?_) ?_
  · replace hK := Lib.hid hK
    go_simp
    obtain ⟨v1, e1⟩ : ∃ U, U = World.alloc V (.cells #[.int .i64 0, .int .i64 0, .int .i64 0, .int .i64 0, .string ⟨#[]⟩, .slice none 0 0] 24) := ⟨_, rfl⟩
    obtain ⟨b3, e2⟩ : ∃ b : Nat, b = V.heap.size := ⟨_, rfl⟩
    have hb : Below V.heap.size V v1 := by rw [e1]; exact c_box V _
    have B1 : Below w.heap.size w v1 := c_thr BV hb BV.size
    have fx1 := c_kept hb (c_lt fxV) fxV
    have g41 := c_kept hb (c_lt g4V) g4V
    have g31 : v1.heap[b3]? = some (.cells #[.int .i64 0, .int .i64 0, .int .i64 0, .int .i64 0, .string ⟨#[]⟩, .slice none 0 0] 24 (0, 0)) := by rw [e1, e2]; exact heap_alloc_new _ _
    have l3 : w.heap.size ≤ b3 := by rw [e2]; exact BV.size
    have n34 : b3 ≠ b4 := by have := c_lt g4V; omega
    have tc1 : TIn v1 (FC w mc [b3, b4]) t (.slice co t.ks.length cc) := by rw [e1]; exact fc_alloc tcV (fun y hy => by simp at hy ⊢; omega)
    have hmc1 : mc ≤ v1.heap.size := Nat.le_trans hmc hb.size
    have uc1 : UC v1 [b3, b4] co := by rw [e1]; exact uc_alloc ucV (fun y hy => by simp at hy ⊢; omega)
    have tp1 : TIn v1 (FP mc [b3, b4]) t.pl (.slice po t.pl.ks.length pc) := by rw [e1]; exact fp_alloc tpV (fun y hy => by simp at hy ⊢; omega)
    have up1 : UC v1 [b3, b4] po := by rw [e1]; exact uc_alloc upV (fun y hy => by simp at hy ⊢; omega)
    simp only [← e1, ← e2]
    refine hK.out _ _ (by exact fx1) (fun _ => ?_)
    exact cp_211 Q X0 X8 t o c w bx lbx HR HC HP v1 B1 fx1 b3 l3 b4 l4 n34 mc co cc hmc1 tc1 uc1 po pc tp1 up1 g31 g41
  · exact AllReadyH.nil

set_option linter.unusedVariables false in
set_option maxRecDepth 100000 in
set_option maxHeartbeats 2000000 in
theorem cp_200 (Q : Exit → Act → World → Prop) (X0 X8 : Value) (t : Tr) (o : Option Addr) (c : Nat) (w : World) (bx : Nat) (lbx : bx < w.heap.size) (HR : Hid (∀ a V, R4 X0 X8 t o c w bx a V → Q .normal a V)) (HC : Hid (∀ W, Below w.heap.size w W → Calls Tryd.prog 8 #[.agg #[.int .i64 t.op, .int .i64 t.a, .int .i64 t.n, .int .i64 t.m, .string t.s, .slice o t.ks.length c]] W (PlPost2 W t))) (HP : Hid (∀ W, Below w.heap.size w W → Calls Tryd.prog 9 #[.agg #[.int .i64 t.op, .int .i64 t.a, .int .i64 t.n, .int .i64 t.m, .string t.s, .slice o t.ks.length c]] W (PlPost2 W t.pl))) (V : World) (BV : Below w.heap.size w V) (fxV : V.heap[bx]? = some (.cells #[.int .i64 t.op, .int .i64 t.a, .int .i64 t.n, .int .i64 t.m, .string t.s, .slice o t.ks.length c] 24 (0, 0))) (mc : Nat) (co : Option Addr) (cc : Nat) (hmc : mc ≤ V.heap.size) (tcV : TIn V (FC w mc []) t (.slice co t.ks.length cc)) (ucV : UC V [] co) (po : Option Addr) (pc : Nat) (tpV : TIn V (FP mc []) t.pl (.slice po t.pl.ks.length pc)) (upV : UC V [] po) : wpAnyH Tryd.prog .any opsC Q (SC bx t o c) 4 #[true, true, true, true, false, false, false, false] { tmps := #[X0, .pointer (some ⟨bx, 0, none⟩), .bool false, undef, undef, undef, .bool true, .bool false, X8, .agg #[.int .i64 t.op, .int .i64 t.a, .int .i64 t.n, .int .i64 t.m, .string t.s, .slice o t.ks.length c], .agg #[.int .i64 t.op, .int .i64 t.a, .int .i64 t.n, .int .i64 t.m, .string t.s, .slice o t.ks.length c], .agg #[.int .i64 t.op, .int .i64 t.a, .int .i64 t.n, .int .i64 t.m, .string t.s, .slice co t.ks.length cc], .agg #[.int .i64 t.op, .int .i64 t.a, .int .i64 t.n, .int .i64 t.m, .string t.s, .slice o t.ks.length c], .agg #[.int .i64 t.pl.op, .int .i64 t.pl.a, .int .i64 t.pl.n, .int .i64 t.pl.m, .string t.pl.s, .slice po t.pl.ks.length pc], undef, undef, undef, undef, undef, undef, undef, undef, undef, undef, undef, undef, undef, undef, undef, undef, undef, undef, undef, undef, undef, undef, undef, undef, undef, undef, undef, undef, undef, undef, undef, undef, undef, undef, undef, undef, undef, undef, undef, undef, undef, undef, undef, undef, undef, undef, undef, undef, undef, undef, undef, undef, undef, undef, undef, undef, undef, undef, undef, undef, undef, undef, undef], defers := [] } V := by
  refine wpAnyH_ready (rs := [4, 5]) (by kernel_rfl) (by simp) ?_
  refine AllReadyH.cons (o := { dst := some 3, op := Op.alloc 24, type := 0, pos := "law.go:53", after := #[], guard := none }) rfl (fun K hK => ?_) ?_
  · replace hK := Lib.hid hK
    go_simp
    obtain ⟨v1, e1⟩ : ∃ U, U = World.alloc V (.cells #[.int .i64 0, .int .i64 0, .int .i64 0, .int .i64 0, .string ⟨#[]⟩, .slice none 0 0] 24) := ⟨_, rfl⟩
    obtain ⟨b3, e2⟩ : ∃ b : Nat, b = V.heap.size := ⟨_, rfl⟩
    have hb : Below V.heap.size V v1 := by rw [e1]; exact c_box V _
    have B1 : Below w.heap.size w v1 := c_thr BV hb BV.size
    have fx1 := c_kept hb (c_lt fxV) fxV
    have g31 : v1.heap[b3]? = some (.cells #[.int .i64 0, .int .i64 0, .int .i64 0, .int .i64 0, .string ⟨#[]⟩, .slice none 0 0] 24 (0, 0)) := by rw [e1, e2]; exact heap_alloc_new _ _
    have l3 : w.heap.size ≤ b3 := by rw [e2]; exact BV.size
    have tc1 : TIn v1 (FC w mc [b3]) t (.slice co t.ks.length cc) := by rw [e1]; exact fc_alloc tcV (fun y hy => by simp at hy ⊢; omega)
    have hmc1 : mc ≤ v1.heap.size := Nat.le_trans hmc hb.size
    have uc1 : UC v1 [b3] co := by rw [e1]; exact uc_alloc ucV (fun y hy => by simp at hy ⊢; omega)
    have tp1 : TIn v1 (FP mc [b3]) t.pl (.slice po t.pl.ks.length pc) := by rw [e1]; exact fp_alloc tpV (fun y hy => by simp at hy ⊢; omega)
    have up1 : UC v1 [b3] po := by rw [e1]; exact uc_alloc upV (fun y hy => by simp at hy ⊢; omega)
    simp only [← e1, ← e2]
    refine hK.out _ _ (by exact fx1) (fun _ => ?_)
    exact cp_210 Q X0 X8 t o c w bx lbx HR HC HP v1 B1 fx1 b3 l3 mc co cc hmc1 tc1 uc1 po pc tp1 up1 g31
  · refine AllReadyH.cons (o := { dst := some 4, op := Op.alloc 24, type := 0, pos := "law.go:53", after := #[], guard := none }) rfl (fun K hK => ?_) ?_
    · replace hK := Lib.hid hK
      go_simp
      obtain ⟨v1, e1⟩ : ∃ U, U = World.alloc V (.cells #[.int .i64 0, .int .i64 0, .int .i64 0, .int .i64 0, .string ⟨#[]⟩, .slice none 0 0] 24) := ⟨_, rfl⟩
      obtain ⟨b4, e2⟩ : ∃ b : Nat, b = V.heap.size := ⟨_, rfl⟩
      have hb : Below V.heap.size V v1 := by rw [e1]; exact c_box V _
      have B1 : Below w.heap.size w v1 := c_thr BV hb BV.size
      have fx1 := c_kept hb (c_lt fxV) fxV
      have g41 : v1.heap[b4]? = some (.cells #[.int .i64 0, .int .i64 0, .int .i64 0, .int .i64 0, .string ⟨#[]⟩, .slice none 0 0] 24 (0, 0)) := by rw [e1, e2]; exact heap_alloc_new _ _
      have l4 : w.heap.size ≤ b4 := by rw [e2]; exact BV.size
      have tc1 : TIn v1 (FC w mc [b4]) t (.slice co t.ks.length cc) := by rw [e1]; exact fc_alloc tcV (fun y hy => by simp at hy ⊢; omega)
      have hmc1 : mc ≤ v1.heap.size := Nat.le_trans hmc hb.size
      have uc1 : UC v1 [b4] co := by rw [e1]; exact uc_alloc ucV (fun y hy => by simp at hy ⊢; omega)
      have tp1 : TIn v1 (FP mc [b4]) t.pl (.slice po t.pl.ks.length pc) := by rw [e1]; exact fp_alloc tpV (fun y hy => by simp at hy ⊢; omega)
      have up1 : UC v1 [b4] po := by rw [e1]; exact uc_alloc upV (fun y hy => by simp at hy ⊢; omega)
      simp only [← e1, ← e2]
      refine hK.out _ _ (by exact fx1) (fun _ => ?_)
      exact cp_201 Q X0 X8 t o c w bx lbx HR HC HP v1 B1 fx1 b4 l4 mc co cc hmc1 tc1 uc1 po pc tp1 up1 g41
    · exact AllReadyH.nil

set_option linter.unusedVariables false in
set_option maxRecDepth 100000 in
set_option maxHeartbeats 2000000 in
theorem cp_111 (Q : Exit → Act → World → Prop) (X0 X8 : Value) (t : Tr) (o : Option Addr) (c : Nat) (w : World) (bx : Nat) (lbx : bx < w.heap.size) (HR : Hid (∀ a V, R4 X0 X8 t o c w bx a V → Q .normal a V)) (HC : Hid (∀ W, Below w.heap.size w W → Calls Tryd.prog 8 #[.agg #[.int .i64 t.op, .int .i64 t.a, .int .i64 t.n, .int .i64 t.m, .string t.s, .slice o t.ks.length c]] W (PlPost2 W t))) (HP : Hid (∀ W, Below w.heap.size w W → Calls Tryd.prog 9 #[.agg #[.int .i64 t.op, .int .i64 t.a, .int .i64 t.n, .int .i64 t.m, .string t.s, .slice o t.ks.length c]] W (PlPost2 W t.pl))) (V : World) (BV : Below w.heap.size w V) (fxV : V.heap[bx]? = some (.cells #[.int .i64 t.op, .int .i64 t.a, .int .i64 t.n, .int .i64 t.m, .string t.s, .slice o t.ks.length c] 24 (0, 0))) (b3 : Nat) (l3 : w.heap.size ≤ b3) (b4 : Nat) (l4 : w.heap.size ≤ b4) (n34 : b3 ≠ b4) (mc : Nat) (co : Option Addr) (cc : Nat) (hmc : mc ≤ V.heap.size) (tcV : TIn V (FC w mc [b3, b4]) t (.slice co t.ks.length cc)) (ucV : UC V [b3, b4] co) (g3V : V.heap[b3]? = some (.cells #[.int .i64 0, .int .i64 0, .int .i64 0, .int .i64 0, .string ⟨#[]⟩, .slice none 0 0] 24 (0, 0))) (g4V : V.heap[b4]? = some (.cells #[.int .i64 0, .int .i64 0, .int .i64 0, .int .i64 0, .string ⟨#[]⟩, .slice none 0 0] 24 (0, 0))) : wpAnyH Tryd.prog .any opsC Q (SC bx t o c) 3 #[true, true, true, false, true, true, false, false] { tmps := #[X0, .pointer (some ⟨bx, 0, none⟩), .bool false, .pointer (some ⟨b3, 0, none⟩), .pointer (some ⟨b4, 0, none⟩), undef, .bool true, .bool false, X8, .agg #[.int .i64 t.op, .int .i64 t.a, .int .i64 t.n, .int .i64 t.m, .string t.s, .slice o t.ks.length c], .agg #[.int .i64 t.op, .int .i64 t.a, .int .i64 t.n, .int .i64 t.m, .string t.s, .slice o t.ks.length c], .agg #[.int .i64 t.op, .int .i64 t.a, .int .i64 t.n, .int .i64 t.m, .string t.s, .slice co t.ks.length cc], .agg #[.int .i64 t.op, .int .i64 t.a, .int .i64 t.n, .int .i64 t.m, .string t.s, .slice o t.ks.length c], undef, undef, undef, undef, undef, undef, undef, undef, undef, undef, undef, undef, undef, undef, undef, undef, undef, undef, undef, undef, undef, undef, undef, undef, undef, undef, undef, undef, undef, undef, undef, undef, undef, undef, undef, undef, undef, undef, undef, undef, undef, undef, undef, undef, undef, undef, undef, undef, undef, undef, undef, undef, undef, undef, undef, undef, undef, undef, undef, undef, undef, undef, undef, undef], defers := [] } V := by
  refine wpAnyH_ready (rs := [3]) (by kernel_rfl) (by simp) ?_
  refine AllReadyH.cons (o := { dst := some 13, op := Op.call { callee := Callee.value (Operand.func 9), args := #[Operand.tmp 12], argTypes := #[24] }, type := 24, pos := "law.go:53", after := #[{ on := 2, ground := Ground.data }, { on := 1, ground := Ground.chain }], guard := none }) rfl (fun K hK => ?_) ?_
  · replace hK := Lib.hid hK
    go_wp2_with fail
    refine (HP.out _ BV).mono ?_
    rintro e v1 ⟨po, ll, pc, rfl, htn, hb, hu⟩
    obtain rfl := tin_len htn
    have B1 : Below w.heap.size w v1 := c_thr BV hb BV.size
    have fx1 := c_kept hb (c_lt fxV) fxV
    have g31 := c_kept hb (c_lt g3V) g3V
    have g41 := c_kept hb (c_lt g4V) g4V
    have tp1 : TIn v1 (FP mc [b3, b4]) t.pl (.slice po t.pl.ks.length pc) := fp_new htn hmc (fun y hy => by simp at hy; rcases hy with rfl | rfl; exact c_lt g3V; exact c_lt g4V)
    have tc1 := tin_kept tcV hb
    have hmc1 : mc ≤ v1.heap.size := Nat.le_trans hmc hb.size
    have up1 : UC v1 [b3, b4] po := uc_new hu (fun y hy => by simp at hy; rcases hy with rfl | rfl; exact c_lt g3V; exact c_lt g4V)
    have uc1 := uc_kept ucV hb
    refine hK.out _ _ (by exact fx1) (fun _ => ?_)
    exact cp_211 Q X0 X8 t o c w bx lbx HR HC HP v1 B1 fx1 b3 l3 b4 l4 n34 mc co cc hmc1 tc1 uc1 po pc tp1 up1 g31 g41
  · exact AllReadyH.nil

set_option linter.unusedVariables false in
set_option maxRecDepth 100000 in
set_option maxHeartbeats 2000000 in
theorem cp_110 (Q : Exit → Act → World → Prop) (X0 X8 : Value) (t : Tr) (o : Option Addr) (c : Nat) (w : World) (bx : Nat) (lbx : bx < w.heap.size) (HR : Hid (∀ a V, R4 X0 X8 t o c w bx a V → Q .normal a V)) (HC : Hid (∀ W, Below w.heap.size w W → Calls Tryd.prog 8 #[.agg #[.int .i64 t.op, .int .i64 t.a, .int .i64 t.n, .int .i64 t.m, .string t.s, .slice o t.ks.length c]] W (PlPost2 W t))) (HP : Hid (∀ W, Below w.heap.size w W → Calls Tryd.prog 9 #[.agg #[.int .i64 t.op, .int .i64 t.a, .int .i64 t.n, .int .i64 t.m, .string t.s, .slice o t.ks.length c]] W (PlPost2 W t.pl))) (V : World) (BV : Below w.heap.size w V) (fxV : V.heap[bx]? = some (.cells #[.int .i64 t.op, .int .i64 t.a, .int .i64 t.n, .int .i64 t.m, .string t.s, .slice o t.ks.length c] 24 (0, 0))) (b3 : Nat) (l3 : w.heap.size ≤ b3) (mc : Nat) (co : Option Addr) (cc : Nat) (hmc : mc ≤ V.heap.size) (tcV : TIn V (FC w mc [b3]) t (.slice co t.ks.length cc)) (ucV : UC V [b3] co) (g3V : V.heap[b3]? = some (.cells #[.int .i64 0, .int .i64 0, .int .i64 0, .int .i64 0, .string ⟨#[]⟩, .slice none 0 0] 24 (0, 0))) : wpAnyH Tryd.prog .any opsC Q (SC bx t o c) 4 #[true, true, true, false, true, false, false, false] { tmps := #[X0, .pointer (some ⟨bx, 0, none⟩), .bool false, .pointer (some ⟨b3, 0, none⟩), undef, undef, .bool true, .bool false, X8, .agg #[.int .i64 t.op, .int .i64 t.a, .int .i64 t.n, .int .i64 t.m, .string t.s, .slice o t.ks.length c], .agg #[.int .i64 t.op, .int .i64 t.a, .int .i64 t.n, .int .i64 t.m, .string t.s, .slice o t.ks.length c], .agg #[.int .i64 t.op, .int .i64 t.a, .int .i64 t.n, .int .i64 t.m, .string t.s, .slice co t.ks.length cc], .agg #[.int .i64 t.op, .int .i64 t.a, .int .i64 t.n, .int .i64 t.m, .string t.s, .slice o t.ks.length c], undef, undef, undef, undef, undef, undef, undef, undef, undef, undef, undef, undef, undef, undef, undef, undef, undef, undef, undef, undef, undef, undef, undef, undef, undef, undef, undef, undef, undef, undef, undef, undef, undef, undef, undef, undef, undef, undef, undef, undef, undef, undef, undef, undef, undef, undef, undef, undef, undef, undef, undef, undef, undef, undef, undef, undef, undef, undef, undef, undef, undef, undef, undef, undef], defers := [] } V := by
  refine wpAnyH_ready (rs := [3, 5]) (by kernel_rfl) (by simp) ?_
  refine AllReadyH.cons (o := { dst := some 13, op := Op.call { callee := Callee.value (Operand.func 9), args := #[Operand.tmp 12], argTypes := #[24] }, type := 24, pos := "law.go:53", after := #[{ on := 2, ground := Ground.data }, { on := 1, ground := Ground.chain }], guard := none }) rfl (fun K hK => ?_) ?_
  · replace hK := Lib.hid hK
    go_wp2_with fail
    refine (HP.out _ BV).mono ?_
    rintro e v1 ⟨po, ll, pc, rfl, htn, hb, hu⟩
    obtain rfl := tin_len htn
    have B1 : Below w.heap.size w v1 := c_thr BV hb BV.size
    have fx1 := c_kept hb (c_lt fxV) fxV
    have g31 := c_kept hb (c_lt g3V) g3V
    have tp1 : TIn v1 (FP mc [b3]) t.pl (.slice po t.pl.ks.length pc) := fp_new htn hmc (fun y hy => by simp at hy; subst hy; exact c_lt g3V)
    have tc1 := tin_kept tcV hb
    have hmc1 : mc ≤ v1.heap.size := Nat.le_trans hmc hb.size
    have up1 : UC v1 [b3] po := uc_new hu (fun y hy => by simp at hy; subst hy; exact c_lt g3V)
    have uc1 := uc_kept ucV hb
    refine hK.out _ _ (by exact fx1) (fun _ => ?_)
    exact cp_210 Q X0 X8 t o c w bx lbx HR HC HP v1 B1 fx1 b3 l3 mc co cc hmc1 tc1 uc1 po pc tp1 up1 g31
  · refine AllReadyH.cons (o := { dst := some 4, op := Op.alloc 24, type := 0, pos := "law.go:53", after := #[], guard := none }) rfl (fun K hK => ?_) ?_
    · replace hK := Lib.hid hK
      go_simp
      obtain ⟨v1, e1⟩ : ∃ U, U = World.alloc V (.cells #[.int .i64 0, .int .i64 0, .int .i64 0, .int .i64 0, .string ⟨#[]⟩, .slice none 0 0] 24) := ⟨_, rfl⟩
      obtain ⟨b4, e2⟩ : ∃ b : Nat, b = V.heap.size := ⟨_, rfl⟩
      have hb : Below V.heap.size V v1 := by rw [e1]; exact c_box V _
      have B1 : Below w.heap.size w v1 := c_thr BV hb BV.size
      have fx1 := c_kept hb (c_lt fxV) fxV
      have g31 := c_kept hb (c_lt g3V) g3V
      have g41 : v1.heap[b4]? = some (.cells #[.int .i64 0, .int .i64 0, .int .i64 0, .int .i64 0, .string ⟨#[]⟩, .slice none 0 0] 24 (0, 0)) := by rw [e1, e2]; exact heap_alloc_new _ _
      have l4 : w.heap.size ≤ b4 := by rw [e2]; exact BV.size
      have n34 : b3 ≠ b4 := by have := c_lt g3V; omega
      have tc1 : TIn v1 (FC w mc [b3, b4]) t (.slice co t.ks.length cc) := by rw [e1]; exact fc_alloc tcV (fun y hy => by simp at hy ⊢; omega)
      have hmc1 : mc ≤ v1.heap.size := Nat.le_trans hmc hb.size
      have uc1 : UC v1 [b3, b4] co := by rw [e1]; exact uc_alloc ucV (fun y hy => by simp at hy ⊢; omega)
      simp only [← e1, ← e2]
      refine hK.out _ _ (by exact fx1) (fun _ => ?_)
      exact cp_111 Q X0 X8 t o c w bx lbx HR HC HP v1 B1 fx1 b3 l3 b4 l4 n34 mc co cc hmc1 tc1 uc1 g31 g41
    · exact AllReadyH.nil

set_option linter.unusedVariables false in
set_option maxRecDepth 100000 in
set_option maxHeartbeats 2000000 in
theorem cp_101 (Q : Exit → Act → World → Prop) (X0 X8 : Value) (t : Tr) (o : Option Addr) (c : Nat) (w : World) (bx : Nat) (lbx : bx < w.heap.size) (HR : Hid (∀ a V, R4 X0 X8 t o c w bx a V → Q .normal a V)) (HC : Hid (∀ W, Below w.heap.size w W → Calls Tryd.prog 8 #[.agg #[.int .i64 t.op, .int .i64 t.a, .int .i64 t.n, .int .i64 t.m, .string t.s, .slice o t.ks.length c]] W (PlPost2 W t))) (HP : Hid (∀ W, Below w.heap.size w W → Calls Tryd.prog 9 #[.agg #[.int .i64 t.op, .int .i64 t.a, .int .i64 t.n, .int .i64 t.m, .string t.s, .slice o t.ks.length c]] W (PlPost2 W t.pl))) (V : World) (BV : Below w.heap.size w V) (fxV : V.heap[bx]? = some (.cells #[.int .i64 t.op, .int .i64 t.a, .int .i64 t.n, .int .i64 t.m, .string t.s, .slice o t.ks.length c] 24 (0, 0))) (b4 : Nat) (l4 : w.heap.size ≤ b4) (mc : Nat) (co : Option Addr) (cc : Nat) (hmc : mc ≤ V.heap.size) (tcV : TIn V (FC w mc [b4]) t (.slice co t.ks.length cc)) (ucV : UC V [b4] co) (g4V : V.heap[b4]? = some (.cells #[.int .i64 0, .int .i64 0, .int .i64 0, .int .i64 0, .string ⟨#[]⟩, .slice none 0 0] 24 (0, 0))) : wpAnyH Tryd.prog .any opsC Q (SC bx t o c) 4 #[true, true, true, false, false, true, false, false] { tmps := #[X0, .pointer (some ⟨bx, 0, none⟩), .bool false, undef, .pointer (some ⟨b4, 0, none⟩), undef, .bool true, .bool false, X8, .agg #[.int .i64 t.op, .int .i64 t.a, .int .i64 t.n, .int .i64 t.m, .string t.s, .slice o t.ks.length c], .agg #[.int .i64 t.op, .int .i64 t.a, .int .i64 t.n, .int .i64 t.m, .string t.s, .slice o t.ks.length c], .agg #[.int .i64 t.op, .int .i64 t.a, .int .i64 t.n, .int .i64 t.m, .string t.s, .slice co t.ks.length cc], .agg #[.int .i64 t.op, .int .i64 t.a, .int .i64 t.n, .int .i64 t.m, .string t.s, .slice o t.ks.length c], undef, undef, undef, undef, undef, undef, undef, undef, undef, undef, undef, undef, undef, undef, undef, undef, undef, undef, undef, undef, undef, undef, undef, undef, undef, undef, undef, undef, undef, undef, undef, undef, undef, undef, undef, undef, undef, undef, undef, undef, undef, undef, undef, undef, undef, undef, undef, undef, undef, undef, undef, undef, undef, undef, undef, undef, undef, undef, undef, undef, undef, undef, undef, undef], defers := [] } V := by
  refine wpAnyH_ready (rs := [3, 4]) (by kernel_rfl) (by simp) ?_
  refine AllReadyH.cons (o := { dst := some 13, op := Op.call { callee := Callee.value (Operand.func 9), args := #[Operand.tmp 12], argTypes := #[24] }, type := 24, pos := "law.go:53", after := #[{ on := 2, ground := Ground.data }, { on := 1, ground := Ground.chain }], guard := none }) rfl (fun K hK => ?_) ?_
  · replace hK := Lib.hid hK
    go_wp2_with fail
    refine (HP.out _ BV).mono ?_
    rintro e v1 ⟨po, ll, pc, rfl, htn, hb, hu⟩
    obtain rfl := tin_len htn
    have B1 : Below w.heap.size w v1 := c_thr BV hb BV.size
    have fx1 := c_kept hb (c_lt fxV) fxV
    have g41 := c_kept hb (c_lt g4V) g4V
    have tp1 : TIn v1 (FP mc [b4]) t.pl (.slice po t.pl.ks.length pc) := fp_new htn hmc (fun y hy => by simp at hy; subst hy; exact c_lt g4V)
    have tc1 := tin_kept tcV hb
    have hmc1 : mc ≤ v1.heap.size := Nat.le_trans hmc hb.size
    have up1 : UC v1 [b4] po := uc_new hu (fun y hy => by simp at hy; subst hy; exact c_lt g4V)
    have uc1 := uc_kept ucV hb
    refine hK.out _ _ (by exact fx1) (fun _ => ?_)
    exact cp_201 Q X0 X8 t o c w bx lbx HR HC HP v1 B1 fx1 b4 l4 mc co cc hmc1 tc1 uc1 po pc tp1 up1 g41
  · refine AllReadyH.cons (o := { dst := some 3, op := Op.alloc 24, type := 0, pos := "law.go:53", after := #[], guard := none }) rfl (fun K hK => ?_) ?_
    · replace hK := Lib.hid hK
      go_simp
      obtain ⟨v1, e1⟩ : ∃ U, U = World.alloc V (.cells #[.int .i64 0, .int .i64 0, .int .i64 0, .int .i64 0, .string ⟨#[]⟩, .slice none 0 0] 24) := ⟨_, rfl⟩
      obtain ⟨b3, e2⟩ : ∃ b : Nat, b = V.heap.size := ⟨_, rfl⟩
      have hb : Below V.heap.size V v1 := by rw [e1]; exact c_box V _
      have B1 : Below w.heap.size w v1 := c_thr BV hb BV.size
      have fx1 := c_kept hb (c_lt fxV) fxV
      have g41 := c_kept hb (c_lt g4V) g4V
      have g31 : v1.heap[b3]? = some (.cells #[.int .i64 0, .int .i64 0, .int .i64 0, .int .i64 0, .string ⟨#[]⟩, .slice none 0 0] 24 (0, 0)) := by rw [e1, e2]; exact heap_alloc_new _ _
      have l3 : w.heap.size ≤ b3 := by rw [e2]; exact BV.size
      have n34 : b3 ≠ b4 := by have := c_lt g4V; omega
      have tc1 : TIn v1 (FC w mc [b3, b4]) t (.slice co t.ks.length cc) := by rw [e1]; exact fc_alloc tcV (fun y hy => by simp at hy ⊢; omega)
      have hmc1 : mc ≤ v1.heap.size := Nat.le_trans hmc hb.size
      have uc1 : UC v1 [b3, b4] co := by rw [e1]; exact uc_alloc ucV (fun y hy => by simp at hy ⊢; omega)
      simp only [← e1, ← e2]
      refine hK.out _ _ (by exact fx1) (fun _ => ?_)
      exact cp_111 Q X0 X8 t o c w bx lbx HR HC HP v1 B1 fx1 b3 l3 b4 l4 n34 mc co cc hmc1 tc1 uc1 g31 g41
    · exact AllReadyH.nil

set_option linter.unusedVariables false in
set_option maxRecDepth 100000 in
set_option maxHeartbeats 2000000 in
theorem cp_100 (Q : Exit → Act → World → Prop) (X0 X8 : Value) (t : Tr) (o : Option Addr) (c : Nat) (w : World) (bx : Nat) (lbx : bx < w.heap.size) (HR : Hid (∀ a V, R4 X0 X8 t o c w bx a V → Q .normal a V)) (HC : Hid (∀ W, Below w.heap.size w W → Calls Tryd.prog 8 #[.agg #[.int .i64 t.op, .int .i64 t.a, .int .i64 t.n, .int .i64 t.m, .string t.s, .slice o t.ks.length c]] W (PlPost2 W t))) (HP : Hid (∀ W, Below w.heap.size w W → Calls Tryd.prog 9 #[.agg #[.int .i64 t.op, .int .i64 t.a, .int .i64 t.n, .int .i64 t.m, .string t.s, .slice o t.ks.length c]] W (PlPost2 W t.pl))) (V : World) (BV : Below w.heap.size w V) (fxV : V.heap[bx]? = some (.cells #[.int .i64 t.op, .int .i64 t.a, .int .i64 t.n, .int .i64 t.m, .string t.s, .slice o t.ks.length c] 24 (0, 0))) (mc : Nat) (co : Option Addr) (cc : Nat) (hmc : mc ≤ V.heap.size) (tcV : TIn V (FC w mc []) t (.slice co t.ks.length cc)) (ucV : UC V [] co) : wpAnyH Tryd.prog .any opsC Q (SC bx t o c) 5 #[true, true, true, false, false, false, false, false] { tmps := #[X0, .pointer (some ⟨bx, 0, none⟩), .bool false, undef, undef, undef, .bool true, .bool false, X8, .agg #[.int .i64 t.op, .int .i64 t.a, .int .i64 t.n, .int .i64 t.m, .string t.s, .slice o t.ks.length c], .agg #[.int .i64 t.op, .int .i64 t.a, .int .i64 t.n, .int .i64 t.m, .string t.s, .slice o t.ks.length c], .agg #[.int .i64 t.op, .int .i64 t.a, .int .i64 t.n, .int .i64 t.m, .string t.s, .slice co t.ks.length cc], .agg #[.int .i64 t.op, .int .i64 t.a, .int .i64 t.n, .int .i64 t.m, .string t.s, .slice o t.ks.length c], undef, undef, undef, undef, undef, undef, undef, undef, undef, undef, undef, undef, undef, undef, undef, undef, undef, undef, undef, undef, undef, undef, undef, undef, undef, undef, undef, undef, undef, undef, undef, undef, undef, undef, undef, undef, undef, undef, undef, undef, undef, undef, undef, undef, undef, undef, undef, undef, undef, undef, undef, undef, undef, undef, undef, undef, undef, undef, undef, undef, undef, undef, undef, undef], defers := [] } V := by
  refine wpAnyH_ready (rs := [3, 4, 5]) (by kernel_rfl) (by simp) ?_
  refine AllReadyH.cons (o := { dst := some 13, op := Op.call { callee := Callee.value (Operand.func 9), args := #[Operand.tmp 12], argTypes := #[24] }, type := 24, pos := "law.go:53", after := #[{ on := 2, ground := Ground.data }, { on := 1, ground := Ground.chain }], guard := none }) rfl (fun K hK => ?_) ?_
  · replace hK := Lib.hid hK
    go_wp2_with fail
    refine (HP.out _ BV).mono ?_
    rintro e v1 ⟨po, ll, pc, rfl, htn, hb, hu⟩
    obtain rfl := tin_len htn
    have B1 : Below w.heap.size w v1 := c_thr BV hb BV.size
    have fx1 := c_kept hb (c_lt fxV) fxV
    have tp1 : TIn v1 (FP mc []) t.pl (.slice po t.pl.ks.length pc) := fp_new htn hmc (fun y hy => by simp at hy)
    have tc1 := tin_kept tcV hb
    have hmc1 : mc ≤ v1.heap.size := Nat.le_trans hmc hb.size
    have up1 : UC v1 [] po := uc_new hu (fun y hy => by simp at hy)
    have uc1 := uc_kept ucV hb
    refine hK.out _ _ (by exact fx1) (fun _ => ?_)
    exact cp_200 Q X0 X8 t o c w bx lbx HR HC HP v1 B1 fx1 mc co cc hmc1 tc1 uc1 po pc tp1 up1
  · refine AllReadyH.cons (o := { dst := some 3, op := Op.alloc 24, type := 0, pos := "law.go:53", after := #[], guard := none }) rfl (fun K hK => ?_) ?_
    · replace hK := Lib.hid hK
      go_simp
      obtain ⟨v1, e1⟩ : ∃ U, U = World.alloc V (.cells #[.int .i64 0, .int .i64 0, .int .i64 0, .int .i64 0, .string ⟨#[]⟩, .slice none 0 0] 24) := ⟨_, rfl⟩
      obtain ⟨b3, e2⟩ : ∃ b : Nat, b = V.heap.size := ⟨_, rfl⟩
      have hb : Below V.heap.size V v1 := by rw [e1]; exact c_box V _
      have B1 : Below w.heap.size w v1 := c_thr BV hb BV.size
      have fx1 := c_kept hb (c_lt fxV) fxV
      have g31 : v1.heap[b3]? = some (.cells #[.int .i64 0, .int .i64 0, .int .i64 0, .int .i64 0, .string ⟨#[]⟩, .slice none 0 0] 24 (0, 0)) := by rw [e1, e2]; exact heap_alloc_new _ _
      have l3 : w.heap.size ≤ b3 := by rw [e2]; exact BV.size
      have tc1 : TIn v1 (FC w mc [b3]) t (.slice co t.ks.length cc) := by rw [e1]; exact fc_alloc tcV (fun y hy => by simp at hy ⊢; omega)
      have hmc1 : mc ≤ v1.heap.size := Nat.le_trans hmc hb.size
      have uc1 : UC v1 [b3] co := by rw [e1]; exact uc_alloc ucV (fun y hy => by simp at hy ⊢; omega)
      simp only [← e1, ← e2]
      refine hK.out _ _ (by exact fx1) (fun _ => ?_)
      exact cp_110 Q X0 X8 t o c w bx lbx HR HC HP v1 B1 fx1 b3 l3 mc co cc hmc1 tc1 uc1 g31
    · refine AllReadyH.cons (o := { dst := some 4, op := Op.alloc 24, type := 0, pos := "law.go:53", after := #[], guard := none }) rfl (fun K hK => ?_) ?_
      · replace hK := Lib.hid hK
        go_simp
        obtain ⟨v1, e1⟩ : ∃ U, U = World.alloc V (.cells #[.int .i64 0, .int .i64 0, .int .i64 0, .int .i64 0, .string ⟨#[]⟩, .slice none 0 0] 24) := ⟨_, rfl⟩
        obtain ⟨b4, e2⟩ : ∃ b : Nat, b = V.heap.size := ⟨_, rfl⟩
        have hb : Below V.heap.size V v1 := by rw [e1]; exact c_box V _
        have B1 : Below w.heap.size w v1 := c_thr BV hb BV.size
        have fx1 := c_kept hb (c_lt fxV) fxV
        have g41 : v1.heap[b4]? = some (.cells #[.int .i64 0, .int .i64 0, .int .i64 0, .int .i64 0, .string ⟨#[]⟩, .slice none 0 0] 24 (0, 0)) := by rw [e1, e2]; exact heap_alloc_new _ _
        have l4 : w.heap.size ≤ b4 := by rw [e2]; exact BV.size
        have tc1 : TIn v1 (FC w mc [b4]) t (.slice co t.ks.length cc) := by rw [e1]; exact fc_alloc tcV (fun y hy => by simp at hy ⊢; omega)
        have hmc1 : mc ≤ v1.heap.size := Nat.le_trans hmc hb.size
        have uc1 : UC v1 [b4] co := by rw [e1]; exact uc_alloc ucV (fun y hy => by simp at hy ⊢; omega)
        simp only [← e1, ← e2]
        refine hK.out _ _ (by exact fx1) (fun _ => ?_)
        exact cp_101 Q X0 X8 t o c w bx lbx HR HC HP v1 B1 fx1 b4 l4 mc co cc hmc1 tc1 uc1 g41
      · exact AllReadyH.nil

set_option linter.unusedVariables false in
set_option maxRecDepth 100000 in
set_option maxHeartbeats 2000000 in
theorem cp_011 (Q : Exit → Act → World → Prop) (X0 X8 : Value) (t : Tr) (o : Option Addr) (c : Nat) (w : World) (bx : Nat) (lbx : bx < w.heap.size) (HR : Hid (∀ a V, R4 X0 X8 t o c w bx a V → Q .normal a V)) (HC : Hid (∀ W, Below w.heap.size w W → Calls Tryd.prog 8 #[.agg #[.int .i64 t.op, .int .i64 t.a, .int .i64 t.n, .int .i64 t.m, .string t.s, .slice o t.ks.length c]] W (PlPost2 W t))) (HP : Hid (∀ W, Below w.heap.size w W → Calls Tryd.prog 9 #[.agg #[.int .i64 t.op, .int .i64 t.a, .int .i64 t.n, .int .i64 t.m, .string t.s, .slice o t.ks.length c]] W (PlPost2 W t.pl))) (V : World) (BV : Below w.heap.size w V) (fxV : V.heap[bx]? = some (.cells #[.int .i64 t.op, .int .i64 t.a, .int .i64 t.n, .int .i64 t.m, .string t.s, .slice o t.ks.length c] 24 (0, 0))) (b3 : Nat) (l3 : w.heap.size ≤ b3) (b4 : Nat) (l4 : w.heap.size ≤ b4) (n34 : b3 ≠ b4) (g3V : V.heap[b3]? = some (.cells #[.int .i64 0, .int .i64 0, .int .i64 0, .int .i64 0, .string ⟨#[]⟩, .slice none 0 0] 24 (0, 0))) (g4V : V.heap[b4]? = some (.cells #[.int .i64 0, .int .i64 0, .int .i64 0, .int .i64 0, .string ⟨#[]⟩, .slice none 0 0] 24 (0, 0))) : wpAnyH Tryd.prog .any opsC Q (SC bx t o c) 4 #[true, false, true, false, true, true, false, false] { tmps := #[X0, .pointer (some ⟨bx, 0, none⟩), .bool false, .pointer (some ⟨b3, 0, none⟩), .pointer (some ⟨b4, 0, none⟩), undef, .bool true, .bool false, X8, .agg #[.int .i64 t.op, .int .i64 t.a, .int .i64 t.n, .int .i64 t.m, .string t.s, .slice o t.ks.length c], .agg #[.int .i64 t.op, .int .i64 t.a, .int .i64 t.n, .int .i64 t.m, .string t.s, .slice o t.ks.length c], undef, .agg #[.int .i64 t.op, .int .i64 t.a, .int .i64 t.n, .int .i64 t.m, .string t.s, .slice o t.ks.length c], undef, undef, undef, undef, undef, undef, undef, undef, undef, undef, undef, undef, undef, undef, undef, undef, undef, undef, undef, undef, undef, undef, undef, undef, undef, undef, undef, undef, undef, undef, undef, undef, undef, undef, undef, undef, undef, undef, undef, undef, undef, undef, undef, undef, undef, undef, undef, undef, undef, undef, undef, undef, undef, undef, undef, undef, undef, undef, undef, undef, undef, undef, undef, undef], defers := [] } V := by
  refine wpAnyH_ready (rs := [1]) (by kernel_rfl) (by simp) ?_
  refine AllReadyH.cons (o := { dst := some 11, op := Op.call { callee := Callee.value (Operand.func 8), args := #[Operand.tmp 10], argTypes := #[24] }, type := 24, pos := "law.go:53", after := #[{ on := 0, ground := Ground.data }], guard := none }) rfl (fun K hK => ?_) ?_
  · replace hK := Lib.hid hK
    go_wp2_with fail
    refine (HC.out _ BV).mono ?_
    rintro e v1 ⟨co, ll, cc, rfl, htn, hb, hu⟩
    obtain rfl := tin_len htn
    have B1 : Below w.heap.size w v1 := c_thr BV hb BV.size
    have fx1 := c_kept hb (c_lt fxV) fxV
    have g31 := c_kept hb (c_lt g3V) g3V
    have g41 := c_kept hb (c_lt g4V) g4V
    have tc1 : TIn v1 (FC w v1.heap.size [b3, b4]) t (.slice co t.ks.length cc) := fc_new htn BV.size (fun y hy => by simp at hy; rcases hy with rfl | rfl; exact c_lt g3V; exact c_lt g4V)
    have hmc1 : v1.heap.size ≤ v1.heap.size := Nat.le_refl _
    have uc1 : UC v1 [b3, b4] co := uc_new hu (fun y hy => by simp at hy; rcases hy with rfl | rfl; exact c_lt g3V; exact c_lt g4V)
    refine hK.out _ _ (by exact fx1) (fun _ => ?_)
    exact cp_111 Q X0 X8 t o c w bx lbx HR HC HP v1 B1 fx1 b3 l3 b4 l4 n34 v1.heap.size co cc hmc1 tc1 uc1 g31 g41
  · exact AllReadyH.nil

set_option linter.unusedVariables false in
set_option maxRecDepth 100000 in
set_option maxHeartbeats 2000000 in
theorem cp_010 (Q : Exit → Act → World → Prop) (X0 X8 : Value) (t : Tr) (o : Option Addr) (c : Nat) (w : World) (bx : Nat) (lbx : bx < w.heap.size) (HR : Hid (∀ a V, R4 X0 X8 t o c w bx a V → Q .normal a V)) (HC : Hid (∀ W, Below w.heap.size w W → Calls Tryd.prog 8 #[.agg #[.int .i64 t.op, .int .i64 t.a, .int .i64 t.n, .int .i64 t.m, .string t.s, .slice o t.ks.length c]] W (PlPost2 W t))) (HP : Hid (∀ W, Below w.heap.size w W → Calls Tryd.prog 9 #[.agg #[.int .i64 t.op, .int .i64 t.a, .int .i64 t.n, .int .i64 t.m, .string t.s, .slice o t.ks.length c]] W (PlPost2 W t.pl))) (V : World) (BV : Below w.heap.size w V) (fxV : V.heap[bx]? = some (.cells #[.int .i64 t.op, .int .i64 t.a, .int .i64 t.n, .int .i64 t.m, .string t.s, .slice o t.ks.length c] 24 (0, 0))) (b3 : Nat) (l3 : w.heap.size ≤ b3) (g3V : V.heap[b3]? = some (.cells #[.int .i64 0, .int .i64 0, .int .i64 0, .int .i64 0, .string ⟨#[]⟩, .slice none 0 0] 24 (0, 0))) : wpAnyH Tryd.prog .any opsC Q (SC bx t o c) 5 #[true, false, true, false, true, false, false, false] { tmps := #[X0, .pointer (some ⟨bx, 0, none⟩), .bool false, .pointer (some ⟨b3, 0, none⟩), undef, undef, .bool true, .bool false, X8, .agg #[.int .i64 t.op, .int .i64 t.a, .int .i64 t.n, .int .i64 t.m, .string t.s, .slice o t.ks.length c], .agg #[.int .i64 t.op, .int .i64 t.a, .int .i64 t.n, .int .i64 t.m, .string t.s, .slice o t.ks.length c], undef, .agg #[.int .i64 t.op, .int .i64 t.a, .int .i64 t.n, .int .i64 t.m, .string t.s, .slice o t.ks.length c], undef, undef, undef, undef, undef, undef, undef, undef, undef, undef, undef, undef, undef, undef, undef, undef, undef, undef, undef, undef, undef, undef, undef, undef, undef, undef, undef, undef, undef, undef, undef, undef, undef, undef, undef, undef, undef, undef, undef, undef, undef, undef, undef, undef, undef, undef, undef, undef, undef, undef, undef, undef, undef, undef, undef, undef, undef, undef, undef, undef, undef, undef, undef, undef], defers := [] } V := by
  refine wpAnyH_ready (rs := [1, 5]) (by kernel_rfl) (by simp) ?_
  refine AllReadyH.cons (o := { dst := some 11, op := Op.call { callee := Callee.value (Operand.func 8), args := #[Operand.tmp 10], argTypes := #[24] }, type := 24, pos := "law.go:53", after := #[{ on := 0, ground := Ground.data }], guard := none }) rfl (fun K hK => ?_) ?_
  · replace hK := Lib.hid hK
    go_wp2_with fail
    refine (HC.out _ BV).mono ?_
    rintro e v1 ⟨co, ll, cc, rfl, htn, hb, hu⟩
    obtain rfl := tin_len htn
    have B1 : Below w.heap.size w v1 := c_thr BV hb BV.size
    have fx1 := c_kept hb (c_lt fxV) fxV
    have g31 := c_kept hb (c_lt g3V) g3V
    have tc1 : TIn v1 (FC w v1.heap.size [b3]) t (.slice co t.ks.length cc) := fc_new htn BV.size (fun y hy => by simp at hy; subst hy; exact c_lt g3V)
    have hmc1 : v1.heap.size ≤ v1.heap.size := Nat.le_refl _
    have uc1 : UC v1 [b3] co := uc_new hu (fun y hy => by simp at hy; subst hy; exact c_lt g3V)
    refine hK.out _ _ (by exact fx1) (fun _ => ?_)
    exact cp_110 Q X0 X8 t o c w bx lbx HR HC HP v1 B1 fx1 b3 l3 v1.heap.size co cc hmc1 tc1 uc1 g31
  · refine AllReadyH.cons (o := { dst := some 4, op := Op.alloc 24, type := 0, pos := "law.go:53", after := #[], guard := none }) rfl (fun K hK => ?_) ?_
    · replace hK := Lib.hid hK
      go_simp
      obtain ⟨v1, e1⟩ : ∃ U, U = World.alloc V (.cells #[.int .i64 0, .int .i64 0, .int .i64 0, .int .i64 0, .string ⟨#[]⟩, .slice none 0 0] 24) := ⟨_, rfl⟩
      obtain ⟨b4, e2⟩ : ∃ b : Nat, b = V.heap.size := ⟨_, rfl⟩
      have hb : Below V.heap.size V v1 := by rw [e1]; exact c_box V _
      have B1 : Below w.heap.size w v1 := c_thr BV hb BV.size
      have fx1 := c_kept hb (c_lt fxV) fxV
      have g31 := c_kept hb (c_lt g3V) g3V
      have g41 : v1.heap[b4]? = some (.cells #[.int .i64 0, .int .i64 0, .int .i64 0, .int .i64 0, .string ⟨#[]⟩, .slice none 0 0] 24 (0, 0)) := by rw [e1, e2]; exact heap_alloc_new _ _
      have l4 : w.heap.size ≤ b4 := by rw [e2]; exact BV.size
      have n34 : b3 ≠ b4 := by have := c_lt g3V; omega
      simp only [← e1, ← e2]
      refine hK.out _ _ (by exact fx1) (fun _ => ?_)
      exact cp_011 Q X0 X8 t o c w bx lbx HR HC HP v1 B1 fx1 b3 l3 b4 l4 n34 g31 g41
    · exact AllReadyH.nil

set_option linter.unusedVariables false in
set_option maxRecDepth 100000 in
set_option maxHeartbeats 2000000 in
theorem cp_001 (Q : Exit → Act → World → Prop) (X0 X8 : Value) (t : Tr) (o : Option Addr) (c : Nat) (w : World) (bx : Nat) (lbx : bx < w.heap.size) (HR : Hid (∀ a V, R4 X0 X8 t o c w bx a V → Q .normal a V)) (HC : Hid (∀ W, Below w.heap.size w W → Calls Tryd.prog 8 #[.agg #[.int .i64 t.op, .int .i64 t.a, .int .i64 t.n, .int .i64 t.m, .string t.s, .slice o t.ks.length c]] W (PlPost2 W t))) (HP : Hid (∀ W, Below w.heap.size w W → Calls Tryd.prog 9 #[.agg #[.int .i64 t.op, .int .i64 t.a, .int .i64 t.n, .int .i64 t.m, .string t.s, .slice o t.ks.length c]] W (PlPost2 W t.pl))) (V : World) (BV : Below w.heap.size w V) (fxV : V.heap[bx]? = some (.cells #[.int .i64 t.op, .int .i64 t.a, .int .i64 t.n, .int .i64 t.m, .string t.s, .slice o t.ks.length c] 24 (0, 0))) (b4 : Nat) (l4 : w.heap.size ≤ b4) (g4V : V.heap[b4]? = some (.cells #[.int .i64 0, .int .i64 0, .int .i64 0, .int .i64 0, .string ⟨#[]⟩, .slice none 0 0] 24 (0, 0))) : wpAnyH Tryd.prog .any opsC Q (SC bx t o c) 5 #[true, false, true, false, false, true, false, false] { tmps := #[X0, .pointer (some ⟨bx, 0, none⟩), .bool false, undef, .pointer (some ⟨b4, 0, none⟩), undef, .bool true, .bool false, X8, .agg #[.int .i64 t.op, .int .i64 t.a, .int .i64 t.n, .int .i64 t.m, .string t.s, .slice o t.ks.length c], .agg #[.int .i64 t.op, .int .i64 t.a, .int .i64 t.n, .int .i64 t.m, .string t.s, .slice o t.ks.length c], undef, .agg #[.int .i64 t.op, .int .i64 t.a, .int .i64 t.n, .int .i64 t.m, .string t.s, .slice o t.ks.length c], undef, undef, undef, undef, undef, undef, undef, undef, undef, undef, undef, undef, undef, undef, undef, undef, undef, undef, undef, undef, undef, undef, undef, undef, undef, undef, undef, undef, undef, undef, undef, undef, undef, undef, undef, undef, undef, undef, undef, undef, undef, undef, undef, undef, undef, undef, undef, undef, undef, undef, undef, undef, undef, undef, undef, undef, undef, undef, undef, undef, undef, undef, undef, undef], defers := [] } V := by
  refine wpAnyH_ready (rs := [1, 4]) (by kernel_rfl) (by simp) ?_
  refine AllReadyH.cons (o := { dst := some 11, op := Op.call { callee := Callee.value (Operand.func 8), args := #[Operand.tmp 10], argTypes := #[24] }, type := 24, pos := "law.go:53", after := #[{ on := 0, ground := Ground.data }], guard := none }) rfl (fun K hK => ?_) ?_
  · replace hK := Lib.hid hK
    go_wp2_with fail
    refine (HC.out _ BV).mono ?_
    rintro e v1 ⟨co, ll, cc, rfl, htn, hb, hu⟩
    obtain rfl := tin_len htn
    have B1 : Below w.heap.size w v1 := c_thr BV hb BV.size
    have fx1 := c_kept hb (c_lt fxV) fxV
    have g41 := c_kept hb (c_lt g4V) g4V
    have tc1 : TIn v1 (FC w v1.heap.size [b4]) t (.slice co t.ks.length cc) := fc_new htn BV.size (fun y hy => by simp at hy; subst hy; exact c_lt g4V)
    have hmc1 : v1.heap.size ≤ v1.heap.size := Nat.le_refl _
    have uc1 : UC v1 [b4] co := uc_new hu (fun y hy => by simp at hy; subst hy; exact c_lt g4V)
    refine hK.out _ _ (by exact fx1) (fun _ => ?_)
    exact cp_101 Q X0 X8 t o c w bx lbx HR HC HP v1 B1 fx1 b4 l4 v1.heap.size co cc hmc1 tc1 uc1 g41
  · refine AllReadyH.cons (o := { dst := some 3, op := Op.alloc 24, type := 0, pos := "law.go:53", after := #[], guard := none }) rfl (fun K hK => ?_) ?_
    · replace hK := Lib.hid hK
      go_simp
      obtain ⟨v1, e1⟩ : ∃ U, U = World.alloc V (.cells #[.int .i64 0, .int .i64 0, .int .i64 0, .int .i64 0, .string ⟨#[]⟩, .slice none 0 0] 24) := ⟨_, rfl⟩
      obtain ⟨b3, e2⟩ : ∃ b : Nat, b = V.heap.size := ⟨_, rfl⟩
      have hb : Below V.heap.size V v1 := by rw [e1]; exact c_box V _
      have B1 : Below w.heap.size w v1 := c_thr BV hb BV.size
      have fx1 := c_kept hb (c_lt fxV) fxV
      have g41 := c_kept hb (c_lt g4V) g4V
      have g31 : v1.heap[b3]? = some (.cells #[.int .i64 0, .int .i64 0, .int .i64 0, .int .i64 0, .string ⟨#[]⟩, .slice none 0 0] 24 (0, 0)) := by rw [e1, e2]; exact heap_alloc_new _ _
      have l3 : w.heap.size ≤ b3 := by rw [e2]; exact BV.size
      have n34 : b3 ≠ b4 := by have := c_lt g4V; omega
      simp only [← e1, ← e2]
      refine hK.out _ _ (by exact fx1) (fun _ => ?_)
      exact cp_011 Q X0 X8 t o c w bx lbx HR HC HP v1 B1 fx1 b3 l3 b4 l4 n34 g31 g41
    · exact AllReadyH.nil

set_option linter.unusedVariables false in
set_option maxRecDepth 100000 in
set_option maxHeartbeats 2000000 in
theorem cp_000 (Q : Exit → Act → World → Prop) (X0 X8 : Value) (t : Tr) (o : Option Addr) (c : Nat) (w : World) (bx : Nat) (lbx : bx < w.heap.size) (HR : Hid (∀ a V, R4 X0 X8 t o c w bx a V → Q .normal a V)) (HC : Hid (∀ W, Below w.heap.size w W → Calls Tryd.prog 8 #[.agg #[.int .i64 t.op, .int .i64 t.a, .int .i64 t.n, .int .i64 t.m, .string t.s, .slice o t.ks.length c]] W (PlPost2 W t))) (HP : Hid (∀ W, Below w.heap.size w W → Calls Tryd.prog 9 #[.agg #[.int .i64 t.op, .int .i64 t.a, .int .i64 t.n, .int .i64 t.m, .string t.s, .slice o t.ks.length c]] W (PlPost2 W t.pl))) (V : World) (BV : Below w.heap.size w V) (fxV : V.heap[bx]? = some (.cells #[.int .i64 t.op, .int .i64 t.a, .int .i64 t.n, .int .i64 t.m, .string t.s, .slice o t.ks.length c] 24 (0, 0))) : wpAnyH Tryd.prog .any opsC Q (SC bx t o c) 6 #[true, false, true, false, false, false, false, false] { tmps := #[X0, .pointer (some ⟨bx, 0, none⟩), .bool false, undef, undef, undef, .bool true, .bool false, X8, .agg #[.int .i64 t.op, .int .i64 t.a, .int .i64 t.n, .int .i64 t.m, .string t.s, .slice o t.ks.length c], .agg #[.int .i64 t.op, .int .i64 t.a, .int .i64 t.n, .int .i64 t.m, .string t.s, .slice o t.ks.length c], undef, .agg #[.int .i64 t.op, .int .i64 t.a, .int .i64 t.n, .int .i64 t.m, .string t.s, .slice o t.ks.length c], undef, undef, undef, undef, undef, undef, undef, undef, undef, undef, undef, undef, undef, undef, undef, undef, undef, undef, undef, undef, undef, undef, undef, undef, undef, undef, undef, undef, undef, undef, undef, undef, undef, undef, undef, undef, undef, undef, undef, undef, undef, undef, undef, undef, undef, undef, undef, undef, undef, undef, undef, undef, undef, undef, undef, undef, undef, undef, undef, undef, undef, undef, undef, undef], defers := [] } V := by
  refine wpAnyH_ready (rs := [1, 4, 5]) (by kernel_rfl) (by simp) ?_
  refine AllReadyH.cons (o := { dst := some 11, op := Op.call { callee := Callee.value (Operand.func 8), args := #[Operand.tmp 10], argTypes := #[24] }, type := 24, pos := "law.go:53", after := #[{ on := 0, ground := Ground.data }], guard := none }) rfl (fun K hK => ?_) ?_
  · replace hK := Lib.hid hK
    go_wp2_with fail
    refine (HC.out _ BV).mono ?_
    rintro e v1 ⟨co, ll, cc, rfl, htn, hb, hu⟩
    obtain rfl := tin_len htn
    have B1 : Below w.heap.size w v1 := c_thr BV hb BV.size
    have fx1 := c_kept hb (c_lt fxV) fxV
    have tc1 : TIn v1 (FC w v1.heap.size []) t (.slice co t.ks.length cc) := fc_new htn BV.size (fun y hy => by simp at hy)
    have hmc1 : v1.heap.size ≤ v1.heap.size := Nat.le_refl _
    have uc1 : UC v1 [] co := uc_new hu (fun y hy => by simp at hy)
    refine hK.out _ _ (by exact fx1) (fun _ => ?_)
    exact cp_100 Q X0 X8 t o c w bx lbx HR HC HP v1 B1 fx1 v1.heap.size co cc hmc1 tc1 uc1
  · refine AllReadyH.cons (o := { dst := some 3, op := Op.alloc 24, type := 0, pos := "law.go:53", after := #[], guard := none }) rfl (fun K hK => ?_) ?_
    · replace hK := Lib.hid hK
      go_simp
      obtain ⟨v1, e1⟩ : ∃ U, U = World.alloc V (.cells #[.int .i64 0, .int .i64 0, .int .i64 0, .int .i64 0, .string ⟨#[]⟩, .slice none 0 0] 24) := ⟨_, rfl⟩
      obtain ⟨b3, e2⟩ : ∃ b : Nat, b = V.heap.size := ⟨_, rfl⟩
      have hb : Below V.heap.size V v1 := by rw [e1]; exact c_box V _
      have B1 : Below w.heap.size w v1 := c_thr BV hb BV.size
      have fx1 := c_kept hb (c_lt fxV) fxV
      have g31 : v1.heap[b3]? = some (.cells #[.int .i64 0, .int .i64 0, .int .i64 0, .int .i64 0, .string ⟨#[]⟩, .slice none 0 0] 24 (0, 0)) := by rw [e1, e2]; exact heap_alloc_new _ _
      have l3 : w.heap.size ≤ b3 := by rw [e2]; exact BV.size
      simp only [← e1, ← e2]
      refine hK.out _ _ (by exact fx1) (fun _ => ?_)
      exact cp_010 Q X0 X8 t o c w bx lbx HR HC HP v1 B1 fx1 b3 l3 g31
    · refine AllReadyH.cons (o := { dst := some 4, op := Op.alloc 24, type := 0, pos := "law.go:53", after := #[], guard := none }) rfl (fun K hK => ?_) ?_
      · replace hK := Lib.hid hK
        go_simp
        obtain ⟨v1, e1⟩ : ∃ U, U = World.alloc V (.cells #[.int .i64 0, .int .i64 0, .int .i64 0, .int .i64 0, .string ⟨#[]⟩, .slice none 0 0] 24) := ⟨_, rfl⟩
        obtain ⟨b4, e2⟩ : ∃ b : Nat, b = V.heap.size := ⟨_, rfl⟩
        have hb : Below V.heap.size V v1 := by rw [e1]; exact c_box V _
        have B1 : Below w.heap.size w v1 := c_thr BV hb BV.size
        have fx1 := c_kept hb (c_lt fxV) fxV
        have g41 : v1.heap[b4]? = some (.cells #[.int .i64 0, .int .i64 0, .int .i64 0, .int .i64 0, .string ⟨#[]⟩, .slice none 0 0] 24 (0, 0)) := by rw [e1, e2]; exact heap_alloc_new _ _
        have l4 : w.heap.size ≤ b4 := by rw [e2]; exact BV.size
        simp only [← e1, ← e2]
        refine hK.out _ _ (by exact fx1) (fun _ => ?_)
        exact cp_001 Q X0 X8 t o c w bx lbx HR HC HP v1 B1 fx1 b4 l4 g41
      · exact AllReadyH.nil

set_option linter.unusedVariables false in
set_option maxRecDepth 100000 in
set_option maxHeartbeats 2000000 in
theorem startC (Q : Exit → Act → World → Prop) (X0 X8 : Value) (t : Tr) (o : Option Addr) (c : Nat) (w : World) (bx : Nat) (lbx : bx < w.heap.size) (HR : Hid (∀ a V, R4 X0 X8 t o c w bx a V → Q .normal a V)) (HC : Hid (∀ W, Below w.heap.size w W → Calls Tryd.prog 8 #[.agg #[.int .i64 t.op, .int .i64 t.a, .int .i64 t.n, .int .i64 t.m, .string t.s, .slice o t.ks.length c]] W (PlPost2 W t))) (HP : Hid (∀ W, Below w.heap.size w W → Calls Tryd.prog 9 #[.agg #[.int .i64 t.op, .int .i64 t.a, .int .i64 t.n, .int .i64 t.m, .string t.s, .slice o t.ks.length c]] W (PlPost2 W t.pl))) (hQ : ∀ c a (d : Nat) v w, Q (.panic c) (Act.put a (some d) v) w → Q (.panic c) a w) (W : World) (BW : Below w.heap.size w W.drew) (fxW : W.drew.heap[bx]? = some (.cells #[.int .i64 t.op, .int .i64 t.a, .int .i64 t.n, .int .i64 t.m, .string t.s, .slice o t.ks.length c] 24 (0, 0))) : Code.wp Tryd.prog (Code.region 4 opsC true) Q { tmps := #[X0, .pointer (some ⟨bx, 0, none⟩), .bool false, undef, undef, undef, .bool true, .bool false, X8, .agg #[.int .i64 t.op, .int .i64 t.a, .int .i64 t.n, .int .i64 t.m, .string t.s, .slice o t.ks.length c], undef, undef, undef, undef, undef, undef, undef, undef, undef, undef, undef, undef, undef, undef, undef, undef, undef, undef, undef, undef, undef, undef, undef, undef, undef, undef, undef, undef, undef, undef, undef, undef, undef, undef, undef, undef, undef, undef, undef, undef, undef, undef, undef, undef, undef, undef, undef, undef, undef, undef, undef, undef, undef, undef, undef, undef, undef, undef, undef, undef, undef, undef, undef, undef, undef, undef, undef], defers := [] } W := by
  refine wp_region_held_drew (S := SC bx t o c) (by kernel_rfl) (by exact fxW) (fun _ => ?_)
  obtain ⟨V, hV⟩ : ∃ V, V = W.drew := ⟨_, rfl⟩
  simp only [← hV] at BW fxW ⊢
  refine wpAnyH_take (i := 0) (oi := { dst := some 10, op := Op.load 24 (Operand.tmp 1), type := 24, pos := "law.go:53", after := #[], guard := none }) (v := .agg #[.int .i64 t.op, .int .i64 t.a, .int .i64 t.n, .int .i64 t.m, .string t.s, .slice o t.ks.length c]) rfl (by kernel_rfl) (by kernel_rfl) (by kernel_rfl) (fun c a w h => hQ c a _ _ w h) (Or.inl ⟨by rfl, ?_⟩) (by exact fxW) ?_
  · intro U hS
    obtain ⟨⟨q0, q1, q2, q3, q4, q5⟩, _, _⟩ := c_six (show U.heap[bx]? = some (.cells #[.int .i64 t.op, .int .i64 t.a, .int .i64 t.n, .int .i64 t.m, .string t.s, .slice o t.ks.length c] 24 (0, 0)) from hS)
    go_simp
  try simp only [Act.put, List.setIfInBounds_toArray, List.set_cons_zero, List.set_cons_succ]
  refine wpAnyH_take (i := 2) (oi := { dst := some 12, op := Op.load 24 (Operand.tmp 1), type := 24, pos := "law.go:53", after := #[], guard := none }) (v := .agg #[.int .i64 t.op, .int .i64 t.a, .int .i64 t.n, .int .i64 t.m, .string t.s, .slice o t.ks.length c]) rfl (by kernel_rfl) (by kernel_rfl) (by kernel_rfl) (fun c a w h => hQ c a _ _ w h) (Or.inl ⟨by rfl, ?_⟩) (by exact fxW) ?_
  · intro U hS
    obtain ⟨⟨q0, q1, q2, q3, q4, q5⟩, _, _⟩ := c_six (show U.heap[bx]? = some (.cells #[.int .i64 t.op, .int .i64 t.a, .int .i64 t.n, .int .i64 t.m, .string t.s, .slice o t.ks.length c] 24 (0, 0)) from hS)
    go_simp
  try simp only [Act.put, List.setIfInBounds_toArray, List.set_cons_zero, List.set_cons_succ]
  exact cp_000 Q X0 X8 t o c w bx lbx HR HC HP V BW fxW
end Go.Proofs.YtppliplalfpmaaaDoor
