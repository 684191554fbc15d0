/-
  The law NumRests of package num at this translation: its region that makes two values, in every order.
-/
import Derived.Test.YtokpmpmlbmpnmaaDoorAwake
import Derived.Test.YtokpmpmlbmpnmaaDoorMul
import Derived.Deep.RegionHeld3
namespace Go.Proofs.YtokpmpmlbmpnmaaDoor
open Go.RowKit

theorem cutQ {P : Program} {c : Code} {Q : Exit → Act → World → Prop} {a : Act} {W : World} (R : Act → World → Prop) (h1 : ∀ a w, R a w → Q .normal a w) (h2 : (∀ a w, R a w → Q .normal a w) → Code.wp P c Q a W) : Code.wp P c Q a W := h2 h1
theorem of_num (n : Int) (h : inB n = true) (W : World) : Calls Tryd.prog 10 #[.int .i64 n] W fun e w' => e = .returned (.agg #[.int .i64 3, .int .i64 n, .string ⟨#[]⟩]) ∧ Below W.heap.size W w' := by
  have h0 := of_any n W
  rw [(of_in h).1, (of_in h).2] at h0
  exact h0
def set3 (w : World) (b : Nat) (x y z : Value) : World := ((w.setCell ⟨b, 0, none⟩ x).setCell ⟨b, 1, none⟩ y).setCell ⟨b, 2, none⟩ z
abbrev V3 (k n : Int) : Obj := .cells #[.int .i64 k, .int .i64 n, .string ⟨#[]⟩] 23 (0, 0)
theorem set1_old (w : World) (b c o : Nat) (x : Value) (h : c ≠ b) : (w.setCell ⟨b, o, none⟩ x).heap[c]? = w.heap[c]? := by
  show (w.heap.modify b _)[c]? = _
  rw [Array.getElem?_modify, if_neg (fun e => h e.symm)]
theorem set3_old (w : World) (b c : Nat) (x y z : Value) (h : c ≠ b) : (set3 w b x y z).heap[c]? = w.heap[c]? := by
  unfold set3
  rw [set1_old _ _ _ _ _ h, set1_old _ _ _ _ _ h, set1_old _ _ _ _ _ h]
theorem set1_new (w : World) (b o : Nat) (x : Value) (cs : Array Value) (h : w.heap[b]? = some (.cells cs 23 (0, 0))) : (w.setCell ⟨b, o, none⟩ x).heap[b]? = some (.cells (cs.setIfInBounds o x) 23 (0, 0)) := by
  show (w.heap.modify b _)[b]? = _
  rw [Array.getElem?_modify, if_pos rfl, h]
  rfl
theorem set3_new (w : World) (b : Nat) (x y z x' y' z' : Value) (h : w.heap[b]? = some (.cells #[x', y', z'] 23 (0, 0))) : (set3 w b x y z).heap[b]? = some (.cells #[x, y, z] 23 (0, 0)) := by
  unfold set3
  rw [set1_new _ _ _ _ _ (set1_new _ _ _ _ _ (set1_new _ _ _ _ _ h))]
  rfl
theorem wh3 (n : Int) (h : inB n = true) : whK 3 n ⟨#[]⟩ = true ∧ whN 3 n ⟨#[]⟩ = n := by
  have e : whK 3 n ⟨#[]⟩ = true := by simp [whK, h]
  exact ⟨e, by unfold whN; rw [if_pos e]⟩
theorem in_of {n : Int} (h0 : -9007199254740992 ≤ n) (h1 : n ≤ 9007199254740992) : inB n = true := by unfold inB; simp; omega
theorem rs_in {n : Int} (h : inB n = true) : rsK true n = 3 ∧ rsN true n = n := of_in h

def ops4 : Array Oper := #[{ dst := some 17, op := Op.load 23 (Operand.tmp 5), type := 23, pos := "law.go:47", after := #[], guard := none }, { dst := some 18, op := Op.load 23 (Operand.tmp 6), type := 23, pos := "law.go:47", after := #[], guard := none }, { dst := some 19, op := Op.call { callee := Callee.value (Operand.func 20), args := #[Operand.tmp 17, Operand.tmp 18], argTypes := #[23, 23] }, type := 23, pos := "law.go:47", after := #[{ on := 0, ground := Ground.data }, { on := 1, ground := Ground.data }], guard := none }, { dst := some 20, op := Op.load 23 (Operand.tmp 5), type := 23, pos := "law.go:47", after := #[], guard := none }, { dst := some 21, op := Op.load 23 (Operand.tmp 6), type := 23, pos := "law.go:47", after := #[], guard := none }, { dst := some 22, op := Op.call { callee := Callee.value (Operand.func 21), args := #[Operand.tmp 20, Operand.tmp 21], argTypes := #[23, 23] }, type := 23, pos := "law.go:47", after := #[{ on := 3, ground := Ground.data }, { on := 4, ground := Ground.data }, { on := 2, ground := Ground.chain }], guard := none }, { dst := some 7, op := Op.alloc 23, type := 0, pos := "law.go:47", after := #[], guard := none }, { dst := some 8, op := Op.alloc 23, type := 0, pos := "law.go:47", after := #[], guard := none }, { dst := none, op := Op.store 23 (Operand.tmp 7) (Operand.tmp 19), type := 0, pos := "law.go:47", after := #[{ on := 6, ground := Ground.data }, { on := 2, ground := Ground.data }, { on := 5, ground := Ground.chain }, { on := 0, ground := Ground.phase }, { on := 1, ground := Ground.phase }, { on := 2, ground := Ground.phase }, { on := 3, ground := Ground.textOnly Departure.lateStores }, { on := 4, ground := Ground.textOnly Departure.lateStores }, { on := 5, ground := Ground.textOnly Departure.lateStoresUnsure }, { on := 6, ground := Ground.phase }, { on := 7, ground := Ground.phase }], guard := none }, { dst := none, op := Op.store 23 (Operand.tmp 8) (Operand.tmp 22), type := 0, pos := "law.go:47", after := #[{ on := 7, ground := Ground.data }, { on := 5, ground := Ground.data }, { on := 8, ground := Ground.chain }, { on := 0, ground := Ground.phase }, { on := 1, ground := Ground.phase }, { on := 2, ground := Ground.phase }, { on := 3, ground := Ground.phase }, { on := 4, ground := Ground.phase }, { on := 5, ground := Ground.phase }, { on := 6, ground := Ground.phase }, { on := 7, ground := Ground.phase }, { on := 8, ground := Ground.phase }], guard := none }]
def S4 (b5 b6 : Nat) (p q : Int) : World → Prop := fun V => V.heap[b5]? = some (V3 3 p) ∧ V.heap[b6]? = some (V3 3 q)
def R4 (x y p q dk dn rk rn : Int) (w : World) (b5 b6 : Nat) : Act → World → Prop := fun a V => ∃ b7 b8 : Nat, a = { tmps := #[.int .i64 x, .int .i64 y, undef, undef, .bool false, .pointer (some ⟨b5, 0, none⟩), .pointer (some ⟨b6, 0, none⟩), .pointer (some ⟨b7, 0, none⟩), .pointer (some ⟨b8, 0, none⟩), .bool true, .bool false, .int .i64 x, .int .i64 p, .agg #[.int .i64 3, .int .i64 p, .string ⟨#[]⟩], .int .i64 y, .int .i64 q, .agg #[.int .i64 3, .int .i64 q, .string ⟨#[]⟩], .agg #[.int .i64 3, .int .i64 p, .string ⟨#[]⟩], .agg #[.int .i64 3, .int .i64 q, .string ⟨#[]⟩], .agg #[.int .i64 dk, .int .i64 dn, .string ⟨#[]⟩], .agg #[.int .i64 3, .int .i64 p, .string ⟨#[]⟩], .agg #[.int .i64 3, .int .i64 q, .string ⟨#[]⟩], .agg #[.int .i64 rk, .int .i64 rn, .string ⟨#[]⟩], undef, undef, undef, undef, undef, undef, undef, undef, undef, undef, undef, undef, undef, undef, undef, undef, undef, undef, undef, undef, undef, undef, undef, undef, undef, undef, undef, undef, undef, undef, undef, undef, undef, undef, undef, undef, undef, undef, undef, undef, undef, undef, undef, undef, undef, undef, undef, undef, undef, undef, undef, undef, undef, undef], defers := [] } ∧ Below w.heap.size w V ∧ V.heap[b5]? = some (V3 3 p) ∧ V.heap[b6]? = some (V3 3 q) ∧ V.heap[b7]? = some (V3 dk dn) ∧ V.heap[b8]? = some (V3 rk rn)

set_option maxRecDepth 100000 in
set_option maxHeartbeats 2000000 in
theorem st_411 (Q : Exit → Act → World → Prop) (x y p q dk dn rk rn : Int) (w : World) (b5 b6 : Nat) (HR : Hid (∀ a V, R4 x y p q dk dn rk rn w b5 b6 a V → Q .normal a V)) (_HD : Hid (∀ W, Calls Tryd.prog 20 #[.agg #[.int .i64 3, .int .i64 p, .string ⟨#[]⟩], .agg #[.int .i64 3, .int .i64 q, .string ⟨#[]⟩]] W fun e w' => e = .returned (.agg #[.int .i64 dk, .int .i64 dn, .string ⟨#[]⟩]) ∧ Below W.heap.size W w')) (_HM : Hid (∀ W, Calls Tryd.prog 21 #[.agg #[.int .i64 3, .int .i64 p, .string ⟨#[]⟩], .agg #[.int .i64 3, .int .i64 q, .string ⟨#[]⟩]] W fun e w' => e = .returned (.agg #[.int .i64 rk, .int .i64 rn, .string ⟨#[]⟩]) ∧ Below W.heap.size W w')) (V : World) (BV : Below w.heap.size w V) (f5V : V.heap[b5]? = some (V3 3 p)) (f6V : V.heap[b6]? = some (V3 3 q)) (b7 : Nat) (g7V : V.heap[b7]? = some (V3 dk dn)) (_lb7 : w.heap.size ≤ b7) (_n5b7 : b5 ≠ b7) (_n6b7 : b6 ≠ b7) (b8 : Nat) (g8V : V.heap[b8]? = some (V3 rk rn)) (_lb8 : w.heap.size ≤ b8) (_n5b8 : b5 ≠ b8) (_n6b8 : b6 ≠ b8) (_n78 : b7 ≠ b8) : wpAnyH Tryd.prog .any ops4 Q (S4 b5 b6 p q) 0 #[true, true, true, true, true, true, true, true, true, true] { tmps := #[.int .i64 x, .int .i64 y, undef, undef, .bool false, .pointer (some ⟨b5, 0, none⟩), .pointer (some ⟨b6, 0, none⟩), .pointer (some ⟨b7, 0, none⟩), .pointer (some ⟨b8, 0, none⟩), .bool true, .bool false, .int .i64 x, .int .i64 p, .agg #[.int .i64 3, .int .i64 p, .string ⟨#[]⟩], .int .i64 y, .int .i64 q, .agg #[.int .i64 3, .int .i64 q, .string ⟨#[]⟩], .agg #[.int .i64 3, .int .i64 p, .string ⟨#[]⟩], .agg #[.int .i64 3, .int .i64 q, .string ⟨#[]⟩], .agg #[.int .i64 dk, .int .i64 dn, .string ⟨#[]⟩], .agg #[.int .i64 3, .int .i64 p, .string ⟨#[]⟩], .agg #[.int .i64 3, .int .i64 q, .string ⟨#[]⟩], .agg #[.int .i64 rk, .int .i64 rn, .string ⟨#[]⟩], undef, undef, undef, undef, undef, undef, undef, undef, undef, undef, undef, undef, undef, undef, undef, undef, undef, undef, undef, undef, undef, undef, undef, undef, undef, undef, undef, undef, undef, undef, undef, undef, undef, undef, undef, undef, undef, undef, undef, undef, undef, undef, undef, undef, undef, undef, undef, undef, undef, undef, undef, undef, undef, undef], defers := [] } V := by
  refine wpAnyH_done (by kernel_rfl) ?_ _
  exact HR.out _ _ ⟨b7, b8, rfl, BV, f5V, f6V, g7V, g8V⟩

set_option maxRecDepth 100000 in
set_option maxHeartbeats 2000000 in
theorem st_311 (Q : Exit → Act → World → Prop) (x y p q dk dn rk rn : Int) (w : World) (b5 b6 : Nat) (HR : Hid (∀ a V, R4 x y p q dk dn rk rn w b5 b6 a V → Q .normal a V)) (HD : Hid (∀ W, Calls Tryd.prog 20 #[.agg #[.int .i64 3, .int .i64 p, .string ⟨#[]⟩], .agg #[.int .i64 3, .int .i64 q, .string ⟨#[]⟩]] W fun e w' => e = .returned (.agg #[.int .i64 dk, .int .i64 dn, .string ⟨#[]⟩]) ∧ Below W.heap.size W w')) (HM : Hid (∀ W, Calls Tryd.prog 21 #[.agg #[.int .i64 3, .int .i64 p, .string ⟨#[]⟩], .agg #[.int .i64 3, .int .i64 q, .string ⟨#[]⟩]] W fun e w' => e = .returned (.agg #[.int .i64 rk, .int .i64 rn, .string ⟨#[]⟩]) ∧ Below W.heap.size W w')) (V : World) (BV : Below w.heap.size w V) (f5V : V.heap[b5]? = some (V3 3 p)) (f6V : V.heap[b6]? = some (V3 3 q)) (b7 : Nat) (g7V : V.heap[b7]? = some (V3 dk dn)) (lb7 : w.heap.size ≤ b7) (n5b7 : b5 ≠ b7) (n6b7 : b6 ≠ b7) (b8 : Nat) (g8V : V.heap[b8]? = some (V3 0 0)) (lb8 : w.heap.size ≤ b8) (n5b8 : b5 ≠ b8) (n6b8 : b6 ≠ b8) (n78 : b7 ≠ b8) : wpAnyH Tryd.prog .any ops4 Q (S4 b5 b6 p q) 1 #[true, true, true, true, true, true, true, true, true, false] { tmps := #[.int .i64 x, .int .i64 y, undef, undef, .bool false, .pointer (some ⟨b5, 0, none⟩), .pointer (some ⟨b6, 0, none⟩), .pointer (some ⟨b7, 0, none⟩), .pointer (some ⟨b8, 0, none⟩), .bool true, .bool false, .int .i64 x, .int .i64 p, .agg #[.int .i64 3, .int .i64 p, .string ⟨#[]⟩], .int .i64 y, .int .i64 q, .agg #[.int .i64 3, .int .i64 q, .string ⟨#[]⟩], .agg #[.int .i64 3, .int .i64 p, .string ⟨#[]⟩], .agg #[.int .i64 3, .int .i64 q, .string ⟨#[]⟩], .agg #[.int .i64 dk, .int .i64 dn, .string ⟨#[]⟩], .agg #[.int .i64 3, .int .i64 p, .string ⟨#[]⟩], .agg #[.int .i64 3, .int .i64 q, .string ⟨#[]⟩], .agg #[.int .i64 rk, .int .i64 rn, .string ⟨#[]⟩], undef, undef, undef, undef, undef, undef, undef, undef, undef, undef, undef, undef, undef, undef, undef, undef, undef, undef, undef, undef, undef, undef, undef, undef, undef, undef, undef, undef, undef, undef, undef, undef, undef, undef, undef, undef, undef, undef, undef, undef, undef, undef, undef, undef, undef, undef, undef, undef, undef, undef, undef, undef, undef, undef], defers := [] } V := by
  refine wpAnyH_ready (rs := [9]) (by kernel_rfl) (by simp) ?_
  refine AllReadyH.cons (o := { dst := none, op := Op.store 23 (Operand.tmp 8) (Operand.tmp 22), type := 0, pos := "law.go:47", after := #[{ on := 7, ground := Ground.data }, { on := 5, ground := Ground.data }, { on := 8, ground := Ground.chain }, { on := 0, ground := Ground.phase }, { on := 1, ground := Ground.phase }, { on := 2, ground := Ground.phase }, { on := 3, ground := Ground.phase }, { on := 4, ground := Ground.phase }, { on := 5, ground := Ground.phase }, { on := 6, ground := Ground.phase }, { on := 7, ground := Ground.phase }, { on := 8, ground := Ground.phase }], guard := none }) rfl (fun K hK => ?_) ?_
  · obtain ⟨_, _, _, z0, z1, z2, _⟩ := tri g8V
    go_simp
    obtain ⟨v1, e1⟩ : ∃ U, U = set3 V b8 (.int .i64 rk) (.int .i64 rn) (.string ⟨#[]⟩) := ⟨_, rfl⟩
    have B1 : Below w.heap.size w v1 := by rw [e1]; exact st3 BV lb8
    have f51 : v1.heap[b5]? = some (V3 3 p) := by rw [e1]; exact (set3_old _ _ _ _ _ _ n5b8).trans f5V
    have f61 : v1.heap[b6]? = some (V3 3 q) := by rw [e1]; exact (set3_old _ _ _ _ _ _ n6b8).trans f6V
    have g71 : v1.heap[b7]? = some (V3 dk dn) := by rw [e1]; exact (set3_old _ _ _ _ _ _ n78).trans g7V
    have g81 : v1.heap[b8]? = some (V3 rk rn) := by rw [e1]; exact set3_new _ _ _ _ _ _ _ _ g8V
    change K _ (set3 V b8 (.int .i64 rk) (.int .i64 rn) (.string ⟨#[]⟩))
    rw [← e1]
    refine hK.out _ _ (by exact ⟨f51, f61⟩) (fun _ => ?_)
    exact st_411 Q x y p q dk dn rk rn w b5 b6 HR HD HM v1 B1 f51 f61 b7 g71 lb7 n5b7 n6b7 b8 g81 lb8 n5b8 n6b8 n78
  · exact AllReadyH.nil

set_option maxRecDepth 100000 in
set_option maxHeartbeats 2000000 in
theorem st_211 (Q : Exit → Act → World → Prop) (x y p q dk dn rk rn : Int) (w : World) (b5 b6 : Nat) (HR : Hid (∀ a V, R4 x y p q dk dn rk rn w b5 b6 a V → Q .normal a V)) (HD : Hid (∀ W, Calls Tryd.prog 20 #[.agg #[.int .i64 3, .int .i64 p, .string ⟨#[]⟩], .agg #[.int .i64 3, .int .i64 q, .string ⟨#[]⟩]] W fun e w' => e = .returned (.agg #[.int .i64 dk, .int .i64 dn, .string ⟨#[]⟩]) ∧ Below W.heap.size W w')) (HM : Hid (∀ W, Calls Tryd.prog 21 #[.agg #[.int .i64 3, .int .i64 p, .string ⟨#[]⟩], .agg #[.int .i64 3, .int .i64 q, .string ⟨#[]⟩]] W fun e w' => e = .returned (.agg #[.int .i64 rk, .int .i64 rn, .string ⟨#[]⟩]) ∧ Below W.heap.size W w')) (V : World) (BV : Below w.heap.size w V) (f5V : V.heap[b5]? = some (V3 3 p)) (f6V : V.heap[b6]? = some (V3 3 q)) (b7 : Nat) (g7V : V.heap[b7]? = some (V3 0 0)) (lb7 : w.heap.size ≤ b7) (n5b7 : b5 ≠ b7) (n6b7 : b6 ≠ b7) (b8 : Nat) (g8V : V.heap[b8]? = some (V3 0 0)) (lb8 : w.heap.size ≤ b8) (n5b8 : b5 ≠ b8) (n6b8 : b6 ≠ b8) (n78 : b7 ≠ b8) : wpAnyH Tryd.prog .any ops4 Q (S4 b5 b6 p q) 2 #[true, true, true, true, true, true, true, true, false, false] { tmps := #[.int .i64 x, .int .i64 y, undef, undef, .bool false, .pointer (some ⟨b5, 0, none⟩), .pointer (some ⟨b6, 0, none⟩), .pointer (some ⟨b7, 0, none⟩), .pointer (some ⟨b8, 0, none⟩), .bool true, .bool false, .int .i64 x, .int .i64 p, .agg #[.int .i64 3, .int .i64 p, .string ⟨#[]⟩], .int .i64 y, .int .i64 q, .agg #[.int .i64 3, .int .i64 q, .string ⟨#[]⟩], .agg #[.int .i64 3, .int .i64 p, .string ⟨#[]⟩], .agg #[.int .i64 3, .int .i64 q, .string ⟨#[]⟩], .agg #[.int .i64 dk, .int .i64 dn, .string ⟨#[]⟩], .agg #[.int .i64 3, .int .i64 p, .string ⟨#[]⟩], .agg #[.int .i64 3, .int .i64 q, .string ⟨#[]⟩], .agg #[.int .i64 rk, .int .i64 rn, .string ⟨#[]⟩], undef, undef, undef, undef, undef, undef, undef, undef, undef, undef, undef, undef, undef, undef, undef, undef, undef, undef, undef, undef, undef, undef, undef, undef, undef, undef, undef, undef, undef, undef, undef, undef, undef, undef, undef, undef, undef, undef, undef, undef, undef, undef, undef, undef, undef, undef, undef, undef, undef, undef, undef, undef, undef, undef], defers := [] } V := by
  refine wpAnyH_ready (rs := [8]) (by kernel_rfl) (by simp) ?_
  refine AllReadyH.cons (o := { dst := none, op := Op.store 23 (Operand.tmp 7) (Operand.tmp 19), type := 0, pos := "law.go:47", after := #[{ on := 6, ground := Ground.data }, { on := 2, ground := Ground.data }, { on := 5, ground := Ground.chain }, { on := 0, ground := Ground.phase }, { on := 1, ground := Ground.phase }, { on := 2, ground := Ground.phase }, { on := 3, ground := Ground.textOnly Departure.lateStores }, { on := 4, ground := Ground.textOnly Departure.lateStores }, { on := 5, ground := Ground.textOnly Departure.lateStoresUnsure }, { on := 6, ground := Ground.phase }, { on := 7, ground := Ground.phase }], guard := none }) rfl (fun K hK => ?_) ?_
  · obtain ⟨_, _, _, z0, z1, z2, _⟩ := tri g7V
    go_simp
    obtain ⟨v1, e1⟩ : ∃ U, U = set3 V b7 (.int .i64 dk) (.int .i64 dn) (.string ⟨#[]⟩) := ⟨_, rfl⟩
    have B1 : Below w.heap.size w v1 := by rw [e1]; exact st3 BV lb7
    have f51 : v1.heap[b5]? = some (V3 3 p) := by rw [e1]; exact (set3_old _ _ _ _ _ _ n5b7).trans f5V
    have f61 : v1.heap[b6]? = some (V3 3 q) := by rw [e1]; exact (set3_old _ _ _ _ _ _ n6b7).trans f6V
    have g81 : v1.heap[b8]? = some (V3 0 0) := by rw [e1]; exact (set3_old _ _ _ _ _ _ n78.symm).trans g8V
    have g71 : v1.heap[b7]? = some (V3 dk dn) := by rw [e1]; exact set3_new _ _ _ _ _ _ _ _ g7V
    change K _ (set3 V b7 (.int .i64 dk) (.int .i64 dn) (.string ⟨#[]⟩))
    rw [← e1]
    refine hK.out _ _ (by exact ⟨f51, f61⟩) (fun _ => ?_)
    exact st_311 Q x y p q dk dn rk rn w b5 b6 HR HD HM v1 B1 f51 f61 b7 g71 lb7 n5b7 n6b7 b8 g81 lb8 n5b8 n6b8 n78
  · exact AllReadyH.nil

set_option maxRecDepth 100000 in
set_option maxHeartbeats 2000000 in
theorem st_210 (Q : Exit → Act → World → Prop) (x y p q dk dn rk rn : Int) (w : World) (b5 b6 : Nat) (HR : Hid (∀ a V, R4 x y p q dk dn rk rn w b5 b6 a V → Q .normal a V)) (HD : Hid (∀ W, Calls Tryd.prog 20 #[.agg #[.int .i64 3, .int .i64 p, .string ⟨#[]⟩], .agg #[.int .i64 3, .int .i64 q, .string ⟨#[]⟩]] W fun e w' => e = .returned (.agg #[.int .i64 dk, .int .i64 dn, .string ⟨#[]⟩]) ∧ Below W.heap.size W w')) (HM : Hid (∀ W, Calls Tryd.prog 21 #[.agg #[.int .i64 3, .int .i64 p, .string ⟨#[]⟩], .agg #[.int .i64 3, .int .i64 q, .string ⟨#[]⟩]] W fun e w' => e = .returned (.agg #[.int .i64 rk, .int .i64 rn, .string ⟨#[]⟩]) ∧ Below W.heap.size W w')) (V : World) (BV : Below w.heap.size w V) (f5V : V.heap[b5]? = some (V3 3 p)) (f6V : V.heap[b6]? = some (V3 3 q)) (b7 : Nat) (g7V : V.heap[b7]? = some (V3 0 0)) (lb7 : w.heap.size ≤ b7) (n5b7 : b5 ≠ b7) (n6b7 : b6 ≠ b7) : wpAnyH Tryd.prog .any ops4 Q (S4 b5 b6 p q) 3 #[true, true, true, true, true, true, true, false, false, false] { tmps := #[.int .i64 x, .int .i64 y, undef, undef, .bool false, .pointer (some ⟨b5, 0, none⟩), .pointer (some ⟨b6, 0, none⟩), .pointer (some ⟨b7, 0, none⟩), undef, .bool true, .bool false, .int .i64 x, .int .i64 p, .agg #[.int .i64 3, .int .i64 p, .string ⟨#[]⟩], .int .i64 y, .int .i64 q, .agg #[.int .i64 3, .int .i64 q, .string ⟨#[]⟩], .agg #[.int .i64 3, .int .i64 p, .string ⟨#[]⟩], .agg #[.int .i64 3, .int .i64 q, .string ⟨#[]⟩], .agg #[.int .i64 dk, .int .i64 dn, .string ⟨#[]⟩], .agg #[.int .i64 3, .int .i64 p, .string ⟨#[]⟩], .agg #[.int .i64 3, .int .i64 q, .string ⟨#[]⟩], .agg #[.int .i64 rk, .int .i64 rn, .string ⟨#[]⟩], undef, undef, undef, undef, undef, undef, undef, undef, undef, undef, undef, undef, undef, undef, undef, undef, undef, undef, undef, undef, undef, undef, undef, undef, undef, undef, undef, undef, undef, undef, undef, undef, undef, undef, undef, undef, undef, undef, undef, undef, undef, undef, undef, undef, undef, undef, undef, undef, undef, undef, undef, undef, undef, undef], defers := [] } V := by
  refine wpAnyH_ready (rs := [7]) (by kernel_rfl) (by simp) ?_
  refine AllReadyH.cons (o := { dst := some 8, op := Op.alloc 23, type := 0, pos := "law.go:47", after := #[], guard := none }) rfl (fun K hK => ?_) ?_
  · go_simp
    obtain ⟨v1, e1⟩ : ∃ U, U = World.alloc V (V3 0 0) := ⟨_, rfl⟩
    obtain ⟨b8, e2⟩ : ∃ b : Nat, b = V.heap.size := ⟨_, rfl⟩
    have B1 : Below w.heap.size w v1 := by rw [e1]; exact BV.alloc BV.size _
    have f51 : v1.heap[b5]? = some (V3 3 p) := by rw [e1]; exact (heap_alloc_old _ _ (tri f5V).2.2.2.2.2.2).trans f5V
    have f61 : v1.heap[b6]? = some (V3 3 q) := by rw [e1]; exact (heap_alloc_old _ _ (tri f6V).2.2.2.2.2.2).trans f6V
    have g71 : v1.heap[b7]? = some (V3 0 0) := by rw [e1]; exact (heap_alloc_old _ _ (tri g7V).2.2.2.2.2.2).trans g7V
    have g81 : v1.heap[b8]? = some (V3 0 0) := by rw [e1, e2]; exact heap_alloc_new _ _
    have lb8 : w.heap.size ≤ b8 := by rw [e2]; exact BV.size
    have n5b8 : b5 ≠ b8 := by have := (tri f5V).2.2.2.2.2.2; omega
    have n6b8 : b6 ≠ b8 := by have := (tri f6V).2.2.2.2.2.2; omega
    have n78 : b7 ≠ b8 := by have := (tri g7V).2.2.2.2.2.2; omega
    simp only [← e1, ← e2]
    refine hK.out _ _ (by exact ⟨f51, f61⟩) (fun _ => ?_)
    exact st_211 Q x y p q dk dn rk rn w b5 b6 HR HD HM v1 B1 f51 f61 b7 g71 lb7 n5b7 n6b7 b8 g81 lb8 n5b8 n6b8 n78
  · exact AllReadyH.nil

set_option maxRecDepth 100000 in
set_option maxHeartbeats 2000000 in
theorem st_201 (Q : Exit → Act → World → Prop) (x y p q dk dn rk rn : Int) (w : World) (b5 b6 : Nat) (HR : Hid (∀ a V, R4 x y p q dk dn rk rn w b5 b6 a V → Q .normal a V)) (HD : Hid (∀ W, Calls Tryd.prog 20 #[.agg #[.int .i64 3, .int .i64 p, .string ⟨#[]⟩], .agg #[.int .i64 3, .int .i64 q, .string ⟨#[]⟩]] W fun e w' => e = .returned (.agg #[.int .i64 dk, .int .i64 dn, .string ⟨#[]⟩]) ∧ Below W.heap.size W w')) (HM : Hid (∀ W, Calls Tryd.prog 21 #[.agg #[.int .i64 3, .int .i64 p, .string ⟨#[]⟩], .agg #[.int .i64 3, .int .i64 q, .string ⟨#[]⟩]] W fun e w' => e = .returned (.agg #[.int .i64 rk, .int .i64 rn, .string ⟨#[]⟩]) ∧ Below W.heap.size W w')) (V : World) (BV : Below w.heap.size w V) (f5V : V.heap[b5]? = some (V3 3 p)) (f6V : V.heap[b6]? = some (V3 3 q)) (b8 : Nat) (g8V : V.heap[b8]? = some (V3 0 0)) (lb8 : w.heap.size ≤ b8) (n5b8 : b5 ≠ b8) (n6b8 : b6 ≠ b8) : wpAnyH Tryd.prog .any ops4 Q (S4 b5 b6 p q) 3 #[true, true, true, true, true, true, false, true, false, false] { tmps := #[.int .i64 x, .int .i64 y, undef, undef, .bool false, .pointer (some ⟨b5, 0, none⟩), .pointer (some ⟨b6, 0, none⟩), undef, .pointer (some ⟨b8, 0, none⟩), .bool true, .bool false, .int .i64 x, .int .i64 p, .agg #[.int .i64 3, .int .i64 p, .string ⟨#[]⟩], .int .i64 y, .int .i64 q, .agg #[.int .i64 3, .int .i64 q, .string ⟨#[]⟩], .agg #[.int .i64 3, .int .i64 p, .string ⟨#[]⟩], .agg #[.int .i64 3, .int .i64 q, .string ⟨#[]⟩], .agg #[.int .i64 dk, .int .i64 dn, .string ⟨#[]⟩], .agg #[.int .i64 3, .int .i64 p, .string ⟨#[]⟩], .agg #[.int .i64 3, .int .i64 q, .string ⟨#[]⟩], .agg #[.int .i64 rk, .int .i64 rn, .string ⟨#[]⟩], undef, undef, undef, undef, undef, undef, undef, undef, undef, undef, undef, undef, undef, undef, undef, undef, undef, undef, undef, undef, undef, undef, undef, undef, undef, undef, undef, undef, undef, undef, undef, undef, undef, undef, undef, undef, undef, undef, undef, undef, undef, undef, undef, undef, undef, undef, undef, undef, undef, undef, undef, undef, undef, undef], defers := [] } V := by
  refine wpAnyH_ready (rs := [6]) (by kernel_rfl) (by simp) ?_
  refine AllReadyH.cons (o := { dst := some 7, op := Op.alloc 23, type := 0, pos := "law.go:47", after := #[], guard := none }) rfl (fun K hK => ?_) ?_
  · go_simp
    obtain ⟨v1, e1⟩ : ∃ U, U = World.alloc V (V3 0 0) := ⟨_, rfl⟩
    obtain ⟨b7, e2⟩ : ∃ b : Nat, b = V.heap.size := ⟨_, rfl⟩
    have B1 : Below w.heap.size w v1 := by rw [e1]; exact BV.alloc BV.size _
    have f51 : v1.heap[b5]? = some (V3 3 p) := by rw [e1]; exact (heap_alloc_old _ _ (tri f5V).2.2.2.2.2.2).trans f5V
    have f61 : v1.heap[b6]? = some (V3 3 q) := by rw [e1]; exact (heap_alloc_old _ _ (tri f6V).2.2.2.2.2.2).trans f6V
    have g81 : v1.heap[b8]? = some (V3 0 0) := by rw [e1]; exact (heap_alloc_old _ _ (tri g8V).2.2.2.2.2.2).trans g8V
    have g71 : v1.heap[b7]? = some (V3 0 0) := by rw [e1, e2]; exact heap_alloc_new _ _
    have lb7 : w.heap.size ≤ b7 := by rw [e2]; exact BV.size
    have n5b7 : b5 ≠ b7 := by have := (tri f5V).2.2.2.2.2.2; omega
    have n6b7 : b6 ≠ b7 := by have := (tri f6V).2.2.2.2.2.2; omega
    have n78 : b7 ≠ b8 := by have := (tri g8V).2.2.2.2.2.2; omega
    simp only [← e1, ← e2]
    refine hK.out _ _ (by exact ⟨f51, f61⟩) (fun _ => ?_)
    exact st_211 Q x y p q dk dn rk rn w b5 b6 HR HD HM v1 B1 f51 f61 b7 g71 lb7 n5b7 n6b7 b8 g81 lb8 n5b8 n6b8 n78
  · exact AllReadyH.nil

set_option maxRecDepth 100000 in
set_option maxHeartbeats 2000000 in
theorem st_200 (Q : Exit → Act → World → Prop) (x y p q dk dn rk rn : Int) (w : World) (b5 b6 : Nat) (HR : Hid (∀ a V, R4 x y p q dk dn rk rn w b5 b6 a V → Q .normal a V)) (HD : Hid (∀ W, Calls Tryd.prog 20 #[.agg #[.int .i64 3, .int .i64 p, .string ⟨#[]⟩], .agg #[.int .i64 3, .int .i64 q, .string ⟨#[]⟩]] W fun e w' => e = .returned (.agg #[.int .i64 dk, .int .i64 dn, .string ⟨#[]⟩]) ∧ Below W.heap.size W w')) (HM : Hid (∀ W, Calls Tryd.prog 21 #[.agg #[.int .i64 3, .int .i64 p, .string ⟨#[]⟩], .agg #[.int .i64 3, .int .i64 q, .string ⟨#[]⟩]] W fun e w' => e = .returned (.agg #[.int .i64 rk, .int .i64 rn, .string ⟨#[]⟩]) ∧ Below W.heap.size W w')) (V : World) (BV : Below w.heap.size w V) (f5V : V.heap[b5]? = some (V3 3 p)) (f6V : V.heap[b6]? = some (V3 3 q)) : wpAnyH Tryd.prog .any ops4 Q (S4 b5 b6 p q) 4 #[true, true, true, true, true, true, false, false, false, false] { tmps := #[.int .i64 x, .int .i64 y, undef, undef, .bool false, .pointer (some ⟨b5, 0, none⟩), .pointer (some ⟨b6, 0, none⟩), undef, undef, .bool true, .bool false, .int .i64 x, .int .i64 p, .agg #[.int .i64 3, .int .i64 p, .string ⟨#[]⟩], .int .i64 y, .int .i64 q, .agg #[.int .i64 3, .int .i64 q, .string ⟨#[]⟩], .agg #[.int .i64 3, .int .i64 p, .string ⟨#[]⟩], .agg #[.int .i64 3, .int .i64 q, .string ⟨#[]⟩], .agg #[.int .i64 dk, .int .i64 dn, .string ⟨#[]⟩], .agg #[.int .i64 3, .int .i64 p, .string ⟨#[]⟩], .agg #[.int .i64 3, .int .i64 q, .string ⟨#[]⟩], .agg #[.int .i64 rk, .int .i64 rn, .string ⟨#[]⟩], undef, undef, undef, undef, undef, undef, undef, undef, undef, undef, undef, undef, undef, undef, undef, undef, undef, undef, undef, undef, undef, undef, undef, undef, undef, undef, undef, undef, undef, undef, undef, undef, undef, undef, undef, undef, undef, undef, undef, undef, undef, undef, undef, undef, undef, undef, undef, undef, undef, undef, undef, undef, undef, undef], defers := [] } V := by
  refine wpAnyH_ready (rs := [6, 7]) (by kernel_rfl) (by simp) ?_
  refine AllReadyH.cons (o := { dst := some 7, op := Op.alloc 23, type := 0, pos := "law.go:47", after := #[], guard := none }) rfl (fun K hK => ?_) ?_
  · go_simp
    obtain ⟨v1, e1⟩ : ∃ U, U = World.alloc V (V3 0 0) := ⟨_, rfl⟩
    obtain ⟨b7, e2⟩ : ∃ b : Nat, b = V.heap.size := ⟨_, rfl⟩
    have B1 : Below w.heap.size w v1 := by rw [e1]; exact BV.alloc BV.size _
    have f51 : v1.heap[b5]? = some (V3 3 p) := by rw [e1]; exact (heap_alloc_old _ _ (tri f5V).2.2.2.2.2.2).trans f5V
    have f61 : v1.heap[b6]? = some (V3 3 q) := by rw [e1]; exact (heap_alloc_old _ _ (tri f6V).2.2.2.2.2.2).trans f6V
    have g71 : v1.heap[b7]? = some (V3 0 0) := by rw [e1, e2]; exact heap_alloc_new _ _
    have lb7 : w.heap.size ≤ b7 := by rw [e2]; exact BV.size
    have n5b7 : b5 ≠ b7 := by have := (tri f5V).2.2.2.2.2.2; omega
    have n6b7 : b6 ≠ b7 := by have := (tri f6V).2.2.2.2.2.2; omega
    simp only [← e1, ← e2]
    refine hK.out _ _ (by exact ⟨f51, f61⟩) (fun _ => ?_)
    exact st_210 Q x y p q dk dn rk rn w b5 b6 HR HD HM v1 B1 f51 f61 b7 g71 lb7 n5b7 n6b7
  · refine AllReadyH.cons (o := { dst := some 8, op := Op.alloc 23, type := 0, pos := "law.go:47", after := #[], guard := none }) rfl (fun K hK => ?_) ?_
    · go_simp
      obtain ⟨v1, e1⟩ : ∃ U, U = World.alloc V (V3 0 0) := ⟨_, rfl⟩
      obtain ⟨b8, e2⟩ : ∃ b : Nat, b = V.heap.size := ⟨_, rfl⟩
      have B1 : Below w.heap.size w v1 := by rw [e1]; exact BV.alloc BV.size _
      have f51 : v1.heap[b5]? = some (V3 3 p) := by rw [e1]; exact (heap_alloc_old _ _ (tri f5V).2.2.2.2.2.2).trans f5V
      have f61 : v1.heap[b6]? = some (V3 3 q) := by rw [e1]; exact (heap_alloc_old _ _ (tri f6V).2.2.2.2.2.2).trans f6V
      have g81 : v1.heap[b8]? = some (V3 0 0) := by rw [e1, e2]; exact heap_alloc_new _ _
      have lb8 : w.heap.size ≤ b8 := by rw [e2]; exact BV.size
      have n5b8 : b5 ≠ b8 := by have := (tri f5V).2.2.2.2.2.2; omega
      have n6b8 : b6 ≠ b8 := by have := (tri f6V).2.2.2.2.2.2; omega
      simp only [← e1, ← e2]
      refine hK.out _ _ (by exact ⟨f51, f61⟩) (fun _ => ?_)
      exact st_201 Q x y p q dk dn rk rn w b5 b6 HR HD HM v1 B1 f51 f61 b8 g81 lb8 n5b8 n6b8
    · exact AllReadyH.nil

set_option maxRecDepth 100000 in
set_option maxHeartbeats 2000000 in
theorem st_111 (Q : Exit → Act → World → Prop) (x y p q dk dn rk rn : Int) (w : World) (b5 b6 : Nat) (HR : Hid (∀ a V, R4 x y p q dk dn rk rn w b5 b6 a V → Q .normal a V)) (HD : Hid (∀ W, Calls Tryd.prog 20 #[.agg #[.int .i64 3, .int .i64 p, .string ⟨#[]⟩], .agg #[.int .i64 3, .int .i64 q, .string ⟨#[]⟩]] W fun e w' => e = .returned (.agg #[.int .i64 dk, .int .i64 dn, .string ⟨#[]⟩]) ∧ Below W.heap.size W w')) (HM : Hid (∀ W, Calls Tryd.prog 21 #[.agg #[.int .i64 3, .int .i64 p, .string ⟨#[]⟩], .agg #[.int .i64 3, .int .i64 q, .string ⟨#[]⟩]] W fun e w' => e = .returned (.agg #[.int .i64 rk, .int .i64 rn, .string ⟨#[]⟩]) ∧ Below W.heap.size W w')) (V : World) (BV : Below w.heap.size w V) (f5V : V.heap[b5]? = some (V3 3 p)) (f6V : V.heap[b6]? = some (V3 3 q)) (b7 : Nat) (g7V : V.heap[b7]? = some (V3 0 0)) (lb7 : w.heap.size ≤ b7) (n5b7 : b5 ≠ b7) (n6b7 : b6 ≠ b7) (b8 : Nat) (g8V : V.heap[b8]? = some (V3 0 0)) (lb8 : w.heap.size ≤ b8) (n5b8 : b5 ≠ b8) (n6b8 : b6 ≠ b8) (n78 : b7 ≠ b8) : wpAnyH Tryd.prog .any ops4 Q (S4 b5 b6 p q) 3 #[true, true, true, true, true, false, true, true, false, false] { tmps := #[.int .i64 x, .int .i64 y, undef, undef, .bool false, .pointer (some ⟨b5, 0, none⟩), .pointer (some ⟨b6, 0, none⟩), .pointer (some ⟨b7, 0, none⟩), .pointer (some ⟨b8, 0, none⟩), .bool true, .bool false, .int .i64 x, .int .i64 p, .agg #[.int .i64 3, .int .i64 p, .string ⟨#[]⟩], .int .i64 y, .int .i64 q, .agg #[.int .i64 3, .int .i64 q, .string ⟨#[]⟩], .agg #[.int .i64 3, .int .i64 p, .string ⟨#[]⟩], .agg #[.int .i64 3, .int .i64 q, .string ⟨#[]⟩], .agg #[.int .i64 dk, .int .i64 dn, .string ⟨#[]⟩], .agg #[.int .i64 3, .int .i64 p, .string ⟨#[]⟩], .agg #[.int .i64 3, .int .i64 q, .string ⟨#[]⟩], undef, undef, undef, undef, undef, undef, undef, undef, undef, undef, undef, undef, undef, undef, undef, undef, undef, undef, undef, undef, undef, undef, undef, undef, undef, undef, undef, undef, undef, undef, undef, undef, undef, undef, undef, undef, undef, undef, undef, undef, undef, undef, undef, undef, undef, undef, undef, undef, undef, undef, undef, undef, undef, undef, undef], defers := [] } V := by
  refine wpAnyH_ready (rs := [5]) (by kernel_rfl) (by simp) ?_
  refine AllReadyH.cons (o := { dst := some 22, op := Op.call { callee := Callee.value (Operand.func 21), args := #[Operand.tmp 20, Operand.tmp 21], argTypes := #[23, 23] }, type := 23, pos := "law.go:47", after := #[{ on := 3, ground := Ground.data }, { on := 4, ground := Ground.data }, { on := 2, ground := Ground.chain }], guard := none }) rfl (fun K hK => ?_) ?_
  · go_wp2_with fail
    refine (HM.out _).mono ?_
    rintro e v1 ⟨rfl, hb⟩
    have B1 : Below w.heap.size w v1 := thr BV hb BV.size
    have f51 := kept hb (tri f5V).2.2.2.2.2.2 f5V
    have f61 := kept hb (tri f6V).2.2.2.2.2.2 f6V
    have g71 := kept hb (tri g7V).2.2.2.2.2.2 g7V
    have g81 := kept hb (tri g8V).2.2.2.2.2.2 g8V
    refine hK.out _ _ (by exact ⟨f51, f61⟩) (fun _ => ?_)
    exact st_211 Q x y p q dk dn rk rn w b5 b6 HR HD HM v1 B1 f51 f61 b7 g71 lb7 n5b7 n6b7 b8 g81 lb8 n5b8 n6b8 n78
  · exact AllReadyH.nil

set_option maxRecDepth 100000 in
set_option maxHeartbeats 2000000 in
theorem st_110 (Q : Exit → Act → World → Prop) (x y p q dk dn rk rn : Int) (w : World) (b5 b6 : Nat) (HR : Hid (∀ a V, R4 x y p q dk dn rk rn w b5 b6 a V → Q .normal a V)) (HD : Hid (∀ W, Calls Tryd.prog 20 #[.agg #[.int .i64 3, .int .i64 p, .string ⟨#[]⟩], .agg #[.int .i64 3, .int .i64 q, .string ⟨#[]⟩]] W fun e w' => e = .returned (.agg #[.int .i64 dk, .int .i64 dn, .string ⟨#[]⟩]) ∧ Below W.heap.size W w')) (HM : Hid (∀ W, Calls Tryd.prog 21 #[.agg #[.int .i64 3, .int .i64 p, .string ⟨#[]⟩], .agg #[.int .i64 3, .int .i64 q, .string ⟨#[]⟩]] W fun e w' => e = .returned (.agg #[.int .i64 rk, .int .i64 rn, .string ⟨#[]⟩]) ∧ Below W.heap.size W w')) (V : World) (BV : Below w.heap.size w V) (f5V : V.heap[b5]? = some (V3 3 p)) (f6V : V.heap[b6]? = some (V3 3 q)) (b7 : Nat) (g7V : V.heap[b7]? = some (V3 0 0)) (lb7 : w.heap.size ≤ b7) (n5b7 : b5 ≠ b7) (n6b7 : b6 ≠ b7) : wpAnyH Tryd.prog .any ops4 Q (S4 b5 b6 p q) 4 #[true, true, true, true, true, false, true, false, false, false] { tmps := #[.int .i64 x, .int .i64 y, undef, undef, .bool false, .pointer (some ⟨b5, 0, none⟩), .pointer (some ⟨b6, 0, none⟩), .pointer (some ⟨b7, 0, none⟩), undef, .bool true, .bool false, .int .i64 x, .int .i64 p, .agg #[.int .i64 3, .int .i64 p, .string ⟨#[]⟩], .int .i64 y, .int .i64 q, .agg #[.int .i64 3, .int .i64 q, .string ⟨#[]⟩], .agg #[.int .i64 3, .int .i64 p, .string ⟨#[]⟩], .agg #[.int .i64 3, .int .i64 q, .string ⟨#[]⟩], .agg #[.int .i64 dk, .int .i64 dn, .string ⟨#[]⟩], .agg #[.int .i64 3, .int .i64 p, .string ⟨#[]⟩], .agg #[.int .i64 3, .int .i64 q, .string ⟨#[]⟩], undef, undef, undef, undef, undef, undef, undef, undef, undef, undef, undef, undef, undef, undef, undef, undef, undef, undef, undef, undef, undef, undef, undef, undef, undef, undef, undef, undef, undef, undef, undef, undef, undef, undef, undef, undef, undef, undef, undef, undef, undef, undef, undef, undef, undef, undef, undef, undef, undef, undef, undef, undef, undef, undef, undef], defers := [] } V := by
  refine wpAnyH_ready (rs := [5, 7]) (by kernel_rfl) (by simp) ?_
  refine AllReadyH.cons (o := { dst := some 22, op := Op.call { callee := Callee.value (Operand.func 21), args := #[Operand.tmp 20, Operand.tmp 21], argTypes := #[23, 23] }, type := 23, pos := "law.go:47", after := #[{ on := 3, ground := Ground.data }, { on := 4, ground := Ground.data }, { on := 2, ground := Ground.chain }], guard := none }) rfl (fun K hK => ?_) ?_
  · go_wp2_with fail
    refine (HM.out _).mono ?_
    rintro e v1 ⟨rfl, hb⟩
    have B1 : Below w.heap.size w v1 := thr BV hb BV.size
    have f51 := kept hb (tri f5V).2.2.2.2.2.2 f5V
    have f61 := kept hb (tri f6V).2.2.2.2.2.2 f6V
    have g71 := kept hb (tri g7V).2.2.2.2.2.2 g7V
    refine hK.out _ _ (by exact ⟨f51, f61⟩) (fun _ => ?_)
    exact st_210 Q x y p q dk dn rk rn w b5 b6 HR HD HM v1 B1 f51 f61 b7 g71 lb7 n5b7 n6b7
  · refine AllReadyH.cons (o := { dst := some 8, op := Op.alloc 23, type := 0, pos := "law.go:47", after := #[], guard := none }) rfl (fun K hK => ?_) ?_
    · go_simp
      obtain ⟨v1, e1⟩ : ∃ U, U = World.alloc V (V3 0 0) := ⟨_, rfl⟩
      obtain ⟨b8, e2⟩ : ∃ b : Nat, b = V.heap.size := ⟨_, rfl⟩
      have B1 : Below w.heap.size w v1 := by rw [e1]; exact BV.alloc BV.size _
      have f51 : v1.heap[b5]? = some (V3 3 p) := by rw [e1]; exact (heap_alloc_old _ _ (tri f5V).2.2.2.2.2.2).trans f5V
      have f61 : v1.heap[b6]? = some (V3 3 q) := by rw [e1]; exact (heap_alloc_old _ _ (tri f6V).2.2.2.2.2.2).trans f6V
      have g71 : v1.heap[b7]? = some (V3 0 0) := by rw [e1]; exact (heap_alloc_old _ _ (tri g7V).2.2.2.2.2.2).trans g7V
      have g81 : v1.heap[b8]? = some (V3 0 0) := by rw [e1, e2]; exact heap_alloc_new _ _
      have lb8 : w.heap.size ≤ b8 := by rw [e2]; exact BV.size
      have n5b8 : b5 ≠ b8 := by have := (tri f5V).2.2.2.2.2.2; omega
      have n6b8 : b6 ≠ b8 := by have := (tri f6V).2.2.2.2.2.2; omega
      have n78 : b7 ≠ b8 := by have := (tri g7V).2.2.2.2.2.2; omega
      simp only [← e1, ← e2]
      refine hK.out _ _ (by exact ⟨f51, f61⟩) (fun _ => ?_)
      exact st_111 Q x y p q dk dn rk rn w b5 b6 HR HD HM v1 B1 f51 f61 b7 g71 lb7 n5b7 n6b7 b8 g81 lb8 n5b8 n6b8 n78
    · exact AllReadyH.nil

set_option maxRecDepth 100000 in
set_option maxHeartbeats 2000000 in
theorem st_101 (Q : Exit → Act → World → Prop) (x y p q dk dn rk rn : Int) (w : World) (b5 b6 : Nat) (HR : Hid (∀ a V, R4 x y p q dk dn rk rn w b5 b6 a V → Q .normal a V)) (HD : Hid (∀ W, Calls Tryd.prog 20 #[.agg #[.int .i64 3, .int .i64 p, .string ⟨#[]⟩], .agg #[.int .i64 3, .int .i64 q, .string ⟨#[]⟩]] W fun e w' => e = .returned (.agg #[.int .i64 dk, .int .i64 dn, .string ⟨#[]⟩]) ∧ Below W.heap.size W w')) (HM : Hid (∀ W, Calls Tryd.prog 21 #[.agg #[.int .i64 3, .int .i64 p, .string ⟨#[]⟩], .agg #[.int .i64 3, .int .i64 q, .string ⟨#[]⟩]] W fun e w' => e = .returned (.agg #[.int .i64 rk, .int .i64 rn, .string ⟨#[]⟩]) ∧ Below W.heap.size W w')) (V : World) (BV : Below w.heap.size w V) (f5V : V.heap[b5]? = some (V3 3 p)) (f6V : V.heap[b6]? = some (V3 3 q)) (b8 : Nat) (g8V : V.heap[b8]? = some (V3 0 0)) (lb8 : w.heap.size ≤ b8) (n5b8 : b5 ≠ b8) (n6b8 : b6 ≠ b8) : wpAnyH Tryd.prog .any ops4 Q (S4 b5 b6 p q) 4 #[true, true, true, true, true, false, false, true, false, false] { tmps := #[.int .i64 x, .int .i64 y, undef, undef, .bool false, .pointer (some ⟨b5, 0, none⟩), .pointer (some ⟨b6, 0, none⟩), undef, .pointer (some ⟨b8, 0, none⟩), .bool true, .bool false, .int .i64 x, .int .i64 p, .agg #[.int .i64 3, .int .i64 p, .string ⟨#[]⟩], .int .i64 y, .int .i64 q, .agg #[.int .i64 3, .int .i64 q, .string ⟨#[]⟩], .agg #[.int .i64 3, .int .i64 p, .string ⟨#[]⟩], .agg #[.int .i64 3, .int .i64 q, .string ⟨#[]⟩], .agg #[.int .i64 dk, .int .i64 dn, .string ⟨#[]⟩], .agg #[.int .i64 3, .int .i64 p, .string ⟨#[]⟩], .agg #[.int .i64 3, .int .i64 q, .string ⟨#[]⟩], undef, undef, undef, undef, undef, undef, undef, undef, undef, undef, undef, undef, undef, undef, undef, undef, undef, undef, undef, undef, undef, undef, undef, undef, undef, undef, undef, undef, undef, undef, undef, undef, undef, undef, undef, undef, undef, undef, undef, undef, undef, undef, undef, undef, undef, undef, undef, undef, undef, undef, undef, undef, undef, undef, undef], defers := [] } V := by
  refine wpAnyH_ready (rs := [5, 6]) (by kernel_rfl) (by simp) ?_
  refine AllReadyH.cons (o := { dst := some 22, op := Op.call { callee := Callee.value (Operand.func 21), args := #[Operand.tmp 20, Operand.tmp 21], argTypes := #[23, 23] }, type := 23, pos := "law.go:47", after := #[{ on := 3, ground := Ground.data }, { on := 4, ground := Ground.data }, { on := 2, ground := Ground.chain }], guard := none }) rfl (fun K hK => ?_) ?_
  · go_wp2_with fail
    refine (HM.out _).mono ?_
    rintro e v1 ⟨rfl, hb⟩
    have B1 : Below w.heap.size w v1 := thr BV hb BV.size
    have f51 := kept hb (tri f5V).2.2.2.2.2.2 f5V
    have f61 := kept hb (tri f6V).2.2.2.2.2.2 f6V
    have g81 := kept hb (tri g8V).2.2.2.2.2.2 g8V
    refine hK.out _ _ (by exact ⟨f51, f61⟩) (fun _ => ?_)
    exact st_201 Q x y p q dk dn rk rn w b5 b6 HR HD HM v1 B1 f51 f61 b8 g81 lb8 n5b8 n6b8
  · refine AllReadyH.cons (o := { dst := some 7, op := Op.alloc 23, type := 0, pos := "law.go:47", after := #[], guard := none }) rfl (fun K hK => ?_) ?_
    · go_simp
      obtain ⟨v1, e1⟩ : ∃ U, U = World.alloc V (V3 0 0) := ⟨_, rfl⟩
      obtain ⟨b7, e2⟩ : ∃ b : Nat, b = V.heap.size := ⟨_, rfl⟩
      have B1 : Below w.heap.size w v1 := by rw [e1]; exact BV.alloc BV.size _
      have f51 : v1.heap[b5]? = some (V3 3 p) := by rw [e1]; exact (heap_alloc_old _ _ (tri f5V).2.2.2.2.2.2).trans f5V
      have f61 : v1.heap[b6]? = some (V3 3 q) := by rw [e1]; exact (heap_alloc_old _ _ (tri f6V).2.2.2.2.2.2).trans f6V
      have g81 : v1.heap[b8]? = some (V3 0 0) := by rw [e1]; exact (heap_alloc_old _ _ (tri g8V).2.2.2.2.2.2).trans g8V
      have g71 : v1.heap[b7]? = some (V3 0 0) := by rw [e1, e2]; exact heap_alloc_new _ _
      have lb7 : w.heap.size ≤ b7 := by rw [e2]; exact BV.size
      have n5b7 : b5 ≠ b7 := by have := (tri f5V).2.2.2.2.2.2; omega
      have n6b7 : b6 ≠ b7 := by have := (tri f6V).2.2.2.2.2.2; omega
      have n78 : b7 ≠ b8 := by have := (tri g8V).2.2.2.2.2.2; omega
      simp only [← e1, ← e2]
      refine hK.out _ _ (by exact ⟨f51, f61⟩) (fun _ => ?_)
      exact st_111 Q x y p q dk dn rk rn w b5 b6 HR HD HM v1 B1 f51 f61 b7 g71 lb7 n5b7 n6b7 b8 g81 lb8 n5b8 n6b8 n78
    · exact AllReadyH.nil

set_option maxRecDepth 100000 in
set_option maxHeartbeats 2000000 in
theorem st_100 (Q : Exit → Act → World → Prop) (x y p q dk dn rk rn : Int) (w : World) (b5 b6 : Nat) (HR : Hid (∀ a V, R4 x y p q dk dn rk rn w b5 b6 a V → Q .normal a V)) (HD : Hid (∀ W, Calls Tryd.prog 20 #[.agg #[.int .i64 3, .int .i64 p, .string ⟨#[]⟩], .agg #[.int .i64 3, .int .i64 q, .string ⟨#[]⟩]] W fun e w' => e = .returned (.agg #[.int .i64 dk, .int .i64 dn, .string ⟨#[]⟩]) ∧ Below W.heap.size W w')) (HM : Hid (∀ W, Calls Tryd.prog 21 #[.agg #[.int .i64 3, .int .i64 p, .string ⟨#[]⟩], .agg #[.int .i64 3, .int .i64 q, .string ⟨#[]⟩]] W fun e w' => e = .returned (.agg #[.int .i64 rk, .int .i64 rn, .string ⟨#[]⟩]) ∧ Below W.heap.size W w')) (V : World) (BV : Below w.heap.size w V) (f5V : V.heap[b5]? = some (V3 3 p)) (f6V : V.heap[b6]? = some (V3 3 q)) : wpAnyH Tryd.prog .any ops4 Q (S4 b5 b6 p q) 5 #[true, true, true, true, true, false, false, false, false, false] { tmps := #[.int .i64 x, .int .i64 y, undef, undef, .bool false, .pointer (some ⟨b5, 0, none⟩), .pointer (some ⟨b6, 0, none⟩), undef, undef, .bool true, .bool false, .int .i64 x, .int .i64 p, .agg #[.int .i64 3, .int .i64 p, .string ⟨#[]⟩], .int .i64 y, .int .i64 q, .agg #[.int .i64 3, .int .i64 q, .string ⟨#[]⟩], .agg #[.int .i64 3, .int .i64 p, .string ⟨#[]⟩], .agg #[.int .i64 3, .int .i64 q, .string ⟨#[]⟩], .agg #[.int .i64 dk, .int .i64 dn, .string ⟨#[]⟩], .agg #[.int .i64 3, .int .i64 p, .string ⟨#[]⟩], .agg #[.int .i64 3, .int .i64 q, .string ⟨#[]⟩], undef, undef, undef, undef, undef, undef, undef, undef, undef, undef, undef, undef, undef, undef, undef, undef, undef, undef, undef, undef, undef, undef, undef, undef, undef, undef, undef, undef, undef, undef, undef, undef, undef, undef, undef, undef, undef, undef, undef, undef, undef, undef, undef, undef, undef, undef, undef, undef, undef, undef, undef, undef, undef, undef, undef], defers := [] } V := by
  refine wpAnyH_ready (rs := [5, 6, 7]) (by kernel_rfl) (by simp) ?_
  refine AllReadyH.cons (o := { dst := some 22, op := Op.call { callee := Callee.value (Operand.func 21), args := #[Operand.tmp 20, Operand.tmp 21], argTypes := #[23, 23] }, type := 23, pos := "law.go:47", after := #[{ on := 3, ground := Ground.data }, { on := 4, ground := Ground.data }, { on := 2, ground := Ground.chain }], guard := none }) rfl (fun K hK => ?_) ?_
  · go_wp2_with fail
    refine (HM.out _).mono ?_
    rintro e v1 ⟨rfl, hb⟩
    have B1 : Below w.heap.size w v1 := thr BV hb BV.size
    have f51 := kept hb (tri f5V).2.2.2.2.2.2 f5V
    have f61 := kept hb (tri f6V).2.2.2.2.2.2 f6V
    refine hK.out _ _ (by exact ⟨f51, f61⟩) (fun _ => ?_)
    exact st_200 Q x y p q dk dn rk rn w b5 b6 HR HD HM v1 B1 f51 f61
  · refine AllReadyH.cons (o := { dst := some 7, op := Op.alloc 23, type := 0, pos := "law.go:47", after := #[], guard := none }) rfl (fun K hK => ?_) ?_
    · go_simp
      obtain ⟨v1, e1⟩ : ∃ U, U = World.alloc V (V3 0 0) := ⟨_, rfl⟩
      obtain ⟨b7, e2⟩ : ∃ b : Nat, b = V.heap.size := ⟨_, rfl⟩
      have B1 : Below w.heap.size w v1 := by rw [e1]; exact BV.alloc BV.size _
      have f51 : v1.heap[b5]? = some (V3 3 p) := by rw [e1]; exact (heap_alloc_old _ _ (tri f5V).2.2.2.2.2.2).trans f5V
      have f61 : v1.heap[b6]? = some (V3 3 q) := by rw [e1]; exact (heap_alloc_old _ _ (tri f6V).2.2.2.2.2.2).trans f6V
      have g71 : v1.heap[b7]? = some (V3 0 0) := by rw [e1, e2]; exact heap_alloc_new _ _
      have lb7 : w.heap.size ≤ b7 := by rw [e2]; exact BV.size
      have n5b7 : b5 ≠ b7 := by have := (tri f5V).2.2.2.2.2.2; omega
      have n6b7 : b6 ≠ b7 := by have := (tri f6V).2.2.2.2.2.2; omega
      simp only [← e1, ← e2]
      refine hK.out _ _ (by exact ⟨f51, f61⟩) (fun _ => ?_)
      exact st_110 Q x y p q dk dn rk rn w b5 b6 HR HD HM v1 B1 f51 f61 b7 g71 lb7 n5b7 n6b7
    · refine AllReadyH.cons (o := { dst := some 8, op := Op.alloc 23, type := 0, pos := "law.go:47", after := #[], guard := none }) rfl (fun K hK => ?_) ?_
      · go_simp
        obtain ⟨v1, e1⟩ : ∃ U, U = World.alloc V (V3 0 0) := ⟨_, rfl⟩
        obtain ⟨b8, e2⟩ : ∃ b : Nat, b = V.heap.size := ⟨_, rfl⟩
        have B1 : Below w.heap.size w v1 := by rw [e1]; exact BV.alloc BV.size _
        have f51 : v1.heap[b5]? = some (V3 3 p) := by rw [e1]; exact (heap_alloc_old _ _ (tri f5V).2.2.2.2.2.2).trans f5V
        have f61 : v1.heap[b6]? = some (V3 3 q) := by rw [e1]; exact (heap_alloc_old _ _ (tri f6V).2.2.2.2.2.2).trans f6V
        have g81 : v1.heap[b8]? = some (V3 0 0) := by rw [e1, e2]; exact heap_alloc_new _ _
        have lb8 : w.heap.size ≤ b8 := by rw [e2]; exact BV.size
        have n5b8 : b5 ≠ b8 := by have := (tri f5V).2.2.2.2.2.2; omega
        have n6b8 : b6 ≠ b8 := by have := (tri f6V).2.2.2.2.2.2; omega
        simp only [← e1, ← e2]
        refine hK.out _ _ (by exact ⟨f51, f61⟩) (fun _ => ?_)
        exact st_101 Q x y p q dk dn rk rn w b5 b6 HR HD HM v1 B1 f51 f61 b8 g81 lb8 n5b8 n6b8
      · exact AllReadyH.nil

set_option maxRecDepth 100000 in
set_option maxHeartbeats 2000000 in
theorem st_011 (Q : Exit → Act → World → Prop) (x y p q dk dn rk rn : Int) (w : World) (b5 b6 : Nat) (HR : Hid (∀ a V, R4 x y p q dk dn rk rn w b5 b6 a V → Q .normal a V)) (HD : Hid (∀ W, Calls Tryd.prog 20 #[.agg #[.int .i64 3, .int .i64 p, .string ⟨#[]⟩], .agg #[.int .i64 3, .int .i64 q, .string ⟨#[]⟩]] W fun e w' => e = .returned (.agg #[.int .i64 dk, .int .i64 dn, .string ⟨#[]⟩]) ∧ Below W.heap.size W w')) (HM : Hid (∀ W, Calls Tryd.prog 21 #[.agg #[.int .i64 3, .int .i64 p, .string ⟨#[]⟩], .agg #[.int .i64 3, .int .i64 q, .string ⟨#[]⟩]] W fun e w' => e = .returned (.agg #[.int .i64 rk, .int .i64 rn, .string ⟨#[]⟩]) ∧ Below W.heap.size W w')) (V : World) (BV : Below w.heap.size w V) (f5V : V.heap[b5]? = some (V3 3 p)) (f6V : V.heap[b6]? = some (V3 3 q)) (b7 : Nat) (g7V : V.heap[b7]? = some (V3 0 0)) (lb7 : w.heap.size ≤ b7) (n5b7 : b5 ≠ b7) (n6b7 : b6 ≠ b7) (b8 : Nat) (g8V : V.heap[b8]? = some (V3 0 0)) (lb8 : w.heap.size ≤ b8) (n5b8 : b5 ≠ b8) (n6b8 : b6 ≠ b8) (n78 : b7 ≠ b8) : wpAnyH Tryd.prog .any ops4 Q (S4 b5 b6 p q) 4 #[true, true, false, true, true, false, true, true, false, false] { tmps := #[.int .i64 x, .int .i64 y, undef, undef, .bool false, .pointer (some ⟨b5, 0, none⟩), .pointer (some ⟨b6, 0, none⟩), .pointer (some ⟨b7, 0, none⟩), .pointer (some ⟨b8, 0, none⟩), .bool true, .bool false, .int .i64 x, .int .i64 p, .agg #[.int .i64 3, .int .i64 p, .string ⟨#[]⟩], .int .i64 y, .int .i64 q, .agg #[.int .i64 3, .int .i64 q, .string ⟨#[]⟩], .agg #[.int .i64 3, .int .i64 p, .string ⟨#[]⟩], .agg #[.int .i64 3, .int .i64 q, .string ⟨#[]⟩], undef, .agg #[.int .i64 3, .int .i64 p, .string ⟨#[]⟩], .agg #[.int .i64 3, .int .i64 q, .string ⟨#[]⟩], undef, undef, undef, undef, undef, undef, undef, undef, undef, undef, undef, undef, undef, undef, undef, undef, undef, undef, undef, undef, undef, undef, undef, undef, undef, undef, undef, undef, undef, undef, undef, undef, undef, undef, undef, undef, undef, undef, undef, undef, undef, undef, undef, undef, undef, undef, undef, undef, undef, undef, undef, undef, undef, undef, undef], defers := [] } V := by
  refine wpAnyH_ready (rs := [2]) (by kernel_rfl) (by simp) ?_
  refine AllReadyH.cons (o := { dst := some 19, op := Op.call { callee := Callee.value (Operand.func 20), args := #[Operand.tmp 17, Operand.tmp 18], argTypes := #[23, 23] }, type := 23, pos := "law.go:47", after := #[{ on := 0, ground := Ground.data }, { on := 1, ground := Ground.data }], guard := none }) rfl (fun K hK => ?_) ?_
  · go_wp2_with fail
    refine (HD.out _).mono ?_
    rintro e v1 ⟨rfl, hb⟩
    have B1 : Below w.heap.size w v1 := thr BV hb BV.size
    have f51 := kept hb (tri f5V).2.2.2.2.2.2 f5V
    have f61 := kept hb (tri f6V).2.2.2.2.2.2 f6V
    have g71 := kept hb (tri g7V).2.2.2.2.2.2 g7V
    have g81 := kept hb (tri g8V).2.2.2.2.2.2 g8V
    refine hK.out _ _ (by exact ⟨f51, f61⟩) (fun _ => ?_)
    exact st_111 Q x y p q dk dn rk rn w b5 b6 HR HD HM v1 B1 f51 f61 b7 g71 lb7 n5b7 n6b7 b8 g81 lb8 n5b8 n6b8 n78
  · exact AllReadyH.nil

set_option maxRecDepth 100000 in
set_option maxHeartbeats 2000000 in
theorem st_010 (Q : Exit → Act → World → Prop) (x y p q dk dn rk rn : Int) (w : World) (b5 b6 : Nat) (HR : Hid (∀ a V, R4 x y p q dk dn rk rn w b5 b6 a V → Q .normal a V)) (HD : Hid (∀ W, Calls Tryd.prog 20 #[.agg #[.int .i64 3, .int .i64 p, .string ⟨#[]⟩], .agg #[.int .i64 3, .int .i64 q, .string ⟨#[]⟩]] W fun e w' => e = .returned (.agg #[.int .i64 dk, .int .i64 dn, .string ⟨#[]⟩]) ∧ Below W.heap.size W w')) (HM : Hid (∀ W, Calls Tryd.prog 21 #[.agg #[.int .i64 3, .int .i64 p, .string ⟨#[]⟩], .agg #[.int .i64 3, .int .i64 q, .string ⟨#[]⟩]] W fun e w' => e = .returned (.agg #[.int .i64 rk, .int .i64 rn, .string ⟨#[]⟩]) ∧ Below W.heap.size W w')) (V : World) (BV : Below w.heap.size w V) (f5V : V.heap[b5]? = some (V3 3 p)) (f6V : V.heap[b6]? = some (V3 3 q)) (b7 : Nat) (g7V : V.heap[b7]? = some (V3 0 0)) (lb7 : w.heap.size ≤ b7) (n5b7 : b5 ≠ b7) (n6b7 : b6 ≠ b7) : wpAnyH Tryd.prog .any ops4 Q (S4 b5 b6 p q) 5 #[true, true, false, true, true, false, true, false, false, false] { tmps := #[.int .i64 x, .int .i64 y, undef, undef, .bool false, .pointer (some ⟨b5, 0, none⟩), .pointer (some ⟨b6, 0, none⟩), .pointer (some ⟨b7, 0, none⟩), undef, .bool true, .bool false, .int .i64 x, .int .i64 p, .agg #[.int .i64 3, .int .i64 p, .string ⟨#[]⟩], .int .i64 y, .int .i64 q, .agg #[.int .i64 3, .int .i64 q, .string ⟨#[]⟩], .agg #[.int .i64 3, .int .i64 p, .string ⟨#[]⟩], .agg #[.int .i64 3, .int .i64 q, .string ⟨#[]⟩], undef, .agg #[.int .i64 3, .int .i64 p, .string ⟨#[]⟩], .agg #[.int .i64 3, .int .i64 q, .string ⟨#[]⟩], undef, undef, undef, undef, undef, undef, undef, undef, undef, undef, undef, undef, undef, undef, undef, undef, undef, undef, undef, undef, undef, undef, undef, undef, undef, undef, undef, undef, undef, undef, undef, undef, undef, undef, undef, undef, undef, undef, undef, undef, undef, undef, undef, undef, undef, undef, undef, undef, undef, undef, undef, undef, undef, undef, undef], defers := [] } V := by
  refine wpAnyH_ready (rs := [2, 7]) (by kernel_rfl) (by simp) ?_
  refine AllReadyH.cons (o := { dst := some 19, op := Op.call { callee := Callee.value (Operand.func 20), args := #[Operand.tmp 17, Operand.tmp 18], argTypes := #[23, 23] }, type := 23, pos := "law.go:47", after := #[{ on := 0, ground := Ground.data }, { on := 1, ground := Ground.data }], guard := none }) rfl (fun K hK => ?_) ?_
  · go_wp2_with fail
    refine (HD.out _).mono ?_
    rintro e v1 ⟨rfl, hb⟩
    have B1 : Below w.heap.size w v1 := thr BV hb BV.size
    have f51 := kept hb (tri f5V).2.2.2.2.2.2 f5V
    have f61 := kept hb (tri f6V).2.2.2.2.2.2 f6V
    have g71 := kept hb (tri g7V).2.2.2.2.2.2 g7V
    refine hK.out _ _ (by exact ⟨f51, f61⟩) (fun _ => ?_)
    exact st_110 Q x y p q dk dn rk rn w b5 b6 HR HD HM v1 B1 f51 f61 b7 g71 lb7 n5b7 n6b7
  · refine AllReadyH.cons (o := { dst := some 8, op := Op.alloc 23, type := 0, pos := "law.go:47", after := #[], guard := none }) rfl (fun K hK => ?_) ?_
    · go_simp
      obtain ⟨v1, e1⟩ : ∃ U, U = World.alloc V (V3 0 0) := ⟨_, rfl⟩
      obtain ⟨b8, e2⟩ : ∃ b : Nat, b = V.heap.size := ⟨_, rfl⟩
      have B1 : Below w.heap.size w v1 := by rw [e1]; exact BV.alloc BV.size _
      have f51 : v1.heap[b5]? = some (V3 3 p) := by rw [e1]; exact (heap_alloc_old _ _ (tri f5V).2.2.2.2.2.2).trans f5V
      have f61 : v1.heap[b6]? = some (V3 3 q) := by rw [e1]; exact (heap_alloc_old _ _ (tri f6V).2.2.2.2.2.2).trans f6V
      have g71 : v1.heap[b7]? = some (V3 0 0) := by rw [e1]; exact (heap_alloc_old _ _ (tri g7V).2.2.2.2.2.2).trans g7V
      have g81 : v1.heap[b8]? = some (V3 0 0) := by rw [e1, e2]; exact heap_alloc_new _ _
      have lb8 : w.heap.size ≤ b8 := by rw [e2]; exact BV.size
      have n5b8 : b5 ≠ b8 := by have := (tri f5V).2.2.2.2.2.2; omega
      have n6b8 : b6 ≠ b8 := by have := (tri f6V).2.2.2.2.2.2; omega
      have n78 : b7 ≠ b8 := by have := (tri g7V).2.2.2.2.2.2; omega
      simp only [← e1, ← e2]
      refine hK.out _ _ (by exact ⟨f51, f61⟩) (fun _ => ?_)
      exact st_011 Q x y p q dk dn rk rn w b5 b6 HR HD HM v1 B1 f51 f61 b7 g71 lb7 n5b7 n6b7 b8 g81 lb8 n5b8 n6b8 n78
    · exact AllReadyH.nil

set_option maxRecDepth 100000 in
set_option maxHeartbeats 2000000 in
theorem st_001 (Q : Exit → Act → World → Prop) (x y p q dk dn rk rn : Int) (w : World) (b5 b6 : Nat) (HR : Hid (∀ a V, R4 x y p q dk dn rk rn w b5 b6 a V → Q .normal a V)) (HD : Hid (∀ W, Calls Tryd.prog 20 #[.agg #[.int .i64 3, .int .i64 p, .string ⟨#[]⟩], .agg #[.int .i64 3, .int .i64 q, .string ⟨#[]⟩]] W fun e w' => e = .returned (.agg #[.int .i64 dk, .int .i64 dn, .string ⟨#[]⟩]) ∧ Below W.heap.size W w')) (HM : Hid (∀ W, Calls Tryd.prog 21 #[.agg #[.int .i64 3, .int .i64 p, .string ⟨#[]⟩], .agg #[.int .i64 3, .int .i64 q, .string ⟨#[]⟩]] W fun e w' => e = .returned (.agg #[.int .i64 rk, .int .i64 rn, .string ⟨#[]⟩]) ∧ Below W.heap.size W w')) (V : World) (BV : Below w.heap.size w V) (f5V : V.heap[b5]? = some (V3 3 p)) (f6V : V.heap[b6]? = some (V3 3 q)) (b8 : Nat) (g8V : V.heap[b8]? = some (V3 0 0)) (lb8 : w.heap.size ≤ b8) (n5b8 : b5 ≠ b8) (n6b8 : b6 ≠ b8) : wpAnyH Tryd.prog .any ops4 Q (S4 b5 b6 p q) 5 #[true, true, false, true, true, false, false, true, false, false] { tmps := #[.int .i64 x, .int .i64 y, undef, undef, .bool false, .pointer (some ⟨b5, 0, none⟩), .pointer (some ⟨b6, 0, none⟩), undef, .pointer (some ⟨b8, 0, none⟩), .bool true, .bool false, .int .i64 x, .int .i64 p, .agg #[.int .i64 3, .int .i64 p, .string ⟨#[]⟩], .int .i64 y, .int .i64 q, .agg #[.int .i64 3, .int .i64 q, .string ⟨#[]⟩], .agg #[.int .i64 3, .int .i64 p, .string ⟨#[]⟩], .agg #[.int .i64 3, .int .i64 q, .string ⟨#[]⟩], undef, .agg #[.int .i64 3, .int .i64 p, .string ⟨#[]⟩], .agg #[.int .i64 3, .int .i64 q, .string ⟨#[]⟩], undef, undef, undef, undef, undef, undef, undef, undef, undef, undef, undef, undef, undef, undef, undef, undef, undef, undef, undef, undef, undef, undef, undef, undef, undef, undef, undef, undef, undef, undef, undef, undef, undef, undef, undef, undef, undef, undef, undef, undef, undef, undef, undef, undef, undef, undef, undef, undef, undef, undef, undef, undef, undef, undef, undef], defers := [] } V := by
  refine wpAnyH_ready (rs := [2, 6]) (by kernel_rfl) (by simp) ?_
  refine AllReadyH.cons (o := { dst := some 19, op := Op.call { callee := Callee.value (Operand.func 20), args := #[Operand.tmp 17, Operand.tmp 18], argTypes := #[23, 23] }, type := 23, pos := "law.go:47", after := #[{ on := 0, ground := Ground.data }, { on := 1, ground := Ground.data }], guard := none }) rfl (fun K hK => ?_) ?_
  · go_wp2_with fail
    refine (HD.out _).mono ?_
    rintro e v1 ⟨rfl, hb⟩
    have B1 : Below w.heap.size w v1 := thr BV hb BV.size
    have f51 := kept hb (tri f5V).2.2.2.2.2.2 f5V
    have f61 := kept hb (tri f6V).2.2.2.2.2.2 f6V
    have g81 := kept hb (tri g8V).2.2.2.2.2.2 g8V
    refine hK.out _ _ (by exact ⟨f51, f61⟩) (fun _ => ?_)
    exact st_101 Q x y p q dk dn rk rn w b5 b6 HR HD HM v1 B1 f51 f61 b8 g81 lb8 n5b8 n6b8
  · refine AllReadyH.cons (o := { dst := some 7, op := Op.alloc 23, type := 0, pos := "law.go:47", after := #[], guard := none }) rfl (fun K hK => ?_) ?_
    · go_simp
      obtain ⟨v1, e1⟩ : ∃ U, U = World.alloc V (V3 0 0) := ⟨_, rfl⟩
      obtain ⟨b7, e2⟩ : ∃ b : Nat, b = V.heap.size := ⟨_, rfl⟩
      have B1 : Below w.heap.size w v1 := by rw [e1]; exact BV.alloc BV.size _
      have f51 : v1.heap[b5]? = some (V3 3 p) := by rw [e1]; exact (heap_alloc_old _ _ (tri f5V).2.2.2.2.2.2).trans f5V
      have f61 : v1.heap[b6]? = some (V3 3 q) := by rw [e1]; exact (heap_alloc_old _ _ (tri f6V).2.2.2.2.2.2).trans f6V
      have g81 : v1.heap[b8]? = some (V3 0 0) := by rw [e1]; exact (heap_alloc_old _ _ (tri g8V).2.2.2.2.2.2).trans g8V
      have g71 : v1.heap[b7]? = some (V3 0 0) := by rw [e1, e2]; exact heap_alloc_new _ _
      have lb7 : w.heap.size ≤ b7 := by rw [e2]; exact BV.size
      have n5b7 : b5 ≠ b7 := by have := (tri f5V).2.2.2.2.2.2; omega
      have n6b7 : b6 ≠ b7 := by have := (tri f6V).2.2.2.2.2.2; omega
      have n78 : b7 ≠ b8 := by have := (tri g8V).2.2.2.2.2.2; omega
      simp only [← e1, ← e2]
      refine hK.out _ _ (by exact ⟨f51, f61⟩) (fun _ => ?_)
      exact st_011 Q x y p q dk dn rk rn w b5 b6 HR HD HM v1 B1 f51 f61 b7 g71 lb7 n5b7 n6b7 b8 g81 lb8 n5b8 n6b8 n78
    · exact AllReadyH.nil

set_option maxRecDepth 100000 in
set_option maxHeartbeats 2000000 in
theorem st_000 (Q : Exit → Act → World → Prop) (x y p q dk dn rk rn : Int) (w : World) (b5 b6 : Nat) (HR : Hid (∀ a V, R4 x y p q dk dn rk rn w b5 b6 a V → Q .normal a V)) (HD : Hid (∀ W, Calls Tryd.prog 20 #[.agg #[.int .i64 3, .int .i64 p, .string ⟨#[]⟩], .agg #[.int .i64 3, .int .i64 q, .string ⟨#[]⟩]] W fun e w' => e = .returned (.agg #[.int .i64 dk, .int .i64 dn, .string ⟨#[]⟩]) ∧ Below W.heap.size W w')) (HM : Hid (∀ W, Calls Tryd.prog 21 #[.agg #[.int .i64 3, .int .i64 p, .string ⟨#[]⟩], .agg #[.int .i64 3, .int .i64 q, .string ⟨#[]⟩]] W fun e w' => e = .returned (.agg #[.int .i64 rk, .int .i64 rn, .string ⟨#[]⟩]) ∧ Below W.heap.size W w')) (V : World) (BV : Below w.heap.size w V) (f5V : V.heap[b5]? = some (V3 3 p)) (f6V : V.heap[b6]? = some (V3 3 q)) : wpAnyH Tryd.prog .any ops4 Q (S4 b5 b6 p q) 6 #[true, true, false, true, true, false, false, false, false, false] { tmps := #[.int .i64 x, .int .i64 y, undef, undef, .bool false, .pointer (some ⟨b5, 0, none⟩), .pointer (some ⟨b6, 0, none⟩), undef, undef, .bool true, .bool false, .int .i64 x, .int .i64 p, .agg #[.int .i64 3, .int .i64 p, .string ⟨#[]⟩], .int .i64 y, .int .i64 q, .agg #[.int .i64 3, .int .i64 q, .string ⟨#[]⟩], .agg #[.int .i64 3, .int .i64 p, .string ⟨#[]⟩], .agg #[.int .i64 3, .int .i64 q, .string ⟨#[]⟩], undef, .agg #[.int .i64 3, .int .i64 p, .string ⟨#[]⟩], .agg #[.int .i64 3, .int .i64 q, .string ⟨#[]⟩], undef, undef, undef, undef, undef, undef, undef, undef, undef, undef, undef, undef, undef, undef, undef, undef, undef, undef, undef, undef, undef, undef, undef, undef, undef, undef, undef, undef, undef, undef, undef, undef, undef, undef, undef, undef, undef, undef, undef, undef, undef, undef, undef, undef, undef, undef, undef, undef, undef, undef, undef, undef, undef, undef, undef], defers := [] } V := by
  refine wpAnyH_ready (rs := [2, 6, 7]) (by kernel_rfl) (by simp) ?_
  refine AllReadyH.cons (o := { dst := some 19, op := Op.call { callee := Callee.value (Operand.func 20), args := #[Operand.tmp 17, Operand.tmp 18], argTypes := #[23, 23] }, type := 23, pos := "law.go:47", after := #[{ on := 0, ground := Ground.data }, { on := 1, ground := Ground.data }], guard := none }) rfl (fun K hK => ?_) ?_
  · go_wp2_with fail
    refine (HD.out _).mono ?_
    rintro e v1 ⟨rfl, hb⟩
    have B1 : Below w.heap.size w v1 := thr BV hb BV.size
    have f51 := kept hb (tri f5V).2.2.2.2.2.2 f5V
    have f61 := kept hb (tri f6V).2.2.2.2.2.2 f6V
    refine hK.out _ _ (by exact ⟨f51, f61⟩) (fun _ => ?_)
    exact st_100 Q x y p q dk dn rk rn w b5 b6 HR HD HM v1 B1 f51 f61
  · refine AllReadyH.cons (o := { dst := some 7, op := Op.alloc 23, type := 0, pos := "law.go:47", after := #[], guard := none }) rfl (fun K hK => ?_) ?_
    · go_simp
      obtain ⟨v1, e1⟩ : ∃ U, U = World.alloc V (V3 0 0) := ⟨_, rfl⟩
      obtain ⟨b7, e2⟩ : ∃ b : Nat, b = V.heap.size := ⟨_, rfl⟩
      have B1 : Below w.heap.size w v1 := by rw [e1]; exact BV.alloc BV.size _
      have f51 : v1.heap[b5]? = some (V3 3 p) := by rw [e1]; exact (heap_alloc_old _ _ (tri f5V).2.2.2.2.2.2).trans f5V
      have f61 : v1.heap[b6]? = some (V3 3 q) := by rw [e1]; exact (heap_alloc_old _ _ (tri f6V).2.2.2.2.2.2).trans f6V
      have g71 : v1.heap[b7]? = some (V3 0 0) := by rw [e1, e2]; exact heap_alloc_new _ _
      have lb7 : w.heap.size ≤ b7 := by rw [e2]; exact BV.size
      have n5b7 : b5 ≠ b7 := by have := (tri f5V).2.2.2.2.2.2; omega
      have n6b7 : b6 ≠ b7 := by have := (tri f6V).2.2.2.2.2.2; omega
      simp only [← e1, ← e2]
      refine hK.out _ _ (by exact ⟨f51, f61⟩) (fun _ => ?_)
      exact st_010 Q x y p q dk dn rk rn w b5 b6 HR HD HM v1 B1 f51 f61 b7 g71 lb7 n5b7 n6b7
    · refine AllReadyH.cons (o := { dst := some 8, op := Op.alloc 23, type := 0, pos := "law.go:47", after := #[], guard := none }) rfl (fun K hK => ?_) ?_
      · go_simp
        obtain ⟨v1, e1⟩ : ∃ U, U = World.alloc V (V3 0 0) := ⟨_, rfl⟩
        obtain ⟨b8, e2⟩ : ∃ b : Nat, b = V.heap.size := ⟨_, rfl⟩
        have B1 : Below w.heap.size w v1 := by rw [e1]; exact BV.alloc BV.size _
        have f51 : v1.heap[b5]? = some (V3 3 p) := by rw [e1]; exact (heap_alloc_old _ _ (tri f5V).2.2.2.2.2.2).trans f5V
        have f61 : v1.heap[b6]? = some (V3 3 q) := by rw [e1]; exact (heap_alloc_old _ _ (tri f6V).2.2.2.2.2.2).trans f6V
        have g81 : v1.heap[b8]? = some (V3 0 0) := by rw [e1, e2]; exact heap_alloc_new _ _
        have lb8 : w.heap.size ≤ b8 := by rw [e2]; exact BV.size
        have n5b8 : b5 ≠ b8 := by have := (tri f5V).2.2.2.2.2.2; omega
        have n6b8 : b6 ≠ b8 := by have := (tri f6V).2.2.2.2.2.2; omega
        simp only [← e1, ← e2]
        refine hK.out _ _ (by exact ⟨f51, f61⟩) (fun _ => ?_)
        exact st_001 Q x y p q dk dn rk rn w b5 b6 HR HD HM v1 B1 f51 f61 b8 g81 lb8 n5b8 n6b8
      · exact AllReadyH.nil

set_option maxRecDepth 100000 in
set_option maxHeartbeats 2000000 in
theorem start4 (Q : Exit → Act → World → Prop) (x y p q dk dn rk rn : Int) (w : World) (b5 b6 : Nat) (HR : Hid (∀ a V, R4 x y p q dk dn rk rn w b5 b6 a V → Q .normal a V)) (HD : Hid (∀ W, Calls Tryd.prog 20 #[.agg #[.int .i64 3, .int .i64 p, .string ⟨#[]⟩], .agg #[.int .i64 3, .int .i64 q, .string ⟨#[]⟩]] W fun e w' => e = .returned (.agg #[.int .i64 dk, .int .i64 dn, .string ⟨#[]⟩]) ∧ Below W.heap.size W w')) (HM : Hid (∀ W, Calls Tryd.prog 21 #[.agg #[.int .i64 3, .int .i64 p, .string ⟨#[]⟩], .agg #[.int .i64 3, .int .i64 q, .string ⟨#[]⟩]] W fun e w' => e = .returned (.agg #[.int .i64 rk, .int .i64 rn, .string ⟨#[]⟩]) ∧ Below W.heap.size W w')) (hQ : ∀ c a (d : Nat) v w, Q (.panic c) (Act.put a (some d) v) w → Q (.panic c) a w) (W : World) (BW : Below w.heap.size w W.drew) (f5W : W.drew.heap[b5]? = some (V3 3 p)) (f6W : W.drew.heap[b6]? = some (V3 3 q)) : Code.wp Tryd.prog (Code.region 4 ops4 true) Q { tmps := #[.int .i64 x, .int .i64 y, undef, undef, .bool false, .pointer (some ⟨b5, 0, none⟩), .pointer (some ⟨b6, 0, none⟩), undef, undef, .bool true, .bool false, .int .i64 x, .int .i64 p, .agg #[.int .i64 3, .int .i64 p, .string ⟨#[]⟩], .int .i64 y, .int .i64 q, .agg #[.int .i64 3, .int .i64 q, .string ⟨#[]⟩], undef, undef, undef, undef, undef, undef, undef, undef, undef, undef, undef, undef, undef, undef, undef, undef, undef, undef, undef, undef, undef, undef, undef, undef, undef, undef, undef, undef, undef, undef, undef, undef, undef, undef, undef, undef, undef, undef, undef, undef, undef, undef, undef, undef, undef, undef, undef, undef, undef, undef, undef, undef, undef, undef, undef, undef, undef, undef, undef, undef], defers := [] } W := by
  refine wp_region_held_drew (S := S4 b5 b6 p q) (by kernel_rfl) (by exact ⟨f5W, f6W⟩) (fun _ => ?_)
  obtain ⟨V, hV⟩ : ∃ V, V = W.drew := ⟨_, rfl⟩
  simp only [← hV] at BW f5W f6W ⊢
  refine wpAnyH_take (i := 0) (oi := { dst := some 17, op := Op.load 23 (Operand.tmp 5), type := 23, pos := "law.go:47", after := #[], guard := none }) (v := ?_) rfl (by kernel_rfl) (by kernel_rfl) (by kernel_rfl) (fun c a w h => hQ c a _ _ w h) (Or.inl ⟨by rfl, ?_⟩) (by exact ⟨f5W, f6W⟩) ?_
  rotate_left
  · intro U hS
    obtain ⟨h5, h6⟩ := hS
    obtain ⟨c0, c1, c2, _, _, _, _⟩ := tri h5
    go_simp
    with_reducible rfl
  try simp only [Act.put, List.setIfInBounds_toArray, List.set_cons_zero, List.set_cons_succ]
  refine wpAnyH_take (i := 1) (oi := { dst := some 18, op := Op.load 23 (Operand.tmp 6), type := 23, pos := "law.go:47", after := #[], guard := none }) (v := ?_) rfl (by kernel_rfl) (by kernel_rfl) (by kernel_rfl) (fun c a w h => hQ c a _ _ w h) (Or.inl ⟨by rfl, ?_⟩) (by exact ⟨f5W, f6W⟩) ?_
  rotate_left
  · intro U hS
    obtain ⟨h5, h6⟩ := hS
    obtain ⟨c0, c1, c2, _, _, _, _⟩ := tri h6
    go_simp
    with_reducible rfl
  try simp only [Act.put, List.setIfInBounds_toArray, List.set_cons_zero, List.set_cons_succ]
  refine wpAnyH_take (i := 3) (oi := { dst := some 20, op := Op.load 23 (Operand.tmp 5), type := 23, pos := "law.go:47", after := #[], guard := none }) (v := ?_) rfl (by kernel_rfl) (by kernel_rfl) (by kernel_rfl) (fun c a w h => hQ c a _ _ w h) (Or.inl ⟨by rfl, ?_⟩) (by exact ⟨f5W, f6W⟩) ?_
  rotate_left
  · intro U hS
    obtain ⟨h5, h6⟩ := hS
    obtain ⟨c0, c1, c2, _, _, _, _⟩ := tri h5
    go_simp
    with_reducible rfl
  try simp only [Act.put, List.setIfInBounds_toArray, List.set_cons_zero, List.set_cons_succ]
  refine wpAnyH_take (i := 4) (oi := { dst := some 21, op := Op.load 23 (Operand.tmp 6), type := 23, pos := "law.go:47", after := #[], guard := none }) (v := ?_) rfl (by kernel_rfl) (by kernel_rfl) (by kernel_rfl) (fun c a w h => hQ c a _ _ w h) (Or.inl ⟨by rfl, ?_⟩) (by exact ⟨f5W, f6W⟩) ?_
  rotate_left
  · intro U hS
    obtain ⟨h5, h6⟩ := hS
    obtain ⟨c0, c1, c2, _, _, _, _⟩ := tri h6
    go_simp
    with_reducible rfl
  try simp only [Act.put, List.setIfInBounds_toArray, List.set_cons_zero, List.set_cons_succ]
  exact st_000 Q x y p q dk dn rk rn w b5 b6 HR HD HM V BW f5W f6W
end Go.Proofs.YtokpmpmlbmpnmaaDoor
