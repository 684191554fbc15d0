/-
  The law NumReads of package num at this translation: the walk.
-/
import Derived.Test.YtokpmpmlbmpnmaaDoorRefRead
import Derived.Test.YtokpmpmlbmpnmaaDoorBackN
import Derived.Test.YtokpmpmlbmpnmaaDoorTells
import Derived.Lib.ItoaLen
namespace Go.Proofs.YtokpmpmlbmpnmaaDoor
open Go.RowKit

def ops_reads : Array Oper := #[{ dst := some 15, op := Op.move (Operand.tmp 0), type := 9, pos := "law.go:81", after := #[], guard := none }, { dst := some 16, op := Op.call { callee := Callee.value (Operand.func 27), args := #[Operand.tmp 15], argTypes := #[9] }, type := 23, pos := "law.go:81", after := #[{ on := 0, ground := Ground.data }], guard := none }, { dst := some 17, op := Op.move (Operand.tmp 0), type := 9, pos := "law.go:81", after := #[], guard := none }, { dst := some 18, op := Op.call { callee := Callee.value (Operand.func 28), args := #[Operand.tmp 17], argTypes := #[9] }, type := 23, pos := "law.go:81", after := #[{ on := 2, ground := Ground.data }, { on := 1, ground := Ground.chain }], guard := none }, { dst := some 19, op := Op.binOp BinOp.eql 23 (Operand.tmp 16) (Operand.tmp 18) 23, type := 4, pos := "law.go:81", after := #[{ on := 1, ground := Ground.data }, { on := 3, ground := Ground.data }], guard := none }, { dst := some 20, op := Op.move (Operand.tmp 19), type := 4, pos := "law.go:81", after := #[{ on := 4, ground := Ground.data }, { on := 3, ground := Ground.chain }], guard := none }, { dst := some 21, op := Op.load 23 (Operand.tmp 5), type := 23, pos := "law.go:81", after := #[{ on := 5, ground := Ground.guard }], guard := some (5, true) }, { dst := some 22, op := Op.call { callee := Callee.value (Operand.func 14), args := #[Operand.tmp 21], argTypes := #[23] }, type := 9, pos := "law.go:81", after := #[{ on := 6, ground := Ground.data }, { on := 5, ground := Ground.chain }, { on := 5, ground := Ground.guard }], guard := some (5, true) }, { dst := some 23, op := Op.call { callee := Callee.value (Operand.func 27), args := #[Operand.tmp 22], argTypes := #[9] }, type := 23, pos := "law.go:81", after := #[{ on := 7, ground := Ground.data }, { on := 7, ground := Ground.chain }, { on := 5, ground := Ground.guard }], guard := some (5, true) }, { dst := some 24, op := Op.load 23 (Operand.tmp 5), type := 23, pos := "law.go:81", after := #[{ on := 5, ground := Ground.guard }], guard := some (5, true) }, { dst := some 25, op := Op.binOp BinOp.eql 23 (Operand.tmp 23) (Operand.tmp 24) 23, type := 4, pos := "law.go:81", after := #[{ on := 8, ground := Ground.data }, { on := 9, ground := Ground.data }, { on := 5, ground := Ground.guard }], guard := some (5, true) }, { dst := some 26, op := Op.pick (Operand.tmp 20) (Operand.tmp 25) (Operand.const (Value.bool false)), type := 4, pos := "law.go:81", after := #[{ on := 5, ground := Ground.data }, { on := 10, ground := Ground.data }], guard := none }, { dst := some 27, op := Op.move (Operand.tmp 26), type := 4, pos := "law.go:81", after := #[{ on := 11, ground := Ground.data }, { on := 8, ground := Ground.chain }], guard := none }, { dst := some 28, op := Op.move (Operand.tmp 0), type := 9, pos := "law.go:81", after := #[{ on := 12, ground := Ground.guard }], guard := some (12, true) }, { dst := some 29, op := Op.call { callee := Callee.value (Operand.func 27), args := #[Operand.tmp 28], argTypes := #[9] }, type := 23, pos := "law.go:81", after := #[{ on := 13, ground := Ground.data }, { on := 12, ground := Ground.chain }, { on := 12, ground := Ground.guard }], guard := some (12, true) }, { dst := some 30, op := Op.call { callee := Callee.value (Operand.func 12), args := #[Operand.tmp 29], argTypes := #[23] }, type := 4, pos := "law.go:81", after := #[{ on := 14, ground := Ground.data }, { on := 14, ground := Ground.chain }, { on := 12, ground := Ground.guard }], guard := some (12, true) }, { dst := some 31, op := Op.pick (Operand.tmp 27) (Operand.tmp 30) (Operand.const (Value.bool false)), type := 4, pos := "law.go:81", after := #[{ on := 12, ground := Ground.data }, { on := 15, ground := Ground.data }], guard := none }, { dst := some 4, op := Op.assign (Operand.tmp 31), type := 4, pos := "law.go:81", after := #[{ on := 16, ground := Ground.data }, { on := 15, ground := Ground.chain }, { on := 0, ground := Ground.phase }, { on := 1, ground := Ground.phase }, { on := 2, ground := Ground.phase }, { on := 3, ground := Ground.phase }, { on := 4, ground := Ground.phase }, { on := 5, ground := Ground.phase }, { on := 6, ground := Ground.phase }, { on := 7, ground := Ground.phase }, { on := 8, ground := Ground.phase }, { on := 9, ground := Ground.phase }, { on := 10, ground := Ground.phase }, { on := 11, ground := Ground.phase }, { on := 12, ground := Ground.phase }, { on := 13, ground := Ground.phase }, { on := 14, ground := Ground.phase }, { on := 15, ground := Ground.phase }, { on := 16, ground := Ground.phase }], guard := none }]
set_option linter.unusedVariables false in
def fin_reads (n z1 z2 ok on x1 y1 : Int) (s t x : ByteArray) (w : World) (b : Nat) : Act → World → Prop := fun act V => act = { tmps := #[.string t, .int .i64 n, undef, undef, .bool true, .pointer (some ⟨b, 0, none⟩), .bool true, .bool false, .string s, .string s, .int .i64 z1, .int .i64 z2, .string t, .int .i64 n, .agg #[.int .i64 ok, .int .i64 on, .string ⟨#[]⟩], .string t, .agg #[.int .i64 x1, .int .i64 y1, .string ⟨#[]⟩], .string t, .agg #[.int .i64 x1, .int .i64 y1, .string ⟨#[]⟩], .bool true, .bool true, .agg #[.int .i64 ok, .int .i64 on, .string ⟨#[]⟩], .string x, .agg #[.int .i64 ok, .int .i64 on, .string ⟨#[]⟩], .agg #[.int .i64 ok, .int .i64 on, .string ⟨#[]⟩], .bool true, .bool true, .bool true, .string t, .agg #[.int .i64 x1, .int .i64 y1, .string ⟨#[]⟩], .bool true, .bool true], defers := [] } ∧ (K1 w b ok on ⟨#[]⟩) V

set_option maxRecDepth 100000 in
set_option linter.unusedVariables false in
set_option maxHeartbeats 2000000 in
theorem reads_18 (Q : Exit → Act → World → Prop) (hQ : ∀ c a (d : Nat) v w, Q (.panic c) (Act.put a (some d) v) w → Q (.panic c) a w) (n z1 z2 ok on x1 y1 : Int) (s t x : ByteArray) (w : World) (b : Nat) (HR : Hid (∀ act V, fin_reads n z1 z2 ok on x1 y1 s t x w b act V → Q .normal act V)) (HA : Hid (∀ W, Calls Tryd.prog 27 #[.string t] W fun e w' => e = .returned (.agg #[.int .i64 x1, .int .i64 y1, .string ⟨#[]⟩]) ∧ Below W.heap.size W w')) (HB : Hid (∀ W, Calls Tryd.prog 28 #[.string t] W fun e w' => e = .returned (.agg #[.int .i64 x1, .int .i64 y1, .string ⟨#[]⟩]) ∧ Below W.heap.size W w')) (HT : Hid (∀ W, Tab W → Calls Tryd.prog 14 #[.agg #[.int .i64 ok, .int .i64 on, .string ⟨#[]⟩]] W fun e w' => e = .returned (.string x) ∧ Below W.heap.size W w')) (HC : Hid (∀ W, Calls Tryd.prog 27 #[.string x] W fun e w' => e = .returned (.agg #[.int .i64 ok, .int .i64 on, .string ⟨#[]⟩]) ∧ Below W.heap.size W w')) (HI : Hid (∀ W, Calls Tryd.prog 12 #[.agg #[.int .i64 x1, .int .i64 y1, .string ⟨#[]⟩]] W fun e w' => e = .returned (.bool true) ∧ Below W.heap.size W w')) (ht : Tab w) (V : World) (hV : (K1 w b ok on ⟨#[]⟩) V) : wpAnyH Tryd.prog .any ops_reads Q (K1 w b ok on ⟨#[]⟩) 0 #[true, true, true, true, true, true, true, true, true, true, true, true, true, true, true, true, true, true] { tmps := #[.string t, .int .i64 n, undef, undef, .bool true, .pointer (some ⟨b, 0, none⟩), .bool true, .bool false, .string s, .string s, .int .i64 z1, .int .i64 z2, .string t, .int .i64 n, .agg #[.int .i64 ok, .int .i64 on, .string ⟨#[]⟩], .string t, .agg #[.int .i64 x1, .int .i64 y1, .string ⟨#[]⟩], .string t, .agg #[.int .i64 x1, .int .i64 y1, .string ⟨#[]⟩], .bool true, .bool true, .agg #[.int .i64 ok, .int .i64 on, .string ⟨#[]⟩], .string x, .agg #[.int .i64 ok, .int .i64 on, .string ⟨#[]⟩], .agg #[.int .i64 ok, .int .i64 on, .string ⟨#[]⟩], .bool true, .bool true, .bool true, .string t, .agg #[.int .i64 x1, .int .i64 y1, .string ⟨#[]⟩], .bool true, .bool true], defers := [] } V := by
  refine wpAnyH_done (by kernel_rfl) ?_ _
  exact HR.out _ _ ⟨rfl, hV⟩

set_option maxRecDepth 100000 in
set_option linter.unusedVariables false in
set_option maxHeartbeats 2000000 in
theorem reads_17 (Q : Exit → Act → World → Prop) (hQ : ∀ c a (d : Nat) v w, Q (.panic c) (Act.put a (some d) v) w → Q (.panic c) a w) (n z1 z2 ok on x1 y1 : Int) (s t x : ByteArray) (w : World) (b : Nat) (HR : Hid (∀ act V, fin_reads n z1 z2 ok on x1 y1 s t x w b act V → Q .normal act V)) (HA : Hid (∀ W, Calls Tryd.prog 27 #[.string t] W fun e w' => e = .returned (.agg #[.int .i64 x1, .int .i64 y1, .string ⟨#[]⟩]) ∧ Below W.heap.size W w')) (HB : Hid (∀ W, Calls Tryd.prog 28 #[.string t] W fun e w' => e = .returned (.agg #[.int .i64 x1, .int .i64 y1, .string ⟨#[]⟩]) ∧ Below W.heap.size W w')) (HT : Hid (∀ W, Tab W → Calls Tryd.prog 14 #[.agg #[.int .i64 ok, .int .i64 on, .string ⟨#[]⟩]] W fun e w' => e = .returned (.string x) ∧ Below W.heap.size W w')) (HC : Hid (∀ W, Calls Tryd.prog 27 #[.string x] W fun e w' => e = .returned (.agg #[.int .i64 ok, .int .i64 on, .string ⟨#[]⟩]) ∧ Below W.heap.size W w')) (HI : Hid (∀ W, Calls Tryd.prog 12 #[.agg #[.int .i64 x1, .int .i64 y1, .string ⟨#[]⟩]] W fun e w' => e = .returned (.bool true) ∧ Below W.heap.size W w')) (ht : Tab w) (V : World) (hV : (K1 w b ok on ⟨#[]⟩) V) : wpAnyH Tryd.prog .any ops_reads Q (K1 w b ok on ⟨#[]⟩) 1 #[true, true, true, true, true, true, true, true, true, true, true, true, true, true, true, true, true, false] { tmps := #[.string t, .int .i64 n, undef, undef, .bool false, .pointer (some ⟨b, 0, none⟩), .bool true, .bool false, .string s, .string s, .int .i64 z1, .int .i64 z2, .string t, .int .i64 n, .agg #[.int .i64 ok, .int .i64 on, .string ⟨#[]⟩], .string t, .agg #[.int .i64 x1, .int .i64 y1, .string ⟨#[]⟩], .string t, .agg #[.int .i64 x1, .int .i64 y1, .string ⟨#[]⟩], .bool true, .bool true, .agg #[.int .i64 ok, .int .i64 on, .string ⟨#[]⟩], .string x, .agg #[.int .i64 ok, .int .i64 on, .string ⟨#[]⟩], .agg #[.int .i64 ok, .int .i64 on, .string ⟨#[]⟩], .bool true, .bool true, .bool true, .string t, .agg #[.int .i64 x1, .int .i64 y1, .string ⟨#[]⟩], .bool true, .bool true], defers := [] } V := by
  refine wpAnyH_take (i := 17) (oi := { dst := some 4, op := Op.assign (Operand.tmp 31), type := 4, pos := "law.go:81", after := #[{ on := 16, ground := Ground.data }, { on := 15, ground := Ground.chain }, { on := 0, ground := Ground.phase }, { on := 1, ground := Ground.phase }, { on := 2, ground := Ground.phase }, { on := 3, ground := Ground.phase }, { on := 4, ground := Ground.phase }, { on := 5, ground := Ground.phase }, { on := 6, ground := Ground.phase }, { on := 7, ground := Ground.phase }, { on := 8, ground := Ground.phase }, { on := 9, ground := Ground.phase }, { on := 10, ground := Ground.phase }, { on := 11, ground := Ground.phase }, { on := 12, ground := Ground.phase }, { on := 13, ground := Ground.phase }, { on := 14, ground := Ground.phase }, { on := 15, ground := Ground.phase }, { on := 16, ground := Ground.phase }], guard := none }) (v := .bool true) rfl (by kernel_rfl) (by kernel_rfl) (by kernel_rfl) (fun c a w h => hQ c a _ _ w h) (Or.inl ⟨by kernel_rfl, ?_⟩) (by exact hV) ?_
  · intro U hS
    go_simp
  exact reads_18 Q hQ n z1 z2 ok on x1 y1 s t x w b HR HA HB HT HC HI ht _ hV

set_option maxRecDepth 100000 in
set_option linter.unusedVariables false in
set_option maxHeartbeats 2000000 in
theorem reads_16 (Q : Exit → Act → World → Prop) (hQ : ∀ c a (d : Nat) v w, Q (.panic c) (Act.put a (some d) v) w → Q (.panic c) a w) (n z1 z2 ok on x1 y1 : Int) (s t x : ByteArray) (w : World) (b : Nat) (HR : Hid (∀ act V, fin_reads n z1 z2 ok on x1 y1 s t x w b act V → Q .normal act V)) (HA : Hid (∀ W, Calls Tryd.prog 27 #[.string t] W fun e w' => e = .returned (.agg #[.int .i64 x1, .int .i64 y1, .string ⟨#[]⟩]) ∧ Below W.heap.size W w')) (HB : Hid (∀ W, Calls Tryd.prog 28 #[.string t] W fun e w' => e = .returned (.agg #[.int .i64 x1, .int .i64 y1, .string ⟨#[]⟩]) ∧ Below W.heap.size W w')) (HT : Hid (∀ W, Tab W → Calls Tryd.prog 14 #[.agg #[.int .i64 ok, .int .i64 on, .string ⟨#[]⟩]] W fun e w' => e = .returned (.string x) ∧ Below W.heap.size W w')) (HC : Hid (∀ W, Calls Tryd.prog 27 #[.string x] W fun e w' => e = .returned (.agg #[.int .i64 ok, .int .i64 on, .string ⟨#[]⟩]) ∧ Below W.heap.size W w')) (HI : Hid (∀ W, Calls Tryd.prog 12 #[.agg #[.int .i64 x1, .int .i64 y1, .string ⟨#[]⟩]] W fun e w' => e = .returned (.bool true) ∧ Below W.heap.size W w')) (ht : Tab w) (V : World) (hV : (K1 w b ok on ⟨#[]⟩) V) : wpAnyH Tryd.prog .any ops_reads Q (K1 w b ok on ⟨#[]⟩) 2 #[true, true, true, true, true, true, true, true, true, true, true, true, true, true, true, true, false, false] { tmps := #[.string t, .int .i64 n, undef, undef, .bool false, .pointer (some ⟨b, 0, none⟩), .bool true, .bool false, .string s, .string s, .int .i64 z1, .int .i64 z2, .string t, .int .i64 n, .agg #[.int .i64 ok, .int .i64 on, .string ⟨#[]⟩], .string t, .agg #[.int .i64 x1, .int .i64 y1, .string ⟨#[]⟩], .string t, .agg #[.int .i64 x1, .int .i64 y1, .string ⟨#[]⟩], .bool true, .bool true, .agg #[.int .i64 ok, .int .i64 on, .string ⟨#[]⟩], .string x, .agg #[.int .i64 ok, .int .i64 on, .string ⟨#[]⟩], .agg #[.int .i64 ok, .int .i64 on, .string ⟨#[]⟩], .bool true, .bool true, .bool true, .string t, .agg #[.int .i64 x1, .int .i64 y1, .string ⟨#[]⟩], .bool true, undef], defers := [] } V := by
  refine wpAnyH_take (i := 16) (oi := { dst := some 31, op := Op.pick (Operand.tmp 27) (Operand.tmp 30) (Operand.const (Value.bool false)), type := 4, pos := "law.go:81", after := #[{ on := 12, ground := Ground.data }, { on := 15, ground := Ground.data }], guard := none }) (v := .bool true) rfl (by kernel_rfl) (by kernel_rfl) (by kernel_rfl) (fun c a w h => hQ c a _ _ w h) (Or.inl ⟨by kernel_rfl, ?_⟩) (by exact hV) ?_
  · intro U hS
    go_simp
  exact reads_17 Q hQ n z1 z2 ok on x1 y1 s t x w b HR HA HB HT HC HI ht _ hV

set_option maxRecDepth 100000 in
set_option linter.unusedVariables false in
set_option maxHeartbeats 2000000 in
theorem reads_15 (Q : Exit → Act → World → Prop) (hQ : ∀ c a (d : Nat) v w, Q (.panic c) (Act.put a (some d) v) w → Q (.panic c) a w) (n z1 z2 ok on x1 y1 : Int) (s t x : ByteArray) (w : World) (b : Nat) (HR : Hid (∀ act V, fin_reads n z1 z2 ok on x1 y1 s t x w b act V → Q .normal act V)) (HA : Hid (∀ W, Calls Tryd.prog 27 #[.string t] W fun e w' => e = .returned (.agg #[.int .i64 x1, .int .i64 y1, .string ⟨#[]⟩]) ∧ Below W.heap.size W w')) (HB : Hid (∀ W, Calls Tryd.prog 28 #[.string t] W fun e w' => e = .returned (.agg #[.int .i64 x1, .int .i64 y1, .string ⟨#[]⟩]) ∧ Below W.heap.size W w')) (HT : Hid (∀ W, Tab W → Calls Tryd.prog 14 #[.agg #[.int .i64 ok, .int .i64 on, .string ⟨#[]⟩]] W fun e w' => e = .returned (.string x) ∧ Below W.heap.size W w')) (HC : Hid (∀ W, Calls Tryd.prog 27 #[.string x] W fun e w' => e = .returned (.agg #[.int .i64 ok, .int .i64 on, .string ⟨#[]⟩]) ∧ Below W.heap.size W w')) (HI : Hid (∀ W, Calls Tryd.prog 12 #[.agg #[.int .i64 x1, .int .i64 y1, .string ⟨#[]⟩]] W fun e w' => e = .returned (.bool true) ∧ Below W.heap.size W w')) (ht : Tab w) (V : World) (hV : (K1 w b ok on ⟨#[]⟩) V) : wpAnyH Tryd.prog .any ops_reads Q (K1 w b ok on ⟨#[]⟩) 3 #[true, true, true, true, true, true, true, true, true, true, true, true, true, true, true, false, false, false] { tmps := #[.string t, .int .i64 n, undef, undef, .bool false, .pointer (some ⟨b, 0, none⟩), .bool true, .bool false, .string s, .string s, .int .i64 z1, .int .i64 z2, .string t, .int .i64 n, .agg #[.int .i64 ok, .int .i64 on, .string ⟨#[]⟩], .string t, .agg #[.int .i64 x1, .int .i64 y1, .string ⟨#[]⟩], .string t, .agg #[.int .i64 x1, .int .i64 y1, .string ⟨#[]⟩], .bool true, .bool true, .agg #[.int .i64 ok, .int .i64 on, .string ⟨#[]⟩], .string x, .agg #[.int .i64 ok, .int .i64 on, .string ⟨#[]⟩], .agg #[.int .i64 ok, .int .i64 on, .string ⟨#[]⟩], .bool true, .bool true, .bool true, .string t, .agg #[.int .i64 x1, .int .i64 y1, .string ⟨#[]⟩], undef, undef], defers := [] } V := by
  refine wpAnyH_ready (rs := [15]) (by kernel_rfl) (by simp) ?_
  refine AllReadyH.cons (o := { dst := some 30, op := Op.call { callee := Callee.value (Operand.func 12), args := #[Operand.tmp 29], argTypes := #[23] }, type := 4, pos := "law.go:81", after := #[{ on := 14, ground := Ground.data }, { on := 14, ground := Ground.chain }, { on := 12, ground := Ground.guard }], guard := some (12, true) }) rfl (fun K hK => ?_) AllReadyH.nil
  have HK := Lib.hid hK.out
  clear hK
  go_wp2_with fail
  refine (HI.out _).mono ?_
  rintro e V' ⟨rfl, hb⟩
  replace hV := k1_call hV hb
  clear hb
  refine HK.out _ _ (by exact hV) (fun _ => ?_)
  exact reads_16 Q hQ n z1 z2 ok on x1 y1 s t x w b HR HA HB HT HC HI ht _ hV

set_option maxRecDepth 100000 in
set_option linter.unusedVariables false in
set_option maxHeartbeats 2000000 in
theorem reads_14 (Q : Exit → Act → World → Prop) (hQ : ∀ c a (d : Nat) v w, Q (.panic c) (Act.put a (some d) v) w → Q (.panic c) a w) (n z1 z2 ok on x1 y1 : Int) (s t x : ByteArray) (w : World) (b : Nat) (HR : Hid (∀ act V, fin_reads n z1 z2 ok on x1 y1 s t x w b act V → Q .normal act V)) (HA : Hid (∀ W, Calls Tryd.prog 27 #[.string t] W fun e w' => e = .returned (.agg #[.int .i64 x1, .int .i64 y1, .string ⟨#[]⟩]) ∧ Below W.heap.size W w')) (HB : Hid (∀ W, Calls Tryd.prog 28 #[.string t] W fun e w' => e = .returned (.agg #[.int .i64 x1, .int .i64 y1, .string ⟨#[]⟩]) ∧ Below W.heap.size W w')) (HT : Hid (∀ W, Tab W → Calls Tryd.prog 14 #[.agg #[.int .i64 ok, .int .i64 on, .string ⟨#[]⟩]] W fun e w' => e = .returned (.string x) ∧ Below W.heap.size W w')) (HC : Hid (∀ W, Calls Tryd.prog 27 #[.string x] W fun e w' => e = .returned (.agg #[.int .i64 ok, .int .i64 on, .string ⟨#[]⟩]) ∧ Below W.heap.size W w')) (HI : Hid (∀ W, Calls Tryd.prog 12 #[.agg #[.int .i64 x1, .int .i64 y1, .string ⟨#[]⟩]] W fun e w' => e = .returned (.bool true) ∧ Below W.heap.size W w')) (ht : Tab w) (V : World) (hV : (K1 w b ok on ⟨#[]⟩) V) : wpAnyH Tryd.prog .any ops_reads Q (K1 w b ok on ⟨#[]⟩) 4 #[true, true, true, true, true, true, true, true, true, true, true, true, true, true, false, false, false, false] { tmps := #[.string t, .int .i64 n, undef, undef, .bool false, .pointer (some ⟨b, 0, none⟩), .bool true, .bool false, .string s, .string s, .int .i64 z1, .int .i64 z2, .string t, .int .i64 n, .agg #[.int .i64 ok, .int .i64 on, .string ⟨#[]⟩], .string t, .agg #[.int .i64 x1, .int .i64 y1, .string ⟨#[]⟩], .string t, .agg #[.int .i64 x1, .int .i64 y1, .string ⟨#[]⟩], .bool true, .bool true, .agg #[.int .i64 ok, .int .i64 on, .string ⟨#[]⟩], .string x, .agg #[.int .i64 ok, .int .i64 on, .string ⟨#[]⟩], .agg #[.int .i64 ok, .int .i64 on, .string ⟨#[]⟩], .bool true, .bool true, .bool true, .string t, undef, undef, undef], defers := [] } V := by
  refine wpAnyH_ready (rs := [14]) (by kernel_rfl) (by simp) ?_
  refine AllReadyH.cons (o := { dst := some 29, op := Op.call { callee := Callee.value (Operand.func 27), args := #[Operand.tmp 28], argTypes := #[9] }, type := 23, pos := "law.go:81", after := #[{ on := 13, ground := Ground.data }, { on := 12, ground := Ground.chain }, { on := 12, ground := Ground.guard }], guard := some (12, true) }) rfl (fun K hK => ?_) AllReadyH.nil
  have HK := Lib.hid hK.out
  clear hK
  go_wp2_with fail
  refine (HA.out _).mono ?_
  rintro e V' ⟨rfl, hb⟩
  replace hV := k1_call hV hb
  clear hb
  refine HK.out _ _ (by exact hV) (fun _ => ?_)
  exact reads_15 Q hQ n z1 z2 ok on x1 y1 s t x w b HR HA HB HT HC HI ht _ hV

set_option maxRecDepth 100000 in
set_option linter.unusedVariables false in
set_option maxHeartbeats 2000000 in
theorem reads_13 (Q : Exit → Act → World → Prop) (hQ : ∀ c a (d : Nat) v w, Q (.panic c) (Act.put a (some d) v) w → Q (.panic c) a w) (n z1 z2 ok on x1 y1 : Int) (s t x : ByteArray) (w : World) (b : Nat) (HR : Hid (∀ act V, fin_reads n z1 z2 ok on x1 y1 s t x w b act V → Q .normal act V)) (HA : Hid (∀ W, Calls Tryd.prog 27 #[.string t] W fun e w' => e = .returned (.agg #[.int .i64 x1, .int .i64 y1, .string ⟨#[]⟩]) ∧ Below W.heap.size W w')) (HB : Hid (∀ W, Calls Tryd.prog 28 #[.string t] W fun e w' => e = .returned (.agg #[.int .i64 x1, .int .i64 y1, .string ⟨#[]⟩]) ∧ Below W.heap.size W w')) (HT : Hid (∀ W, Tab W → Calls Tryd.prog 14 #[.agg #[.int .i64 ok, .int .i64 on, .string ⟨#[]⟩]] W fun e w' => e = .returned (.string x) ∧ Below W.heap.size W w')) (HC : Hid (∀ W, Calls Tryd.prog 27 #[.string x] W fun e w' => e = .returned (.agg #[.int .i64 ok, .int .i64 on, .string ⟨#[]⟩]) ∧ Below W.heap.size W w')) (HI : Hid (∀ W, Calls Tryd.prog 12 #[.agg #[.int .i64 x1, .int .i64 y1, .string ⟨#[]⟩]] W fun e w' => e = .returned (.bool true) ∧ Below W.heap.size W w')) (ht : Tab w) (V : World) (hV : (K1 w b ok on ⟨#[]⟩) V) : wpAnyH Tryd.prog .any ops_reads Q (K1 w b ok on ⟨#[]⟩) 5 #[true, true, true, true, true, true, true, true, true, true, true, true, true, false, false, false, false, false] { tmps := #[.string t, .int .i64 n, undef, undef, .bool false, .pointer (some ⟨b, 0, none⟩), .bool true, .bool false, .string s, .string s, .int .i64 z1, .int .i64 z2, .string t, .int .i64 n, .agg #[.int .i64 ok, .int .i64 on, .string ⟨#[]⟩], .string t, .agg #[.int .i64 x1, .int .i64 y1, .string ⟨#[]⟩], .string t, .agg #[.int .i64 x1, .int .i64 y1, .string ⟨#[]⟩], .bool true, .bool true, .agg #[.int .i64 ok, .int .i64 on, .string ⟨#[]⟩], .string x, .agg #[.int .i64 ok, .int .i64 on, .string ⟨#[]⟩], .agg #[.int .i64 ok, .int .i64 on, .string ⟨#[]⟩], .bool true, .bool true, .bool true, undef, undef, undef, undef], defers := [] } V := by
  refine wpAnyH_take (i := 13) (oi := { dst := some 28, op := Op.move (Operand.tmp 0), type := 9, pos := "law.go:81", after := #[{ on := 12, ground := Ground.guard }], guard := some (12, true) }) (v := .string t) rfl (by kernel_rfl) (by kernel_rfl) (by kernel_rfl) (fun c a w h => hQ c a _ _ w h) (Or.inl ⟨by kernel_rfl, ?_⟩) (by exact hV) ?_
  · intro U hS
    go_simp
  exact reads_14 Q hQ n z1 z2 ok on x1 y1 s t x w b HR HA HB HT HC HI ht _ hV

set_option maxRecDepth 100000 in
set_option linter.unusedVariables false in
set_option maxHeartbeats 2000000 in
theorem reads_12 (Q : Exit → Act → World → Prop) (hQ : ∀ c a (d : Nat) v w, Q (.panic c) (Act.put a (some d) v) w → Q (.panic c) a w) (n z1 z2 ok on x1 y1 : Int) (s t x : ByteArray) (w : World) (b : Nat) (HR : Hid (∀ act V, fin_reads n z1 z2 ok on x1 y1 s t x w b act V → Q .normal act V)) (HA : Hid (∀ W, Calls Tryd.prog 27 #[.string t] W fun e w' => e = .returned (.agg #[.int .i64 x1, .int .i64 y1, .string ⟨#[]⟩]) ∧ Below W.heap.size W w')) (HB : Hid (∀ W, Calls Tryd.prog 28 #[.string t] W fun e w' => e = .returned (.agg #[.int .i64 x1, .int .i64 y1, .string ⟨#[]⟩]) ∧ Below W.heap.size W w')) (HT : Hid (∀ W, Tab W → Calls Tryd.prog 14 #[.agg #[.int .i64 ok, .int .i64 on, .string ⟨#[]⟩]] W fun e w' => e = .returned (.string x) ∧ Below W.heap.size W w')) (HC : Hid (∀ W, Calls Tryd.prog 27 #[.string x] W fun e w' => e = .returned (.agg #[.int .i64 ok, .int .i64 on, .string ⟨#[]⟩]) ∧ Below W.heap.size W w')) (HI : Hid (∀ W, Calls Tryd.prog 12 #[.agg #[.int .i64 x1, .int .i64 y1, .string ⟨#[]⟩]] W fun e w' => e = .returned (.bool true) ∧ Below W.heap.size W w')) (ht : Tab w) (V : World) (hV : (K1 w b ok on ⟨#[]⟩) V) : wpAnyH Tryd.prog .any ops_reads Q (K1 w b ok on ⟨#[]⟩) 6 #[true, true, true, true, true, true, true, true, true, true, true, true, false, false, false, false, false, false] { tmps := #[.string t, .int .i64 n, undef, undef, .bool false, .pointer (some ⟨b, 0, none⟩), .bool true, .bool false, .string s, .string s, .int .i64 z1, .int .i64 z2, .string t, .int .i64 n, .agg #[.int .i64 ok, .int .i64 on, .string ⟨#[]⟩], .string t, .agg #[.int .i64 x1, .int .i64 y1, .string ⟨#[]⟩], .string t, .agg #[.int .i64 x1, .int .i64 y1, .string ⟨#[]⟩], .bool true, .bool true, .agg #[.int .i64 ok, .int .i64 on, .string ⟨#[]⟩], .string x, .agg #[.int .i64 ok, .int .i64 on, .string ⟨#[]⟩], .agg #[.int .i64 ok, .int .i64 on, .string ⟨#[]⟩], .bool true, .bool true, undef, undef, undef, undef, undef], defers := [] } V := by
  refine wpAnyH_take (i := 12) (oi := { dst := some 27, op := Op.move (Operand.tmp 26), type := 4, pos := "law.go:81", after := #[{ on := 11, ground := Ground.data }, { on := 8, ground := Ground.chain }], guard := none }) (v := .bool true) rfl (by kernel_rfl) (by kernel_rfl) (by kernel_rfl) (fun c a w h => hQ c a _ _ w h) (Or.inl ⟨by kernel_rfl, ?_⟩) (by exact hV) ?_
  · intro U hS
    go_simp
  exact reads_13 Q hQ n z1 z2 ok on x1 y1 s t x w b HR HA HB HT HC HI ht _ hV

set_option maxRecDepth 100000 in
set_option linter.unusedVariables false in
set_option maxHeartbeats 2000000 in
theorem reads_11 (Q : Exit → Act → World → Prop) (hQ : ∀ c a (d : Nat) v w, Q (.panic c) (Act.put a (some d) v) w → Q (.panic c) a w) (n z1 z2 ok on x1 y1 : Int) (s t x : ByteArray) (w : World) (b : Nat) (HR : Hid (∀ act V, fin_reads n z1 z2 ok on x1 y1 s t x w b act V → Q .normal act V)) (HA : Hid (∀ W, Calls Tryd.prog 27 #[.string t] W fun e w' => e = .returned (.agg #[.int .i64 x1, .int .i64 y1, .string ⟨#[]⟩]) ∧ Below W.heap.size W w')) (HB : Hid (∀ W, Calls Tryd.prog 28 #[.string t] W fun e w' => e = .returned (.agg #[.int .i64 x1, .int .i64 y1, .string ⟨#[]⟩]) ∧ Below W.heap.size W w')) (HT : Hid (∀ W, Tab W → Calls Tryd.prog 14 #[.agg #[.int .i64 ok, .int .i64 on, .string ⟨#[]⟩]] W fun e w' => e = .returned (.string x) ∧ Below W.heap.size W w')) (HC : Hid (∀ W, Calls Tryd.prog 27 #[.string x] W fun e w' => e = .returned (.agg #[.int .i64 ok, .int .i64 on, .string ⟨#[]⟩]) ∧ Below W.heap.size W w')) (HI : Hid (∀ W, Calls Tryd.prog 12 #[.agg #[.int .i64 x1, .int .i64 y1, .string ⟨#[]⟩]] W fun e w' => e = .returned (.bool true) ∧ Below W.heap.size W w')) (ht : Tab w) (V : World) (hV : (K1 w b ok on ⟨#[]⟩) V) : wpAnyH Tryd.prog .any ops_reads Q (K1 w b ok on ⟨#[]⟩) 7 #[true, true, true, true, true, true, true, true, true, true, true, false, false, false, false, false, false, false] { tmps := #[.string t, .int .i64 n, undef, undef, .bool false, .pointer (some ⟨b, 0, none⟩), .bool true, .bool false, .string s, .string s, .int .i64 z1, .int .i64 z2, .string t, .int .i64 n, .agg #[.int .i64 ok, .int .i64 on, .string ⟨#[]⟩], .string t, .agg #[.int .i64 x1, .int .i64 y1, .string ⟨#[]⟩], .string t, .agg #[.int .i64 x1, .int .i64 y1, .string ⟨#[]⟩], .bool true, .bool true, .agg #[.int .i64 ok, .int .i64 on, .string ⟨#[]⟩], .string x, .agg #[.int .i64 ok, .int .i64 on, .string ⟨#[]⟩], .agg #[.int .i64 ok, .int .i64 on, .string ⟨#[]⟩], .bool true, undef, undef, undef, undef, undef, undef], defers := [] } V := by
  refine wpAnyH_take (i := 11) (oi := { dst := some 26, op := Op.pick (Operand.tmp 20) (Operand.tmp 25) (Operand.const (Value.bool false)), type := 4, pos := "law.go:81", after := #[{ on := 5, ground := Ground.data }, { on := 10, ground := Ground.data }], guard := none }) (v := .bool true) rfl (by kernel_rfl) (by kernel_rfl) (by kernel_rfl) (fun c a w h => hQ c a _ _ w h) (Or.inl ⟨by kernel_rfl, ?_⟩) (by exact hV) ?_
  · intro U hS
    go_simp
  exact reads_12 Q hQ n z1 z2 ok on x1 y1 s t x w b HR HA HB HT HC HI ht _ hV

set_option maxRecDepth 100000 in
set_option linter.unusedVariables false in
set_option maxHeartbeats 2000000 in
theorem reads_10 (Q : Exit → Act → World → Prop) (hQ : ∀ c a (d : Nat) v w, Q (.panic c) (Act.put a (some d) v) w → Q (.panic c) a w) (n z1 z2 ok on x1 y1 : Int) (s t x : ByteArray) (w : World) (b : Nat) (HR : Hid (∀ act V, fin_reads n z1 z2 ok on x1 y1 s t x w b act V → Q .normal act V)) (HA : Hid (∀ W, Calls Tryd.prog 27 #[.string t] W fun e w' => e = .returned (.agg #[.int .i64 x1, .int .i64 y1, .string ⟨#[]⟩]) ∧ Below W.heap.size W w')) (HB : Hid (∀ W, Calls Tryd.prog 28 #[.string t] W fun e w' => e = .returned (.agg #[.int .i64 x1, .int .i64 y1, .string ⟨#[]⟩]) ∧ Below W.heap.size W w')) (HT : Hid (∀ W, Tab W → Calls Tryd.prog 14 #[.agg #[.int .i64 ok, .int .i64 on, .string ⟨#[]⟩]] W fun e w' => e = .returned (.string x) ∧ Below W.heap.size W w')) (HC : Hid (∀ W, Calls Tryd.prog 27 #[.string x] W fun e w' => e = .returned (.agg #[.int .i64 ok, .int .i64 on, .string ⟨#[]⟩]) ∧ Below W.heap.size W w')) (HI : Hid (∀ W, Calls Tryd.prog 12 #[.agg #[.int .i64 x1, .int .i64 y1, .string ⟨#[]⟩]] W fun e w' => e = .returned (.bool true) ∧ Below W.heap.size W w')) (ht : Tab w) (V : World) (hV : (K1 w b ok on ⟨#[]⟩) V) : wpAnyH Tryd.prog .any ops_reads Q (K1 w b ok on ⟨#[]⟩) 8 #[true, true, true, true, true, true, true, true, true, true, false, false, false, false, false, false, false, false] { tmps := #[.string t, .int .i64 n, undef, undef, .bool false, .pointer (some ⟨b, 0, none⟩), .bool true, .bool false, .string s, .string s, .int .i64 z1, .int .i64 z2, .string t, .int .i64 n, .agg #[.int .i64 ok, .int .i64 on, .string ⟨#[]⟩], .string t, .agg #[.int .i64 x1, .int .i64 y1, .string ⟨#[]⟩], .string t, .agg #[.int .i64 x1, .int .i64 y1, .string ⟨#[]⟩], .bool true, .bool true, .agg #[.int .i64 ok, .int .i64 on, .string ⟨#[]⟩], .string x, .agg #[.int .i64 ok, .int .i64 on, .string ⟨#[]⟩], .agg #[.int .i64 ok, .int .i64 on, .string ⟨#[]⟩], undef, undef, undef, undef, undef, undef, undef], defers := [] } V := by
  refine wpAnyH_take (i := 10) (oi := { dst := some 25, op := Op.binOp BinOp.eql 23 (Operand.tmp 23) (Operand.tmp 24) 23, type := 4, pos := "law.go:81", after := #[{ on := 8, ground := Ground.data }, { on := 9, ground := Ground.data }, { on := 5, ground := Ground.guard }], guard := some (5, true) }) (v := .bool true) rfl (by kernel_rfl) (by kernel_rfl) (by kernel_rfl) (fun c a w h => hQ c a _ _ w h) (Or.inl ⟨by kernel_rfl, ?_⟩) (by exact hV) ?_
  · intro U hS
    go_simp
  exact reads_11 Q hQ n z1 z2 ok on x1 y1 s t x w b HR HA HB HT HC HI ht _ hV

set_option maxRecDepth 100000 in
set_option linter.unusedVariables false in
set_option maxHeartbeats 2000000 in
theorem reads_9 (Q : Exit → Act → World → Prop) (hQ : ∀ c a (d : Nat) v w, Q (.panic c) (Act.put a (some d) v) w → Q (.panic c) a w) (n z1 z2 ok on x1 y1 : Int) (s t x : ByteArray) (w : World) (b : Nat) (HR : Hid (∀ act V, fin_reads n z1 z2 ok on x1 y1 s t x w b act V → Q .normal act V)) (HA : Hid (∀ W, Calls Tryd.prog 27 #[.string t] W fun e w' => e = .returned (.agg #[.int .i64 x1, .int .i64 y1, .string ⟨#[]⟩]) ∧ Below W.heap.size W w')) (HB : Hid (∀ W, Calls Tryd.prog 28 #[.string t] W fun e w' => e = .returned (.agg #[.int .i64 x1, .int .i64 y1, .string ⟨#[]⟩]) ∧ Below W.heap.size W w')) (HT : Hid (∀ W, Tab W → Calls Tryd.prog 14 #[.agg #[.int .i64 ok, .int .i64 on, .string ⟨#[]⟩]] W fun e w' => e = .returned (.string x) ∧ Below W.heap.size W w')) (HC : Hid (∀ W, Calls Tryd.prog 27 #[.string x] W fun e w' => e = .returned (.agg #[.int .i64 ok, .int .i64 on, .string ⟨#[]⟩]) ∧ Below W.heap.size W w')) (HI : Hid (∀ W, Calls Tryd.prog 12 #[.agg #[.int .i64 x1, .int .i64 y1, .string ⟨#[]⟩]] W fun e w' => e = .returned (.bool true) ∧ Below W.heap.size W w')) (ht : Tab w) (V : World) (hV : (K1 w b ok on ⟨#[]⟩) V) : wpAnyH Tryd.prog .any ops_reads Q (K1 w b ok on ⟨#[]⟩) 9 #[true, true, true, true, true, true, true, true, false, true, false, false, false, false, false, false, false, false] { tmps := #[.string t, .int .i64 n, undef, undef, .bool false, .pointer (some ⟨b, 0, none⟩), .bool true, .bool false, .string s, .string s, .int .i64 z1, .int .i64 z2, .string t, .int .i64 n, .agg #[.int .i64 ok, .int .i64 on, .string ⟨#[]⟩], .string t, .agg #[.int .i64 x1, .int .i64 y1, .string ⟨#[]⟩], .string t, .agg #[.int .i64 x1, .int .i64 y1, .string ⟨#[]⟩], .bool true, .bool true, .agg #[.int .i64 ok, .int .i64 on, .string ⟨#[]⟩], .string x, undef, .agg #[.int .i64 ok, .int .i64 on, .string ⟨#[]⟩], undef, undef, undef, undef, undef, undef, undef], defers := [] } V := by
  refine wpAnyH_ready (rs := [8]) (by kernel_rfl) (by simp) ?_
  refine AllReadyH.cons (o := { dst := some 23, op := Op.call { callee := Callee.value (Operand.func 27), args := #[Operand.tmp 22], argTypes := #[9] }, type := 23, pos := "law.go:81", after := #[{ on := 7, ground := Ground.data }, { on := 7, ground := Ground.chain }, { on := 5, ground := Ground.guard }], guard := some (5, true) }) rfl (fun K hK => ?_) AllReadyH.nil
  have HK := Lib.hid hK.out
  clear hK
  go_wp2_with fail
  refine (HC.out _).mono ?_
  rintro e V' ⟨rfl, hb⟩
  replace hV := k1_call hV hb
  clear hb
  refine HK.out _ _ (by exact hV) (fun _ => ?_)
  exact reads_10 Q hQ n z1 z2 ok on x1 y1 s t x w b HR HA HB HT HC HI ht _ hV

set_option maxRecDepth 100000 in
set_option linter.unusedVariables false in
set_option maxHeartbeats 2000000 in
theorem reads_8 (Q : Exit → Act → World → Prop) (hQ : ∀ c a (d : Nat) v w, Q (.panic c) (Act.put a (some d) v) w → Q (.panic c) a w) (n z1 z2 ok on x1 y1 : Int) (s t x : ByteArray) (w : World) (b : Nat) (HR : Hid (∀ act V, fin_reads n z1 z2 ok on x1 y1 s t x w b act V → Q .normal act V)) (HA : Hid (∀ W, Calls Tryd.prog 27 #[.string t] W fun e w' => e = .returned (.agg #[.int .i64 x1, .int .i64 y1, .string ⟨#[]⟩]) ∧ Below W.heap.size W w')) (HB : Hid (∀ W, Calls Tryd.prog 28 #[.string t] W fun e w' => e = .returned (.agg #[.int .i64 x1, .int .i64 y1, .string ⟨#[]⟩]) ∧ Below W.heap.size W w')) (HT : Hid (∀ W, Tab W → Calls Tryd.prog 14 #[.agg #[.int .i64 ok, .int .i64 on, .string ⟨#[]⟩]] W fun e w' => e = .returned (.string x) ∧ Below W.heap.size W w')) (HC : Hid (∀ W, Calls Tryd.prog 27 #[.string x] W fun e w' => e = .returned (.agg #[.int .i64 ok, .int .i64 on, .string ⟨#[]⟩]) ∧ Below W.heap.size W w')) (HI : Hid (∀ W, Calls Tryd.prog 12 #[.agg #[.int .i64 x1, .int .i64 y1, .string ⟨#[]⟩]] W fun e w' => e = .returned (.bool true) ∧ Below W.heap.size W w')) (ht : Tab w) (V : World) (hV : (K1 w b ok on ⟨#[]⟩) V) : wpAnyH Tryd.prog .any ops_reads Q (K1 w b ok on ⟨#[]⟩) 10 #[true, true, true, true, true, true, true, false, false, true, false, false, false, false, false, false, false, false] { tmps := #[.string t, .int .i64 n, undef, undef, .bool false, .pointer (some ⟨b, 0, none⟩), .bool true, .bool false, .string s, .string s, .int .i64 z1, .int .i64 z2, .string t, .int .i64 n, .agg #[.int .i64 ok, .int .i64 on, .string ⟨#[]⟩], .string t, .agg #[.int .i64 x1, .int .i64 y1, .string ⟨#[]⟩], .string t, .agg #[.int .i64 x1, .int .i64 y1, .string ⟨#[]⟩], .bool true, .bool true, .agg #[.int .i64 ok, .int .i64 on, .string ⟨#[]⟩], undef, undef, .agg #[.int .i64 ok, .int .i64 on, .string ⟨#[]⟩], undef, undef, undef, undef, undef, undef, undef], defers := [] } V := by
  refine wpAnyH_ready (rs := [7]) (by kernel_rfl) (by simp) ?_
  refine AllReadyH.cons (o := { dst := some 22, op := Op.call { callee := Callee.value (Operand.func 14), args := #[Operand.tmp 21], argTypes := #[23] }, type := 9, pos := "law.go:81", after := #[{ on := 6, ground := Ground.data }, { on := 5, ground := Ground.chain }, { on := 5, ground := Ground.guard }], guard := some (5, true) }) rfl (fun K hK => ?_) AllReadyH.nil
  have HK := Lib.hid hK.out
  clear hK
  go_wp2_with fail
  refine (HT.out _ (tab_grown ht hV.1)).mono ?_
  rintro e V' ⟨rfl, hb⟩
  replace hV := k1_call hV hb
  clear hb
  refine HK.out _ _ (by exact hV) (fun _ => ?_)
  exact reads_9 Q hQ n z1 z2 ok on x1 y1 s t x w b HR HA HB HT HC HI ht _ hV

set_option maxRecDepth 100000 in
set_option linter.unusedVariables false in
set_option maxHeartbeats 2000000 in
theorem reads_7 (Q : Exit → Act → World → Prop) (hQ : ∀ c a (d : Nat) v w, Q (.panic c) (Act.put a (some d) v) w → Q (.panic c) a w) (n z1 z2 ok on x1 y1 : Int) (s t x : ByteArray) (w : World) (b : Nat) (HR : Hid (∀ act V, fin_reads n z1 z2 ok on x1 y1 s t x w b act V → Q .normal act V)) (HA : Hid (∀ W, Calls Tryd.prog 27 #[.string t] W fun e w' => e = .returned (.agg #[.int .i64 x1, .int .i64 y1, .string ⟨#[]⟩]) ∧ Below W.heap.size W w')) (HB : Hid (∀ W, Calls Tryd.prog 28 #[.string t] W fun e w' => e = .returned (.agg #[.int .i64 x1, .int .i64 y1, .string ⟨#[]⟩]) ∧ Below W.heap.size W w')) (HT : Hid (∀ W, Tab W → Calls Tryd.prog 14 #[.agg #[.int .i64 ok, .int .i64 on, .string ⟨#[]⟩]] W fun e w' => e = .returned (.string x) ∧ Below W.heap.size W w')) (HC : Hid (∀ W, Calls Tryd.prog 27 #[.string x] W fun e w' => e = .returned (.agg #[.int .i64 ok, .int .i64 on, .string ⟨#[]⟩]) ∧ Below W.heap.size W w')) (HI : Hid (∀ W, Calls Tryd.prog 12 #[.agg #[.int .i64 x1, .int .i64 y1, .string ⟨#[]⟩]] W fun e w' => e = .returned (.bool true) ∧ Below W.heap.size W w')) (ht : Tab w) (V : World) (hV : (K1 w b ok on ⟨#[]⟩) V) : wpAnyH Tryd.prog .any ops_reads Q (K1 w b ok on ⟨#[]⟩) 11 #[true, true, true, true, true, true, true, false, false, false, false, false, false, false, false, false, false, false] { tmps := #[.string t, .int .i64 n, undef, undef, .bool false, .pointer (some ⟨b, 0, none⟩), .bool true, .bool false, .string s, .string s, .int .i64 z1, .int .i64 z2, .string t, .int .i64 n, .agg #[.int .i64 ok, .int .i64 on, .string ⟨#[]⟩], .string t, .agg #[.int .i64 x1, .int .i64 y1, .string ⟨#[]⟩], .string t, .agg #[.int .i64 x1, .int .i64 y1, .string ⟨#[]⟩], .bool true, .bool true, .agg #[.int .i64 ok, .int .i64 on, .string ⟨#[]⟩], undef, undef, undef, undef, undef, undef, undef, undef, undef, undef], defers := [] } V := by
  refine wpAnyH_take (i := 9) (oi := { dst := some 24, op := Op.load 23 (Operand.tmp 5), type := 23, pos := "law.go:81", after := #[{ on := 5, ground := Ground.guard }], guard := some (5, true) }) (v := .agg #[.int .i64 ok, .int .i64 on, .string ⟨#[]⟩]) rfl (by kernel_rfl) (by kernel_rfl) (by kernel_rfl) (fun c a w h => hQ c a _ _ w h) (Or.inl ⟨by kernel_rfl, ?_⟩) (by exact hV) ?_
  · intro U hS
    obtain ⟨_, _, p0, p1, p2⟩ := hS
    go_simp
  exact reads_8 Q hQ n z1 z2 ok on x1 y1 s t x w b HR HA HB HT HC HI ht _ hV

set_option maxRecDepth 100000 in
set_option linter.unusedVariables false in
set_option maxHeartbeats 2000000 in
theorem reads_6 (Q : Exit → Act → World → Prop) (hQ : ∀ c a (d : Nat) v w, Q (.panic c) (Act.put a (some d) v) w → Q (.panic c) a w) (n z1 z2 ok on x1 y1 : Int) (s t x : ByteArray) (w : World) (b : Nat) (HR : Hid (∀ act V, fin_reads n z1 z2 ok on x1 y1 s t x w b act V → Q .normal act V)) (HA : Hid (∀ W, Calls Tryd.prog 27 #[.string t] W fun e w' => e = .returned (.agg #[.int .i64 x1, .int .i64 y1, .string ⟨#[]⟩]) ∧ Below W.heap.size W w')) (HB : Hid (∀ W, Calls Tryd.prog 28 #[.string t] W fun e w' => e = .returned (.agg #[.int .i64 x1, .int .i64 y1, .string ⟨#[]⟩]) ∧ Below W.heap.size W w')) (HT : Hid (∀ W, Tab W → Calls Tryd.prog 14 #[.agg #[.int .i64 ok, .int .i64 on, .string ⟨#[]⟩]] W fun e w' => e = .returned (.string x) ∧ Below W.heap.size W w')) (HC : Hid (∀ W, Calls Tryd.prog 27 #[.string x] W fun e w' => e = .returned (.agg #[.int .i64 ok, .int .i64 on, .string ⟨#[]⟩]) ∧ Below W.heap.size W w')) (HI : Hid (∀ W, Calls Tryd.prog 12 #[.agg #[.int .i64 x1, .int .i64 y1, .string ⟨#[]⟩]] W fun e w' => e = .returned (.bool true) ∧ Below W.heap.size W w')) (ht : Tab w) (V : World) (hV : (K1 w b ok on ⟨#[]⟩) V) : wpAnyH Tryd.prog .any ops_reads Q (K1 w b ok on ⟨#[]⟩) 12 #[true, true, true, true, true, true, false, false, false, false, false, false, false, false, false, false, false, false] { tmps := #[.string t, .int .i64 n, undef, undef, .bool false, .pointer (some ⟨b, 0, none⟩), .bool true, .bool false, .string s, .string s, .int .i64 z1, .int .i64 z2, .string t, .int .i64 n, .agg #[.int .i64 ok, .int .i64 on, .string ⟨#[]⟩], .string t, .agg #[.int .i64 x1, .int .i64 y1, .string ⟨#[]⟩], .string t, .agg #[.int .i64 x1, .int .i64 y1, .string ⟨#[]⟩], .bool true, .bool true, undef, undef, undef, undef, undef, undef, undef, undef, undef, undef, undef], defers := [] } V := by
  refine wpAnyH_take (i := 6) (oi := { dst := some 21, op := Op.load 23 (Operand.tmp 5), type := 23, pos := "law.go:81", after := #[{ on := 5, ground := Ground.guard }], guard := some (5, true) }) (v := .agg #[.int .i64 ok, .int .i64 on, .string ⟨#[]⟩]) rfl (by kernel_rfl) (by kernel_rfl) (by kernel_rfl) (fun c a w h => hQ c a _ _ w h) (Or.inl ⟨by kernel_rfl, ?_⟩) (by exact hV) ?_
  · intro U hS
    obtain ⟨_, _, p0, p1, p2⟩ := hS
    go_simp
  exact reads_7 Q hQ n z1 z2 ok on x1 y1 s t x w b HR HA HB HT HC HI ht _ hV

set_option maxRecDepth 100000 in
set_option linter.unusedVariables false in
set_option maxHeartbeats 2000000 in
theorem reads_5 (Q : Exit → Act → World → Prop) (hQ : ∀ c a (d : Nat) v w, Q (.panic c) (Act.put a (some d) v) w → Q (.panic c) a w) (n z1 z2 ok on x1 y1 : Int) (s t x : ByteArray) (w : World) (b : Nat) (HR : Hid (∀ act V, fin_reads n z1 z2 ok on x1 y1 s t x w b act V → Q .normal act V)) (HA : Hid (∀ W, Calls Tryd.prog 27 #[.string t] W fun e w' => e = .returned (.agg #[.int .i64 x1, .int .i64 y1, .string ⟨#[]⟩]) ∧ Below W.heap.size W w')) (HB : Hid (∀ W, Calls Tryd.prog 28 #[.string t] W fun e w' => e = .returned (.agg #[.int .i64 x1, .int .i64 y1, .string ⟨#[]⟩]) ∧ Below W.heap.size W w')) (HT : Hid (∀ W, Tab W → Calls Tryd.prog 14 #[.agg #[.int .i64 ok, .int .i64 on, .string ⟨#[]⟩]] W fun e w' => e = .returned (.string x) ∧ Below W.heap.size W w')) (HC : Hid (∀ W, Calls Tryd.prog 27 #[.string x] W fun e w' => e = .returned (.agg #[.int .i64 ok, .int .i64 on, .string ⟨#[]⟩]) ∧ Below W.heap.size W w')) (HI : Hid (∀ W, Calls Tryd.prog 12 #[.agg #[.int .i64 x1, .int .i64 y1, .string ⟨#[]⟩]] W fun e w' => e = .returned (.bool true) ∧ Below W.heap.size W w')) (ht : Tab w) (V : World) (hV : (K1 w b ok on ⟨#[]⟩) V) : wpAnyH Tryd.prog .any ops_reads Q (K1 w b ok on ⟨#[]⟩) 13 #[true, true, true, true, true, false, false, false, false, false, false, false, false, false, false, false, false, false] { tmps := #[.string t, .int .i64 n, undef, undef, .bool false, .pointer (some ⟨b, 0, none⟩), .bool true, .bool false, .string s, .string s, .int .i64 z1, .int .i64 z2, .string t, .int .i64 n, .agg #[.int .i64 ok, .int .i64 on, .string ⟨#[]⟩], .string t, .agg #[.int .i64 x1, .int .i64 y1, .string ⟨#[]⟩], .string t, .agg #[.int .i64 x1, .int .i64 y1, .string ⟨#[]⟩], .bool true, undef, undef, undef, undef, undef, undef, undef, undef, undef, undef, undef, undef], defers := [] } V := by
  refine wpAnyH_take (i := 5) (oi := { dst := some 20, op := Op.move (Operand.tmp 19), type := 4, pos := "law.go:81", after := #[{ on := 4, ground := Ground.data }, { on := 3, ground := Ground.chain }], guard := none }) (v := .bool true) rfl (by kernel_rfl) (by kernel_rfl) (by kernel_rfl) (fun c a w h => hQ c a _ _ w h) (Or.inl ⟨by kernel_rfl, ?_⟩) (by exact hV) ?_
  · intro U hS
    go_simp
  exact reads_6 Q hQ n z1 z2 ok on x1 y1 s t x w b HR HA HB HT HC HI ht _ hV

set_option maxRecDepth 100000 in
set_option linter.unusedVariables false in
set_option maxHeartbeats 2000000 in
theorem reads_4 (Q : Exit → Act → World → Prop) (hQ : ∀ c a (d : Nat) v w, Q (.panic c) (Act.put a (some d) v) w → Q (.panic c) a w) (n z1 z2 ok on x1 y1 : Int) (s t x : ByteArray) (w : World) (b : Nat) (HR : Hid (∀ act V, fin_reads n z1 z2 ok on x1 y1 s t x w b act V → Q .normal act V)) (HA : Hid (∀ W, Calls Tryd.prog 27 #[.string t] W fun e w' => e = .returned (.agg #[.int .i64 x1, .int .i64 y1, .string ⟨#[]⟩]) ∧ Below W.heap.size W w')) (HB : Hid (∀ W, Calls Tryd.prog 28 #[.string t] W fun e w' => e = .returned (.agg #[.int .i64 x1, .int .i64 y1, .string ⟨#[]⟩]) ∧ Below W.heap.size W w')) (HT : Hid (∀ W, Tab W → Calls Tryd.prog 14 #[.agg #[.int .i64 ok, .int .i64 on, .string ⟨#[]⟩]] W fun e w' => e = .returned (.string x) ∧ Below W.heap.size W w')) (HC : Hid (∀ W, Calls Tryd.prog 27 #[.string x] W fun e w' => e = .returned (.agg #[.int .i64 ok, .int .i64 on, .string ⟨#[]⟩]) ∧ Below W.heap.size W w')) (HI : Hid (∀ W, Calls Tryd.prog 12 #[.agg #[.int .i64 x1, .int .i64 y1, .string ⟨#[]⟩]] W fun e w' => e = .returned (.bool true) ∧ Below W.heap.size W w')) (ht : Tab w) (V : World) (hV : (K1 w b ok on ⟨#[]⟩) V) : wpAnyH Tryd.prog .any ops_reads Q (K1 w b ok on ⟨#[]⟩) 14 #[true, true, true, true, false, false, false, false, false, false, false, false, false, false, false, false, false, false] { tmps := #[.string t, .int .i64 n, undef, undef, .bool false, .pointer (some ⟨b, 0, none⟩), .bool true, .bool false, .string s, .string s, .int .i64 z1, .int .i64 z2, .string t, .int .i64 n, .agg #[.int .i64 ok, .int .i64 on, .string ⟨#[]⟩], .string t, .agg #[.int .i64 x1, .int .i64 y1, .string ⟨#[]⟩], .string t, .agg #[.int .i64 x1, .int .i64 y1, .string ⟨#[]⟩], undef, undef, undef, undef, undef, undef, undef, undef, undef, undef, undef, undef, undef], defers := [] } V := by
  refine wpAnyH_take (i := 4) (oi := { dst := some 19, op := Op.binOp BinOp.eql 23 (Operand.tmp 16) (Operand.tmp 18) 23, type := 4, pos := "law.go:81", after := #[{ on := 1, ground := Ground.data }, { on := 3, ground := Ground.data }], guard := none }) (v := .bool true) rfl (by kernel_rfl) (by kernel_rfl) (by kernel_rfl) (fun c a w h => hQ c a _ _ w h) (Or.inl ⟨by kernel_rfl, ?_⟩) (by exact hV) ?_
  · intro U hS
    go_simp
  exact reads_5 Q hQ n z1 z2 ok on x1 y1 s t x w b HR HA HB HT HC HI ht _ hV

set_option maxRecDepth 100000 in
set_option linter.unusedVariables false in
set_option maxHeartbeats 2000000 in
theorem reads_3 (Q : Exit → Act → World → Prop) (hQ : ∀ c a (d : Nat) v w, Q (.panic c) (Act.put a (some d) v) w → Q (.panic c) a w) (n z1 z2 ok on x1 y1 : Int) (s t x : ByteArray) (w : World) (b : Nat) (HR : Hid (∀ act V, fin_reads n z1 z2 ok on x1 y1 s t x w b act V → Q .normal act V)) (HA : Hid (∀ W, Calls Tryd.prog 27 #[.string t] W fun e w' => e = .returned (.agg #[.int .i64 x1, .int .i64 y1, .string ⟨#[]⟩]) ∧ Below W.heap.size W w')) (HB : Hid (∀ W, Calls Tryd.prog 28 #[.string t] W fun e w' => e = .returned (.agg #[.int .i64 x1, .int .i64 y1, .string ⟨#[]⟩]) ∧ Below W.heap.size W w')) (HT : Hid (∀ W, Tab W → Calls Tryd.prog 14 #[.agg #[.int .i64 ok, .int .i64 on, .string ⟨#[]⟩]] W fun e w' => e = .returned (.string x) ∧ Below W.heap.size W w')) (HC : Hid (∀ W, Calls Tryd.prog 27 #[.string x] W fun e w' => e = .returned (.agg #[.int .i64 ok, .int .i64 on, .string ⟨#[]⟩]) ∧ Below W.heap.size W w')) (HI : Hid (∀ W, Calls Tryd.prog 12 #[.agg #[.int .i64 x1, .int .i64 y1, .string ⟨#[]⟩]] W fun e w' => e = .returned (.bool true) ∧ Below W.heap.size W w')) (ht : Tab w) (V : World) (hV : (K1 w b ok on ⟨#[]⟩) V) : wpAnyH Tryd.prog .any ops_reads Q (K1 w b ok on ⟨#[]⟩) 15 #[true, true, true, false, false, false, false, false, false, false, false, false, false, false, false, false, false, false] { tmps := #[.string t, .int .i64 n, undef, undef, .bool false, .pointer (some ⟨b, 0, none⟩), .bool true, .bool false, .string s, .string s, .int .i64 z1, .int .i64 z2, .string t, .int .i64 n, .agg #[.int .i64 ok, .int .i64 on, .string ⟨#[]⟩], .string t, .agg #[.int .i64 x1, .int .i64 y1, .string ⟨#[]⟩], .string t, undef, undef, undef, undef, undef, undef, undef, undef, undef, undef, undef, undef, undef, undef], defers := [] } V := by
  refine wpAnyH_ready (rs := [3]) (by kernel_rfl) (by simp) ?_
  refine AllReadyH.cons (o := { dst := some 18, op := Op.call { callee := Callee.value (Operand.func 28), args := #[Operand.tmp 17], argTypes := #[9] }, type := 23, pos := "law.go:81", after := #[{ on := 2, ground := Ground.data }, { on := 1, ground := Ground.chain }], guard := none }) rfl (fun K hK => ?_) AllReadyH.nil
  have HK := Lib.hid hK.out
  clear hK
  go_wp2_with fail
  refine (HB.out _).mono ?_
  rintro e V' ⟨rfl, hb⟩
  replace hV := k1_call hV hb
  clear hb
  refine HK.out _ _ (by exact hV) (fun _ => ?_)
  exact reads_4 Q hQ n z1 z2 ok on x1 y1 s t x w b HR HA HB HT HC HI ht _ hV

set_option maxRecDepth 100000 in
set_option linter.unusedVariables false in
set_option maxHeartbeats 2000000 in
theorem reads_2 (Q : Exit → Act → World → Prop) (hQ : ∀ c a (d : Nat) v w, Q (.panic c) (Act.put a (some d) v) w → Q (.panic c) a w) (n z1 z2 ok on x1 y1 : Int) (s t x : ByteArray) (w : World) (b : Nat) (HR : Hid (∀ act V, fin_reads n z1 z2 ok on x1 y1 s t x w b act V → Q .normal act V)) (HA : Hid (∀ W, Calls Tryd.prog 27 #[.string t] W fun e w' => e = .returned (.agg #[.int .i64 x1, .int .i64 y1, .string ⟨#[]⟩]) ∧ Below W.heap.size W w')) (HB : Hid (∀ W, Calls Tryd.prog 28 #[.string t] W fun e w' => e = .returned (.agg #[.int .i64 x1, .int .i64 y1, .string ⟨#[]⟩]) ∧ Below W.heap.size W w')) (HT : Hid (∀ W, Tab W → Calls Tryd.prog 14 #[.agg #[.int .i64 ok, .int .i64 on, .string ⟨#[]⟩]] W fun e w' => e = .returned (.string x) ∧ Below W.heap.size W w')) (HC : Hid (∀ W, Calls Tryd.prog 27 #[.string x] W fun e w' => e = .returned (.agg #[.int .i64 ok, .int .i64 on, .string ⟨#[]⟩]) ∧ Below W.heap.size W w')) (HI : Hid (∀ W, Calls Tryd.prog 12 #[.agg #[.int .i64 x1, .int .i64 y1, .string ⟨#[]⟩]] W fun e w' => e = .returned (.bool true) ∧ Below W.heap.size W w')) (ht : Tab w) (V : World) (hV : (K1 w b ok on ⟨#[]⟩) V) : wpAnyH Tryd.prog .any ops_reads Q (K1 w b ok on ⟨#[]⟩) 16 #[true, false, true, false, false, false, false, false, false, false, false, false, false, false, false, false, false, false] { tmps := #[.string t, .int .i64 n, undef, undef, .bool false, .pointer (some ⟨b, 0, none⟩), .bool true, .bool false, .string s, .string s, .int .i64 z1, .int .i64 z2, .string t, .int .i64 n, .agg #[.int .i64 ok, .int .i64 on, .string ⟨#[]⟩], .string t, undef, .string t, undef, undef, undef, undef, undef, undef, undef, undef, undef, undef, undef, undef, undef, undef], defers := [] } V := by
  refine wpAnyH_ready (rs := [1]) (by kernel_rfl) (by simp) ?_
  refine AllReadyH.cons (o := { dst := some 16, op := Op.call { callee := Callee.value (Operand.func 27), args := #[Operand.tmp 15], argTypes := #[9] }, type := 23, pos := "law.go:81", after := #[{ on := 0, ground := Ground.data }], guard := none }) rfl (fun K hK => ?_) AllReadyH.nil
  have HK := Lib.hid hK.out
  clear hK
  go_wp2_with fail
  refine (HA.out _).mono ?_
  rintro e V' ⟨rfl, hb⟩
  replace hV := k1_call hV hb
  clear hb
  refine HK.out _ _ (by exact hV) (fun _ => ?_)
  exact reads_3 Q hQ n z1 z2 ok on x1 y1 s t x w b HR HA HB HT HC HI ht _ hV

set_option maxRecDepth 100000 in
set_option linter.unusedVariables false in
set_option maxHeartbeats 2000000 in
theorem reads_1 (Q : Exit → Act → World → Prop) (hQ : ∀ c a (d : Nat) v w, Q (.panic c) (Act.put a (some d) v) w → Q (.panic c) a w) (n z1 z2 ok on x1 y1 : Int) (s t x : ByteArray) (w : World) (b : Nat) (HR : Hid (∀ act V, fin_reads n z1 z2 ok on x1 y1 s t x w b act V → Q .normal act V)) (HA : Hid (∀ W, Calls Tryd.prog 27 #[.string t] W fun e w' => e = .returned (.agg #[.int .i64 x1, .int .i64 y1, .string ⟨#[]⟩]) ∧ Below W.heap.size W w')) (HB : Hid (∀ W, Calls Tryd.prog 28 #[.string t] W fun e w' => e = .returned (.agg #[.int .i64 x1, .int .i64 y1, .string ⟨#[]⟩]) ∧ Below W.heap.size W w')) (HT : Hid (∀ W, Tab W → Calls Tryd.prog 14 #[.agg #[.int .i64 ok, .int .i64 on, .string ⟨#[]⟩]] W fun e w' => e = .returned (.string x) ∧ Below W.heap.size W w')) (HC : Hid (∀ W, Calls Tryd.prog 27 #[.string x] W fun e w' => e = .returned (.agg #[.int .i64 ok, .int .i64 on, .string ⟨#[]⟩]) ∧ Below W.heap.size W w')) (HI : Hid (∀ W, Calls Tryd.prog 12 #[.agg #[.int .i64 x1, .int .i64 y1, .string ⟨#[]⟩]] W fun e w' => e = .returned (.bool true) ∧ Below W.heap.size W w')) (ht : Tab w) (V : World) (hV : (K1 w b ok on ⟨#[]⟩) V) : wpAnyH Tryd.prog .any ops_reads Q (K1 w b ok on ⟨#[]⟩) 17 #[true, false, false, false, false, false, false, false, false, false, false, false, false, false, false, false, false, false] { tmps := #[.string t, .int .i64 n, undef, undef, .bool false, .pointer (some ⟨b, 0, none⟩), .bool true, .bool false, .string s, .string s, .int .i64 z1, .int .i64 z2, .string t, .int .i64 n, .agg #[.int .i64 ok, .int .i64 on, .string ⟨#[]⟩], .string t, undef, undef, undef, undef, undef, undef, undef, undef, undef, undef, undef, undef, undef, undef, undef, undef], defers := [] } V := by
  refine wpAnyH_take (i := 2) (oi := { dst := some 17, op := Op.move (Operand.tmp 0), type := 9, pos := "law.go:81", after := #[], guard := none }) (v := .string t) rfl (by kernel_rfl) (by kernel_rfl) (by kernel_rfl) (fun c a w h => hQ c a _ _ w h) (Or.inl ⟨by kernel_rfl, ?_⟩) (by exact hV) ?_
  · intro U hS
    go_simp
  exact reads_2 Q hQ n z1 z2 ok on x1 y1 s t x w b HR HA HB HT HC HI ht _ hV

set_option maxRecDepth 100000 in
set_option linter.unusedVariables false in
set_option maxHeartbeats 2000000 in
theorem reads_0 (Q : Exit → Act → World → Prop) (hQ : ∀ c a (d : Nat) v w, Q (.panic c) (Act.put a (some d) v) w → Q (.panic c) a w) (n z1 z2 ok on x1 y1 : Int) (s t x : ByteArray) (w : World) (b : Nat) (HR : Hid (∀ act V, fin_reads n z1 z2 ok on x1 y1 s t x w b act V → Q .normal act V)) (HA : Hid (∀ W, Calls Tryd.prog 27 #[.string t] W fun e w' => e = .returned (.agg #[.int .i64 x1, .int .i64 y1, .string ⟨#[]⟩]) ∧ Below W.heap.size W w')) (HB : Hid (∀ W, Calls Tryd.prog 28 #[.string t] W fun e w' => e = .returned (.agg #[.int .i64 x1, .int .i64 y1, .string ⟨#[]⟩]) ∧ Below W.heap.size W w')) (HT : Hid (∀ W, Tab W → Calls Tryd.prog 14 #[.agg #[.int .i64 ok, .int .i64 on, .string ⟨#[]⟩]] W fun e w' => e = .returned (.string x) ∧ Below W.heap.size W w')) (HC : Hid (∀ W, Calls Tryd.prog 27 #[.string x] W fun e w' => e = .returned (.agg #[.int .i64 ok, .int .i64 on, .string ⟨#[]⟩]) ∧ Below W.heap.size W w')) (HI : Hid (∀ W, Calls Tryd.prog 12 #[.agg #[.int .i64 x1, .int .i64 y1, .string ⟨#[]⟩]] W fun e w' => e = .returned (.bool true) ∧ Below W.heap.size W w')) (ht : Tab w) (V : World) (hV : (K1 w b ok on ⟨#[]⟩) V) : wpAnyH Tryd.prog .any ops_reads Q (K1 w b ok on ⟨#[]⟩) 18 #[false, false, false, false, false, false, false, false, false, false, false, false, false, false, false, false, false, false] { tmps := #[.string t, .int .i64 n, undef, undef, .bool false, .pointer (some ⟨b, 0, none⟩), .bool true, .bool false, .string s, .string s, .int .i64 z1, .int .i64 z2, .string t, .int .i64 n, .agg #[.int .i64 ok, .int .i64 on, .string ⟨#[]⟩], undef, undef, undef, undef, undef, undef, undef, undef, undef, undef, undef, undef, undef, undef, undef, undef, undef], defers := [] } V := by
  refine wpAnyH_take (i := 0) (oi := { dst := some 15, op := Op.move (Operand.tmp 0), type := 9, pos := "law.go:81", after := #[], guard := none }) (v := .string t) rfl (by kernel_rfl) (by kernel_rfl) (by kernel_rfl) (fun c a w h => hQ c a _ _ w h) (Or.inl ⟨by kernel_rfl, ?_⟩) (by exact hV) ?_
  · intro U hS
    go_simp
  exact reads_1 Q hQ n z1 z2 ok on x1 y1 s t x w b HR HA HB HT HC HI ht _ hV

set_option maxRecDepth 100000 in
set_option linter.unusedVariables false in
set_option maxHeartbeats 2000000 in
theorem reg_reads (Q : Exit → Act → World → Prop) (hQ : ∀ c a (d : Nat) v w, Q (.panic c) (Act.put a (some d) v) w → Q (.panic c) a w) (n z1 z2 ok on x1 y1 : Int) (s t x : ByteArray) (w : World) (b : Nat) (HR : Hid (∀ act V, fin_reads n z1 z2 ok on x1 y1 s t x w b act V → Q .normal act V)) (HA : Hid (∀ W, Calls Tryd.prog 27 #[.string t] W fun e w' => e = .returned (.agg #[.int .i64 x1, .int .i64 y1, .string ⟨#[]⟩]) ∧ Below W.heap.size W w')) (HB : Hid (∀ W, Calls Tryd.prog 28 #[.string t] W fun e w' => e = .returned (.agg #[.int .i64 x1, .int .i64 y1, .string ⟨#[]⟩]) ∧ Below W.heap.size W w')) (HT : Hid (∀ W, Tab W → Calls Tryd.prog 14 #[.agg #[.int .i64 ok, .int .i64 on, .string ⟨#[]⟩]] W fun e w' => e = .returned (.string x) ∧ Below W.heap.size W w')) (HC : Hid (∀ W, Calls Tryd.prog 27 #[.string x] W fun e w' => e = .returned (.agg #[.int .i64 ok, .int .i64 on, .string ⟨#[]⟩]) ∧ Below W.heap.size W w')) (HI : Hid (∀ W, Calls Tryd.prog 12 #[.agg #[.int .i64 x1, .int .i64 y1, .string ⟨#[]⟩]] W fun e w' => e = .returned (.bool true) ∧ Below W.heap.size W w')) (ht : Tab w) (W : World) (hW : (K1 w b ok on ⟨#[]⟩) W.drew) : Code.wp Tryd.prog (Code.region 5 ops_reads true) Q { tmps := #[.string t, .int .i64 n, undef, undef, .bool false, .pointer (some ⟨b, 0, none⟩), .bool true, .bool false, .string s, .string s, .int .i64 z1, .int .i64 z2, .string t, .int .i64 n, .agg #[.int .i64 ok, .int .i64 on, .string ⟨#[]⟩], undef, undef, undef, undef, undef, undef, undef, undef, undef, undef, undef, undef, undef, undef, undef, undef, undef], defers := [] } W := by
  refine wp_region_held_drew (S := (K1 w b ok on ⟨#[]⟩)) (by kernel_rfl) (by exact hW) (fun hV => ?_)
  exact reads_0 Q hQ n z1 z2 ok on x1 y1 s t x w b HR HA HB HT HC HI ht _ hV

theorem rd_in (l : List UInt8) (n : Int) (h : rdS l = some n) : inB n = true := by
  unfold rdS at h
  cases hl : Lib.trimS l [9, 10, 13, 32] with
  | nil =>
    rw [hl] at h
    cases h
    kernel_rfl
  | cons c r =>
    rw [hl, rdT_cons] at h
    split at h
    · exact dgS_in _ _ _ h
    · split at h
      · exact dgS_in _ _ _ h
      · split at h
        · cases hd : dgS 10 r with
          | none => rw [hd] at h; cases h
          | some m =>
            rw [hd] at h
            cases h
            exact in_neg (dgS_in _ _ _ hd)
        · exact dgS_in _ _ _ h
theorem is_rd (l : List UInt8) : isK (vK (rdS l)) (vN (rdS l)) ⟨#[]⟩ = true := by
  have e : (⟨#[]⟩ : ByteArray).toList.isEmpty = true := by rw [ByteArray.toList_eq]; rfl
  unfold isK
  rw [e]
  cases h : rdS l with
  | none => rfl
  | some v =>
    have hi := rd_in l v h
    show (true && ((3 == 3 && inB v) || _)) = true
    rw [hi]
    rfl
theorem tx_rd (n : Int) : vK (rdS (txV (ofK n) (ofN n) ⟨#[]⟩).data.toList) = ofK n ∧ vN (rdS (txV (ofK n) (ofN n) ⟨#[]⟩).data.toList) = ofN n ∧ (txV (ofK n) (ofN n) ⟨#[]⟩).size ≤ 9223372036854775807 := by
  cases h : inB n with
  | true =>
    obtain ⟨h0, h1⟩ := in_yes h
    rw [(of_in h).1, (of_in h).2]
    have e : txV 3 n ⟨#[]⟩ = ⟨(Lib.itoa n).toArray⟩ := by unfold txV; rw [if_pos (wh3 n h).1]
    rw [e]
    have r := rd_itoa n h0 h1
    have l := Lib.itoa_length_le n (by omega) (by omega)
    have z : (⟨(Lib.itoa n).toArray⟩ : ByteArray).size = (Lib.itoa n).length := by simp [ByteArray.size]
    refine ⟨?_, ?_, by omega⟩
    · show vK (rdS (Lib.itoa n)) = 3
      rw [r]
      rfl
    · show vN (rdS (Lib.itoa n)) = n
      rw [r]
      rfl
  | false =>
    have hk : ofK n = 4 := by simp [ofK, h]
    have hn : ofN n = 0 := by simp [ofN, h]
    rw [hk, hn]
    have e : txV 4 0 ⟨#[]⟩ = ⟨#[78, 97, 78]⟩ := by
      unfold txV
      rw [if_neg (by simp [whK])]
    rw [e]
    have r := rd_nan
    refine ⟨?_, ?_, by decide⟩
    · show vK (rdS [78, 97, 78]) = 4
      rw [r]
      rfl
    · show vN (rdS [78, 97, 78]) = 0
      rw [r]
      rfl

set_option linter.unusedVariables false in
set_option maxRecDepth 100000 in
set_option maxHeartbeats 4000000 in
theorem reads_any (s : ByteArray) (n : Int) (w : World) (hs : s.size ≤ maxLen) (ht : Tab w) : Calls Tryd.prog 7 #[.string s, .int .i64 n] w fun e w' => e = .returned (.bool true) ∧ Below w.heap.size w w' := by
  have hsz : s.size ≤ 9223372036854775807 := by unfold maxLen at hs; omega
  obtain ⟨t, htt⟩ : ∃ t, t = s.extract 0 (min s.size 300) := ⟨_, rfl⟩
  have htz : t.size ≤ 9223372036854775807 := by rw [htt, ByteArray.size_extract]; omega
  obtain ⟨r1, r2, r3⟩ := tx_rd n
  have HA := Lib.hid (fun W => read_any t W htz)
  have HB := Lib.hid (fun W => refread_any t W htz)
  have HT := Lib.hid (fun W (h : Tab W) => text_any (ofK n) (ofN n) ⟨#[]⟩ W h)
  have C := fun W => read_any (txV (ofK n) (ofN n) ⟨#[]⟩) W r3
  rw [r1, r2] at C
  have HC := Lib.hid C
  have I := fun W => is_any (vK (rdS t.data.toList)) (vN (rdS t.data.toList)) ⟨#[]⟩ W
  rw [is_rd] at I
  have HI := Lib.hid I
  have HO := Lib.hid (fun W => of_any n W)
  clear C I r1 r2 r3 htz
  obtain ⟨ok, hok⟩ : ∃ ok, ok = ofK n := ⟨_, rfl⟩
  obtain ⟨on, hon⟩ : ∃ on, on = ofN n := ⟨_, rfl⟩
  obtain ⟨x1, hx1⟩ : ∃ x1, x1 = vK (rdS t.data.toList) := ⟨_, rfl⟩
  obtain ⟨y1, hy1⟩ : ∃ y1, y1 = vN (rdS t.data.toList) := ⟨_, rfl⟩
  simp only [← hok, ← hon, ← hx1, ← hy1] at HA HB HT HC HI HO
  obtain ⟨x, hx⟩ : ∃ x, x = txV ok on ⟨#[]⟩ := ⟨_, rfl⟩
  simp only [← hx] at HT HC
  clear hok hon hx1 hy1 hx
  by_cases h3 : s.size ≤ 300
  · have ets : t = s := by
      rw [htt, show min s.size 300 = s.size by omega]
      simp
    have e2 : min (s.size : Int) 300 = s.size := by omega
    subst ets
    clear htt
    go_enter Tryd.func7, Tryd.ntmps7
    go_wp2_with fail
    refine (awake_any _ ht).mono ?_
    rintro e w1 ⟨rfl, b1⟩
    go_wp2_with fail
    refine (HO.out _).mono ?_
    rintro e w2 ⟨rfl, hb⟩
    have b2 : Below w.heap.size w w2 := thr b1 hb b1.size
    clear hb b1
    go_wp2_with fail
    refine cutQ (fin_reads n t.size t.size ok on x1 y1 t t x w w2.heap.size) ?_ (fun hR => reg_reads _ (fun _ _ _ _ _ h => h) n t.size t.size ok on x1 y1 t t x w w2.heap.size (Lib.hid hR) HA HB HT HC HI ht _ (k1_of (b2.alloc b2.size _).drew (heap_alloc_new w2 _)))
    rintro a U ⟨rfl, hU⟩
    have hUB := hU.1
    clear hU b2 HA HB HT HC HI HO
    go_wp2
    go_ret
    exact ⟨rfl, hUB⟩
  · have e2 : min (s.size : Int) 300 = 300 := by omega
    have ets : s.extract 0 300 = t := by rw [htt, show min s.size 300 = 300 by omega]
    have h300 : (300 : Int) ≤ s.size := by omega
    clear htt
    go_enter Tryd.func7, Tryd.ntmps7
    go_wp2_with fail
    refine (awake_any _ ht).mono ?_
    rintro e w1 ⟨rfl, b1⟩
    go_wp2_with fail
    refine (HO.out _).mono ?_
    rintro e w2 ⟨rfl, hb⟩
    have b2 : Below w.heap.size w w2 := thr b1 hb b1.size
    clear hb b1
    go_wp2_with fail
    refine cutQ (fin_reads n s.size 300 ok on x1 y1 s t x w w2.heap.size) ?_ (fun hR => reg_reads _ (fun _ _ _ _ _ h => h) n s.size 300 ok on x1 y1 s t x w w2.heap.size (Lib.hid hR) HA HB HT HC HI ht _ (k1_of (b2.alloc b2.size _).drew (heap_alloc_new w2 _)))
    rintro a U ⟨rfl, hU⟩
    have hUB := hU.1
    clear hU b2 HA HB HT HC HI HO
    go_wp2
    go_ret
    exact ⟨rfl, hUB⟩
end Go.Proofs.YtokpmpmlbmpnmaaDoor
