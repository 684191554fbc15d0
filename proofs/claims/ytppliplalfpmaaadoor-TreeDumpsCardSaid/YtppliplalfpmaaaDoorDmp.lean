/-
  What Dump of a tree is, as a list of bytes: names of kinds, numbers in decimal, texts in which every other byte is escaped.
-/
import Derived.Test.YtppliplalfpmaaaDoorDep
import Derived.WalkSpells
import Derived.WalkLawsBesides
import Derived.Shelf.Strconv.Itoa4
namespace Go.Proofs.YtppliplalfpmaaaDoor
open Go.RowKit

def nmL : List (List UInt8) := [[], [80, 114, 111, 103, 114, 97, 109], [86, 97, 114], [68, 101, 99, 108], [70, 117, 110, 99], [80, 97, 114, 97, 109, 115], [66, 108, 111, 99, 107], [69, 109, 112, 116, 121], [69, 120, 112, 114], [73, 102], [70, 111, 114], [70, 111, 114, 73, 110], [70, 111, 114, 79, 102], [87, 104, 105, 108, 101], [68, 111], [66, 114, 101, 97, 107], [67, 111, 110, 116, 105, 110, 117, 101], [82, 101, 116, 117, 114, 110], [84, 104, 114, 111, 119], [84, 114, 121], [67, 97, 116, 99, 104], [83, 119, 105, 116, 99, 104], [67, 97, 115, 101], [76, 97, 98, 101, 108], [], [], [], [], [], [], [78, 117, 109], [84, 101, 120, 116], [66, 111, 111, 108], [78, 117, 108, 108], [78, 97, 109, 101], [84, 104, 105, 115], [84, 101, 109, 112, 108, 97, 116, 101], [65, 114, 114, 97, 121], [79, 98, 106, 101, 99, 116], [80, 114, 111, 112], [72, 111, 108, 101], [83, 112, 114, 101, 97, 100], [85, 110, 97, 114, 121], [85, 112, 100, 97, 116, 101], [66, 105, 110, 97, 114, 121], [76, 111, 103, 105, 99], [65, 115, 115, 105, 103, 110], [67, 111, 110, 100], [83, 101, 113], [67, 97, 108, 108], [78, 101, 119], [68, 111, 116], [73, 110, 100, 101, 120], [67, 104, 97, 105, 110], [89, 105, 101, 108, 100], [], [], [], [], [], [65, 114, 114, 80, 97, 116], [79, 98, 106, 80, 97, 116], [80, 97, 116, 80, 114, 111, 112], [68, 101, 102, 97, 117, 108, 116], [82, 101, 115, 116]]
def nmC : Array Value := #[.string ⟨#[]⟩, .string ⟨#[80, 114, 111, 103, 114, 97, 109]⟩, .string ⟨#[86, 97, 114]⟩, .string ⟨#[68, 101, 99, 108]⟩, .string ⟨#[70, 117, 110, 99]⟩, .string ⟨#[80, 97, 114, 97, 109, 115]⟩, .string ⟨#[66, 108, 111, 99, 107]⟩, .string ⟨#[69, 109, 112, 116, 121]⟩, .string ⟨#[69, 120, 112, 114]⟩, .string ⟨#[73, 102]⟩, .string ⟨#[70, 111, 114]⟩, .string ⟨#[70, 111, 114, 73, 110]⟩, .string ⟨#[70, 111, 114, 79, 102]⟩, .string ⟨#[87, 104, 105, 108, 101]⟩, .string ⟨#[68, 111]⟩, .string ⟨#[66, 114, 101, 97, 107]⟩, .string ⟨#[67, 111, 110, 116, 105, 110, 117, 101]⟩, .string ⟨#[82, 101, 116, 117, 114, 110]⟩, .string ⟨#[84, 104, 114, 111, 119]⟩, .string ⟨#[84, 114, 121]⟩, .string ⟨#[67, 97, 116, 99, 104]⟩, .string ⟨#[83, 119, 105, 116, 99, 104]⟩, .string ⟨#[67, 97, 115, 101]⟩, .string ⟨#[76, 97, 98, 101, 108]⟩, .string ⟨#[]⟩, .string ⟨#[]⟩, .string ⟨#[]⟩, .string ⟨#[]⟩, .string ⟨#[]⟩, .string ⟨#[]⟩, .string ⟨#[78, 117, 109]⟩, .string ⟨#[84, 101, 120, 116]⟩, .string ⟨#[66, 111, 111, 108]⟩, .string ⟨#[78, 117, 108, 108]⟩, .string ⟨#[78, 97, 109, 101]⟩, .string ⟨#[84, 104, 105, 115]⟩, .string ⟨#[84, 101, 109, 112, 108, 97, 116, 101]⟩, .string ⟨#[65, 114, 114, 97, 121]⟩, .string ⟨#[79, 98, 106, 101, 99, 116]⟩, .string ⟨#[80, 114, 111, 112]⟩, .string ⟨#[72, 111, 108, 101]⟩, .string ⟨#[83, 112, 114, 101, 97, 100]⟩, .string ⟨#[85, 110, 97, 114, 121]⟩, .string ⟨#[85, 112, 100, 97, 116, 101]⟩, .string ⟨#[66, 105, 110, 97, 114, 121]⟩, .string ⟨#[76, 111, 103, 105, 99]⟩, .string ⟨#[65, 115, 115, 105, 103, 110]⟩, .string ⟨#[67, 111, 110, 100]⟩, .string ⟨#[83, 101, 113]⟩, .string ⟨#[67, 97, 108, 108]⟩, .string ⟨#[78, 101, 119]⟩, .string ⟨#[68, 111, 116]⟩, .string ⟨#[73, 110, 100, 101, 120]⟩, .string ⟨#[67, 104, 97, 105, 110]⟩, .string ⟨#[89, 105, 101, 108, 100]⟩, .string ⟨#[]⟩, .string ⟨#[]⟩, .string ⟨#[]⟩, .string ⟨#[]⟩, .string ⟨#[]⟩, .string ⟨#[65, 114, 114, 80, 97, 116]⟩, .string ⟨#[79, 98, 106, 80, 97, 116]⟩, .string ⟨#[80, 97, 116, 80, 114, 111, 112]⟩, .string ⟨#[68, 101, 102, 97, 117, 108, 116]⟩, .string ⟨#[82, 101, 115, 116]⟩]
def nmOf (op : Int) : List UInt8 := if 0 ≤ op ∧ op < 65 then nmL.getD op.toNat [] else []
def letB (c : Int) : Bool := decide ((97 ≤ c ∧ c ≤ 122) ∨ (65 ≤ c ∧ c ≤ 90) ∨ c = 95 ∨ c = 36)
def digB (c : Int) : Bool := decide (48 ≤ c ∧ c ≤ 57)
def hexB (k : Nat) : UInt8 := if k < 10 then UInt8.ofNat (48 + k) else UInt8.ofNat (55 + k)
def encB (c : UInt8) : List UInt8 := if letB c.toNat || digB c.toNat then [c] else [37, hexB (c.toNat / 16), hexB (c.toNat % 16)]
def encL (l : List UInt8) : List UInt8 := l.flatMap encB
def headV (t : Tr) : List UInt8 := (if nmOf t.op = [] then 63 :: Lib.itoa t.op else nmOf t.op) ++ (if t.n = 0 then [] else 32 :: Lib.itoa t.n) ++ (if t.m = 0 then [] else 32 :: 77 :: Lib.itoa t.m) ++ (if t.s.size = 0 then [] else 32 :: 61 :: encL t.s.data.toList)
mutual
def dmp : Tr → List UInt8 | .mk o a n m s ks => 40 :: (headV (.mk o a n m s ks) ++ (dmpL ks ++ [41]))
def dmpL : List Tr → List UInt8 | [] => [] | t :: r => 32 :: (dmp t ++ dmpL r)
end
theorem dmp_eq (t : Tr) : dmp t = 40 :: (headV t ++ (dmpL t.ks ++ [41])) := by cases t; rfl
theorem dmpL_app : ∀ (l r : List Tr), dmpL (l ++ r) = dmpL l ++ dmpL r
  | [], r => rfl
  | t :: l, r => by simp only [List.cons_append, dmpL, dmpL_app l r, List.append_assoc]
theorem dmpL_take {l : List Tr} {k : Nat} {x : Tr} (h : l[k]? = some x) : dmpL (l.take (k + 1)) = dmpL (l.take k) ++ (32 :: dmp x) := by
  have e : l.take (k + 1) = l.take k ++ [x] := by
    rw [List.take_add_one, h]
    rfl
  rw [e, dmpL_app]
  simp [dmpL]
theorem encL_take {l : List UInt8} {k : Nat} {x : UInt8} (h : l[k]? = some x) : encL (l.take (k + 1)) = encL (l.take k) ++ encB x := by
  have e : l.take (k + 1) = l.take k ++ [x] := by
    rw [List.take_add_one, h]
    rfl
  rw [e]
  simp [encL]
theorem encB_len (c : UInt8) : (encB c).length ≤ 3 ∧ 1 ≤ (encB c).length := by unfold encB; split <;> simp
theorem encL_len : ∀ (l : List UInt8), (encL l).length ≤ 3 * l.length ∧ l.length ≤ (encL l).length
  | [] => by simp [encL]
  | c :: r => by
    have h := encB_len c
    have ih := encL_len r
    unfold encL at ih ⊢
    simp only [List.flatMap_cons, List.length_append, List.length_cons]
    omega
theorem encL_pre (l : List UInt8) (k : Nat) : (encL (l.take k)).length ≤ (encL l).length := by
  have h : encL l = encL (l.take k) ++ encL (l.drop k) := by
    unfold encL
    rw [← List.flatMap_append, List.take_append_drop]
  rw [h, List.length_append]
  omega
theorem nm_len (op : Int) : (nmOf op).length ≤ 8 := by
  unfold nmOf
  split
  · rename_i h
    have h2 : op.toNat < 65 := by omega
    have key : ∀ k, k < 65 → (nmL.getD k []).length ≤ 8 := by decide
    exact key _ h2
  · simp

def NamT (w : World) : Prop := w.heap[0]? = some (.cells nmC 53 (0, 0))
theorem namt_grown {w w' : World} {B : Nat} (h : NamT w) (hB : 0 < B) (hb : Below B w w') : NamT w' := c_kept hb hB h
theorem namt_lt {w : World} (h : NamT w) : 0 < w.heap.size := c_lt h
def Tab (w : World) : Prop := Lib.TabIs Tryd.prog w "internal/strconv.uint64pow10" .u64 Lib.pow10Tab

theorem ret_b {a b : Bool} (h : a = b) : Ending.returned (.bool a) = .returned (.bool b) := by rw [h]
set_option maxHeartbeats 400000 in
theorem isLetter_any (c : Int) (w : World) (h0 : 0 ≤ c) (h1 : c ≤ 255) :
    Calls Tryd.prog 62 #[.int .u8 c] w fun e w' => e = .returned (.bool (letB c)) ∧ w = w' := by
  go_enter Tryd.func62, Tryd.ntmps62
  go_wp2
  all_goals
    go_ret
    exact ⟨ret_b (by unfold letB; rw [Bool.eq_iff_iff]; simp <;> omega), rfl⟩
set_option maxHeartbeats 400000 in
theorem isDigit_any (c : Int) (w : World) (h0 : 0 ≤ c) (h1 : c ≤ 255) :
    Calls Tryd.prog 63 #[.int .u8 c] w fun e w' => e = .returned (.bool (digB c)) ∧ w = w' := by
  go_enter Tryd.func63, Tryd.ntmps63
  go_wp2
  all_goals
    go_ret
    exact ⟨ret_b (by unfold digB; rw [Bool.eq_iff_iff]; simp <;> omega), rfl⟩
end Go.Proofs.YtppliplalfpmaaaDoor
