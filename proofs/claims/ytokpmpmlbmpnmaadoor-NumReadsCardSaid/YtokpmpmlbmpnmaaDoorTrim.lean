/-
  What the cutting loops of the reference's Read leave, as lists: the same as Trim of the library.
-/
import Derived.Test.YtokpmpmlbmpnmaaDoorCount
import Derived.Test.YtokpmpmlbmpnmaaDoorRead
import Derived.Test.YtokpmpmlbmpnmaaDoorIs
namespace Go.Proofs.YtokpmpmlbmpnmaaDoor
open Go.RowKit

def blU (b : UInt8) : Bool := blB (b.toNat : Int)
def ltr (l : List UInt8) : List UInt8 := l.dropWhile blU
def rtr (l : List UInt8) : List UInt8 := (l.reverse.dropWhile blU).reverse
theorem bl_all : ((List.range 256).all fun n => blU (UInt8.ofNat n) == ([9, 10, 13, 32] : List UInt8).contains (UInt8.ofNat n)) = true := by kernel_rfl
theorem bl_eq (b : UInt8) : blU b = ([9, 10, 13, 32] : List UInt8).contains b := by
  have h := List.all_eq_true.1 bl_all b.toNat (List.mem_range.2 b.toNat_lt)
  rw [beq_iff_eq, UInt8.ofNat_toNat] at h
  exact h
theorem rtr_cons (x : UInt8) (l : List UInt8) : rtr (x :: l) = if (rtr l).isEmpty && blU x then [] else x :: rtr l := by
  unfold rtr
  rw [List.reverse_cons, List.dropWhile_append]
  cases h : (l.reverse.dropWhile blU) with
  | nil => cases hx : blU x <;> simp [hx]
  | cons y ys => simp
theorem rtr_ltr : ∀ l : List UInt8, rtr (ltr l) = ltr (rtr l)
  | [] => rfl
  | x :: l => by
    cases hx : blU x with
    | true =>
      have e1 : ltr (x :: l) = ltr l := by unfold ltr; rw [List.dropWhile_cons, if_pos hx]
      rw [e1, rtr_ltr l, rtr_cons, hx, Bool.and_true]
      cases h : rtr l with
      | nil => rfl
      | cons y ys =>
        show ltr (y :: ys) = ltr (x :: y :: ys)
        unfold ltr
        rw [List.dropWhile_cons (x := x), if_pos hx]
    | false =>
      have e1 : ltr (x :: l) = x :: l := by unfold ltr; rw [List.dropWhile_cons, if_neg (by simp [hx])]
      rw [e1, rtr_cons, hx, Bool.and_false]
      show x :: rtr l = ltr (x :: rtr l)
      unfold ltr
      rw [List.dropWhile_cons, if_neg (by simp [hx])]
theorem tr_eq (l : List UInt8) : Lib.trimS l [9, 10, 13, 32] = rtr (ltr l) := by
  have e : (fun b => ([9, 10, 13, 32] : List UInt8).contains b) = blU := by funext b; exact (bl_eq b).symm
  unfold Lib.trimS Lib.trimLeftS Lib.trimRightS
  rw [rtr_ltr]
  unfold ltr rtr
  rw [e]
theorem ltr_yes {x : UInt8} {l : List UInt8} (h : blU x = true) : ltr (x :: l) = ltr l := by unfold ltr; rw [List.dropWhile_cons, if_pos h]
theorem ltr_no {x : UInt8} {l : List UInt8} (h : blU x = false) : ltr (x :: l) = x :: l := by unfold ltr; rw [List.dropWhile_cons, if_neg (by simp [h])]
theorem rtr_yes {x : UInt8} {l : List UInt8} (h : blU x = true) : rtr (l ++ [x]) = rtr l := by unfold rtr; rw [List.reverse_append]; simp [h]
theorem rtr_no {x : UInt8} {l : List UInt8} (h : blU x = false) : rtr (l ++ [x]) = l ++ [x] := by unfold rtr; rw [List.reverse_append]; simp [h]
theorem last_at (u : ByteArray) (h : 0 < u.size) : u.data.toList = u.data.toList.take (u.size - 1) ++ [u[u.size - 1]] := by
  have h1 : u.data.toList.length = u.size := by simp
  have h2 : u.data.toList.take (u.size - 1 + 1) = u.data.toList := by rw [List.take_of_length_le]; omega
  rw [List.take_add_one, List.getElem?_eq_getElem (by omega)] at h2
  refine h2.symm.trans ?_
  simp [ByteArray.getElem_eq_getElem_data]
theorem pre_end (t : ByteArray) (k : Nat) : (t.extract 0 k).data.toList = t.data.toList.take k := by
  rw [Lib.extract_data]
  simp
def szOf : Value → Nat
  | .string u => u.size
  | _ => 0
end Go.Proofs.YtokpmpmlbmpnmaaDoor
