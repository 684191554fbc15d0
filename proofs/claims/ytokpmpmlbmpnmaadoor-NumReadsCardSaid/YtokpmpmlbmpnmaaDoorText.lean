/-
  Text of package num at this translation, and what the table of powers still is behind a call.
-/
import Derived.Test.YtokpmpmlbmpnmaaDoorArith
import Derived.Test.YtokpmpmlbmpnmaaDoorShelf
import Derived.Lib.ItoaMem
namespace Go.Proofs.YtokpmpmlbmpnmaaDoor
open Go.RowKit

def Tab (w : World) : Prop := Lib.TabIs Tryd.prog w "internal/strconv.uint64pow10" .u64 Lib.pow10Tab
theorem tab_grown {w w' : World} (h : Tab w) (hb : Below w.heap.size w w') : Tab w' := by
  unfold Tab Lib.TabIs World.var? at h ⊢
  cases hg : Tryd.prog.globalNamed "internal/strconv.uint64pow10" with
  | none => rw [hg] at h; cases h
  | some g =>
    rw [hg] at h
    have hl : g < w.heap.size := by
      rcases Nat.lt_or_ge g w.heap.size with h' | h'
      · exact h'
      · simp [Array.getElem?_eq_none h'] at h
    simp only [Option.bind_some] at h ⊢
    rw [hb.block g hl]
    exact h
theorem heap_old (w : World) (k : Nat) (os : Array Obj) (j : Nat) (h : j < w.heap.size) : (Sort.grow (w.drewN k) os).heap[j]? = w.heap[j]? := by
  show (w.heap ++ os)[j]? = w.heap[j]?
  rw [Array.getElem?_append_left h]
theorem itoa_any (n : Int) (h0 : -9223372036854775808 ≤ n) (h1 : n ≤ 9223372036854775807) (w : World) (ht : Tab w) : Calls Tryd.prog 31 #[.int .i64 n] w fun e w' => e = .returned (.string ⟨(Lib.itoa n).toArray⟩) ∧ Below w.heap.size w w' :=
  (Tryd.strconv_Itoa n h0 h1 w ht).mono fun e w' ⟨h, k, os, hk⟩ => ⟨h, by
    subst hk
    exact ⟨rfl, rfl, rfl, by show w.heap.size ≤ (w.heap ++ os).size; rw [Array.size_append]; omega, fun j hj => heap_old w k os j hj⟩⟩
def txV (k n : Int) (s : ByteArray) : ByteArray := if whK k n s = true then ⟨(Lib.itoa n).toArray⟩ else ⟨#[78, 97, 78]⟩

set_option maxHeartbeats 1000000 in
theorem text_any (k n : Int) (s : ByteArray) (w : World) (ht : Tab w) : Calls Tryd.prog 14 #[.agg #[.int .i64 k, .int .i64 n, .string s]] w fun e w' => e = .returned (.string (txV k n s)) ∧ Below w.heap.size w w' := by
  have P := fun W => whole_any k n s W
  have hb := whN_b k n s
  unfold txV
  cases hw : whK k n s with
  | false =>
    rw [hw] at P
    rw [if_neg (by simp)]
    have HP := Lib.hid P
    clear P hb hw
    go_enter Tryd.func14, Tryd.ntmps14
    go_wp2_with fail
    refine (HP.out _).mono ?_
    rintro e w1 ⟨rfl, hb⟩
    have h1 : Below w.heap.size w w1 := thr (bel1 w _) hb (by simp)
    go_wp2
    go_ret
    exact ⟨rfl, h1⟩
  | true =>
    rw [hw] at P
    rw [if_pos rfl]
    have e : whN k n s = n := by unfold whN; rw [if_pos hw]
    rw [e] at P hb
    have HP := Lib.hid P
    clear P hw e
    have I := fun (W : World) (h : Tab W) => itoa_any n (by omega) (by omega) W h
    have HI := Lib.hid I
    clear I
    go_enter Tryd.func14, Tryd.ntmps14
    go_wp2_with fail
    refine (HP.out _).mono ?_
    rintro e w1 ⟨rfl, hb⟩
    have h1 : Below w.heap.size w w1 := thr (bel1 w _) hb (by simp)
    go_wp2_with fail
    refine (HI.out _ (tab_grown ht h1)).mono ?_
    rintro e w2 ⟨rfl, hc⟩
    have h2 : Below w.heap.size w w2 := thr h1 hc (by have := h1.size; omega)
    go_wp2
    go_ret
    exact ⟨rfl, h2⟩
end Go.Proofs.YtokpmpmlbmpnmaaDoor
