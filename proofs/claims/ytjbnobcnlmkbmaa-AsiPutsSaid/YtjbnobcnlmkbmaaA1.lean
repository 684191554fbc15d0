/-
  The signs and words of package asi and of its reference at this translation.
-/
import Derived.Test.YtjbnobcnlmkbmaaShelf
import Derived.Test.YtjbnobcnlmkbmaaRows
import Derived.WalkKit
import Derived.Lib.Hide
import Derived.Below
import Derived.Handy
namespace Go.Proofs.Ytjbnobcnlmkbmaa
open Go.RowKit

def sgnB (kd : Int) (s : ByteArray) (x : List UInt8) : Bool := (kd == 5) && (s.toList == x)
def mayB (kd : Int) (s : ByteArray) (l : Bool) : Bool := l || ((kd == 0) || sgnB kd s [125])
def wordB (u : ByteArray) : Bool := (u.toList == [114, 101, 116, 117, 114, 110]) || ((u.toList == [98, 114, 101, 97, 107]) || ((u.toList == [99, 111, 110, 116, 105, 110, 117, 101]) || ((u.toList == [116, 104, 114, 111, 119]) || (u.toList == [121, 105, 101, 108, 100]))))
def threeB (s : ByteArray) : Bool := (s.toList == [43, 43]) || ((s.toList == [45, 45]) || (s.toList == [61, 62]))
def barsB (u : ByteArray) (kd : Int) (s : ByteArray) (l : Bool) : Bool := l && (wordB u || ((kd == 5) && threeB s))
theorem ba_ext {s t : ByteArray} (h : s.toList = t.toList) : s = t := by
  rw [ByteArray.toList_eq, ByteArray.toList_eq] at h
  obtain ⟨d⟩ := s
  obtain ⟨e⟩ := t
  have : d = e := by
    apply Array.ext'
    exact h
  rw [this]
theorem has_any (zs : List ByteArray) (u : ByteArray) : Lib.containsS zs u = zs.any fun z => u.toList == z.toList := by
  rw [Bool.eq_iff_iff, Lib.containsS_iff, List.any_eq_true]
  constructor
  · intro h
    exact ⟨u, h, by simp⟩
  · rintro ⟨z, hz, he⟩
    have : u = z := ba_ext (by simpa using he)
    rw [this]
    exact hz

set_option maxRecDepth 100000 in
theorem among_any (zs : List ByteArray) (b c : Nat) (u : ByteArray) (w : World) (hz : zs.length ≤ 100) (hc : ∀ j, j < zs.length → w.cell? ⟨b, 0 + j, none⟩ = some (.string (zs.getD j ByteArray.empty))) :
    Calls Try.prog 22 #[.string u, .slice (some ⟨b, 0, none⟩) zs.length c] w fun e w' => e = .returned (.bool (Lib.containsS zs u)) ∧ w = w' := by
  have H := Lib.hid (Try.slices_Contains_string b 0 zs.length c zs u w (Nat.le_refl _) (by omega) hc)
  rw [List.take_of_length_le (Nat.le_refl _)] at H
  generalize Lib.containsS zs u = r at H ⊢
  clear hc
  go_enter Try.func22, Try.ntmps22
  go_wp2_with fail
  refine H.out.mono ?_
  rintro e w' ⟨rfl, rfl⟩
  go_wp2
  go_ret
  exact ⟨rfl, rfl⟩

set_option maxRecDepth 100000 in
theorem sign_any (kd a to n : Int) (s : ByteArray) (l o : Bool) (x : ByteArray) (w : World) :
    Calls Try.prog 21 #[.agg #[.int .i64 kd, .int .i64 a, .int .i64 to, .int .i64 n, .string s, .bool l, .bool o], .string x] w fun e w' => e = .returned (.bool (sgnB kd s x.toList)) ∧ Below w.heap.size w w' := by
  by_cases hk : kd = 5
  · have h5 : (kd == 5) = true := by simpa using hk
    cases hs : (s.toList == x.toList) with
    | true =>
      have e : sgnB kd s x.toList = true := by unfold sgnB; rw [h5, hs]; rfl
      rw [e]
      clear e hk
      go_enter Try.func21, Try.ntmps21
      go_wp2
      go_ret
      exact ⟨rfl, by go_grown⟩
    | false =>
      have e : sgnB kd s x.toList = false := by unfold sgnB; rw [h5, hs]; rfl
      rw [e]
      clear e hk
      go_enter Try.func21, Try.ntmps21
      go_wp2
      go_ret
      exact ⟨rfl, by go_grown⟩
  · have h5 : (kd == 5) = false := by simpa using hk
    have e : sgnB kd s x.toList = false := by unfold sgnB; rw [h5]; rfl
    rw [e]
    clear e hk
    go_enter Try.func21, Try.ntmps21
    go_wp2
    go_ret
    exact ⟨rfl, by go_grown⟩

set_option maxRecDepth 100000 in
theorem isSign_any (kd a to n : Int) (s : ByteArray) (l o : Bool) (zs : List ByteArray) (b c : Nat) (w : World) (hz : zs.length ≤ 100) (hc : ∀ j, j < zs.length → w.cell? ⟨b, 0 + j, none⟩ = some (.string (zs.getD j ByteArray.empty))) (hb : b < w.heap.size) :
    Calls Try.prog 20 #[.agg #[.int .i64 kd, .int .i64 a, .int .i64 to, .int .i64 n, .string s, .bool l, .bool o], .slice (some ⟨b, 0, none⟩) zs.length c] w fun e w' => e = .returned (.bool ((kd == 5) && Lib.containsS zs s)) ∧ Below w.heap.size w w' := by
  have H := Lib.hid (fun (W : World) (hB : Below w.heap.size w W) => among_any zs b c s W hz (fun j hj => (hB.cell (p := ⟨b, 0 + j, none⟩) hb).trans (hc j hj)))
  clear hc
  by_cases hk : kd = 5
  · have h5 : (kd == 5) = true := by simpa using hk
    rw [h5, Bool.true_and]
    generalize Lib.containsS zs s = r at H ⊢
    generalize zs.length = z at H ⊢
    clear hk
    go_enter Try.func20, Try.ntmps20
    go_wp2_with fail
    refine (H.out _ ((Below.refl _ _).alloc (Nat.le_refl _) _)).mono ?_
    rintro e w' ⟨rfl, rfl⟩
    go_wp2
    go_ret
    exact ⟨rfl, by go_grown⟩
  · have h5 : (kd == 5) = false := by simpa using hk
    rw [h5, Bool.false_and]
    clear hk
    go_enter Try.func20, Try.ntmps20
    go_wp2
    go_ret
    exact ⟨rfl, by go_grown⟩
end Go.Proofs.Ytjbnobcnlmkbmaa
