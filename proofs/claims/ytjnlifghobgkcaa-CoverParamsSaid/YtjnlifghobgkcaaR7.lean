/-
  array of the reference at this translation: the whole.
-/
import Derived.Test.YtjnlifghobgkcaaR6
namespace Go.Proofs.Ytjnlifghobgkcaa
open Go.RowKit

theorem first_cnt (t : Tr) : (firstT t).cnt ≤ t.cnt := by
  cases hk : t.ks with
  | nil => rw [first_none hk]; exact cnt_pos t
  | cons x r =>
    have hx : t.ks[0]? = some x := by rw [hk]; rfl
    rw [first_one hx]
    exact Nat.le_of_lt (cnt_kid hx)
theorem patF_last (N : Nat) (t : Tr) (d : Nat) (l : Bool) : patF N t d l = patF N t d true := by cases N <;> rfl
theorem ele_last (N : Nat) (t : Tr) (d : Nat) (l : Bool) : eleG (patF N) t d l = eleG (patF N) t d true := by
  show (if t.op ≠ 46 then patF N t d l else _) = (if t.op ≠ 46 then patF N t d true else _)
  rw [patF_last N t d l]
theorem item_elem {t : Tr} (h1 : ¬ t.op = 41) (h0 : ¬ t.op = 40) (N d : Nat) (l : Bool) : itemG (patF N) t d l = withinV (eleG (patF N)) t d true := by
  unfold itemG
  rw [if_neg h0]
  unfold withinV lisG
  rw [if_pos h1, ele_last]
theorem array_any {N : Nat} (hE : EleAt N) (hN : N ≤ 100000) (tl y : Tr) (lo : Option Addr) (lc i d B : Nat) (w : World) (hB : B ≤ w.heap.size) (ht : TIn w (fun b => b < B) tl (.slice lo tl.ks.length lc)) (hy : tl.ks[i]? = some y) (hyc : y.cnt ≤ N) (hlen : tl.ks.length ≤ 100000) (hd : d ≤ 900) :
    Calls Try.prog 28 #[.slice lo tl.ks.length lc, .int .i64 i, .int .i64 d] w (QPost w (Sha B w) (itemG (patF N) y d (decide (i + 1 = tl.ks.length)))) := by
  obtain ⟨bb, oo, yo, yl, yc, rfl, hbb, hbS, hcc, hyt⟩ := kidS ht hy
  obtain rfl := tin_len hyt
  have hi : i < tl.ks.length := (List.getElem?_eq_some_iff.1 hy).1
  by_cases h41 : y.op = 41
  · rw [rest_item h41]
    refine array_rest bb oo _ lc i y yo yc d B w hB hbb hcc hyt hlen hi hd (by simpa using h41) (firstT y) (Lib.hid fun W hW => first_any _ y yo yc W (ks_le hyc hN) (tin_kept hyt hW)) _ (Lib.hid fun W fo fl fc hW hf => ?_)
    obtain rfl := tin_len hf
    have hz := hW.size
    exact rest_any hE bb oo _ lc i y.a (firstT y) fo fc y.ks.length d B false W (by omega) (by omega) ((hW.cell (p := ⟨bb, oo + i * 6 + 1, none⟩) hbb).trans hcc.2.1) (Nat.le_trans (first_cnt y) hyc) hf hlen hi (ks_le hyc hN) hd
  · have g41 : (y.op == 41) = false := by simpa using h41
    by_cases h40 : y.op = 40
    · have : itemG (patF N) y d (decide (i + 1 = tl.ks.length)) = .ok y := by unfold itemG; rw [if_pos h40]
      rw [this]
      exact array_hole bb oo _ lc i y yo yc d B w hB hbb hcc hyt hlen hi hd g41 (by simpa using h40)
    · rw [item_elem h41 h40]
      exact array_elem bb oo _ lc i y yo yc d B w hB hbb hcc hyt hlen hi hd g41 (by simpa using h40) _ (Lib.hid fun W hW => hE y yo yc d true B W hyc (by omega) (Nat.le_trans hB hW.size) (tin_kept hyt hW))
end Go.Proofs.Ytjnlifghobgkcaa
