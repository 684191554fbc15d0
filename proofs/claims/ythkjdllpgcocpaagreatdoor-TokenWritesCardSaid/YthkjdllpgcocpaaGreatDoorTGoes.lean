/-
  goes of the laws of package token at this translation: it answers true, and the world has at most new blocks.
-/
import Derived.Test.YthkjdllpgcocpaaGreatDoorTAll
import Derived.Test.YthkjdllpgcocpaaGreatDoorTNext2

namespace Go.Proofs.YthkjdllpgcocpaaGreatDoor
open Go.RowKit

def gs1 : ByteArray := ⟨#[97, 63, 46, 53]⟩
def gs2 : ByteArray := ⟨#[96, 97, 36, 123, 32, 123, 125, 32, 125, 98, 96]⟩
def gR1 : List NT := [⟨1, 0, 1, 0, ⟨#[97]⟩, false, false, 0, 0⟩, ⟨5, 1, 2, 0, ⟨#[63]⟩, false, false, 0, 0⟩, ⟨5, 2, 3, 0, ⟨#[46]⟩, false, false, 0, 0⟩, ⟨3, 3, 4, 5, ⟨#[]⟩, false, false, 0, 0⟩, ⟨0, 4, 4, 0, ⟨#[]⟩, false, false, 0, 0⟩]
def gR2 : List NT := [⟨6, 0, 4, 0, ⟨#[97]⟩, false, true, 0, 0⟩, ⟨5, 5, 6, 0, ⟨#[123]⟩, false, false, 0, 0⟩, ⟨5, 6, 7, 0, ⟨#[125]⟩, false, false, 0, 0⟩, ⟨6, 8, 11, 1, ⟨#[98]⟩, false, false, 0, 0⟩, ⟨0, 11, 11, 0, ⟨#[]⟩, false, false, 0, 0⟩]
set_option maxRecDepth 100000 in
theorem g_all1 : allV ⟨#[97, 63, 46, 53]⟩ 10 0 [] [] = some (gR1, 0, 0) := by kernel_rfl
set_option maxRecDepth 100000 in
theorem g_all2 : allV ⟨#[96, 97, 36, 123, 32, 123, 125, 32, 125, 98, 96]⟩ 10 0 [] [] = some (gR2, 0, 0) := by kernel_rfl
theorem g_nx1 : nxT ⟨#[32, 48, 120, 49, 70]⟩ 0 false = ⟨3, 1, 5, 31, ⟨#[]⟩, false, false, 0, 0⟩ := by kernel_rfl
theorem g_nx2 : nxT ⟨#[48, 49]⟩ 0 false = noN 0 22 := by kernel_rfl
theorem tok_row {w : World} {B : Nat} {v : Value} {l : List NT} (h : TokAt w B v l) (hl : ¬ l.length = 0) :
    ∃ g cap, v = .slice (some ⟨g, 0, none⟩) l.length cap ∧ l.length ≤ cap ∧ cap ≤ maxLen ∧ g < w.heap.size ∧ ∀ j u, (l.flatMap tkC)[j]? = some u → w.cell? ⟨g, j, none⟩ = some u := by
  rcases h.2 with ⟨_, h2⟩ | ⟨g, cap, cur, rfl, hb, hg, hn, hm, hs, ht⟩
  · exact absurd h2 hl
  · refine ⟨g, cap, rfl, hn, hm, t_lt hg, fun j u hu => ?_⟩
    have hu' := hu
    rw [← ht, List.getElem?_take] at hu'
    split at hu'
    · exact (Lib.cell_of_heap hg j).trans (by simpa using hu')
    · cases hu'

set_option linter.unusedVariables false in
set_option maxRecDepth 100000 in
set_option maxHeartbeats 4000000 in
theorem goes_any (w : World) (ht : SgnT w) (hm : MaxL w) : Calls Tryz.prog 6 #[] w fun e w' => e = .returned (.bool true) ∧ Below w.heap.size w w' := by
  have H1 := Lib.hid (fun (W : World) (hB : Below w.heap.size w W) => All_any ⟨#[97, 63, 46, 53]⟩ 10 (gR1, 0, 0) W (by decide) g_all1 (sgnt_grown ht hB) (maxl_grown hm hB))
  have H2 := Lib.hid (fun (W : World) (hB : Below w.heap.size w W) => All_any ⟨#[96, 97, 36, 123, 32, 123, 125, 32, 125, 98, 96]⟩ 10 (gR2, 0, 0) W (by decide) g_all2 (sgnt_grown ht hB) (maxl_grown hm hB))
  have H3 := Lib.hid (fun (W : World) (hB : Below w.heap.size w W) => Next_any ⟨#[32, 48, 120, 49, 70]⟩ 0 false W (sgnt_grown ht hB) (maxl_grown hm hB))
  have H4 := Lib.hid (fun (W : World) (hB : Below w.heap.size w W) => Next_any ⟨#[48, 49]⟩ 0 false W (sgnt_grown ht hB) (maxl_grown hm hB))
  rw [g_nx1] at H3
  rw [g_nx2] at H4
  unfold ntR2 at H3 H4
  unfold noN at H4
  simp only at H3 H4
  clear ht hm
  go_enter Tryz.func6, Tryz.ntmps6
  go_wp2_with fail
  refine (H1.out _ (Below.refl _ _)).mono ?_
  rintro e w1 ⟨v1, rfl, ht1, b1⟩
  clear H1
  go_wp2_with fail
  refine (H2.out _ b1).mono ?_
  rintro e w2 ⟨v2, rfl, ht2, hb⟩
  clear H2
  have ht1' := tok_kept ht1 hb
  have b2 : Below w.heap.size w w2 := t_thr b1 hb b1.size
  clear ht1 b1 hb
  go_wp2_with fail
  refine (H3.out _ b2).mono ?_
  rintro e w3 ⟨rfl, hb⟩
  clear H3
  have ht1 := tok_kept ht1' hb
  have ht2' := tok_kept ht2 hb
  have b3 : Below w.heap.size w w3 := t_thr b2 hb b2.size
  clear ht1' ht2 b2 hb
  go_wp2_with fail
  refine (H4.out _ (b3.alloc b3.size _)).mono ?_
  rintro e w4 ⟨rfl, hb⟩
  clear H4
  have ht1' := tok_kept (World.ownsRow.alloc ht1 _) hb
  have ht2 := tok_kept (World.ownsRow.alloc ht2' _) hb
  have h7 := t_kept hb (by simp) (heap_alloc_new w3 _)
  have b4 : Below w.heap.size w w4 := t_thr (b3.alloc b3.size _) hb (by simp; have := b3.size; omega)
  clear ht1 ht2' b3 hb
  have HA := Lib.hid ht1'
  have HB := Lib.hid ht2
  have H7 := Lib.hid h7
  have H8 := Lib.hid b4
  clear ht1' ht2 h7 b4
  go_upto_region 5 with fail
  obtain ⟨W5, hW5⟩ : ∃ W5, W5 = w4.alloc (.cells #[.int .i64 0, .int .i64 0, .int .i64 0, .int .i64 0, .string ⟨#[]⟩, .bool false, .bool false] 27) := ⟨_, rfl⟩
  have b5 : Below w.heap.size w W5 := by rw [hW5]; exact H8.out.alloc H8.out.size _
  have ht1 : TokAt W5 w.heap.size v1 gR1 := by rw [hW5]; exact World.ownsRow.alloc HA.out _
  have ht2 : TokAt W5 w1.heap.size v2 gR2 := by rw [hW5]; exact World.ownsRow.alloc HB.out _
  have h7 : W5.heap[w3.heap.size]? = some (.cells #[.int .i64 3, .int .i64 1, .int .i64 5, .int .i64 31, .string ⟨#[]⟩, .bool false, .bool false] 27 (0, 0)) := by rw [hW5]; exact (heap_alloc_old w4 _ (t_lt H7.out)).trans H7.out
  rw [← hW5]
  clear hW5 HA HB H7 H8
  obtain ⟨g1, c1, hv1, hn1, hm1, hl1, hc1⟩ := tok_row ht1 (by decide)
  obtain ⟨g2, c2, hv2, hn2, hm2, hl2, hc2⟩ := tok_row ht2 (by decide)
  replace hv1 : v1 = .slice (some ⟨g1, 0, none⟩) 5 c1 := hv1
  replace hv2 : v2 = .slice (some ⟨g2, 0, none⟩) 5 c2 := hv2
  replace hn1 : 5 ≤ c1 := hn1
  replace hn2 : 5 ≤ c2 := hn2
  have x1 := hc1 11 (.string ⟨#[63]⟩) rfl
  have x2 := hc1 15 (.int .i64 2) rfl
  have y1 := hc2 6 (.bool true) rfl
  have y2 := hc2 4 (.string ⟨#[97]⟩) rfl
  have y3 := hc2 24 (.int .i64 1) rfl
  have y4 := hc2 25 (.string ⟨#[98]⟩) rfl
  obtain ⟨⟨r0, r1, r2, r3, r4, r5, r6⟩, _, _⟩ := t_seven h7
  unfold maxLen at hm1 hm2
  have HB := Lib.hid b5
  clear hc1 hc2 ht1 ht2 h7 b5
  subst hv1 hv2
  go_wp2
  go_ret
  exact ⟨rfl, HB.out⟩
end Go.Proofs.YthkjdllpgcocpaaGreatDoor
