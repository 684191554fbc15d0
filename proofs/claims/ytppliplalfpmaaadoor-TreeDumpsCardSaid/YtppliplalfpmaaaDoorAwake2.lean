/-
  awake of the laws: the example holds.
-/
import Derived.Test.YtppliplalfpmaaaDoorAwake
namespace Go.Proofs.YtppliplalfpmaaaDoor
open Go.RowKit

theorem itoa1 : Lib.itoa 1 = [49] := by
  unfold Lib.itoa
  rw [if_neg (by decide)]
  exact dd_one 1 (by decide)
theorem head_nu : headV nuT = [78, 117, 109, 32, 49] := by
  show nmOf 30 ++ (if (1 : Int) = 0 then [] else 32 :: Lib.itoa 1) ++ [] ++ [] = _
  rw [itoa1]
  decide
theorem dmp_sum : dmp sumT = [40, 66, 105, 110, 97, 114, 121, 32, 61, 37, 50, 66, 32, 40, 78, 97, 109, 101, 32, 61, 120, 41, 32, 40, 78, 117, 109, 32, 49, 41, 41] := by
  have h1 : dmp nuT = 40 :: (headV nuT ++ [41]) := rfl
  have h2 : dmp sumT = 40 :: (headV sumT ++ ((32 :: (dmp nmT ++ (32 :: (dmp nuT ++ [])))) ++ [41])) := rfl
  have h3 : dmp nmT = [40, 78, 97, 109, 101, 32, 61, 120, 41] := by decide
  have h4 : headV sumT = [66, 105, 110, 97, 114, 121, 32, 61, 37, 50, 66] := by decide
  rw [h2, h1, head_nu, h3, h4]
  rfl
theorem sum_nums : sumT.nums := by
  refine ⟨⟨?_, ?_, ?_⟩, ⟨⟨?_, ?_, ?_⟩, trivial⟩, ⟨⟨?_, ?_, ?_⟩, trivial⟩, trivial⟩
  all_goals (unfold i64B; omega)
theorem nm64 : (⟨(nmOf 64).toArray⟩ : ByteArray) = ⟨#[82, 101, 115, 116]⟩ := by
  have : nmOf 64 = [82, 101, 115, 116] := by decide
  rw [this]
theorem dmp_sum2 : (⟨(dmp sumT).toArray⟩ : ByteArray) = ⟨#[40, 66, 105, 110, 97, 114, 121, 32, 61, 37, 50, 66, 32, 40, 78, 97, 109, 101, 32, 61, 120, 41, 32, 40, 78, 117, 109, 32, 49, 41, 41]⟩ := by rw [dmp_sum]
set_option linter.unusedVariables false in
set_option maxRecDepth 100000 in
set_option maxHeartbeats 2000000 in
theorem awake_any (w : World) (h4 : 4 ≤ w.heap.size) (hNm : NamT w) (hTb : Tab w) : Calls Tryd.prog 6 #[] w (RB true w) := by
  have HN := Lib.hid (And.intro h4 (And.intro hNm hTb))
  clear h4 hNm hTb
  go_enter Tryd.func6, Tryd.ntmps6
  go_wp2_with fail
  refine (sum_any _).mono ?_
  rintro e w1 ⟨b, rfl, ht1, hb1⟩
  obtain ⟨W2, hW2⟩ : ∃ W2, W2 = w1.alloc (.cells #[.int .i64 44, .int .i64 0, .int .i64 0, .int .i64 0, .string ⟨#[43]⟩, .slice (some ⟨b, 0, none⟩) 2 2] 24) := ⟨_, rfl⟩
  have hb2 : Below w1.heap.size w1 W2 := by rw [hW2]; exact c_box w1 _
  have hx2 : W2.heap[w1.heap.size]? = some (.cells #[.int .i64 44, .int .i64 0, .int .i64 0, .int .i64 0, .string ⟨#[43]⟩, .slice (some ⟨b, 0, none⟩) 2 2] 24 (0, 0)) := by rw [hW2]; exact heap_alloc_new w1 _
  have HB2 := Lib.hid (c_thr hb1 hb2 hb1.size)
  have HT := Lib.hid (tin_kept ht1 hb2)
  have HX := Lib.hid (And.intro hx2 (c_lt hx2))
  have HW2 := Lib.hid hW2
  obtain ⟨⟨b0, b1, b2, b3, b4, b5⟩, -, hxl⟩ := c_six hx2
  clear hb1 hb2 hx2 ht1 hW2 hxl
  go_upto_region 2 with fail
  rw [← HW2.out]
  have HK2 := Lib.hid (Below.refl W2.heap.size W2)
  have h42 : 4 ≤ W2.heap.size := Nat.le_trans HN.out.1 HB2.out.size
  have HD := Lib.hid (Dump_any 3 sumT (some ⟨b, 0, none⟩) 2 W2 (by decide) (by omega) sum_nums HT.out (by rw [dmp_sum]; simp) h42 (namt_grown HN.out.2.1 (namt_lt HN.out.2.1) HB2.out) (tab_keep HN.out.2.2 (Nat.lt_of_lt_of_le (by decide) HN.out.1) HB2.out))
  rw [dmp_sum2] at HD
  clear h42
  go_wp2_with fail
  refine HD.out.mono ?_
  rintro e w3 ⟨rfl, hb3⟩
  clear HD
  have hb3' := c_thr HB2.out hb3 HB2.out.size
  have HB3 := Lib.hid hb3'
  have hk3 := HK2.out.trans (hb3.mono HK2.out.size)
  have HK3 := Lib.hid hk3
  have hx3 := (hk3.block _ HX.out.2).trans HX.out.1
  clear hb3 hb3' hk3 b0 b1 b2 b3 b4 b5
  obtain ⟨⟨b0, b1, b2, b3, b4, b5⟩, -, hxl⟩ := c_six hx3
  clear hxl hx3
  go_wp2_with fail
  refine (size_any 3 (by omega) sumT (some ⟨b, 0, none⟩) 2 _ (by decide) (tin_kept HT.out HK3.out)).mono ?_
  rintro e w4 ⟨rfl, hb4⟩
  have hcn : sumT.cnt = 3 := by decide
  rw [hcn]
  clear hcn
  have hb4' := c_thr HB3.out hb4 HB3.out.size
  have HB4 := Lib.hid hb4'
  have hk4 := HK3.out.trans (hb4.mono HK3.out.size)
  have HK4 := Lib.hid hk4
  have hx4 := (hk4.block _ HX.out.2).trans HX.out.1
  clear hb4 hb4' hk4 b0 b1 b2 b3 b4 b5
  obtain ⟨⟨b0, b1, b2, b3, b4, b5⟩, -, hxl⟩ := c_six hx4
  clear hxl hx4
  go_wp2_with fail
  refine (depth_any 3 (by omega) sumT (some ⟨b, 0, none⟩) 2 _ (by decide) (tin_kept HT.out HK4.out)).mono ?_
  rintro e w5 ⟨rfl, hb5⟩
  have hcn : sumT.dep = 2 := by decide
  rw [hcn]
  clear hcn
  have hb5' := c_thr HB4.out hb5 HB4.out.size
  have HB5 := Lib.hid hb5'
  have hk5 := HK4.out.trans (hb5.mono HK4.out.size)
  have HK5 := Lib.hid hk5
  have hx5 := (hk5.block _ HX.out.2).trans HX.out.1
  clear hb5 hb5' hk5 b0 b1 b2 b3 b4 b5
  obtain ⟨⟨b0, b1, b2, b3, b4, b5⟩, -, hxl⟩ := c_six hx5
  clear hxl hx5
  go_wp2_with fail
  refine (Right_ex (some ⟨b, 0, none⟩) 2 _ (tin_kept HT.out HK5.out)).mono ?_
  rintro e w6 ⟨rfl, hb6⟩
  have hb6' := c_thr HB5.out hb6 HB5.out.size
  have HB6 := Lib.hid hb6'
  have hk6 := HK5.out.trans (hb6.mono HK5.out.size)
  have HK6 := Lib.hid hk6
  have hx6 := (hk6.block _ HX.out.2).trans HX.out.1
  clear hb6 hb6' hk6 b0 b1 b2 b3 b4 b5
  obtain ⟨⟨b0, b1, b2, b3, b4, b5⟩, -, hxl⟩ := c_six hx6
  clear hxl hx6
  go_wp2_with fail
  refine (name_any 64 _ (namt_grown HN.out.2.1 (namt_lt HN.out.2.1) HB6.out)).mono ?_
  rintro e w7 ⟨rfl, rfl⟩
  rw [nm64]
  go_wp2
  go_ret
  exact ⟨rfl, HB6.out⟩
end Go.Proofs.YtppliplalfpmaaaDoor
