/-
  Target and pattern of the reference at this translation.
-/
import Derived.Test.YtjnlifghobgkcaaC17
namespace Go.Proofs.Ytjnlifghobgkcaa
open Go.RowKit

set_option linter.unusedVariables false in
set_option maxRecDepth 100000 in
set_option maxHeartbeats 1000000 in
theorem rtarget_any (t : Tr) (ao : Option Addr) (len cap : Nat) (w : World) : Calls Try.prog 15 #[.agg #[.int .i64 t.op, .int .i64 t.a, .int .i64 t.n, .int .i64 t.m, .string t.s, .slice ao len cap]] w (BPost w (tgtB t)) := by
  obtain ⟨W1, hW1⟩ : ∃ W1, W1 = w.alloc (.cells #[.int .i64 t.op, .int .i64 t.a, .int .i64 t.n, .int .i64 t.m, .string t.s, .slice ao len cap] 27) := ⟨_, rfl⟩
  have hB1 : Below w.heap.size w W1 := by rw [hW1]; exact c_box w _
  have hbox : W1.heap[w.heap.size]? = some (.cells #[.int .i64 t.op, .int .i64 t.a, .int .i64 t.n, .int .i64 t.m, .string t.s, .slice ao len cap] 27 (0, 0)) := by rw [hW1]; exact heap_alloc_new w _
  have HW := Lib.hid hW1
  have HX := Lib.hid (And.intro hB1 hbox)
  obtain ⟨⟨b0, b1, b2, b3, b4, b5⟩, -, hxl⟩ := c_six hbox
  clear hW1 hB1 hbox
  unfold tgtB memB
  cases h1 : (t.op == 34)
  · cases h2 : (t.op == 51)
    · cases h3 : (t.op == 52)
      · go_enter Try.func15, Try.ntmps15
        go_upto_region 1 with fail
        rw [← HW.out]
        go_wp2
        go_ret
        exact ⟨rfl, HX.out.1⟩
      · cases h4 : (t.n == 0)
        all_goals
          go_enter Try.func15, Try.ntmps15
          go_upto_region 1 with fail
          rw [← HW.out]
          go_wp2
          go_ret
          exact ⟨rfl, HX.out.1⟩
    · cases h4 : (t.n == 0)
      all_goals
        go_enter Try.func15, Try.ntmps15
        go_upto_region 1 with fail
        rw [← HW.out]
        go_wp2
        go_ret
        exact ⟨rfl, HX.out.1⟩
  · go_enter Try.func15, Try.ntmps15
    go_upto_region 1 with fail
    rw [← HW.out]
    go_wp2
    go_ret
    exact ⟨rfl, HX.out.1⟩
set_option linter.unusedVariables false in
set_option maxRecDepth 100000 in
set_option maxHeartbeats 1000000 in
theorem rpattern_any (t : Tr) (ao : Option Addr) (len cap : Nat) (w : World) : Calls Try.prog 39 #[.agg #[.int .i64 t.op, .int .i64 t.a, .int .i64 t.n, .int .i64 t.m, .string t.s, .slice ao len cap]] w (BPost w (patB t)) := by
  obtain ⟨W1, hW1⟩ : ∃ W1, W1 = w.alloc (.cells #[.int .i64 t.op, .int .i64 t.a, .int .i64 t.n, .int .i64 t.m, .string t.s, .slice ao len cap] 27) := ⟨_, rfl⟩
  have hB1 : Below w.heap.size w W1 := by rw [hW1]; exact c_box w _
  have hbox : W1.heap[w.heap.size]? = some (.cells #[.int .i64 t.op, .int .i64 t.a, .int .i64 t.n, .int .i64 t.m, .string t.s, .slice ao len cap] 27 (0, 0)) := by rw [hW1]; exact heap_alloc_new w _
  have HW := Lib.hid hW1
  have HX := Lib.hid (And.intro hB1 hbox)
  obtain ⟨⟨b0, b1, b2, b3, b4, b5⟩, -, hxl⟩ := c_six hbox
  clear hW1 hB1 hbox
  have HT := Lib.hid (fun W => rtarget_any t ao len cap W)
  unfold patB
  obtain ⟨c, hc⟩ : ∃ c, c = tgtB t := ⟨_, rfl⟩
  rw [← hc] at HT ⊢
  clear hc
  cases c
  · cases h2 : (t.op == 60)
    · cases h3 : (t.op == 61)
      all_goals
        go_enter Try.func39, Try.ntmps39
        go_upto_region 1 with fail
        rw [← HW.out]
        go_wp2_with fail
        refine (HT.out _).mono ?_
        rintro e w2 ⟨rfl, hB2⟩
        obtain ⟨⟨c0, c1, c2, c3, c4, c5⟩, -, hcl⟩ := c_six (c_kept hB2 (c_lt HX.out.2) HX.out.2)
        have HB2 := Lib.hid (c_thr HX.out.1 hB2 HX.out.1.size)
        clear hB2 b0 b1 b2 b3 b4 b5
        go_wp2
        go_ret
        exact ⟨rfl, HB2.out⟩
    · go_enter Try.func39, Try.ntmps39
      go_upto_region 1 with fail
      rw [← HW.out]
      go_wp2_with fail
      refine (HT.out _).mono ?_
      rintro e w2 ⟨rfl, hB2⟩
      obtain ⟨⟨c0, c1, c2, c3, c4, c5⟩, -, hcl⟩ := c_six (c_kept hB2 (c_lt HX.out.2) HX.out.2)
      have HB2 := Lib.hid (c_thr HX.out.1 hB2 HX.out.1.size)
      clear hB2 b0 b1 b2 b3 b4 b5
      go_wp2
      go_ret
      exact ⟨rfl, HB2.out⟩
  · go_enter Try.func39, Try.ntmps39
    go_upto_region 1 with fail
    rw [← HW.out]
    go_wp2_with fail
    refine (HT.out _).mono ?_
    rintro e w2 ⟨rfl, hB2⟩
    have HB2 := Lib.hid (c_thr HX.out.1 hB2 HX.out.1.size)
    clear hB2 b0 b1 b2 b3 b4 b5
    go_wp2
    go_ret
    exact ⟨rfl, HB2.out⟩
end Go.Proofs.Ytjnlifghobgkcaa
