/-
  Params of package cover at this translation.
-/
import Derived.Test.YtadiicmcaaklmaaE3
namespace Go.Proofs.Ytadiicmcaaklmaa
open Go.RowKit

set_option linter.unusedVariables false in
set_option maxRecDepth 100000 in
set_option maxHeartbeats 4000000 in
theorem params_any (t : Tr) (ao : Option Addr) (cap : Nat) (w : World) (hc : t.cnt ≤ 40000) (ht : TIn w All t (.slice ao t.ks.length cap)) :
    Calls Try.prog 16 #[.agg #[.int .i64 t.op, .int .i64 t.a, .int .i64 t.n, .int .i64 t.m, .string t.s, .slice ao t.ks.length cap]] w (RPost w (Fresh w) (parsOf t)) := by
  obtain ⟨R, hR⟩ : ∃ R, R = parsOf t := ⟨_, rfl⟩
  obtain ⟨W3, hW3⟩ : ∃ W3, W3 = ((w.alloc (.cells #[.int .i64 t.op, .int .i64 t.a, .int .i64 t.n, .int .i64 t.m, .string t.s, .slice ao t.ks.length cap] 27)).alloc (.cells #[.int .i64 0, .int .i64 0, .int .i64 0, .int .i64 0, .string ⟨#[]⟩, .slice none 0 0] 27)).alloc (.cells #[.int .i64 t.op, .int .i64 t.a, .int .i64 t.n, .int .i64 t.m, .string t.s, .slice ao t.ks.length cap] 27) := ⟨_, rfl⟩
  have hB3 : Below w.heap.size w W3 := by rw [hW3]; exact c_box3 w _ _ _
  have hbox : W3.heap[w.heap.size]? = some (.cells #[.int .i64 t.op, .int .i64 t.a, .int .i64 t.n, .int .i64 t.m, .string t.s, .slice ao t.ks.length cap] 27 (0, 0)) := by rw [hW3]; exact (Below.heap_alloc _ _ _ (by simp; omega)).trans (c_new1 w _ _)
  have hres3 : W3.heap[w.heap.size + 1]? = some (.cells #[.int .i64 0, .int .i64 0, .int .i64 0, .int .i64 0, .string ⟨#[]⟩, .slice none 0 0] 27 (0, 0)) := by rw [hW3]; exact (Below.heap_alloc _ _ _ (by simp)).trans (c_new2 w _ _)
  have hlst : W3.heap[w.heap.size + 1 + 1]? = some (.cells #[.int .i64 t.op, .int .i64 t.a, .int .i64 t.n, .int .i64 t.m, .string t.s, .slice ao t.ks.length cap] 27 (0, 0)) := by rw [hW3]; exact c_new3 w _ _ _
  have hz : w.heap.size + 2 ≤ W3.heap.size := by rw [hW3]; simp
  have htW := tin_kept ht hB3
  have hone : TIn W3 All (.mk 0 0 0 0 noS [t]) (.slice (some ⟨w.heap.size + 1 + 1, 0, none⟩) 1 1) := by
    refine tin_close (t := .mk 0 0 0 0 noS [t]) (by simp [Tr.ks]) (by unfold maxLen; omega) (.inr ⟨w.heap.size + 1 + 1, 0, rfl, c_lt hlst, trivial, fun i z hi => ?_⟩)
    match i, hi with
    | 0, hi =>
      obtain rfl : t = z := by simpa [Tr.ks] using hi
      exact ⟨_, ncell_of hlst rfl rfl rfl rfl rfl rfl, htW⟩
    | i + 1, hi => simp [Tr.ks] at hi
  obtain ⟨⟨b0, b1, b2, b3, b4, b5⟩, -, hxl⟩ := c_six hbox
  have hks : t.ks.length ≤ 100000 := ks_le hc (by omega)
  have hcp := cnt_pos t
  have HW := Lib.hid hW3
  have HB3 := Lib.hid hB3
  have HRS := Lib.hid hres3
  have HZ := Lib.hid hz
  have HO := Lib.hid hone
  rw [← hR]
  clear hW3 hB3 hres3 hlst hz hone
  by_cases h7 : t.op = 7
  · have g7 : (t.op == 7) = true := by simpa using h7
    have HX := Lib.hid (made_any 27 #[] t.cnt (parH t.cnt) 5 t.a 0 (.mk 0 0 0 0 noS []) (none) (0) 1 200 W3 (by omega) (parameter_part W3 t.cnt hc) (by omega) (fun x hx => by simp [Tr.ks] at hx) (by simp [Tr.ks]) (by omega) (tin_none (Nat.zero_le _)))
    have HX2 : Hid (Calls Try.prog 26 #[.agg #[.int .i64 5, .int .i64 t.a, .int .i64 0, .int .i64 0, .string ⟨#[]⟩, .slice none 0 0], .slice (none) (0) (0), .int .i64 1, .func (.func 27) #[] #[]] W3 (RPost W3 (Fresh W3) R)) := by
      rw [hR]
      unfold parsOf parsL
      rw [if_pos h7]
      exact HX
    clear HX hR hc ht hbox htW h7
    cases R with
    | ok r =>
      show Calls Try.prog 16 _ w (OkPost w (Fresh w) r)
      go_enter Try.func16, Try.ntmps16
      go_upto_region 2 with fail
      rw [← HW.out]
      go_wp2_with fail
      refine HX2.out.mono ?_
      rintro e w1 ⟨yo, yl, yc, rfl, htin, hB⟩
      have hres := c_kept hB (c_lt HRS.out) HRS.out
      have hU : w.heap.size + 2 ≤ W3.heap.size := HZ.out
      have hW1 : Below w.heap.size w w1 := c_thr HB3.out hB HB3.out.size
      obtain ⟨⟨r0, r1, r2, r3, r4, r5⟩, ⟨q0, q1, q2, q3, q4, q5⟩, hr⟩ := c_six hres
      have HF := Lib.hid (And.intro htin (And.intro hU hW1))
      clear hres htin hB hU hW1
      go_wp2
      refine bodyPost_ret (v := .tuple #[.agg #[.int .i64 r.op, .int .i64 r.a, .int .i64 r.n, .int .i64 r.m, .string r.s, .slice yo yl yc], .int .i64 0]) (by simp [results, Try.results16, go_sem, r0, r1, r2, r3, r4, r5]) rfl ?_
      exact ⟨yo, yl, yc, rfl, fin_ok HF.out.1 HF.out.2.1 HF.out.2.2⟩
    | error x =>
      show Calls Try.prog 16 _ w (ErPost w x)
      go_enter Try.func16, Try.ntmps16
      go_upto_region 2 with fail
      rw [← HW.out]
      go_wp2_with fail
      refine HX2.out.mono ?_
      rintro e w1 ⟨hx, rfl, hB⟩
      have hres := c_kept hB (c_lt HRS.out) HRS.out
      have hW1 : Below w.heap.size w w1 := c_thr HB3.out hB HB3.out.size
      obtain ⟨⟨r0, r1, r2, r3, r4, r5⟩, ⟨q0, q1, q2, q3, q4, q5⟩, hr⟩ := c_six hres
      have HF := Lib.hid (And.intro hx hW1)
      clear hres hB hW1
      go_wp2
      refine bodyPost_ret (v := .tuple #[.agg #[.int .i64 0, .int .i64 0, .int .i64 0, .int .i64 0, .string ⟨#[]⟩, .slice none 0 0], .int .i64 x]) (by simp [results, Try.results16, go_sem, r0, r1, r2, r3, r4, r5]) rfl ?_
      exact ⟨HF.out.1, rfl, c_st6 HF.out.2 (by omega)⟩
  · have g7 : (t.op == 7) = false := by simpa using h7
    by_cases h48 : t.op = 48
    · have g48 : (t.op == 48) = true := by simpa using h48
      have HX := Lib.hid (made_any 27 #[] t.cnt (parH t.cnt) 5 t.a 0 (t) (ao) (cap) 1 200 W3 (by omega) (parameter_part W3 t.cnt hc) (by omega) (fun x hx => kid_le (Nat.le_refl _) hx) (hks) (by omega) (htW))
      have HX2 : Hid (Calls Try.prog 26 #[.agg #[.int .i64 5, .int .i64 t.a, .int .i64 0, .int .i64 0, .string ⟨#[]⟩, .slice none 0 0], .slice (ao) (t.ks.length) (cap), .int .i64 1, .func (.func 27) #[] #[]] W3 (RPost W3 (Fresh W3) R)) := by
        rw [hR]
        unfold parsOf parsL
        rw [if_neg h7]
        rw [if_pos h48]
        exact HX
      clear HX hR hc ht hbox htW h7 h48
      cases R with
      | ok r =>
        show Calls Try.prog 16 _ w (OkPost w (Fresh w) r)
        go_enter Try.func16, Try.ntmps16
        go_upto_region 2 with fail
        rw [← HW.out]
        go_wp2_with fail
        refine HX2.out.mono ?_
        rintro e w1 ⟨yo, yl, yc, rfl, htin, hB⟩
        have hres := c_kept hB (c_lt HRS.out) HRS.out
        have hU : w.heap.size + 2 ≤ W3.heap.size := HZ.out
        have hW1 : Below w.heap.size w w1 := c_thr HB3.out hB HB3.out.size
        obtain ⟨⟨r0, r1, r2, r3, r4, r5⟩, ⟨q0, q1, q2, q3, q4, q5⟩, hr⟩ := c_six hres
        have HF := Lib.hid (And.intro htin (And.intro hU hW1))
        clear hres htin hB hU hW1
        go_wp2
        refine bodyPost_ret (v := .tuple #[.agg #[.int .i64 r.op, .int .i64 r.a, .int .i64 r.n, .int .i64 r.m, .string r.s, .slice yo yl yc], .int .i64 0]) (by simp [results, Try.results16, go_sem, r0, r1, r2, r3, r4, r5]) rfl ?_
        exact ⟨yo, yl, yc, rfl, fin_ok HF.out.1 HF.out.2.1 HF.out.2.2⟩
      | error x =>
        show Calls Try.prog 16 _ w (ErPost w x)
        go_enter Try.func16, Try.ntmps16
        go_upto_region 2 with fail
        rw [← HW.out]
        go_wp2_with fail
        refine HX2.out.mono ?_
        rintro e w1 ⟨hx, rfl, hB⟩
        have hres := c_kept hB (c_lt HRS.out) HRS.out
        have hW1 : Below w.heap.size w w1 := c_thr HB3.out hB HB3.out.size
        obtain ⟨⟨r0, r1, r2, r3, r4, r5⟩, ⟨q0, q1, q2, q3, q4, q5⟩, hr⟩ := c_six hres
        have HF := Lib.hid (And.intro hx hW1)
        clear hres hB hW1
        go_wp2
        refine bodyPost_ret (v := .tuple #[.agg #[.int .i64 0, .int .i64 0, .int .i64 0, .int .i64 0, .string ⟨#[]⟩, .slice none 0 0], .int .i64 x]) (by simp [results, Try.results16, go_sem, r0, r1, r2, r3, r4, r5]) rfl ?_
        exact ⟨HF.out.1, rfl, c_st6 HF.out.2 (by omega)⟩
    · have g48 : (t.op == 48) = false := by simpa using h48
      have HX := Lib.hid (made_any 27 #[] t.cnt (parH t.cnt) 5 t.a 0 (.mk 0 0 0 0 noS [t]) (some ⟨w.heap.size + 1 + 1, 0, none⟩) (1) 1 200 W3 (by omega) (parameter_part W3 t.cnt hc) (by omega) (fun x hx => by simp [Tr.ks] at hx; rw [hx]; exact Nat.le_refl _) (by simp [Tr.ks]) (by omega) (HO.out))
      have HX2 : Hid (Calls Try.prog 26 #[.agg #[.int .i64 5, .int .i64 t.a, .int .i64 0, .int .i64 0, .string ⟨#[]⟩, .slice none 0 0], .slice (some ⟨w.heap.size + 1 + 1, 0, none⟩) (1) (1), .int .i64 1, .func (.func 27) #[] #[]] W3 (RPost W3 (Fresh W3) R)) := by
        rw [hR]
        unfold parsOf parsL
        rw [if_neg h7]
        rw [if_neg h48]
        exact HX
      clear HX hR hc ht hbox htW h7 h48
      cases R with
      | ok r =>
        show Calls Try.prog 16 _ w (OkPost w (Fresh w) r)
        go_enter Try.func16, Try.ntmps16
        go_upto_region 2 with fail
        rw [← HW.out]
        go_wp2_with fail
        refine HX2.out.mono ?_
        rintro e w1 ⟨yo, yl, yc, rfl, htin, hB⟩
        have hres := c_kept hB (c_lt HRS.out) HRS.out
        have hU : w.heap.size + 2 ≤ W3.heap.size := HZ.out
        have hW1 : Below w.heap.size w w1 := c_thr HB3.out hB HB3.out.size
        obtain ⟨⟨r0, r1, r2, r3, r4, r5⟩, ⟨q0, q1, q2, q3, q4, q5⟩, hr⟩ := c_six hres
        have HF := Lib.hid (And.intro htin (And.intro hU hW1))
        clear hres htin hB hU hW1
        go_wp2
        refine bodyPost_ret (v := .tuple #[.agg #[.int .i64 r.op, .int .i64 r.a, .int .i64 r.n, .int .i64 r.m, .string r.s, .slice yo yl yc], .int .i64 0]) (by simp [results, Try.results16, go_sem, r0, r1, r2, r3, r4, r5]) rfl ?_
        exact ⟨yo, yl, yc, rfl, fin_ok HF.out.1 HF.out.2.1 HF.out.2.2⟩
      | error x =>
        show Calls Try.prog 16 _ w (ErPost w x)
        go_enter Try.func16, Try.ntmps16
        go_upto_region 2 with fail
        rw [← HW.out]
        go_wp2_with fail
        refine HX2.out.mono ?_
        rintro e w1 ⟨hx, rfl, hB⟩
        have hres := c_kept hB (c_lt HRS.out) HRS.out
        have hW1 : Below w.heap.size w w1 := c_thr HB3.out hB HB3.out.size
        obtain ⟨⟨r0, r1, r2, r3, r4, r5⟩, ⟨q0, q1, q2, q3, q4, q5⟩, hr⟩ := c_six hres
        have HF := Lib.hid (And.intro hx hW1)
        clear hres hB hW1
        go_wp2
        refine bodyPost_ret (v := .tuple #[.agg #[.int .i64 0, .int .i64 0, .int .i64 0, .int .i64 0, .string ⟨#[]⟩, .slice none 0 0], .int .i64 x]) (by simp [results, Try.results16, go_sem, r0, r1, r2, r3, r4, r5]) rfl ?_
        exact ⟨HF.out.1, rfl, c_st6 HF.out.2 (by omega)⟩
end Go.Proofs.Ytadiicmcaaklmaa
