/-
  The statement CoverParams: the law answers true whatever the input, and its arguments read afterwards as they read before. No condition.
-/
import Derived.Test.YtjnlifghobgkcaaE3
import Derived.Test.YtjnlifghobgkcaaE1
import Derived.Test.YtjnlifghobgkcaaR19
import Derived.Test.YtjnlifghobgkcaaE0
import Derived.Test.YtjnlifghobgkcaaS3
import Derived.Test.YtjnlifghobgkcaaR17
import Derived.Test.YtjnlifghobgkcaaR20
import Derived.Test.YtjnlifghobgkcaaD4
import Derived.Test.YtjnlifghobgkcaaD1
import Derived.Test.YtjnlifghobgkcaaOpen
import Derived.WalkKit
import Derived.ProofKit
import Derived.OpenShut
import Derived.ShutString
import Derived.Below
namespace Go.Proofs.Ytjnlifghobgkcaa
open Go.RowKit

set_option linter.unusedVariables false in
set_option maxRecDepth 100000 in
set_option maxHeartbeats 4000000 in
theorem params_any (t : Tr) (ao : Option Addr) (cap : Nat) (w : World) (hc : t.cnt ≤ 40000) (ht : TIn w All t (.slice ao t.ks.length cap)) :
    Calls Try.prog 16 #[.agg #[.int .i64 t.op, .int .i64 t.a, .int .i64 t.n, .int .i64 t.m, .string t.s, .slice ao t.ks.length cap]] w (RPost w (Fresh w) (parsOf t)) := by
  obtain ⟨R, hR⟩ : ∃ R, R = parsOf t := ⟨_, rfl⟩
  obtain ⟨W3, hW3⟩ : ∃ W3, W3 = ((w.alloc (.cells #[.int .i64 t.op, .int .i64 t.a, .int .i64 t.n, .int .i64 t.m, .string t.s, .slice ao t.ks.length cap] 27)).alloc (.cells #[.int .i64 0, .int .i64 0, .int .i64 0, .int .i64 0, .string ⟨#[]⟩, .slice none 0 0] 27)).alloc (.cells #[.int .i64 t.op, .int .i64 t.a, .int .i64 t.n, .int .i64 t.m, .string t.s, .slice ao t.ks.length cap] 27) := ⟨_, rfl⟩
  have hB3 : Below w.heap.size w W3 := by rw [hW3]; exact c_box3 w _ _ _
  have hbox : W3.heap[w.heap.size]? = some (.cells #[.int .i64 t.op, .int .i64 t.a, .int .i64 t.n, .int .i64 t.m, .string t.s, .slice ao t.ks.length cap] 27 (0, 0)) := by rw [hW3]; exact (Below.heap_alloc _ _ _ (by simp; omega)).trans (c_new1 w _ _)
  have hres3 : W3.heap[w.heap.size + 1]? = some (.cells #[.int .i64 0, .int .i64 0, .int .i64 0, .int .i64 0, .string ⟨#[]⟩, .slice none 0 0] 27 (0, 0)) := by rw [hW3]; exact (Below.heap_alloc _ _ _ (by simp)).trans (c_new2 w _ _)
  have hlst : W3.heap[w.heap.size + 1 + 1]? = some (.cells #[.int .i64 t.op, .int .i64 t.a, .int .i64 t.n, .int .i64 t.m, .string t.s, .slice ao t.ks.length cap] 27 (0, 0)) := by rw [hW3]; exact c_new3 w _ _ _
  have hz : w.heap.size + 2 ≤ W3.heap.size := by rw [hW3]; simp
  have htW := tin_kept ht hB3
  have hone : TIn W3 All (.mk 0 0 0 0 noS [t]) (.slice (some ⟨w.heap.size + 1 + 1, 0, none⟩) 1 1) := by
    refine tin_close (t := .mk 0 0 0 0 noS [t]) (by simp [Tr.ks]) (by unfold maxLen; omega) (.inr ⟨w.heap.size + 1 + 1, 0, rfl, c_lt hlst, trivial, fun i z hi => ?_⟩)
    match i, hi with
    | 0, hi =>
      obtain rfl : t = z := by simpa [Tr.ks] using hi
      exact ⟨_, ncell_of hlst rfl rfl rfl rfl rfl rfl, htW⟩
    | i + 1, hi => simp [Tr.ks] at hi
  obtain ⟨⟨b0, b1, b2, b3, b4, b5⟩, -, hxl⟩ := c_six hbox
  have hks : t.ks.length ≤ 100000 := ks_le hc (by omega)
  have hcp := cnt_pos t
  have HW := Lib.hid hW3
  have HB3 := Lib.hid hB3
  have HRS := Lib.hid hres3
  have HZ := Lib.hid hz
  have HO := Lib.hid hone
  rw [← hR]
  clear hW3 hB3 hres3 hlst hz hone
  by_cases h7 : t.op = 7
  · have g7 : (t.op == 7) = true := by simpa using h7
    have HX := Lib.hid (made_any 27 #[] t.cnt (parH t.cnt) 5 t.a 0 (.mk 0 0 0 0 noS []) (none) (0) 1 200 W3 (by omega) (parameter_part W3 t.cnt hc) (by omega) (fun x hx => by simp [Tr.ks] at hx) (by simp [Tr.ks]) (by omega) (tin_none (Nat.zero_le _)))
    have HX2 : Hid (Calls Try.prog 26 #[.agg #[.int .i64 5, .int .i64 t.a, .int .i64 0, .int .i64 0, .string ⟨#[]⟩, .slice none 0 0], .slice (none) (0) (0), .int .i64 1, .func (.func 27) #[] #[]] W3 (RPost W3 (Fresh W3) R)) := by
      rw [hR]
      unfold parsOf parsL
      rw [if_pos h7]
      exact HX
    clear HX hR hc ht hbox htW h7
    cases R with
    | ok r =>
      show Calls Try.prog 16 _ w (OkPost w (Fresh w) r)
      go_enter Try.func16, Try.ntmps16
      go_upto_region 2 with fail
      rw [← HW.out]
      go_wp2_with fail
      refine HX2.out.mono ?_
      rintro e w1 ⟨yo, yl, yc, rfl, htin, hB⟩
      have hres := c_kept hB (c_lt HRS.out) HRS.out
      have hU : w.heap.size + 2 ≤ W3.heap.size := HZ.out
      have hW1 : Below w.heap.size w w1 := c_thr HB3.out hB HB3.out.size
      obtain ⟨⟨r0, r1, r2, r3, r4, r5⟩, ⟨q0, q1, q2, q3, q4, q5⟩, hr⟩ := c_six hres
      have HF := Lib.hid (And.intro htin (And.intro hU hW1))
      clear hres htin hB hU hW1
      go_wp2
      refine bodyPost_ret (v := .tuple #[.agg #[.int .i64 r.op, .int .i64 r.a, .int .i64 r.n, .int .i64 r.m, .string r.s, .slice yo yl yc], .int .i64 0]) (by simp [results, Try.results16, go_sem, r0, r1, r2, r3, r4, r5]) rfl ?_
      exact ⟨yo, yl, yc, rfl, fin_ok HF.out.1 HF.out.2.1 HF.out.2.2⟩
    | error x =>
      show Calls Try.prog 16 _ w (ErPost w x)
      go_enter Try.func16, Try.ntmps16
      go_upto_region 2 with fail
      rw [← HW.out]
      go_wp2_with fail
      refine HX2.out.mono ?_
      rintro e w1 ⟨hx, rfl, hB⟩
      have hres := c_kept hB (c_lt HRS.out) HRS.out
      have hW1 : Below w.heap.size w w1 := c_thr HB3.out hB HB3.out.size
      obtain ⟨⟨r0, r1, r2, r3, r4, r5⟩, ⟨q0, q1, q2, q3, q4, q5⟩, hr⟩ := c_six hres
      have HF := Lib.hid (And.intro hx hW1)
      clear hres hB hW1
      go_wp2
      refine bodyPost_ret (v := .tuple #[.agg #[.int .i64 0, .int .i64 0, .int .i64 0, .int .i64 0, .string ⟨#[]⟩, .slice none 0 0], .int .i64 x]) (by simp [results, Try.results16, go_sem, r0, r1, r2, r3, r4, r5]) rfl ?_
      exact ⟨HF.out.1, rfl, c_st6 HF.out.2 (by omega)⟩
  · have g7 : (t.op == 7) = false := by simpa using h7
    by_cases h48 : t.op = 48
    · have g48 : (t.op == 48) = true := by simpa using h48
      have HX := Lib.hid (made_any 27 #[] t.cnt (parH t.cnt) 5 t.a 0 (t) (ao) (cap) 1 200 W3 (by omega) (parameter_part W3 t.cnt hc) (by omega) (fun x hx => kid_le (Nat.le_refl _) hx) (hks) (by omega) (htW))
      have HX2 : Hid (Calls Try.prog 26 #[.agg #[.int .i64 5, .int .i64 t.a, .int .i64 0, .int .i64 0, .string ⟨#[]⟩, .slice none 0 0], .slice (ao) (t.ks.length) (cap), .int .i64 1, .func (.func 27) #[] #[]] W3 (RPost W3 (Fresh W3) R)) := by
        rw [hR]
        unfold parsOf parsL
        rw [if_neg h7]
        rw [if_pos h48]
        exact HX
      clear HX hR hc ht hbox htW h7 h48
      cases R with
      | ok r =>
        show Calls Try.prog 16 _ w (OkPost w (Fresh w) r)
        go_enter Try.func16, Try.ntmps16
        go_upto_region 2 with fail
        rw [← HW.out]
        go_wp2_with fail
        refine HX2.out.mono ?_
        rintro e w1 ⟨yo, yl, yc, rfl, htin, hB⟩
        have hres := c_kept hB (c_lt HRS.out) HRS.out
        have hU : w.heap.size + 2 ≤ W3.heap.size := HZ.out
        have hW1 : Below w.heap.size w w1 := c_thr HB3.out hB HB3.out.size
        obtain ⟨⟨r0, r1, r2, r3, r4, r5⟩, ⟨q0, q1, q2, q3, q4, q5⟩, hr⟩ := c_six hres
        have HF := Lib.hid (And.intro htin (And.intro hU hW1))
        clear hres htin hB hU hW1
        go_wp2
        refine bodyPost_ret (v := .tuple #[.agg #[.int .i64 r.op, .int .i64 r.a, .int .i64 r.n, .int .i64 r.m, .string r.s, .slice yo yl yc], .int .i64 0]) (by simp [results, Try.results16, go_sem, r0, r1, r2, r3, r4, r5]) rfl ?_
        exact ⟨yo, yl, yc, rfl, fin_ok HF.out.1 HF.out.2.1 HF.out.2.2⟩
      | error x =>
        show Calls Try.prog 16 _ w (ErPost w x)
        go_enter Try.func16, Try.ntmps16
        go_upto_region 2 with fail
        rw [← HW.out]
        go_wp2_with fail
        refine HX2.out.mono ?_
        rintro e w1 ⟨hx, rfl, hB⟩
        have hres := c_kept hB (c_lt HRS.out) HRS.out
        have hW1 : Below w.heap.size w w1 := c_thr HB3.out hB HB3.out.size
        obtain ⟨⟨r0, r1, r2, r3, r4, r5⟩, ⟨q0, q1, q2, q3, q4, q5⟩, hr⟩ := c_six hres
        have HF := Lib.hid (And.intro hx hW1)
        clear hres hB hW1
        go_wp2
        refine bodyPost_ret (v := .tuple #[.agg #[.int .i64 0, .int .i64 0, .int .i64 0, .int .i64 0, .string ⟨#[]⟩, .slice none 0 0], .int .i64 x]) (by simp [results, Try.results16, go_sem, r0, r1, r2, r3, r4, r5]) rfl ?_
        exact ⟨HF.out.1, rfl, c_st6 HF.out.2 (by omega)⟩
    · have g48 : (t.op == 48) = false := by simpa using h48
      have HX := Lib.hid (made_any 27 #[] t.cnt (parH t.cnt) 5 t.a 0 (.mk 0 0 0 0 noS [t]) (some ⟨w.heap.size + 1 + 1, 0, none⟩) (1) 1 200 W3 (by omega) (parameter_part W3 t.cnt hc) (by omega) (fun x hx => by simp [Tr.ks] at hx; rw [hx]; exact Nat.le_refl _) (by simp [Tr.ks]) (by omega) (HO.out))
      have HX2 : Hid (Calls Try.prog 26 #[.agg #[.int .i64 5, .int .i64 t.a, .int .i64 0, .int .i64 0, .string ⟨#[]⟩, .slice none 0 0], .slice (some ⟨w.heap.size + 1 + 1, 0, none⟩) (1) (1), .int .i64 1, .func (.func 27) #[] #[]] W3 (RPost W3 (Fresh W3) R)) := by
        rw [hR]
        unfold parsOf parsL
        rw [if_neg h7]
        rw [if_neg h48]
        exact HX
      clear HX hR hc ht hbox htW h7 h48
      cases R with
      | ok r =>
        show Calls Try.prog 16 _ w (OkPost w (Fresh w) r)
        go_enter Try.func16, Try.ntmps16
        go_upto_region 2 with fail
        rw [← HW.out]
        go_wp2_with fail
        refine HX2.out.mono ?_
        rintro e w1 ⟨yo, yl, yc, rfl, htin, hB⟩
        have hres := c_kept hB (c_lt HRS.out) HRS.out
        have hU : w.heap.size + 2 ≤ W3.heap.size := HZ.out
        have hW1 : Below w.heap.size w w1 := c_thr HB3.out hB HB3.out.size
        obtain ⟨⟨r0, r1, r2, r3, r4, r5⟩, ⟨q0, q1, q2, q3, q4, q5⟩, hr⟩ := c_six hres
        have HF := Lib.hid (And.intro htin (And.intro hU hW1))
        clear hres htin hB hU hW1
        go_wp2
        refine bodyPost_ret (v := .tuple #[.agg #[.int .i64 r.op, .int .i64 r.a, .int .i64 r.n, .int .i64 r.m, .string r.s, .slice yo yl yc], .int .i64 0]) (by simp [results, Try.results16, go_sem, r0, r1, r2, r3, r4, r5]) rfl ?_
        exact ⟨yo, yl, yc, rfl, fin_ok HF.out.1 HF.out.2.1 HF.out.2.2⟩
      | error x =>
        show Calls Try.prog 16 _ w (ErPost w x)
        go_enter Try.func16, Try.ntmps16
        go_upto_region 2 with fail
        rw [← HW.out]
        go_wp2_with fail
        refine HX2.out.mono ?_
        rintro e w1 ⟨hx, rfl, hB⟩
        have hres := c_kept hB (c_lt HRS.out) HRS.out
        have hW1 : Below w.heap.size w w1 := c_thr HB3.out hB HB3.out.size
        obtain ⟨⟨r0, r1, r2, r3, r4, r5⟩, ⟨q0, q1, q2, q3, q4, q5⟩, hr⟩ := c_six hres
        have HF := Lib.hid (And.intro hx hW1)
        clear hres hB hW1
        go_wp2
        refine bodyPost_ret (v := .tuple #[.agg #[.int .i64 0, .int .i64 0, .int .i64 0, .int .i64 0, .string ⟨#[]⟩, .slice none 0 0], .int .i64 x]) (by simp [results, Try.results16, go_sem, r0, r1, r2, r3, r4, r5]) rfl ?_
        exact ⟨HF.out.1, rfl, c_st6 HF.out.2 (by omega)⟩
end Go.Proofs.Ytjnlifghobgkcaa

namespace Go.Proofs.Ytjnlifghobgkcaa
open Go.RowKit

theorem ent30 : EntersF 30 := enters_of Try.func30 (by kernel_rfl) rfl
set_option linter.unusedVariables false in
set_option maxRecDepth 100000 in
set_option maxHeartbeats 1000000 in
theorem other_any (t : Tr) (ao : Option Addr) (cap : Nat) (w : World) : Calls Try.prog 30 #[.agg #[.int .i64 t.op, .int .i64 t.a, .int .i64 t.n, .int .i64 t.m, .string t.s, .slice ao t.ks.length cap]] w (BPost w (t.op != 34)) := by
  cases h1 : (t.op != 34)
  all_goals
    go_enter Try.func30, Try.ntmps30
    go_wp2
    go_ret
    exact ⟨rfl, c_box w _⟩
set_option linter.unusedVariables false in
set_option maxRecDepth 100000 in
set_option maxHeartbeats 1000000 in
theorem index30 (tl : List Tr) (so : Option Addr) (sc : Nat) (w : World) (P : Tr → Bool) (hlen : tl.length ≤ 100000) (ht : TIn w All (.mk 0 0 0 0 noS tl) (.slice so tl.length sc))
    (HI : Hid (∀ (x : Tr) (i : Nat), tl[i]? = some x → ∀ (ao : Option Addr) (cap : Nat) (W : World), TIn W All x (.slice ao x.ks.length cap) → Calls Try.prog 30 #[.agg #[.int .i64 x.op, .int .i64 x.a, .int .i64 x.n, .int .i64 x.m, .string x.s, .slice ao x.ks.length cap]] W (BPost W (P x)))) :
    Calls Try.prog 45 #[.slice so tl.length sc, .func (.func 30) #[] #[]] w (IPost w (tl.any P)) := by
  have hent := ent30
  unfold EntersF at hent
  have HT := Lib.hid ht
  obtain ⟨n, hn⟩ : ∃ n, n = tl.length := ⟨_, rfl⟩
  have HN := Lib.hid hn
  rw [← hn] at hlen HT ⊢
  have HV : Hid (RelI w tl P (.int .i64 0) w) := Lib.hid ⟨⟨0, rfl, Nat.zero_le _, by simp⟩, Below.refl _ _⟩
  clear ht hn
  go_enter Try.func45, Try.ntmps45
  go_wp2
  go_loopw [8] (fun i wr => RelI w tl P i wr) (fun i _ => n - (intOf i).toNat)
  case atStart => exact HV.out
  case round =>
    clear HV
    obtain ⟨⟨k, rfl, hk, hany⟩, hB⟩ := hrel
    rw [← HN.out] at hk
    by_cases hkn : k < n
    · have g1 : decide ((k : Int) < (n : Int)) = true := decide_eq_true (by omega)
      have k1 : (k : Int) < (n : Int) := by omega
      obtain ⟨y, hy⟩ : ∃ y, tl[k]? = some y := ⟨_, List.getElem?_eq_getElem (by rw [← HN.out]; exact hkn)⟩
      obtain ⟨bb, oo, xo, xl, xc, rfl, hbb, -, hcc, hyt⟩ := kidS HT.out (show (Tr.mk 0 0 0 0 noS tl).ks[k]? = some y from hy)
      obtain rfl := tin_len hyt
      have hbr : bb < wr.heap.size := Nat.lt_of_lt_of_le hbb hB.size
      obtain ⟨c0, c1, c2, c3, c4, c5⟩ := ncells_kept (hB.block bb hbb) hcc
      have HX := Lib.hid (HI.out y k hy xo xc wr (tin_kept hyt hB))
      have HR := Lib.hid (And.intro hany (And.intro hy hB))
      obtain ⟨c, hc⟩ : ∃ c, c = P y := ⟨_, rfl⟩
      rw [← hc] at HX
      have HC := Lib.hid hc
      clear hany hy hB hcc hyt hc
      go_wp2_with fail
      refine HX.out.mono ?_
      rintro e w4 ⟨rfl, hB4⟩
      have HB4 := Lib.hid (c_thr HR.out.2.2 hB4 HR.out.2.2.size)
      clear hB4 c0 c1 c2 c3 c4 c5
      cases c with
      | true =>
        go_wp2
        go_ret
        refine ⟨_, rfl, ?_, HB4.out⟩
        have h1 : tl.any P = true := List.any_eq_true.2 ⟨y, List.mem_of_getElem? HR.out.2.1, HC.out.symm⟩
        rw [h1]
        exact decide_eq_true (by omega)
      | false =>
        have HST : Hid (RelI w tl P (.int .i64 ((k : Int) + 1)) w4) := Lib.hid ⟨⟨k + 1, by simp, by rw [← HN.out]; exact hkn, by rw [List.take_add_one, HR.out.2.1, List.any_append, HR.out.1]; simp [← HC.out]⟩, HB4.out⟩
        go_wp2
        first
          | (go_roundw
             case rel => exact HST.out
             case measure => simp [intOf]; omega)
          | exact ⟨HST.out, by simp [intOf]; omega⟩
    · have g1 : decide ((k : Int) < (n : Int)) = false := decide_eq_false (by omega)
      have HR := Lib.hid (And.intro hany hB)
      have HK := Lib.hid hk
      clear hany hB hk
      go_wp2
      go_ret
      refine ⟨_, rfl, ?_, HR.out.2⟩
      have h1 := HR.out.1
      have hk := HK.out
      rw [List.take_of_length_le (by rw [← HN.out]; omega)] at h1
      rw [h1]
      decide
set_option linter.unusedVariables false in
set_option maxRecDepth 100000 in
set_option maxHeartbeats 1000000 in
theorem contains30 (tl : List Tr) (so : Option Addr) (sc : Nat) (w : World) (P : Tr → Bool) (hlen : tl.length ≤ 100000) (ht : TIn w All (.mk 0 0 0 0 noS tl) (.slice so tl.length sc))
    (HI : Hid (∀ (x : Tr) (i : Nat), tl[i]? = some x → ∀ (ao : Option Addr) (cap : Nat) (W : World), TIn W All x (.slice ao x.ks.length cap) → Calls Try.prog 30 #[.agg #[.int .i64 x.op, .int .i64 x.a, .int .i64 x.n, .int .i64 x.m, .string x.s, .slice ao x.ks.length cap]] W (BPost W (P x)))) :
    Calls Try.prog 31 #[.slice so tl.length sc, .func (.func 30) #[] #[]] w (BPost w (tl.any P)) := by
  have HX := Lib.hid (index30 tl so sc w P hlen ht HI)
  obtain ⟨c, hc⟩ : ∃ c, c = tl.any P := ⟨_, rfl⟩
  rw [← hc] at HX ⊢
  clear ht HI hc
  go_enter Try.func31, Try.ntmps31
  go_wp2_with fail
  refine HX.out.mono ?_
  rintro e w4 ⟨z, rfl, hz, hB4⟩
  have HB4 := Lib.hid hB4
  clear hB4
  go_wp2
  go_ret
  exact ⟨rfl, HB4.out⟩
theorem any_all (l : List Tr) : (!l.any (fun x => x.op != 34)) = l.all (fun x => x.op == 34) := by
  induction l with
  | nil => rfl
  | cons x r ih =>
    simp only [List.any_cons, List.all_cons, Bool.not_or, ih]
    cases h : (x.op == 34) <;> simp [bne, h]
set_option linter.unusedVariables false in
set_option maxRecDepth 100000 in
set_option maxHeartbeats 1000000 in
theorem simple_any (t : Tr) (ao : Option Addr) (cap : Nat) (w : World) (hks : t.ks.length ≤ 100000) (ht : TIn w All t (.slice ao t.ks.length cap)) : Calls Try.prog 18 #[.agg #[.int .i64 t.op, .int .i64 t.a, .int .i64 t.n, .int .i64 t.m, .string t.s, .slice ao t.ks.length cap]] w (BPost w (simpleB t)) := by
  obtain ⟨W1, hW1⟩ : ∃ W1, W1 = w.alloc (.cells #[.int .i64 t.op, .int .i64 t.a, .int .i64 t.n, .int .i64 t.m, .string t.s, .slice ao t.ks.length cap] 27) := ⟨_, rfl⟩
  have hB1 : Below w.heap.size w W1 := by rw [hW1]; exact c_box w _
  have hbox : W1.heap[w.heap.size]? = some (.cells #[.int .i64 t.op, .int .i64 t.a, .int .i64 t.n, .int .i64 t.m, .string t.s, .slice ao t.ks.length cap] 27 (0, 0)) := by rw [hW1]; exact heap_alloc_new w _
  have HW := Lib.hid hW1
  have HX := Lib.hid (And.intro hB1 hbox)
  have htW := tin_kept ht hB1
  obtain ⟨⟨b0, b1, b2, b3, b4, b5⟩, -, hxl⟩ := c_six hbox
  clear hW1 hB1 hbox ht
  unfold simpleB
  rw [← any_all]
  have HC := Lib.hid (contains30 t.ks ao cap W1 (fun x => x.op != 34) hks (tin_ks htW rfl) (Lib.hid (fun x i hx ao cap W hW => other_any x ao cap W)))
  obtain ⟨c, hc⟩ : ∃ c, c = t.ks.any (fun x => x.op != 34) := ⟨_, rfl⟩
  rw [← hc] at HC ⊢
  clear hc htW
  cases h5 : (t.op == 5)
  · go_enter Try.func18, Try.ntmps18
    go_upto_region 1 with fail
    rw [← HW.out]
    go_wp2
    go_ret
    exact ⟨rfl, HX.out.1⟩
  · go_enter Try.func18, Try.ntmps18
    go_upto_region 1 with fail
    rw [← HW.out]
    go_wp2_with fail
    refine HC.out.mono ?_
    rintro e w2 ⟨rfl, hB2⟩
    have HB2 := Lib.hid (c_thr HX.out.1 hB2 HX.out.1.size)
    clear hB2
    go_wp2
    go_ret
    exact ⟨rfl, HB2.out⟩
structure RelS (w : World) (tl : List Tr) (i : Value) (wr : World) : Prop where
  ex : ∃ k : Nat, i = .int .i64 k ∧ k ≤ tl.length ∧ (tl.take k).all (fun x => x.op == 34) = true
  bel : Below w.heap.size w wr
set_option linter.unusedVariables false in
set_option maxRecDepth 100000 in
set_option maxHeartbeats 1000000 in
theorem rsimple_any (t : Tr) (ao : Option Addr) (cap : Nat) (w : World) (hks : t.ks.length ≤ 100000) (ht : TIn w All t (.slice ao t.ks.length cap)) : Calls Try.prog 19 #[.agg #[.int .i64 t.op, .int .i64 t.a, .int .i64 t.n, .int .i64 t.m, .string t.s, .slice ao t.ks.length cap]] w (BPost w (simpleB t)) := by
  obtain ⟨W1, hW1⟩ : ∃ W1, W1 = w.alloc (.cells #[.int .i64 t.op, .int .i64 t.a, .int .i64 t.n, .int .i64 t.m, .string t.s, .slice ao t.ks.length cap] 27) := ⟨_, rfl⟩
  have hB1 : Below w.heap.size w W1 := by rw [hW1]; exact c_box w _
  have hbox : W1.heap[w.heap.size]? = some (.cells #[.int .i64 t.op, .int .i64 t.a, .int .i64 t.n, .int .i64 t.m, .string t.s, .slice ao t.ks.length cap] 27 (0, 0)) := by rw [hW1]; exact heap_alloc_new w _
  have HW := Lib.hid hW1
  have HX := Lib.hid (And.intro hB1 hbox)
  have htW := tin_kept ht hB1
  obtain ⟨⟨b0, b1, b2, b3, b4, b5⟩, -, hxl⟩ := c_six hbox
  clear hW1 hB1 hbox ht
  have HT := Lib.hid htW
  obtain ⟨n, hn⟩ : ∃ n, n = t.ks.length := ⟨_, rfl⟩
  have HN := Lib.hid hn
  rw [← hn] at hks HT HX HW b5 ⊢
  have HV : Hid (RelS W1 t.ks (.int .i64 0) W1) := Lib.hid ⟨⟨0, rfl, Nat.zero_le _, by simp⟩, Below.refl _ _⟩
  clear hn htW
  go_enter Try.func19, Try.ntmps19
  go_upto_region 1 with fail
  rw [← HW.out]
  go_wp2
  clear b0 b1 b2 b3 b4 b5
  go_loopw [3] (fun i wr => RelS W1 t.ks i wr) (fun i _ => n - (intOf i).toNat)
  case atStart => exact HV.out
  case round =>
    clear HV
    obtain ⟨⟨k, rfl, hk, hall⟩, hB⟩ := hrel
    rw [← HN.out] at hk
    obtain ⟨⟨b0, b1, b2, b3, b4, b5⟩, -, hbl⟩ := c_six (c_kept hB (c_lt HX.out.2) HX.out.2)
    by_cases hkn : k < n
    · have g1 : decide ((k : Int) < (n : Int)) = true := decide_eq_true (by omega)
      have k1 : (k : Int) < (n : Int) := by omega
      obtain ⟨y, hy⟩ : ∃ y, t.ks[k]? = some y := ⟨_, List.getElem?_eq_getElem (by rw [← HN.out]; exact hkn)⟩
      obtain ⟨bb, oo, xo, xl, xc, rfl, hbb, -, hcc, hyt⟩ := kidS HT.out hy
      have hbr : bb < wr.heap.size := Nat.lt_of_lt_of_le hbb hB.size
      obtain ⟨c0, c1, c2, c3, c4, c5⟩ := ncells_kept (hB.block bb hbb) hcc
      have HR := Lib.hid (And.intro hall (And.intro hy hB))
      clear hall hy hB hcc hyt
      cases h34 : (y.op != 34) with
      | true =>
        have hf : simpleB t = false := by
          unfold simpleB
          have h1 : t.ks.all (fun x => x.op == 34) = false := by
            rw [Bool.eq_false_iff]
            intro h
            have := List.all_eq_true.1 h y (List.mem_of_getElem? HR.out.2.1)
            simp at this
            simp [this] at h34
          rw [h1, Bool.and_false]
        rw [hf]
        go_wp2
        go_ret
        exact ⟨rfl, c_thr HX.out.1 HR.out.2.2 HX.out.1.size⟩
      | false =>
        have HST : Hid (RelS W1 t.ks (.int .i64 ((k : Int) + 1)) wr) := Lib.hid ⟨⟨k + 1, by simp, by rw [← HN.out]; exact hkn, by rw [List.take_add_one, HR.out.2.1, List.all_append, HR.out.1]; simpa using h34⟩, HR.out.2.2⟩
        go_wp2
        first
          | (go_roundw
             case rel => exact HST.out
             case measure => simp [intOf]; omega)
          | exact ⟨HST.out, by simp [intOf]; omega⟩
    · have g1 : decide ((k : Int) < (n : Int)) = false := decide_eq_false (by omega)
      have hf : simpleB t = (t.op == 5) := by
        unfold simpleB
        rw [List.take_of_length_le (by rw [← HN.out]; omega)] at hall
        rw [hall, Bool.and_true]
      have HF := Lib.hid hf
      have HB := Lib.hid hB
      clear hB hall hk hf
      cases h5 : (t.op == 5)
      all_goals
        go_wp2
        go_ret
        refine ⟨?_, c_thr HX.out.1 HB.out HX.out.1.size⟩
        rw [HF.out, h5]
        rfl
end Go.Proofs.Ytjnlifghobgkcaa

namespace Go.Proofs.Ytjnlifghobgkcaa
open Go.RowKit

theorem array_at {N : Nat} (hE : EleAt N) (hN : N ≤ 100000) (y : Tr) (bb oo len lc i : Nat) (yo : Option Addr) (yc d B : Nat) (w : World) (hB : B ≤ w.heap.size) (hbb : bb < w.heap.size) (hcc : NCells w bb (oo + i * 6) y (.slice yo y.ks.length yc)) (hyt : TIn w (fun b => b < B) y (.slice yo y.ks.length yc)) (hyc : y.cnt ≤ N) (hi : i < len) (hlen : len ≤ 100000) (hd : d ≤ 900) :
    Calls Try.prog 28 #[.slice (some ⟨bb, oo, none⟩) len lc, .int .i64 i, .int .i64 d] w (QPost w (Sha B w) (itemG (patF N) y d (decide (i + 1 = len)))) := by
  by_cases h41 : y.op = 41
  · rw [rest_item h41]
    refine array_rest bb oo _ lc i y yo yc d B w hB hbb hcc hyt hlen hi hd (by simpa using h41) (firstT y) (Lib.hid fun W hW => first_any _ y yo yc W (ks_le hyc hN) (tin_kept hyt hW)) _ (Lib.hid fun W fo fl fc hW hf => ?_)
    obtain rfl := tin_len hf
    have hz := hW.size
    exact rest_any hE bb oo _ lc i y.a (firstT y) fo fc y.ks.length d B false W (by omega) (by omega) ((hW.cell (p := ⟨bb, oo + i * 6 + 1, none⟩) hbb).trans hcc.2.1) (Nat.le_trans (first_cnt y) hyc) hf hlen hi (ks_le hyc hN) hd
  · have g41 : (y.op == 41) = false := by simpa using h41
    by_cases h40 : y.op = 40
    · have : itemG (patF N) y d (decide (i + 1 = len)) = .ok y := by unfold itemG; rw [if_pos h40]
      rw [this]
      exact array_hole bb oo _ lc i y yo yc d B w hB hbb hcc hyt hlen hi hd g41 (by simpa using h40)
    · rw [item_elem h41 h40]
      exact array_elem bb oo _ lc i y yo yc d B w hB hbb hcc hyt hlen hi hd g41 (by simpa using h40) _ (Lib.hid fun W hW => hE y yo yc d true B W hyc (by omega) (Nat.le_trans hB hW.size) (tin_kept hyt hW))

theorem elem_step2 {w wr W3 w4 : World} {o : Obj} {B g8 : Nat} {yt : Tr} {yk : Value} {op a : Int} {G : Part} {D : Nat} {ks : List Tr} {k : Nat} {L : List TV} {ro : Option Addr} {rc g gc : Nat} {y r : Tr} {kr : Value} {lb : Bool} (hBw : B ≤ w.heap.size) (hg8 : w.heap.size + 2 ≤ g8)
    (hL : ∀ x ∈ L, TIn wr (fun b => b < B ∨ (g8 + 1 ≤ b ∧ some b ≠ (Value.slice ro L.length rc).ownBlock)) x.1 x.2) (hLk : L.length ≤ k) (heq : madeL G D ks = joinM (L.map (·.1)) (madeL G D (ks.drop k))) (hyks : ks[k]? = some y) (hG : Except.ok r = G y D lb) (hlb : lb = decide (ks.length ≤ k + 1))
    (hvo : ∀ g, (Value.slice ro L.length rc).ownBlock = some g → g8 + 1 ≤ g ∧ g < wr.heap.size) (hbig : g8 + 1 ≤ wr.heap.size) (hB : Below w.heap.size w wr)
    (hWR : Below wr.heap.size wr W3)
    (hbox : wr.heap[w.heap.size]? = some (.cells #[.int .i64 yt.op, .int .i64 yt.a, .int .i64 yt.n, .int .i64 yt.m, .string yt.s, yk] 27 (0, 0)))
    (hres : wr.heap[w.heap.size + 1]? = some (.cells #[.int .i64 0, .int .i64 0, .int .i64 0, .int .i64 0, .string ⟨#[]⟩, .slice none 0 0] 27 (0, 0)))
    (hout : wr.heap[g8]? = some (.cells #[.int .i64 op, .int .i64 a, .int .i64 0, .int .i64 0, .string ⟨#[]⟩, .slice ro L.length rc] 27 (0, 0)))
    (htin : TIn W3 (Sha B wr) r kr)
    (hgrow : (W3.alloc o).grownBy w4 (Value.slice ro L.length rc).ownBlock) (hat : (Value.slice ro L.length rc).ownBlock = some g ∨ g = (W3.alloc o).heap.size) (hown : w4.ownsRow (g8 + 1) 27 6 (.slice (some ⟨g, 0, none⟩) (L.length + 1) gc) (L.length + 1) (L.flatMap pC ++ ndC r kr)) :
    (w4.heap[g8]? = some (.cells #[.int .i64 op, .int .i64 a, .int .i64 0, .int .i64 0, .string ⟨#[]⟩, .slice ro L.length rc] 27 (0, 0))) ∧
    RelE w B g8 yt yk op a G D ks (.int .i64 ((k : Int) + 1)) (w4.setCell ⟨g8, 5, none⟩ (.slice (some ⟨g, 0, none⟩) (L.length + 1) gc)) := by
  have hg2 : g8 + 1 ≤ g := (World.ownsRow.lt hown g rfl).1
  have hz5 : (W3.alloc o).heap.size = W3.heap.size + 1 := by simp
  have hz1 := hWR.size
  have h5 : ∀ b, b < W3.heap.size → (W3.alloc o).heap[b]? = W3.heap[b]? := fun b hb => Below.heap_alloc W3 o b hb
  have h5r : ∀ b, b < wr.heap.size → (W3.alloc o).heap[b]? = wr.heap[b]? := fun b hb => (h5 b (by omega)).trans (hWR.block b hb)
  have hz4' := hgrow.size
  have hne : ∀ b, (b < g8 + 1 ∨ wr.heap.size ≤ b) → some b ≠ (Value.slice ro L.length rc).ownBlock := fun b hb e => by have := hvo b e.symm; omega
  have h4 : ∀ b, b < W3.heap.size → some b ≠ (Value.slice ro L.length rc).ownBlock → w4.heap[b]? = W3.heap[b]? := fun b hb he => (hgrow.block b (by omega) he).trans (h5 b hb)
  have h4r : ∀ b, b < wr.heap.size → some b ≠ (Value.slice ro L.length rc).ownBlock → w4.heap[b]? = wr.heap[b]? := fun b hb he => (hgrow.block b (by omega) he).trans (h5r b hb)
  have hout4 := (h4r _ (by omega) (hne (g8) (by omega))).trans hout
  have hs : ∀ b, b ≠ g8 → (w4.setCell ⟨g8, 5, none⟩ (.slice (some ⟨g, 0, none⟩) (L.length + 1) gc)).heap[b]? = w4.heap[b]? := fun b hb => Below.heap_setCell _ _ _ _ hb
  have hss : (w4.setCell ⟨g8, 5, none⟩ (.slice (some ⟨g, 0, none⟩) (L.length + 1) gc)).heap.size = w4.heap.size := by simp [World.setCell]
  have hgne : ∀ b, b < W3.heap.size → some b ≠ (Value.slice ro L.length rc).ownBlock → some b ≠ (Value.slice (some ⟨g, 0, none⟩) (L.length + 1) gc).ownBlock := by
    intro b hb he e
    have e2 : b = g := by simpa [Value.ownBlock] using e
    subst e2
    rcases hat with h | h
    · exact he h.symm
    · omega
  have hBw4 : Below w.heap.size w w4 := ⟨hgrow.os.trans (hWR.os.trans hB.os), hgrow.tape.trans (hWR.tape.trans hB.tape), hgrow.output.trans (hWR.output.trans hB.output), by omega, fun b hb => (h4r b (by omega) (hne b (by omega))).trans (hB.block b hb)⟩
  refine ⟨hout4, ⟨⟨k + 1, L ++ [(r, kr)], _, by simp, (List.getElem?_eq_some_iff.1 hyks).1, by simp; omega, ?_, ?_, ?_, c_one 5 _ hout4⟩, ?_, ?_, c_set _ _ hBw4 (by omega), by omega⟩⟩
  · have h6 : PRow w4 (g8 + 1) 27 (.slice (some ⟨g, 0, none⟩) (L.length + 1) gc) (L ++ [(r, kr)]) := prow_snoc hown
    exact World.ownsRow.kept h6 (c_gset ⟨rfl, rfl, rfl, Nat.le_refl _, fun _ _ _ => rfl⟩ rfl _) (.inr (fun e => by simp [Value.ownBlock] at e; omega))
  · intro x hx
    rcases List.mem_append.1 hx with hx | hx
    · refine tin_imp (fun b hb hS => ?_) (by omega) _ _ (hL x hx)
      rcases hS with hS | hS
      · exact ⟨.inl hS, (hs b (by omega)).trans (h4r b hb (hne b (by omega)))⟩
      · exact ⟨.inr ⟨hS.1, hgne b (by omega) hS.2⟩, (hs b (by omega)).trans (h4r b hb hS.2)⟩
    · obtain rfl : x = (r, kr) := by simpa using hx
      refine tin_imp (fun b hb hS => ?_) (by omega) _ _ htin
      rcases hS with hS | hS
      · exact ⟨.inl hS, (hs b (by omega)).trans (h4 b hb (hne b (by omega)))⟩
      · exact ⟨.inr ⟨by omega, hgne b hb (hne b (by omega))⟩, (hs b (by omega)).trans (h4 b hb (hne b (by omega)))⟩
  · rw [heq, drop_cons hyks, madeL_cons, drop_empty, ← hlb, ← hG]
    simp only
    rw [joinM_join]
    simp
  · exact (hs _ (by omega)).trans ((h4r _ (by omega) (hne _ (by omega))).trans hbox)
  · exact (hs _ (by omega)).trans ((h4r _ (by omega) (hne _ (by omega))).trans hres)

/-- one parameter -/
theorem par_hole {f : Nat} {z : Tr} (h : z.op = 40) (l : Bool) : parH f z 2 l = .error 24 := by
  have e : withinV (lisG (patF f)) z 2 l = .error 24 := by
    unfold withinV lisG
    rw [if_neg (by omega), if_pos (by omega)]
    unfold eleG
    rw [if_pos (by omega)]
    cases f with
    | zero => rfl
    | succ n =>
      have hp : patB z = false := by unfold patB tgtB memB; rw [h]; rfl
      rw [patF_not hp, if_neg (by omega), if_neg (by omega)]
  unfold parH
  rw [e]
theorem par_item {f : Nat} {z : Tr} (h : ¬ z.op = 40) (l : Bool) : parH f z 2 l = match itemG (patF f) z 2 l with
    | .error e => .error e
    | .ok p => if hasOf p then .error 24 else .ok p := by
  unfold parH itemG
  rw [if_neg h]
  cases withinV (lisG (patF f)) z 2 l <;> rfl
end Go.Proofs.Ytjnlifghobgkcaa

namespace Go.Proofs.Ytjnlifghobgkcaa
open Go.RowKit

theorem elem_bel {W5 wr W3 w4 : World} {o : Obj} {g8 : Nat} {own : Option Nat} {v : Value} (hB : Below g8 W5 wr) (hWR : Below wr.heap.size wr W3) (hbig : g8 + 1 ≤ wr.heap.size) (hgrow : (W3.alloc o).grownBy w4 own) (hvo : ∀ g, own = some g → g8 + 1 ≤ g) : Below g8 W5 (w4.setCell ⟨g8, 5, none⟩ v) := by
  have h1 := hWR.size
  have h2 := hgrow.size
  have h3 : (W3.alloc o).heap.size = W3.heap.size + 1 := by simp
  have h4 := hB.size
  refine c_set _ _ ⟨hgrow.os.trans (hWR.os.trans hB.os), hgrow.tape.trans (hWR.tape.trans hB.tape), hgrow.output.trans (hWR.output.trans hB.output), by omega, fun b hb => ?_⟩ (Nat.le_refl _)
  have hne : some b ≠ own := fun e => by have := hvo b e.symm; omega
  exact (hgrow.block b (by omega) hne).trans ((Below.heap_alloc W3 o b (by omega)).trans ((hWR.block b (by omega)).trans (hB.block b hb)))
set_option linter.unusedVariables false in
set_option maxRecDepth 100000 in
set_option maxHeartbeats 4000000 in
theorem rpar_one (y : Tr) (yo : Option Addr) (yc : Nat) (w : World) (hc : y.cnt ≤ 40000) (ht0 : TIn w All y (.slice yo y.ks.length yc)) (g7 : (y.op == 7) = false) (g48 : (y.op == 48) = false) (hKS : parsL y = [y]) : Calls Try.prog 17 #[.agg #[.int .i64 y.op, .int .i64 y.a, .int .i64 y.n, .int .i64 y.m, .string y.s, .slice yo y.ks.length yc]] w (RPost w All (parsOf y)) := by
  obtain ⟨i0, hi, hz0, hz1, hz2⟩ := info_parts node_info
  have hT : Try.prog.underlying 25 = some (.slice 27) := Try.underlying25
  have hks := ks_le hc (by omega)
  have hE := ele_at y.cnt (by omega)
  have ht : TIn w (fun b => b < w.heap.size) y (.slice yo y.ks.length yc) := tin_mono ht0 (fun b hb _ => hb)
  obtain ⟨R, hR⟩ : ∃ R, R = parsOf y := ⟨_, rfl⟩
  rw [← hR]
  have HE : Hid (R = madeV 5 y.a 0 [y] 1 (parH y.cnt)) := Lib.hid (by rw [hR]; unfold parsOf; rw [hKS])
  have HEL := Lib.hid hE
  have HCN := Lib.hid hc
  clear hR hKS hE ht0 hc
  obtain ⟨W2, hW2⟩ : ∃ W2, W2 = (w.alloc (.cells #[.int .i64 y.op, .int .i64 y.a, .int .i64 y.n, .int .i64 y.m, .string y.s, .slice yo y.ks.length yc] 27)).alloc (.cells #[.int .i64 0, .int .i64 0, .int .i64 0, .int .i64 0, .string ⟨#[]⟩, .slice none 0 0] 27) := ⟨_, rfl⟩
  have hB2 : Below w.heap.size w W2 := by rw [hW2]; exact c_box2 w _ _
  have hzW : W2.heap.size = w.heap.size + 2 := by rw [hW2]; simp
  have hbox : W2.heap[w.heap.size]? = some (.cells #[.int .i64 y.op, .int .i64 y.a, .int .i64 y.n, .int .i64 y.m, .string y.s, .slice yo y.ks.length yc] 27 (0, 0)) := by rw [hW2]; exact c_new1 w _ _
  have hres : W2.heap[w.heap.size + 1]? = some (.cells #[.int .i64 0, .int .i64 0, .int .i64 0, .int .i64 0, .string ⟨#[]⟩, .slice none 0 0] 27 (0, 0)) := by rw [hW2]; exact c_new2 w _ _
  obtain ⟨⟨b0, b1, b2, b3, b4, b5⟩, -, hxl⟩ := c_six hbox
  obtain ⟨⟨r0, r1, r2, r3, r4, r5⟩, ⟨q0, q1, q2, q3, q4, q5⟩, hrl⟩ := c_six hres
  have HW := Lib.hid hW2
  have HB := Lib.hid hB2
  have HZ := Lib.hid hzW
  have HBR := Lib.hid (And.intro hbox hres)
  have HT := Lib.hid (tin_kept ht hB2)
  clear hW2 hB2 hzW hbox hres ht
  go_enter Try.func17, Try.ntmps17
  go_upto_region 1 with fail
  rw [← HW.out]
  go_upto_region 7 with fail
  obtain ⟨W4, hW4⟩ : ∃ W4, W4 = W2.alloc (.cells #[.int .i64 y.op, .int .i64 y.a, .int .i64 y.n, .int .i64 y.m, .string y.s, .slice yo y.ks.length yc] 27) := ⟨_, rfl⟩
  obtain ⟨W5, hW5⟩ : ∃ W5, W5 = W4.alloc (.cells #[.int .i64 5, .int .i64 y.a, .int .i64 0, .int .i64 0, .string ⟨#[]⟩, .slice none 0 0] 27) := ⟨_, rfl⟩
  have hB4 : Below W2.heap.size W2 W4 := by rw [hW4]; exact c_box W2 _
  have hone : W4.heap[W2.heap.size]? = some (.cells #[.int .i64 y.op, .int .i64 y.a, .int .i64 y.n, .int .i64 y.m, .string y.s, .slice yo y.ks.length yc] 27 (0, 0)) := by rw [hW4]; exact heap_alloc_new W2 _
  have hz4 : W4.heap.size = W2.heap.size + 1 := by rw [hW4]; simp
  have hB5 : Below W4.heap.size W4 W5 := by rw [hW5]; exact c_box W4 _
  have hout5 : W5.heap[W2.heap.size + 1]? = some (.cells #[.int .i64 5, .int .i64 y.a, .int .i64 0, .int .i64 0, .string ⟨#[]⟩, .slice none 0 0] 27 (0, 0)) := by rw [← hz4, hW5]; exact heap_alloc_new W4 _
  have hz5 : W5.heap.size = W2.heap.size + 2 := by rw [hW5]; simp; omega
  obtain ⟨g8, hg8⟩ : ∃ g8, g8 = W2.heap.size + 1 := ⟨_, rfl⟩
  rw [← hW4, ← hW5, ← hg8]
  rw [← hg8] at hout5
  obtain ⟨g4, hg4⟩ : ∃ g4, g4 = W2.heap.size := ⟨_, rfl⟩
  rw [← hg4] at hone
  rw [← hg4]
  have hg8w : w.heap.size + 2 ≤ g8 ∧ W5.heap.size = g8 + 1 ∧ g4 < g8 ∧ w.heap.size + 2 ≤ g4 := by have := HZ.out; omega
  have hone5 := c_kept hB5 (by omega) hone
  have hB25 : Below W2.heap.size W2 W5 := c_thr hB4 hB5 hB4.size
  have hbw5 : Below w.heap.size w W5 := c_thr HB.out hB25 HB.out.size
  have hbox5 := c_kept hB25 (c_lt HBR.out.1) HBR.out.1
  have hres5 := c_kept hB25 (c_lt HBR.out.2) HBR.out.2
  have ht5 := tin_kept HT.out hB25
  have HROW : Hid (∀ k z, [y][k]? = some z → ∃ (bb oo : Nat) (zo : Option Addr) (zc : Nat), (some (⟨g4, 0, none⟩ : Addr)) = some ⟨bb, oo, none⟩ ∧ bb < g8 ∧ NCells W5 bb (oo + k * 6) z (.slice zo z.ks.length zc) ∧ TIn W5 (fun b => b < w.heap.size) z (.slice zo z.ks.length zc) ∧ z.cnt ≤ y.cnt) := Lib.hid (by
    intro k z hz
    cases k with
    | zero =>
      have : z = y := by simpa using hz.symm
      subst this
      obtain ⟨⟨c0, c1, c2, c3, c4, c5⟩, -, hl⟩ := c_six hone5
      exact ⟨g4, 0, yo, yc, rfl, by omega, ⟨c0, c1, c2, c3, c4, c5⟩, ht5, Nat.le_refl _⟩
    | succ k => simp at hz)
  have HV : Hid (RelE w w.heap.size g8 y (.slice yo y.ks.length yc) 5 y.a (parH y.cnt) 2 [y] (.int .i64 0) W5) := Lib.hid
    ⟨⟨0, [], .slice none 0 0, rfl, Nat.zero_le _, Nat.le_refl _, World.ownsRow_nil _ _ _ _, (fun x hx => by cases hx), (by rw [List.drop_zero]; cases madeL (parH y.cnt) 2 [y] <;> rfl), hout5⟩, hbox5, hres5, hbw5, by omega⟩
  have HG8 := Lib.hid hg8w
  have HB5 : Hid (Below g8 W5 W5) := Lib.hid (Below.refl _ _)
  clear hW4 hW5 hB4 hB5 hone hone5 hout5 hz4 hz5 hg8 hg4 hg8w hB25 hbw5 hbox5 hres5 ht5 b0 b1 b2 b3 b4 b5 hxl r0 r1 r2 r3 r4 r5 q0 q1 q2 q3 q4 q5 hrl
  go_wp2
  go_loopw [6] (fun i wr => RelE w w.heap.size g8 y (.slice yo y.ks.length yc) 5 y.a (parH y.cnt) 2 [y] i wr ∧ Below g8 W5 wr) (fun i _ => 1 - (intOf i).toNat)
  case atStart => exact ⟨HV.out, HB5.out⟩
  case round =>
    clear HV HB5
    obtain ⟨⟨⟨k, L, v, rfl, hk, hLk, hrow, hL, heq, hout⟩, hbox, hres, hB', hbig⟩, hB58⟩ := hrel
    obtain ⟨ro, rc, hv, hvo⟩ : ∃ ro rc, v = .slice ro L.length rc ∧ (∀ g, v.ownBlock = some g → g8 + 1 ≤ g ∧ g < wr.heap.size) := by
      obtain ⟨ro, rc, e, _, _, _⟩ := prow_slice hrow
      exact ⟨ro, rc, e, fun g hg => World.ownsRow.lt hrow g hg⟩
    subst hv
    have hlen : [y].length = 1 := rfl
    by_cases hkl : k < 1
    · have g1 : decide ((k : Int) < (1 : Int)) = true := decide_eq_true (by omega)
      have k1 : (k : Int) < (1 : Int) := by omega
      obtain ⟨lb, hlb⟩ : ∃ lb, lb = decide (1 ≤ k + 1) := ⟨_, rfl⟩
      have hfl : decide (k + 1 = 1) = lb := by
        rw [hlb]
        by_cases h : k + 1 = 1
        · rw [decide_eq_true h, decide_eq_true (by omega)]
        · rw [decide_eq_false h, decide_eq_false (by omega)]
      obtain ⟨z, hz⟩ : ∃ z, [y][k]? = some z := ⟨_, List.getElem?_eq_getElem (by rw [hlen]; exact hkl)⟩
      obtain ⟨bb, oo, zo, zc, hlo, hbb, hcc, hzt, hzc⟩ := HROW.out k z hz
      obtain ⟨rfl, rfl⟩ : g4 = bb ∧ 0 = oo := by simpa using hlo
      have hccr := ncells_kept (hB58.block _ hbb) hcc
      have hztr : TIn wr (fun b => b < w.heap.size) z (.slice zo z.ks.length zc) := tin_below hzt hB58 (fun b _ h => by have := HG8.out; omega)
      have HX : Hid (Calls Try.prog 28 #[.slice (some ⟨g4, 0, none⟩) 1 1, .int .i64 k, .int .i64 2] wr (QPost wr (Sha w.heap.size wr) (itemG (patF y.cnt) z 2 lb))) := Lib.hid (by
        have H := array_at HEL.out (by have := HCN.out; omega) z _ 0 1 1 k zo zc 2 w.heap.size wr hB'.size (Nat.lt_of_lt_of_le hbb (by omega)) hccr hztr hzc hkl (by omega) (by omega)
        rw [hfl] at H
        exact H)
      have hcN : ∀ r, itemG (patF y.cnt) z 2 lb = .ok r → r.cnt ≤ 100000 := fun r e => by
        have := dbl_item (dbl_pat y.cnt) z 2 lb r e
        have := HCN.out
        omega
      have HCT := Lib.hid hcN
      obtain ⟨RI, hRI⟩ : ∃ RI, RI = itemG (patF y.cnt) z 2 lb := ⟨_, rfl⟩
      rw [← hRI] at HX
      have HRI := Lib.hid hRI
      have HH := Lib.hid (And.intro hrow (And.intro hL (And.intro heq (And.intro hz (And.intro hlb (And.intro hvo (And.intro hbig (And.intro hB' (And.intro hB58 (And.intro hbox (And.intro hres (And.intro hout hLk))))))))))))
      have HLEN := Lib.hid hlen
      obtain ⟨c0, c1, c2, c3, c4, c5⟩ := hccr
      simp only [Nat.zero_add] at c0 c1 c2 c3 c4 c5
      have hbbr : g4 < wr.heap.size := Nat.lt_of_lt_of_le hbb (by omega)
      by_cases h40 : z.op = 40
      · have g40 : (z.op == 40) = true := by simpa using h40
        obtain ⟨⟨r0, r1, r2, r3, r4, r5⟩, ⟨q0, q1, q2, q3, q4, q5⟩, hr⟩ := c_six hres
        have HZZ := Lib.hid h40
        clear hRI hrow hL heq hz hlb hvo hbig hB' hbox hres hout hLk hfl hlen hzt hcc hztr hcN hzc hB58 h40
        go_wp2
        refine bodyPost_ret (v := .tuple #[.agg #[.int .i64 0, .int .i64 0, .int .i64 0, .int .i64 0, .string ⟨#[]⟩, .slice none 0 0], .int .i64 24]) (by simp [results, Try.results17, go_sem, r0, r1, r2, r3, r4, r5]) rfl ?_
        have hRx : R = .error 24 := by
          rw [HE.out]
          refine made_er ?_
          rw [HH.out.2.2.1, drop_cons HH.out.2.2.2.1, madeL_cons, drop_empty, par_hole HZZ.out]
          rfl
        rw [hRx]
        exact ⟨rfl, rfl, c_st6 HH.out.2.2.2.2.2.2.2.1 (by omega)⟩
      have g40 : (z.op == 40) = false := by simpa using h40
      have HZZ := Lib.hid h40
      clear hRI hrow hL heq hz hlb hvo hbig hB' hbox hres hout hLk hfl hlen hzt hcc hztr hcN hzc hB58 h40
      cases RI with
      | error x =>
        go_wp2_with fail
        refine HX.out.mono ?_
        rintro e w1 ⟨hx, p0, p1, p2, p3, p4, po, pl, pc, rfl, hB1⟩
        have hne : (x != 0) = true := by simp [bne, hx]
        have hres1 := c_kept hB1 (c_lt HH.out.2.2.2.2.2.2.2.2.2.2.1) HH.out.2.2.2.2.2.2.2.2.2.2.1
        have HF := Lib.hid (And.intro hx (And.intro (c_thr HH.out.2.2.2.2.2.2.2.1 hB1 HH.out.2.2.2.2.2.2.2.1.size) hres1))
        clear hx hB1 hres1 c0 c1 c2 c3 c4 c5
        go_upto_region 13 with fail
        obtain ⟨W9, hW9⟩ : ∃ W9, W9 = w1.alloc (.cells #[.int .i64 p0, .int .i64 p1, .int .i64 p2, .int .i64 p3, .string p4, .slice po pl pc] 27) := ⟨_, rfl⟩
        rw [← hW9]
        have hres9 : W9.heap[w.heap.size + 1]? = some (.cells #[.int .i64 0, .int .i64 0, .int .i64 0, .int .i64 0, .string ⟨#[]⟩, .slice none 0 0] 27 (0, 0)) := by rw [hW9]; exact c_kept (c_box w1 _) (c_lt HF.out.2.2) HF.out.2.2
        have hB9 : Below w.heap.size w W9 := by rw [hW9]; exact c_thr HF.out.2.1 (c_box w1 _) HF.out.2.1.size
        obtain ⟨⟨r0, r1, r2, r3, r4, r5⟩, ⟨q0, q1, q2, q3, q4, q5⟩, hr⟩ := c_six hres9
        have HB9 := Lib.hid hB9
        clear hW9 hres9 hB9
        go_wp2
        refine bodyPost_ret (v := .tuple #[.agg #[.int .i64 0, .int .i64 0, .int .i64 0, .int .i64 0, .string ⟨#[]⟩, .slice none 0 0], .int .i64 x]) (by simp [results, Try.results17, go_sem, r0, r1, r2, r3, r4, r5]) rfl ?_
        have hRx : R = .error x := by
          rw [HE.out]
          refine made_er ?_
          rw [HH.out.2.2.1, drop_cons HH.out.2.2.2.1, madeL_cons, drop_empty, HLEN.out, ← HH.out.2.2.2.2.1, par_item HZZ.out, ← HRI.out]
          rfl
        rw [hRx]
        exact ⟨HF.out.1, rfl, c_st6 HB9.out (by omega)⟩
      | ok r =>
        go_wp2_with fail
        refine HX.out.mono ?_
        rintro e w1 ⟨ko, kl, kc, rfl, htin, hB1⟩
        obtain rfl := tin_len htin
        have HF := Lib.hid (And.intro htin hB1)
        clear htin hB1 c0 c1 c2 c3 c4 c5
        go_upto_region 13 with fail
        obtain ⟨W9, hW9⟩ : ∃ W9, W9 = w1.alloc (.cells #[.int .i64 r.op, .int .i64 r.a, .int .i64 r.n, .int .i64 r.m, .string r.s, .slice ko r.ks.length kc] 27) := ⟨_, rfl⟩
        rw [← hW9]
        have hn9 : W9.heap[w1.heap.size]? = some (.cells #[.int .i64 r.op, .int .i64 r.a, .int .i64 r.n, .int .i64 r.m, .string r.s, .slice ko r.ks.length kc] 27 (0, 0)) := by rw [hW9]; exact heap_alloc_new w1 _
        have ht9 : TIn W9 (Sha w.heap.size wr) r (.slice ko r.ks.length kc) := by rw [hW9]; exact tin_kept HF.out.1 (c_box w1 _)
        have hB9 : Below wr.heap.size wr W9 := by rw [hW9]; exact c_thr HF.out.2 (c_box w1 _) HF.out.2.size
        have HRH : Hid (∀ W, Below W9.heap.size W9 W → Calls Try.prog 29 #[.agg #[.int .i64 r.op, .int .i64 r.a, .int .i64 r.n, .int .i64 r.m, .string r.s, .slice ko r.ks.length kc]] W (BPost W (!hasOf r))) := Lib.hid (fun W hW => rhas_any r ko kc W (HCT.out r HRI.out.symm) (tin_kept (tin_mono ht9 (fun _ _ _ => trivial)) hW))
        obtain ⟨⟨n0, n1, n2, n3, n4, n5⟩, -, hnl⟩ := c_six hn9
        have HF9 := Lib.hid (And.intro hn9 (And.intro ht9 hB9))
        obtain ⟨hb, hhb⟩ : ∃ hb, hb = hasOf r := ⟨_, rfl⟩
        rw [← hhb] at HRH
        have HHB := Lib.hid hhb
        clear hW9 hn9 ht9 hB9 hhb
        go_wp2_with fail
        refine (HRH.out _ (Below.refl _ _)).mono ?_
        rintro e w5 ⟨rfl, hB5⟩
        have hB5r : Below wr.heap.size wr w5 := c_thr HF9.out.2.2 hB5 HF9.out.2.2.size
        have hn5 := c_kept hB5 (c_lt HF9.out.1) HF9.out.1
        have ht5 : TIn w5 (Sha w.heap.size wr) r (.slice ko r.ks.length kc) := tin_kept HF9.out.2.1 hB5
        have hrow5 : w5.ownsRow (g8 + 1) 27 6 (.slice ro L.length rc) L.length (L.flatMap pC) := prow_kept HH.out.1 hB5r
        have hout5 := c_kept hB5r (c_lt HH.out.2.2.2.2.2.2.2.2.2.2.2.1) HH.out.2.2.2.2.2.2.2.2.2.2.2.1
        have hres5 := c_kept hB5r (c_lt HH.out.2.2.2.2.2.2.2.2.2.2.1) HH.out.2.2.2.2.2.2.2.2.2.2.1
        have H5 := Lib.hid (And.intro hrow5 (And.intro hB5r (And.intro ht5 (c_thr HH.out.2.2.2.2.2.2.2.1 hB5r HH.out.2.2.2.2.2.2.2.1.size))))
        clear n0 n1 n2 n3 n4 n5 hnl
        cases hb with
        | true =>
          obtain ⟨⟨r0, r1, r2, r3, r4, r5⟩, ⟨q0, q1, q2, q3, q4, q5⟩, hr⟩ := c_six hres5
          clear hB5 hB5r hn5 ht5 hrow5 hout5 hres5
          go_wp2
          refine bodyPost_ret (v := .tuple #[.agg #[.int .i64 0, .int .i64 0, .int .i64 0, .int .i64 0, .string ⟨#[]⟩, .slice none 0 0], .int .i64 24]) (by simp [results, Try.results17, go_sem, r0, r1, r2, r3, r4, r5]) rfl ?_
          have hRx : R = .error 24 := by
            rw [HE.out]
            refine made_er ?_
            rw [HH.out.2.2.1, drop_cons HH.out.2.2.2.1, madeL_cons, drop_empty, HLEN.out, ← HH.out.2.2.2.2.1, par_item HZZ.out, ← HRI.out]
            simp only [← HHB.out]
            rfl
          rw [hRx]
          exact ⟨rfl, rfl, c_st6 H5.out.2.2.2 (by omega)⟩
        | false =>
          obtain ⟨⟨n0, n1, n2, n3, n4, n5⟩, -, hnl⟩ := c_six hn5
          obtain ⟨⟨b0, b1, b2, b3, b4, b5⟩, ⟨-, -, -, -, -, f5⟩, hbl⟩ := c_six hout5
          clear hB5 hB5r hn5 ht5 hrow5 hout5 hres5
          go_wp2_with (at_builtin; refine wpList_append_lies _ rfl _ _ 25 rfl (g8 + 1) 27 i0 (.agg #[.int .i64 0, .int .i64 0, .int .i64 0, .int .i64 0, .string ⟨#[]⟩, .slice none 0 0]) 6 72 hT hi hz0 hz1 hz2 rfl (by decide) (.slice ro L.length rc) _ _ rfl (H5.out.1.alloc _) ⟨w5.heap.size, 0, none⟩ 1 1 (ndC r (.slice ko r.ks.length kc)) rfl rfl ?_ ?_ (by omega) ?_ ?_ ?_ _ rfl ?_; exact World.news_of_block (cs := #[.int .i64 r.op, .int .i64 r.a, .int .i64 r.n, .int .i64 r.m, .string r.s, .slice ko r.ks.length kc]) (t := 27) (fr := (0, 0)) (heap_alloc_new w5 _); exact pC_one (r, .slice ko r.ks.length kc) ⟨_, _, _, rfl⟩; (unfold maxLen; have := HH.out.2.2.2.2.2.2.2.2.2.2.2.2; omega); (have := HH.out.2.2.2.2.2.2.2.2.2.2.2.2; omega); (simp; have h1 := HH.out.2.2.2.2.2.2.1; have h2 := H5.out.2.1.size; omega); intro g gc w4 hown' hgrow hat hglt; obtain ⟨hbox5, hst⟩ := elem_step2 (Nat.le_refl _) (by have := HG8.out; omega) HH.out.2.1 HH.out.2.2.2.2.2.2.2.2.2.2.2.2 HH.out.2.2.1 HH.out.2.2.2.1 (r := r) (lb := lb) (by rw [par_item HZZ.out, ← HRI.out]; simp only [← HHB.out]; rfl) (by rw [HLEN.out]; exact HH.out.2.2.2.2.1) HH.out.2.2.2.2.2.1 HH.out.2.2.2.2.2.2.1 HH.out.2.2.2.2.2.2.2.1 H5.out.2.1 HH.out.2.2.2.2.2.2.2.2.2.1 HH.out.2.2.2.2.2.2.2.2.2.2.1 HH.out.2.2.2.2.2.2.2.2.2.2.2.1 H5.out.2.2.1 hgrow hat hown'; have hbel := elem_bel (v := .slice (some ⟨g, 0, none⟩) (L.length + 1) gc) HH.out.2.2.2.2.2.2.2.2.1 H5.out.2.1 HH.out.2.2.2.2.2.2.1 hgrow (fun g hg => (HH.out.2.2.2.2.2.1 g hg).1); obtain ⟨⟨p0, p1, p2, p3, p4, p5⟩, ⟨-, -, -, -, -, g5⟩, hpl⟩ := c_six hbox5; have HST := Lib.hid (And.intro hst hbel); clear hown' hgrow hat hglt hbox5 hst hbel b0 b1 b2 b3 b4 b5 f5 n0 n1 n2 n3 n4 n5)
          go_roundw
          case rel => exact HST.out
          case measure => simp [intOf]; omega
    · have g1 : decide ((k : Int) < (1 : Int)) = false := decide_eq_false (by omega)
      obtain ⟨⟨t0, t1, t2, t3, t4, t5⟩, -, hbl⟩ := c_six hout
      obtain ⟨⟨r0, r1, r2, r3, r4, r5⟩, ⟨q0, q1, q2, q3, q4, q5⟩, hr⟩ := c_six hres
      have HH := Lib.hid (And.intro hrow (And.intro hL (And.intro heq (And.intro hB' (And.intro hvo (And.intro hbig hk))))))
      have HLEN := Lib.hid hlen
      clear hrow hL heq hB' hout hres hvo hbig hbox hk hlen hB58
      go_wp2
      refine bodyPost_ret (v := .tuple #[.agg #[.int .i64 5, .int .i64 y.a, .int .i64 0, .int .i64 0, .string ⟨#[]⟩, .slice ro L.length rc], .int .i64 0]) (by simp [results, Try.results17, go_sem, r0, r1, r2, r3, r4, r5]) rfl ?_
      obtain ⟨hrow, hL, heq, hB', hvo, hbig, hk⟩ := HH.out
      have hg8 := HG8.out
      have hRx : R = .ok (.mk 5 y.a 0 0 noS (L.map (·.1))) := by
        rw [HE.out]
        refine made_ok ?_
        rw [heq, List.drop_eq_nil_of_le (by rw [HLEN.out]; omega)]
        simp [madeL, joinM]
      rw [hRx]
      have htr : TIn wr (fun b => b < w.heap.size ∨ g8 + 1 ≤ b) (.mk 5 y.a 0 0 noS (L.map (·.1))) (.slice ro L.length rc) := tin_row hrow (fun g hg => .inr (hvo g hg).1) (fun y hy => tin_mono (hL y hy) (fun b _ hs => hs.imp id (·.1))) rfl
      exact ⟨ro, L.length, rc, rfl, tin_mono (tin_grown htr (st6_grown wr (w.heap.size + 1) 0 _ _ _ _ _ _) (fun b _ hs e => by simp at e; omega)) (fun b _ hs => trivial), c_st6 hB' (by omega)⟩
end Go.Proofs.Ytjnlifghobgkcaa

namespace Go.Proofs.Ytjnlifghobgkcaa
open Go.RowKit

set_option linter.unusedVariables false in
set_option maxRecDepth 100000 in
set_option maxHeartbeats 4000000 in
theorem rpar_seq (y : Tr) (yo : Option Addr) (yc : Nat) (w : World) (hc : y.cnt ≤ 40000) (ht0 : TIn w All y (.slice yo y.ks.length yc)) (g7 : (y.op == 7) = false) (g48 : (y.op == 48) = true) (hKS : parsL y = y.ks) : Calls Try.prog 17 #[.agg #[.int .i64 y.op, .int .i64 y.a, .int .i64 y.n, .int .i64 y.m, .string y.s, .slice yo y.ks.length yc]] w (RPost w All (parsOf y)) := by
  obtain ⟨i0, hi, hz0, hz1, hz2⟩ := info_parts node_info
  have hT : Try.prog.underlying 25 = some (.slice 27) := Try.underlying25
  have hks := ks_le hc (by omega)
  have hE := ele_at y.cnt (by omega)
  have ht : TIn w (fun b => b < w.heap.size) y (.slice yo y.ks.length yc) := tin_mono ht0 (fun b hb _ => hb)
  obtain ⟨R, hR⟩ : ∃ R, R = parsOf y := ⟨_, rfl⟩
  rw [← hR]
  have HE : Hid (R = madeV 5 y.a 0 y.ks 1 (parH y.cnt)) := Lib.hid (by rw [hR]; unfold parsOf; rw [hKS])
  have HEL := Lib.hid hE
  have HCN := Lib.hid hc
  clear hR hKS hE ht0 hc
  obtain ⟨W2, hW2⟩ : ∃ W2, W2 = (w.alloc (.cells #[.int .i64 y.op, .int .i64 y.a, .int .i64 y.n, .int .i64 y.m, .string y.s, .slice yo y.ks.length yc] 27)).alloc (.cells #[.int .i64 0, .int .i64 0, .int .i64 0, .int .i64 0, .string ⟨#[]⟩, .slice none 0 0] 27) := ⟨_, rfl⟩
  have hB2 : Below w.heap.size w W2 := by rw [hW2]; exact c_box2 w _ _
  have hzW : W2.heap.size = w.heap.size + 2 := by rw [hW2]; simp
  have hbox : W2.heap[w.heap.size]? = some (.cells #[.int .i64 y.op, .int .i64 y.a, .int .i64 y.n, .int .i64 y.m, .string y.s, .slice yo y.ks.length yc] 27 (0, 0)) := by rw [hW2]; exact c_new1 w _ _
  have hres : W2.heap[w.heap.size + 1]? = some (.cells #[.int .i64 0, .int .i64 0, .int .i64 0, .int .i64 0, .string ⟨#[]⟩, .slice none 0 0] 27 (0, 0)) := by rw [hW2]; exact c_new2 w _ _
  obtain ⟨⟨b0, b1, b2, b3, b4, b5⟩, -, hxl⟩ := c_six hbox
  obtain ⟨⟨r0, r1, r2, r3, r4, r5⟩, ⟨q0, q1, q2, q3, q4, q5⟩, hrl⟩ := c_six hres
  have HW := Lib.hid hW2
  have HB := Lib.hid hB2
  have HZ := Lib.hid hzW
  have HBR := Lib.hid (And.intro hbox hres)
  have HT := Lib.hid (tin_kept ht hB2)
  clear hW2 hB2 hzW hbox hres ht
  go_enter Try.func17, Try.ntmps17
  go_upto_region 1 with fail
  rw [← HW.out]
  go_upto_region 7 with fail
  obtain ⟨W4, hW4⟩ : ∃ W4, W4 = W2.alloc (.cells #[.int .i64 y.op, .int .i64 y.a, .int .i64 y.n, .int .i64 y.m, .string y.s, .slice yo y.ks.length yc] 27) := ⟨_, rfl⟩
  obtain ⟨W5, hW5⟩ : ∃ W5, W5 = W4.alloc (.cells #[.int .i64 5, .int .i64 y.a, .int .i64 0, .int .i64 0, .string ⟨#[]⟩, .slice none 0 0] 27) := ⟨_, rfl⟩
  have hB4 : Below W2.heap.size W2 W4 := by rw [hW4]; exact c_box W2 _
  have hone : W4.heap[W2.heap.size]? = some (.cells #[.int .i64 y.op, .int .i64 y.a, .int .i64 y.n, .int .i64 y.m, .string y.s, .slice yo y.ks.length yc] 27 (0, 0)) := by rw [hW4]; exact heap_alloc_new W2 _
  have hz4 : W4.heap.size = W2.heap.size + 1 := by rw [hW4]; simp
  have hB5 : Below W4.heap.size W4 W5 := by rw [hW5]; exact c_box W4 _
  have hout5 : W5.heap[W2.heap.size + 1]? = some (.cells #[.int .i64 5, .int .i64 y.a, .int .i64 0, .int .i64 0, .string ⟨#[]⟩, .slice none 0 0] 27 (0, 0)) := by rw [← hz4, hW5]; exact heap_alloc_new W4 _
  have hz5 : W5.heap.size = W2.heap.size + 2 := by rw [hW5]; simp; omega
  obtain ⟨g8, hg8⟩ : ∃ g8, g8 = W2.heap.size + 1 := ⟨_, rfl⟩
  rw [← hW4, ← hW5, ← hg8]
  rw [← hg8] at hout5
  obtain ⟨g4, hg4⟩ : ∃ g4, g4 = W2.heap.size := ⟨_, rfl⟩
  rw [← hg4] at hone
  rw [← hg4]
  have hg8w : w.heap.size + 2 ≤ g8 ∧ W5.heap.size = g8 + 1 ∧ g4 < g8 ∧ w.heap.size + 2 ≤ g4 := by have := HZ.out; omega
  have hone5 := c_kept hB5 (by omega) hone
  have hB25 : Below W2.heap.size W2 W5 := c_thr hB4 hB5 hB4.size
  have hbw5 : Below w.heap.size w W5 := c_thr HB.out hB25 HB.out.size
  have hbox5 := c_kept hB25 (c_lt HBR.out.1) HBR.out.1
  have hres5 := c_kept hB25 (c_lt HBR.out.2) HBR.out.2
  have ht5 := tin_kept HT.out hB25
  have HROW : Hid (∀ k z, y.ks[k]? = some z → ∃ (bb oo : Nat) (zo : Option Addr) (zc : Nat), yo = some ⟨bb, oo, none⟩ ∧ bb < g8 ∧ NCells W5 bb (oo + k * 6) z (.slice zo z.ks.length zc) ∧ TIn W5 (fun b => b < w.heap.size) z (.slice zo z.ks.length zc) ∧ z.cnt ≤ y.cnt) := Lib.hid (by
    intro k z hz
    obtain ⟨bb, oo, zo, zl, zc, rfl, hbb, hbS, hcc, hzt⟩ := kidS ht5 hz
    obtain rfl := tin_len hzt
    exact ⟨bb, oo, zo, zc, rfl, by omega, hcc, hzt, Nat.le_of_lt (cnt_kid hz)⟩)
  have HV : Hid (RelE w w.heap.size g8 y (.slice yo y.ks.length yc) 5 y.a (parH y.cnt) 2 y.ks (.int .i64 0) W5) := Lib.hid
    ⟨⟨0, [], .slice none 0 0, rfl, Nat.zero_le _, Nat.le_refl _, World.ownsRow_nil _ _ _ _, (fun x hx => by cases hx), (by rw [List.drop_zero]; cases madeL (parH y.cnt) 2 y.ks <;> rfl), hout5⟩, hbox5, hres5, hbw5, by omega⟩
  have HG8 := Lib.hid hg8w
  have HB5 : Hid (Below g8 W5 W5) := Lib.hid (Below.refl _ _)
  clear hW4 hW5 hB4 hB5 hone hone5 hout5 hz4 hz5 hg8 hg4 hg8w hB25 hbw5 hbox5 hres5 ht5 b0 b1 b2 b3 b4 b5 hxl r0 r1 r2 r3 r4 r5 q0 q1 q2 q3 q4 q5 hrl
  go_wp2
  go_loopw [6] (fun i wr => RelE w w.heap.size g8 y (.slice yo y.ks.length yc) 5 y.a (parH y.cnt) 2 y.ks i wr ∧ Below g8 W5 wr) (fun i _ => y.ks.length - (intOf i).toNat)
  case atStart => exact ⟨HV.out, HB5.out⟩
  case round =>
    clear HV HB5
    obtain ⟨⟨⟨k, L, v, rfl, hk, hLk, hrow, hL, heq, hout⟩, hbox, hres, hB', hbig⟩, hB58⟩ := hrel
    obtain ⟨ro, rc, hv, hvo⟩ : ∃ ro rc, v = .slice ro L.length rc ∧ (∀ g, v.ownBlock = some g → g8 + 1 ≤ g ∧ g < wr.heap.size) := by
      obtain ⟨ro, rc, e, _, _, _⟩ := prow_slice hrow
      exact ⟨ro, rc, e, fun g hg => World.ownsRow.lt hrow g hg⟩
    subst hv
    have hlen : y.ks.length = y.ks.length := rfl
    by_cases hkl : k < y.ks.length
    · have g1 : decide ((k : Int) < (y.ks.length : Int)) = true := decide_eq_true (by omega)
      have k1 : (k : Int) < (y.ks.length : Int) := by omega
      obtain ⟨lb, hlb⟩ : ∃ lb, lb = decide (y.ks.length ≤ k + 1) := ⟨_, rfl⟩
      have hfl : decide (k + 1 = y.ks.length) = lb := by
        rw [hlb]
        by_cases h : k + 1 = y.ks.length
        · rw [decide_eq_true h, decide_eq_true (by omega)]
        · rw [decide_eq_false h, decide_eq_false (by omega)]
      obtain ⟨z, hz⟩ : ∃ z, y.ks[k]? = some z := ⟨_, List.getElem?_eq_getElem (by rw [hlen]; exact hkl)⟩
      obtain ⟨bb, oo, zo, zc, hlo, hbb, hcc, hzt, hzc⟩ := HROW.out k z hz
      subst hlo
      have hccr := ncells_kept (hB58.block _ hbb) hcc
      have hztr : TIn wr (fun b => b < w.heap.size) z (.slice zo z.ks.length zc) := tin_below hzt hB58 (fun b _ h => by have := HG8.out; omega)
      have HX : Hid (Calls Try.prog 28 #[.slice (some ⟨bb, oo, none⟩) y.ks.length yc, .int .i64 k, .int .i64 2] wr (QPost wr (Sha w.heap.size wr) (itemG (patF y.cnt) z 2 lb))) := Lib.hid (by
        have H := array_at HEL.out (by have := HCN.out; omega) z _ oo y.ks.length yc k zo zc 2 w.heap.size wr hB'.size (Nat.lt_of_lt_of_le hbb (by omega)) hccr hztr hzc hkl hks (by omega)
        rw [hfl] at H
        exact H)
      have hcN : ∀ r, itemG (patF y.cnt) z 2 lb = .ok r → r.cnt ≤ 100000 := fun r e => by
        have := dbl_item (dbl_pat y.cnt) z 2 lb r e
        have := HCN.out
        omega
      have HCT := Lib.hid hcN
      obtain ⟨RI, hRI⟩ : ∃ RI, RI = itemG (patF y.cnt) z 2 lb := ⟨_, rfl⟩
      rw [← hRI] at HX
      have HRI := Lib.hid hRI
      have HH := Lib.hid (And.intro hrow (And.intro hL (And.intro heq (And.intro hz (And.intro hlb (And.intro hvo (And.intro hbig (And.intro hB' (And.intro hB58 (And.intro hbox (And.intro hres (And.intro hout hLk))))))))))))
      have HLEN := Lib.hid hlen
      obtain ⟨c0, c1, c2, c3, c4, c5⟩ := hccr
      skip
      have hbbr : bb < wr.heap.size := Nat.lt_of_lt_of_le hbb (by omega)
      by_cases h40 : z.op = 40
      · have g40 : (z.op == 40) = true := by simpa using h40
        obtain ⟨⟨r0, r1, r2, r3, r4, r5⟩, ⟨q0, q1, q2, q3, q4, q5⟩, hr⟩ := c_six hres
        have HZZ := Lib.hid h40
        clear hRI hrow hL heq hz hlb hvo hbig hB' hbox hres hout hLk hfl hlen hzt hcc hztr hcN hzc hB58 h40
        go_wp2
        refine bodyPost_ret (v := .tuple #[.agg #[.int .i64 0, .int .i64 0, .int .i64 0, .int .i64 0, .string ⟨#[]⟩, .slice none 0 0], .int .i64 24]) (by simp [results, Try.results17, go_sem, r0, r1, r2, r3, r4, r5]) rfl ?_
        have hRx : R = .error 24 := by
          rw [HE.out]
          refine made_er ?_
          rw [HH.out.2.2.1, drop_cons HH.out.2.2.2.1, madeL_cons, drop_empty, par_hole HZZ.out]
          rfl
        rw [hRx]
        exact ⟨rfl, rfl, c_st6 HH.out.2.2.2.2.2.2.2.1 (by omega)⟩
      have g40 : (z.op == 40) = false := by simpa using h40
      have HZZ := Lib.hid h40
      clear hRI hrow hL heq hz hlb hvo hbig hB' hbox hres hout hLk hfl hlen hzt hcc hztr hcN hzc hB58 h40
      cases RI with
      | error x =>
        go_wp2_with fail
        refine HX.out.mono ?_
        rintro e w1 ⟨hx, p0, p1, p2, p3, p4, po, pl, pc, rfl, hB1⟩
        have hne : (x != 0) = true := by simp [bne, hx]
        have hres1 := c_kept hB1 (c_lt HH.out.2.2.2.2.2.2.2.2.2.2.1) HH.out.2.2.2.2.2.2.2.2.2.2.1
        have HF := Lib.hid (And.intro hx (And.intro (c_thr HH.out.2.2.2.2.2.2.2.1 hB1 HH.out.2.2.2.2.2.2.2.1.size) hres1))
        clear hx hB1 hres1 c0 c1 c2 c3 c4 c5
        go_upto_region 13 with fail
        obtain ⟨W9, hW9⟩ : ∃ W9, W9 = w1.alloc (.cells #[.int .i64 p0, .int .i64 p1, .int .i64 p2, .int .i64 p3, .string p4, .slice po pl pc] 27) := ⟨_, rfl⟩
        rw [← hW9]
        have hres9 : W9.heap[w.heap.size + 1]? = some (.cells #[.int .i64 0, .int .i64 0, .int .i64 0, .int .i64 0, .string ⟨#[]⟩, .slice none 0 0] 27 (0, 0)) := by rw [hW9]; exact c_kept (c_box w1 _) (c_lt HF.out.2.2) HF.out.2.2
        have hB9 : Below w.heap.size w W9 := by rw [hW9]; exact c_thr HF.out.2.1 (c_box w1 _) HF.out.2.1.size
        obtain ⟨⟨r0, r1, r2, r3, r4, r5⟩, ⟨q0, q1, q2, q3, q4, q5⟩, hr⟩ := c_six hres9
        have HB9 := Lib.hid hB9
        clear hW9 hres9 hB9
        go_wp2
        refine bodyPost_ret (v := .tuple #[.agg #[.int .i64 0, .int .i64 0, .int .i64 0, .int .i64 0, .string ⟨#[]⟩, .slice none 0 0], .int .i64 x]) (by simp [results, Try.results17, go_sem, r0, r1, r2, r3, r4, r5]) rfl ?_
        have hRx : R = .error x := by
          rw [HE.out]
          refine made_er ?_
          rw [HH.out.2.2.1, drop_cons HH.out.2.2.2.1, madeL_cons, drop_empty, ← HH.out.2.2.2.2.1, par_item HZZ.out, ← HRI.out]
          rfl
        rw [hRx]
        exact ⟨HF.out.1, rfl, c_st6 HB9.out (by omega)⟩
      | ok r =>
        go_wp2_with fail
        refine HX.out.mono ?_
        rintro e w1 ⟨ko, kl, kc, rfl, htin, hB1⟩
        obtain rfl := tin_len htin
        have HF := Lib.hid (And.intro htin hB1)
        clear htin hB1 c0 c1 c2 c3 c4 c5
        go_upto_region 13 with fail
        obtain ⟨W9, hW9⟩ : ∃ W9, W9 = w1.alloc (.cells #[.int .i64 r.op, .int .i64 r.a, .int .i64 r.n, .int .i64 r.m, .string r.s, .slice ko r.ks.length kc] 27) := ⟨_, rfl⟩
        rw [← hW9]
        have hn9 : W9.heap[w1.heap.size]? = some (.cells #[.int .i64 r.op, .int .i64 r.a, .int .i64 r.n, .int .i64 r.m, .string r.s, .slice ko r.ks.length kc] 27 (0, 0)) := by rw [hW9]; exact heap_alloc_new w1 _
        have ht9 : TIn W9 (Sha w.heap.size wr) r (.slice ko r.ks.length kc) := by rw [hW9]; exact tin_kept HF.out.1 (c_box w1 _)
        have hB9 : Below wr.heap.size wr W9 := by rw [hW9]; exact c_thr HF.out.2 (c_box w1 _) HF.out.2.size
        have HRH : Hid (∀ W, Below W9.heap.size W9 W → Calls Try.prog 29 #[.agg #[.int .i64 r.op, .int .i64 r.a, .int .i64 r.n, .int .i64 r.m, .string r.s, .slice ko r.ks.length kc]] W (BPost W (!hasOf r))) := Lib.hid (fun W hW => rhas_any r ko kc W (HCT.out r HRI.out.symm) (tin_kept (tin_mono ht9 (fun _ _ _ => trivial)) hW))
        obtain ⟨⟨n0, n1, n2, n3, n4, n5⟩, -, hnl⟩ := c_six hn9
        have HF9 := Lib.hid (And.intro hn9 (And.intro ht9 hB9))
        obtain ⟨hb, hhb⟩ : ∃ hb, hb = hasOf r := ⟨_, rfl⟩
        rw [← hhb] at HRH
        have HHB := Lib.hid hhb
        clear hW9 hn9 ht9 hB9 hhb
        go_wp2_with fail
        refine (HRH.out _ (Below.refl _ _)).mono ?_
        rintro e w5 ⟨rfl, hB5⟩
        have hB5r : Below wr.heap.size wr w5 := c_thr HF9.out.2.2 hB5 HF9.out.2.2.size
        have hn5 := c_kept hB5 (c_lt HF9.out.1) HF9.out.1
        have ht5 : TIn w5 (Sha w.heap.size wr) r (.slice ko r.ks.length kc) := tin_kept HF9.out.2.1 hB5
        have hrow5 : w5.ownsRow (g8 + 1) 27 6 (.slice ro L.length rc) L.length (L.flatMap pC) := prow_kept HH.out.1 hB5r
        have hout5 := c_kept hB5r (c_lt HH.out.2.2.2.2.2.2.2.2.2.2.2.1) HH.out.2.2.2.2.2.2.2.2.2.2.2.1
        have hres5 := c_kept hB5r (c_lt HH.out.2.2.2.2.2.2.2.2.2.2.1) HH.out.2.2.2.2.2.2.2.2.2.2.1
        have H5 := Lib.hid (And.intro hrow5 (And.intro hB5r (And.intro ht5 (c_thr HH.out.2.2.2.2.2.2.2.1 hB5r HH.out.2.2.2.2.2.2.2.1.size))))
        clear n0 n1 n2 n3 n4 n5 hnl
        cases hb with
        | true =>
          obtain ⟨⟨r0, r1, r2, r3, r4, r5⟩, ⟨q0, q1, q2, q3, q4, q5⟩, hr⟩ := c_six hres5
          clear hB5 hB5r hn5 ht5 hrow5 hout5 hres5
          go_wp2
          refine bodyPost_ret (v := .tuple #[.agg #[.int .i64 0, .int .i64 0, .int .i64 0, .int .i64 0, .string ⟨#[]⟩, .slice none 0 0], .int .i64 24]) (by simp [results, Try.results17, go_sem, r0, r1, r2, r3, r4, r5]) rfl ?_
          have hRx : R = .error 24 := by
            rw [HE.out]
            refine made_er ?_
            rw [HH.out.2.2.1, drop_cons HH.out.2.2.2.1, madeL_cons, drop_empty, ← HH.out.2.2.2.2.1, par_item HZZ.out, ← HRI.out]
            simp only [← HHB.out]
            rfl
          rw [hRx]
          exact ⟨rfl, rfl, c_st6 H5.out.2.2.2 (by omega)⟩
        | false =>
          obtain ⟨⟨n0, n1, n2, n3, n4, n5⟩, -, hnl⟩ := c_six hn5
          obtain ⟨⟨b0, b1, b2, b3, b4, b5⟩, ⟨-, -, -, -, -, f5⟩, hbl⟩ := c_six hout5
          clear hB5 hB5r hn5 ht5 hrow5 hout5 hres5
          go_wp2_with (at_builtin; refine wpList_append_lies _ rfl _ _ 25 rfl (g8 + 1) 27 i0 (.agg #[.int .i64 0, .int .i64 0, .int .i64 0, .int .i64 0, .string ⟨#[]⟩, .slice none 0 0]) 6 72 hT hi hz0 hz1 hz2 rfl (by decide) (.slice ro L.length rc) _ _ rfl (H5.out.1.alloc _) ⟨w5.heap.size, 0, none⟩ 1 1 (ndC r (.slice ko r.ks.length kc)) rfl rfl ?_ ?_ (by omega) ?_ ?_ ?_ _ rfl ?_; exact World.news_of_block (cs := #[.int .i64 r.op, .int .i64 r.a, .int .i64 r.n, .int .i64 r.m, .string r.s, .slice ko r.ks.length kc]) (t := 27) (fr := (0, 0)) (heap_alloc_new w5 _); exact pC_one (r, .slice ko r.ks.length kc) ⟨_, _, _, rfl⟩; (unfold maxLen; have := HH.out.2.2.2.2.2.2.2.2.2.2.2.2; omega); (have := HH.out.2.2.2.2.2.2.2.2.2.2.2.2; omega); (simp; have h1 := HH.out.2.2.2.2.2.2.1; have h2 := H5.out.2.1.size; omega); intro g gc w4 hown' hgrow hat hglt; obtain ⟨hbox5, hst⟩ := elem_step2 (Nat.le_refl _) (by have := HG8.out; omega) HH.out.2.1 HH.out.2.2.2.2.2.2.2.2.2.2.2.2 HH.out.2.2.1 HH.out.2.2.2.1 (r := r) (lb := lb) (by rw [par_item HZZ.out, ← HRI.out]; simp only [← HHB.out]; rfl) (by exact HH.out.2.2.2.2.1) HH.out.2.2.2.2.2.1 HH.out.2.2.2.2.2.2.1 HH.out.2.2.2.2.2.2.2.1 H5.out.2.1 HH.out.2.2.2.2.2.2.2.2.2.1 HH.out.2.2.2.2.2.2.2.2.2.2.1 HH.out.2.2.2.2.2.2.2.2.2.2.2.1 H5.out.2.2.1 hgrow hat hown'; have hbel := elem_bel (v := .slice (some ⟨g, 0, none⟩) (L.length + 1) gc) HH.out.2.2.2.2.2.2.2.2.1 H5.out.2.1 HH.out.2.2.2.2.2.2.1 hgrow (fun g hg => (HH.out.2.2.2.2.2.1 g hg).1); obtain ⟨⟨p0, p1, p2, p3, p4, p5⟩, ⟨-, -, -, -, -, g5⟩, hpl⟩ := c_six hbox5; have HST := Lib.hid (And.intro hst hbel); clear hown' hgrow hat hglt hbox5 hst hbel b0 b1 b2 b3 b4 b5 f5 n0 n1 n2 n3 n4 n5)
          go_roundw
          case rel => exact HST.out
          case measure => simp [intOf]; omega
    · have g1 : decide ((k : Int) < (y.ks.length : Int)) = false := decide_eq_false (by omega)
      obtain ⟨⟨t0, t1, t2, t3, t4, t5⟩, -, hbl⟩ := c_six hout
      obtain ⟨⟨r0, r1, r2, r3, r4, r5⟩, ⟨q0, q1, q2, q3, q4, q5⟩, hr⟩ := c_six hres
      have HH := Lib.hid (And.intro hrow (And.intro hL (And.intro heq (And.intro hB' (And.intro hvo (And.intro hbig hk))))))
      have HLEN := Lib.hid hlen
      clear hrow hL heq hB' hout hres hvo hbig hbox hk hlen hB58
      go_wp2
      refine bodyPost_ret (v := .tuple #[.agg #[.int .i64 5, .int .i64 y.a, .int .i64 0, .int .i64 0, .string ⟨#[]⟩, .slice ro L.length rc], .int .i64 0]) (by simp [results, Try.results17, go_sem, r0, r1, r2, r3, r4, r5]) rfl ?_
      obtain ⟨hrow, hL, heq, hB', hvo, hbig, hk⟩ := HH.out
      have hg8 := HG8.out
      have hRx : R = .ok (.mk 5 y.a 0 0 noS (L.map (·.1))) := by
        rw [HE.out]
        refine made_ok ?_
        rw [heq, List.drop_eq_nil_of_le (by omega)]
        simp [madeL, joinM]
      rw [hRx]
      have htr : TIn wr (fun b => b < w.heap.size ∨ g8 + 1 ≤ b) (.mk 5 y.a 0 0 noS (L.map (·.1))) (.slice ro L.length rc) := tin_row hrow (fun g hg => .inr (hvo g hg).1) (fun y hy => tin_mono (hL y hy) (fun b _ hs => hs.imp id (·.1))) rfl
      exact ⟨ro, L.length, rc, rfl, tin_mono (tin_grown htr (st6_grown wr (w.heap.size + 1) 0 _ _ _ _ _ _) (fun b _ hs e => by simp at e; omega)) (fun b _ hs => trivial), c_st6 hB' (by omega)⟩
set_option linter.unusedVariables false in
set_option maxRecDepth 100000 in
set_option maxHeartbeats 4000000 in
theorem rpar_none (y : Tr) (yo : Option Addr) (yc : Nat) (w : World) (hc : y.cnt ≤ 40000) (ht0 : TIn w All y (.slice yo y.ks.length yc)) (g7 : (y.op == 7) = true) (g48 : (y.op == 48) = false) (hKS : parsL y = ([] : List Tr)) : Calls Try.prog 17 #[.agg #[.int .i64 y.op, .int .i64 y.a, .int .i64 y.n, .int .i64 y.m, .string y.s, .slice yo y.ks.length yc]] w (RPost w All (parsOf y)) := by
  obtain ⟨i0, hi, hz0, hz1, hz2⟩ := info_parts node_info
  have hT : Try.prog.underlying 25 = some (.slice 27) := Try.underlying25
  have hks := ks_le hc (by omega)
  have hE := ele_at y.cnt (by omega)
  have ht : TIn w (fun b => b < w.heap.size) y (.slice yo y.ks.length yc) := tin_mono ht0 (fun b hb _ => hb)
  obtain ⟨R, hR⟩ : ∃ R, R = parsOf y := ⟨_, rfl⟩
  rw [← hR]
  have HE : Hid (R = madeV 5 y.a 0 ([] : List Tr) 1 (parH y.cnt)) := Lib.hid (by rw [hR]; unfold parsOf; rw [hKS])
  have HEL := Lib.hid hE
  have HCN := Lib.hid hc
  clear hR hKS hE ht0 hc
  obtain ⟨W2, hW2⟩ : ∃ W2, W2 = (w.alloc (.cells #[.int .i64 y.op, .int .i64 y.a, .int .i64 y.n, .int .i64 y.m, .string y.s, .slice yo y.ks.length yc] 27)).alloc (.cells #[.int .i64 0, .int .i64 0, .int .i64 0, .int .i64 0, .string ⟨#[]⟩, .slice none 0 0] 27) := ⟨_, rfl⟩
  have hB2 : Below w.heap.size w W2 := by rw [hW2]; exact c_box2 w _ _
  have hzW : W2.heap.size = w.heap.size + 2 := by rw [hW2]; simp
  have hbox : W2.heap[w.heap.size]? = some (.cells #[.int .i64 y.op, .int .i64 y.a, .int .i64 y.n, .int .i64 y.m, .string y.s, .slice yo y.ks.length yc] 27 (0, 0)) := by rw [hW2]; exact c_new1 w _ _
  have hres : W2.heap[w.heap.size + 1]? = some (.cells #[.int .i64 0, .int .i64 0, .int .i64 0, .int .i64 0, .string ⟨#[]⟩, .slice none 0 0] 27 (0, 0)) := by rw [hW2]; exact c_new2 w _ _
  obtain ⟨⟨b0, b1, b2, b3, b4, b5⟩, -, hxl⟩ := c_six hbox
  obtain ⟨⟨r0, r1, r2, r3, r4, r5⟩, ⟨q0, q1, q2, q3, q4, q5⟩, hrl⟩ := c_six hres
  have HW := Lib.hid hW2
  have HB := Lib.hid hB2
  have HZ := Lib.hid hzW
  have HBR := Lib.hid (And.intro hbox hres)
  have HT := Lib.hid (tin_kept ht hB2)
  clear hW2 hB2 hzW hbox hres ht
  go_enter Try.func17, Try.ntmps17
  go_upto_region 1 with fail
  rw [← HW.out]
  go_upto_region 7 with fail
  obtain ⟨W4, hW4⟩ : ∃ W4, W4 = W2.alloc (.cells #[.int .i64 y.op, .int .i64 y.a, .int .i64 y.n, .int .i64 y.m, .string y.s, .slice yo y.ks.length yc] 27) := ⟨_, rfl⟩
  obtain ⟨W5, hW5⟩ : ∃ W5, W5 = W4.alloc (.cells #[.int .i64 5, .int .i64 y.a, .int .i64 0, .int .i64 0, .string ⟨#[]⟩, .slice none 0 0] 27) := ⟨_, rfl⟩
  have hB4 : Below W2.heap.size W2 W4 := by rw [hW4]; exact c_box W2 _
  have hone : W4.heap[W2.heap.size]? = some (.cells #[.int .i64 y.op, .int .i64 y.a, .int .i64 y.n, .int .i64 y.m, .string y.s, .slice yo y.ks.length yc] 27 (0, 0)) := by rw [hW4]; exact heap_alloc_new W2 _
  have hz4 : W4.heap.size = W2.heap.size + 1 := by rw [hW4]; simp
  have hB5 : Below W4.heap.size W4 W5 := by rw [hW5]; exact c_box W4 _
  have hout5 : W5.heap[W2.heap.size + 1]? = some (.cells #[.int .i64 5, .int .i64 y.a, .int .i64 0, .int .i64 0, .string ⟨#[]⟩, .slice none 0 0] 27 (0, 0)) := by rw [← hz4, hW5]; exact heap_alloc_new W4 _
  have hz5 : W5.heap.size = W2.heap.size + 2 := by rw [hW5]; simp; omega
  obtain ⟨g8, hg8⟩ : ∃ g8, g8 = W2.heap.size + 1 := ⟨_, rfl⟩
  rw [← hW4, ← hW5, ← hg8]
  rw [← hg8] at hout5
  obtain ⟨g4, hg4⟩ : ∃ g4, g4 = W2.heap.size := ⟨_, rfl⟩
  rw [← hg4] at hone
  rw [← hg4]
  have hg8w : w.heap.size + 2 ≤ g8 ∧ W5.heap.size = g8 + 1 ∧ g4 < g8 ∧ w.heap.size + 2 ≤ g4 := by have := HZ.out; omega
  have hone5 := c_kept hB5 (by omega) hone
  have hB25 : Below W2.heap.size W2 W5 := c_thr hB4 hB5 hB4.size
  have hbw5 : Below w.heap.size w W5 := c_thr HB.out hB25 HB.out.size
  have hbox5 := c_kept hB25 (c_lt HBR.out.1) HBR.out.1
  have hres5 := c_kept hB25 (c_lt HBR.out.2) HBR.out.2
  have ht5 := tin_kept HT.out hB25
  have HROW : Hid (∀ k z, ([] : List Tr)[k]? = some z → ∃ (bb oo : Nat) (zo : Option Addr) (zc : Nat), (none : Option Addr) = some ⟨bb, oo, none⟩ ∧ bb < g8 ∧ NCells W5 bb (oo + k * 6) z (.slice zo z.ks.length zc) ∧ TIn W5 (fun b => b < w.heap.size) z (.slice zo z.ks.length zc) ∧ z.cnt ≤ y.cnt) := Lib.hid (by
    intro k z hz
    simp at hz)
  have HV : Hid (RelE w w.heap.size g8 y (.slice yo y.ks.length yc) 5 y.a (parH y.cnt) 2 ([] : List Tr) (.int .i64 0) W5) := Lib.hid
    ⟨⟨0, [], .slice none 0 0, rfl, Nat.zero_le _, Nat.le_refl _, World.ownsRow_nil _ _ _ _, (fun x hx => by cases hx), (by rw [List.drop_zero]; cases madeL (parH y.cnt) 2 ([] : List Tr) <;> rfl), hout5⟩, hbox5, hres5, hbw5, by omega⟩
  have HG8 := Lib.hid hg8w
  have HB5 : Hid (Below g8 W5 W5) := Lib.hid (Below.refl _ _)
  clear hW4 hW5 hB4 hB5 hone hone5 hout5 hz4 hz5 hg8 hg4 hg8w hB25 hbw5 hbox5 hres5 ht5 b0 b1 b2 b3 b4 b5 hxl r0 r1 r2 r3 r4 r5 q0 q1 q2 q3 q4 q5 hrl
  go_wp2
  go_loopw [6] (fun i wr => RelE w w.heap.size g8 y (.slice yo y.ks.length yc) 5 y.a (parH y.cnt) 2 ([] : List Tr) i wr ∧ Below g8 W5 wr) (fun i _ => 0 - (intOf i).toNat)
  case atStart => exact ⟨HV.out, HB5.out⟩
  case round =>
    clear HV HB5
    obtain ⟨⟨⟨k, L, v, rfl, hk, hLk, hrow, hL, heq, hout⟩, hbox, hres, hB', hbig⟩, hB58⟩ := hrel
    obtain ⟨ro, rc, hv, hvo⟩ : ∃ ro rc, v = .slice ro L.length rc ∧ (∀ g, v.ownBlock = some g → g8 + 1 ≤ g ∧ g < wr.heap.size) := by
      obtain ⟨ro, rc, e, _, _, _⟩ := prow_slice hrow
      exact ⟨ro, rc, e, fun g hg => World.ownsRow.lt hrow g hg⟩
    subst hv
    have hlen : ([] : List Tr).length = 0 := rfl
    by_cases hkl : k < 0
    · exact absurd hkl (by omega)
    · have g1 : decide ((k : Int) < (0 : Int)) = false := decide_eq_false (by omega)
      obtain ⟨⟨t0, t1, t2, t3, t4, t5⟩, -, hbl⟩ := c_six hout
      obtain ⟨⟨r0, r1, r2, r3, r4, r5⟩, ⟨q0, q1, q2, q3, q4, q5⟩, hr⟩ := c_six hres
      have HH := Lib.hid (And.intro hrow (And.intro hL (And.intro heq (And.intro hB' (And.intro hvo (And.intro hbig hk))))))
      have HLEN := Lib.hid hlen
      clear hrow hL heq hB' hout hres hvo hbig hbox hk hlen hB58
      go_wp2
      refine bodyPost_ret (v := .tuple #[.agg #[.int .i64 5, .int .i64 y.a, .int .i64 0, .int .i64 0, .string ⟨#[]⟩, .slice ro L.length rc], .int .i64 0]) (by simp [results, Try.results17, go_sem, r0, r1, r2, r3, r4, r5]) rfl ?_
      obtain ⟨hrow, hL, heq, hB', hvo, hbig, hk⟩ := HH.out
      have hg8 := HG8.out
      have hRx : R = .ok (.mk 5 y.a 0 0 noS (L.map (·.1))) := by
        rw [HE.out]
        refine made_ok ?_
        rw [heq, List.drop_eq_nil_of_le (by rw [HLEN.out]; omega)]
        simp [madeL, joinM]
      rw [hRx]
      have htr : TIn wr (fun b => b < w.heap.size ∨ g8 + 1 ≤ b) (.mk 5 y.a 0 0 noS (L.map (·.1))) (.slice ro L.length rc) := tin_row hrow (fun g hg => .inr (hvo g hg).1) (fun y hy => tin_mono (hL y hy) (fun b _ hs => hs.imp id (·.1))) rfl
      exact ⟨ro, L.length, rc, rfl, tin_mono (tin_grown htr (st6_grown wr (w.heap.size + 1) 0 _ _ _ _ _ _) (fun b _ hs e => by simp at e; omega)) (fun b _ hs => trivial), c_st6 hB' (by omega)⟩
end Go.Proofs.Ytjnlifghobgkcaa

namespace Go.Proofs.Ytjnlifghobgkcaa
open Go.RowKit

def rOf : Res → Tr
  | .ok r => r
  | .error _ => zeroT
def cOf : Res → Int
  | .ok _ => 0
  | .error x => x
theorem r_post {w w' : World} {S : Nat → Prop} {R : Res} {e : Ending} (h : RPost w S R e w') : ∃ (ao : Option Addr) (cap : Nat), e = .returned (.tuple #[.agg #[.int .i64 (rOf R).op, .int .i64 (rOf R).a, .int .i64 (rOf R).n, .int .i64 (rOf R).m, .string (rOf R).s, .slice ao (rOf R).ks.length cap], .int .i64 (cOf R)]) ∧ TIn w' All (rOf R) (.slice ao (rOf R).ks.length cap) ∧ Below w.heap.size w w' := by
  cases R with
  | error x =>
    obtain ⟨_, rfl, hb⟩ := h
    exact ⟨none, 0, rfl, tin_leaf, hb⟩
  | ok r =>
    obtain ⟨ao, len, cap, rfl, ht, hb⟩ := h
    obtain rfl := tin_len ht
    exact ⟨ao, cap, rfl, tin_mono ht (fun _ _ _ => trivial), hb⟩
theorem three6 {w : World} {b1 b2 b3 : Nat} {x0 x1 x2 x3 x4 x5 y0 y1 y2 y3 y4 y5 z0 z1 z2 z3 z4 z5 : Value} {T : TypeId} (h1 : w.heap[b1]? = some (.cells #[x0, x1, x2, x3, x4, x5] T (0, 0))) (h2 : w.heap[b2]? = some (.cells #[y0, y1, y2, y3, y4, y5] T (0, 0))) (h3 : w.heap[b3]? = some (.cells #[z0, z1, z2, z3, z4, z5] T (0, 0))) :
    w.cell? ⟨b1, 0, none⟩ = some x0 ∧ w.cell? ⟨b1, 1, none⟩ = some x1 ∧ w.cell? ⟨b1, 2, none⟩ = some x2 ∧ w.cell? ⟨b1, 3, none⟩ = some x3 ∧ w.cell? ⟨b1, 4, none⟩ = some x4 ∧ w.cell? ⟨b1, 5, none⟩ = some x5 ∧ w.cell? ⟨b2, 0, none⟩ = some y0 ∧ w.cell? ⟨b2, 1, none⟩ = some y1 ∧ w.cell? ⟨b2, 2, none⟩ = some y2 ∧ w.cell? ⟨b2, 3, none⟩ = some y3 ∧ w.cell? ⟨b2, 4, none⟩ = some y4 ∧ w.cell? ⟨b2, 5, none⟩ = some y5 ∧ w.cell? ⟨b3, 0, none⟩ = some z0 ∧ w.cell? ⟨b3, 1, none⟩ = some z1 ∧ w.cell? ⟨b3, 2, none⟩ = some z2 ∧ w.cell? ⟨b3, 3, none⟩ = some z3 ∧ w.cell? ⟨b3, 4, none⟩ = some z4 ∧ w.cell? ⟨b3, 5, none⟩ = some z5 := by
  obtain ⟨⟨a0, a1, a2, a3, a4, a5⟩, -, -⟩ := c_six h1
  obtain ⟨⟨c0, c1, c2, c3, c4, c5⟩, -, -⟩ := c_six h2
  obtain ⟨⟨d0, d1, d2, d3, d4, d5⟩, -, -⟩ := c_six h3
  exact ⟨a0, a1, a2, a3, a4, a5, c0, c1, c2, c3, c4, c5, d0, d1, d2, d3, d4, d5⟩
theorem rpat_cnt {t : Tr} (h : t.cnt ≤ 401) : (rOf (patOf t)).cnt ≤ 2000 := by
  cases e : patOf t with
  | error x => show (1 : Nat) + 0 ≤ 2000; omega
  | ok r => have := pat_cnt e; show r.cnt ≤ 2000; omega
set_option linter.unusedVariables false in
set_option maxRecDepth 100000 in
set_option maxHeartbeats 4000000 in
theorem cpats_walk (l : List It) (v : Value) (w : World) (h : ItsIn w v l) : Calls Try.prog 3 #[v] w (BPost w true) := by
  have HF := Lib.hid (few_any l v w h)
  have HBU := Lib.hid (fun (hl : l.length ≤ 400) => build_any l v w hl h)
  clear h
  go_enter Try.func3, Try.ntmps3
  go_wp2_with fail
  refine HF.out.mono ?_
  rintro e w1 ⟨c, rfl, rfl, hc⟩
  cases c with
  | false =>
    go_wp2_with fail
    refine (lives_any w1).mono ?_
    rintro e w2 ⟨rfl, hB⟩
    have HB := Lib.hid hB
    clear hB
    go_wp2
    go_ret
    exact ⟨rfl, HB.out⟩
  | true =>
    have hl4 := hc rfl
    go_wp2_with fail
    refine (HBU.out hl4).mono ?_
    rintro e w2 ⟨t, ao, cap, rfl, hcnt, htin, hB⟩
    have hcn : t.cnt ≤ 401 := by omega
    have HT := Lib.hid (And.intro htin hB)
    have HC := Lib.hid hcn
    clear htin hB hcnt hc hcn
    go_upto_region 4 with fail
    obtain ⟨W3, hW3⟩ : ∃ W3, W3 = w2.alloc (.cells #[.int .i64 t.op, .int .i64 t.a, .int .i64 t.n, .int .i64 t.m, .string t.s, .slice ao t.ks.length cap] 27) := ⟨_, rfl⟩
    have hB3 : Below w2.heap.size w2 W3 := by rw [hW3]; exact c_box w2 _
    have hn3 : W3.heap[w2.heap.size]? = some (.cells #[.int .i64 t.op, .int .i64 t.a, .int .i64 t.n, .int .i64 t.m, .string t.s, .slice ao t.ks.length cap] 27 (0, 0)) := by rw [hW3]; exact heap_alloc_new w2 _
    rw [← hW3]
    obtain ⟨R, hR⟩ : ∃ R, R = patOf t := ⟨_, rfl⟩
    have HRC : Hid (R = patOf t) := Lib.hid hR
    have HX := Lib.hid (And.intro (tin_kept HT.out.1 hB3) (And.intro hn3 (c_thr HT.out.2 hB3 HT.out.2.size)))
    obtain ⟨⟨t0, t1, t2, t3, t4, t5⟩, -, hxl⟩ := c_six hn3
    clear hW3 hB3 hn3 hR
    go_wp2_with fail
    refine (pattern_top t ao _ cap _ (by have := HC.out; omega) HX.out.1).mono ?_
    rintro e w4 hp
    rw [← HRC.out] at hp
    obtain ⟨ro, rc, rfl, htr, hB4⟩ := r_post hp
    have HCN : Hid ((rOf R).cnt ≤ 2000) := Lib.hid (by rw [HRC.out]; exact rpat_cnt HC.out)
    obtain ⟨r, hr⟩ : ∃ r, r = rOf R := ⟨_, rfl⟩
    obtain ⟨cc, hcc⟩ : ∃ cc, cc = cOf R := ⟨_, rfl⟩
    rw [← hr, ← hcc]
    rw [← hr] at htr HCN
    have HRR := Lib.hid (And.intro hr hcc)
    have H4 := Lib.hid (And.intro htr (And.intro hB4 (c_kept hB4 (c_lt HX.out.2.1) HX.out.2.1)))
    clear hp hr hcc htr hB4 t0 t1 t2 t3 t4 t5 hxl
    go_upto_region 5 with fail
    obtain ⟨W5, hW5⟩ : ∃ W5, W5 = w4.alloc (.cells #[.int .i64 r.op, .int .i64 r.a, .int .i64 r.n, .int .i64 r.m, .string r.s, .slice ro r.ks.length rc] 27) := ⟨_, rfl⟩
    have hB5 : Below w4.heap.size w4 W5 := by rw [hW5]; exact c_box w4 _
    have ha5 : W5.heap[w4.heap.size]? = some (.cells #[.int .i64 r.op, .int .i64 r.a, .int .i64 r.n, .int .i64 r.m, .string r.s, .slice ro r.ks.length rc] 27 (0, 0)) := by rw [hW5]; exact heap_alloc_new w4 _
    have hn5 := c_kept hB5 (c_lt H4.out.2.2) H4.out.2.2
    have ht5 : TIn W5 All t (.slice ao t.ks.length cap) := tin_kept (tin_kept HX.out.1 H4.out.2.1) hB5
    have H5 := Lib.hid (And.intro (tin_kept H4.out.1 hB5) (And.intro (c_thr H4.out.2.1 hB5 H4.out.2.1.size) (And.intro hn5 (And.intro ha5 ht5))))
    rw [← hW5]
    obtain ⟨⟨t0, t1, t2, t3, t4, t5⟩, -, hxl⟩ := c_six hn5
    clear hW5 hB5 ha5 hn5 ht5
    go_wp2_with fail
    refine (rpat_top t ao cap _ (by have := HC.out; omega) H5.out.2.2.2.2).mono ?_
    rintro e w6 hp
    rw [← HRC.out] at hp
    obtain ⟨so, sc, rfl, hts, hB6⟩ := r_post hp
    rw [← HRR.out.1, ← HRR.out.2]
    rw [← HRR.out.1] at hts
    have H6 := Lib.hid (And.intro hts (And.intro hB6 (And.intro (c_kept hB6 (c_lt H5.out.2.2.1) H5.out.2.2.1) (c_kept hB6 (c_lt H5.out.2.2.2.1) H5.out.2.2.2.1))))
    clear hp hts hB6 t0 t1 t2 t3 t4 t5 hxl
    go_upto_region 6 with fail
    obtain ⟨W7, hW7⟩ : ∃ W7, W7 = w6.alloc (.cells #[.int .i64 r.op, .int .i64 r.a, .int .i64 r.n, .int .i64 r.m, .string r.s, .slice so r.ks.length sc] 27) := ⟨_, rfl⟩
    have hB7 : Below w6.heap.size w6 W7 := by rw [hW7]; exact c_box w6 _
    have hb7 : W7.heap[w6.heap.size]? = some (.cells #[.int .i64 r.op, .int .i64 r.a, .int .i64 r.n, .int .i64 r.m, .string r.s, .slice so r.ks.length sc] 27 (0, 0)) := by rw [hW7]; exact heap_alloc_new w6 _
    have hn7 := c_kept hB7 (c_lt H6.out.2.2.1) H6.out.2.2.1
    have ha7 := c_kept hB7 (c_lt H6.out.2.2.2) H6.out.2.2.2
    have htt : TIn W7 All t (.slice ao t.ks.length cap) := tin_kept (tin_kept H5.out.2.2.2.2 H6.out.2.1) hB7
    have htr : TIn W7 All r (.slice ro r.ks.length rc) := tin_kept (tin_kept H5.out.1 H6.out.2.1) hB7
    have hts : TIn W7 All r (.slice so r.ks.length sc) := tin_kept H6.out.1 hB7
    have h1 := c_thr HX.out.2.2 H5.out.2.1 HX.out.2.2.size
    have h2 := c_thr h1 H6.out.2.1 h1.size
    have hbw := c_thr h2 hB7 h2.size
    clear h1 h2
    rw [← hW7]
    have hS0 : W7.drew.cell? ⟨w2.heap.size, 0, none⟩ = some (.int .i64 t.op) ∧ W7.drew.cell? ⟨w2.heap.size, 1, none⟩ = some (.int .i64 t.a) ∧ W7.drew.cell? ⟨w2.heap.size, 2, none⟩ = some (.int .i64 t.n) ∧ W7.drew.cell? ⟨w2.heap.size, 3, none⟩ = some (.int .i64 t.m) ∧ W7.drew.cell? ⟨w2.heap.size, 4, none⟩ = some (.string t.s) ∧ W7.drew.cell? ⟨w2.heap.size, 5, none⟩ = some (.slice ao t.ks.length cap) ∧ W7.drew.cell? ⟨w4.heap.size, 0, none⟩ = some (.int .i64 r.op) ∧ W7.drew.cell? ⟨w4.heap.size, 1, none⟩ = some (.int .i64 r.a) ∧ W7.drew.cell? ⟨w4.heap.size, 2, none⟩ = some (.int .i64 r.n) ∧ W7.drew.cell? ⟨w4.heap.size, 3, none⟩ = some (.int .i64 r.m) ∧ W7.drew.cell? ⟨w4.heap.size, 4, none⟩ = some (.string r.s) ∧ W7.drew.cell? ⟨w4.heap.size, 5, none⟩ = some (.slice ro r.ks.length rc) ∧ W7.drew.cell? ⟨w6.heap.size, 0, none⟩ = some (.int .i64 r.op) ∧ W7.drew.cell? ⟨w6.heap.size, 1, none⟩ = some (.int .i64 r.a) ∧ W7.drew.cell? ⟨w6.heap.size, 2, none⟩ = some (.int .i64 r.n) ∧ W7.drew.cell? ⟨w6.heap.size, 3, none⟩ = some (.int .i64 r.m) ∧ W7.drew.cell? ⟨w6.heap.size, 4, none⟩ = some (.string r.s) ∧ W7.drew.cell? ⟨w6.heap.size, 5, none⟩ = some (.slice so r.ks.length sc) := three6 (w := W7.drew) hn7 ha7 hb7
    have H7 := Lib.hid (And.intro hn7 (And.intro ha7 hb7))
    have HTI := Lib.hid (And.intro htt (And.intro htr hts))
    have HBW := Lib.hid hbw
    have gc : (cc == cc) = true := by simp
    clear hW7 hB7 hb7 hn7 ha7 htt htr hts hbw
    obtain ⟨bt, hbt⟩ : ∃ bt, bt = tgtB t := ⟨_, rfl⟩
    have H14 : Hid (∀ W, Calls Try.prog 14 #[.agg #[.int .i64 t.op, .int .i64 t.a, .int .i64 t.n, .int .i64 t.m, .string t.s, .slice ao t.ks.length cap]] W (BPost W bt)) := Lib.hid (fun W => by rw [hbt]; exact target_any t.op t.a t.n t.m t.s ao t.ks.length cap W)
    have H15 : Hid (∀ W, Calls Try.prog 15 #[.agg #[.int .i64 t.op, .int .i64 t.a, .int .i64 t.n, .int .i64 t.m, .string t.s, .slice ao t.ks.length cap]] W (BPost W bt)) := Lib.hid (fun W => by rw [hbt]; exact rtarget_any t ao t.ks.length cap W)
    have gb : (bt == bt) = true := by simp
    clear hbt
    go_region_held3 (fun w' => w'.cell? ⟨w2.heap.size, 0, none⟩ = some (.int .i64 t.op) ∧ w'.cell? ⟨w2.heap.size, 1, none⟩ = some (.int .i64 t.a) ∧ w'.cell? ⟨w2.heap.size, 2, none⟩ = some (.int .i64 t.n) ∧ w'.cell? ⟨w2.heap.size, 3, none⟩ = some (.int .i64 t.m) ∧ w'.cell? ⟨w2.heap.size, 4, none⟩ = some (.string t.s) ∧ w'.cell? ⟨w2.heap.size, 5, none⟩ = some (.slice ao t.ks.length cap) ∧ w'.cell? ⟨w4.heap.size, 0, none⟩ = some (.int .i64 r.op) ∧ w'.cell? ⟨w4.heap.size, 1, none⟩ = some (.int .i64 r.a) ∧ w'.cell? ⟨w4.heap.size, 2, none⟩ = some (.int .i64 r.n) ∧ w'.cell? ⟨w4.heap.size, 3, none⟩ = some (.int .i64 r.m) ∧ w'.cell? ⟨w4.heap.size, 4, none⟩ = some (.string r.s) ∧ w'.cell? ⟨w4.heap.size, 5, none⟩ = some (.slice ro r.ks.length rc) ∧ w'.cell? ⟨w6.heap.size, 0, none⟩ = some (.int .i64 r.op) ∧ w'.cell? ⟨w6.heap.size, 1, none⟩ = some (.int .i64 r.a) ∧ w'.cell? ⟨w6.heap.size, 2, none⟩ = some (.int .i64 r.n) ∧ w'.cell? ⟨w6.heap.size, 3, none⟩ = some (.int .i64 r.m) ∧ w'.cell? ⟨w6.heap.size, 4, none⟩ = some (.string r.s) ∧ w'.cell? ⟨w6.heap.size, 5, none⟩ = some (.slice so r.ks.length sc)) (first | with_reducible assumption) (first
      | (go_at_call 13; refine (same_any 2000 r ro so rc sc _ HCN.out (by omega) ?_ ?_).mono ?_; exact tin_all HTI.out.2.1 (Below.refl _ _) rfl; exact tin_all HTI.out.2.2 (Below.refl _ _) rfl; rintro e x1 ⟨rfl, hB9⟩; have hB9' : Below W7.heap.size W7 x1 := c_thr (show Below W7.heap.size W7 W7.drew from (Below.refl _ W7).drew) hB9 ((show Below W7.heap.size W7 W7.drew from (Below.refl _ W7).drew)).size; have hSx1 : x1.cell? ⟨w2.heap.size, 0, none⟩ = some (.int .i64 t.op) ∧ x1.cell? ⟨w2.heap.size, 1, none⟩ = some (.int .i64 t.a) ∧ x1.cell? ⟨w2.heap.size, 2, none⟩ = some (.int .i64 t.n) ∧ x1.cell? ⟨w2.heap.size, 3, none⟩ = some (.int .i64 t.m) ∧ x1.cell? ⟨w2.heap.size, 4, none⟩ = some (.string t.s) ∧ x1.cell? ⟨w2.heap.size, 5, none⟩ = some (.slice ao t.ks.length cap) ∧ x1.cell? ⟨w4.heap.size, 0, none⟩ = some (.int .i64 r.op) ∧ x1.cell? ⟨w4.heap.size, 1, none⟩ = some (.int .i64 r.a) ∧ x1.cell? ⟨w4.heap.size, 2, none⟩ = some (.int .i64 r.n) ∧ x1.cell? ⟨w4.heap.size, 3, none⟩ = some (.int .i64 r.m) ∧ x1.cell? ⟨w4.heap.size, 4, none⟩ = some (.string r.s) ∧ x1.cell? ⟨w4.heap.size, 5, none⟩ = some (.slice ro r.ks.length rc) ∧ x1.cell? ⟨w6.heap.size, 0, none⟩ = some (.int .i64 r.op) ∧ x1.cell? ⟨w6.heap.size, 1, none⟩ = some (.int .i64 r.a) ∧ x1.cell? ⟨w6.heap.size, 2, none⟩ = some (.int .i64 r.n) ∧ x1.cell? ⟨w6.heap.size, 3, none⟩ = some (.int .i64 r.m) ∧ x1.cell? ⟨w6.heap.size, 4, none⟩ = some (.string r.s) ∧ x1.cell? ⟨w6.heap.size, 5, none⟩ = some (.slice so r.ks.length sc) := three6 (c_kept hB9' (c_lt H7.out.1) H7.out.1) (c_kept hB9' (c_lt H7.out.2.1) H7.out.2.1) (c_kept hB9' (c_lt H7.out.2.2) H7.out.2.2); have HBx1 := Lib.hid hB9'; clear hB9 hB9')
      | (go_at_call 14; refine (H14.out _).mono ?_; rintro e x2 ⟨rfl, hB9⟩; have hB9' : Below W7.heap.size W7 x2 := c_thr HBx1.out hB9 (HBx1.out).size; have hSx2 : x2.cell? ⟨w2.heap.size, 0, none⟩ = some (.int .i64 t.op) ∧ x2.cell? ⟨w2.heap.size, 1, none⟩ = some (.int .i64 t.a) ∧ x2.cell? ⟨w2.heap.size, 2, none⟩ = some (.int .i64 t.n) ∧ x2.cell? ⟨w2.heap.size, 3, none⟩ = some (.int .i64 t.m) ∧ x2.cell? ⟨w2.heap.size, 4, none⟩ = some (.string t.s) ∧ x2.cell? ⟨w2.heap.size, 5, none⟩ = some (.slice ao t.ks.length cap) ∧ x2.cell? ⟨w4.heap.size, 0, none⟩ = some (.int .i64 r.op) ∧ x2.cell? ⟨w4.heap.size, 1, none⟩ = some (.int .i64 r.a) ∧ x2.cell? ⟨w4.heap.size, 2, none⟩ = some (.int .i64 r.n) ∧ x2.cell? ⟨w4.heap.size, 3, none⟩ = some (.int .i64 r.m) ∧ x2.cell? ⟨w4.heap.size, 4, none⟩ = some (.string r.s) ∧ x2.cell? ⟨w4.heap.size, 5, none⟩ = some (.slice ro r.ks.length rc) ∧ x2.cell? ⟨w6.heap.size, 0, none⟩ = some (.int .i64 r.op) ∧ x2.cell? ⟨w6.heap.size, 1, none⟩ = some (.int .i64 r.a) ∧ x2.cell? ⟨w6.heap.size, 2, none⟩ = some (.int .i64 r.n) ∧ x2.cell? ⟨w6.heap.size, 3, none⟩ = some (.int .i64 r.m) ∧ x2.cell? ⟨w6.heap.size, 4, none⟩ = some (.string r.s) ∧ x2.cell? ⟨w6.heap.size, 5, none⟩ = some (.slice so r.ks.length sc) := three6 (c_kept hB9' (c_lt H7.out.1) H7.out.1) (c_kept hB9' (c_lt H7.out.2.1) H7.out.2.1) (c_kept hB9' (c_lt H7.out.2.2) H7.out.2.2); have HBx2 := Lib.hid hB9'; clear hB9 hB9')
      | (go_at_call 15; refine (H15.out _).mono ?_; rintro e x3 ⟨rfl, hB9⟩; have hB9' : Below W7.heap.size W7 x3 := c_thr HBx2.out hB9 (HBx2.out).size; have hSx3 : x3.cell? ⟨w2.heap.size, 0, none⟩ = some (.int .i64 t.op) ∧ x3.cell? ⟨w2.heap.size, 1, none⟩ = some (.int .i64 t.a) ∧ x3.cell? ⟨w2.heap.size, 2, none⟩ = some (.int .i64 t.n) ∧ x3.cell? ⟨w2.heap.size, 3, none⟩ = some (.int .i64 t.m) ∧ x3.cell? ⟨w2.heap.size, 4, none⟩ = some (.string t.s) ∧ x3.cell? ⟨w2.heap.size, 5, none⟩ = some (.slice ao t.ks.length cap) ∧ x3.cell? ⟨w4.heap.size, 0, none⟩ = some (.int .i64 r.op) ∧ x3.cell? ⟨w4.heap.size, 1, none⟩ = some (.int .i64 r.a) ∧ x3.cell? ⟨w4.heap.size, 2, none⟩ = some (.int .i64 r.n) ∧ x3.cell? ⟨w4.heap.size, 3, none⟩ = some (.int .i64 r.m) ∧ x3.cell? ⟨w4.heap.size, 4, none⟩ = some (.string r.s) ∧ x3.cell? ⟨w4.heap.size, 5, none⟩ = some (.slice ro r.ks.length rc) ∧ x3.cell? ⟨w6.heap.size, 0, none⟩ = some (.int .i64 r.op) ∧ x3.cell? ⟨w6.heap.size, 1, none⟩ = some (.int .i64 r.a) ∧ x3.cell? ⟨w6.heap.size, 2, none⟩ = some (.int .i64 r.n) ∧ x3.cell? ⟨w6.heap.size, 3, none⟩ = some (.int .i64 r.m) ∧ x3.cell? ⟨w6.heap.size, 4, none⟩ = some (.string r.s) ∧ x3.cell? ⟨w6.heap.size, 5, none⟩ = some (.slice so r.ks.length sc) := three6 (c_kept hB9' (c_lt H7.out.1) H7.out.1) (c_kept hB9' (c_lt H7.out.2.1) H7.out.2.1) (c_kept hB9' (c_lt H7.out.2.2) H7.out.2.2); have HBx3 := Lib.hid hB9'; clear hB9 hB9')
      | (go_at_call 9; refine (lives_any _).mono ?_; rintro e x4 ⟨rfl, hB9⟩; have hB9' : Below W7.heap.size W7 x4 := c_thr HBx3.out hB9 (HBx3.out).size; have hSx4 : x4.cell? ⟨w2.heap.size, 0, none⟩ = some (.int .i64 t.op) ∧ x4.cell? ⟨w2.heap.size, 1, none⟩ = some (.int .i64 t.a) ∧ x4.cell? ⟨w2.heap.size, 2, none⟩ = some (.int .i64 t.n) ∧ x4.cell? ⟨w2.heap.size, 3, none⟩ = some (.int .i64 t.m) ∧ x4.cell? ⟨w2.heap.size, 4, none⟩ = some (.string t.s) ∧ x4.cell? ⟨w2.heap.size, 5, none⟩ = some (.slice ao t.ks.length cap) ∧ x4.cell? ⟨w4.heap.size, 0, none⟩ = some (.int .i64 r.op) ∧ x4.cell? ⟨w4.heap.size, 1, none⟩ = some (.int .i64 r.a) ∧ x4.cell? ⟨w4.heap.size, 2, none⟩ = some (.int .i64 r.n) ∧ x4.cell? ⟨w4.heap.size, 3, none⟩ = some (.int .i64 r.m) ∧ x4.cell? ⟨w4.heap.size, 4, none⟩ = some (.string r.s) ∧ x4.cell? ⟨w4.heap.size, 5, none⟩ = some (.slice ro r.ks.length rc) ∧ x4.cell? ⟨w6.heap.size, 0, none⟩ = some (.int .i64 r.op) ∧ x4.cell? ⟨w6.heap.size, 1, none⟩ = some (.int .i64 r.a) ∧ x4.cell? ⟨w6.heap.size, 2, none⟩ = some (.int .i64 r.n) ∧ x4.cell? ⟨w6.heap.size, 3, none⟩ = some (.int .i64 r.m) ∧ x4.cell? ⟨w6.heap.size, 4, none⟩ = some (.string r.s) ∧ x4.cell? ⟨w6.heap.size, 5, none⟩ = some (.slice so r.ks.length sc) := three6 (c_kept hB9' (c_lt H7.out.1) H7.out.1) (c_kept hB9' (c_lt H7.out.2.1) H7.out.2.1) (c_kept hB9' (c_lt H7.out.2.2) H7.out.2.2); have HBx4 := Lib.hid hB9'; clear hB9 hB9'))
    go_wp2
    go_ret
    exact ⟨rfl, c_thr HBW.out HBx4.out HBW.out.size⟩
end Go.Proofs.Ytjnlifghobgkcaa

namespace Go.Proofs.Ytjnlifghobgkcaa
open Go.RowKit

theorem rpars_top (t : Tr) (ao : Option Addr) (cap : Nat) (w : World) (hc : t.cnt ≤ 40000) (ht : TIn w All t (.slice ao t.ks.length cap)) : Calls Try.prog 17 #[.agg #[.int .i64 t.op, .int .i64 t.a, .int .i64 t.n, .int .i64 t.m, .string t.s, .slice ao t.ks.length cap]] w (RPost w All (parsOf t)) := by
  by_cases h7 : t.op = 7
  · exact rpar_none t ao cap w hc ht (by simpa using h7) (by rw [h7]; rfl) (by unfold parsL; rw [if_pos h7])
  by_cases h48 : t.op = 48
  · exact rpar_seq t ao cap w hc ht (by simpa using h7) (by simpa using h48) (by unfold parsL; rw [if_neg h7, if_pos h48])
  · exact rpar_one t ao cap w hc ht (by simpa using h7) (by simpa using h48) (by unfold parsL; rw [if_neg h7, if_neg h48])
theorem rpars_cnt {t : Tr} (h : t.cnt ≤ 401) : (rOf (parsOf t)).cnt ≤ 2000 := by
  cases e : parsOf t with
  | error x => show (1 : Nat) + 0 ≤ 2000; omega
  | ok r => have := (pars_cnt e).2; show r.cnt ≤ 2000; omega
set_option linter.unusedVariables false in
set_option maxRecDepth 100000 in
set_option maxHeartbeats 4000000 in
theorem cpars_walk (l : List It) (v : Value) (w : World) (h : ItsIn w v l) : Calls Try.prog 4 #[v] w (BPost w true) := by
  have HF := Lib.hid (few_any l v w h)
  have HBU := Lib.hid (fun (hl : l.length ≤ 400) => build_any l v w hl h)
  clear h
  go_enter Try.func4, Try.ntmps4
  go_wp2_with fail
  refine HF.out.mono ?_
  rintro e w1 ⟨c, rfl, rfl, hc⟩
  cases c with
  | false =>
    go_wp2_with fail
    refine (lives_any w1).mono ?_
    rintro e w2 ⟨rfl, hB⟩
    have HB := Lib.hid hB
    clear hB
    go_wp2
    go_ret
    exact ⟨rfl, HB.out⟩
  | true =>
    have hl4 := hc rfl
    go_wp2_with fail
    refine (HBU.out hl4).mono ?_
    rintro e w2 ⟨t, ao, cap, rfl, hcnt, htin, hB⟩
    have hcn : t.cnt ≤ 401 := by omega
    have HT := Lib.hid (And.intro htin hB)
    have HC := Lib.hid hcn
    clear htin hB hcnt hc hcn
    go_upto_region 4 with fail
    obtain ⟨W3, hW3⟩ : ∃ W3, W3 = w2.alloc (.cells #[.int .i64 t.op, .int .i64 t.a, .int .i64 t.n, .int .i64 t.m, .string t.s, .slice ao t.ks.length cap] 27) := ⟨_, rfl⟩
    have hB3 : Below w2.heap.size w2 W3 := by rw [hW3]; exact c_box w2 _
    have hn3 : W3.heap[w2.heap.size]? = some (.cells #[.int .i64 t.op, .int .i64 t.a, .int .i64 t.n, .int .i64 t.m, .string t.s, .slice ao t.ks.length cap] 27 (0, 0)) := by rw [hW3]; exact heap_alloc_new w2 _
    rw [← hW3]
    obtain ⟨R, hR⟩ : ∃ R, R = parsOf t := ⟨_, rfl⟩
    have HRC : Hid (R = parsOf t) := Lib.hid hR
    have HX := Lib.hid (And.intro (tin_kept HT.out.1 hB3) (And.intro hn3 (c_thr HT.out.2 hB3 HT.out.2.size)))
    obtain ⟨⟨t0, t1, t2, t3, t4, t5⟩, -, hxl⟩ := c_six hn3
    clear hW3 hB3 hn3 hR
    go_wp2_with fail
    refine (params_any t ao cap _ (by have := HC.out; omega) HX.out.1).mono ?_
    rintro e w4 hp
    rw [← HRC.out] at hp
    obtain ⟨ro, rc, rfl, htr, hB4⟩ := r_post hp
    have HCN : Hid ((rOf R).cnt ≤ 2000) := Lib.hid (by rw [HRC.out]; exact rpars_cnt HC.out)
    obtain ⟨r, hr⟩ : ∃ r, r = rOf R := ⟨_, rfl⟩
    obtain ⟨cc, hcc⟩ : ∃ cc, cc = cOf R := ⟨_, rfl⟩
    rw [← hr, ← hcc]
    rw [← hr] at htr HCN
    have HRR := Lib.hid (And.intro hr hcc)
    have H4 := Lib.hid (And.intro htr (And.intro hB4 (c_kept hB4 (c_lt HX.out.2.1) HX.out.2.1)))
    clear hp hr hcc htr hB4 t0 t1 t2 t3 t4 t5 hxl
    go_upto_region 5 with fail
    obtain ⟨W5, hW5⟩ : ∃ W5, W5 = w4.alloc (.cells #[.int .i64 r.op, .int .i64 r.a, .int .i64 r.n, .int .i64 r.m, .string r.s, .slice ro r.ks.length rc] 27) := ⟨_, rfl⟩
    have hB5 : Below w4.heap.size w4 W5 := by rw [hW5]; exact c_box w4 _
    have ha5 : W5.heap[w4.heap.size]? = some (.cells #[.int .i64 r.op, .int .i64 r.a, .int .i64 r.n, .int .i64 r.m, .string r.s, .slice ro r.ks.length rc] 27 (0, 0)) := by rw [hW5]; exact heap_alloc_new w4 _
    have hn5 := c_kept hB5 (c_lt H4.out.2.2) H4.out.2.2
    have ht5 : TIn W5 All t (.slice ao t.ks.length cap) := tin_kept (tin_kept HX.out.1 H4.out.2.1) hB5
    have H5 := Lib.hid (And.intro (tin_kept H4.out.1 hB5) (And.intro (c_thr H4.out.2.1 hB5 H4.out.2.1.size) (And.intro hn5 (And.intro ha5 ht5))))
    rw [← hW5]
    obtain ⟨⟨t0, t1, t2, t3, t4, t5⟩, -, hxl⟩ := c_six hn5
    clear hW5 hB5 ha5 hn5 ht5
    go_wp2_with fail
    refine (rpars_top t ao cap _ (by have := HC.out; omega) H5.out.2.2.2.2).mono ?_
    rintro e w6 hp
    rw [← HRC.out] at hp
    obtain ⟨so, sc, rfl, hts, hB6⟩ := r_post hp
    rw [← HRR.out.1, ← HRR.out.2]
    rw [← HRR.out.1] at hts
    have H6 := Lib.hid (And.intro hts (And.intro hB6 (And.intro (c_kept hB6 (c_lt H5.out.2.2.1) H5.out.2.2.1) (c_kept hB6 (c_lt H5.out.2.2.2.1) H5.out.2.2.2.1))))
    clear hp hts hB6 t0 t1 t2 t3 t4 t5 hxl
    go_upto_region 6 with fail
    obtain ⟨W7, hW7⟩ : ∃ W7, W7 = w6.alloc (.cells #[.int .i64 r.op, .int .i64 r.a, .int .i64 r.n, .int .i64 r.m, .string r.s, .slice so r.ks.length sc] 27) := ⟨_, rfl⟩
    have hB7 : Below w6.heap.size w6 W7 := by rw [hW7]; exact c_box w6 _
    have hb7 : W7.heap[w6.heap.size]? = some (.cells #[.int .i64 r.op, .int .i64 r.a, .int .i64 r.n, .int .i64 r.m, .string r.s, .slice so r.ks.length sc] 27 (0, 0)) := by rw [hW7]; exact heap_alloc_new w6 _
    have hn7 := c_kept hB7 (c_lt H6.out.2.2.1) H6.out.2.2.1
    have ha7 := c_kept hB7 (c_lt H6.out.2.2.2) H6.out.2.2.2
    have htt : TIn W7 All t (.slice ao t.ks.length cap) := tin_kept (tin_kept H5.out.2.2.2.2 H6.out.2.1) hB7
    have htr : TIn W7 All r (.slice ro r.ks.length rc) := tin_kept (tin_kept H5.out.1 H6.out.2.1) hB7
    have hts : TIn W7 All r (.slice so r.ks.length sc) := tin_kept H6.out.1 hB7
    have h1 := c_thr HX.out.2.2 H5.out.2.1 HX.out.2.2.size
    have h2 := c_thr h1 H6.out.2.1 h1.size
    have hbw := c_thr h2 hB7 h2.size
    clear h1 h2
    rw [← hW7]
    have hS0 : W7.drew.cell? ⟨w2.heap.size, 0, none⟩ = some (.int .i64 t.op) ∧ W7.drew.cell? ⟨w2.heap.size, 1, none⟩ = some (.int .i64 t.a) ∧ W7.drew.cell? ⟨w2.heap.size, 2, none⟩ = some (.int .i64 t.n) ∧ W7.drew.cell? ⟨w2.heap.size, 3, none⟩ = some (.int .i64 t.m) ∧ W7.drew.cell? ⟨w2.heap.size, 4, none⟩ = some (.string t.s) ∧ W7.drew.cell? ⟨w2.heap.size, 5, none⟩ = some (.slice ao t.ks.length cap) ∧ W7.drew.cell? ⟨w4.heap.size, 0, none⟩ = some (.int .i64 r.op) ∧ W7.drew.cell? ⟨w4.heap.size, 1, none⟩ = some (.int .i64 r.a) ∧ W7.drew.cell? ⟨w4.heap.size, 2, none⟩ = some (.int .i64 r.n) ∧ W7.drew.cell? ⟨w4.heap.size, 3, none⟩ = some (.int .i64 r.m) ∧ W7.drew.cell? ⟨w4.heap.size, 4, none⟩ = some (.string r.s) ∧ W7.drew.cell? ⟨w4.heap.size, 5, none⟩ = some (.slice ro r.ks.length rc) ∧ W7.drew.cell? ⟨w6.heap.size, 0, none⟩ = some (.int .i64 r.op) ∧ W7.drew.cell? ⟨w6.heap.size, 1, none⟩ = some (.int .i64 r.a) ∧ W7.drew.cell? ⟨w6.heap.size, 2, none⟩ = some (.int .i64 r.n) ∧ W7.drew.cell? ⟨w6.heap.size, 3, none⟩ = some (.int .i64 r.m) ∧ W7.drew.cell? ⟨w6.heap.size, 4, none⟩ = some (.string r.s) ∧ W7.drew.cell? ⟨w6.heap.size, 5, none⟩ = some (.slice so r.ks.length sc) := three6 (w := W7.drew) hn7 ha7 hb7
    have H7 := Lib.hid (And.intro hn7 (And.intro ha7 hb7))
    have HTI := Lib.hid (And.intro htt (And.intro htr hts))
    have HBW := Lib.hid hbw
    have gc : (cc == cc) = true := by simp
    clear hW7 hB7 hb7 hn7 ha7 htt htr hts hbw
    have hkst : t.ks.length ≤ 100000 := ks_le (Nat.le_refl t.cnt) (by have := HC.out; omega)
    have hksr : r.ks.length ≤ 100000 := ks_le (Nat.le_refl r.cnt) (by have := HCN.out; omega)
    obtain ⟨bt, hbt⟩ : ∃ bt, bt = simpleB t := ⟨_, rfl⟩
    obtain ⟨br, hbr⟩ : ∃ br, br = simpleB r := ⟨_, rfl⟩
    have H18 : Hid (∀ W, TIn W All t (.slice ao t.ks.length cap) → Calls Try.prog 18 #[.agg #[.int .i64 t.op, .int .i64 t.a, .int .i64 t.n, .int .i64 t.m, .string t.s, .slice ao t.ks.length cap]] W (BPost W bt)) := Lib.hid (fun W h => by rw [hbt]; exact simple_any t ao cap W hkst h)
    have H19 : Hid (∀ W, TIn W All t (.slice ao t.ks.length cap) → Calls Try.prog 19 #[.agg #[.int .i64 t.op, .int .i64 t.a, .int .i64 t.n, .int .i64 t.m, .string t.s, .slice ao t.ks.length cap]] W (BPost W bt)) := Lib.hid (fun W h => by rw [hbt]; exact rsimple_any t ao cap W hkst h)
    have G18 : Hid (∀ W, TIn W All r (.slice ro r.ks.length rc) → Calls Try.prog 18 #[.agg #[.int .i64 r.op, .int .i64 r.a, .int .i64 r.n, .int .i64 r.m, .string r.s, .slice ro r.ks.length rc]] W (BPost W br)) := Lib.hid (fun W h => by rw [hbr]; exact simple_any r ro rc W hksr h)
    have G19 : Hid (∀ W, TIn W All r (.slice so r.ks.length sc) → Calls Try.prog 19 #[.agg #[.int .i64 r.op, .int .i64 r.a, .int .i64 r.n, .int .i64 r.m, .string r.s, .slice so r.ks.length sc]] W (BPost W br)) := Lib.hid (fun W h => by rw [hbr]; exact rsimple_any r so sc W hksr h)
    have gb : (bt == bt) = true := by simp
    have gr : (br == br) = true := by simp
    clear hbt hbr hkst hksr
    go_region_held3 (fun w' => w'.cell? ⟨w2.heap.size, 0, none⟩ = some (.int .i64 t.op) ∧ w'.cell? ⟨w2.heap.size, 1, none⟩ = some (.int .i64 t.a) ∧ w'.cell? ⟨w2.heap.size, 2, none⟩ = some (.int .i64 t.n) ∧ w'.cell? ⟨w2.heap.size, 3, none⟩ = some (.int .i64 t.m) ∧ w'.cell? ⟨w2.heap.size, 4, none⟩ = some (.string t.s) ∧ w'.cell? ⟨w2.heap.size, 5, none⟩ = some (.slice ao t.ks.length cap) ∧ w'.cell? ⟨w4.heap.size, 0, none⟩ = some (.int .i64 r.op) ∧ w'.cell? ⟨w4.heap.size, 1, none⟩ = some (.int .i64 r.a) ∧ w'.cell? ⟨w4.heap.size, 2, none⟩ = some (.int .i64 r.n) ∧ w'.cell? ⟨w4.heap.size, 3, none⟩ = some (.int .i64 r.m) ∧ w'.cell? ⟨w4.heap.size, 4, none⟩ = some (.string r.s) ∧ w'.cell? ⟨w4.heap.size, 5, none⟩ = some (.slice ro r.ks.length rc) ∧ w'.cell? ⟨w6.heap.size, 0, none⟩ = some (.int .i64 r.op) ∧ w'.cell? ⟨w6.heap.size, 1, none⟩ = some (.int .i64 r.a) ∧ w'.cell? ⟨w6.heap.size, 2, none⟩ = some (.int .i64 r.n) ∧ w'.cell? ⟨w6.heap.size, 3, none⟩ = some (.int .i64 r.m) ∧ w'.cell? ⟨w6.heap.size, 4, none⟩ = some (.string r.s) ∧ w'.cell? ⟨w6.heap.size, 5, none⟩ = some (.slice so r.ks.length sc)) (first | with_reducible assumption) (first
      | (have hh := HBx3; clear hh; go_at_call 18; refine (G18.out _ ?_).mono ?_; exact tin_all HTI.out.2.1 HBx3.out rfl; rintro e x4 ⟨rfl, hB9⟩; have hB9' : Below W7.heap.size W7 x4 := c_thr HBx3.out hB9 (HBx3.out).size; have hSx4 : x4.cell? ⟨w2.heap.size, 0, none⟩ = some (.int .i64 t.op) ∧ x4.cell? ⟨w2.heap.size, 1, none⟩ = some (.int .i64 t.a) ∧ x4.cell? ⟨w2.heap.size, 2, none⟩ = some (.int .i64 t.n) ∧ x4.cell? ⟨w2.heap.size, 3, none⟩ = some (.int .i64 t.m) ∧ x4.cell? ⟨w2.heap.size, 4, none⟩ = some (.string t.s) ∧ x4.cell? ⟨w2.heap.size, 5, none⟩ = some (.slice ao t.ks.length cap) ∧ x4.cell? ⟨w4.heap.size, 0, none⟩ = some (.int .i64 r.op) ∧ x4.cell? ⟨w4.heap.size, 1, none⟩ = some (.int .i64 r.a) ∧ x4.cell? ⟨w4.heap.size, 2, none⟩ = some (.int .i64 r.n) ∧ x4.cell? ⟨w4.heap.size, 3, none⟩ = some (.int .i64 r.m) ∧ x4.cell? ⟨w4.heap.size, 4, none⟩ = some (.string r.s) ∧ x4.cell? ⟨w4.heap.size, 5, none⟩ = some (.slice ro r.ks.length rc) ∧ x4.cell? ⟨w6.heap.size, 0, none⟩ = some (.int .i64 r.op) ∧ x4.cell? ⟨w6.heap.size, 1, none⟩ = some (.int .i64 r.a) ∧ x4.cell? ⟨w6.heap.size, 2, none⟩ = some (.int .i64 r.n) ∧ x4.cell? ⟨w6.heap.size, 3, none⟩ = some (.int .i64 r.m) ∧ x4.cell? ⟨w6.heap.size, 4, none⟩ = some (.string r.s) ∧ x4.cell? ⟨w6.heap.size, 5, none⟩ = some (.slice so r.ks.length sc) := three6 (c_kept hB9' (c_lt H7.out.1) H7.out.1) (c_kept hB9' (c_lt H7.out.2.1) H7.out.2.1) (c_kept hB9' (c_lt H7.out.2.2) H7.out.2.2); have HBx4 := Lib.hid hB9'; clear hB9 hB9')
      | (have hh := HBx4; clear hh; go_at_call 19; refine (G19.out _ ?_).mono ?_; exact tin_all HTI.out.2.2 HBx4.out rfl; rintro e x5 ⟨rfl, hB9⟩; have hB9' : Below W7.heap.size W7 x5 := c_thr HBx4.out hB9 (HBx4.out).size; have hSx5 : x5.cell? ⟨w2.heap.size, 0, none⟩ = some (.int .i64 t.op) ∧ x5.cell? ⟨w2.heap.size, 1, none⟩ = some (.int .i64 t.a) ∧ x5.cell? ⟨w2.heap.size, 2, none⟩ = some (.int .i64 t.n) ∧ x5.cell? ⟨w2.heap.size, 3, none⟩ = some (.int .i64 t.m) ∧ x5.cell? ⟨w2.heap.size, 4, none⟩ = some (.string t.s) ∧ x5.cell? ⟨w2.heap.size, 5, none⟩ = some (.slice ao t.ks.length cap) ∧ x5.cell? ⟨w4.heap.size, 0, none⟩ = some (.int .i64 r.op) ∧ x5.cell? ⟨w4.heap.size, 1, none⟩ = some (.int .i64 r.a) ∧ x5.cell? ⟨w4.heap.size, 2, none⟩ = some (.int .i64 r.n) ∧ x5.cell? ⟨w4.heap.size, 3, none⟩ = some (.int .i64 r.m) ∧ x5.cell? ⟨w4.heap.size, 4, none⟩ = some (.string r.s) ∧ x5.cell? ⟨w4.heap.size, 5, none⟩ = some (.slice ro r.ks.length rc) ∧ x5.cell? ⟨w6.heap.size, 0, none⟩ = some (.int .i64 r.op) ∧ x5.cell? ⟨w6.heap.size, 1, none⟩ = some (.int .i64 r.a) ∧ x5.cell? ⟨w6.heap.size, 2, none⟩ = some (.int .i64 r.n) ∧ x5.cell? ⟨w6.heap.size, 3, none⟩ = some (.int .i64 r.m) ∧ x5.cell? ⟨w6.heap.size, 4, none⟩ = some (.string r.s) ∧ x5.cell? ⟨w6.heap.size, 5, none⟩ = some (.slice so r.ks.length sc) := three6 (c_kept hB9' (c_lt H7.out.1) H7.out.1) (c_kept hB9' (c_lt H7.out.2.1) H7.out.2.1) (c_kept hB9' (c_lt H7.out.2.2) H7.out.2.2); have HBx5 := Lib.hid hB9'; clear hB9 hB9')
      | (go_at_call 13; refine (same_any 2000 r ro so rc sc _ HCN.out (by omega) ?_ ?_).mono ?_; exact tin_all HTI.out.2.1 (Below.refl _ _) rfl; exact tin_all HTI.out.2.2 (Below.refl _ _) rfl; rintro e x1 ⟨rfl, hB9⟩; have hB9' : Below W7.heap.size W7 x1 := c_thr (show Below W7.heap.size W7 W7.drew from (Below.refl _ W7).drew) hB9 ((show Below W7.heap.size W7 W7.drew from (Below.refl _ W7).drew)).size; have hSx1 : x1.cell? ⟨w2.heap.size, 0, none⟩ = some (.int .i64 t.op) ∧ x1.cell? ⟨w2.heap.size, 1, none⟩ = some (.int .i64 t.a) ∧ x1.cell? ⟨w2.heap.size, 2, none⟩ = some (.int .i64 t.n) ∧ x1.cell? ⟨w2.heap.size, 3, none⟩ = some (.int .i64 t.m) ∧ x1.cell? ⟨w2.heap.size, 4, none⟩ = some (.string t.s) ∧ x1.cell? ⟨w2.heap.size, 5, none⟩ = some (.slice ao t.ks.length cap) ∧ x1.cell? ⟨w4.heap.size, 0, none⟩ = some (.int .i64 r.op) ∧ x1.cell? ⟨w4.heap.size, 1, none⟩ = some (.int .i64 r.a) ∧ x1.cell? ⟨w4.heap.size, 2, none⟩ = some (.int .i64 r.n) ∧ x1.cell? ⟨w4.heap.size, 3, none⟩ = some (.int .i64 r.m) ∧ x1.cell? ⟨w4.heap.size, 4, none⟩ = some (.string r.s) ∧ x1.cell? ⟨w4.heap.size, 5, none⟩ = some (.slice ro r.ks.length rc) ∧ x1.cell? ⟨w6.heap.size, 0, none⟩ = some (.int .i64 r.op) ∧ x1.cell? ⟨w6.heap.size, 1, none⟩ = some (.int .i64 r.a) ∧ x1.cell? ⟨w6.heap.size, 2, none⟩ = some (.int .i64 r.n) ∧ x1.cell? ⟨w6.heap.size, 3, none⟩ = some (.int .i64 r.m) ∧ x1.cell? ⟨w6.heap.size, 4, none⟩ = some (.string r.s) ∧ x1.cell? ⟨w6.heap.size, 5, none⟩ = some (.slice so r.ks.length sc) := three6 (c_kept hB9' (c_lt H7.out.1) H7.out.1) (c_kept hB9' (c_lt H7.out.2.1) H7.out.2.1) (c_kept hB9' (c_lt H7.out.2.2) H7.out.2.2); have HBx1 := Lib.hid hB9'; clear hB9 hB9')
      | (go_at_call 18; refine (H18.out _ ?_).mono ?_; exact tin_all HTI.out.1 HBx1.out rfl; rintro e x2 ⟨rfl, hB9⟩; have hB9' : Below W7.heap.size W7 x2 := c_thr HBx1.out hB9 (HBx1.out).size; have hSx2 : x2.cell? ⟨w2.heap.size, 0, none⟩ = some (.int .i64 t.op) ∧ x2.cell? ⟨w2.heap.size, 1, none⟩ = some (.int .i64 t.a) ∧ x2.cell? ⟨w2.heap.size, 2, none⟩ = some (.int .i64 t.n) ∧ x2.cell? ⟨w2.heap.size, 3, none⟩ = some (.int .i64 t.m) ∧ x2.cell? ⟨w2.heap.size, 4, none⟩ = some (.string t.s) ∧ x2.cell? ⟨w2.heap.size, 5, none⟩ = some (.slice ao t.ks.length cap) ∧ x2.cell? ⟨w4.heap.size, 0, none⟩ = some (.int .i64 r.op) ∧ x2.cell? ⟨w4.heap.size, 1, none⟩ = some (.int .i64 r.a) ∧ x2.cell? ⟨w4.heap.size, 2, none⟩ = some (.int .i64 r.n) ∧ x2.cell? ⟨w4.heap.size, 3, none⟩ = some (.int .i64 r.m) ∧ x2.cell? ⟨w4.heap.size, 4, none⟩ = some (.string r.s) ∧ x2.cell? ⟨w4.heap.size, 5, none⟩ = some (.slice ro r.ks.length rc) ∧ x2.cell? ⟨w6.heap.size, 0, none⟩ = some (.int .i64 r.op) ∧ x2.cell? ⟨w6.heap.size, 1, none⟩ = some (.int .i64 r.a) ∧ x2.cell? ⟨w6.heap.size, 2, none⟩ = some (.int .i64 r.n) ∧ x2.cell? ⟨w6.heap.size, 3, none⟩ = some (.int .i64 r.m) ∧ x2.cell? ⟨w6.heap.size, 4, none⟩ = some (.string r.s) ∧ x2.cell? ⟨w6.heap.size, 5, none⟩ = some (.slice so r.ks.length sc) := three6 (c_kept hB9' (c_lt H7.out.1) H7.out.1) (c_kept hB9' (c_lt H7.out.2.1) H7.out.2.1) (c_kept hB9' (c_lt H7.out.2.2) H7.out.2.2); have HBx2 := Lib.hid hB9'; clear hB9 hB9')
      | (go_at_call 19; refine (H19.out _ ?_).mono ?_; exact tin_all HTI.out.1 HBx2.out rfl; rintro e x3 ⟨rfl, hB9⟩; have hB9' : Below W7.heap.size W7 x3 := c_thr HBx2.out hB9 (HBx2.out).size; have hSx3 : x3.cell? ⟨w2.heap.size, 0, none⟩ = some (.int .i64 t.op) ∧ x3.cell? ⟨w2.heap.size, 1, none⟩ = some (.int .i64 t.a) ∧ x3.cell? ⟨w2.heap.size, 2, none⟩ = some (.int .i64 t.n) ∧ x3.cell? ⟨w2.heap.size, 3, none⟩ = some (.int .i64 t.m) ∧ x3.cell? ⟨w2.heap.size, 4, none⟩ = some (.string t.s) ∧ x3.cell? ⟨w2.heap.size, 5, none⟩ = some (.slice ao t.ks.length cap) ∧ x3.cell? ⟨w4.heap.size, 0, none⟩ = some (.int .i64 r.op) ∧ x3.cell? ⟨w4.heap.size, 1, none⟩ = some (.int .i64 r.a) ∧ x3.cell? ⟨w4.heap.size, 2, none⟩ = some (.int .i64 r.n) ∧ x3.cell? ⟨w4.heap.size, 3, none⟩ = some (.int .i64 r.m) ∧ x3.cell? ⟨w4.heap.size, 4, none⟩ = some (.string r.s) ∧ x3.cell? ⟨w4.heap.size, 5, none⟩ = some (.slice ro r.ks.length rc) ∧ x3.cell? ⟨w6.heap.size, 0, none⟩ = some (.int .i64 r.op) ∧ x3.cell? ⟨w6.heap.size, 1, none⟩ = some (.int .i64 r.a) ∧ x3.cell? ⟨w6.heap.size, 2, none⟩ = some (.int .i64 r.n) ∧ x3.cell? ⟨w6.heap.size, 3, none⟩ = some (.int .i64 r.m) ∧ x3.cell? ⟨w6.heap.size, 4, none⟩ = some (.string r.s) ∧ x3.cell? ⟨w6.heap.size, 5, none⟩ = some (.slice so r.ks.length sc) := three6 (c_kept hB9' (c_lt H7.out.1) H7.out.1) (c_kept hB9' (c_lt H7.out.2.1) H7.out.2.1) (c_kept hB9' (c_lt H7.out.2.2) H7.out.2.2); have HBx3 := Lib.hid hB9'; clear hB9 hB9')
      | (go_at_call 9; refine (lives_any _).mono ?_; rintro e x6 ⟨rfl, hB9⟩; have hB9' : Below W7.heap.size W7 x6 := c_thr HBx5.out hB9 (HBx5.out).size; have hSx6 : x6.cell? ⟨w2.heap.size, 0, none⟩ = some (.int .i64 t.op) ∧ x6.cell? ⟨w2.heap.size, 1, none⟩ = some (.int .i64 t.a) ∧ x6.cell? ⟨w2.heap.size, 2, none⟩ = some (.int .i64 t.n) ∧ x6.cell? ⟨w2.heap.size, 3, none⟩ = some (.int .i64 t.m) ∧ x6.cell? ⟨w2.heap.size, 4, none⟩ = some (.string t.s) ∧ x6.cell? ⟨w2.heap.size, 5, none⟩ = some (.slice ao t.ks.length cap) ∧ x6.cell? ⟨w4.heap.size, 0, none⟩ = some (.int .i64 r.op) ∧ x6.cell? ⟨w4.heap.size, 1, none⟩ = some (.int .i64 r.a) ∧ x6.cell? ⟨w4.heap.size, 2, none⟩ = some (.int .i64 r.n) ∧ x6.cell? ⟨w4.heap.size, 3, none⟩ = some (.int .i64 r.m) ∧ x6.cell? ⟨w4.heap.size, 4, none⟩ = some (.string r.s) ∧ x6.cell? ⟨w4.heap.size, 5, none⟩ = some (.slice ro r.ks.length rc) ∧ x6.cell? ⟨w6.heap.size, 0, none⟩ = some (.int .i64 r.op) ∧ x6.cell? ⟨w6.heap.size, 1, none⟩ = some (.int .i64 r.a) ∧ x6.cell? ⟨w6.heap.size, 2, none⟩ = some (.int .i64 r.n) ∧ x6.cell? ⟨w6.heap.size, 3, none⟩ = some (.int .i64 r.m) ∧ x6.cell? ⟨w6.heap.size, 4, none⟩ = some (.string r.s) ∧ x6.cell? ⟨w6.heap.size, 5, none⟩ = some (.slice so r.ks.length sc) := three6 (c_kept hB9' (c_lt H7.out.1) H7.out.1) (c_kept hB9' (c_lt H7.out.2.1) H7.out.2.1) (c_kept hB9' (c_lt H7.out.2.2) H7.out.2.2); have HBx6 := Lib.hid hB9'; clear hB9 hB9'))
    go_wp2
    go_ret
    exact ⟨rfl, c_thr HBW.out HBx6.out HBW.out.size⟩
end Go.Proofs.Ytjnlifghobgkcaa

namespace Go.Proofs.Ytjnlifghobgkcaa.coverParams
open Go.ChangeShapes Go.WideShapes Go.ChangeAt Go.RowKit
open Go.ChangeMaps (open_string shut_string)
set_option linter.unusedVariables false

theorem own : ownKnob Try.prog.godebug = none := by kernel_rfl

set_option maxRecDepth 100000 in
theorem lifted (os : Os) (started : os.Started) (H : Type) (enc : TypeId × Value → H) :
    ReturnsInHanded {} Try.checked os 4 .any (Rows.coverParamsSpec.pre6 enc Try.prog Try.f4 Rows.coverParamsRow.domain false) (Rows.coverParamsSpec.post enc Try.prog Try.f4 false true false false) := by
  refine returnsInHanded_of_change (C := Try.checked) own started (by kernel_rfl) Try.func4
    (ChangeSpec.witness6 (enc := enc) (C := Try.checked) false ⟨#[], #[.slice none 0 0], []⟩ 8 (by kernel_rfl) (by kernel_rfl) (by kernel_rfl) (by kernel_rfl)) ?_
  intro W base args ds gs before hval0 hW hcnd _
  have hval : ∀ (j : Nat) t v, Try.f4.params[j]? = some t → args[j]? = some v → Value.okWide Try.prog W .any base t v := hval0
  have hW' := hW
  obtain ⟨p, q, hA0, hV, rfl, hfz, hnd⟩ := hW
  have hA : DataW.TrodAll enc Try.prog W 0 (fun _ => true) true Try.f4.params.toList args.toList ds p := hA0
  rw [Try.params4] at hA hval
  have hAK := hA
  obtain ⟨v0, vs0, d0, ds0, p0, q0, hargs, rfl, rfl, h0, r0⟩ := trodAll_cons hA
  obtain ⟨rfl, rfl, rfl⟩ := trodAll_nil r0
  obtain rfl : args = #[v0] := by cases args; simp_all
  obtain ⟨rfl, rfl⟩ := trodVars_none hV
  obtain ⟨a0, w0⟩ := open_its (hval 0 22 v0 rfl rfl) h0
  clear hA0 hval0
  simp only [List.append_nil] at hW'
  simp only [List.append_nil] at hAK
  have hr : ∀ t ∈ ([22] : List TypeId), Try.prog.readableRec t = true ∧ t < Try.prog.types.size := by
    intro t ht
    simp only [List.mem_cons, List.not_mem_nil, or_false] at ht
    subst ht
    · exact ⟨by kernel_rfl, of_decide_eq_true (by kernel_rfl)⟩
  refine (cpars_walk a0 _ W w0).mono fun e W' ⟨he, hg⟩ => ?_
  subst he
  have hK := trodAll_kept laidOut hg _ _ _ _ hr hAK (fun x hx => by simpa using hW'.lt x hx)
  exact ⟨_, rfl, _, _, _, [], _, [], hW', (trodAll_cons_mk (shut_bool Try.underlying4 _) trodAll_mk0), hK, rfl, hg.frame _, fun h => by cases h⟩

theorem over : Rows.coverParamsRow.holds Try.pinned (OpenSpec.ofChange Rows.coverParamsSpec) :=
  OpenClaim.holds_of_wide 4 Try.f4 rfl rfl rfl rfl rfl rfl rfl ⟨rfl, rfl, rfl, rfl, rfl⟩ rfl rfl rfl rfl rfl (by kernel_rfl) Try.func4 (by kernel_rfl)
    (of_decide_eq_true (by kernel_rfl)) (by unfold Func.isWrapper; first | (rw [if_pos (by decide +kernel)]; kernel_rfl) | (rw [if_neg (by decide +kernel)]; exact ⟨rfl, rfl⟩))
    (fun os started H enc _ => lifted os started H enc)

/-- the statement -/
theorem proved : Rows.CoverParamsSaid :=
  over
#print axioms proved
end Go.Proofs.Ytjnlifghobgkcaa.coverParams
