/-
  hasMember of package cover at this translation.
-/
import Derived.Test.YtjnlifghobgkcaaE1
namespace Go.Proofs.Ytjnlifghobgkcaa
open Go.RowKit

theorem tgt_len (t : Tr) : (tgtL t).length ≤ t.cnt := by
  have h1 := cntL_len (tgtL t)
  have h2 := tgt_cnt t
  omega
set_option linter.unusedVariables false in
set_option maxRecDepth 100000 in
set_option maxHeartbeats 1000000 in
theorem has_mem (t : Tr) (ao : Option Addr) (cap : Nat) (w : World) (hm : memB t = true) (ht : TIn w All t (.slice ao t.ks.length cap)) : Calls Try.prog 42 #[.agg #[.int .i64 t.op, .int .i64 t.a, .int .i64 t.n, .int .i64 t.m, .string t.s, .slice ao t.ks.length cap]] w (BPost w true) := by
  have HM := Lib.hid (fun W => isMember_any t.op t.a t.n t.m t.s ao t.ks.length cap W)
  rw [show (t.op == 51 || t.op == 52) = true from hm] at HM
  clear hm
  obtain ⟨W1, hW1⟩ : ∃ W1, W1 = w.alloc (.cells #[.int .i64 t.op, .int .i64 t.a, .int .i64 t.n, .int .i64 t.m, .string t.s, .slice ao t.ks.length cap] 27) := ⟨_, rfl⟩
  have hB1 : Below w.heap.size w W1 := by rw [hW1]; exact c_box w _
  have hbox : W1.heap[w.heap.size]? = some (.cells #[.int .i64 t.op, .int .i64 t.a, .int .i64 t.n, .int .i64 t.m, .string t.s, .slice ao t.ks.length cap] 27 (0, 0)) := by rw [hW1]; exact heap_alloc_new w _
  have HW := Lib.hid hW1
  have HX := Lib.hid (And.intro hB1 (And.intro hbox (tin_kept ht hB1)))
  obtain ⟨⟨b0, b1, b2, b3, b4, b5⟩, -, hxl⟩ := c_six hbox
  clear hW1 hB1 hbox ht
  go_enter Try.func42, Try.ntmps42
  go_upto_region 1 with fail
  rw [← HW.out]
  go_wp2_with fail
  refine (HM.out _).mono ?_
  rintro e w2 ⟨rfl, hB2⟩
  have HB2 := Lib.hid hB2
  obtain ⟨⟨c0, c1, c2, c3, c4, c5⟩, -, hxl2⟩ := c_six (c_kept hB2 (c_lt HX.out.2.1) HX.out.2.1)
  clear hB2 b0 b1 b2 b3 b4 b5
  go_wp2
  go_ret
  exact ⟨rfl, c_thr HX.out.1 HB2.out HX.out.1.size⟩
set_option linter.unusedVariables false in
set_option maxRecDepth 100000 in
set_option maxHeartbeats 1000000 in
theorem has_par (t : Tr) (ao : Option Addr) (cap : Nat) (w : World) (hm : memB t = false) (g5 : (t.op != 5) = false) (ht : TIn w All t (.slice ao t.ks.length cap)) : Calls Try.prog 42 #[.agg #[.int .i64 t.op, .int .i64 t.a, .int .i64 t.n, .int .i64 t.m, .string t.s, .slice ao t.ks.length cap]] w (BPost w false) := by
  have HM := Lib.hid (fun W => isMember_any t.op t.a t.n t.m t.s ao t.ks.length cap W)
  rw [show (t.op == 51 || t.op == 52) = false from hm] at HM
  clear hm
  obtain ⟨W1, hW1⟩ : ∃ W1, W1 = w.alloc (.cells #[.int .i64 t.op, .int .i64 t.a, .int .i64 t.n, .int .i64 t.m, .string t.s, .slice ao t.ks.length cap] 27) := ⟨_, rfl⟩
  have hB1 : Below w.heap.size w W1 := by rw [hW1]; exact c_box w _
  have hbox : W1.heap[w.heap.size]? = some (.cells #[.int .i64 t.op, .int .i64 t.a, .int .i64 t.n, .int .i64 t.m, .string t.s, .slice ao t.ks.length cap] 27 (0, 0)) := by rw [hW1]; exact heap_alloc_new w _
  have HW := Lib.hid hW1
  have HX := Lib.hid (And.intro hB1 (And.intro hbox (tin_kept ht hB1)))
  obtain ⟨⟨b0, b1, b2, b3, b4, b5⟩, -, hxl⟩ := c_six hbox
  clear hW1 hB1 hbox ht
  go_enter Try.func42, Try.ntmps42
  go_upto_region 1 with fail
  rw [← HW.out]
  go_wp2_with fail
  refine (HM.out _).mono ?_
  rintro e w2 ⟨rfl, hB2⟩
  have HB2 := Lib.hid hB2
  obtain ⟨⟨c0, c1, c2, c3, c4, c5⟩, -, hxl2⟩ := c_six (c_kept hB2 (c_lt HX.out.2.1) HX.out.2.1)
  clear hB2 b0 b1 b2 b3 b4 b5
  go_wp2
  go_ret
  exact ⟨rfl, c_thr HX.out.1 HB2.out HX.out.1.size⟩
set_option linter.unusedVariables false in
set_option maxRecDepth 100000 in
set_option maxHeartbeats 1000000 in
theorem has_tgt (N : Nat) (t : Tr) (ao : Option Addr) (cap : Nat) (w : World) (hc : t.cnt ≤ N + 1) (hN : N + 1 ≤ 100000) (hm : memB t = false) (g5 : (t.op != 5) = true) (ht : TIn w All t (.slice ao t.ks.length cap))
    (HI : Hid (∀ (x : Tr) (ao : Option Addr) (cap : Nat) (W : World), x.cnt ≤ N → TIn W All x (.slice ao x.ks.length cap) → Calls Try.prog 42 #[.agg #[.int .i64 x.op, .int .i64 x.a, .int .i64 x.n, .int .i64 x.m, .string x.s, .slice ao x.ks.length cap]] W (BPost W (hasG N x)))) : Calls Try.prog 42 #[.agg #[.int .i64 t.op, .int .i64 t.a, .int .i64 t.n, .int .i64 t.m, .string t.s, .slice ao t.ks.length cap]] w (BPost w ((tgtL t).any (hasG N))) := by
  have HM := Lib.hid (fun W => isMember_any t.op t.a t.n t.m t.s ao t.ks.length cap W)
  rw [show (t.op == 51 || t.op == 52) = false from hm] at HM
  have hks := ks_le hc hN
  have htl := tgt_len t
  have htc := tgt_cnt t
  have HG := Lib.hid (fun (W : World) (hW : TIn W All t (.slice ao t.ks.length cap)) => targets_any All t ao cap W hks hW)
  have HC := Lib.hid (fun (W : World) (so : Option Addr) (sc : Nat) (hW : TIn W All (.mk 0 0 0 0 noS (tgtL t)) (.slice so (tgtL t).length sc)) => contains_any (tgtL t) so sc W (hasG N) (by omega) hW (Lib.hid (fun x i hx ao cap W hW => HI.out x ao cap W (by have := cntL_at hx; omega) hW)))
  clear hm hks htl htc HI
  obtain ⟨W1, hW1⟩ : ∃ W1, W1 = w.alloc (.cells #[.int .i64 t.op, .int .i64 t.a, .int .i64 t.n, .int .i64 t.m, .string t.s, .slice ao t.ks.length cap] 27) := ⟨_, rfl⟩
  have hB1 : Below w.heap.size w W1 := by rw [hW1]; exact c_box w _
  have hbox : W1.heap[w.heap.size]? = some (.cells #[.int .i64 t.op, .int .i64 t.a, .int .i64 t.n, .int .i64 t.m, .string t.s, .slice ao t.ks.length cap] 27 (0, 0)) := by rw [hW1]; exact heap_alloc_new w _
  have HW := Lib.hid hW1
  have HX := Lib.hid (And.intro hB1 (And.intro hbox (tin_kept ht hB1)))
  obtain ⟨⟨b0, b1, b2, b3, b4, b5⟩, -, hxl⟩ := c_six hbox
  clear hW1 hB1 hbox ht
  go_enter Try.func42, Try.ntmps42
  go_upto_region 1 with fail
  rw [← HW.out]
  go_wp2_with fail
  refine (HM.out _).mono ?_
  rintro e w2 ⟨rfl, hB2⟩
  have HB2 := Lib.hid hB2
  obtain ⟨⟨c0, c1, c2, c3, c4, c5⟩, -, hxl2⟩ := c_six (c_kept hB2 (c_lt HX.out.2.1) HX.out.2.1)
  clear hB2 b0 b1 b2 b3 b4 b5
  go_wp2_with fail
  refine (HG.out _ (tin_kept HX.out.2.2 HB2.out)).mono ?_
  rintro e w3 ⟨so, n, sc, rfl, rfl, htin, hB3⟩
  have HT := Lib.hid htin
  have HB3 := Lib.hid (c_thr HB2.out hB3 HB2.out.size)
  clear htin hB3 c0 c1 c2 c3 c4 c5
  go_wp2_with fail
  refine (HC.out _ so sc HT.out).mono ?_
  rintro e w4 ⟨rfl, hB4⟩
  have HB4 := Lib.hid (c_thr HB3.out hB4 HB3.out.size)
  clear hB4
  go_wp2
  go_ret
  exact ⟨rfl, c_thr HX.out.1 HB4.out HX.out.1.size⟩
theorem has_any : ∀ (N : Nat), N ≤ 100000 → ∀ (t : Tr) (ao : Option Addr) (cap : Nat) (w : World), t.cnt ≤ N → TIn w All t (.slice ao t.ks.length cap) → Calls Try.prog 42 #[.agg #[.int .i64 t.op, .int .i64 t.a, .int .i64 t.n, .int .i64 t.m, .string t.s, .slice ao t.ks.length cap]] w (BPost w (hasG N t)) := by
  intro N
  induction N with
  | zero => intro _ t ao cap w h; have := cnt_pos t; omega
  | succ N ih =>
    intro hN t ao cap w hc ht
    unfold hasG
    cases hm : memB t with
    | true =>
      simp only [Bool.true_or]
      exact has_mem t ao cap w hm ht
    | false =>
      simp only [Bool.false_or]
      cases g5 : (t.op != 5) with
      | false =>
        simp only [Bool.false_and]
        exact has_par t ao cap w hm g5 ht
      | true =>
        simp only [Bool.true_and]
        exact has_tgt N t ao cap w hc hN hm g5 ht (Lib.hid (fun x ao cap W hx h => ih (by omega) x ao cap W hx h))
def hasOf (t : Tr) : Bool := hasG t.cnt t
theorem hasOf_any (t : Tr) (ao : Option Addr) (cap : Nat) (w : World) (hc : t.cnt ≤ 100000) (ht : TIn w All t (.slice ao t.ks.length cap)) : Calls Try.prog 42 #[.agg #[.int .i64 t.op, .int .i64 t.a, .int .i64 t.n, .int .i64 t.m, .string t.s, .slice ao t.ks.length cap]] w (BPost w (hasOf t)) := has_any t.cnt hc t ao cap w (Nat.le_refl _) ht
end Go.Proofs.Ytjnlifghobgkcaa
