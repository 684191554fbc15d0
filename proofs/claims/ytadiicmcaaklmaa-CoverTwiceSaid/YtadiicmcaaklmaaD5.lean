/-
  The law CoverNames at this translation: true, whatever the tree.
-/
import Derived.Test.YtadiicmcaaklmaaD4
import Derived.Test.YtadiicmcaaklmaaD3
import Derived.Test.YtadiicmcaaklmaaD1
namespace Go.Proofs.Ytadiicmcaaklmaa
open Go.RowKit

set_option linter.unusedVariables false in
set_option maxRecDepth 100000 in
set_option maxHeartbeats 1000000 in
theorem cnames_walk (l : List It) (v : Value) (w : World) (h : ItsIn w v l) : Calls Try.prog 5 #[v] w (BPost w true) := by
  have HF := Lib.hid (few_any l v w h)
  have HBU := Lib.hid (fun (hl : l.length ≤ 400) => build_any l v w hl h)
  clear h
  go_enter Try.func5, Try.ntmps5
  go_wp2_with fail
  refine HF.out.mono ?_
  rintro e w1 ⟨c, rfl, rfl, hc⟩
  cases c with
  | false =>
    go_wp2_with fail
    refine (lives_any w1).mono ?_
    rintro e w2 ⟨rfl, hB⟩
    have HB := Lib.hid hB
    clear hB
    go_wp2
    go_ret
    exact ⟨rfl, HB.out⟩
  | true =>
    have hl4 := hc rfl
    go_wp2_with fail
    refine (HBU.out hl4).mono ?_
    rintro e w2 ⟨t, ao, cap, rfl, hcnt, htin, hB⟩
    have hcn : t.cnt ≤ 100000 := by omega
    have hnl : (namesOf t).length ≤ 100000 := Nat.le_trans (names_len _ t) hcn
    have HT := Lib.hid (And.intro htin hB)
    have HC := Lib.hid hcn
    have HNL := Lib.hid hnl
    clear htin hB hcnt hc hcn hnl
    go_upto_region 4 with fail
    obtain ⟨W3, hW3⟩ : ∃ W3, W3 = w2.alloc (.cells #[.int .i64 t.op, .int .i64 t.a, .int .i64 t.n, .int .i64 t.m, .string t.s, .slice ao t.ks.length cap] 27) := ⟨_, rfl⟩
    have hB3 : Below w2.heap.size w2 W3 := by rw [hW3]; exact c_box w2 _
    have hn3 : W3.heap[w2.heap.size]? = some (.cells #[.int .i64 t.op, .int .i64 t.a, .int .i64 t.n, .int .i64 t.m, .string t.s, .slice ao t.ks.length cap] 27 (0, 0)) := by rw [hW3]; exact heap_alloc_new w2 _
    rw [← hW3]
    have hS0 : W3.drew.cell? ⟨w2.heap.size, 0, none⟩ = some (.int .i64 t.op) ∧ W3.drew.cell? ⟨w2.heap.size, 1, none⟩ = some (.int .i64 t.a) ∧ W3.drew.cell? ⟨w2.heap.size, 2, none⟩ = some (.int .i64 t.n) ∧ W3.drew.cell? ⟨w2.heap.size, 3, none⟩ = some (.int .i64 t.m) ∧ W3.drew.cell? ⟨w2.heap.size, 4, none⟩ = some (.string t.s) ∧ W3.drew.cell? ⟨w2.heap.size, 5, none⟩ = some (.slice ao t.ks.length cap) := (c_six (w := W3.drew) hn3).1
    have HX := Lib.hid (And.intro (tin_kept HT.out.1 hB3) (And.intro hn3 (c_thr HT.out.2 hB3 HT.out.2.size)))
    have hxl := c_lt hn3
    clear hW3 hB3 hn3
    go_region_held3 (fun w' => w'.cell? ⟨w2.heap.size, 0, none⟩ = some (.int .i64 t.op) ∧ w'.cell? ⟨w2.heap.size, 1, none⟩ = some (.int .i64 t.a) ∧ w'.cell? ⟨w2.heap.size, 2, none⟩ = some (.int .i64 t.n) ∧ w'.cell? ⟨w2.heap.size, 3, none⟩ = some (.int .i64 t.m) ∧ w'.cell? ⟨w2.heap.size, 4, none⟩ = some (.string t.s) ∧ w'.cell? ⟨w2.heap.size, 5, none⟩ = some (.slice ao t.ks.length cap)) (first | with_reducible assumption) (first
      | (go_at_call 21; refine (names_any t ao cap _ HC.out ?_).mono ?_; exact tin_all HX.out.1 (Below.refl _ _) rfl; rintro e w5 ⟨v5, rfl, hs5, hB5⟩; have hB5' : Below W3.heap.size W3 w5 := c_thr (Below.refl _ W3).drew hB5 (Nat.le_refl _); have hS5 : w5.cell? ⟨w2.heap.size, 0, none⟩ = some (.int .i64 t.op) ∧ w5.cell? ⟨w2.heap.size, 1, none⟩ = some (.int .i64 t.a) ∧ w5.cell? ⟨w2.heap.size, 2, none⟩ = some (.int .i64 t.n) ∧ w5.cell? ⟨w2.heap.size, 3, none⟩ = some (.int .i64 t.m) ∧ w5.cell? ⟨w2.heap.size, 4, none⟩ = some (.string t.s) ∧ w5.cell? ⟨w2.heap.size, 5, none⟩ = some (.slice ao t.ks.length cap) := (c_six (c_kept hB5' (c_lt HX.out.2.1) HX.out.2.1)).1; have H5 := Lib.hid (And.intro hs5 hB5'); clear hs5 hB5 hB5')
      | (go_at_call 22; refine (rnames_of t ao cap w5 HC.out ?_).mono ?_; exact tin_all HX.out.1 H5.out.2 rfl; rintro e w6 ⟨v6, rfl, hs6, hB6⟩; have hB6' : Below W3.heap.size W3 w6 := c_thr H5.out.2 hB6 H5.out.2.size; have hS6 : w6.cell? ⟨w2.heap.size, 0, none⟩ = some (.int .i64 t.op) ∧ w6.cell? ⟨w2.heap.size, 1, none⟩ = some (.int .i64 t.a) ∧ w6.cell? ⟨w2.heap.size, 2, none⟩ = some (.int .i64 t.n) ∧ w6.cell? ⟨w2.heap.size, 3, none⟩ = some (.int .i64 t.m) ∧ w6.cell? ⟨w2.heap.size, 4, none⟩ = some (.string t.s) ∧ w6.cell? ⟨w2.heap.size, 5, none⟩ = some (.slice ao t.ks.length cap) := (c_six (c_kept hB6' (c_lt HX.out.2.1) HX.out.2.1)).1; have H6 := Lib.hid (And.intro (str_kept H5.out.1 hB6) (And.intro hs6 hB6')); clear hs6 hB6 hB6')
      | (go_at_call 20; refine (texts_any (namesOf t) v5 v6 w6 HNL.out H6.out.1 H6.out.2.1).mono ?_; rintro e w7 ⟨rfl, hB7⟩; have hB7' : Below W3.heap.size W3 w7 := c_thr H6.out.2.2 hB7 H6.out.2.2.size; have hS7 : w7.cell? ⟨w2.heap.size, 0, none⟩ = some (.int .i64 t.op) ∧ w7.cell? ⟨w2.heap.size, 1, none⟩ = some (.int .i64 t.a) ∧ w7.cell? ⟨w2.heap.size, 2, none⟩ = some (.int .i64 t.n) ∧ w7.cell? ⟨w2.heap.size, 3, none⟩ = some (.int .i64 t.m) ∧ w7.cell? ⟨w2.heap.size, 4, none⟩ = some (.string t.s) ∧ w7.cell? ⟨w2.heap.size, 5, none⟩ = some (.slice ao t.ks.length cap) := (c_six (c_kept hB7' (c_lt HX.out.2.1) HX.out.2.1)).1; have H7 := Lib.hid hB7'; clear hB7 hB7')
      | (go_at_call 9; refine (lives_any w7).mono ?_; rintro e w8 ⟨rfl, hB8⟩; have hB8' : Below W3.heap.size W3 w8 := c_thr H7.out hB8 H7.out.size; have hS8 : w8.cell? ⟨w2.heap.size, 0, none⟩ = some (.int .i64 t.op) ∧ w8.cell? ⟨w2.heap.size, 1, none⟩ = some (.int .i64 t.a) ∧ w8.cell? ⟨w2.heap.size, 2, none⟩ = some (.int .i64 t.n) ∧ w8.cell? ⟨w2.heap.size, 3, none⟩ = some (.int .i64 t.m) ∧ w8.cell? ⟨w2.heap.size, 4, none⟩ = some (.string t.s) ∧ w8.cell? ⟨w2.heap.size, 5, none⟩ = some (.slice ao t.ks.length cap) := (c_six (c_kept hB8' (c_lt HX.out.2.1) HX.out.2.1)).1; have H8 := Lib.hid hB8'; clear hB8 hB8'))
    go_wp2
    go_ret
    exact ⟨rfl, c_thr HX.out.2.2 H8.out HX.out.2.2.size⟩
end Go.Proofs.Ytadiicmcaaklmaa
