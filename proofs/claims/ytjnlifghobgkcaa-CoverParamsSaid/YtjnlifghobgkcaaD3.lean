/-
  Names of the reference at this translation.
-/
import Derived.Test.YtjnlifghobgkcaaD2
import Derived.Laws.AppendOwnNone
namespace Go.Proofs.Ytjnlifghobgkcaa
open Go.RowKit

theorem reln_step {W1 w4 w' : World} {tl : List Tr} {N k : Nat} {y : Tr} {L : List ByteArray} {ro : Option Addr} {rc : Nat} {v' : Value} (hL : L = (tl.take k).flatMap (namesG N)) (hy : tl[k]? = some y) (hB : Below W1.heap.size W1 w4) (hown : w4.ownsRow W1.heap.size 9 1 (.slice ro L.length rc) L.length (L.map Value.string)) (hown' : w'.ownsRow W1.heap.size 9 1 v' (L.length + (namesG N y).length) (L.map Value.string ++ (namesG N y).map Value.string)) (hgrow : w4.grownBy w' (Value.slice ro L.length rc).ownBlock) : RelN W1 tl N v' (.int .i64 ((k : Int) + 1)) w' := by
  have hL2 := takes_succ (N := N) hy
  rw [← hL] at hL2
  obtain ⟨ro2, rc2, rfl, ho⟩ := own_val (L := L ++ namesG N y) (by simp) (by simp) hown'
  exact ⟨⟨k + 1, ro2, L ++ namesG N y, rc2, by simp, (List.getElem?_eq_some_iff.1 hy).1, hL2.symm, rfl, ho⟩, Below.grown hB hgrow hB.size (fun q hq => (World.ownsRow.lt hown q hq).1)⟩
theorem reln_same {W1 w4 : World} {tl : List Tr} {N k : Nat} {y : Tr} {L : List ByteArray} {ro : Option Addr} {rc : Nat} (hL : L = (tl.take k).flatMap (namesG N)) (hy : tl[k]? = some y) (hB : Below W1.heap.size W1 w4) (hown : w4.ownsRow W1.heap.size 9 1 (.slice ro L.length rc) L.length (L.map Value.string)) (hn : namesG N y = []) : RelN W1 tl N (.slice ro L.length rc) (.int .i64 ((k : Int) + 1)) w4 := by
  have hL2 := takes_succ (N := N) hy
  rw [← hL, hn, List.append_nil] at hL2
  exact ⟨⟨k + 1, ro, L, rc, by simp, (List.getElem?_eq_some_iff.1 hy).1, hL2.symm, rfl, hown⟩, hB⟩
theorem strs_one (l : List ByteArray) : ∀ u ∈ l.map Value.string, u.oneCell' = true := by
  intro u hu
  obtain ⟨s, -, rfl⟩ := List.mem_map.1 hu
  rfl
set_option linter.unusedVariables false in
set_option maxRecDepth 100000 in
set_option maxHeartbeats 1000000 in
theorem rn_a (N : Nat) (t : Tr) (ao : Option Addr) (cap : Nat) (w : World) (hks : t.ks.length ≤ 100000) (hc : t.cnt ≤ N + 1) (hN : N + 1 ≤ 100000) (ht : TIn w All t (.slice ao t.ks.length cap)) (g34 : (t.op == 34) = false) (g5 : (t.op == 5) = true) (HI : Hid (∀ (x : Tr) (ao : Option Addr) (cap : Nat) (W : World), x.cnt ≤ N → TIn W All x (.slice ao x.ks.length cap) → Calls Try.prog 22 #[.agg #[.int .i64 x.op, .int .i64 x.a, .int .i64 x.n, .int .i64 x.m, .string x.s, .slice ao x.ks.length cap]] W (OwnPost W (namesG N x)))) : Calls Try.prog 22 #[.agg #[.int .i64 t.op, .int .i64 t.a, .int .i64 t.n, .int .i64 t.m, .string t.s, .slice ao t.ks.length cap]] w (OwnPost w (t.ks.flatMap (namesG N))) := by
  obtain ⟨i0, hi, hz0, hz1, hz2⟩ := info_parts str_info
  have hT : Try.prog.underlying 35 = some (.slice 9) := Try.underlying35
  have hcn : cntL t.ks ≤ 100000 := by obtain ⟨op, a, n, m, s, ks⟩ := t; have : (Tr.mk op a n m s ks).cnt = 1 + cntL ks := rfl; show cntL ks ≤ _; omega
  have HC := Lib.hid (fun (x : Tr) (i : Nat) (hx : t.ks[i]? = some x) => (by have := cnt_kid hx; omega : x.cnt ≤ N))
  obtain ⟨W1, hW1⟩ : ∃ W1, W1 = w.alloc (.cells #[.int .i64 t.op, .int .i64 t.a, .int .i64 t.n, .int .i64 t.m, .string t.s, .slice ao t.ks.length cap] 27) := ⟨_, rfl⟩
  have hB1 : Below w.heap.size w W1 := by rw [hW1]; exact c_box w _
  have hbox : W1.heap[w.heap.size]? = some (.cells #[.int .i64 t.op, .int .i64 t.a, .int .i64 t.n, .int .i64 t.m, .string t.s, .slice ao t.ks.length cap] 27 (0, 0)) := by rw [hW1]; exact heap_alloc_new w _
  have HW := Lib.hid hW1
  have HB := Lib.hid hB1
  have HBX := Lib.hid hbox
  have HT := Lib.hid (tin_kept ht hB1)
  obtain ⟨len, hlen⟩ : ∃ len, len = t.ks.length := ⟨_, rfl⟩
  have HL := Lib.hid hlen
  rw [← hlen] at hks hbox HBX HW HT ⊢
  obtain ⟨⟨b0, b1, b2, b3, b4, b5⟩, -, hxl⟩ := c_six hbox
  have HV : Hid (RelN W1 t.ks N (.slice none 0 0) (.int .i64 0) W1) := Lib.hid ⟨⟨0, none, [], 0, rfl, Nat.zero_le _, rfl, rfl, World.ownsRow_nil _ _ _ _⟩, Below.refl _ _⟩
  clear ht hW1 hB1 hbox hc hlen
  go_enter Try.func22, Try.ntmps22
  go_upto_region 1 with fail
  rw [← HW.out]
  go_wp2
  clear b0 b1 b2 b3 b4 b5 hxl
  go_loopw [3, 4] (fun v i wr => RelN W1 t.ks N v i wr) (fun _ i _ => len - (intOf i).toNat)
  case atStart => exact HV.out
  case round =>
    clear HV
    obtain ⟨⟨k, ro, L, rc, rfl, hk, hL, rfl, hown⟩, hB⟩ := hrel
    rw [← HL.out] at hk
    obtain ⟨⟨b0, b1, b2, b3, b4, b5⟩, -, hxl⟩ := c_six (c_kept hB (c_lt HBX.out) HBX.out)
    by_cases hkl : k < len
    · have g1 : decide ((k : Int) < (len : Int)) = true := decide_eq_true (by omega)
      have k1 : (k : Int) < (len : Int) := by omega
      obtain ⟨y, hy⟩ : ∃ y, t.ks[k]? = some y := ⟨_, List.getElem?_eq_getElem (by rw [← HL.out]; exact hkl)⟩
      obtain ⟨bb, oo, xo, xl, xc, rfl, hbb, -, hcc, hyt⟩ := kidS HT.out hy
      obtain rfl := tin_len hyt
      have hbr : bb < wr.heap.size := Nat.lt_of_lt_of_le hbb hB.size
      obtain ⟨c0, c1, c2, c3, c4, c5⟩ := ncells_kept (hB.block bb hbb) hcc
      have HX := Lib.hid (fun (W : World) (hW : Below wr.heap.size wr W) => HI.out y xo xc W (HC.out y k hy) (tin_kept (tin_kept hyt hB) hW))
      have HR := Lib.hid (And.intro hL (And.intro hy (And.intro hown hB)))
      clear hL hy hown hB hcc hyt
      go_wp2_with fail
      refine (HX.out _ (by first | exact Below.refl _ _ | exact c_box _ _ | exact c_draws _ _)).mono ?_
      rintro e w4 ⟨so, sc, rfl, hown4, hB4⟩
      have hB5 : Below W1.heap.size W1 w4 := c_thr HR.out.2.2.2 hB4 HR.out.2.2.2.size
      have hown5 : w4.ownsRow W1.heap.size 9 1 (.slice ro L.length rc) L.length (L.map Value.string) := own_kept HR.out.2.2.1 hB4
      have htl := takes_len (N := N) HR.out.2.1
      rw [← HR.out.1] at htl
      have hz5 := hB5.size
      rcases hown4.2 with ⟨e, h0⟩ | ⟨g, gc, cur, e, hgb, hgg, -⟩
      · obtain ⟨rfl, -, rfl⟩ : so = none ∧ (namesG N y).length = 0 ∧ sc = 0 := by simpa using e
        have HST := Lib.hid (reln_same HR.out.1 HR.out.2.1 hB5 hown5 (List.eq_nil_of_length_eq_zero h0))
        rw [h0]
        clear hB5 hown4 hB4 HR htl e h0 b0 b1 b2 b3 b4 b5 c0 c1 c2 c3 c4 c5
        go_wp2_with ((first | (at_builtin) | fail); (first | (refine wpList_append_own_none rfl _ _ 35 rfl W1.heap.size 9 i0 1 hT hi (.slice ro L.length rc) L.length _ rfl hown5 rfl ?_) | fail))
        go_wp2
        go_roundw
        case rel => exact HST.out
        case measure => simp [intOf]; omega
      · obtain ⟨rfl, -⟩ : so = some ⟨g, 0, none⟩ ∧ sc = gc := by simpa using e
        have hnews : ∀ j u, ((namesG N y).map Value.string)[j]? = some u → w4.cell? ((⟨g, 0, none⟩ : Addr).add j) = some u := fun j u hu => World.ownsRow.cells hown4 (g := g) rfl j u hu
        have HN := Lib.hid hnews
        have HB5 := Lib.hid hB5
        have HO5 := Lib.hid hown5
        clear hB5 hown4 hB4 e hnews hgg b0 b1 b2 b3 b4 b5 c0 c1 c2 c3 c4 c5
        go_wp2_with ((first | (at_builtin) | fail); (first | (refine wpList_append_own_at _ rfl _ _ 35 rfl W1.heap.size 9 i0 (.string ⟨#[]⟩) 1 16 hT hi hz0 hz1 hz2 rfl (by decide) (.slice ro L.length rc) L.length _ rfl HO5.out ⟨g, 0, none⟩ (namesG N y).length sc ((namesG N y).map Value.string) rfl ?_ HN.out (strs_one _) ?_ ?_ hz5 ?_) | fail); (first | (simp) | fail); (first | ((unfold maxLen; omega)) | fail); (first | (omega) | fail); (first | (intro v5 w5 hown6 hgrow6 hnil6 hat6) | fail); (first | (have HST := Lib.hid (reln_step HR.out.1 HR.out.2.1 HB5.out HO5.out hown6 hgrow6)) | fail); (first | (clear hown6 hgrow6 hnil6 hat6) | fail))
        go_wp2
        go_roundw
        case rel => exact HST.out
        case measure => simp [intOf]; omega
    · have g1 : decide ((k : Int) < (len : Int)) = false := decide_eq_false (by omega)
      have HR := Lib.hid (And.intro hL (And.intro hown hB))
      have HK := Lib.hid hk
      clear hL hown hB hk
      go_wp2
      go_ret
      obtain ⟨hL, hown, hB⟩ := HR.out
      have hk := HK.out
      rw [List.take_of_length_le (by rw [← HL.out]; omega)] at hL
      subst hL
      exact ⟨ro, rc, rfl, own_mono hown HB.out.size, c_thr HB.out hB HB.out.size⟩
set_option linter.unusedVariables false in
set_option maxRecDepth 100000 in
set_option maxHeartbeats 1000000 in
theorem rn_b (N : Nat) (t : Tr) (ao : Option Addr) (cap : Nat) (w : World) (hks : t.ks.length ≤ 100000) (hc : t.cnt ≤ N + 1) (hN : N + 1 ≤ 100000) (ht : TIn w All t (.slice ao t.ks.length cap)) (g34 : (t.op == 34) = false) (g5 : (t.op == 5) = false) (g60 : (t.op == 60) = true) (HI : Hid (∀ (x : Tr) (ao : Option Addr) (cap : Nat) (W : World), x.cnt ≤ N → TIn W All x (.slice ao x.ks.length cap) → Calls Try.prog 22 #[.agg #[.int .i64 x.op, .int .i64 x.a, .int .i64 x.n, .int .i64 x.m, .string x.s, .slice ao x.ks.length cap]] W (OwnPost W (namesG N x)))) : Calls Try.prog 22 #[.agg #[.int .i64 t.op, .int .i64 t.a, .int .i64 t.n, .int .i64 t.m, .string t.s, .slice ao t.ks.length cap]] w (OwnPost w (t.ks.flatMap (namesG N))) := by
  obtain ⟨i0, hi, hz0, hz1, hz2⟩ := info_parts str_info
  have hT : Try.prog.underlying 35 = some (.slice 9) := Try.underlying35
  have hcn : cntL t.ks ≤ 100000 := by obtain ⟨op, a, n, m, s, ks⟩ := t; have : (Tr.mk op a n m s ks).cnt = 1 + cntL ks := rfl; show cntL ks ≤ _; omega
  have HC := Lib.hid (fun (x : Tr) (i : Nat) (hx : t.ks[i]? = some x) => (by have := cnt_kid hx; omega : x.cnt ≤ N))
  obtain ⟨W1, hW1⟩ : ∃ W1, W1 = w.alloc (.cells #[.int .i64 t.op, .int .i64 t.a, .int .i64 t.n, .int .i64 t.m, .string t.s, .slice ao t.ks.length cap] 27) := ⟨_, rfl⟩
  have hB1 : Below w.heap.size w W1 := by rw [hW1]; exact c_box w _
  have hbox : W1.heap[w.heap.size]? = some (.cells #[.int .i64 t.op, .int .i64 t.a, .int .i64 t.n, .int .i64 t.m, .string t.s, .slice ao t.ks.length cap] 27 (0, 0)) := by rw [hW1]; exact heap_alloc_new w _
  have HW := Lib.hid hW1
  have HB := Lib.hid hB1
  have HBX := Lib.hid hbox
  have HT := Lib.hid (tin_kept ht hB1)
  obtain ⟨len, hlen⟩ : ∃ len, len = t.ks.length := ⟨_, rfl⟩
  have HL := Lib.hid hlen
  rw [← hlen] at hks hbox HBX HW HT ⊢
  obtain ⟨⟨b0, b1, b2, b3, b4, b5⟩, -, hxl⟩ := c_six hbox
  have HV : Hid (RelN W1 t.ks N (.slice none 0 0) (.int .i64 0) W1) := Lib.hid ⟨⟨0, none, [], 0, rfl, Nat.zero_le _, rfl, rfl, World.ownsRow_nil _ _ _ _⟩, Below.refl _ _⟩
  clear ht hW1 hB1 hbox hc hlen
  go_enter Try.func22, Try.ntmps22
  go_upto_region 1 with fail
  rw [← HW.out]
  go_wp2
  clear b0 b1 b2 b3 b4 b5 hxl
  go_loopw [3, 4] (fun v i wr => RelN W1 t.ks N v i wr) (fun _ i _ => len - (intOf i).toNat)
  case atStart => exact HV.out
  case round =>
    clear HV
    obtain ⟨⟨k, ro, L, rc, rfl, hk, hL, rfl, hown⟩, hB⟩ := hrel
    rw [← HL.out] at hk
    obtain ⟨⟨b0, b1, b2, b3, b4, b5⟩, -, hxl⟩ := c_six (c_kept hB (c_lt HBX.out) HBX.out)
    by_cases hkl : k < len
    · have g1 : decide ((k : Int) < (len : Int)) = true := decide_eq_true (by omega)
      have k1 : (k : Int) < (len : Int) := by omega
      obtain ⟨y, hy⟩ : ∃ y, t.ks[k]? = some y := ⟨_, List.getElem?_eq_getElem (by rw [← HL.out]; exact hkl)⟩
      obtain ⟨bb, oo, xo, xl, xc, rfl, hbb, -, hcc, hyt⟩ := kidS HT.out hy
      obtain rfl := tin_len hyt
      have hbr : bb < wr.heap.size := Nat.lt_of_lt_of_le hbb hB.size
      obtain ⟨c0, c1, c2, c3, c4, c5⟩ := ncells_kept (hB.block bb hbb) hcc
      have HX := Lib.hid (fun (W : World) (hW : Below wr.heap.size wr W) => HI.out y xo xc W (HC.out y k hy) (tin_kept (tin_kept hyt hB) hW))
      have HR := Lib.hid (And.intro hL (And.intro hy (And.intro hown hB)))
      clear hL hy hown hB hcc hyt
      go_wp2_with fail
      refine (HX.out _ (by first | exact Below.refl _ _ | exact c_box _ _ | exact c_draws _ _)).mono ?_
      rintro e w4 ⟨so, sc, rfl, hown4, hB4⟩
      have hB5 : Below W1.heap.size W1 w4 := c_thr HR.out.2.2.2 hB4 HR.out.2.2.2.size
      have hown5 : w4.ownsRow W1.heap.size 9 1 (.slice ro L.length rc) L.length (L.map Value.string) := own_kept HR.out.2.2.1 hB4
      have htl := takes_len (N := N) HR.out.2.1
      rw [← HR.out.1] at htl
      have hz5 := hB5.size
      rcases hown4.2 with ⟨e, h0⟩ | ⟨g, gc, cur, e, hgb, hgg, -⟩
      · obtain ⟨rfl, -, rfl⟩ : so = none ∧ (namesG N y).length = 0 ∧ sc = 0 := by simpa using e
        have HST := Lib.hid (reln_same HR.out.1 HR.out.2.1 hB5 hown5 (List.eq_nil_of_length_eq_zero h0))
        rw [h0]
        clear hB5 hown4 hB4 HR htl e h0 b0 b1 b2 b3 b4 b5 c0 c1 c2 c3 c4 c5
        go_wp2_with ((first | (at_builtin) | fail); (first | (refine wpList_append_own_none rfl _ _ 35 rfl W1.heap.size 9 i0 1 hT hi (.slice ro L.length rc) L.length _ rfl hown5 rfl ?_) | fail))
        go_wp2
        go_roundw
        case rel => exact HST.out
        case measure => simp [intOf]; omega
      · obtain ⟨rfl, -⟩ : so = some ⟨g, 0, none⟩ ∧ sc = gc := by simpa using e
        have hnews : ∀ j u, ((namesG N y).map Value.string)[j]? = some u → w4.cell? ((⟨g, 0, none⟩ : Addr).add j) = some u := fun j u hu => World.ownsRow.cells hown4 (g := g) rfl j u hu
        have HN := Lib.hid hnews
        have HB5 := Lib.hid hB5
        have HO5 := Lib.hid hown5
        clear hB5 hown4 hB4 e hnews hgg b0 b1 b2 b3 b4 b5 c0 c1 c2 c3 c4 c5
        go_wp2_with ((first | (at_builtin) | fail); (first | (refine wpList_append_own_at _ rfl _ _ 35 rfl W1.heap.size 9 i0 (.string ⟨#[]⟩) 1 16 hT hi hz0 hz1 hz2 rfl (by decide) (.slice ro L.length rc) L.length _ rfl HO5.out ⟨g, 0, none⟩ (namesG N y).length sc ((namesG N y).map Value.string) rfl ?_ HN.out (strs_one _) ?_ ?_ hz5 ?_) | fail); (first | (simp) | fail); (first | ((unfold maxLen; omega)) | fail); (first | (omega) | fail); (first | (intro v5 w5 hown6 hgrow6 hnil6 hat6) | fail); (first | (have HST := Lib.hid (reln_step HR.out.1 HR.out.2.1 HB5.out HO5.out hown6 hgrow6)) | fail); (first | (clear hown6 hgrow6 hnil6 hat6) | fail))
        go_wp2
        go_roundw
        case rel => exact HST.out
        case measure => simp [intOf]; omega
    · have g1 : decide ((k : Int) < (len : Int)) = false := decide_eq_false (by omega)
      have HR := Lib.hid (And.intro hL (And.intro hown hB))
      have HK := Lib.hid hk
      clear hL hown hB hk
      go_wp2
      go_ret
      obtain ⟨hL, hown, hB⟩ := HR.out
      have hk := HK.out
      rw [List.take_of_length_le (by rw [← HL.out]; omega)] at hL
      subst hL
      exact ⟨ro, rc, rfl, own_mono hown HB.out.size, c_thr HB.out hB HB.out.size⟩
set_option linter.unusedVariables false in
set_option maxRecDepth 100000 in
set_option maxHeartbeats 1000000 in
theorem rn_c (N : Nat) (t : Tr) (ao : Option Addr) (cap : Nat) (w : World) (hks : t.ks.length ≤ 100000) (hc : t.cnt ≤ N + 1) (hN : N + 1 ≤ 100000) (ht : TIn w All t (.slice ao t.ks.length cap)) (g34 : (t.op == 34) = false) (g5 : (t.op == 5) = false) (g60 : (t.op == 60) = false) (g61 : (t.op == 61) = true) (HI : Hid (∀ (x : Tr) (ao : Option Addr) (cap : Nat) (W : World), x.cnt ≤ N → TIn W All x (.slice ao x.ks.length cap) → Calls Try.prog 22 #[.agg #[.int .i64 x.op, .int .i64 x.a, .int .i64 x.n, .int .i64 x.m, .string x.s, .slice ao x.ks.length cap]] W (OwnPost W (namesG N x)))) : Calls Try.prog 22 #[.agg #[.int .i64 t.op, .int .i64 t.a, .int .i64 t.n, .int .i64 t.m, .string t.s, .slice ao t.ks.length cap]] w (OwnPost w (t.ks.flatMap (namesG N))) := by
  obtain ⟨i0, hi, hz0, hz1, hz2⟩ := info_parts str_info
  have hT : Try.prog.underlying 35 = some (.slice 9) := Try.underlying35
  have hcn : cntL t.ks ≤ 100000 := by obtain ⟨op, a, n, m, s, ks⟩ := t; have : (Tr.mk op a n m s ks).cnt = 1 + cntL ks := rfl; show cntL ks ≤ _; omega
  have HC := Lib.hid (fun (x : Tr) (i : Nat) (hx : t.ks[i]? = some x) => (by have := cnt_kid hx; omega : x.cnt ≤ N))
  obtain ⟨W1, hW1⟩ : ∃ W1, W1 = w.alloc (.cells #[.int .i64 t.op, .int .i64 t.a, .int .i64 t.n, .int .i64 t.m, .string t.s, .slice ao t.ks.length cap] 27) := ⟨_, rfl⟩
  have hB1 : Below w.heap.size w W1 := by rw [hW1]; exact c_box w _
  have hbox : W1.heap[w.heap.size]? = some (.cells #[.int .i64 t.op, .int .i64 t.a, .int .i64 t.n, .int .i64 t.m, .string t.s, .slice ao t.ks.length cap] 27 (0, 0)) := by rw [hW1]; exact heap_alloc_new w _
  have HW := Lib.hid hW1
  have HB := Lib.hid hB1
  have HBX := Lib.hid hbox
  have HT := Lib.hid (tin_kept ht hB1)
  obtain ⟨len, hlen⟩ : ∃ len, len = t.ks.length := ⟨_, rfl⟩
  have HL := Lib.hid hlen
  rw [← hlen] at hks hbox HBX HW HT ⊢
  obtain ⟨⟨b0, b1, b2, b3, b4, b5⟩, -, hxl⟩ := c_six hbox
  have HV : Hid (RelN W1 t.ks N (.slice none 0 0) (.int .i64 0) W1) := Lib.hid ⟨⟨0, none, [], 0, rfl, Nat.zero_le _, rfl, rfl, World.ownsRow_nil _ _ _ _⟩, Below.refl _ _⟩
  clear ht hW1 hB1 hbox hc hlen
  go_enter Try.func22, Try.ntmps22
  go_upto_region 1 with fail
  rw [← HW.out]
  go_wp2
  clear b0 b1 b2 b3 b4 b5 hxl
  go_loopw [3, 4] (fun v i wr => RelN W1 t.ks N v i wr) (fun _ i _ => len - (intOf i).toNat)
  case atStart => exact HV.out
  case round =>
    clear HV
    obtain ⟨⟨k, ro, L, rc, rfl, hk, hL, rfl, hown⟩, hB⟩ := hrel
    rw [← HL.out] at hk
    obtain ⟨⟨b0, b1, b2, b3, b4, b5⟩, -, hxl⟩ := c_six (c_kept hB (c_lt HBX.out) HBX.out)
    by_cases hkl : k < len
    · have g1 : decide ((k : Int) < (len : Int)) = true := decide_eq_true (by omega)
      have k1 : (k : Int) < (len : Int) := by omega
      obtain ⟨y, hy⟩ : ∃ y, t.ks[k]? = some y := ⟨_, List.getElem?_eq_getElem (by rw [← HL.out]; exact hkl)⟩
      obtain ⟨bb, oo, xo, xl, xc, rfl, hbb, -, hcc, hyt⟩ := kidS HT.out hy
      obtain rfl := tin_len hyt
      have hbr : bb < wr.heap.size := Nat.lt_of_lt_of_le hbb hB.size
      obtain ⟨c0, c1, c2, c3, c4, c5⟩ := ncells_kept (hB.block bb hbb) hcc
      have HX := Lib.hid (fun (W : World) (hW : Below wr.heap.size wr W) => HI.out y xo xc W (HC.out y k hy) (tin_kept (tin_kept hyt hB) hW))
      have HR := Lib.hid (And.intro hL (And.intro hy (And.intro hown hB)))
      clear hL hy hown hB hcc hyt
      go_wp2_with fail
      refine (HX.out _ (by first | exact Below.refl _ _ | exact c_box _ _ | exact c_draws _ _)).mono ?_
      rintro e w4 ⟨so, sc, rfl, hown4, hB4⟩
      have hB5 : Below W1.heap.size W1 w4 := c_thr HR.out.2.2.2 hB4 HR.out.2.2.2.size
      have hown5 : w4.ownsRow W1.heap.size 9 1 (.slice ro L.length rc) L.length (L.map Value.string) := own_kept HR.out.2.2.1 hB4
      have htl := takes_len (N := N) HR.out.2.1
      rw [← HR.out.1] at htl
      have hz5 := hB5.size
      rcases hown4.2 with ⟨e, h0⟩ | ⟨g, gc, cur, e, hgb, hgg, -⟩
      · obtain ⟨rfl, -, rfl⟩ : so = none ∧ (namesG N y).length = 0 ∧ sc = 0 := by simpa using e
        have HST := Lib.hid (reln_same HR.out.1 HR.out.2.1 hB5 hown5 (List.eq_nil_of_length_eq_zero h0))
        rw [h0]
        clear hB5 hown4 hB4 HR htl e h0 b0 b1 b2 b3 b4 b5 c0 c1 c2 c3 c4 c5
        go_wp2_with ((first | (at_builtin) | fail); (first | (refine wpList_append_own_none rfl _ _ 35 rfl W1.heap.size 9 i0 1 hT hi (.slice ro L.length rc) L.length _ rfl hown5 rfl ?_) | fail))
        go_wp2
        go_roundw
        case rel => exact HST.out
        case measure => simp [intOf]; omega
      · obtain ⟨rfl, -⟩ : so = some ⟨g, 0, none⟩ ∧ sc = gc := by simpa using e
        have hnews : ∀ j u, ((namesG N y).map Value.string)[j]? = some u → w4.cell? ((⟨g, 0, none⟩ : Addr).add j) = some u := fun j u hu => World.ownsRow.cells hown4 (g := g) rfl j u hu
        have HN := Lib.hid hnews
        have HB5 := Lib.hid hB5
        have HO5 := Lib.hid hown5
        clear hB5 hown4 hB4 e hnews hgg b0 b1 b2 b3 b4 b5 c0 c1 c2 c3 c4 c5
        go_wp2_with ((first | (at_builtin) | fail); (first | (refine wpList_append_own_at _ rfl _ _ 35 rfl W1.heap.size 9 i0 (.string ⟨#[]⟩) 1 16 hT hi hz0 hz1 hz2 rfl (by decide) (.slice ro L.length rc) L.length _ rfl HO5.out ⟨g, 0, none⟩ (namesG N y).length sc ((namesG N y).map Value.string) rfl ?_ HN.out (strs_one _) ?_ ?_ hz5 ?_) | fail); (first | (simp) | fail); (first | ((unfold maxLen; omega)) | fail); (first | (omega) | fail); (first | (intro v5 w5 hown6 hgrow6 hnil6 hat6) | fail); (first | (have HST := Lib.hid (reln_step HR.out.1 HR.out.2.1 HB5.out HO5.out hown6 hgrow6)) | fail); (first | (clear hown6 hgrow6 hnil6 hat6) | fail))
        go_wp2
        go_roundw
        case rel => exact HST.out
        case measure => simp [intOf]; omega
    · have g1 : decide ((k : Int) < (len : Int)) = false := decide_eq_false (by omega)
      have HR := Lib.hid (And.intro hL (And.intro hown hB))
      have HK := Lib.hid hk
      clear hL hown hB hk
      go_wp2
      go_ret
      obtain ⟨hL, hown, hB⟩ := HR.out
      have hk := HK.out
      rw [List.take_of_length_le (by rw [← HL.out]; omega)] at hL
      subst hL
      exact ⟨ro, rc, rfl, own_mono hown HB.out.size, c_thr HB.out hB HB.out.size⟩
theorem rnames_any : ∀ (N : Nat), N ≤ 100000 → ∀ (t : Tr) (ao : Option Addr) (cap : Nat) (w : World), t.cnt ≤ N → TIn w All t (.slice ao t.ks.length cap) → Calls Try.prog 22 #[.agg #[.int .i64 t.op, .int .i64 t.a, .int .i64 t.n, .int .i64 t.m, .string t.s, .slice ao t.ks.length cap]] w (OwnPost w (namesG N t)) := by
  intro N
  induction N with
  | zero => intro _ t ao cap w h; have := cnt_pos t; omega
  | succ N ih =>
    intro hN t ao cap w hc ht
    have hks := ks_le hc hN
    have HI : Hid (∀ (x : Tr) (ao : Option Addr) (cap : Nat) (W : World), x.cnt ≤ N → TIn W All x (.slice ao x.ks.length cap) → Calls Try.prog 22 #[.agg #[.int .i64 x.op, .int .i64 x.a, .int .i64 x.n, .int .i64 x.m, .string x.s, .slice ao x.ks.length cap]] W (OwnPost W (namesG N x))) := Lib.hid (fun x ao cap W hx h => ih (by omega) x ao cap W hx h)
    unfold namesG
    by_cases h34 : t.op = 34
    · rw [if_pos h34, tgt_name h34]
      simp only [List.flatMap_nil, List.append_nil]
      exact rn_name N t ao cap w hks hc hN ht (by simpa using h34)
    · rw [if_neg h34]
      simp only [List.nil_append]
      have g34 : (t.op == 34) = false := by simpa using h34
      unfold tgtL
      by_cases h1 : t.op = 5 ∨ t.op = 60 ∨ t.op = 61
      · rw [if_pos h1]
        by_cases a : t.op = 5
        · exact rn_a N t ao cap w hks hc hN ht g34 (by simpa using a) HI
        · by_cases b : t.op = 60
          · exact rn_b N t ao cap w hks hc hN ht g34 (by simpa using a) (by simpa using b) HI
          · exact rn_c N t ao cap w hks hc hN ht g34 (by simpa using a) (by simpa using b) (by simp only [beq_iff_eq]; omega) HI
      · rw [if_neg h1]
        have g5 : (t.op == 5) = false := by simp only [beq_eq_false_iff_ne]; omega
        have g60 : (t.op == 60) = false := by simp only [beq_eq_false_iff_ne]; omega
        have g61 : (t.op == 61) = false := by simp only [beq_eq_false_iff_ne]; omega
        by_cases h2 : t.op = 63 ∨ t.op = 64
        · rw [if_pos h2]
          cases hk : t.ks with
          | nil =>
            have hl0 : t.ks.length = 0 := by rw [hk]; rfl
            rw [← hk, show t.ks.take 1 = [] by rw [hk]; rfl]
            by_cases a : t.op = 63
            · exact rn_g N t ao cap w hks hc hN ht g34 g5 g60 g61 (by simpa using a) hl0
            · exact rn_h N t ao cap w hks hc hN ht g34 g5 g60 g61 (by simpa using a) (by simp only [beq_iff_eq]; omega) hl0
          | cons x r =>
            have hx : t.ks[0]? = some x := by rw [hk]; rfl
            rw [← hk, show t.ks.take 1 = [x] by rw [hk]; rfl]
            simp only [List.flatMap_cons, List.flatMap_nil, List.append_nil]
            by_cases a : t.op = 63
            · exact rn_d N t ao cap w hks hc hN ht g34 g5 g60 g61 (by simpa using a) x hx HI
            · exact rn_e N t ao cap w hks hc hN ht g34 g5 g60 g61 (by simpa using a) (by simp only [beq_iff_eq]; omega) x hx HI
        · rw [if_neg h2]
          have g63 : (t.op == 63) = false := by simp only [beq_eq_false_iff_ne]; omega
          have g64 : (t.op == 64) = false := by simp only [beq_eq_false_iff_ne]; omega
          by_cases h3 : t.op = 62 ∧ 1 < t.ks.length
          · rw [if_pos h3]
            have hx := List.getElem?_eq_getElem h3.2
            have e : (t.ks.drop 1).take 1 = [t.ks[1]'h3.2] := by rw [drop_cons hx]; rfl
            rw [e]
            simp only [List.flatMap_cons, List.flatMap_nil, List.append_nil]
            exact rn_f N t ao cap w hks hc hN ht g34 g5 g60 g61 g63 g64 (by simpa using h3.1) _ hx HI
          · rw [if_neg h3]
            simp only [List.flatMap_nil]
            by_cases a : t.op = 62
            · exact rn_i N t ao cap w hks hc hN ht g34 g5 g60 g61 g63 g64 (by simpa using a) (fun h => h3 ⟨a, h⟩)
            · exact rn_j N t ao cap w hks hc hN ht g34 g5 g60 g61 g63 g64 (by simpa using a)
theorem rnames_of (t : Tr) (ao : Option Addr) (cap : Nat) (w : World) (hc : t.cnt ≤ 100000) (ht : TIn w All t (.slice ao t.ks.length cap)) : Calls Try.prog 22 #[.agg #[.int .i64 t.op, .int .i64 t.a, .int .i64 t.n, .int .i64 t.m, .string t.s, .slice ao t.ks.length cap]] w (StrPost w (namesOf t)) :=
  (rnames_any t.cnt hc t ao cap w (Nat.le_refl _) ht).mono fun _ _ h => by
    obtain ⟨ro, rc, he, ho, hb⟩ := h
    exact ⟨_, he, str_own ho, hb⟩
end Go.Proofs.Ytjnlifghobgkcaa
