/-
  The law CoverTwice at this translation: true, whatever the tree.
-/
import Derived.Test.YtadiicmcaaklmaaE5
import Derived.Laws.AppendOwnNone
import Derived.Maps.AppendAt
import Derived.Deep.Cut
namespace Go.Proofs.Ytadiicmcaaklmaa
open Go.RowKit

set_option linter.unusedVariables false in
set_option maxRecDepth 100000 in
set_option maxHeartbeats 8000000 in
theorem twice_walk (l : List It) (v : Value) (w : World) (h : ItsIn w v l) : Calls Try.prog 6 #[v] w (BPost w true) := by
  obtain ⟨i0, hi, hz0, hz1, hz2⟩ := info_parts str_info
  have hT : Try.prog.underlying 35 = some (.slice 9) := Try.underlying35
  have HF := Lib.hid (few_any l v w h)
  have HBU := Lib.hid (fun (hl : l.length ≤ 400) => build_any l v w hl h)
  have HS := Lib.hid (fun W => same_any 1 zeroT none none 0 0 W (by decide) (by omega) tin_leaf tin_leaf)
  have HS2 : Hid (∀ W : World, Calls Try.prog 13 #[.agg #[.int .i64 0, .int .i64 0, .int .i64 0, .int .i64 0, .string ⟨#[]⟩, .slice none 0 0], .agg #[.int .i64 0, .int .i64 0, .int .i64 0, .int .i64 0, .string ⟨#[]⟩, .slice none 0 0]] W (BPost W true)) := HS
  clear h HS
  go_enter Try.func6, Try.ntmps6
  go_wp2_with fail
  refine HF.out.mono ?_
  rintro e w1 ⟨c, rfl, rfl, hc⟩
  cases c with
  | false =>
    go_wp2_with fail
    refine (lives_any w1).mono ?_
    rintro e w2 ⟨rfl, hB⟩
    have HB := Lib.hid hB
    clear hB
    go_wp2
    go_ret
    exact ⟨rfl, HB.out⟩
  | true =>
    have hl4 := hc rfl
    go_wp2_with fail
    refine (HBU.out hl4).mono ?_
    rintro e w2 ⟨t, ao, cap, rfl, hcnt, htin, hB⟩
    have hcn : t.cnt ≤ 40000 := by omega
    have HT := Lib.hid (And.intro htin hB)
    have HC4 := Lib.hid hcn
    obtain ⟨W3, hW3⟩ : ∃ W3, W3 = w2.alloc (.cells #[.int .i64 t.op, .int .i64 t.a, .int .i64 t.n, .int .i64 t.m, .string t.s, .slice ao t.ks.length cap] 27) := ⟨_, rfl⟩
    have hB3 : Below w2.heap.size w2 W3 := by rw [hW3]; exact c_box w2 _
    have hn3 : W3.heap[w2.heap.size]? = some (.cells #[.int .i64 t.op, .int .i64 t.a, .int .i64 t.n, .int .i64 t.m, .string t.s, .slice ao t.ks.length cap] 27 (0, 0)) := by rw [hW3]; exact heap_alloc_new w2 _
    have HX := Lib.hid (And.intro (tin_kept HT.out.1 hB3) (And.intro hn3 (c_thr HT.out.2 hB3 HT.out.2.size)))
    obtain ⟨RP, hRP⟩ : ∃ RP, RP = parsOf t := ⟨_, rfl⟩
    have HP := Lib.hid (fun (W : World) (hW : Below W3.heap.size W3 W) => params_any t ao cap W hcn (tin_kept HX.out.1 hW))
    rw [← hRP] at HP
    have HRP := Lib.hid hRP
    obtain ⟨RA, hRA⟩ : ∃ RA, RA = patOf t := ⟨_, rfl⟩
    have HA := Lib.hid (pattern_top t ao t.ks.length cap W3 (by omega) HX.out.1)
    rw [← hRA] at HA
    have HRA := Lib.hid hRA
    have HW3 := Lib.hid hW3
    obtain ⟨⟨b0, b1, b2, b3, b4, b5⟩, -, hbl⟩ := c_six hn3
    clear htin hB hcnt hc hcn hW3 hB3 hn3 hRP hRA
    go_upto_region 4 with fail
    rw [← HW3.out]
    go_wp2_with fail
    refine HA.out.mono ?_
    clear b0 b1 b2 b3 b4 b5 hbl
    cases RA with
    | error x =>
      rintro e w4 ⟨hx, rfl, hB4⟩
      have HB4 := Lib.hid hB4
      clear hB4
      go_wp2_with fail
      refine (HS2.out _).mono ?_
      rintro e wq ⟨rfl, hBq⟩
      have HQ := Lib.hid (c_thr HB4.out (c_thr (c_box w4 _) hBq (by simp)) HB4.out.size)
      clear hBq
      obtain ⟨⟨b0, b1, b2, b3, b4, b5⟩, -, hbl⟩ := c_six (c_kept HQ.out (c_lt HX.out.2.1) HX.out.2.1)
      go_wp2_with fail
      refine (HP.out wq HQ.out).mono ?_
      clear b0 b1 b2 b3 b4 b5 hbl
      cases RP with
      | error y =>
        rintro e w5 ⟨hy, rfl, hB5⟩
        have gy : (y != 0) = true := by simpa using hy
        have HB5 := Lib.hid (c_thr HQ.out hB5 HQ.out.size)
        clear hB5 hy
        go_wp2_with fail
        refine (HS2.out _).mono ?_
        rintro e w6 ⟨rfl, hB6⟩
        have HB6 := Lib.hid (c_thr HB5.out (c_thr (c_box w5 _) hB6 (by simp)) HB5.out.size)
        clear hB6
        go_wp2_with fail
        refine (lives_any w6).mono ?_
        rintro e w7 ⟨rfl, hB7⟩
        have HB7 := Lib.hid (c_thr HB6.out hB7 HB6.out.size)
        clear hB7
        go_wp2
        go_ret
        exact ⟨rfl, c_thr HX.out.2.2 HB7.out HX.out.2.2.size⟩
      | ok p =>
        rintro e w5 ⟨yo, yl, yc, rfl, htp, hB5⟩
        obtain rfl := tin_len htp
        have hp5 := pars_cnt HRP.out.symm
        have hpc : p.cnt ≤ 100000 := by have := HC4.out; omega
        obtain ⟨W8, hW8⟩ : ∃ W8, W8 = w5.alloc (.cells #[.int .i64 p.op, .int .i64 p.a, .int .i64 p.n, .int .i64 p.m, .string p.s, .slice yo p.ks.length yc] 27) := ⟨_, rfl⟩
        have hB8 : Below w5.heap.size w5 W8 := by rw [hW8]; exact c_box w5 _
        have hn8 : W8.heap[w5.heap.size]? = some (.cells #[.int .i64 p.op, .int .i64 p.a, .int .i64 p.n, .int .i64 p.m, .string p.s, .slice yo p.ks.length yc] 27 (0, 0)) := by rw [hW8]; exact heap_alloc_new w5 _
        have HW8 := Lib.hid hW8
        have HX8 := Lib.hid (And.intro (tin_mono (tin_kept htp hB8) (fun _ _ _ => (trivial : All _))) (And.intro hn8 (c_thr HQ.out (c_thr hB5 hB8 hB5.size) HQ.out.size)))
        have HPC := Lib.hid (And.intro hp5.1 hpc)
        have hlen : p.ks.length ≤ 100000 := ks_le (Nat.le_refl _) hpc
        have hcl : cntL p.ks ≤ 100000 := by have := cnt_ks p; omega
        have HCL := Lib.hid hcl
        clear hp5 hpc hW8 hB8 hn8 htp hB5 hcl
        go_upto_region 14 with fail
        rw [← HW8.out]
        obtain ⟨len, hle⟩ : ∃ len, len = p.ks.length := ⟨_, rfl⟩
        have HLE := Lib.hid hle
        rw [← hle] at hlen HX8
        have HV : Hid (RelU W8 p.ks (.slice none 0 0) (.int .i64 0) W8) := Lib.hid ⟨⟨0, none, [], 0, rfl, Nat.zero_le _, rfl, rfl, World.ownsRow_nil _ _ _ _⟩, Below.refl _ _⟩
        clear hle
        go_wp2
        go_loopw [9, 10] (fun v i wr => RelU W8 p.ks v i wr) (fun _ i _ => len - (intOf i).toNat)
        case atStart => exact HV.out
        case round =>
          clear HV
          obtain ⟨⟨k, ro, L, rc, rfl, hk, hL, rfl, hown⟩, hB⟩ := hrel
          rw [← HLE.out] at hk
          obtain ⟨⟨b0, b1, b2, b3, b4, b5⟩, -, hxl⟩ := c_six (c_kept hB (c_lt HX8.out.2.1) HX8.out.2.1)
          by_cases hkl : k < len
          · have g1 : decide ((k : Int) < (len : Int)) = true := decide_eq_true (by omega)
            have k1 : (k : Int) < (len : Int) := by omega
            obtain ⟨y, hy⟩ : ∃ y, p.ks[k]? = some y := ⟨_, List.getElem?_eq_getElem (by rw [← HLE.out]; exact hkl)⟩
            obtain ⟨bb, oo, xo, xl, xc, rfl, hbb, -, hcc, hyt⟩ := kidS HX8.out.1 hy
            obtain rfl := tin_len hyt
            have hbr : bb < wr.heap.size := Nat.lt_of_lt_of_le hbb hB.size
            obtain ⟨c0, c1, c2, c3, c4, c5⟩ := ncells_kept (hB.block bb hbb) hcc
            have hyc : y.cnt ≤ 100000 := by have := cnt_kid hy; have := HPC.out.2; omega
            have HX := Lib.hid (fun (W : World) (hW : Below wr.heap.size wr W) => names_own y xo xc W hyc (tin_mono (tin_kept (tin_kept hyt hB) hW) (fun _ _ _ => (trivial : All _))))
            have HR := Lib.hid (And.intro hL (And.intro hy (And.intro hown hB)))
            clear hL hy hown hB hcc hyt hyc
            go_wp2_with fail
            refine (HX.out _ (by first | exact Below.refl _ _ | exact c_box _ _ | exact c_draws _ _)).mono ?_
            rintro e w4 ⟨so, sc, rfl, hown4, hB4⟩
            have hB5 : Below W8.heap.size W8 w4 := by first | exact c_thr HR.out.2.2.2 hB4 HR.out.2.2.2.size | exact c_thr HR.out.2.2.2 (c_thr (c_box wr _) hB4 (by simp)) HR.out.2.2.2.size
            have hown5 : w4.ownsRow W8.heap.size 9 1 (.slice ro L.length rc) L.length (L.map Value.string) := by first | exact own_kept HR.out.2.2.1 hB4 | exact own_kept HR.out.2.2.1 (c_thr (c_box wr _) hB4 (by simp))
            have htl := ulen HR.out.2.1
            rw [← HR.out.1] at htl
            have hcl := HCL.out
            have hz5 := hB5.size
            rcases hown4.2 with ⟨e, h0⟩ | ⟨g, gc, cur, e, hgb, hgg, -⟩
            · obtain ⟨rfl, -, rfl⟩ : so = none ∧ (namesOf y).length = 0 ∧ sc = 0 := by simpa using e
              have HST := Lib.hid (relu_same HR.out.1 HR.out.2.1 hB5 hown5 (List.eq_nil_of_length_eq_zero h0))
              rw [h0]
              clear hB5 hown4 hB4 HR htl e h0 b0 b1 b2 b3 b4 b5 c0 c1 c2 c3 c4 c5
              go_wp2_with ((first | (at_builtin) | fail); (first | (refine wpList_append_own_none rfl _ _ 35 rfl W8.heap.size 9 i0 1 hT hi (.slice ro L.length rc) L.length _ rfl hown5 rfl ?_) | fail))
              go_wp2
              first
                | (go_roundw
                   case rel => exact HST.out
                   case measure => simp [intOf]; omega)
                | exact ⟨HST.out, by simp [intOf]; omega⟩
            · obtain ⟨rfl, -⟩ : so = some ⟨g, 0, none⟩ ∧ sc = gc := by simpa using e
              have hnews : ∀ j u, ((namesOf y).map Value.string)[j]? = some u → w4.cell? ((⟨g, 0, none⟩ : Addr).add j) = some u := fun j u hu => World.ownsRow.cells hown4 (g := g) rfl j u hu
              have HN := Lib.hid hnews
              have HB5 := Lib.hid hB5
              have HO5 := Lib.hid hown5
              clear hB5 hown4 hB4 e hnews hgg b0 b1 b2 b3 b4 b5 c0 c1 c2 c3 c4 c5
              go_wp2_with ((first | (at_builtin) | fail); (first | (refine wpList_append_own_at _ rfl _ _ 35 rfl W8.heap.size 9 i0 (.string ⟨#[]⟩) 1 16 hT hi hz0 hz1 hz2 rfl (by decide) (.slice ro L.length rc) L.length _ rfl HO5.out ⟨g, 0, none⟩ (namesOf y).length sc ((namesOf y).map Value.string) rfl ?_ HN.out (strs_one _) ?_ ?_ hz5 ?_) | fail); (first | (simp) | fail); (first | ((unfold maxLen; omega)) | fail); (first | (omega) | fail); (first | (intro v5 w5x hown6 hgrow6 hnil6 hat6) | fail); (first | (have HST := Lib.hid (relu_step HR.out.1 HR.out.2.1 HB5.out HO5.out hown6 hgrow6)) | fail); (first | (clear hown6 hgrow6 hnil6 hat6) | fail))
              go_wp2
              first
                | (go_roundw
                   case rel => exact HST.out
                   case measure => simp [intOf]; omega)
                | exact ⟨HST.out, by simp [intOf]; omega⟩
          · have g1 : decide ((k : Int) < (len : Int)) = false := decide_eq_false (by omega)
            rw [List.take_of_length_le (by rw [← HLE.out]; omega), ← names_par HPC.out.1] at hL
            subst hL
            have HR := Lib.hid (And.intro (str_own hown) hB)
            have HN := Lib.hid (names_any p yo yc wr HPC.out.2 (tin_mono (tin_kept (by rw [← HLE.out]; exact HX8.out.1) hB) (fun _ _ _ => trivial)))
            rw [← HLE.out] at HN
            have hp5 := HPC.out.1
            have hnl : (namesOf p).length ≤ 100000 := Nat.le_trans (names_len _ p) HPC.out.2
            have HNL := Lib.hid hnl
            rw [hp5] at b0 HN
            clear hown hB hp5 hnl
            go_wp2_with fail
            refine HN.out.mono ?_
            rintro e w6 ⟨v6, rfl, hs6, hB6⟩
            have H6 := Lib.hid (And.intro hs6 (And.intro (str_kept HR.out.1 hB6) (c_thr HR.out.2 hB6 HR.out.2.size)))
            clear hs6 hB6 b0 b1 b2 b3 b4 b5
            go_wp2_with fail
            refine (texts_any (namesOf p) v6 _ w6 HNL.out H6.out.1 H6.out.2.1).mono ?_
            rintro e w7 ⟨rfl, hB7⟩
            have H7 := Lib.hid (c_thr H6.out.2.2 hB7 H6.out.2.2.size)
            clear hB7
            go_wp2_with fail
            refine (lives_any w7).mono ?_
            rintro e w9 ⟨rfl, hB9⟩
            have H9 := Lib.hid (c_thr H7.out hB9 H7.out.size)
            clear hB9
            go_wp2
            go_ret
            exact ⟨rfl, c_thr HX.out.2.2 (c_thr HX8.out.2.2 H9.out HX8.out.2.2.size) HX.out.2.2.size⟩
    | ok r =>
      rintro e w4 ⟨ro, rl, rc, rfl, htr, hB4⟩
      obtain rfl := tin_len htr
      have hrc : r.cnt ≤ 100000 := by have := pat_cnt HRA.out.symm; have := HC4.out; omega
      obtain ⟨W5, hW5⟩ : ∃ W5, W5 = w4.alloc (.cells #[.int .i64 r.op, .int .i64 r.a, .int .i64 r.n, .int .i64 r.m, .string r.s, .slice ro r.ks.length rc] 27) := ⟨_, rfl⟩
      have hB5 : Below w4.heap.size w4 W5 := by rw [hW5]; exact c_box w4 _
      have hn5 : W5.heap[w4.heap.size]? = some (.cells #[.int .i64 r.op, .int .i64 r.a, .int .i64 r.n, .int .i64 r.m, .string r.s, .slice ro r.ks.length rc] 27 (0, 0)) := by rw [hW5]; exact heap_alloc_new w4 _
      have htr5 : TIn W5 All r (.slice ro r.ks.length rc) := tin_mono (tin_kept htr hB5) (fun _ _ _ => trivial)
      have HA2 := Lib.hid (pattern_top r ro r.ks.length rc W5 hrc htr5)
      rw [pat_again HRA.out.symm] at HA2
      have HW5 := Lib.hid hW5
      have HX5 := Lib.hid (And.intro htr5 (And.intro hn5 (c_thr hB4 hB5 hB4.size)))
      have HRC := Lib.hid hrc
      obtain ⟨⟨b0, b1, b2, b3, b4, b5⟩, -, hbl⟩ := c_six hn5
      clear htr hB4 hrc hW5 hB5 hn5 htr5
      go_upto_region 6 with fail
      rw [← HW5.out]
      go_wp2_with fail
      refine HA2.out.mono ?_
      rintro e w6 ⟨zo, zl, zc, rfl, htz, hB6⟩
      obtain rfl := tin_len htz
      obtain ⟨W7, hW7⟩ : ∃ W7, W7 = w6.alloc (.cells #[.int .i64 r.op, .int .i64 r.a, .int .i64 r.n, .int .i64 r.m, .string r.s, .slice zo r.ks.length zc] 27) := ⟨_, rfl⟩
      have hB7 : Below w6.heap.size w6 W7 := by rw [hW7]; exact c_box w6 _
      have hn7 : W7.heap[w6.heap.size]? = some (.cells #[.int .i64 r.op, .int .i64 r.a, .int .i64 r.n, .int .i64 r.m, .string r.s, .slice zo r.ks.length zc] 27 (0, 0)) := by rw [hW7]; exact heap_alloc_new w6 _
      have hB57 : Below W5.heap.size W5 W7 := c_thr hB6 hB7 hB6.size
      have hn57 := c_kept hB57 (c_lt HX5.out.2.1) HX5.out.2.1
      have HSM := Lib.hid (same_any r.cnt r ro zo rc zc W7 (Nat.le_refl _) HRC.out (tin_kept HX5.out.1 hB57) (tin_mono (tin_kept htz hB7) (fun _ _ _ => (trivial : All _))))
      have HW7 := Lib.hid hW7
      have HX7 := Lib.hid (c_thr HX5.out.2.2 hB57 HX5.out.2.2.size)
      obtain ⟨⟨c0, c1, c2, c3, c4, c5⟩, -, hcl⟩ := c_six hn57
      obtain ⟨⟨d0, d1, d2, d3, d4, d5⟩, -, hdl⟩ := c_six hn7
      clear htz hB6 hW7 hB7 hn7 hB57 hn57 b0 b1 b2 b3 b4 b5 hbl
      go_upto_region 7 with fail
      rw [← HW7.out]
      go_wp2_with fail
      refine HSM.out.mono ?_
      rintro e wq ⟨rfl, hBq⟩
      have HQ := Lib.hid (c_thr HX7.out hBq HX7.out.size)
      clear hBq c0 c1 c2 c3 c4 c5 hcl d0 d1 d2 d3 d4 d5 hdl
      obtain ⟨⟨b0, b1, b2, b3, b4, b5⟩, -, hbl⟩ := c_six (c_kept HQ.out (c_lt HX.out.2.1) HX.out.2.1)
      go_wp2_with fail
      refine (HP.out wq HQ.out).mono ?_
      clear b0 b1 b2 b3 b4 b5 hbl
      cases RP with
      | error y =>
        rintro e w5 ⟨hy, rfl, hB5⟩
        have gy : (y != 0) = true := by simpa using hy
        have HB5 := Lib.hid (c_thr HQ.out hB5 HQ.out.size)
        clear hB5 hy
        go_wp2_with fail
        refine (HS2.out _).mono ?_
        rintro e w6 ⟨rfl, hB6⟩
        have HB6 := Lib.hid (c_thr HB5.out (c_thr (c_box w5 _) hB6 (by simp)) HB5.out.size)
        clear hB6
        go_wp2_with fail
        refine (lives_any w6).mono ?_
        rintro e w7 ⟨rfl, hB7⟩
        have HB7 := Lib.hid (c_thr HB6.out hB7 HB6.out.size)
        clear hB7
        go_wp2
        go_ret
        exact ⟨rfl, c_thr HX.out.2.2 HB7.out HX.out.2.2.size⟩
      | ok p =>
        rintro e w5 ⟨yo, yl, yc, rfl, htp, hB5⟩
        obtain rfl := tin_len htp
        have hp5 := pars_cnt HRP.out.symm
        have hpc : p.cnt ≤ 100000 := by have := HC4.out; omega
        obtain ⟨W8, hW8⟩ : ∃ W8, W8 = w5.alloc (.cells #[.int .i64 p.op, .int .i64 p.a, .int .i64 p.n, .int .i64 p.m, .string p.s, .slice yo p.ks.length yc] 27) := ⟨_, rfl⟩
        have hB8 : Below w5.heap.size w5 W8 := by rw [hW8]; exact c_box w5 _
        have hn8 : W8.heap[w5.heap.size]? = some (.cells #[.int .i64 p.op, .int .i64 p.a, .int .i64 p.n, .int .i64 p.m, .string p.s, .slice yo p.ks.length yc] 27 (0, 0)) := by rw [hW8]; exact heap_alloc_new w5 _
        have HW8 := Lib.hid hW8
        have HX8 := Lib.hid (And.intro (tin_mono (tin_kept htp hB8) (fun _ _ _ => (trivial : All _))) (And.intro hn8 (c_thr HQ.out (c_thr hB5 hB8 hB5.size) HQ.out.size)))
        have HPC := Lib.hid (And.intro hp5.1 hpc)
        have hlen : p.ks.length ≤ 100000 := ks_le (Nat.le_refl _) hpc
        have hcl : cntL p.ks ≤ 100000 := by have := cnt_ks p; omega
        have HCL := Lib.hid hcl
        clear hp5 hpc hW8 hB8 hn8 htp hB5 hcl
        go_upto_region 14 with fail
        rw [← HW8.out]
        obtain ⟨len, hle⟩ : ∃ len, len = p.ks.length := ⟨_, rfl⟩
        have HLE := Lib.hid hle
        rw [← hle] at hlen HX8
        have HV : Hid (RelU W8 p.ks (.slice none 0 0) (.int .i64 0) W8) := Lib.hid ⟨⟨0, none, [], 0, rfl, Nat.zero_le _, rfl, rfl, World.ownsRow_nil _ _ _ _⟩, Below.refl _ _⟩
        clear hle
        go_wp2
        go_loopw [9, 10] (fun v i wr => RelU W8 p.ks v i wr) (fun _ i _ => len - (intOf i).toNat)
        case atStart => exact HV.out
        case round =>
          clear HV
          obtain ⟨⟨k, ro, L, rc, rfl, hk, hL, rfl, hown⟩, hB⟩ := hrel
          rw [← HLE.out] at hk
          obtain ⟨⟨b0, b1, b2, b3, b4, b5⟩, -, hxl⟩ := c_six (c_kept hB (c_lt HX8.out.2.1) HX8.out.2.1)
          by_cases hkl : k < len
          · have g1 : decide ((k : Int) < (len : Int)) = true := decide_eq_true (by omega)
            have k1 : (k : Int) < (len : Int) := by omega
            obtain ⟨y, hy⟩ : ∃ y, p.ks[k]? = some y := ⟨_, List.getElem?_eq_getElem (by rw [← HLE.out]; exact hkl)⟩
            obtain ⟨bb, oo, xo, xl, xc, rfl, hbb, -, hcc, hyt⟩ := kidS HX8.out.1 hy
            obtain rfl := tin_len hyt
            have hbr : bb < wr.heap.size := Nat.lt_of_lt_of_le hbb hB.size
            obtain ⟨c0, c1, c2, c3, c4, c5⟩ := ncells_kept (hB.block bb hbb) hcc
            have hyc : y.cnt ≤ 100000 := by have := cnt_kid hy; have := HPC.out.2; omega
            have HX := Lib.hid (fun (W : World) (hW : Below wr.heap.size wr W) => names_own y xo xc W hyc (tin_mono (tin_kept (tin_kept hyt hB) hW) (fun _ _ _ => (trivial : All _))))
            have HR := Lib.hid (And.intro hL (And.intro hy (And.intro hown hB)))
            clear hL hy hown hB hcc hyt hyc
            go_wp2_with fail
            refine (HX.out _ (by first | exact Below.refl _ _ | exact c_box _ _ | exact c_draws _ _)).mono ?_
            rintro e w4 ⟨so, sc, rfl, hown4, hB4⟩
            have hB5 : Below W8.heap.size W8 w4 := by first | exact c_thr HR.out.2.2.2 hB4 HR.out.2.2.2.size | exact c_thr HR.out.2.2.2 (c_thr (c_box wr _) hB4 (by simp)) HR.out.2.2.2.size
            have hown5 : w4.ownsRow W8.heap.size 9 1 (.slice ro L.length rc) L.length (L.map Value.string) := by first | exact own_kept HR.out.2.2.1 hB4 | exact own_kept HR.out.2.2.1 (c_thr (c_box wr _) hB4 (by simp))
            have htl := ulen HR.out.2.1
            rw [← HR.out.1] at htl
            have hcl := HCL.out
            have hz5 := hB5.size
            rcases hown4.2 with ⟨e, h0⟩ | ⟨g, gc, cur, e, hgb, hgg, -⟩
            · obtain ⟨rfl, -, rfl⟩ : so = none ∧ (namesOf y).length = 0 ∧ sc = 0 := by simpa using e
              have HST := Lib.hid (relu_same HR.out.1 HR.out.2.1 hB5 hown5 (List.eq_nil_of_length_eq_zero h0))
              rw [h0]
              clear hB5 hown4 hB4 HR htl e h0 b0 b1 b2 b3 b4 b5 c0 c1 c2 c3 c4 c5
              go_wp2_with ((first | (at_builtin) | fail); (first | (refine wpList_append_own_none rfl _ _ 35 rfl W8.heap.size 9 i0 1 hT hi (.slice ro L.length rc) L.length _ rfl hown5 rfl ?_) | fail))
              go_wp2
              first
                | (go_roundw
                   case rel => exact HST.out
                   case measure => simp [intOf]; omega)
                | exact ⟨HST.out, by simp [intOf]; omega⟩
            · obtain ⟨rfl, -⟩ : so = some ⟨g, 0, none⟩ ∧ sc = gc := by simpa using e
              have hnews : ∀ j u, ((namesOf y).map Value.string)[j]? = some u → w4.cell? ((⟨g, 0, none⟩ : Addr).add j) = some u := fun j u hu => World.ownsRow.cells hown4 (g := g) rfl j u hu
              have HN := Lib.hid hnews
              have HB5 := Lib.hid hB5
              have HO5 := Lib.hid hown5
              clear hB5 hown4 hB4 e hnews hgg b0 b1 b2 b3 b4 b5 c0 c1 c2 c3 c4 c5
              go_wp2_with ((first | (at_builtin) | fail); (first | (refine wpList_append_own_at _ rfl _ _ 35 rfl W8.heap.size 9 i0 (.string ⟨#[]⟩) 1 16 hT hi hz0 hz1 hz2 rfl (by decide) (.slice ro L.length rc) L.length _ rfl HO5.out ⟨g, 0, none⟩ (namesOf y).length sc ((namesOf y).map Value.string) rfl ?_ HN.out (strs_one _) ?_ ?_ hz5 ?_) | fail); (first | (simp) | fail); (first | ((unfold maxLen; omega)) | fail); (first | (omega) | fail); (first | (intro v5 w5x hown6 hgrow6 hnil6 hat6) | fail); (first | (have HST := Lib.hid (relu_step HR.out.1 HR.out.2.1 HB5.out HO5.out hown6 hgrow6)) | fail); (first | (clear hown6 hgrow6 hnil6 hat6) | fail))
              go_wp2
              first
                | (go_roundw
                   case rel => exact HST.out
                   case measure => simp [intOf]; omega)
                | exact ⟨HST.out, by simp [intOf]; omega⟩
          · have g1 : decide ((k : Int) < (len : Int)) = false := decide_eq_false (by omega)
            rw [List.take_of_length_le (by rw [← HLE.out]; omega), ← names_par HPC.out.1] at hL
            subst hL
            have HR := Lib.hid (And.intro (str_own hown) hB)
            have HN := Lib.hid (names_any p yo yc wr HPC.out.2 (tin_mono (tin_kept (by rw [← HLE.out]; exact HX8.out.1) hB) (fun _ _ _ => trivial)))
            rw [← HLE.out] at HN
            have hp5 := HPC.out.1
            have hnl : (namesOf p).length ≤ 100000 := Nat.le_trans (names_len _ p) HPC.out.2
            have HNL := Lib.hid hnl
            rw [hp5] at b0 HN
            clear hown hB hp5 hnl
            go_wp2_with fail
            refine HN.out.mono ?_
            rintro e w6 ⟨v6, rfl, hs6, hB6⟩
            have H6 := Lib.hid (And.intro hs6 (And.intro (str_kept HR.out.1 hB6) (c_thr HR.out.2 hB6 HR.out.2.size)))
            clear hs6 hB6 b0 b1 b2 b3 b4 b5
            go_wp2_with fail
            refine (texts_any (namesOf p) v6 _ w6 HNL.out H6.out.1 H6.out.2.1).mono ?_
            rintro e w7 ⟨rfl, hB7⟩
            have H7 := Lib.hid (c_thr H6.out.2.2 hB7 H6.out.2.2.size)
            clear hB7
            go_wp2_with fail
            refine (lives_any w7).mono ?_
            rintro e w9 ⟨rfl, hB9⟩
            have H9 := Lib.hid (c_thr H7.out hB9 H7.out.size)
            clear hB9
            go_wp2
            go_ret
            exact ⟨rfl, c_thr HX.out.2.2 (c_thr HX8.out.2.2 H9.out HX8.out.2.2.size) HX.out.2.2.size⟩
end Go.Proofs.Ytadiicmcaaklmaa
