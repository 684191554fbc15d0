/-
  element of the reference at this translation: the loop over an object.
-/
import Derived.Test.YtjnlifghobgkcaaR16
namespace Go.Proofs.Ytjnlifghobgkcaa
open Go.RowKit

set_option linter.unusedVariables false in
set_option maxRecDepth 100000 in
set_option maxHeartbeats 4000000 in
theorem elem_obj (y : Tr) (yo : Option Addr) (yc d B : Nat) (w : World) (hB : B ≤ w.heap.size) (ht : TIn w (fun b => b < B) y (.slice yo y.ks.length yc)) (hks : y.ks.length ≤ 100000) (hd : d ≤ 1000) (m : Bool) (g46 : (y.op == 46) = false) (g37 : (y.op == 37) = false) (g37n : (y.op != 37) = true) (g38 : (y.op == 38) = true) (g38n : (y.op != 38) = false) (G : Part) (HK : Hid (∀ (k : Nat) (z : Tr) (W : World), y.ks[k]? = some z → Below w.heap.size w W → Calls Try.prog 40 #[.slice yo y.ks.length yc, .int .i64 k, .int .i64 ((d : Int) + 1)] W (QPost W (Sha B W) (G z (d + 1) (decide (k + 1 = y.ks.length)))))) (h200 : ¬ 200 < d) (hp : patB y = false) : Calls Try.prog 24 #[.agg #[.int .i64 y.op, .int .i64 y.a, .int .i64 y.n, .int .i64 y.m, .string y.s, .slice yo y.ks.length yc], .int .i64 d, .bool m] w (QPost w (Sha B w) (madeV 61 y.a 0 y.ks d G)) := by
  obtain ⟨i0, hi, hz0, hz1, hz2⟩ := info_parts node_info
  have hT : Try.prog.underlying 25 = some (.slice 27) := Try.underlying25
  obtain ⟨R, hR⟩ : ∃ R, R = madeV 61 y.a 0 y.ks d G := ⟨_, rfl⟩
  rw [← hR]
  have HE := Lib.hid hR
  clear hR
  have gd : decide ((200 : Int) < (d : Int)) = false := decide_eq_false (by omega)
  have HM := Lib.hid (fun W => rpattern_any y yo y.ks.length yc W)
  rw [hp] at HM
  clear hp
  obtain ⟨W2, hW2⟩ : ∃ W2, W2 = (w.alloc (.cells #[.int .i64 y.op, .int .i64 y.a, .int .i64 y.n, .int .i64 y.m, .string y.s, .slice yo y.ks.length yc] 27)).alloc (.cells #[.int .i64 0, .int .i64 0, .int .i64 0, .int .i64 0, .string ⟨#[]⟩, .slice none 0 0] 27) := ⟨_, rfl⟩
  have hB2 : Below w.heap.size w W2 := by rw [hW2]; exact c_box2 w _ _
  have hzW : W2.heap.size = w.heap.size + 2 := by rw [hW2]; simp
  have hbox : W2.heap[w.heap.size]? = some (.cells #[.int .i64 y.op, .int .i64 y.a, .int .i64 y.n, .int .i64 y.m, .string y.s, .slice yo y.ks.length yc] 27 (0, 0)) := by rw [hW2]; exact c_new1 w _ _
  have hres : W2.heap[w.heap.size + 1]? = some (.cells #[.int .i64 0, .int .i64 0, .int .i64 0, .int .i64 0, .string ⟨#[]⟩, .slice none 0 0] 27 (0, 0)) := by rw [hW2]; exact c_new2 w _ _
  obtain ⟨⟨b0, b1, b2, b3, b4, b5⟩, -, hxl⟩ := c_six hbox
  obtain ⟨⟨r0, r1, r2, r3, r4, r5⟩, ⟨q0, q1, q2, q3, q4, q5⟩, hrl⟩ := c_six hres
  have HW := Lib.hid hW2
  have HB := Lib.hid hB2
  have HZ := Lib.hid hzW
  have HBR := Lib.hid (And.intro hbox hres)
  have HT := Lib.hid (tin_kept ht hB2)
  clear hW2 hB2 hzW hbox hres ht
  go_enter Try.func24, Try.ntmps24
  go_upto_region 1 with fail
  rw [← HW.out]
  go_wp2_with fail
  refine (HM.out _).mono ?_
  rintro e W5 ⟨rfl, hB5⟩
  have hbox5 := c_kept hB5 (c_lt HBR.out.1) HBR.out.1
  have hres5 := c_kept hB5 (c_lt HBR.out.2) HBR.out.2
  clear b0 b1 b2 b3 b4 b5 hxl r0 r1 r2 r3 r4 r5 q0 q1 q2 q3 q4 q5 hrl
  obtain ⟨⟨b0, b1, b2, b3, b4, b5⟩, -, hxl⟩ := c_six hbox5
  obtain ⟨⟨r0, r1, r2, r3, r4, r5⟩, ⟨q0, q1, q2, q3, q4, q5⟩, hrl⟩ := c_six hres5
  have HB5 := Lib.hid (c_thr HB.out hB5 HB.out.size)
  have HT5 := Lib.hid (tin_kept HT.out hB5)
  have HZ5 := Lib.hid (show w.heap.size + 2 ≤ W5.heap.size from by have := HZ.out; have := hB5.size; omega)
  have HBR5 := Lib.hid (And.intro hbox5 hres5)
  clear hB5 hbox5 hres5
  go_upto_region 16 with fail
  obtain ⟨W3, hW3⟩ : ∃ W3, W3 = W5.alloc (.cells #[.int .i64 61, .int .i64 y.a, .int .i64 0, .int .i64 0, .string ⟨#[]⟩, .slice none 0 0] 27) := ⟨_, rfl⟩
  have hB3 : Below W5.heap.size W5 W3 := by rw [hW3]; exact c_box W5 _
  have hout3 : W3.heap[W5.heap.size]? = some (.cells #[.int .i64 61, .int .i64 y.a, .int .i64 0, .int .i64 0, .string ⟨#[]⟩, .slice none 0 0] 27 (0, 0)) := by rw [hW3]; exact heap_alloc_new W5 _
  have hz3 : W3.heap.size = W5.heap.size + 1 := by rw [hW3]; simp
  obtain ⟨g8, hg8⟩ : ∃ g8, g8 = W5.heap.size := ⟨_, rfl⟩
  rw [← hW3, ← hg8]
  rw [← hg8] at hout3
  have hg8w : w.heap.size + 2 ≤ g8 := by have := HZ5.out; omega
  have HV : Hid (RelE w B g8 y (.slice yo y.ks.length yc) 61 y.a G (d + 1) y.ks (.int .i64 0) W3) := Lib.hid
    ⟨⟨0, [], .slice none 0 0, rfl, Nat.zero_le _, Nat.le_refl _, World.ownsRow_nil _ _ _ _, (fun x hx => by cases hx), (by rw [List.drop_zero]; cases madeL G (d + 1) y.ks <;> rfl), hout3⟩, c_kept hB3 (c_lt HBR5.out.1) HBR5.out.1, c_kept hB3 (c_lt HBR5.out.2) HBR5.out.2, c_thr HB5.out hB3 HB5.out.size, by omega⟩
  have HG8 := Lib.hid hg8w
  clear hW3 hB3 hout3 hz3 hg8 hg8w b0 b1 b2 b3 b4 b5 hxl r0 r1 r2 r3 r4 r5 q0 q1 q2 q3 q4 q5 hrl
  go_wp2
  go_loopw [9] (fun i wr => RelE w B g8 y (.slice yo y.ks.length yc) 61 y.a G (d + 1) y.ks i wr) (fun i _ => y.ks.length - (intOf i).toNat)
  case atStart => exact HV.out
  case round =>
    clear HV
    obtain ⟨⟨k, L, v, rfl, hk, hLk, hrow, hL, heq, hout⟩, hbox, hres, hB', hbig⟩ := hrel
    obtain ⟨ro, rc, hv, hvo⟩ : ∃ ro rc, v = .slice ro L.length rc ∧ (∀ g, v.ownBlock = some g → g8 + 1 ≤ g ∧ g < wr.heap.size) := by
      obtain ⟨ro, rc, e, _, _, _⟩ := prow_slice hrow
      exact ⟨ro, rc, e, fun g hg => World.ownsRow.lt hrow g hg⟩
    subst hv
    obtain ⟨⟨b0, b1, b2, b3, b4, b5⟩, -, hxl⟩ := c_six hbox
    by_cases hkl : k < y.ks.length
    · have g1 : decide ((k : Int) < (y.ks.length : Int)) = true := decide_eq_true (by omega)
      obtain ⟨lb, hlb⟩ : ∃ lb, lb = decide (y.ks.length ≤ k + 1) := ⟨_, rfl⟩
      have hfl : decide (k + 1 = y.ks.length) = lb := by
        rw [hlb]
        by_cases h : k + 1 = y.ks.length
        · rw [decide_eq_true h, decide_eq_true (by omega)]
        · rw [decide_eq_false h, decide_eq_false (by omega)]
      obtain ⟨z, hz⟩ : ∃ z, y.ks[k]? = some z := ⟨_, List.getElem?_eq_getElem hkl⟩
      obtain ⟨W2', hW2⟩ : ∃ W2', W2' = wr.alloc (.cells #[.int .i64 0, .int .i64 0, .int .i64 0, .int .i64 0, .string ⟨#[]⟩, .slice none 0 0] 27) := ⟨_, rfl⟩
      have hWR : Below wr.heap.size wr W2' := by rw [hW2]; exact c_box wr _
      have hzW : W2'.heap.size = wr.heap.size + 1 := by rw [hW2]; simp
      have hn2 : W2'.heap[wr.heap.size]? = some (.cells #[.int .i64 0, .int .i64 0, .int .i64 0, .int .i64 0, .string ⟨#[]⟩, .slice none 0 0] 27 (0, 0)) := by rw [hW2]; exact heap_alloc_new wr _
      have hWB : Below w.heap.size w W2' := c_thr hB' hWR (by omega)
      have HX := HK.out k z W2' hz hWB
      rw [hfl] at HX
      have HXX := Lib.hid HX
      obtain ⟨RY, hRY⟩ : ∃ RY, RY = G z (d + 1) lb := ⟨_, rfl⟩
      rw [← hRY] at HXX
      have HRY := Lib.hid hRY
      have HH := Lib.hid (And.intro hrow (And.intro hL (And.intro heq (And.intro hz (And.intro hlb (And.intro hvo (And.intro hbig (And.intro hB' (And.intro hWR (And.intro hzW (And.intro hbox (And.intro hres (And.intro hout (And.intro hn2 (And.intro hWB hLk)))))))))))))))
      have HW2 := Lib.hid hW2
      clear HX hRY hrow hL heq hz hlb hvo hbig hB' hWR hzW hbox hres hout hn2 hWB hLk hfl hW2
      go_wp2_with fail
      rw [← HW2.out]
      obtain ⟨hrow, hL, heq, hz, hlb, hvo, hbig, hB', hWR, hzW, hbox, hres, hout, hn2, hWB, hLk⟩ := HH.out
      cases RY with
      | error x =>
        refine HXX.out.mono ?_
        rintro e w1 ⟨hx, p0, p1, p2, p3, p4, po, pl, pc, rfl, hB1⟩
        have hne : (x != 0) = true := by simp [bne, hx]
        have hn1 := c_kept hB1 (c_lt hn2) hn2
        have hres1 := c_kept hB1 (by omega) ((hWR.block _ (c_lt hres)).trans hres)
        obtain ⟨⟨t0, t1, t2, t3, t4, t5⟩, ⟨u0, u1, u2, u3, u4, u5⟩, htl⟩ := c_six hn1
        have HF := Lib.hid (And.intro hx (And.intro (c_thr hWB hB1 hWB.size) (And.intro hres1 hbig)))
        clear hrow hL heq hz hlb hvo hbig hB' hWR hzW hbox hres hout hn2 hWB hLk hx hB1 hn1 hres1 b0 b1 b2 b3 b4 b5 hxl
        go_upto_region 24 with fail
        obtain ⟨W9, hW9⟩ : ∃ W9, W9 = ((((((w1.setCell ⟨wr.heap.size, 0, none⟩ (.int .i64 p0)).setCell ⟨wr.heap.size, 1, none⟩ (.int .i64 p1)).setCell ⟨wr.heap.size, 2, none⟩ (.int .i64 p2)).setCell ⟨wr.heap.size, 3, none⟩ (.int .i64 p3)).setCell ⟨wr.heap.size, 4, none⟩ (.string p4)).setCell ⟨wr.heap.size, 5, none⟩ (.slice po pl pc)) := ⟨_, rfl⟩
        rw [← hW9]
        have hres9 : W9.heap[w.heap.size + 1]? = some (.cells #[.int .i64 0, .int .i64 0, .int .i64 0, .int .i64 0, .string ⟨#[]⟩, .slice none 0 0] 27 (0, 0)) := by
          have hn : w.heap.size + 1 ≠ wr.heap.size := by have := HF.out.2.2.2; have := HG8.out; omega
          rw [hW9, x_ne _ _ _ _ _ hn, x_ne _ _ _ _ _ hn, x_ne _ _ _ _ _ hn, x_ne _ _ _ _ _ hn, x_ne _ _ _ _ _ hn, x_ne _ _ _ _ _ hn]
          exact HF.out.2.2.1
        have hB9 : Below w.heap.size w W9 := by rw [hW9]; exact c_st6 HF.out.2.1 (by have := HF.out.2.2.2; have := HG8.out; omega)
        obtain ⟨⟨r0, r1, r2, r3, r4, r5⟩, ⟨q0, q1, q2, q3, q4, q5⟩, hr⟩ := c_six hres9
        have HB9 := Lib.hid hB9
        clear hW9 hres9 hB9 t0 t1 t2 t3 t4 t5 u0 u1 u2 u3 u4 u5 htl
        go_wp2
        refine bodyPost_ret (v := .tuple #[.agg #[.int .i64 0, .int .i64 0, .int .i64 0, .int .i64 0, .string ⟨#[]⟩, .slice none 0 0], .int .i64 x]) (by simp [results, Try.results24, go_sem, r0, r1, r2, r3, r4, r5]) rfl ?_
        have hRx : R = .error x := by
          rw [HE.out]
          refine made_er ?_
          rw [HH.out.2.2.1, drop_cons HH.out.2.2.2.1, madeL_cons, drop_empty, ← HH.out.2.2.2.2.1, ← HRY.out]
          rfl
        rw [hRx]
        exact ⟨HF.out.1, 0, 0, 0, 0, ⟨#[]⟩, none, 0, 0, rfl, c_st6 HB9.out (by omega)⟩
      | ok r =>
        refine HXX.out.mono ?_
        rintro e w1 ⟨zo, zl, zc, rfl, htin, hB1⟩
        have hn1 := c_kept hB1 (c_lt hn2) hn2
        have hz1 := hB1.size
        obtain ⟨⟨t0, t1, t2, t3, t4, t5⟩, ⟨u0, u1, u2, u3, u4, u5⟩, htl⟩ := c_six hn1
        have HF := Lib.hid (And.intro htin (And.intro hB1 (And.intro hn1 hz1)))
        clear hrow hL heq hz hlb hvo hbig hB' hWR hzW hbox hres hout hn2 hWB hLk htin hB1 hn1 hz1 b0 b1 b2 b3 b4 b5 hxl
        go_upto_region 26 with fail
        obtain ⟨W9, hW9⟩ : ∃ W9, W9 = ((((((w1.setCell ⟨wr.heap.size, 0, none⟩ (.int .i64 r.op)).setCell ⟨wr.heap.size, 1, none⟩ (.int .i64 r.a)).setCell ⟨wr.heap.size, 2, none⟩ (.int .i64 r.n)).setCell ⟨wr.heap.size, 3, none⟩ (.int .i64 r.m)).setCell ⟨wr.heap.size, 4, none⟩ (.string r.s)).setCell ⟨wr.heap.size, 5, none⟩ (.slice zo zl zc)) := ⟨_, rfl⟩
        rw [← hW9]
        obtain ⟨hrow, hL, heq, hz, hlb, hvo, hbig, hB', hWR, hzW, hbox, hres, hout, hn2, hWB, hLk⟩ := HH.out
        have hn9 : W9.heap[wr.heap.size]? = some (.cells #[.int .i64 r.op, .int .i64 r.a, .int .i64 r.n, .int .i64 r.m, .string r.s, .slice zo zl zc] 27 (0, 0)) := by rw [hW9]; exact (c_one 5 _ (c_one 4 _ (c_one 3 _ (c_one 2 _ (c_one 1 _ (c_one 0 _ HF.out.2.2.1)))))).trans (by simp)
        have hk9 : ∀ b, b ≠ wr.heap.size → W9.heap[b]? = w1.heap[b]? := by
          intro b hn
          rw [hW9, x_ne _ _ _ _ _ hn, x_ne _ _ _ _ _ hn, x_ne _ _ _ _ _ hn, x_ne _ _ _ _ _ hn, x_ne _ _ _ _ _ hn, x_ne _ _ _ _ _ hn]
        have hz9 : W9.heap.size = w1.heap.size := by rw [hW9]; simp only [x_sz]
        have hB9 : Below wr.heap.size w1 W9 := by rw [hW9]; exact c_st6 (Below.refl _ w1) (Nat.le_refl _)
        have hBr : Below wr.heap.size wr W9 := (c_thr hWR HF.out.2.1 hWR.size).trans hB9
        have hrow9 : W9.ownsRow (g8 + 1) 27 6 (.slice ro L.length rc) L.length (L.flatMap pC) := prow_kept hrow hBr
        have hout9 := (hBr.block _ (c_lt hout)).trans hout
        obtain ⟨⟨b0, b1, b2, b3, b4, b5⟩, ⟨-, -, -, -, -, f5⟩, hbl⟩ := c_six hout9
        obtain ⟨⟨n0, n1, n2, n3, n4, n5⟩, -, hnl⟩ := c_six hn9
        have HR9 := Lib.hid (And.intro hrow9 (And.intro hB9 (And.intro hz9 hk9)))
        clear hrow hL heq hz hlb hvo hbig hB' hWR hzW hbox hres hout hn2 hWB hLk hW9 hn9 hk9 hz9 hB9 hBr hrow9 hout9 t0 t1 t2 t3 t4 t5 u0 u1 u2 u3 u4 u5 htl
        go_wp2_with (at_builtin; refine wpList_append_lies _ rfl _ _ 25 rfl (g8 + 1) 27 i0 (.agg #[.int .i64 0, .int .i64 0, .int .i64 0, .int .i64 0, .string ⟨#[]⟩, .slice none 0 0]) 6 72 hT hi hz0 hz1 hz2 rfl (by decide) (.slice ro L.length rc) _ _ rfl (HR9.out.1.alloc _) ⟨W9.heap.size, 0, none⟩ 1 1 (ndC r (.slice zo zl zc)) rfl rfl ?_ ?_ (by omega) ?_ ?_ ?_ _ rfl ?_; exact World.news_of_block (cs := #[.int .i64 r.op, .int .i64 r.a, .int .i64 r.n, .int .i64 r.m, .string r.s, .slice zo zl zc]) (t := 27) (fr := (0, 0)) (heap_alloc_new W9 _); exact pC_one (r, .slice zo zl zc) ⟨_, _, _, rfl⟩; (unfold maxLen; have := HH.out.2.2.2.2.2.2.2.2.2.2.2.2.2.2.2; omega); (have := HH.out.2.2.2.2.2.2.2.2.2.2.2.2.2.2.2; omega); (simp; have h1 := HH.out.2.2.2.2.2.2.1; have h2 := HF.out.2.2.2; have h3 := HH.out.2.2.2.2.2.2.2.2.2.1; have h4 := HR9.out.2.2.1; omega); intro g gc w4 hown' hgrow hat hglt; obtain ⟨hbox5, hst⟩ := elem_step hB HG8.out HH.out.2.1 HH.out.2.2.2.2.2.2.2.2.2.2.2.2.2.2.2 HH.out.2.2.1 HH.out.2.2.2.1 HRY.out HH.out.2.2.2.2.1 HH.out.2.2.2.2.2.1 HH.out.2.2.2.2.2.2.1 HH.out.2.2.2.2.2.2.2.1 HH.out.2.2.2.2.2.2.2.2.1 HH.out.2.2.2.2.2.2.2.2.2.1 HH.out.2.2.2.2.2.2.2.2.2.2.1 HH.out.2.2.2.2.2.2.2.2.2.2.2.1 HH.out.2.2.2.2.2.2.2.2.2.2.2.2.1 HF.out.1 HF.out.2.1 HR9.out.2.1 HR9.out.2.2.1 HR9.out.2.2.2 hgrow hat hown'; obtain ⟨⟨p0, p1, p2, p3, p4, p5⟩, ⟨-, -, -, -, -, g5⟩, hpl⟩ := c_six hbox5; have HST := Lib.hid hst; clear hown' hgrow hat hglt hbox5 hst b0 b1 b2 b3 b4 b5 f5 n0 n1 n2 n3 n4 n5)
        go_roundw
        case rel => exact HST.out
        case measure => simp [intOf]; omega
    · have g1 : decide ((k : Int) < (y.ks.length : Int)) = false := decide_eq_false (by omega)
      obtain ⟨⟨t0, t1, t2, t3, t4, t5⟩, -, hbl⟩ := c_six hout
      obtain ⟨⟨r0, r1, r2, r3, r4, r5⟩, ⟨q0, q1, q2, q3, q4, q5⟩, hr⟩ := c_six hres
      have HH := Lib.hid (And.intro hrow (And.intro hL (And.intro heq (And.intro hB' (And.intro hvo (And.intro hbig hk))))))
      clear hrow hL heq hB' hout hres hvo hbig hbox hk
      go_wp2
      refine bodyPost_ret (v := .tuple #[.agg #[.int .i64 61, .int .i64 y.a, .int .i64 0, .int .i64 0, .string ⟨#[]⟩, .slice ro L.length rc], .int .i64 0]) (by simp [results, Try.results24, go_sem, r0, r1, r2, r3, r4, r5]) rfl ?_
      obtain ⟨hrow, hL, heq, hB', hvo, hbig, hk⟩ := HH.out
      have hg8 := HG8.out
      have hRx : R = .ok (.mk 61 y.a 0 0 noS (L.map (·.1))) := by
        rw [HE.out]
        refine made_ok ?_
        rw [heq, List.drop_eq_nil_of_le (by omega)]
        simp [madeL, joinM]
      rw [hRx]
      have htr : TIn wr (fun b => b < B ∨ g8 + 1 ≤ b) (.mk 61 y.a 0 0 noS (L.map (·.1))) (.slice ro L.length rc) := tin_row hrow (fun g hg => .inr (hvo g hg).1) (fun y hy => tin_mono (hL y hy) (fun b _ hs => hs.imp id (·.1))) rfl
      exact ⟨ro, L.length, rc, rfl, tin_mono (tin_grown htr (st6_grown wr (w.heap.size + 1) 0 _ _ _ _ _ _) (fun b _ hs e => by simp at e; omega)) (fun b _ hs => hs.imp id (fun h => by omega)), c_st6 hB' (by omega)⟩
end Go.Proofs.Ytjnlifghobgkcaa
