/-
  within and pair of package cover at this translation.
-/
import Derived.Test.YtjnlifghobgkcaaC4
namespace Go.Proofs.Ytjnlifghobgkcaa
open Go.RowKit

theorem c_cell {w : World} {b : Nat} {cs : Array Value} {T : TypeId} (hb : w.heap[b]? = some (.cells cs T (0, 0))) (j : Nat) : w.cell? ⟨b, j, none⟩ = cs[j]? := by simp [World.cell?, hb]
set_option linter.unusedVariables false in
set_option maxRecDepth 100000 in
set_option maxHeartbeats 1000000 in
theorem within_part (id : Nat) (caps : Array Value) (W0 : World) (N : Nat) (G : Part) (b D : Nat) (hD : D ≤ 100000) (hc : W0.cell? ⟨b, 0, none⟩ = some (.func (.func id) #[] caps)) (hG : PartAt id caps W0 N 200 G) : PartAt 48 #[.pointer (some ⟨b, 0, none⟩)] W0 N D (withinV G) := by
  have hent := hG.ent
  unfold EntersF at hent
  refine ⟨ent48, fun w hW t ao len cap d l ht hd htin => ?_⟩
  have hbl : b < W0.heap.size := World.block_lt_of_cell? W0 _ hc
  have hlt : b < w.heap.size := Nat.lt_of_lt_of_le hbl hW.size
  have hcell : w.cell? ⟨b, 0, none⟩ = some (.func (.func id) #[] caps) := (hW.cell (p := ⟨b, 0, none⟩) hbl).trans hc
  unfold withinV
  by_cases h200 : 200 < d
  · rw [if_pos h200]
    have g1 : decide ((200 : Int) < (d : Int)) = true := decide_eq_true (by omega)
    clear hG htin
    show Calls Try.prog 48 _ w (ErPost w 10)
    go_enter Try.func48, Try.ntmps48
    go_wp2
    go_returns
    exact ⟨rfl, rfl, c_box2 w _ _⟩
  · rw [if_neg h200]
    have g1 : decide ((200 : Int) < (d : Int)) = false := decide_eq_false (by omega)
    obtain ⟨R, hRd⟩ : ∃ R, R = G t d l := ⟨_, rfl⟩
    have HG := Lib.hid (fun (W : World) (hB : Below w.heap.size w W) => hG.run W (c_thr hW hB hW.size) t ao len cap d l ht (by omega) (tin_kept htin hB))
    rw [← hRd] at HG ⊢
    clear hG htin hc hW hRd h200
    cases hR : R with
    | ok r =>
      rw [hR] at HG
      show Calls Try.prog 48 _ w (OkPost w (Fresh w) r)
      clear hR
      go_enter Try.func48, Try.ntmps48
      go_wp2_with fail
      refine (HG.out _ (c_box2 w _ _)).mono ?_
      rintro e w1 ⟨yo, yl, yc, rfl, htin, hB⟩
      have hres := c_kept hB (by simp) (c_new2 w _ _)
      have hU : w.heap.size + 2 ≤ ((w.alloc (.cells #[.int .i64 t.op, .int .i64 t.a, .int .i64 t.n, .int .i64 t.m, .string t.s, .slice ao len cap] 27)).alloc (.cells #[.int .i64 0, .int .i64 0, .int .i64 0, .int .i64 0, .string ⟨#[]⟩, .slice none 0 0] 27)).heap.size := by simp
      have hW1 : Below w.heap.size w w1 := c_thr (c_box2 w _ _) hB (by simp; omega)
      obtain ⟨⟨r0, r1, r2, r3, r4, r5⟩, ⟨q0, q1, q2, q3, q4, q5⟩, hr⟩ := c_six hres
      have HF := Lib.hid (And.intro htin (And.intro hU hW1))
      clear hres htin hB hU hW1
      go_wp2
      refine bodyPost_ret (v := .tuple #[.agg #[.int .i64 r.op, .int .i64 r.a, .int .i64 r.n, .int .i64 r.m, .string r.s, .slice yo yl yc], .int .i64 0]) (by simp [results, Try.results48, go_sem, r0, r1, r2, r3, r4, r5]) rfl ?_
      exact ⟨yo, yl, yc, rfl, fin_ok HF.out.1 HF.out.2.1 HF.out.2.2⟩
    | error x =>
      rw [hR] at HG
      show Calls Try.prog 48 _ w (ErPost w x)
      clear hR
      go_enter Try.func48, Try.ntmps48
      go_wp2_with fail
      refine (HG.out _ (c_box2 w _ _)).mono ?_
      rintro e w1 ⟨hx, rfl, hB⟩
      have hres := c_kept hB (by simp) (c_new2 w _ _)
      have hW1 : Below w.heap.size w w1 := c_thr (c_box2 w _ _) hB (by simp; omega)
      obtain ⟨⟨r0, r1, r2, r3, r4, r5⟩, ⟨q0, q1, q2, q3, q4, q5⟩, hr⟩ := c_six hres
      have HF := Lib.hid (And.intro hx hW1)
      clear hres hB hW1
      go_wp2
      refine bodyPost_ret (v := .tuple #[.agg #[.int .i64 0, .int .i64 0, .int .i64 0, .int .i64 0, .string ⟨#[]⟩, .slice none 0 0], .int .i64 x]) (by simp [results, Try.results48, go_sem, r0, r1, r2, r3, r4, r5]) rfl ?_
      exact ⟨HF.out.1, rfl, c_st6 HF.out.2 (by omega)⟩
set_option linter.unusedVariables false in
set_option maxRecDepth 100000 in
set_option maxHeartbeats 1000000 in
theorem within_any (id : Nat) (caps : Array Value) (N D : Nat) (G : Part) (w : World) (hD : D ≤ 100000) (hG : PartAt id caps w N 200 G) :
    Calls Try.prog 37 #[.func (.func id) #[] caps] w fun e w' => ∃ b, e = .returned (.func (.func 48) #[] #[.pointer (some ⟨b, 0, none⟩)]) ∧ PartAt 48 #[.pointer (some ⟨b, 0, none⟩)] w' N D (withinV G) ∧ Below w.heap.size w w' := by
  have HG := Lib.hid hG
  have hmf : ∀ (fn : Fn) (first cap : Array Value) (w : World), (Instr.makeFunc fn first cap).run Try.prog w = .ok (.func fn first cap) w := fun _ _ _ _ => rfl
  clear hG
  go_enter Try.func37, Try.ntmps37
  go_wp2
  go_ret
  exact ⟨_, rfl, within_part id caps _ N G _ D hD ((c_cell (heap_alloc_new w _) 0).trans rfl) (part_below HG.out (c_box w _)), c_box w _⟩
set_option linter.unusedVariables false in
set_option maxRecDepth 100000 in
set_option maxHeartbeats 1000000 in
theorem pair_part (idf idg : Nat) (cf cg : Array Value) (W0 : World) (N D : Nat) (hD : D ≤ 100000) (F G : Part) (bf bg : Nat) (hcf : W0.cell? ⟨bf, 0, none⟩ = some (.func (.func idf) #[] cf)) (hcg : W0.cell? ⟨bg, 0, none⟩ = some (.func (.func idg) #[] cg)) (hF : PartAt idf cf W0 N D F) (hG : PartAt idg cg W0 N D G) : PartAt 54 #[.pointer (some ⟨bg, 0, none⟩), .pointer (some ⟨bf, 0, none⟩)] W0 N D (pairV F G) := by
  have hentf := hF.ent
  have hentg := hG.ent
  unfold EntersF at hentf hentg
  refine ⟨ent54, fun w hW t ao len cap d l ht hd htin => ?_⟩
  have hlf : bf < W0.heap.size := World.block_lt_of_cell? W0 _ hcf
  have hlg : bg < W0.heap.size := World.block_lt_of_cell? W0 _ hcg
  have hltf : bf < w.heap.size := Nat.lt_of_lt_of_le hlf hW.size
  have hltg : bg < w.heap.size := Nat.lt_of_lt_of_le hlg hW.size
  have hcellf : w.cell? ⟨bf, 0, none⟩ = some (.func (.func idf) #[] cf) := (hW.cell (p := ⟨bf, 0, none⟩) hlf).trans hcf
  have hcellg : w.cell? ⟨bg, 0, none⟩ = some (.func (.func idg) #[] cg) := (hW.cell (p := ⟨bg, 0, none⟩) hlg).trans hcg
  unfold pairV
  cases l with
  | false =>
    simp only [Bool.false_eq_true, if_false]
    obtain ⟨R, hRd⟩ : ∃ R, R = F t d false := ⟨_, rfl⟩
    have HG := Lib.hid (fun (W : World) (hB : Below w.heap.size w W) => hF.run W (c_thr hW hB hW.size) t ao len cap d false ht hd (tin_kept htin hB))
    rw [← hRd] at HG ⊢
    clear hF hG htin hcf hcg hW hRd
    cases hR : R with
    | ok r =>
      rw [hR] at HG
      show Calls Try.prog 54 _ w (OkPost w (Fresh w) r)
      clear hR
      go_enter Try.func54, Try.ntmps54
      go_wp2_with fail
      refine (HG.out _ (c_box2 w _ _)).mono ?_
      rintro e w1 ⟨yo, yl, yc, rfl, htin, hB⟩
      have hres := c_kept hB (by simp) (c_new2 w _ _)
      have hU : w.heap.size + 2 ≤ ((w.alloc (.cells #[.int .i64 t.op, .int .i64 t.a, .int .i64 t.n, .int .i64 t.m, .string t.s, .slice ao len cap] 27)).alloc (.cells #[.int .i64 0, .int .i64 0, .int .i64 0, .int .i64 0, .string ⟨#[]⟩, .slice none 0 0] 27)).heap.size := by simp
      have hW1 : Below w.heap.size w w1 := c_thr (c_box2 w _ _) hB (by simp; omega)
      obtain ⟨⟨r0, r1, r2, r3, r4, r5⟩, ⟨q0, q1, q2, q3, q4, q5⟩, hr⟩ := c_six hres
      have HF := Lib.hid (And.intro htin (And.intro hU hW1))
      clear hres htin hB hU hW1
      go_wp2
      refine bodyPost_ret (v := .tuple #[.agg #[.int .i64 r.op, .int .i64 r.a, .int .i64 r.n, .int .i64 r.m, .string r.s, .slice yo yl yc], .int .i64 0]) (by simp [results, Try.results54, go_sem, r0, r1, r2, r3, r4, r5]) rfl ?_
      exact ⟨yo, yl, yc, rfl, fin_ok HF.out.1 HF.out.2.1 HF.out.2.2⟩
    | error x =>
      rw [hR] at HG
      show Calls Try.prog 54 _ w (ErPost w x)
      clear hR
      go_enter Try.func54, Try.ntmps54
      go_wp2_with fail
      refine (HG.out _ (c_box2 w _ _)).mono ?_
      rintro e w1 ⟨hx, rfl, hB⟩
      have hres := c_kept hB (by simp) (c_new2 w _ _)
      have hW1 : Below w.heap.size w w1 := c_thr (c_box2 w _ _) hB (by simp; omega)
      obtain ⟨⟨r0, r1, r2, r3, r4, r5⟩, ⟨q0, q1, q2, q3, q4, q5⟩, hr⟩ := c_six hres
      have HF := Lib.hid (And.intro hx hW1)
      clear hres hB hW1
      go_wp2
      refine bodyPost_ret (v := .tuple #[.agg #[.int .i64 0, .int .i64 0, .int .i64 0, .int .i64 0, .string ⟨#[]⟩, .slice none 0 0], .int .i64 x]) (by simp [results, Try.results54, go_sem, r0, r1, r2, r3, r4, r5]) rfl ?_
      exact ⟨HF.out.1, rfl, c_st6 HF.out.2 (by omega)⟩
  | true =>
    simp only [if_true]
    obtain ⟨R, hRd⟩ : ∃ R, R = G t d true := ⟨_, rfl⟩
    have HG := Lib.hid (fun (W : World) (hB : Below w.heap.size w W) => hG.run W (c_thr hW hB hW.size) t ao len cap d true ht hd (tin_kept htin hB))
    rw [← hRd] at HG ⊢
    clear hF hG htin hcf hcg hW hRd
    cases hR : R with
    | ok r =>
      rw [hR] at HG
      show Calls Try.prog 54 _ w (OkPost w (Fresh w) r)
      clear hR
      go_enter Try.func54, Try.ntmps54
      go_wp2_with fail
      refine (HG.out _ (c_box2 w _ _)).mono ?_
      rintro e w1 ⟨yo, yl, yc, rfl, htin, hB⟩
      have hres := c_kept hB (by simp) (c_new2 w _ _)
      have hU : w.heap.size + 2 ≤ ((w.alloc (.cells #[.int .i64 t.op, .int .i64 t.a, .int .i64 t.n, .int .i64 t.m, .string t.s, .slice ao len cap] 27)).alloc (.cells #[.int .i64 0, .int .i64 0, .int .i64 0, .int .i64 0, .string ⟨#[]⟩, .slice none 0 0] 27)).heap.size := by simp
      have hW1 : Below w.heap.size w w1 := c_thr (c_box2 w _ _) hB (by simp; omega)
      obtain ⟨⟨r0, r1, r2, r3, r4, r5⟩, ⟨q0, q1, q2, q3, q4, q5⟩, hr⟩ := c_six hres
      have HF := Lib.hid (And.intro htin (And.intro hU hW1))
      clear hres htin hB hU hW1
      go_wp2
      refine bodyPost_ret (v := .tuple #[.agg #[.int .i64 r.op, .int .i64 r.a, .int .i64 r.n, .int .i64 r.m, .string r.s, .slice yo yl yc], .int .i64 0]) (by simp [results, Try.results54, go_sem, r0, r1, r2, r3, r4, r5]) rfl ?_
      exact ⟨yo, yl, yc, rfl, fin_ok HF.out.1 HF.out.2.1 HF.out.2.2⟩
    | error x =>
      rw [hR] at HG
      show Calls Try.prog 54 _ w (ErPost w x)
      clear hR
      go_enter Try.func54, Try.ntmps54
      go_wp2_with fail
      refine (HG.out _ (c_box2 w _ _)).mono ?_
      rintro e w1 ⟨hx, rfl, hB⟩
      have hres := c_kept hB (by simp) (c_new2 w _ _)
      have hW1 : Below w.heap.size w w1 := c_thr (c_box2 w _ _) hB (by simp; omega)
      obtain ⟨⟨r0, r1, r2, r3, r4, r5⟩, ⟨q0, q1, q2, q3, q4, q5⟩, hr⟩ := c_six hres
      have HF := Lib.hid (And.intro hx hW1)
      clear hres hB hW1
      go_wp2
      refine bodyPost_ret (v := .tuple #[.agg #[.int .i64 0, .int .i64 0, .int .i64 0, .int .i64 0, .string ⟨#[]⟩, .slice none 0 0], .int .i64 x]) (by simp [results, Try.results54, go_sem, r0, r1, r2, r3, r4, r5]) rfl ?_
      exact ⟨HF.out.1, rfl, c_st6 HF.out.2 (by omega)⟩
set_option linter.unusedVariables false in
set_option maxRecDepth 100000 in
set_option maxHeartbeats 1000000 in
theorem pair_any (idf idg : Nat) (cf cg : Array Value) (N D : Nat) (hD : D ≤ 100000) (F G : Part) (w : World) (hF : PartAt idf cf w N D F) (hG : PartAt idg cg w N D G) :
    Calls Try.prog 49 #[.func (.func idf) #[] cf, .func (.func idg) #[] cg] w fun e w' => ∃ b c, e = .returned (.func (.func 54) #[] #[.pointer (some ⟨c, 0, none⟩), .pointer (some ⟨b, 0, none⟩)]) ∧ PartAt 54 #[.pointer (some ⟨c, 0, none⟩), .pointer (some ⟨b, 0, none⟩)] w' N D (pairV F G) ∧ Below w.heap.size w w' := by
  have HG := Lib.hid (And.intro hF hG)
  have hmf : ∀ (fn : Fn) (first cap : Array Value) (w : World), (Instr.makeFunc fn first cap).run Try.prog w = .ok (.func fn first cap) w := fun _ _ _ _ => rfl
  clear hF hG
  go_enter Try.func49, Try.ntmps49
  go_wp2
  go_ret
  exact ⟨_, _, rfl, pair_part idf idg cf cg _ N D hD F G _ _ ((c_cell (c_new1 w _ _) 0).trans rfl) ((c_cell (c_new2 w _ _) 0).trans rfl) (part_below HG.out.1 (c_box2 w _ _)) (part_below HG.out.2 (c_box2 w _ _)), c_box2 w _ _⟩
set_option linter.unusedVariables false in
set_option maxRecDepth 100000 in
set_option maxHeartbeats 1000000 in
theorem only_part (id : Nat) (W0 : World) (N D : Nat) (P : Tr → Bool) (b : Nat) (hN : N ≤ 100000) (hD : D ≤ 100000) (hc : W0.cell? ⟨b, 0, none⟩ = some (.func (.func id) #[] #[])) (hP : PredAt id P) : PartAt 55 #[.pointer (some ⟨b, 0, none⟩)] W0 N D (onlyV P) := by
  have hent := hP.ent
  unfold EntersF at hent
  refine ⟨ent55, fun w hW t ao len cap d l ht hd htin => ?_⟩
  have hbl : b < W0.heap.size := World.block_lt_of_cell? W0 _ hc
  have hlt : b < w.heap.size := Nat.lt_of_lt_of_le hbl hW.size
  have hcell : w.cell? ⟨b, 0, none⟩ = some (.func (.func id) #[] #[]) := (hW.cell (p := ⟨b, 0, none⟩) hbl).trans hc
  unfold onlyV
  have HP := Lib.hid (fun W => hP.run W t ao len cap)
  have HC := Lib.hid (fun (W : World) (hB : Below w.heap.size w W) => copied_fresh N hN t ao len cap W ht (tin_kept htin hB))
  cases hp : P t with
  | false =>
    rw [hp] at HP
    simp only [Bool.false_eq_true, if_false]
    clear hP htin hc hW HC
    show Calls Try.prog 55 _ w (ErPost w 24)
    go_enter Try.func55, Try.ntmps55
    go_wp2_with fail
    refine (HP.out _).mono ?_
    rintro e w1 ⟨rfl, hB⟩
    have hres := c_kept hB (by simp) (c_new2 w _ _)
    have hW1 : Below w.heap.size w w1 := c_thr (c_box2 w _ _) hB (by simp; omega)
    obtain ⟨⟨r0, r1, r2, r3, r4, r5⟩, ⟨q0, q1, q2, q3, q4, q5⟩, hr⟩ := c_six hres
    have HF := Lib.hid hW1
    clear hres hB hW1
    go_wp2
    refine bodyPost_ret (v := .tuple #[.agg #[.int .i64 0, .int .i64 0, .int .i64 0, .int .i64 0, .string ⟨#[]⟩, .slice none 0 0], .int .i64 24]) (by simp [results, Try.results55, go_sem, r0, r1, r2, r3, r4, r5]) rfl ?_
    exact ⟨rfl, rfl, c_st6 HF.out (by omega)⟩
  | true =>
    rw [hp] at HP
    simp only [if_true]
    clear hP htin hc hW
    show Calls Try.prog 55 _ w (OkPost w (Fresh w) t)
    go_enter Try.func55, Try.ntmps55
    go_wp2_with fail
    refine (HP.out _).mono ?_
    rintro e w1 ⟨rfl, hB⟩
    have hres := c_kept hB (by simp) (c_new2 w _ _)
    have hbox := c_kept hB (by simp; omega) (c_new1 w _ _)
    have hz1 : w.heap.size + 2 ≤ w1.heap.size := by have := hB.size; simp at this; omega
    have hW1 : Below w.heap.size w w1 := c_thr (c_box2 w _ _) hB (by simp; omega)
    obtain ⟨⟨b0, b1, b2, b3, b4, b5⟩, -, -⟩ := c_six hbox
    have HR := Lib.hid hres
    have HW1 := Lib.hid hW1
    clear hres hbox hB hW1
    go_wp2_with fail
    refine (HC.out _ HW1.out).mono ?_
    rintro e w2 ⟨yo, yl, yc, rfl, htin, hB⟩
    have hres := c_kept hB (by omega) HR.out
    have hU : w.heap.size + 2 ≤ w1.heap.size := hz1
    have hW1 : Below w.heap.size w w2 := c_thr HW1.out hB (by omega)
    obtain ⟨⟨r0, r1, r2, r3, r4, r5⟩, ⟨q0, q1, q2, q3, q4, q5⟩, hr⟩ := c_six hres
    have HF := Lib.hid (And.intro htin (And.intro hU hW1))
    clear hres htin hB hU hW1
    go_wp2
    refine bodyPost_ret (v := .tuple #[.agg #[.int .i64 t.op, .int .i64 t.a, .int .i64 t.n, .int .i64 t.m, .string t.s, .slice yo yl yc], .int .i64 0]) (by simp [results, Try.results55, go_sem, r0, r1, r2, r3, r4, r5]) rfl ?_
    exact ⟨yo, yl, yc, rfl, fin_ok HF.out.1 HF.out.2.1 HF.out.2.2⟩
set_option linter.unusedVariables false in
set_option maxRecDepth 100000 in
set_option maxHeartbeats 1000000 in
theorem only_any (id : Nat) (N D : Nat) (P : Tr → Bool) (w : World) (hN : N ≤ 100000) (hD : D ≤ 100000) (hP : PredAt id P) :
    Calls Try.prog 52 #[.func (.func id) #[] #[]] w fun e w' => ∃ b, e = .returned (.func (.func 55) #[] #[.pointer (some ⟨b, 0, none⟩)]) ∧ PartAt 55 #[.pointer (some ⟨b, 0, none⟩)] w' N D (onlyV P) ∧ Below w.heap.size w w' := by
  have HP := Lib.hid hP
  have hmf : ∀ (fn : Fn) (first cap : Array Value) (w : World), (Instr.makeFunc fn first cap).run Try.prog w = .ok (.func fn first cap) w := fun _ _ _ _ => rfl
  clear hP
  go_enter Try.func52, Try.ntmps52
  go_wp2
  go_ret
  exact ⟨_, rfl, only_part id _ N D P _ hN hD ((c_cell (heap_alloc_new w _) 0).trans rfl) HP.out, c_box w _⟩
end Go.Proofs.Ytjnlifghobgkcaa
