/-
  Numbers of a node, and what a node is by itself, as package tree asks: mostN, mostM, numbers, isLink, isSimple, isExpr and their like.
-/
import Derived.Test.YtppliplalfpmaaaDoorDText
import Derived.BigQuiet
namespace Go.Proofs.YtppliplalfpmaaaDoor
open Go.RowKit

theorem drewN_below {B : Nat} {w w1 : World} (h : Below B w w1) (n : Nat) : Below B w (w1.drewN n) := h.trans ⟨rfl, rfl, rfl, Nat.le_refl _, fun _ _ => rfl⟩
def RB (b : Bool) (w : World) : Ending → World → Prop := fun e w' => e = .returned (.bool b) ∧ Below w.heap.size w w'
def mN (op : Int) : Int := if op = 1 then 1 else if op = 22 then 1 else if op = 32 then 1 else if op = 43 then 1 else if op = 49 then 1 else if op = 51 then 1 else if op = 52 then 1 else if op = 54 then 1 else if op = 2 then 2 else if op = 39 then 5 else if op = 4 then 255 else if op = 30 then 9007199254740992 else 0
set_option linter.unusedVariables false in
set_option maxRecDepth 100000 in
set_option maxHeartbeats 2000000 in
theorem mostN_any (op : Int) (w : World) : Calls Tryd.prog 49 #[.int .i64 op] w fun e w' => e = .returned (.int .i64 (mN op)) ∧ w = w' := by
  unfold mN
  by_cases h1 : op = 1
  · subst h1
    go_enter Tryd.func49, Tryd.ntmps49
    go_wp2
    go_ret
    exact ⟨rfl, rfl⟩
  · rw [if_neg h1]
    replace h1 : (op == 1) = false := by simpa using h1
    by_cases h22 : op = 22
    · subst h22
      go_enter Tryd.func49, Tryd.ntmps49
      go_wp2
      go_ret
      exact ⟨rfl, rfl⟩
    · rw [if_neg h22]
      replace h22 : (op == 22) = false := by simpa using h22
      by_cases h32 : op = 32
      · subst h32
        go_enter Tryd.func49, Tryd.ntmps49
        go_wp2
        go_ret
        exact ⟨rfl, rfl⟩
      · rw [if_neg h32]
        replace h32 : (op == 32) = false := by simpa using h32
        by_cases h43 : op = 43
        · subst h43
          go_enter Tryd.func49, Tryd.ntmps49
          go_wp2
          go_ret
          exact ⟨rfl, rfl⟩
        · rw [if_neg h43]
          replace h43 : (op == 43) = false := by simpa using h43
          by_cases h49 : op = 49
          · subst h49
            go_enter Tryd.func49, Tryd.ntmps49
            go_wp2
            go_ret
            exact ⟨rfl, rfl⟩
          · rw [if_neg h49]
            replace h49 : (op == 49) = false := by simpa using h49
            by_cases h51 : op = 51
            · subst h51
              go_enter Tryd.func49, Tryd.ntmps49
              go_wp2
              go_ret
              exact ⟨rfl, rfl⟩
            · rw [if_neg h51]
              replace h51 : (op == 51) = false := by simpa using h51
              by_cases h52 : op = 52
              · subst h52
                go_enter Tryd.func49, Tryd.ntmps49
                go_wp2
                go_ret
                exact ⟨rfl, rfl⟩
              · rw [if_neg h52]
                replace h52 : (op == 52) = false := by simpa using h52
                by_cases h54 : op = 54
                · subst h54
                  go_enter Tryd.func49, Tryd.ntmps49
                  go_wp2
                  go_ret
                  exact ⟨rfl, rfl⟩
                · rw [if_neg h54]
                  replace h54 : (op == 54) = false := by simpa using h54
                  by_cases h2 : op = 2
                  · subst h2
                    go_enter Tryd.func49, Tryd.ntmps49
                    go_wp2
                    go_ret
                    exact ⟨rfl, rfl⟩
                  · rw [if_neg h2]
                    replace h2 : (op == 2) = false := by simpa using h2
                    by_cases h39 : op = 39
                    · subst h39
                      go_enter Tryd.func49, Tryd.ntmps49
                      go_wp2
                      go_ret
                      exact ⟨rfl, rfl⟩
                    · rw [if_neg h39]
                      replace h39 : (op == 39) = false := by simpa using h39
                      by_cases h4 : op = 4
                      · subst h4
                        go_enter Tryd.func49, Tryd.ntmps49
                        go_wp2
                        go_ret
                        exact ⟨rfl, rfl⟩
                      · rw [if_neg h4]
                        replace h4 : (op == 4) = false := by simpa using h4
                        by_cases h30 : op = 30
                        · subst h30
                          go_enter Tryd.func49, Tryd.ntmps49
                          go_wp2
                          go_ret
                          exact ⟨rfl, rfl⟩
                        · rw [if_neg h30]
                          replace h30 : (op == 30) = false := by simpa using h30
                          go_enter Tryd.func49, Tryd.ntmps49
                          go_wp2
                          go_ret
                          exact ⟨rfl, rfl⟩
def mM (op n : Int) : Int := if op = 39 then (if n = 3 then 0 else if n = 4 then 0 else 1) else if op = 62 then 1 else 0
set_option linter.unusedVariables false in
set_option maxRecDepth 100000 in
set_option maxHeartbeats 2000000 in
theorem mostM_any (t : Tr) (k : Value) (w : World) : Calls Tryd.prog 50 #[.agg #[.int .i64 t.op, .int .i64 t.a, .int .i64 t.n, .int .i64 t.m, .string t.s, k]] w fun e w' => e = .returned (.int .i64 (mM t.op t.n)) ∧ Below w.heap.size w w' := by
  obtain ⟨W1, hW1⟩ : ∃ W1, W1 = w.alloc (.cells #[.int .i64 t.op, .int .i64 t.a, .int .i64 t.n, .int .i64 t.m, .string t.s, k] 24) := ⟨_, rfl⟩
  have hB1 : Below w.heap.size w W1 := by rw [hW1]; exact c_box w _
  have hx1 : W1.heap[w.heap.size]? = some (.cells #[.int .i64 t.op, .int .i64 t.a, .int .i64 t.n, .int .i64 t.m, .string t.s, k] 24 (0, 0)) := by rw [hW1]; exact heap_alloc_new w _
  obtain ⟨⟨b0, b1, b2, b3, b4, b5⟩, -, hxl⟩ := c_six hx1
  have HW := Lib.hid hW1
  have HB := Lib.hid hB1
  clear hB1 hW1 hx1
  unfold mM
  by_cases h1 : t.op = 39
  · rw [if_pos h1]
    have g1 : (t.op == 39) = true := by simpa using h1
    clear h1
    by_cases h2 : t.n = 3
    · rw [if_pos h2]
      have g2 : (t.n == 3) = true := by simpa using h2
      clear h2
      go_enter Tryd.func50, Tryd.ntmps50
      go_upto_region 1 with fail
      rw [← HW.out]
      go_wp2
      go_ret
      exact ⟨rfl, HB.out⟩
    · rw [if_neg h2]
      have g2 : (t.n == 3) = false := by simpa using h2
      clear h2
      by_cases h3 : t.n = 4
      · rw [if_pos h3]
        have g3 : (t.n == 4) = true := by simpa using h3
        clear h3
        go_enter Tryd.func50, Tryd.ntmps50
        go_upto_region 1 with fail
        rw [← HW.out]
        go_wp2
        go_ret
        exact ⟨rfl, HB.out⟩
      · rw [if_neg h3]
        have g3 : (t.n == 4) = false := by simpa using h3
        clear h3
        go_enter Tryd.func50, Tryd.ntmps50
        go_upto_region 1 with fail
        rw [← HW.out]
        go_wp2
        go_ret
        exact ⟨rfl, HB.out⟩
  · rw [if_neg h1]
    have g1 : (t.op == 39) = false := by simpa using h1
    clear h1
    by_cases h2 : t.op = 62
    · rw [if_pos h2]
      have g2 : (t.op == 62) = true := by simpa using h2
      clear h2
      go_enter Tryd.func50, Tryd.ntmps50
      go_upto_region 1 with fail
      rw [← HW.out]
      go_wp2
      go_ret
      exact ⟨rfl, HB.out⟩
    · rw [if_neg h2]
      have g2 : (t.op == 62) = false := by simpa using h2
      clear h2
      go_enter Tryd.func50, Tryd.ntmps50
      go_upto_region 1 with fail
      rw [← HW.out]
      go_wp2
      go_ret
      exact ⟨rfl, HB.out⟩
def numsV (t : Tr) : Bool := decide (0 ≤ t.n) && (decide (t.n ≤ mN t.op) && (decide (0 ≤ t.m) && decide (t.m ≤ mM t.op t.n)))
set_option linter.unusedVariables false in
set_option maxRecDepth 100000 in
set_option maxHeartbeats 2000000 in
theorem numbers_any (t : Tr) (k : Value) (w : World) : Calls Tryd.prog 40 #[.agg #[.int .i64 t.op, .int .i64 t.a, .int .i64 t.n, .int .i64 t.m, .string t.s, k]] w (RB (numsV t) w) := by
  obtain ⟨W1, hW1⟩ : ∃ W1, W1 = w.alloc (.cells #[.int .i64 t.op, .int .i64 t.a, .int .i64 t.n, .int .i64 t.m, .string t.s, k] 24) := ⟨_, rfl⟩
  have hB1 : Below w.heap.size w W1 := by rw [hW1]; exact c_box w _
  have hx1 : W1.heap[w.heap.size]? = some (.cells #[.int .i64 t.op, .int .i64 t.a, .int .i64 t.n, .int .i64 t.m, .string t.s, k] 24 (0, 0)) := by rw [hW1]; exact heap_alloc_new w _
  obtain ⟨⟨b0, b1, b2, b3, b4, b5⟩, -, hxl⟩ := c_six hx1
  have HW := Lib.hid hW1
  have HB := Lib.hid hB1
  clear hB1 hW1 hx1
  have HM := Lib.hid (fun (W : World) => mostM_any t k W)
  have HXL := Lib.hid hxl
  unfold numsV
  obtain ⟨mn, hmn⟩ : ∃ mn, mn = mN t.op := ⟨_, rfl⟩
  obtain ⟨mm, hmm⟩ : ∃ mm, mm = mM t.op t.n := ⟨_, rfl⟩
  have HN := Lib.hid (fun (W : World) => mostN_any t.op W)
  rw [← hmn] at HN ⊢
  rw [← hmm] at HM ⊢
  clear hmn hmm hxl
  have HS : W1.drew.cell? ⟨w.heap.size, 0, none⟩ = some (.int .i64 t.op) ∧ W1.drew.cell? ⟨w.heap.size, 1, none⟩ = some (.int .i64 t.a) ∧ W1.drew.cell? ⟨w.heap.size, 2, none⟩ = some (.int .i64 t.n) ∧ W1.drew.cell? ⟨w.heap.size, 3, none⟩ = some (.int .i64 t.m) ∧ W1.drew.cell? ⟨w.heap.size, 4, none⟩ = some (.string t.s) ∧ W1.drew.cell? ⟨w.heap.size, 5, none⟩ = some (k) := ⟨b0, b1, b2, b3, b4, b5⟩
  cases g1 : decide (0 ≤ t.n) with
  | false =>
    go_enter Tryd.func40, Tryd.ntmps40
    go_upto_region 1 with fail
    rw [← HW.out]
    go_quiet (first | (go_at_call 49; exact Calls.quiet_of_same ((HN.out _).mono fun _ _ h => ⟨h.1, h.2.symm⟩)))
    go_wp2
    go_ret
    exact ⟨rfl, drewN_below HB.out _⟩
  | true =>
    cases g2 : decide (t.n ≤ mn) with
    | false =>
      go_enter Tryd.func40, Tryd.ntmps40
      go_upto_region 1 with fail
      rw [← HW.out]
      go_quiet (first | (go_at_call 49; exact Calls.quiet_of_same ((HN.out _).mono fun _ _ h => ⟨h.1, h.2.symm⟩)))
      go_wp2
      go_ret
      exact ⟨rfl, drewN_below HB.out _⟩
    | true =>
      cases g3 : decide (0 ≤ t.m) with
      | false =>
        go_enter Tryd.func40, Tryd.ntmps40
        go_upto_region 1 with fail
        rw [← HW.out]
        go_quiet (first | (go_at_call 49; exact Calls.quiet_of_same ((HN.out _).mono fun _ _ h => ⟨h.1, h.2.symm⟩)))
        go_wp2
        go_ret
        exact ⟨rfl, drewN_below HB.out _⟩
      | true =>
        cases g4 : decide (t.m ≤ mm) with
        | false =>
          go_enter Tryd.func40, Tryd.ntmps40
          go_upto_region 1 with fail
          rw [← HW.out]
          (go_region_held3 (fun w' => w'.cell? ⟨w.heap.size, 0, none⟩ = some (.int .i64 t.op) ∧ w'.cell? ⟨w.heap.size, 1, none⟩ = some (.int .i64 t.a) ∧ w'.cell? ⟨w.heap.size, 2, none⟩ = some (.int .i64 t.n) ∧ w'.cell? ⟨w.heap.size, 3, none⟩ = some (.int .i64 t.m) ∧ w'.cell? ⟨w.heap.size, 4, none⟩ = some (.string t.s) ∧ w'.cell? ⟨w.heap.size, 5, none⟩ = some (k)) (first | with_reducible assumption) (first
            | (go_at_call 49; refine (HN.out _).mono ?_; rintro e w9 ⟨rfl, rfl⟩)
            | (go_at_call 50; refine (HM.out _).mono ?_; rintro e w9 ⟨rfl, hB9⟩; have hS2 : w9.cell? ⟨w.heap.size, 0, none⟩ = some (.int .i64 t.op) ∧ w9.cell? ⟨w.heap.size, 1, none⟩ = some (.int .i64 t.a) ∧ w9.cell? ⟨w.heap.size, 2, none⟩ = some (.int .i64 t.n) ∧ w9.cell? ⟨w.heap.size, 3, none⟩ = some (.int .i64 t.m) ∧ w9.cell? ⟨w.heap.size, 4, none⟩ = some (.string t.s) ∧ w9.cell? ⟨w.heap.size, 5, none⟩ = some (k) := ⟨(hB9.cell (p := ⟨w.heap.size, 0, none⟩) HXL.out).trans b0, (hB9.cell (p := ⟨w.heap.size, 1, none⟩) HXL.out).trans b1, (hB9.cell (p := ⟨w.heap.size, 2, none⟩) HXL.out).trans b2, (hB9.cell (p := ⟨w.heap.size, 3, none⟩) HXL.out).trans b3, (hB9.cell (p := ⟨w.heap.size, 4, none⟩) HXL.out).trans b4, (hB9.cell (p := ⟨w.heap.size, 5, none⟩) HXL.out).trans b5⟩; have HB9 := Lib.hid hB9; clear hB9)))
          all_goals (go_wp2; go_ret; exact ⟨rfl, c_thr (B := w.heap.size) (w1 := W1.drew) HB.out.drew HB9.out HB.out.size⟩)
        | true =>
          go_enter Tryd.func40, Tryd.ntmps40
          go_upto_region 1 with fail
          rw [← HW.out]
          (go_region_held3 (fun w' => w'.cell? ⟨w.heap.size, 0, none⟩ = some (.int .i64 t.op) ∧ w'.cell? ⟨w.heap.size, 1, none⟩ = some (.int .i64 t.a) ∧ w'.cell? ⟨w.heap.size, 2, none⟩ = some (.int .i64 t.n) ∧ w'.cell? ⟨w.heap.size, 3, none⟩ = some (.int .i64 t.m) ∧ w'.cell? ⟨w.heap.size, 4, none⟩ = some (.string t.s) ∧ w'.cell? ⟨w.heap.size, 5, none⟩ = some (k)) (first | with_reducible assumption) (first
            | (go_at_call 49; refine (HN.out _).mono ?_; rintro e w9 ⟨rfl, rfl⟩)
            | (go_at_call 50; refine (HM.out _).mono ?_; rintro e w9 ⟨rfl, hB9⟩; have hS2 : w9.cell? ⟨w.heap.size, 0, none⟩ = some (.int .i64 t.op) ∧ w9.cell? ⟨w.heap.size, 1, none⟩ = some (.int .i64 t.a) ∧ w9.cell? ⟨w.heap.size, 2, none⟩ = some (.int .i64 t.n) ∧ w9.cell? ⟨w.heap.size, 3, none⟩ = some (.int .i64 t.m) ∧ w9.cell? ⟨w.heap.size, 4, none⟩ = some (.string t.s) ∧ w9.cell? ⟨w.heap.size, 5, none⟩ = some (k) := ⟨(hB9.cell (p := ⟨w.heap.size, 0, none⟩) HXL.out).trans b0, (hB9.cell (p := ⟨w.heap.size, 1, none⟩) HXL.out).trans b1, (hB9.cell (p := ⟨w.heap.size, 2, none⟩) HXL.out).trans b2, (hB9.cell (p := ⟨w.heap.size, 3, none⟩) HXL.out).trans b3, (hB9.cell (p := ⟨w.heap.size, 4, none⟩) HXL.out).trans b4, (hB9.cell (p := ⟨w.heap.size, 5, none⟩) HXL.out).trans b5⟩; have HB9 := Lib.hid hB9; clear hB9)))
          all_goals (go_wp2; go_ret; exact ⟨rfl, c_thr (B := w.heap.size) (w1 := W1.drew) HB.out.drew HB9.out HB.out.size⟩)
end Go.Proofs.YtppliplalfpmaaaDoor
