/-
  Neg of package num at this translation.
-/
import Derived.Test.YthkjdllpgcocpaaGreatDoorNArith
namespace Go.Proofs.YthkjdllpgcocpaaGreatDoor.num
open Go.RowKit

theorem twoB (w : World) (o p : Obj) : ∃ W, W = ((w.alloc o).alloc p) ∧ Below w.heap.size w W ∧ W.heap.size = w.heap.size + 2 ∧ W.heap[w.heap.size]? = some o ∧ W.heap[w.heap.size + 1]? = some p :=
  ⟨_, rfl, bel2 w o p, by rw [size_al, size_al], old1 w o p, blk1 w o p⟩

set_option maxRecDepth 100000 in
set_option maxHeartbeats 1000000 in
theorem neg_any (k n : Int) (s : ByteArray) (w : World) : Calls Tryz.prog 151 #[.agg #[.int .i64 k, .int .i64 n, .string s]] w fun e w' => e = .returned (.agg #[.int .i64 (rsK (whK k n s) (0 - whN k n s)), .int .i64 (rsN (whK k n s) (0 - whN k n s)), .string ⟨#[]⟩]) ∧ Below w.heap.size w w' := by
  have P := fun W => sub_any 3 0 k n ⟨#[]⟩ s W
  have e1 : whK 3 0 ⟨#[]⟩ = true := by kernel_rfl
  have e2 : whN 3 0 ⟨#[]⟩ = 0 := by kernel_rfl
  rw [e1, e2, Bool.true_and] at P
  obtain ⟨x, hx⟩ : ∃ x, x = rsK (whK k n s) (0 - whN k n s) := ⟨_, rfl⟩
  obtain ⟨y, hy⟩ : ∃ y, y = rsN (whK k n s) (0 - whN k n s) := ⟨_, rfl⟩
  simp only [← hx, ← hy] at P ⊢
  clear hx hy e1 e2
  have HP := Lib.hid P
  clear P
  have Q := fun W => of_any 0 W
  have e1 : ofK 0 = 3 := by kernel_rfl
  have e2 : ofN 0 = 0 := by kernel_rfl
  rw [e1, e2] at Q
  clear e1 e2
  have HQ := Lib.hid Q
  clear Q
  go_enter Tryz.func151, Tryz.ntmps151
  go_wp2_with fail
  obtain ⟨W, hW, hB, hz, ha, hr⟩ := twoB w (Obj.cells #[Value.int IntKind.i64 k, Value.int IntKind.i64 n, Value.string s] 107 (0, 0)) (Obj.cells #[Value.int IntKind.i64 0, Value.int IntKind.i64 0, Value.string { data := #[] }] 107 (0, 0))
  simp only [← hW]
  clear hW
  refine wp_region_any (by kernel_rfl) ?_
  change wpAny _ _ _ _ _ _ _ (World.drew _)
  have hB' := hB.drew
  have hz' : W.drew.heap.size = w.heap.size + 2 := hz
  have ha' : W.drew.heap[w.heap.size]? = _ := ha
  have hr' : W.drew.heap[w.heap.size + 1]? = _ := hr
  obtain ⟨V, hV⟩ : ∃ V, V = W.drew := ⟨_, rfl⟩
  simp only [← hV] at hB' hz' ha' hr' ⊢
  clear hV hB hz ha hr W
  refine wpAny_ready (rs := [0, 1]) (by kernel_rfl) (by simp) ?_
  refine AllReady.cons rfl (fun K hK => ?_) (AllReady.cons rfl (fun K hK => ?_) AllReady.nil)
  · have HK := Lib.hid hK
    clear hK
    go_wp2_with fail
    refine (HQ.out _).mono ?_
    rintro e w1 ⟨rfl, hb⟩
    have h1 : Below w.heap.size w w1 := thr hB' hb (by omega)
    have h2 := kept hb (by omega) ha'
    have h3 := kept hb (by omega) hr'
    go_wp2_with fail
    refine HK.out _ _ ?_
    clear HK K
    refine wpAny_ready (rs := [1]) (by kernel_rfl) (by simp) ?_
    refine AllReady.cons rfl (fun K hK => ?_) AllReady.nil
    have HK := Lib.hid hK
    clear hK
    obtain ⟨a0, a1, a2, _, _, _, _⟩ := tri h2
    go_wp2_with fail
    refine HK.out _ _ ?_
    clear HK K
    refine wpAny_ready (rs := [2]) (by kernel_rfl) (by simp) ?_
    refine AllReady.cons rfl (fun K hK => ?_) AllReady.nil
    have HK := Lib.hid hK
    clear hK
    go_wp2_with fail
    refine (HP.out _).mono ?_
    rintro e w2 ⟨rfl, hc⟩
    have hl := (tri h3).2.2.2.2.2.2
    have g1 : Below w.heap.size w w2 := thr h1 hc (by omega)
    obtain ⟨q0, q1, q2, f0, f1, f2, hz⟩ := tri (kept hc hl h3)
    go_wp2_with fail
    refine HK.out _ _ ?_
    clear HK K
    refine wpAny_ready (rs := [3]) (by kernel_rfl) (by simp) ?_
    refine AllReady.cons rfl (fun K hK => ?_) AllReady.nil
    have HK := Lib.hid hK
    clear hK
    go_wp2_with fail
    refine HK.out _ _ ?_
    clear HK K
    refine wpAny_done (by kernel_rfl) ?_ _
    go_wp2
    refine bodyPost_ret (v := .agg #[.int .i64 x, .int .i64 y, .string ⟨#[]⟩]) (by simp [results, Tryz.results151, go_sem, q0, q1, q2]) rfl ?_
    exact ⟨rfl, st3 g1 (by omega)⟩
  · have HK := Lib.hid hK
    clear hK
    obtain ⟨a0, a1, a2, _, _, _, _⟩ := tri ha'
    go_wp2_with fail
    refine HK.out _ _ ?_
    clear HK K
    refine wpAny_ready (rs := [0]) (by kernel_rfl) (by simp) ?_
    refine AllReady.cons rfl (fun K hK => ?_) AllReady.nil
    have HK := Lib.hid hK
    clear hK
    go_wp2_with fail
    refine (HQ.out _).mono ?_
    rintro e w1 ⟨rfl, hb⟩
    have h1 : Below w.heap.size w w1 := thr hB' hb (by omega)
    have h2 := kept hb (by omega) ha'
    have h3 := kept hb (by omega) hr'
    go_wp2_with fail
    refine HK.out _ _ ?_
    clear HK K
    refine wpAny_ready (rs := [2]) (by kernel_rfl) (by simp) ?_
    refine AllReady.cons rfl (fun K hK => ?_) AllReady.nil
    have HK := Lib.hid hK
    clear hK
    go_wp2_with fail
    refine (HP.out _).mono ?_
    rintro e w2 ⟨rfl, hc⟩
    have hl := (tri h3).2.2.2.2.2.2
    have g1 : Below w.heap.size w w2 := thr h1 hc (by omega)
    obtain ⟨q0, q1, q2, f0, f1, f2, hz⟩ := tri (kept hc hl h3)
    go_wp2_with fail
    refine HK.out _ _ ?_
    clear HK K
    refine wpAny_ready (rs := [3]) (by kernel_rfl) (by simp) ?_
    refine AllReady.cons rfl (fun K hK => ?_) AllReady.nil
    have HK := Lib.hid hK
    clear hK
    go_wp2_with fail
    refine HK.out _ _ ?_
    clear HK K
    refine wpAny_done (by kernel_rfl) ?_ _
    go_wp2
    refine bodyPost_ret (v := .agg #[.int .i64 x, .int .i64 y, .string ⟨#[]⟩]) (by simp [results, Tryz.results151, go_sem, q0, q1, q2]) rfl ?_
    exact ⟨rfl, st3 g1 (by omega)⟩
end Go.Proofs.YthkjdllpgcocpaaGreatDoor.num
