/-
  first of the reference at this translation.
-/
import Derived.Test.YtjnlifghobgkcaaR1
namespace Go.Proofs.Ytjnlifghobgkcaa
open Go.RowKit

/-- the reference's side: an error comes with some node -/
def EAny (w : World) (x : Int) : Ending → World → Prop := fun e w' => (x == 0) = false ∧ ∃ (a b c d : Int) (s : ByteArray) (ko : Option Addr) (kl kc : Nat), e = .returned (.tuple #[.agg #[.int .i64 a, .int .i64 b, .int .i64 c, .int .i64 d, .string s, .slice ko kl kc], .int .i64 x]) ∧ Below w.heap.size w w'
def QPost (w : World) (S : Nat → Prop) : Res → Ending → World → Prop
  | .ok r => OkPost w S r
  | .error x => EAny w x
/-- what came in, or made by the call -/
def Sha (B : Nat) (w : World) : Nat → Prop := fun b => b < B ∨ w.heap.size ≤ b
def firstT (t : Tr) : Tr := t.ks.head?.getD zeroT
theorem first_one {t x : Tr} (h : t.ks[0]? = some x) : firstT t = x := by
  unfold firstT
  rw [List.head?_eq_getElem?, h]
  rfl
theorem first_none {t : Tr} (h : t.ks = []) : firstT t = zeroT := by
  unfold firstT
  rw [h]
  rfl
set_option linter.unusedVariables false in
set_option maxRecDepth 100000 in
set_option maxHeartbeats 1000000 in
theorem first_any (S : Nat → Prop) (t : Tr) (ao : Option Addr) (cap : Nat) (w : World) (hks : t.ks.length ≤ 100000) (ht : TIn w S t (.slice ao t.ks.length cap)) : Calls Try.prog 44 #[.agg #[.int .i64 t.op, .int .i64 t.a, .int .i64 t.n, .int .i64 t.m, .string t.s, .slice ao t.ks.length cap]] w (NPost w S (firstT t)) := by
  obtain ⟨W2, hW2⟩ : ∃ W2, W2 = (w.alloc (.cells #[.int .i64 t.op, .int .i64 t.a, .int .i64 t.n, .int .i64 t.m, .string t.s, .slice ao t.ks.length cap] 27)).alloc (.cells #[.int .i64 0, .int .i64 0, .int .i64 0, .int .i64 0, .string ⟨#[]⟩, .slice none 0 0] 27) := ⟨_, rfl⟩
  have hB2 : Below w.heap.size w W2 := by rw [hW2]; exact c_box2 w _ _
  have hbox : W2.heap[w.heap.size]? = some (.cells #[.int .i64 t.op, .int .i64 t.a, .int .i64 t.n, .int .i64 t.m, .string t.s, .slice ao t.ks.length cap] 27 (0, 0)) := by rw [hW2]; exact c_new1 w _ _
  have hres : W2.heap[w.heap.size + 1]? = some (.cells #[.int .i64 0, .int .i64 0, .int .i64 0, .int .i64 0, .string ⟨#[]⟩, .slice none 0 0] 27 (0, 0)) := by rw [hW2]; exact c_new2 w _ _
  obtain ⟨⟨b0, b1, b2, b3, b4, b5⟩, -, hxl⟩ := c_six hbox
  obtain ⟨⟨r0, r1, r2, r3, r4, r5⟩, ⟨q0, q1, q2, q3, q4, q5⟩, hrl⟩ := c_six hres
  have HW := Lib.hid hW2
  have HB := Lib.hid hB2
  cases hk : t.ks with
  | nil =>
    rw [first_none hk]
    have hl : t.ks.length = 0 := by rw [hk]; rfl
    rw [← hk]
    have g0 : ((t.ks.length : Int) == 0) = true := by rw [hl]; rfl
    have g1 : decide (t.ks = []) = true := by simp [hk]
    clear hk hl hW2 hbox hres ht
    go_enter Try.func44, Try.ntmps44
    go_upto_region 1 with fail
    rw [← HW.out]
    go_wp2
    refine bodyPost_ret (v := .agg #[.int .i64 0, .int .i64 0, .int .i64 0, .int .i64 0, .string ⟨#[]⟩, .slice none 0 0]) (by simp [results, Try.results44, go_sem, r0, r1, r2, r3, r4, r5]) rfl ?_
    exact ⟨none, 0, 0, rfl, tin_leaf, c_st6 HB.out (by omega)⟩
  | cons x r =>
    have hx : t.ks[0]? = some x := by rw [hk]; rfl
    rw [first_one hx, ← hk]
    obtain ⟨bb, oo, xo, xl, xc, rfl, hbb, hbS, hcc, hyt⟩ := kidS ht hx
    obtain rfl := tin_len hyt
    have hl1 := (List.getElem?_eq_some_iff.1 hx).1
    have g0 : ((t.ks.length : Int) == 0) = false := by simp only [beq_eq_false_iff_ne]; omega
    have hl2 : (0 : Int) < (t.ks.length : Int) := by omega
    have hbb2 : bb < W2.heap.size := Nat.lt_of_lt_of_le hbb hB2.size
    obtain ⟨c0, c1, c2, c3, c4, c5⟩ := ncells_kept (hB2.block bb hbb) hcc
    simp only [Nat.zero_mul, Nat.add_zero] at c0 c1 c2 c3 c4 c5
    have HT := Lib.hid (tin_kept (tin_mono (S' := fun b => S b ∧ b < w.heap.size) hyt (fun b hb hs => ⟨hs, hb⟩)) hB2)
    clear hk hx hW2 hbox hres ht hcc hyt
    go_enter Try.func44, Try.ntmps44
    go_upto_region 1 with fail
    rw [← HW.out]
    go_wp2
    refine bodyPost_ret (v := .agg #[.int .i64 x.op, .int .i64 x.a, .int .i64 x.n, .int .i64 x.m, .string x.s, .slice xo x.ks.length xc]) (by simp [results, Try.results44, go_sem, r0, r1, r2, r3, r4, r5]) rfl ?_
    exact ⟨xo, _, xc, rfl, tin_mono (tin_grown HT.out (st6_grown W2 (w.heap.size + 1) 0 _ _ _ _ _ _) (fun b _ hs e => by simp at e; omega)) (fun b _ hs => hs.1), c_st6 HB.out (by omega)⟩
end Go.Proofs.Ytjnlifghobgkcaa
