/-
  Parts of a pattern as function values.
-/
import Derived.Test.YtjnlifghobgkcaaC3
import Derived.Shelf.Abstract
namespace Go.Proofs.Ytjnlifghobgkcaa
open Go.RowKit

def OkPost (w : World) (S : Nat → Prop) (r : Tr) : Ending → World → Prop := fun e w' => ∃ ao len cap, e = .returned (.tuple #[.agg #[.int .i64 r.op, .int .i64 r.a, .int .i64 r.n, .int .i64 r.m, .string r.s, .slice ao len cap], .int .i64 0]) ∧ TIn w' S r (.slice ao len cap) ∧ Below w.heap.size w w'
def ErPost (w : World) (x : Int) : Ending → World → Prop := fun e w' => (x == 0) = false ∧ e = .returned (.tuple #[.agg #[.int .i64 0, .int .i64 0, .int .i64 0, .int .i64 0, .string ⟨#[]⟩, .slice none 0 0], .int .i64 x]) ∧ Below w.heap.size w w'
def RPost (w : World) (S : Nat → Prop) : Res → Ending → World → Prop
  | .ok r => OkPost w S r
  | .error x => ErPost w x
def Fresh (w : World) : Nat → Prop := fun b => w.heap.size ≤ b
def All : Nat → Prop := fun _ => True
def EntersF (id : Nat) : Prop := ∀ (args : Array Value) (w : World), (callFunc id args).run Try.prog w = .ok (.enter id args) w
/-- the function value does what the part G says, in every world behind W0, for trees of at most N nodes -/
structure PartAt (id : Nat) (caps : Array Value) (W0 : World) (N D : Nat) (G : Part) : Prop where
  ent : EntersF id
  run : ∀ (W : World), Below W0.heap.size W0 W → ∀ (t : Tr) (ao : Option Addr) (len cap : Nat) (d : Nat) (l : Bool), t.cnt ≤ N → d ≤ D → TIn W All t (.slice ao len cap) →
    Calls Try.prog id (#[.agg #[.int .i64 t.op, .int .i64 t.a, .int .i64 t.n, .int .i64 t.m, .string t.s, .slice ao len cap], .int .i64 d, .bool l] ++ caps) W (RPost W (Fresh W) (G t d l))
theorem part_below {id : Nat} {caps : Array Value} {W0 W1 : World} {N D : Nat} {G : Part} (h : PartAt id caps W0 N D G) (hb : Below W0.heap.size W0 W1) : PartAt id caps W1 N D G :=
  ⟨h.ent, fun W hW => h.run W (c_thr hb hW hb.size)⟩
/-- the function value is a test of nodes -/
structure PredAt (id : Nat) (P : Tr → Bool) : Prop where
  ent : EntersF id
  run : ∀ (W : World) (t : Tr) (ao : Option Addr) (len cap : Nat), Calls Try.prog id #[.agg #[.int .i64 t.op, .int .i64 t.a, .int .i64 t.n, .int .i64 t.m, .string t.s, .slice ao len cap]] W (BPost W (P t))
theorem fin_ok {w U w1 : World} {r : Tr} {k x0 x1 x2 x3 x4 x5 : Value} (ht : TIn w1 (Fresh U) r k) (hU : w.heap.size + 2 ≤ U.heap.size) (hb : Below w.heap.size w w1) :
    TIn ((((((w1.setCell ⟨w.heap.size + 1, 0, none⟩ x0).setCell ⟨w.heap.size + 1, 1, none⟩ x1).setCell ⟨w.heap.size + 1, 2, none⟩ x2).setCell ⟨w.heap.size + 1, 3, none⟩ x3).setCell ⟨w.heap.size + 1, 4, none⟩ x4).setCell ⟨w.heap.size + 1, 5, none⟩ x5) (Fresh w) r k ∧ Below w.heap.size w ((((((w1.setCell ⟨w.heap.size + 1, 0, none⟩ x0).setCell ⟨w.heap.size + 1, 1, none⟩ x1).setCell ⟨w.heap.size + 1, 2, none⟩ x2).setCell ⟨w.heap.size + 1, 3, none⟩ x3).setCell ⟨w.heap.size + 1, 4, none⟩ x4).setCell ⟨w.heap.size + 1, 5, none⟩ x5) :=
  ⟨tin_mono (tin_grown ht (st6_grown w1 (w.heap.size + 1) 0 x0 x1 x2 x3 x4 x5) (fun b _ hs e => by unfold Fresh at hs; simp at e; omega)) (fun b _ hs => by unfold Fresh at hs ⊢; omega), c_st6 hb (by omega)⟩
theorem ent47 : EntersF 47 := enters_of Try.func47 (by kernel_rfl) rfl
theorem ent48 : EntersF 48 := enters_of Try.func48 (by kernel_rfl) rfl
theorem ent54 : EntersF 54 := enters_of Try.func54 (by kernel_rfl) rfl
theorem ent55 : EntersF 55 := enters_of Try.func55 (by kernel_rfl) rfl
theorem ent34 : EntersF 34 := enters_of Try.func34 (by kernel_rfl) rfl
theorem ent53 : EntersF 53 := enters_of Try.func53 (by kernel_rfl) rfl
theorem ent14 : EntersF 14 := enters_of Try.func14 (by kernel_rfl) rfl
theorem pred34 : PredAt 34 patB := ⟨ent34, fun W t ao len cap => isPattern_any t.op t.a t.n t.m t.s ao len cap W⟩
theorem pred53 : PredAt 53 txtB := ⟨ent53, fun W t ao len cap => isText_any t.op t.a t.n t.m t.s ao len cap W⟩
theorem pred14 : PredAt 14 tgtB := ⟨ent14, fun W t ao len cap => target_any t.op t.a t.n t.m t.s ao len cap W⟩
theorem copied_fresh (N : Nat) (hN : N ≤ 100000) (t : Tr) (ao : Option Addr) (len cap : Nat) (W : World) (h : t.cnt ≤ N) (ht : TIn W All t (.slice ao len cap)) :
    Calls Try.prog 35 #[.agg #[.int .i64 t.op, .int .i64 t.a, .int .i64 t.n, .int .i64 t.m, .string t.s, .slice ao len cap]] W (NPost W (Fresh W) t) := copied_any N t _ W h hN ht
theorem tin_box2 {w : World} {t : Tr} {k : Value} (h : TIn w All t k) (o p : Obj) : TIn ((w.alloc o).alloc p) All t k := tin_kept h (c_box2 w o p)
set_option linter.unusedVariables false in
set_option maxRecDepth 100000 in
set_option maxHeartbeats 1000000 in
theorem keep_part (W0 : World) (N D : Nat) (hN : N ≤ 100000) (hD : D ≤ 100000) : PartAt 47 #[] W0 N D keepV := by
  refine ⟨ent47, fun w hW t ao len cap d l ht hd htin => ?_⟩
  have HC := Lib.hid (fun (W : World) (hB : Below w.heap.size w W) => copied_fresh N hN t ao len cap W ht (tin_kept htin hB))
  clear htin hW
  show Calls Try.prog 47 #[.agg #[.int .i64 t.op, .int .i64 t.a, .int .i64 t.n, .int .i64 t.m, .string t.s, .slice ao len cap], .int .i64 d, .bool l] w (OkPost w (Fresh w) t)
  obtain ⟨r, hr⟩ : ∃ r, r = t := ⟨_, rfl⟩
  go_enter Try.func47, Try.ntmps47
  go_wp2_with fail
  refine (HC.out _ (c_box2 w _ _)).mono ?_
  rintro e w1 ⟨yo, yl, yc, rfl, htin, hB⟩
  have hres := c_kept hB (by simp) (c_new2 w _ _)
  have hU : w.heap.size + 2 ≤ ((w.alloc (.cells #[.int .i64 t.op, .int .i64 t.a, .int .i64 t.n, .int .i64 t.m, .string t.s, .slice ao len cap] 27)).alloc (.cells #[.int .i64 0, .int .i64 0, .int .i64 0, .int .i64 0, .string ⟨#[]⟩, .slice none 0 0] 27)).heap.size := by simp
  have hW1 : Below w.heap.size w w1 := c_thr (c_box2 w _ _) hB (by simp; omega)
  obtain ⟨⟨r0, r1, r2, r3, r4, r5⟩, ⟨q0, q1, q2, q3, q4, q5⟩, hr⟩ := c_six hres
  have HF := Lib.hid (And.intro htin (And.intro hU hW1))
  clear hres htin hB hU hW1
  go_wp2
  refine bodyPost_ret (v := .tuple #[.agg #[.int .i64 t.op, .int .i64 t.a, .int .i64 t.n, .int .i64 t.m, .string t.s, .slice yo yl yc], .int .i64 0]) (by simp [results, Try.results47, go_sem, r0, r1, r2, r3, r4, r5]) rfl ?_
  exact ⟨yo, yl, yc, rfl, fin_ok HF.out.1 HF.out.2.1 HF.out.2.2⟩

end Go.Proofs.Ytjnlifghobgkcaa
