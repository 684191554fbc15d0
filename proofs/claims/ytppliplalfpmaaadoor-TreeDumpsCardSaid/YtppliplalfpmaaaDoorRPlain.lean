/-
  Plain of the reference at this translation.
-/
import Derived.Test.YtppliplalfpmaaaDoorSame
namespace Go.Proofs.YtppliplalfpmaaaDoor
open Go.RowKit

def Fresh (w : World) : Nat → Prop := fun b => w.heap.size ≤ b
/-- what a copy leaves: a tree of fresh blocks -/
def PlPost (w : World) (r : Tr) : Ending → World → Prop := fun e w' => ∃ (o : Option Addr) (l c : Nat), e = .returned (.agg #[.int .i64 r.op, .int .i64 r.a, .int .i64 r.n, .int .i64 r.m, .string r.s, .slice o l c]) ∧ TIn w' (Fresh w) r (.slice o l c) ∧ Below w.heap.size w w'
theorem plL_app : ∀ (l r : List Tr), plL (l ++ r) = plL l ++ plL r := by
  intro l r
  induction l with
  | nil => rfl
  | cons t l ih =>
    show t.pl :: plL (l ++ r) = t.pl :: (plL l ++ plL r)
    rw [ih]
theorem plL_take {l : List Tr} {k : Nat} {x : Tr} (h : l[k]? = some x) : plL (l.take (k + 1)) = plL (l.take k) ++ [x.pl] := by
  rw [List.take_add_one, h, plL_app]; rfl
theorem pl_op (t : Tr) : t.pl.op = t.op ∧ t.pl.a = 0 ∧ t.pl.n = t.n ∧ t.pl.m = t.m ∧ t.pl.s = t.s := by cases t; exact ⟨rfl, rfl, rfl, rfl, rfl⟩
/-- a row of fresh trees and one more behind it -/
theorem row_step {wr w1 w4 : World} {o : Obj} {B T : Nat} {L : List TV} {ro : Option Addr} {rc g gc : Nat} {r : Tr} {kr : Value}
    (hL : ∀ x ∈ L, TIn wr (fun b => B ≤ b ∧ some b ≠ (Value.slice ro L.length rc).ownBlock) x.1 x.2) (hBd : B ≤ wr.heap.size)
    (hvo : ∀ g, (Value.slice ro L.length rc).ownBlock = some g → B ≤ g ∧ g < wr.heap.size)
    (htin : TIn w1 (Fresh wr) r kr) (hB1 : Below wr.heap.size wr w1)
    (hgrow : (w1.alloc o).grownBy w4 (Value.slice ro L.length rc).ownBlock) (hat : (Value.slice ro L.length rc).ownBlock = some g ∨ g = (w1.alloc o).heap.size) (hown : w4.ownsRow B T 6 (.slice (some ⟨g, 0, none⟩) (L.length + 1) gc) (L.length + 1) (L.flatMap pC ++ ndC r kr)) :
    PRow w4 B T (.slice (some ⟨g, 0, none⟩) (L.length + 1) gc) (L ++ [(r, kr)]) ∧ (∀ x ∈ L ++ [(r, kr)], TIn w4 (fun b => B ≤ b ∧ some b ≠ (Value.slice (some ⟨g, 0, none⟩) (L.length + 1) gc).ownBlock) x.1 x.2) ∧ Below B wr w4 := by
  have hg2 : B ≤ g := (World.ownsRow.lt hown g rfl).1
  have hz5 : (w1.alloc o).heap.size = w1.heap.size + 1 := by simp
  have hz1 := hB1.size
  have h5 : ∀ b, b < w1.heap.size → (w1.alloc o).heap[b]? = w1.heap[b]? := fun b hb => Below.heap_alloc w1 o b (by omega)
  have h5r : ∀ b, b < wr.heap.size → (w1.alloc o).heap[b]? = wr.heap[b]? := fun b hb => (h5 b (by omega)).trans (hB1.block b hb)
  have hz4' := hgrow.size
  have hne : ∀ b, (b < B ∨ wr.heap.size ≤ b) → some b ≠ (Value.slice ro L.length rc).ownBlock := fun b hb e => by have := hvo b e.symm; omega
  have h4 : ∀ b, b < w1.heap.size → some b ≠ (Value.slice ro L.length rc).ownBlock → w4.heap[b]? = w1.heap[b]? := fun b hb he => (hgrow.block b (by omega) he).trans (h5 b hb)
  have h4r : ∀ b, b < wr.heap.size → some b ≠ (Value.slice ro L.length rc).ownBlock → w4.heap[b]? = wr.heap[b]? := fun b hb he => (hgrow.block b (by omega) he).trans (h5r b hb)
  have hgne : ∀ b, b < w1.heap.size → some b ≠ (Value.slice ro L.length rc).ownBlock → some b ≠ (Value.slice (some ⟨g, 0, none⟩) (L.length + 1) gc).ownBlock := by
    intro b hb he e
    have e2 : b = g := by simpa [Value.ownBlock] using e
    subst e2
    rcases hat with h | h
    · exact he h.symm
    · omega
  refine ⟨prow_snoc hown, ?_, ⟨hgrow.os.trans hB1.os, hgrow.tape.trans hB1.tape, hgrow.output.trans hB1.output, by omega, fun b hb => h4r b (by omega) (hne b (.inl hb))⟩⟩
  intro x hx
  rcases List.mem_append.1 hx with hx | hx
  · exact tin_imp (fun b hb hS => ⟨⟨hS.1, hgne b (by omega) hS.2⟩, h4r b hb hS.2⟩) (by omega) _ _ (hL x hx)
  · obtain rfl : x = (r, kr) := by simpa using hx
    exact tin_imp (fun b hb hS => by unfold Fresh at hS; exact ⟨⟨by omega, hgne b hb (hne b (.inr hS))⟩, h4 b hb (hne b (.inr hS))⟩) (by omega) _ _ htin
def RelPl (W0 : World) (t : Tr) (v i : Value) (wr : World) : Prop := ∃ (k : Nat) (L : List TV) (ro : Option Addr) (rc : Nat), v = .slice ro L.length rc ∧ i = .int .i64 k ∧ k ≤ t.ks.length ∧ L.length = k ∧ PRow wr W0.heap.size 24 (.slice ro L.length rc) L ∧ (∀ x ∈ L, TIn wr (fun b => W0.heap.size ≤ b ∧ some b ≠ (Value.slice ro L.length rc).ownBlock) x.1 x.2) ∧ L.map (·.1) = plL (t.ks.take k) ∧ Below W0.heap.size W0 wr
theorem relpl_step {W0 wr w1 w4 : World} {o : Obj} {t x : Tr} {k : Nat} {L : List TV} {ro : Option Addr} {rc g gc : Nat} {kr : Value} (hx : t.ks[k]? = some x) (hLk : L.length = k) (hmap : L.map (·.1) = plL (t.ks.take k)) (hB : Below W0.heap.size W0 wr)
    (hL : ∀ x ∈ L, TIn wr (fun b => W0.heap.size ≤ b ∧ some b ≠ (Value.slice ro L.length rc).ownBlock) x.1 x.2)
    (hvo : ∀ g, (Value.slice ro L.length rc).ownBlock = some g → W0.heap.size ≤ g ∧ g < wr.heap.size)
    (htin : TIn w1 (Fresh wr) x.pl kr) (hB1 : Below wr.heap.size wr w1)
    (hgrow : (w1.alloc o).grownBy w4 (Value.slice ro L.length rc).ownBlock) (hat : (Value.slice ro L.length rc).ownBlock = some g ∨ g = (w1.alloc o).heap.size) (hown : w4.ownsRow W0.heap.size 24 6 (.slice (some ⟨g, 0, none⟩) (L.length + 1) gc) (L.length + 1) (L.flatMap pC ++ ndC x.pl kr)) :
    RelPl W0 t (.slice (some ⟨g, 0, none⟩) (L.length + 1) gc) (.int .i64 ((k : Int) + 1)) w4 := by
  obtain ⟨h1, h2, h3⟩ := row_step hL hB.size hvo htin hB1 hgrow hat hown
  have e : (L ++ [(x.pl, kr)]).length = L.length + 1 := by simp
  refine ⟨k + 1, L ++ [(x.pl, kr)], some ⟨g, 0, none⟩, gc, by rw [e], by simp, (List.getElem?_eq_some_iff.1 hx).1, by rw [e, hLk], by rw [e]; exact h1, by rw [e]; exact h2, ?_, hB.trans h3⟩
  rw [List.map_append, hmap, plL_take hx]; rfl
set_option linter.unusedVariables false in
set_option maxRecDepth 100000 in
set_option maxHeartbeats 1000000 in
theorem rplain_any : ∀ (N : Nat) (t : Tr) (ao : Option Addr) (cap : Nat) (w : World), t.cnt ≤ N → N ≤ 100000 → TIn w All t (.slice ao t.ks.length cap) →
    Calls Tryd.prog 15 #[.agg #[.int .i64 t.op, .int .i64 t.a, .int .i64 t.n, .int .i64 t.m, .string t.s, .slice ao t.ks.length cap]] w (PlPost w t.pl) := by
  obtain ⟨i0, hi, hz0, hz1, hz2⟩ := info_parts node_info
  have hT : Tryd.prog.underlying 22 = some (.slice 24) := Tryd.underlying22
  intro N
  induction N with
  | zero => intro t ao cap w h; have := cnt_pos t; omega
  | succ N ih =>
    intro t ao cap w hN hN2 ht
    have hks := ks_le hN hN2
    have HT := Lib.hid ht
    have HI := Lib.hid (fun (x : Tr) (a1 : Option Addr) (p1 : Nat) (W : World) (hx : x.cnt ≤ N) => ih x a1 p1 W hx (by omega))
    have HKL := Lib.hid (fun (i : Nat) (x : Tr) (hx : t.ks[i]? = some x) => (by have := cnt_kid hx; omega : x.cnt ≤ N))
    clear ih ht
    obtain ⟨len, hle⟩ : ∃ len, len = t.ks.length := ⟨_, rfl⟩
    have HLE := Lib.hid hle
    rw [← hle] at hks HT ⊢
    clear hle
    go_enter Tryd.func15, Tryd.ntmps15
    go_upto_region 1 with fail
    obtain ⟨W0, hW0⟩ : ∃ W0, W0 = ((w.alloc (.cells #[.int .i64 t.op, .int .i64 t.a, .int .i64 t.n, .int .i64 t.m, .string t.s, .slice ao len cap] 24)).alloc (.cells #[.int .i64 0, .int .i64 0, .int .i64 0, .int .i64 0, .string ⟨#[]⟩, .slice none 0 0] 24)) := ⟨_, rfl⟩
    rw [← hW0]
    have hB0 : Below w.heap.size w W0 := by rw [hW0]; exact c_box2 w _ _
    have hz0' : W0.heap.size = w.heap.size + 2 := by rw [hW0]; simp
    have h01 : W0.heap[w.heap.size]? = some (.cells #[.int .i64 t.op, .int .i64 t.a, .int .i64 t.n, .int .i64 t.m, .string t.s, .slice ao len cap] 24 (0, 0)) := by rw [hW0]; exact c_new1 w _ _
    have h02 : W0.heap[w.heap.size + 1]? = some (.cells #[.int .i64 0, .int .i64 0, .int .i64 0, .int .i64 0, .string ⟨#[]⟩, .slice none 0 0] 24 (0, 0)) := by rw [hW0]; exact c_new2 w _ _
    have HX := Lib.hid (And.intro hB0 (And.intro hz0' (And.intro h01 h02)))
    clear hW0 hB0 hz0' h01 h02
    go_wp2
    go_loopw [3, 4] (fun v i wr => RelPl W0 t v i wr) (fun _ i _ => len - natOf i)
    case atStart => exact ⟨0, [], none, 0, rfl, rfl, Nat.zero_le _, rfl, World.ownsRow_nil _ _ _ _, (fun x hx => by cases hx), rfl, Below.refl _ _⟩
    case round =>
      obtain ⟨k, L, ro, rc, rfl, rfl, hk, hLk, hrow, hL, hmap, hB⟩ := hrel
      have hwz : w.heap.size + 2 ≤ wr.heap.size := by have := HX.out.2.1; have := hB.size; omega
      have hB1 : Below w.heap.size w wr := c_thr HX.out.1 hB HX.out.1.size
      have hb1 := c_kept hB (c_lt HX.out.2.2.1) HX.out.2.2.1
      have hb2 := c_kept hB (c_lt HX.out.2.2.2) HX.out.2.2.2
      have HLK := Lib.hid hLk
      have hLn : L.length ≤ k := by omega
      clear hLk
      have hvo : ∀ g, (Value.slice ro L.length rc).ownBlock = some g → W0.heap.size ≤ g ∧ g < wr.heap.size := fun g hg => World.ownsRow.lt hrow g hg
      by_cases hkl : k < len
      · have g1 : decide ((k : Int) < (len : Int)) = true := decide_eq_true (by omega)
        have g2 : (k : Int) < (len : Int) := by omega
        obtain ⟨x, hx⟩ : ∃ x, t.ks[k]? = some x := ⟨_, List.getElem?_eq_getElem (by rw [← HLE.out]; exact hkl)⟩
        have hxc := HKL.out k x hx
        obtain ⟨b1, o1, xo, xl, xc, ea1, hbb1, hc1, hx1⟩ := kid0 HT.out hx
        subst ea1
        obtain ⟨c0, c1, c2, c3, c4, c5⟩ := ncells_kept (hB1.block b1 hbb1) hc1
        obtain rfl := tin_len hx1
        obtain ⟨⟨d0, d1, d2, d3, d4, d5⟩, -, hxl⟩ := c_six hb1
        have hl1 : b1 < wr.heap.size := by omega
        have hW0r : W0.heap.size ≤ wr.heap.size := hB.size
        have HC := Lib.hid (HI.out x xo xc wr hxc (tin_kept hx1 hB1))
        have HH := Lib.hid (And.intro hrow (And.intro hL (And.intro hmap (And.intro hB (And.intro hb1 (And.intro hb2 hx))))))
        clear hc1 hx1 hrow hL hmap hB hB1 hb1 hb2 hx
        go_wp2_with fail
        refine HC.out.mono ?_
        rintro e w1 ⟨yo, yl, yc, rfl, htin, hB9⟩
        have hz9 := hB9.size
        have hrow9 : w1.ownsRow W0.heap.size 24 6 (.slice ro L.length rc) L.length (L.flatMap pC) := prow_kept HH.out.1 hB9
        have HF := Lib.hid (And.intro htin (And.intro hB9 hrow9))
        clear htin hB9 hrow9
        go_wp2_with (at_builtin; refine wpList_append_lies _ rfl _ _ 22 rfl W0.heap.size 24 i0 (.agg #[.int .i64 0, .int .i64 0, .int .i64 0, .int .i64 0, .string ⟨#[]⟩, .slice none 0 0]) 6 72 hT hi hz0 hz1 hz2 rfl (by decide) (.slice ro L.length rc) _ _ rfl (HF.out.2.2.alloc _) ⟨w1.heap.size, 0, none⟩ 1 1 (ndC x.pl (.slice yo yl yc)) rfl rfl ?_ ?_ (by omega) ?_ ?_ ?_ _ rfl ?_; exact World.news_of_block (cs := #[.int .i64 x.pl.op, .int .i64 x.pl.a, .int .i64 x.pl.n, .int .i64 x.pl.m, .string x.pl.s, .slice yo yl yc]) (t := 24) (fr := (0, 0)) (heap_alloc_new w1 _); exact pC_one (x.pl, .slice yo yl yc) ⟨_, _, _, rfl⟩; (unfold maxLen; omega); omega; (simp; omega); intro g gc w4 hown' hgrow hat hglt; have HST := Lib.hid (relpl_step HH.out.2.2.2.2.2.2 HLK.out HH.out.2.2.1 HH.out.2.2.2.1 HH.out.2.1 hvo HF.out.1 HF.out.2.1 hgrow hat hown'); clear hown' hgrow hat hglt c0 c1 c2 c3 c4 c5 d0 d1 d2 d3 d4 d5)
        go_roundw
        case rel => exact HST.out
        case measure => simp [natOf]; omega
      · have g1 : decide ((k : Int) < (len : Int)) = false := decide_eq_false (by omega)
        have HKL2 := Lib.hid (by have := HLE.out; omega : k = len)
        obtain ⟨⟨d0, d1, d2, d3, d4, d5⟩, -, hxl⟩ := c_six hb1
        obtain ⟨⟨r0, r1, r2, r3, r4, r5⟩, ⟨q0, q1, q2, q3, q4, q5⟩, hr⟩ := c_six hb2
        have HH := Lib.hid (And.intro hrow (And.intro hL (And.intro hmap (And.intro hB hB1))))
        clear hrow hL hmap hB hB1 hb1 hb2
        go_wp2
        refine bodyPost_ret (v := .agg #[.int .i64 t.op, .int .i64 0, .int .i64 t.n, .int .i64 t.m, .string t.s, .slice ro L.length rc]) (by simp [results, Tryd.results15, go_sem, r0, r1, r2, r3, r4, r5]) rfl ?_
        obtain ⟨hrow, hL, hmap, hB, hB1⟩ := HH.out
        have hks2 : t.pl.ks = L.map (·.1) := by
          rw [hmap, pl_ks, List.take_of_length_le (by have := HLE.out; have := HKL2.out; omega)]
        have htr : TIn wr (fun b => W0.heap.size ≤ b) t.pl (.slice ro L.length rc) := tin_row hrow (fun g hg => (hvo g hg).1) (fun y hy => tin_mono (hL y hy) (fun b _ hs => hs.1)) hks2
        have hW2 := HX.out.2.1
        obtain ⟨p1, p2, p3, p4, p5⟩ := pl_op t
        refine ⟨ro, L.length, rc, ?_, tin_mono (tin_grown htr (st6_grown wr (w.heap.size + 1) 0 _ _ _ _ _ _) (fun b _ hs e => by simp at e; omega)) (fun b _ hs => by show w.heap.size ≤ b; omega), c_st6 hB1 (by omega)⟩
        rw [p1, p2, p3, p4, p5]
end Go.Proofs.YtppliplalfpmaaaDoor
