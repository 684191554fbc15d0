/-
  Names as a row of the call's own; the names of parameters.
-/
import Derived.Test.YtadiicmcaaklmaaD5
import Derived.Test.YtadiicmcaaklmaaE4
import Derived.Laws.EntriesVeiled
namespace Go.Proofs.Ytadiicmcaaklmaa
open Go.RowKit

theorem flat_congr {l : List Tr} {f g : Tr → List ByteArray} (h : ∀ x ∈ l, f x = g x) : l.flatMap f = l.flatMap g := by
  induction l with
  | nil => rfl
  | cons x r ih =>
    simp only [List.flatMap_cons]
    rw [h x (List.mem_cons_self ..), ih (fun y hy => h y (List.mem_cons_of_mem _ hy))]
theorem tgt_mem {t x : Tr} (h : x ∈ tgtL t) : x.cnt + 1 ≤ t.cnt := by
  obtain ⟨i, hi⟩ := List.mem_iff_getElem?.1 h
  have h1 := cntL_at hi
  have h2 := tgt_cnt t
  omega
theorem names_fuel : ∀ (f g : Nat) (t : Tr), t.cnt ≤ f → t.cnt ≤ g → namesG f t = namesG g t := by
  intro f
  induction f with
  | zero => intro g t h; have := cnt_pos t; omega
  | succ f ih =>
    intro g t hf hg
    obtain ⟨g, rfl⟩ : ∃ m, g = m + 1 := ⟨g - 1, by have := cnt_pos t; omega⟩
    unfold namesG
    rw [flat_congr (fun x hx => ih g x (by have := tgt_mem hx; omega) (by have := tgt_mem hx; omega))]
/-- the names of parameters are those of each parameter -/
theorem names_par {t : Tr} (h : t.op = 5) : namesOf t = t.ks.flatMap namesOf := by
  unfold namesOf
  obtain ⟨n, hn⟩ : ∃ n, t.cnt = n + 1 := ⟨t.cnt - 1, by have := cnt_pos t; omega⟩
  rw [hn]
  have ht : tgtL t = t.ks := by unfold tgtL; rw [if_pos (Or.inl h)]
  have h1 : namesG (n + 1) t = (if t.op = 34 then [t.s] else []) ++ (tgtL t).flatMap (namesG n) := rfl
  rw [h1, if_neg (by omega), ht]
  simp only [List.nil_append]
  exact flat_congr (fun x hx => names_fuel n x.cnt x (by
    obtain ⟨i, hi⟩ := List.mem_iff_getElem?.1 hx
    have := cnt_kid hi
    omega) (Nat.le_refl _))
/-- the loop of the law -/
structure RelU (w : World) (tl : List Tr) (v i : Value) (wr : World) : Prop where
  ex : ∃ (k : Nat) (ro : Option Addr) (L : List ByteArray) (rc : Nat), i = .int .i64 k ∧ k ≤ tl.length ∧ L = (tl.take k).flatMap namesOf ∧ v = .slice ro L.length rc ∧ wr.ownsRow w.heap.size 9 1 (.slice ro L.length rc) L.length (L.map Value.string)
  bel : Below w.heap.size w wr
theorem usucc {k : Nat} {tl : List Tr} {y : Tr} (hy : tl[k]? = some y) : (tl.take (k + 1)).flatMap namesOf = (tl.take k).flatMap namesOf ++ namesOf y := by
  rw [List.take_add_one, hy]
  simp
theorem ulen {k : Nat} {tl : List Tr} {y : Tr} (hy : tl[k]? = some y) : ((tl.take k).flatMap namesOf).length + (namesOf y).length ≤ cntL tl := by
  have hl : ∀ l : List Tr, (l.flatMap namesOf).length ≤ cntL l := by
    intro l
    induction l with
    | nil => simp
    | cons x r ihr => have := names_len x.cnt x; simp only [List.flatMap_cons, List.length_append, cntL]; unfold namesOf at *; omega
  have h1 := hl (tl.take k)
  have h3 := names_len y.cnt y
  have e1 := cntL_app (tl.take k) (tl.drop k)
  rw [List.take_append_drop, drop_cons hy] at e1
  simp only [cntL] at e1
  unfold namesOf at *
  omega
theorem relu_step {W1 w4 w' : World} {tl : List Tr} {k : Nat} {y : Tr} {L : List ByteArray} {ro : Option Addr} {rc : Nat} {v' : Value} (hL : L = (tl.take k).flatMap namesOf) (hy : tl[k]? = some y) (hB : Below W1.heap.size W1 w4) (hown : w4.ownsRow W1.heap.size 9 1 (.slice ro L.length rc) L.length (L.map Value.string)) (hown' : w'.ownsRow W1.heap.size 9 1 v' (L.length + (namesOf y).length) (L.map Value.string ++ (namesOf y).map Value.string)) (hgrow : w4.grownBy w' (Value.slice ro L.length rc).ownBlock) : RelU W1 tl v' (.int .i64 ((k : Int) + 1)) w' := by
  have hL2 := usucc hy
  rw [← hL] at hL2
  obtain ⟨ro2, rc2, rfl, ho⟩ := own_val (L := L ++ namesOf y) (by simp) (by simp) hown'
  exact ⟨⟨k + 1, ro2, L ++ namesOf y, rc2, by simp, (List.getElem?_eq_some_iff.1 hy).1, hL2.symm, rfl, ho⟩, Below.grown hB hgrow hB.size (fun q hq => (World.ownsRow.lt hown q hq).1)⟩
theorem relu_same {W1 w4 : World} {tl : List Tr} {k : Nat} {y : Tr} {L : List ByteArray} {ro : Option Addr} {rc : Nat} (hL : L = (tl.take k).flatMap namesOf) (hy : tl[k]? = some y) (hB : Below W1.heap.size W1 w4) (hown : w4.ownsRow W1.heap.size 9 1 (.slice ro L.length rc) L.length (L.map Value.string)) (hn : namesOf y = []) : RelU W1 tl (.slice ro L.length rc) (.int .i64 ((k : Int) + 1)) w4 := by
  have hL2 := usucc hy
  rw [← hL, hn, List.append_nil] at hL2
  exact ⟨⟨k + 1, ro, L, rc, by simp, (List.getElem?_eq_some_iff.1 hy).1, hL2.symm, rfl, hown⟩, hB⟩
set_option linter.unusedVariables false in
set_option maxRecDepth 100000 in
set_option maxHeartbeats 1000000 in
theorem names_own (t : Tr) (ao : Option Addr) (cap : Nat) (w : World) (hc : t.cnt ≤ 100000) (ht : TIn w All t (.slice ao t.ks.length cap)) :
    Calls Try.prog 21 #[.agg #[.int .i64 t.op, .int .i64 t.a, .int .i64 t.n, .int .i64 t.m, .string t.s, .slice ao t.ks.length cap]] w (OwnPost w (namesOf t)) := by
  have hmf : ∀ (fn : Fn) (first cap : Array Value) (w : World), (Instr.makeFunc fn first cap).run Try.prog w = .ok (.func fn first cap) w := fun _ _ _ _ => rfl
  have ht2 : TIn w (fun b => b < w.heap.size) t (.slice ao t.ks.length cap) := tin_mono ht (fun b hb _ => hb)
  obtain ⟨W3, hW3⟩ : ∃ W3, W3 = (((w.alloc (.cells #[.int .i64 t.op, .int .i64 t.a, .int .i64 t.n, .int .i64 t.m, .string t.s, .slice ao t.ks.length cap] 27)).alloc (.cells #[.slice none 0 0] 35)).alloc (.cells #[.func (.func 32) #[] #[.pointer (some ⟨w.heap.size + 1, 0, none⟩), .pointer (some ⟨w.heap.size + 1 + 1, 0, none⟩)]] 44)) := ⟨_, rfl⟩
  have hB3 : Below w.heap.size w W3 := by rw [hW3]; exact c_box3 w _ _ _
  have hbox : W3.heap[w.heap.size]? = some (.cells #[.int .i64 t.op, .int .i64 t.a, .int .i64 t.n, .int .i64 t.m, .string t.s, .slice ao t.ks.length cap] 27 (0, 0)) := by rw [hW3]; exact (Below.heap_alloc _ _ _ (by simp; omega)).trans (c_new1 w _ _)
  have hst : NSt W3 (w.heap.size + 1) (w.heap.size + 1 + 1) w.heap.size [] (.slice none 0 0) :=
    ⟨by rw [hW3]; exact (Below.heap_alloc _ _ _ (by simp)).trans (c_new2 w _ _), by rw [hW3]; exact c_new3 w _ _ _, World.ownsRow_nil _ _ _ _, by omega⟩
  have HX := Lib.hid (gather_any (w.heap.size + 1) (w.heap.size + 1 + 1) w.heap.size t.cnt hc t ao cap [] (.slice none 0 0) W3 (Nat.le_refl _) (by simp; omega) hB3.size hst (tin_below ht2 hB3 (fun b _ h => h)))
  obtain ⟨⟨b0, b1, b2, b3, b4, b5⟩, -, hxl⟩ := c_six hbox
  have hgc : W3.cell? ⟨w.heap.size + 1 + 1, 0, none⟩ = some (.func (.func 32) #[] #[.pointer (some ⟨w.heap.size + 1, 0, none⟩), .pointer (some ⟨w.heap.size + 1 + 1, 0, none⟩)]) := c_cell hst.hg 0
  have hgl := c_lt hst.hg
  have HH := Lib.hid (And.intro hB3 hst)
  have HW := Lib.hid hW3
  clear ht ht2 hB3 hbox hst hW3
  go_enter Try.func21, Try.ntmps21
  go_upto_region 4 with fail
  rw [← HW.out]
  go_wp2_with fail
  refine HX.out.mono ?_
  rintro e w4 ⟨rfl, v, hst4, -, hfr4⟩
  have hnc : w4.cell? ⟨w.heap.size + 1, 0, none⟩ = some v := c_cell hst4.hn 0
  have hnl : w.heap.size + 1 < w4.heap.size := c_lt hst4.hn
  have HF := Lib.hid (And.intro hst4 hfr4)
  clear hst4 hfr4
  go_wp2
  go_ret
  obtain ⟨hst4, hfr4⟩ := HF.out
  have hlow := gfr_low HH.out.2 hfr4 HH.out.1.size
  obtain ⟨ro, rc, rfl, ho⟩ := own_val (L := namesOf t) rfl rfl (by have := hst4.own; rw [List.nil_append] at this; exact this)
  exact ⟨ro, rc, rfl, ho, HH.out.1.trans hlow⟩
end Go.Proofs.Ytadiicmcaaklmaa
