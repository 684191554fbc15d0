/-
  goes of the laws of package asi at this translation: the examples hold.
-/
import Derived.Test.YtjbnobcnlmkbmaaA4
import Derived.Outline
import Derived.Deep.Cut
namespace Go.Proofs.Ytjbnobcnlmkbmaa
open Go.RowKit

theorem ends_one (b m : Nat) (t : Tk) (r : Int × Bool) (w : World) (hn : 1 < m) (hm : m ≤ 10) (hb : b < w.heap.size) (hc : CellsAt w b 7 t) (hr : endsV 1 t = r) :
    Calls Try.prog 13 #[.slice (some ⟨b, 0, none⟩) m m, .int .i64 1] w fun e w' => e = endsR r ∧ Below w.heap.size w w' := by
  subst hr
  exact ends_in b 0 m m 1 t w hn (by omega) hb hc
theorem e_one : endsV 1 ⟨1, 0, 0, 0, ⟨#[97]⟩, false, false⟩ = (0, false) := by simp [endsV, sgnB, mayB, ByteArray.toList_eq]
theorem e_two : endsV 1 ⟨5, 0, 0, 0, ⟨#[125]⟩, false, false⟩ = (1, true) := by simp [endsV, sgnB, mayB, ByteArray.toList_eq]
theorem e_three : endsV 1 ⟨5, 0, 0, 0, ⟨#[59]⟩, false, false⟩ = (2, true) := by simp [endsV, sgnB, ByteArray.toList_eq]
theorem b_one : barsB ⟨#[114, 101, 116, 117, 114, 110]⟩ 1 ⟨#[98]⟩ true = true := by simp [barsB, wordB, ByteArray.toList_eq]
theorem b_two : barsB ⟨#[114, 101, 116, 117, 114, 110]⟩ 1 ⟨#[97]⟩ false = false := by simp [barsB]
theorem b_three : barsB ⟨#[97]⟩ 5 ⟨#[43]⟩ true = false := by simp [barsB, wordB, threeB, ByteArray.toList_eq]
theorem cells_of {W : World} {b : Nat} {cs : Array Value} {T : TypeId} (h : W.heap[b]? = some (.cells cs T (0, 0))) (o : Nat) (t : Tk) (hc : ∀ j u, (tkC t)[j]? = some u → cs[o + j]? = some u) : CellsAt W b o t := by
  refine ⟨?_, ?_, ?_, ?_, ?_, ?_, ?_⟩
  · exact (Lib.cell_of_heap h o).trans (hc 0 _ rfl)
  · exact (Lib.cell_of_heap h (o + 1)).trans (hc 1 _ rfl)
  · exact (Lib.cell_of_heap h (o + 2)).trans (hc 2 _ rfl)
  · exact (Lib.cell_of_heap h (o + 3)).trans (hc 3 _ rfl)
  · exact (Lib.cell_of_heap h (o + 4)).trans (hc 4 _ rfl)
  · exact (Lib.cell_of_heap h (o + 5)).trans (hc 5 _ rfl)
  · exact (Lib.cell_of_heap h (o + 6)).trans (hc 6 _ rfl)
theorem seven {P : Nat → Value → Prop} {t : Tk} (h : P 0 (.int .i64 t.kind) ∧ P 1 (.int .i64 t.a) ∧ P 2 (.int .i64 t.to) ∧ P 3 (.int .i64 t.n) ∧ P 4 (.string t.s) ∧ P 5 (.bool t.line) ∧ P 6 (.bool t.o)) : ∀ j u, (tkC t)[j]? = some u → P j u := by
  obtain ⟨h0, h1, h2, h3, h4, h5, h6⟩ := h
  intro j u hu
  match j, hu with
  | 0, hu => cases hu; exact h0
  | 1, hu => cases hu; exact h1
  | 2, hu => cases hu; exact h2
  | 3, hu => cases hu; exact h3
  | 4, hu => cases hu; exact h4
  | 5, hu => cases hu; exact h5
  | 6, hu => cases hu; exact h6
theorem cells_new (w : World) (cs : Array Value) (T : TypeId) (b o : Nat) (t : Tk) (hb : b = w.heap.size) (hc : cs[o]? = some (.int .i64 t.kind) ∧ cs[o + 1]? = some (.int .i64 t.a) ∧ cs[o + 2]? = some (.int .i64 t.to) ∧ cs[o + 3]? = some (.int .i64 t.n) ∧ cs[o + 4]? = some (.string t.s) ∧ cs[o + 5]? = some (.bool t.line) ∧ cs[o + 6]? = some (.bool t.o)) : CellsAt (w.alloc (.cells cs T)) b o t := by
  subst hb
  exact cells_of (heap_alloc_new w _) o t (seven (P := fun j u => cs[o + j]? = some u) hc)
def Held4 (w0 W : World) (b1 b2 b3 b4 : Nat) : Prop := W.heap[b1]? = some (.cells #[.int .i64 1, .int .i64 0, .int .i64 0, .int .i64 0, .string ⟨#[97]⟩, .bool false, .bool false] 24 (0, 0)) ∧ W.heap[b2]? = some (.cells #[.int .i64 1, .int .i64 0, .int .i64 0, .int .i64 0, .string ⟨#[98]⟩, .bool true, .bool false] 24 (0, 0)) ∧ W.heap[b3]? = some (.cells #[.int .i64 5, .int .i64 0, .int .i64 0, .int .i64 0, .string ⟨#[59]⟩, .bool false, .bool false] 24 (0, 0)) ∧ W.heap[b4]? = some (.cells #[.int .i64 5, .int .i64 0, .int .i64 0, .int .i64 0, .string ⟨#[125]⟩, .bool false, .bool false] 24 (0, 0)) ∧ Below w0.heap.size w0 W
theorem lt_of_heap {w : World} {b : Nat} {o : Obj} (h : w.heap[b]? = some o) : b < w.heap.size := by
  rcases Nat.lt_or_ge b w.heap.size with h' | h'
  · exact h'
  · simp [Array.getElem?_eq_none h'] at h
theorem held_on {w0 W W1 : World} {b1 b2 b3 b4 : Nat} (o : Obj) (h : Held4 w0 W b1 b2 b3 b4) (hB : Below (W.alloc o).heap.size (W.alloc o) W1) : Held4 w0 W1 b1 b2 b3 b4 := by
  obtain ⟨h1, h2, h3, h4, h5⟩ := h
  have key : ∀ {b : Nat} {x : Obj}, W.heap[b]? = some x → W1.heap[b]? = some x := fun {b x} hx =>
    (hB.block b (by have := lt_of_heap hx; simp; omega)).trans ((heap_alloc_old W o (lt_of_heap hx)).trans hx)
  exact ⟨key h1, key h2, key h3, key h4, a_thr (h5.alloc h5.size o) hB (by have := h5.size; simp; omega)⟩
theorem held_on0 {w0 W W1 : World} {b1 b2 b3 b4 : Nat} (h : Held4 w0 W b1 b2 b3 b4) (hB : Below W.heap.size W W1) : Held4 w0 W1 b1 b2 b3 b4 := by
  obtain ⟨h1, h2, h3, h4, h5⟩ := h
  have key : ∀ {b : Nat} {x : Obj}, W.heap[b]? = some x → W1.heap[b]? = some x := fun {b x} hx => (hB.block b (lt_of_heap hx)).trans hx
  exact ⟨key h1, key h2, key h3, key h4, a_thr h5 hB h5.size⟩

theorem four_new (w : World) (o1 o2 o3 o4 : Obj) :
    ((((w.alloc o1).alloc o2).alloc o3).alloc o4).heap[w.heap.size]? = some o1 ∧ ((((w.alloc o1).alloc o2).alloc o3).alloc o4).heap[w.heap.size + 1]? = some o2 ∧
    ((((w.alloc o1).alloc o2).alloc o3).alloc o4).heap[w.heap.size + 1 + 1]? = some o3 ∧ ((((w.alloc o1).alloc o2).alloc o3).alloc o4).heap[w.heap.size + 1 + 1 + 1]? = some o4 := by
  have e1 : (w.alloc o1).heap.size = w.heap.size + 1 := by simp
  have e2 : ((w.alloc o1).alloc o2).heap.size = w.heap.size + 1 + 1 := by simp
  have e3 : (((w.alloc o1).alloc o2).alloc o3).heap.size = w.heap.size + 1 + 1 + 1 := by simp
  refine ⟨?_, ?_, ?_, ?_⟩
  · rw [heap_alloc_old _ _ (by rw [e3]; omega), heap_alloc_old _ _ (by rw [e2]; omega), heap_alloc_old _ _ (by rw [e1]; omega)]; exact heap_alloc_new w _
  · rw [heap_alloc_old _ _ (by rw [e3]; omega), heap_alloc_old _ _ (by rw [e2]; omega), ← e1]; exact heap_alloc_new _ _
  · rw [heap_alloc_old _ _ (by rw [e3]; omega), ← e2]; exact heap_alloc_new _ _
  · rw [← e3]; exact heap_alloc_new _ _

set_option maxRecDepth 100000 in
set_option maxHeartbeats 1000000 in
theorem goes_any (w : World) : Calls Try.prog 11 #[] w fun e w' => e = .returned (.bool true) ∧ Below w.heap.size w w' := by
  have E1 := Lib.hid (fun (W : World) (b : Nat) hb hc => ends_one b 2 _ _ W (by decide) (by decide) hb hc e_one)
  have E2 := Lib.hid (fun (W : World) (b : Nat) hb hc => ends_one b 3 _ _ W (by decide) (by decide) hb hc e_two)
  have E3 := Lib.hid (fun (W : World) (b : Nat) hb hc => ends_one b 3 _ _ W (by decide) (by decide) hb hc e_three)
  have B1 := Lib.hid (fun (W : World) => bars_any ⟨#[114, 101, 116, 117, 114, 110]⟩ 1 0 0 0 ⟨#[98]⟩ true false W)
  have B2 := Lib.hid (fun (W : World) => bars_any ⟨#[114, 101, 116, 117, 114, 110]⟩ 1 0 0 0 ⟨#[97]⟩ false false W)
  have B3 := Lib.hid (fun (W : World) => bars_any ⟨#[97]⟩ 5 0 0 0 ⟨#[43]⟩ true false W)
  rw [b_one] at B1
  rw [b_two] at B2
  rw [b_three] at B3
  unfold endsR at E1 E2 E3
  simp only at E1 E2 E3
  go_enter Try.func11, Try.ntmps11
  go_upto_region 5 with fail
  obtain ⟨W, hW⟩ : ∃ W, W = ((((w.alloc (.cells #[.int .i64 1, .int .i64 0, .int .i64 0, .int .i64 0, .string ⟨#[97]⟩, .bool false, .bool false] 24)).alloc (.cells #[.int .i64 1, .int .i64 0, .int .i64 0, .int .i64 0, .string ⟨#[98]⟩, .bool true, .bool false] 24)).alloc (.cells #[.int .i64 5, .int .i64 0, .int .i64 0, .int .i64 0, .string ⟨#[59]⟩, .bool false, .bool false] 24)).alloc (.cells #[.int .i64 5, .int .i64 0, .int .i64 0, .int .i64 0, .string ⟨#[125]⟩, .bool false, .bool false] 24)) := ⟨_, rfl⟩
  have HH : Held4 w W w.heap.size (w.heap.size + 1) (w.heap.size + 1 + 1) (w.heap.size + 1 + 1 + 1) := by
    rw [hW]
    obtain ⟨f1, f2, f3, f4⟩ := four_new w _ _ _ _
    exact ⟨f1, f2, f3, f4, by go_grown⟩
  rw [← hW]
  clear hW
  obtain ⟨b1, hb1⟩ : ∃ b1, b1 = w.heap.size := ⟨_, rfl⟩
  obtain ⟨b2, hb2⟩ : ∃ b2, b2 = b1 + 1 := ⟨_, rfl⟩
  obtain ⟨b3, hb3⟩ : ∃ b3, b3 = b2 + 1 := ⟨_, rfl⟩
  obtain ⟨b4, hb4⟩ : ∃ b4, b4 = b3 + 1 := ⟨_, rfl⟩
  rw [← hb1, ← hb2, ← hb3, ← hb4] at HH ⊢
  clear hb1 hb2 hb3 hb4
  have H0 := Lib.hid HH
  obtain ⟨p0, p1, p2, p3, p4, p5, p6⟩ := tok_cells7 HH.1
  clear HH
  go_wp2_with fail
  refine (E1.out _ _ (by simp) (cells_new _ _ _ _ 7 _ (by simp) ⟨rfl, rfl, rfl, rfl, rfl, rfl, rfl⟩)).mono ?_
  rintro e w1 ⟨rfl, hB⟩
  have HH := held_on _ H0.out hB
  clear hB H0 p0 p1 p2 p3 p4 p5 p6 E1
  go_upto_region 6 with fail
  have H0 := Lib.hid HH
  obtain ⟨p0, p1, p2, p3, p4, p5, p6⟩ := tok_cells7 HH.1
  obtain ⟨r0, r1, r2, r3, r4, r5, r6⟩ := tok_cells7 HH.2.2.2.1
  clear HH
  go_wp2_with fail
  refine (E2.out _ _ (by simp) (cells_new _ _ _ _ 7 _ (by simp) ⟨rfl, rfl, rfl, rfl, rfl, rfl, rfl⟩)).mono ?_
  rintro e w2 ⟨rfl, hB⟩
  have HH := held_on _ H0.out hB
  clear hB H0 p0 p1 p2 p3 p4 p5 p6 r0 r1 r2 r3 r4 r5 r6 E2
  go_upto_region 7 with fail
  have H0 := Lib.hid HH
  obtain ⟨p0, p1, p2, p3, p4, p5, p6⟩ := tok_cells7 HH.1
  obtain ⟨r0, r1, r2, r3, r4, r5, r6⟩ := tok_cells7 HH.2.2.1
  clear HH
  go_wp2_with fail
  refine (E3.out _ _ (by simp) (cells_new _ _ _ _ 7 _ (by simp) ⟨rfl, rfl, rfl, rfl, rfl, rfl, rfl⟩)).mono ?_
  rintro e w3 ⟨rfl, hB⟩
  have HH := held_on _ H0.out hB
  clear hB H0 p0 p1 p2 p3 p4 p5 p6 r0 r1 r2 r3 r4 r5 r6 E3
  go_upto_region 8 with fail
  have H0 := Lib.hid HH
  obtain ⟨p0, p1, p2, p3, p4, p5, p6⟩ := tok_cells7 HH.2.1
  clear HH
  go_wp2_with fail
  refine (B1.out _).mono ?_
  rintro e w4 ⟨rfl, hB⟩
  have HH := held_on0 H0.out hB
  clear hB H0 p0 p1 p2 p3 p4 p5 p6 B1
  have H0 := Lib.hid HH
  obtain ⟨p0, p1, p2, p3, p4, p5, p6⟩ := tok_cells7 HH.1
  clear HH
  go_wp2_with fail
  refine (B2.out _).mono ?_
  rintro e w5 ⟨rfl, hB⟩
  have HH := held_on0 H0.out hB
  clear hB H0 p0 p1 p2 p3 p4 p5 p6 B2
  have H0 := Lib.hid HH
  clear HH
  go_wp2_with fail
  refine (B3.out _).mono ?_
  rintro e w6 ⟨rfl, hB⟩
  have HH := held_on0 H0.out hB
  have H0 := Lib.hid HH.2.2.2.2
  clear hB HH B3
  go_wp2
  go_ret
  exact ⟨rfl, H0.out⟩
end Go.Proofs.Ytjbnobcnlmkbmaa
