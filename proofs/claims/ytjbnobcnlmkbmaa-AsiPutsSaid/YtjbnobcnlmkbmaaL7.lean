/-
  The law AsiPuts at this translation.
-/
import Derived.Test.YtjbnobcnlmkbmaaL6
import Derived.Deep.RegionLaw
namespace Go.Proofs.Ytjbnobcnlmkbmaa
open Go.RowKit

theorem endsV_no {k : Nat} {t : Tk} (h : (endsV k t).2 = false) : (endsV k t).1 = 0 := by
  unfold endsV at h ⊢
  split at h
  · cases h
  · rename_i h1
    rw [if_neg h1]
    split at h
    · cases h
    · rename_i h2
      rw [if_neg h2]
theorem endsG_no {l : List Tk} {i : Int} (h : (endsG l i).2 = false) : endsG l i = (0, false) := by
  unfold endsG at h ⊢
  by_cases h0 : i < 0
  · rw [if_pos h0]
  · rw [if_neg h0] at h ⊢
    cases ht : l[i.toNat]? with
    | none => rfl
    | some t =>
      rw [ht] at h
      simp only at h ⊢
      have := endsV_no h
      exact Prod.ext this h
theorem endsG_yes {l : List Tk} {i : Int} (h : (endsG l i).2 = true) : ∃ (k : Nat) (t : Tk), i = k ∧ l[k]? = some t ∧ (endsG l i = ((k : Int) + 1, true) ∨ endsG l i = ((k : Int), true)) ∧ endsV k t = endsG l i := by
  unfold endsG at h ⊢
  by_cases h0 : i < 0
  · rw [if_pos h0] at h; cases h
  · rw [if_neg h0] at h ⊢
    cases ht : l[i.toNat]? with
    | none => rw [ht] at h; cases h
    | some t =>
      rw [ht] at h
      simp only at h ⊢
      refine ⟨i.toNat, t, by omega, ht, ?_, rfl⟩
      unfold endsV at h ⊢
      by_cases h1 : sgnB t.kind t.s [59] = true
      · rw [if_pos h1]; left; rfl
      · rw [if_neg h1] at h ⊢
        by_cases h2 : mayB t.kind t.s t.line = true
        · rw [if_pos h2]; right; rfl
        · rw [if_neg h2] at h; cases h
theorem step_append_own {P : Program} {ops : Array Oper} {o : Oper} {a : Act} {w : World} {K : Act → World → Prop} {Q : Exit → Act → World → Prop} {E : Prop} (hg : o.guard = none) (s x : Operand) (t : TypeId)
    (ho : o.op = .call { callee := .builtin .append, args := #[s, x], argTypes := #[t, t] })
    (base : Nat) (e : TypeId) (i : TypeInfo) (z : Value) (size bytes : Nat) (ht : P.underlying t = some (.slice e)) (hi : P.info? e = some i) (hz : i.zero = some z)
    (hsize : i.size = size) (hby : i.bytes = bytes) (hzs : z.cells.size = size) (hsz : 0 < size)
    (v : Value) (n : Nat) (xs : List Value) (hs : a.eval s = v) (hown : w.ownsRow base e size v n xs)
    (ad : Addr) (m c : Nat) (news : List Value) (hx : a.eval x = .slice (some ad) m c) (hl : news.length = m * size) (hnews : ∀ j u, news[j]? = some u → w.cell? (ad.add j) = some u) (h1 : ∀ u ∈ news, u.oneCell' = true)
    (h63 : n + m ≤ maxLen) (hbytes : (n + m) * bytes ≤ 140737488355328) (hbase : base ≤ w.heap.size)
    (h : ∀ v' w', w'.ownsRow base e size v' (n + m) (xs ++ news) → w.grownBy w' v.ownBlock → (v' = .slice none 0 0 ↔ v = .slice none 0 0 ∧ m = 0) → K (a.put o.dst v') w') :
    if Region.wanted o (yielded ops a.tmps) = true then Oper.wp P o a w K Q else E := by
  have hw : Region.wanted o (yielded ops a.tmps) = true := by simp [Region.wanted, hg]
  rw [if_pos hw]
  exact wp_append_own w s x t ho base e i z size bytes ht hi hz hsize hby hzs hsz v n xs hs hown ad m c news hx hl hnews h1 h63 hbytes hbase h

theorem flat_inv {m : List Tk} : ∀ {j : Nat} {u : Value}, (m.flatMap tkC)[j]? = some u → ∃ t, m[j / 7]? = some t ∧ (tkC t)[j % 7]? = some u := by
  have h7 : ∀ t, (tkC t).length = 7 := fun t => rfl
  induction m with
  | nil => intro j u h; simp at h
  | cons x r ih =>
    intro j u h
    rw [List.flatMap_cons] at h
    by_cases hj : j < 7
    · rw [List.getElem?_append_left (by rw [h7]; exact hj)] at h
      have e1 : j / 7 = 0 := by omega
      have e2 : j % 7 = j := by omega
      rw [e1, e2]
      exact ⟨x, rfl, h⟩
    · rw [List.getElem?_append_right (by rw [h7]; omega), h7] at h
      obtain ⟨t, h1, h2⟩ := ih h
      have e1 : j / 7 = (j - 7) / 7 + 1 := by omega
      have e2 : j % 7 = (j - 7) % 7 := by omega
      rw [e1, e2]
      exact ⟨t, by simpa using h1, h2⟩
theorem add_flat (g o j : Nat) : ((⟨g, o, none⟩ : Addr).add j) = ⟨g, o + j, none⟩ := by
  unfold Addr.add
  split
  · rename_i h; rw [h, Nat.add_zero]
  · rfl
theorem src_take {W X : World} {g : Nat} {cur : Array Value} {l : List Tk} (hg : W.heap[g]? = some (.cells cur 24 (0, 0))) (hf : FlatIn cur l) (hB : Below W.heap.size W X) (k : Nat) : ∀ j u, ((l.take k).flatMap tkC)[j]? = some u → X.cell? ((⟨g, 0, none⟩ : Addr).add j) = some u := by
  intro j u h
  obtain ⟨t, h1, h2⟩ := flat_inv h
  have h3 : l[j / 7]? = some t := by
    rw [List.getElem?_take] at h1
    split at h1
    · exact h1
    · cases h1
  have h4 := hf _ t h3 _ u h2
  have e : j / 7 * 7 + j % 7 = j := by omega
  rw [e] at h4
  rw [add_flat, Nat.zero_add]
  exact (Lib.cell_of_heap ((hB.block g (lt_of_heap hg)).trans hg) j).trans h4
theorem src_drop {W X : World} {g : Nat} {cur : Array Value} {l : List Tk} (hg : W.heap[g]? = some (.cells cur 24 (0, 0))) (hf : FlatIn cur l) (hB : Below W.heap.size W X) (k : Nat) : ∀ j u, ((l.drop k).flatMap tkC)[j]? = some u → X.cell? ((⟨g, k * 7, none⟩ : Addr).add j) = some u := by
  intro j u h
  obtain ⟨t, h1, h2⟩ := flat_inv h
  rw [List.getElem?_drop] at h1
  have h4 := hf _ t h1 _ u h2
  have e : (k + j / 7) * 7 + j % 7 = k * 7 + j := by omega
  rw [e] at h4
  rw [add_flat]
  exact (Lib.cell_of_heap ((hB.block g (lt_of_heap hg)).trans hg) _).trans h4
theorem flat_len (m : List Tk) : (m.flatMap tkC).length = m.length * 7 := by
  induction m with
  | nil => rfl
  | cons x r ih =>
    rw [List.flatMap_cons, List.length_append, ih, List.length_cons]
    show 7 + _ = _
    omega
theorem flat_one (m : List Tk) : ∀ u ∈ m.flatMap tkC, u.oneCell' = true := by
  intro u hu
  obtain ⟨t, _, hu'⟩ := List.mem_flatMap.1 hu
  exact tok_one t u hu'
def semi : Tk := ⟨5, 0, 0, 0, ⟨#[59]⟩, false, false⟩
theorem pb_one (W : World) (o : Obj) : Below W.heap.size W (W.alloc o).drew := ((Below.refl _ W).alloc (Nat.le_refl _) o).drew
theorem pb_two (W : World) (o p : Obj) : Below W.heap.size W ((W.alloc o).alloc p).drew := (((Below.refl _ W).alloc (Nat.le_refl _) o).alloc (by simp) p).drew
theorem po_a (W : World) : (W.alloc (.cells #[] 24)).drew.ownsRow W.heap.size 24 7 (.slice (some ⟨W.heap.size, 0, none⟩) 0 0) 0 [] :=
  World.ownsRow.drew (World.ownsRow_made W #[] 0 (Nat.le_refl _) (by unfold maxLen; omega) rfl)
theorem po_b (W : World) (o : Obj) : ((W.alloc (.cells #[] 24)).alloc o).drew.ownsRow W.heap.size 24 7 (.slice (some ⟨W.heap.size, 0, none⟩) 0 0) 0 [] :=
  World.ownsRow.drew (World.ownsRow.alloc (World.ownsRow_made W #[] 0 (Nat.le_refl _) (by unfold maxLen; omega) rfl) o)
theorem po_c (W : World) (o : Obj) : ((W.alloc o).alloc (.cells #[] 24)).drew.ownsRow W.heap.size 24 7 (.slice (some ⟨W.heap.size + 1, 0, none⟩) 0 0) 0 [] := by
  have h := World.ownsRow.drew (World.ownsRow_made (W.alloc o) (base := W.heap.size) (e := 24) (size := 7) #[] 0 (by simp) (by unfold maxLen; omega) rfl)
  have e : (W.alloc o).heap.size = W.heap.size + 1 := by simp
  rw [e] at h
  exact h
theorem heap_tok {W : World} {b : Nat} {t : Tk} (h : W.heap[b]? = some (.cells #[.int .i64 t.kind, .int .i64 t.a, .int .i64 t.to, .int .i64 t.n, .string t.s, .bool t.line, .bool t.o] 24 (0, 0))) : ∀ j u, (tkC t)[j]? = some u → W.cell? ((⟨b, 0, none⟩ : Addr).add j) = some u := by
  intro j u hu
  rw [add_flat, Nat.zero_add]
  exact (Lib.cell_of_heap h j).trans (by rw [List.getElem?_toArray]; exact hu)
theorem ps_a (W : World) (t : Tk) : ∀ j u, (tkC t)[j]? = some u → (W.alloc (.cells #[.int .i64 t.kind, .int .i64 t.a, .int .i64 t.to, .int .i64 t.n, .string t.s, .bool t.line, .bool t.o] 24)).cell? ((⟨W.heap.size, 0, none⟩ : Addr).add j) = some u := heap_tok (heap_alloc_new W _)
theorem ps_b {W X : World} {t : Tk} (h : World.grownBy ((W.alloc (.cells #[] 24)).alloc (.cells #[.int .i64 t.kind, .int .i64 t.a, .int .i64 t.to, .int .i64 t.n, .string t.s, .bool t.line, .bool t.o] 24)).drew X (some W.heap.size)) : ∀ j u, (tkC t)[j]? = some u → X.cell? ((⟨W.heap.size + 1, 0, none⟩ : Addr).add j) = some u := by
  refine heap_tok ((h.block (W.heap.size + 1) (by simp) (by simp)).trans ?_)
  have e := heap_alloc_new (W.alloc (.cells #[] 24)) (.cells #[.int .i64 t.kind, .int .i64 t.a, .int .i64 t.to, .int .i64 t.n, .string t.s, .bool t.line, .bool t.o] 24)
  have e1 : (W.alloc (.cells #[] 24)).heap.size = W.heap.size + 1 := by simp
  rw [e1] at e
  exact e
theorem ps_c {W X : World} {t : Tk} (h : World.grownBy ((W.alloc (.cells #[.int .i64 t.kind, .int .i64 t.a, .int .i64 t.to, .int .i64 t.n, .string t.s, .bool t.line, .bool t.o] 24)).alloc (.cells #[] 24)).drew X (some (W.heap.size + 1))) : ∀ j u, (tkC t)[j]? = some u → X.cell? ((⟨W.heap.size, 0, none⟩ : Addr).add j) = some u := by
  refine heap_tok ((h.block W.heap.size (by simp; omega) (by simp)).trans ?_)
  exact (heap_alloc_old (W.alloc _) _ (by simp)).trans (heap_alloc_new W _)

def putL (l : List Tk) (k : Nat) : List Tk := l.take k ++ [semi] ++ l.drop k
theorem put_len {l : List Tk} {k n : Nat} (hn : n = l.length) (hk : k ≤ n) : (putL l k).length = n + 1 := by
  unfold putL
  simp
  omega
theorem put_get {l : List Tk} {k n : Nat} (hn : n = l.length) (hk : k ≤ n) : (putL l k)[k]? = some semi := by
  have hl : (l.take k).length = k := len_take hn hk
  unfold putL
  rw [List.append_assoc, List.getElem?_append_right (by omega), hl, Nat.sub_self]
  rfl
theorem put_at {W : World} {B : Nat} {v : Value} {l : List Tk} {k n : Nat} (hn : n = l.length) (hk : k ≤ n) (h : W.ownsRow B 24 7 v (0 + k + 1 + (n - k)) ([] ++ (l.take k).flatMap tkC ++ tkC semi ++ (l.drop k).flatMap tkC)) : TkAt W B 24 v (putL l k) := by
  unfold TkAt
  rw [put_len hn hk]
  unfold putL
  rw [List.flatMap_append, List.flatMap_append]
  have e : 0 + k + 1 + (n - k) = n + 1 := by omega
  rw [e] at h
  simpa using h
theorem tk_row {W : World} {B m : Nat} {v : Value} {l : List Tk} (h : TkAt W B 24 v l) (hl : l.length = m) (hm : 0 < m) : ∃ g cap cur, v = .slice (some ⟨g, 0, none⟩) m cap ∧ B ≤ g ∧ W.heap[g]? = some (.cells cur 24 (0, 0)) ∧ cur.size = cap * 7 ∧ m ≤ cap ∧ cap ≤ maxLen ∧ FlatIn cur l := by
  obtain ⟨g, cap, rfl⟩ : ∃ g cap, v = .slice (some ⟨g, 0, none⟩) m cap := by
    rcases h.2 with ⟨_, h0⟩ | ⟨g, cap, cur, hv, _⟩
    · omega
    · exact ⟨g, cap, by rw [hv, hl]⟩
  obtain ⟨cur, h1, h2, h3, h4, h5, h6, h7⟩ := own_tks h
  exact ⟨g, cap, cur, rfl, h7, h1, h2, h5, h6, h3⟩
theorem semi_ends (k : Nat) : endsV k semi = ((k : Int) + 1, true) := by simp [endsV, semi, sgnB, ByteArray.toList_eq]

set_option linter.unusedVariables false in
set_option maxRecDepth 100000 in
set_option maxHeartbeats 4000000 in
theorem asiPuts_big (l : List Tk) (v0 : Value) (i : Int) (w : World) (h : TksIn w v0 l) (hbig : 2000 < l.length) :
    Calls Try.prog 5 #[v0, .int .i64 i] w fun e w' => e = .returned (.bool true) ∧ Below w.heap.size w w' := by
  obtain ⟨ao, cap, rfl, hlc, hcm, _⟩ := h
  unfold maxLen at hcm
  have g1 : decide ((2000 : Int) < (l.length : Int)) = true := decide_eq_true (by omega)
  have HG := Lib.hid (goes_any w)
  generalize l.length = len at hlc hcm hbig g1 ⊢
  go_enter Try.func5, Try.ntmps5
  go_wp2_with fail
  refine HG.out.mono ?_
  rintro e w1 ⟨rfl, hB⟩
  go_wp2
  go_ret
  exact ⟨rfl, hB⟩

set_option linter.unusedVariables false in
set_option maxRecDepth 100000 in
set_option maxHeartbeats 4000000 in
theorem asiPuts_no (l : List Tk) (v0 : Value) (i : Int) (w : World) (h : TksIn w v0 l) (hsm : l.length ≤ 2000) (hi : -9223372036854775808 ≤ i ∧ i ≤ 9223372036854775807) (hno : (endsG l i).2 = false) :
    Calls Try.prog 5 #[v0, .int .i64 i] w fun e w' => e = .returned (.bool true) ∧ Below w.heap.size w w' := by
  have hl : l.length ≤ 100000 := by omega
  have H1 := Lib.hid (to_any l v0 w hl h)
  have H2 := Lib.hid (fun (W : World) (v : Value) (hv : TksIn W v l) => ends_all l v i W hl hv hi)
  rw [endsG_no hno] at H2
  unfold endsR at H2
  simp only at H2
  obtain ⟨ao, cap, rfl, hlc, hcm, _⟩ := h
  unfold maxLen at hcm
  have g1 : decide ((2000 : Int) < (l.length : Int)) = false := decide_eq_false (by omega)
  clear hno
  go_enter Try.func5, Try.ntmps5
  go_wp2_with fail
  refine H1.out.mono ?_
  rintro e w1 ⟨v1, rfl, hown, hB1⟩
  have ht1 := Lib.hid (tks_of hown)
  clear hown H1
  go_wp2_with fail
  refine (H2.out _ _ ht1.out).mono ?_
  rintro e w2 ⟨rfl, hB⟩
  have hB2 := a_thr hB1 hB hB1.size
  clear hB1 hB ht1 H2
  go_wp2_with fail
  refine (goes_any _).mono ?_
  rintro e w3 ⟨rfl, hB⟩
  have hB3 := a_thr hB2 hB hB2.size
  clear hB2 hB
  go_wp2
  go_ret
  exact ⟨rfl, hB3⟩
end Go.Proofs.Ytjbnobcnlmkbmaa
