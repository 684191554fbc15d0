/-
  slices.Clone of package slices and copied of package cover at this translation.
-/
import Derived.Test.YtjnlifghobgkcaaC1
import Derived.Lib.SliceRun
import Derived.Maps.AppendAt
import Derived.Deep.RegionHeld3
import Derived.Laws.AppendOwn
namespace Go.Proofs.Ytjnlifghobgkcaa
open Go.RowKit

theorem node_info : (Try.prog.info? 27).map (fun i => (i.zero, i.size, i.bytes)) = some (some (.agg #[.int .i64 0, .int .i64 0, .int .i64 0, .int .i64 0, .string ⟨#[]⟩, .slice none 0 0]), 6, 72) := by kernel_rfl
theorem pC_one (x : TV) (h : ∃ ao len cap, x.2 = .slice ao len cap) : ∀ u ∈ pC x, u.oneCell' = true := by
  obtain ⟨t, k⟩ := x
  obtain ⟨ao, len, cap, rfl⟩ := h
  intro u hu
  simp only [pC, ndC, List.mem_cons, List.not_mem_nil, or_false] at hu
  rcases hu with rfl | rfl | rfl | rfl | rfl | rfl <;> rfl
theorem tin_slice {w : World} {S : Nat → Prop} {t : Tr} {k : Value} (h : TIn w S t k) : ∃ ao len cap, k = .slice ao len cap := by
  obtain ⟨ao, cap, e, _⟩ := tin_open h
  exact ⟨ao, _, cap, e⟩
/-- the children of a tree as pairs with the slices that hold their own children -/
theorem kids_pairs {w : World} {S : Nat → Prop} {t : Tr} {k : Value} (h : TIn w S t k) : ∃ (ao : Option Addr) (cap : Nat) (L : List TV), k = .slice ao L.length cap ∧ L.length ≤ cap ∧ cap ≤ maxLen ∧ L.map (·.1) = t.ks ∧ (∀ x ∈ L, TIn w S x.1 x.2) ∧ (L = [] ∨ ∃ b o, ao = some ⟨b, o, none⟩ ∧ b < w.heap.size ∧ S b ∧ ∀ i x, L[i]? = some x → NCells w b (o + i * 6) x.1 x.2) := by
  obtain ⟨ao, cap, e, h1, h2, h3⟩ := tin_open h
  have hk : ∀ i : Nat, ∃ kx : Value, ∀ x, t.ks[i]? = some x → ∃ b o, ao = some ⟨b, o, none⟩ ∧ b < w.heap.size ∧ S b ∧ NCells w b (o + i * 6) x kx ∧ TIn w S x kx := by
    intro i
    cases hx : t.ks[i]? with
    | none => exact ⟨.bool false, fun x hx' => by cases hx'⟩
    | some x =>
      obtain ⟨b, o, kx, q⟩ := h3 i x hx
      exact ⟨kx, fun y hy => by cases hy; exact ⟨b, o, q⟩⟩
  have hf : ∃ f : Nat → Value, ∀ i x, t.ks[i]? = some x → ∃ b o, ao = some ⟨b, o, none⟩ ∧ b < w.heap.size ∧ S b ∧ NCells w b (o + i * 6) x (f i) ∧ TIn w S x (f i) := ⟨fun i => Classical.choose (hk i), fun i => Classical.choose_spec (hk i)⟩
  obtain ⟨f, hf⟩ := hf
  have hl : (t.ks.mapIdx fun i x => (x, f i)).length = t.ks.length := by simp
  refine ⟨ao, cap, t.ks.mapIdx fun i x => (x, f i), by rw [hl]; exact e, by rw [hl]; exact h1, h2, ?_, ?_, ?_⟩
  · apply List.ext_getElem?
    intro i
    simp
    cases t.ks[i]? <;> rfl
  · intro x hx
    obtain ⟨i, hi⟩ := List.mem_iff_getElem?.1 hx
    rw [List.getElem?_mapIdx] at hi
    obtain ⟨y, hy, rfl⟩ := Option.map_eq_some_iff.1 hi
    obtain ⟨_, _, _, _, _, _, q⟩ := hf i y hy
    exact q
  · cases hks : t.ks with
    | nil => exact .inl rfl
    | cons y r =>
      right
      obtain ⟨b, o, ea, hb, hs, _⟩ := hf 0 y (by rw [hks]; rfl)
      refine ⟨b, o, ea, hb, hs, fun i x hi => ?_⟩
      rw [← hks, List.getElem?_mapIdx] at hi
      obtain ⟨z, hz, rfl⟩ := Option.map_eq_some_iff.1 hi
      obtain ⟨b', o', ea', _, _, hc, _⟩ := hf i z hz
      rw [ea] at ea'
      cases ea'
      exact hc
/-- the cells of a row that is read, to append them -/
theorem news_of {w : World} {b o : Nat} {L : List TV} (h : ∀ i x, L[i]? = some x → NCells w b (o + i * 6) x.1 x.2) : ∀ j u, (L.flatMap pC)[j]? = some u → w.cell? ((⟨b, o, none⟩ : Addr).add j) = some u := by
  intro j u hu
  have hadd : (⟨b, o, none⟩ : Addr).add j = ⟨b, o + j, none⟩ := by unfold Addr.add; split <;> simp_all
  rw [hadd]
  have hj := (List.getElem?_eq_some_iff.1 hu).1
  rw [pC_flat_len] at hj
  have hi : j / 6 < L.length := by omega
  have hx : L[j / 6]? = some L[j / 6] := List.getElem?_eq_getElem hi
  have h6 : j % 6 < (pC L[j / 6]).length := by rw [pC_len]; omega
  have he := pC_flat hx (List.getElem?_eq_getElem h6)
  have e1 : j / 6 * 6 + j % 6 = j := by omega
  rw [e1, hu] at he
  obtain ⟨c0, c1, c2, c3, c4, c5⟩ := h _ _ hx
  have hr : j % 6 = 0 ∨ j % 6 = 1 ∨ j % 6 = 2 ∨ j % 6 = 3 ∨ j % 6 = 4 ∨ j % 6 = 5 := by omega
  rcases hr with hr | hr | hr | hr | hr | hr
  all_goals
    simp only [hr] at he
    have e2 : o + j = o + j / 6 * 6 + j % 6 := by omega
    rw [e2, hr, he]
  · exact c0
  · exact c1
  · exact c2
  · exact c3
  · exact c4
  · exact c5

def ClonePost (w : World) (L : List TV) : Ending → World → Prop := fun e w' => ∃ v, e = .returned v ∧ PRow w' w.heap.size 27 v L ∧ Below w.heap.size w w'
set_option linter.unusedVariables false in
set_option maxRecDepth 100000 in
set_option maxHeartbeats 1000000 in
theorem clone_any (L : List TV) (ao : Option Addr) (cap : Nat) (w : World) (hl : L.length ≤ 100000) (hc : L.length ≤ cap) (hm : cap ≤ maxLen) (hs : ∀ x ∈ L, ∃ ao len cap, x.2 = .slice ao len cap) (h : L = [] ∨ ∃ b o, ao = some ⟨b, o, none⟩ ∧ ∀ i x, L[i]? = some x → NCells w b (o + i * 6) x.1 x.2) :
    Calls Try.prog 46 #[.slice ao L.length cap] w (ClonePost w L) := by
  obtain ⟨i0, hi, hz0, hz1, hz2⟩ := info_parts node_info
  have hT : Try.prog.underlying 25 = some (.slice 27) := Try.underlying25
  have heq : ∀ w : World, (binOp .eql 25 (.slice ao L.length cap) (.slice none 0 0)).run Try.prog w = .ok (.bool ao.isNone) w := fun w => Go.Lib.run_eql_slice_nil w 25 27 ao _ cap 0 0 hT
  cases hao : ao with
  | none =>
    have hL : L = [] := by
      rcases h with h | ⟨b, o, e, _⟩
      · exact h
      · rw [hao] at e; cases e
    subst hL
    rw [hao] at heq
    have heq2 : ∀ w : World, (binOp .eql 25 (.slice none 0 cap) (.slice none 0 0)).run Try.prog w = .ok (.bool true) w := heq
    clear heq
    go_enter Try.func46, Try.ntmps46
    go_wp2
    go_ret
    exact ⟨_, rfl, World.ownsRow_nil _ _ _ _, Below.refl _ _⟩
  | some ad =>
    have hn : ∀ j u, (L.flatMap pC)[j]? = some u → w.cell? (ad.add j) = some u := by
      rcases h with h | ⟨b, o, e, h⟩
      · subst h; intro j u hj; simp at hj
      · rw [hao] at e; cases e; exact news_of h
    have h1 : ∀ u ∈ L.flatMap pC, u.oneCell' = true := by
      intro u hu
      obtain ⟨x, hx, hu⟩ := List.mem_flatMap.1 hu
      exact pC_one x (hs x hx) u hu
    rw [hao] at heq
    have heq2 : ∀ w : World, (binOp .eql 25 (.slice (some ad) L.length cap) (.slice none 0 0)).run Try.prog w = .ok (.bool false) w := heq
    have hn2 : ∀ j u, (L.flatMap pC)[j]? = some u → (w.alloc (.cells #[] 27)).cell? (ad.add j) = some u := fun j u hj => (World.cell?_alloc_some w _ _ (by rw [hn j u hj]; rfl)).trans (hn j u hj)
    have hlen := pC_flat_len L
    have HH := Lib.hid (And.intro hn2 (And.intro h1 hlen))
    clear heq hn hn2 h1 hlen h hs
    go_enter Try.func46, Try.ntmps46
    go_wp2_with (at_builtin; refine wpList_append_own_at _ rfl _ _ 25 rfl w.heap.size 27 i0 (.agg #[.int .i64 0, .int .i64 0, .int .i64 0, .int .i64 0, .string ⟨#[]⟩, .slice none 0 0]) 6 72 hT hi hz0 hz1 hz2 rfl (by decide) _ _ _ rfl (World.ownsRow_made w #[] 0 (Nat.le_refl _) (by unfold maxLen; omega) rfl) ad L.length cap (L.flatMap pC) rfl HH.out.2.2 HH.out.1 HH.out.2.1 ?_ ?_ ?_ ?_; (unfold maxLen; omega); omega; (simp); intro v' w4 hown' hgrow _ hat)
    have HB4 := Lib.hid ((c_box w (.cells #[] 27)).grown hgrow (by simp) (fun k hk => by cases hk; exact Nat.le_refl _))
    have HO := Lib.hid hown'
    clear hgrow hown' HH
    go_wp2
    go_ret
    refine ⟨_, rfl, ?_, HB4.out⟩
    have := HO.out
    simpa [PRow] using this
end Go.Proofs.Ytjnlifghobgkcaa
