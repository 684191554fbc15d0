/-
  As and To of the laws: a slice of tokens copied, struct to struct, into memory of the call's own.
-/
import Derived.Test.YtjbnobcnlmkbmaaA5
import Derived.Test.YtjbnobcnlmkbmaaOpen
import Derived.Laws.AppendOwn
import Derived.OwnWalk
import Derived.LoopTactic
namespace Go.Proofs.Ytjbnobcnlmkbmaa
open Go.RowKit

def TkAt (w : World) (B T : Nat) (v : Value) (l : List Tk) : Prop := w.ownsRow B T 7 v l.length (l.flatMap tkC)
def CopyPost (T : Nat) (w : World) (l : List Tk) : Ending → World → Prop := fun e w' => ∃ v, e = .returned v ∧ TkAt w' w.heap.size T v l ∧ Below w.heap.size w w'
def RelCopy (T : Nat) (w : World) (l : List Tk) (v i : Value) (wr : World) : Prop := ∃ k : Nat, k ≤ l.length ∧ i = .int .i64 k ∧ TkAt wr w.heap.size T v (l.take k) ∧ Below w.heap.size w wr
theorem info23 : (Try.prog.info? 23).map (fun i => (i.zero, i.size, i.bytes)) = some (some (.agg #[.int .i64 0, .int .i64 0, .int .i64 0, .int .i64 0, .string ⟨#[]⟩, .bool false, .bool false]), 7, 56) := by kernel_rfl
theorem info24 : (Try.prog.info? 24).map (fun i => (i.zero, i.size, i.bytes)) = some (some (.agg #[.int .i64 0, .int .i64 0, .int .i64 0, .int .i64 0, .string ⟨#[]⟩, .bool false, .bool false]), 7, 56) := by kernel_rfl
theorem tok_one (t : Tk) : ∀ u ∈ tkC t, u.oneCell' = true := by
  intro u hu
  simp [tkC] at hu
  rcases hu with rfl | rfl | rfl | rfl | rfl | rfl | rfl <;> rfl
theorem tok_new (w : World) (t : Tk) (T : TypeId) (b : Nat) (hb : b = w.heap.size) : ∀ j u, (tkC t)[j]? = some u → (w.alloc (.cells #[.int .i64 t.kind, .int .i64 t.a, .int .i64 t.to, .int .i64 t.n, .string t.s, .bool t.line, .bool t.o] T)).cell? ((⟨b, 0, none⟩ : Addr).add j) = some u := by
  subst hb
  intro j u h
  have e := heap_alloc_new w (.cells #[.int .i64 t.kind, .int .i64 t.a, .int .i64 t.to, .int .i64 t.n, .string t.s, .bool t.line, .bool t.o] T)
  have hadd : (⟨w.heap.size, 0, none⟩ : Addr).add j = ⟨w.heap.size, j, none⟩ := by unfold Addr.add; split <;> simp_all
  rw [hadd]
  exact (Lib.cell_of_heap e j).trans (by rw [List.getElem?_toArray]; exact h)
theorem len_take {α : Type} {l : List α} {len k : Nat} (h : len = l.length) (hk : k ≤ len) : (l.take k).length = k := by simp; omega
theorem take_more (T : Nat) {l : List Tk} {k B : Nat} {t : Tk} (ht : l[k]? = some t) : ∀ (v' : Value) (w' : World), w'.ownsRow B T 7 v' ((l.take k).length + 1) ((l.take k).flatMap tkC ++ tkC t) → TkAt w' B T v' (l.take (k + 1)) := by
  intro v' w' hown
  have hk := (List.getElem?_eq_some_iff.1 ht).1
  have e : l.take (k + 1) = l.take k ++ [t] := by
    rw [List.take_add_one, ht]
    rfl
  unfold TkAt
  rw [e]
  simpa using hown

set_option linter.unusedVariables false in
set_option maxRecDepth 100000 in
set_option maxHeartbeats 1000000 in
theorem to_any (l : List Tk) (v0 : Value) (w : World) (hl : l.length ≤ 100000) (h : TksIn w v0 l) :
    Calls Try.prog 12 #[v0] w (CopyPost 24 w l) := by
  obtain ⟨ao, cap, rfl, _, _, hin⟩ := h
  have HIN := Lib.hid hin
  obtain ⟨i0, hi, hz0, hz1, hz2⟩ := info_parts info24
  have hT : Try.prog.underlying 31 = some (.slice 24) := Try.underlying31
  have HV : Hid (RelCopy 24 w l (.slice (some ⟨w.heap.size, 0, none⟩) 0 0) (.int .i64 0) (w.alloc (.cells #[] 24))) := Lib.hid ⟨0, by omega, rfl, World.ownsRow_made w #[] 0 (Nat.le_refl _) (by unfold maxLen; omega) rfl, (Below.refl _ w).alloc (Nat.le_refl _) _⟩
  obtain ⟨len, hlen⟩ : ∃ len, len = l.length := ⟨_, rfl⟩
  rw [← hlen]
  have HL := Lib.hid hlen
  have hl2 : len ≤ 100000 := by omega
  clear hin hlen hl
  go_enter Try.func12, Try.ntmps12
  go_wp2
  go_loopw [3, 8] (fun v i wr => RelCopy 24 w l v i wr) (fun _ i _ => len - (intOf i).toNat)
  case atStart => exact HV.out
  case round =>
    obtain ⟨k, hk, rfl, hown, hB⟩ := hrel
    rw [← HL.out] at hk
    clear HV
    by_cases hlt : k < len
    · obtain ⟨t, ht⟩ : ∃ t, l[k]? = some t := ⟨l[k]'(by rw [← HL.out]; exact hlt), List.getElem?_eq_getElem _⟩
      obtain ⟨b, off, rfl, hb, hc⟩ := HIN.out k t ht
      have HX := Lib.hid (take_more (B := w.heap.size) 24 ht)
      have hown0 := hown
      obtain ⟨c0, c1, c2, c3, c4, c5, c6⟩ := cells_kept hB hb hc
      clear HIN hc ht
      have HBW := Lib.hid hB
      have hsz := hB.size
      clear hB
      have hbw : b < wr.heap.size := by omega
      have g1 : decide ((k : Int) < (len : Int)) = true := by simpa using hlt
      obtain ⟨kd, a, to, n, s, li, o⟩ := t
      simp only at c0 c1 c2 c3 c4 c5 c6
      unfold TkAt at hown
      rw [len_take HL.out hk] at hown
      go_wp2_with (at_builtin; refine wpList_append_own _ rfl _ _ 31 rfl w.heap.size 24 i0 (.agg #[.int .i64 0, .int .i64 0, .int .i64 0, .int .i64 0, .string ⟨#[]⟩, .bool false, .bool false]) 7 56 hT hi hz0 hz1 hz2 rfl (by decide) _ _ _ rfl (hown.alloc _) ⟨wr.heap.size, 0, none⟩ 1 1 (tkC ⟨kd, a, to, n, s, li, o⟩) rfl rfl ?_ ?_ ?_ ?_ ?_ ?_; exact tok_new _ _ _ _ rfl; exact tok_one _; (unfold maxLen; omega); omega; (simp; omega); intro v' w4 hown' hgrow _)
      have HB4 := Lib.hid ((HBW.out.alloc HBW.out.size _).grown hgrow (by simp; omega) (fun k hk => (hown0.lt k hk).1))
      have HN := Lib.hid (HX.out v' w4 (by unfold tkC at hown' ⊢; rw [len_take HL.out hk]; exact hown'))
      clear hown hown0 hown' hgrow c0 c1 c2 c3 c4 c5 c6 g1 HX HBW
      go_wp2
      go_roundw
      case rel => exact ⟨k + 1, by rw [← HL.out]; omega, by go_num, HN.out, HB4.out⟩
      case measure => simp [intOf]; omega
    · have hke : k = len := by omega
      have g1 : decide ((k : Int) < (len : Int)) = false := by simpa using hlt
      have HN := Lib.hid hown
      have HBW := Lib.hid hB
      have HK := Lib.hid hke
      clear HIN hown hB hke
      go_wp2
      go_ret
      refine ⟨_, rfl, ?_, HBW.out⟩
      have := HN.out
      rw [HK.out, HL.out, List.take_length] at this
      exact this

set_option linter.unusedVariables false in
set_option maxRecDepth 100000 in
set_option maxHeartbeats 1000000 in
theorem as_any (l : List Tk) (v0 : Value) (w : World) (hl : l.length ≤ 100000) (h : TksIn w v0 l) :
    Calls Try.prog 19 #[v0] w (CopyPost 23 w l) := by
  obtain ⟨ao, cap, rfl, _, _, hin⟩ := h
  have HIN := Lib.hid hin
  obtain ⟨i0, hi, hz0, hz1, hz2⟩ := info_parts info23
  have hT : Try.prog.underlying 30 = some (.slice 23) := Try.underlying30
  have HV : Hid (RelCopy 23 w l (.slice (some ⟨w.heap.size, 0, none⟩) 0 0) (.int .i64 0) (w.alloc (.cells #[] 23))) := Lib.hid ⟨0, by omega, rfl, World.ownsRow_made w #[] 0 (Nat.le_refl _) (by unfold maxLen; omega) rfl, (Below.refl _ w).alloc (Nat.le_refl _) _⟩
  obtain ⟨len, hlen⟩ : ∃ len, len = l.length := ⟨_, rfl⟩
  rw [← hlen]
  have HL := Lib.hid hlen
  have hl2 : len ≤ 100000 := by omega
  clear hin hlen hl
  go_enter Try.func19, Try.ntmps19
  go_wp2
  go_loopw [3, 8] (fun v i wr => RelCopy 23 w l v i wr) (fun _ i _ => len - (intOf i).toNat)
  case atStart => exact HV.out
  case round =>
    obtain ⟨k, hk, rfl, hown, hB⟩ := hrel
    rw [← HL.out] at hk
    clear HV
    by_cases hlt : k < len
    · obtain ⟨t, ht⟩ : ∃ t, l[k]? = some t := ⟨l[k]'(by rw [← HL.out]; exact hlt), List.getElem?_eq_getElem _⟩
      obtain ⟨b, off, rfl, hb, hc⟩ := HIN.out k t ht
      have HX := Lib.hid (take_more (B := w.heap.size) 23 ht)
      have hown0 := hown
      obtain ⟨c0, c1, c2, c3, c4, c5, c6⟩ := cells_kept hB hb hc
      clear HIN hc ht
      have HBW := Lib.hid hB
      have hsz := hB.size
      clear hB
      have hbw : b < wr.heap.size := by omega
      have g1 : decide ((k : Int) < (len : Int)) = true := by simpa using hlt
      obtain ⟨kd, a, to, n, s, li, o⟩ := t
      simp only at c0 c1 c2 c3 c4 c5 c6
      unfold TkAt at hown
      rw [len_take HL.out hk] at hown
      go_wp2_with (at_builtin; refine wpList_append_own _ rfl _ _ 30 rfl w.heap.size 23 i0 (.agg #[.int .i64 0, .int .i64 0, .int .i64 0, .int .i64 0, .string ⟨#[]⟩, .bool false, .bool false]) 7 56 hT hi hz0 hz1 hz2 rfl (by decide) _ _ _ rfl (hown.alloc _) ⟨wr.heap.size, 0, none⟩ 1 1 (tkC ⟨kd, a, to, n, s, li, o⟩) rfl rfl ?_ ?_ ?_ ?_ ?_ ?_; exact tok_new _ _ _ _ rfl; exact tok_one _; (unfold maxLen; omega); omega; (simp; omega); intro v' w4 hown' hgrow _)
      have HB4 := Lib.hid ((HBW.out.alloc HBW.out.size _).grown hgrow (by simp; omega) (fun k hk => (hown0.lt k hk).1))
      have HN := Lib.hid (HX.out v' w4 (by unfold tkC at hown' ⊢; rw [len_take HL.out hk]; exact hown'))
      clear hown hown0 hown' hgrow c0 c1 c2 c3 c4 c5 c6 g1 HX HBW
      go_wp2
      go_roundw
      case rel => exact ⟨k + 1, by rw [← HL.out]; omega, by go_num, HN.out, HB4.out⟩
      case measure => simp [intOf]; omega
    · have hke : k = len := by omega
      have g1 : decide ((k : Int) < (len : Int)) = false := by simpa using hlt
      have HN := Lib.hid hown
      have HBW := Lib.hid hB
      have HK := Lib.hid hke
      clear HIN hown hB hke
      go_wp2
      go_ret
      refine ⟨_, rfl, ?_, HBW.out⟩
      have := HN.out
      rw [HK.out, HL.out, List.take_length] at this
      exact this
end Go.Proofs.Ytjbnobcnlmkbmaa
