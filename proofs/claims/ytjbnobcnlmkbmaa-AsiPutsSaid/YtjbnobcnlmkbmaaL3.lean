/-
  Lines of package asi and of its reference at this translation.
-/
import Derived.Test.YtjbnobcnlmkbmaaL2
namespace Go.Proofs.Ytjbnobcnlmkbmaa
open Go.RowKit

def lineL (l : List Tk) : Nat → List Int
  | 0 => []
  | k + 1 => match l[k]? with
    | some t => if t.line = true then lineL l k ++ [(k : Int)] else lineL l k
    | none => lineL l k
theorem lineL_len (l : List Tk) : ∀ k, (lineL l k).length ≤ k := by
  intro k
  induction k with
  | zero => simp [lineL]
  | succ k ih =>
    unfold lineL
    split
    · split
      · simp; omega
      · omega
    · omega
theorem lineL_yes {l : List Tk} {k : Nat} {t : Tk} (h : l[k]? = some t) (hl : t.line = true) : lineL l (k + 1) = lineL l k ++ [(k : Int)] := by
  rw [lineL, h]; simp [hl]
theorem lineL_no {l : List Tk} {k : Nat} {t : Tk} (h : l[k]? = some t) (hl : t.line = false) : lineL l (k + 1) = lineL l k := by
  rw [lineL, h]; simp [hl]
def LinesPost (w : World) (l : List Tk) : Ending → World → Prop := fun e w' => ∃ v, e = .returned v ∧ IntsAt w' w.heap.size v (lineL l l.length) ∧ Below w.heap.size w w'
def RelLines (w : World) (l : List Tk) (v i : Value) (wr : World) : Prop := ∃ k : Nat, k ≤ l.length ∧ i = .int .i64 k ∧ IntsAt wr w.heap.size v (lineL l k) ∧ Below w.heap.size w wr
theorem info3 : (Try.prog.info? 3).map (fun i => (i.zero, i.size, i.bytes)) = some (some (.int .i64 0), 1, 8) := by kernel_rfl
theorem int_new (w : World) (x : Value) (T : TypeId) (b : Nat) (hb : b = w.heap.size) : ∀ j u, ([x] : List Value)[j]? = some u → (w.alloc (.cells #[x] T)).cell? ((⟨b, 0, none⟩ : Addr).add j) = some u := by
  subst hb
  intro j u h
  match j, h with
  | 0, h =>
    simp at h
    subst h
    exact (Lib.cell_of_heap (heap_alloc_new w (.cells #[x] T)) 0).trans rfl
  | j + 1, h => simp at h
theorem int_one (n : Int) : ∀ u ∈ ([.int .i64 n] : List Value), u.oneCell' = true := by
  intro u hu
  simp at hu
  subst hu
  rfl
theorem lines_more {w' : World} {B : Nat} {v' : Value} {l : List Tk} {k : Nat} {t : Tk} (ht : l[k]? = some t) (hl : t.line = true) (h : w'.ownsRow B 3 1 v' ((lineL l k).length + 1) ((lineL l k).map (Value.int .i64) ++ [.int .i64 k])) : IntsAt w' B v' (lineL l (k + 1)) := by
  unfold IntsAt
  rw [lineL_yes ht hl]
  simpa using h

set_option linter.unusedVariables false in
set_option maxRecDepth 100000 in
set_option maxHeartbeats 1000000 in
theorem lines_any (l : List Tk) (v0 : Value) (w : World) (hl : l.length ≤ 100000) (h : TksIn w v0 l) :
    Calls Try.prog 15 #[v0] w (LinesPost w l) := by
  obtain ⟨ao, cap, rfl, _, _, hin⟩ := h
  have HIN := Lib.hid hin
  obtain ⟨i0, hi, hz0, hz1, hz2⟩ := info_parts info3
  have hT : Try.prog.underlying 36 = some (.slice 3) := Try.underlying36
  have HV : Hid (RelLines w l (.slice none 0 0) (.int .i64 0) w) := Lib.hid ⟨0, by omega, rfl, World.ownsRow_nil _ _ _ _, Below.refl _ _⟩
  obtain ⟨len, hlen⟩ : ∃ len, len = l.length := ⟨_, rfl⟩
  rw [← hlen]
  have HL := Lib.hid hlen
  have hl2 : len ≤ 100000 := by omega
  clear hin hlen hl
  go_enter Try.func15, Try.ntmps15
  go_wp2
  go_loopw [3, 8] (fun v i wr => RelLines w l v i wr) (fun _ i _ => len - (intOf i).toNat)
  case atStart => exact HV.out
  case round =>
    obtain ⟨k, hk, rfl, hown, hB⟩ := hrel
    rw [← HL.out] at hk
    clear HV
    by_cases hlt : k < len
    · obtain ⟨t, ht⟩ : ∃ t, l[k]? = some t := ⟨l[k]'(by rw [← HL.out]; exact hlt), List.getElem?_eq_getElem _⟩
      obtain ⟨b, off, rfl, hb, hc⟩ := HIN.out k t ht
      obtain ⟨c0, c1, c2, c3, c4, c5, c6⟩ := cells_kept hB hb hc
      have HT := Lib.hid ht
      have HN := lineL_len l k
      clear HIN hc ht
      have HBW := Lib.hid hB
      have hsz := hB.size
      clear hB
      have hbw : b < wr.heap.size := by omega
      have g1 : decide ((k : Int) < (len : Int)) = true := by simpa using hlt
      obtain ⟨kd, a, to, n, s, li, o⟩ := t
      simp only at c0 c1 c2 c3 c4 c5 c6
      cases li with
      | true =>
        have HO := Lib.hid hown
        unfold IntsAt at hown
        go_wp2_with (at_builtin; refine wpList_append_own _ rfl _ _ 36 rfl w.heap.size 3 i0 (.int .i64 0) 1 8 hT hi hz0 hz1 hz2 rfl (by decide) _ _ _ rfl ((hown.alloc _).alloc _) ⟨wr.heap.size + 1, 0, none⟩ 1 1 [.int .i64 k] rfl rfl ?_ ?_ ?_ ?_ ?_ ?_; exact int_new _ _ _ _ (by simp); exact int_one _; (unfold maxLen; omega); omega; (simp; omega); intro v' w4 hown' hgrow _)
        have HB4 := Lib.hid (((HBW.out.alloc HBW.out.size _).alloc (by simp; omega) _).grown hgrow (by simp; omega) (fun k hk => (HO.out.lt k hk).1))
        have HN4 := Lib.hid (lines_more HT.out rfl hown')
        clear hown hown' hgrow c0 c1 c2 c3 c4 c5 c6 g1 HBW HO HN
        go_wp2
        go_roundw
        case rel => exact ⟨k + 1, by rw [← HL.out]; omega, by go_num, HN4.out, HB4.out⟩
        case measure => simp [intOf]; omega
      | false =>
        have HN4 := Lib.hid (World.ownsRow.alloc hown (.cells #[.int .i64 kd, .int .i64 a, .int .i64 to, .int .i64 n, .string s, .bool false, .bool o] 24))
        have HB4 := Lib.hid (HBW.out.alloc HBW.out.size (.cells #[.int .i64 kd, .int .i64 a, .int .i64 to, .int .i64 n, .string s, .bool false, .bool o] 24))
        clear hown HBW HN
        go_wp2
        go_roundw
        case rel => exact ⟨k + 1, by rw [← HL.out]; omega, by go_num, by rw [lineL_no HT.out rfl]; exact HN4.out, HB4.out⟩
        case measure => simp [intOf]; omega
    · have hke : k = len := by omega
      have g1 : decide ((k : Int) < (len : Int)) = false := by simpa using hlt
      have HN := Lib.hid hown
      have HBW := Lib.hid hB
      have HK := Lib.hid hke
      clear HIN hown hB hke
      go_wp2
      go_ret
      refine ⟨_, rfl, ?_, HBW.out⟩
      have := HN.out
      rw [HK.out, HL.out] at this
      exact this

set_option linter.unusedVariables false in
set_option maxRecDepth 100000 in
set_option maxHeartbeats 1000000 in
theorem rlines_any (l : List Tk) (v0 : Value) (w : World) (hl : l.length ≤ 100000) (h : TksIn w v0 l) :
    Calls Try.prog 17 #[v0] w (LinesPost w l) := by
  obtain ⟨ao, cap, rfl, _, _, hin⟩ := h
  have HIN := Lib.hid hin
  obtain ⟨i0, hi, hz0, hz1, hz2⟩ := info_parts info3
  have hT : Try.prog.underlying 36 = some (.slice 3) := Try.underlying36
  have HV : Hid (RelLines w l (.slice (some ⟨w.heap.size, 0, none⟩) 0 0) (.int .i64 0) (w.alloc (.cells #[] 3))) := Lib.hid ⟨0, by omega, rfl, World.ownsRow_made w #[] 0 (Nat.le_refl _) (by unfold maxLen; omega) rfl, (Below.refl _ w).alloc (Nat.le_refl _) _⟩
  obtain ⟨len, hlen⟩ : ∃ len, len = l.length := ⟨_, rfl⟩
  rw [← hlen]
  have HL := Lib.hid hlen
  have hl2 : len ≤ 100000 := by omega
  clear hin hlen hl
  go_enter Try.func17, Try.ntmps17
  go_wp2
  go_loopw [3, 4] (fun v i wr => RelLines w l v i wr) (fun _ i _ => len - (intOf i).toNat)
  case atStart => exact HV.out
  case round =>
    obtain ⟨k, hk, rfl, hown, hB⟩ := hrel
    rw [← HL.out] at hk
    clear HV
    by_cases hlt : k < len
    · obtain ⟨t, ht⟩ : ∃ t, l[k]? = some t := ⟨l[k]'(by rw [← HL.out]; exact hlt), List.getElem?_eq_getElem _⟩
      obtain ⟨b, off, rfl, hb, hc⟩ := HIN.out k t ht
      obtain ⟨c0, c1, c2, c3, c4, c5, c6⟩ := cells_kept hB hb hc
      have HT := Lib.hid ht
      have HN := lineL_len l k
      clear HIN hc ht
      have HBW := Lib.hid hB
      have hsz := hB.size
      clear hB
      have hbw : b < wr.heap.size := by omega
      have g1 : decide (k < len) = true := by simpa using hlt
      obtain ⟨kd, a, to, n, s, li, o⟩ := t
      simp only at c0 c1 c2 c3 c4 c5 c6
      cases li with
      | true =>
        have HO := Lib.hid hown
        unfold IntsAt at hown
        go_wp2_with (at_builtin; refine wpList_append_own _ rfl _ _ 36 rfl w.heap.size 3 i0 (.int .i64 0) 1 8 hT hi hz0 hz1 hz2 rfl (by decide) _ _ _ rfl (hown.alloc _) ⟨wr.heap.size, 0, none⟩ 1 1 [.int .i64 k] rfl rfl ?_ ?_ ?_ ?_ ?_ ?_; exact int_new _ _ _ _ (by simp); exact int_one _; (unfold maxLen; omega); omega; (simp; omega); intro v' w4 hown' hgrow _)
        have HB4 := Lib.hid ((HBW.out.alloc HBW.out.size _).grown hgrow (by simp; omega) (fun k hk => (HO.out.lt k hk).1))
        have HN4 := Lib.hid (lines_more HT.out rfl hown')
        clear hown hown' hgrow c0 c1 c2 c3 c4 c5 c6 g1 HBW HO HN
        go_wp2
        go_roundw
        case rel => exact ⟨k + 1, by rw [← HL.out]; omega, by go_num, HN4.out, HB4.out⟩
        case measure => simp [intOf]; omega
      | false =>
        have HN4 := Lib.hid (hown)
        have HB4 := Lib.hid (HBW.out)
        clear hown HBW HN
        go_wp2
        go_roundw
        case rel => exact ⟨k + 1, by rw [← HL.out]; omega, by go_num, by rw [lineL_no HT.out rfl]; exact HN4.out, HB4.out⟩
        case measure => simp [intOf]; omega
    · have hke : k = len := by omega
      have g1 : decide (k < len) = false := by simpa using hlt
      have HN := Lib.hid hown
      have HBW := Lib.hid hB
      have HK := Lib.hid hke
      clear HIN hown hB hke
      go_wp2
      go_ret
      refine ⟨_, rfl, ?_, HBW.out⟩
      have := HN.out
      rw [HK.out, HL.out] at this
      exact this
end Go.Proofs.Ytjbnobcnlmkbmaa
