/-
  What literal.Quote answers at this translation: for every string of at most 4000000 bytes: one plain function of the bytes.
-/
import Derived.Test.YthkjdllpgcocpaaGreatDoorRead
import Derived.Test.YthkjdllpgcocpaaGreatDoorBuildW
namespace Go.Proofs.YthkjdllpgcocpaaGreatDoor
open Go.RowKit

set_option maxHeartbeats 400000 in
theorem short_any (c : Int) (w : World) :
    Calls Tryz.prog 60 #[.int .u8 c] w fun e w' => e = .returned (.int .u8 (shtV c)) ∧ w = w' := by
  go_enter Tryz.func60, Tryz.ntmps60
  go_wp2
  all_goals
    go_ret
    exact ⟨ret_i (by unfold shtV; simp_all), rfl⟩

def hexD (n : Int) : Int := if n < 10 then 48 + n else 87 + n
/-- how one byte stands in a canonical literal -/
def qI (c : Int) : List Int := if ¬ shtV c = 0 then [92, shtV c] else if 32 ≤ c ∧ c ≤ 126 then [c] else [92, 120, hexD (c / 16), hexD (c % 16)]

theorem hexAtF : ∀ m : Fin 16, (((⟨#[48, 49, 50, 51, 52, 53, 54, 55, 56, 57, 97, 98, 99, 100, 101, 102]⟩ : ByteArray)[m.val]'m.isLt).toNat : Int) = hexD (m.val : Int) := by decide +kernel
theorem hexAt (n : Int) (h0 : 0 ≤ n) (h1 : n < 16) (h : n.toNat < (⟨#[48, 49, 50, 51, 52, 53, 54, 55, 56, 57, 97, 98, 99, 100, 101, 102]⟩ : ByteArray).size) : (((⟨#[48, 49, 50, 51, 52, 53, 54, 55, 56, 57, 97, 98, 99, 100, 101, 102]⟩ : ByteArray)[n.toNat]'h).toNat : Int) = hexD n := by
  have e := hexAtF ⟨n.toNat, by omega⟩
  have en : ((n.toNat : Nat) : Int) = n := by omega
  simp only [en] at e
  exact e
theorem cells4 (bs : List Value) (x y : Int) : bs ++ Lib.strCells ⟨#[92, 120]⟩ ++ [.int .u8 x] ++ [.int .u8 y] = bs ++ [92, 120, x, y].map (Value.int .u8) := by
  simp [Lib.strCells]
theorem len92 : (Lib.strCells ⟨#[92, 120]⟩).length = 2 := by rw [Lib.strCells_length]; rfl
theorem isB_eq {B b : Nat} {bs cs : List Value} {w : World} (h : Lib.IsBuilder 53 5 B b bs w) (e : bs = cs) : Lib.IsBuilder 53 5 B b cs w := e ▸ h

set_option maxHeartbeats 1000000 in
set_option maxRecDepth 100000 in
theorem quoteByte_any (B b : Nat) (bs : List Value) (c : Int) (w : World) (h0 : 0 ≤ c) (h1 : c ≤ 255) (h : Lib.IsBuilder 53 5 B b bs w) (hlen : bs.length + 4 ≤ 140737488355328) (hBw : B ≤ w.heap.size) :
    Calls Tryz.prog 40 #[.pointer (some ⟨b, 0, none⟩), .int .u8 c] w fun e w' => e = .returned (.tuple #[]) ∧ Lib.IsBuilder 53 5 B b (bs ++ (qI c).map (Value.int .u8)) w' ∧ Below B w w' := by
  by_cases hs : shtV c = 0
  · have hsb : (shtV c != 0) = false := by simpa using hs
    by_cases hp : 32 ≤ c ∧ c ≤ 126
    · have hq : qI c = [c] := by unfold qI; rw [if_neg (by simpa using hs), if_pos hp]
      rw [hq]
      obtain ⟨p0, p1⟩ := hp
      have S := short_any c
      clear hs hq
      go_enter Tryz.func40, Tryz.ntmps40
      go_wp2_with (first | (go_at_call 60; refine (S _).mono ?_; rintro e w' ⟨rfl, rfl⟩) | (go_at_call 25; refine (writeByte_any B b bs _ _ h (by omega) hBw).mono ?_; rintro e w1 ⟨rfl, hB1, hb1⟩))
      go_end0
      exact ⟨rfl, Or.inr hB1, hb1⟩
    · have hq : qI c = [92, 120, hexD (c / 16), hexD (c % 16)] := by unfold qI; rw [if_neg (by simpa using hs), if_neg hp]
      rw [hq]
      have d1 : decide (32 ≤ c) = true → decide (c ≤ 126) = false := by simp; omega
      have S := short_any c
      clear hs hq hp
      go_enter Tryz.func40, Tryz.ntmps40
      go_wp2_with (first | (go_at_call 60; refine (S _).mono ?_; rintro e w' ⟨rfl, rfl⟩) | (go_at_call 26; refine (writeString_any B b bs _ _ h (by simp [ByteArray.size]; omega) hBw).mono ?_; rintro e w1 ⟨rfl, hB1, hb1⟩))
      all_goals
        refine (writeByte_any B b _ _ w1 (Or.inr hB1) (by simp only [List.length_append, len92]; omega) (by have := hb1.size; omega)).mono ?_
        rintro e w2 ⟨rfl, hB2, hb2⟩
        go_wp2_with fail
        refine (writeByte_any B b _ _ w2 (Or.inr hB2) (by simp only [List.length_append, len92, List.length_cons, List.length_nil]; omega) (by have := hb1.size; have := hb2.size; omega)).mono ?_
        rintro e w3 ⟨rfl, hB3, hb3⟩
        go_wp2
        go_end0
        refine ⟨rfl, isB_eq (Or.inr hB3) ?_, (hb1.trans hb2).trans hb3⟩
        rw [hexAt _ (by omega) (by omega), hexAt _ (by omega) (by omega)]
        exact cells4 _ _ _
  · have hq : qI c = [92, shtV c] := by unfold qI; rw [if_pos hs]
    rw [hq]
    have hsb : (shtV c != 0) = true := by simpa using hs
    have S := short_any c
    clear hs hq
    go_enter Tryz.func40, Tryz.ntmps40
    go_wp2_with (go_at_call 60; refine (S _).mono ?_; rintro e w' ⟨rfl, rfl⟩)
    refine (writeByte_any B b bs _ _ h (by omega) hBw).mono ?_
    rintro e w1 ⟨rfl, hB1, hb1⟩
    go_wp2_with (go_at_call 60; refine (short_any _ _).mono ?_; rintro e w' ⟨rfl, rfl⟩)
    refine (writeByte_any B b _ _ w1 (Or.inr hB1) (by simp; omega) (by have := hb1.size; omega)).mono ?_
    rintro e w2 ⟨rfl, hB2, hb2⟩
    go_wp2
    go_end0
    exact ⟨rfl, isB_eq (Or.inr hB2) (by simp), hb1.trans hb2⟩

/-- the bytes of a canonical literal's inside -/
def qL (l : List UInt8) : List UInt8 := l.flatMap fun c => (qI c.toNat).map byt
def quoteL (l : List UInt8) : List UInt8 := 34 :: (qL l ++ [34])

theorem shtV_b (c : Int) : 0 ≤ shtV c ∧ shtV c ≤ 255 := by unfold shtV; repeat' split; all_goals omega
theorem hexD_b (n : Int) (h0 : 0 ≤ n) (h1 : n < 16) : 0 ≤ hexD n ∧ hexD n ≤ 255 := by unfold hexD; split <;> omega
theorem qI_b (c : Int) (h0 : 0 ≤ c) (h1 : c ≤ 255) : ∀ x ∈ qI c, 0 ≤ x ∧ x ≤ 255 := by
  intro x hx
  unfold qI at hx
  have := shtV_b c
  have := hexD_b (c / 16) (by omega) (by omega)
  have := hexD_b (c % 16) (by omega) (by omega)
  repeat' split at hx
  all_goals simp at hx
  all_goals omega
theorem byt_cells (l : List Int) (h : ∀ x ∈ l, 0 ≤ x ∧ x ≤ 255) : Lib.byteCells (l.map byt) = l.map (Value.int .u8) := by
  induction l with
  | nil => rfl
  | cons a t ih =>
    have ha := h a (by simp)
    have ht := ih (fun x hx => h x (by simp [hx]))
    simp only [Lib.byteCells, List.map_cons] at ht ⊢
    rw [ht, byt_val a ha.1 ha.2]
theorem qI_len (c : Int) : (qI c).length ≤ 4 := by
  unfold qI
  by_cases h1 : shtV c = 0 <;> by_cases h2 : 32 ≤ c ∧ c ≤ 126 <;> simp [h1, h2]
theorem qL_snoc (l : List UInt8) (c : UInt8) : qL (l ++ [c]) = qL l ++ (qI c.toNat).map byt := by simp [qL]
theorem qL_len (l : List UInt8) : (qL l).length ≤ 4 * l.length := by
  induction l with
  | nil => simp [qL]
  | cons a t ih =>
    have := qI_len a.toNat
    simp only [qL, List.flatMap_cons, List.length_append, List.length_map, List.length_cons] at ih ⊢
    omega
theorem bc_q (l : List UInt8) (c : UInt8) : Lib.byteCells (34 :: qL (l ++ [c])) = Lib.byteCells (34 :: qL l) ++ (qI c.toNat).map (Value.int .u8) := by
  have hb := qI_b c.toNat (by omega) (by have := c.toNat_lt; omega)
  rw [qL_snoc, ← List.cons_append, Lib.byteCells_append, byt_cells _ hb]

theorem take_snoc (s : ByteArray) (k : Nat) (h : k < s.size) : s.data.toList.take (k + 1) = s.data.toList.take k ++ [s[k]] := by
  rw [List.take_succ_eq_append_getElem (by simpa using h)]; rfl

set_option maxHeartbeats 1000000 in
set_option maxRecDepth 100000 in
theorem quote_any (s : ByteArray) (w : World) (hs : s.size ≤ 4000000) :
    Calls Tryz.prog 21 #[.string s] w fun e w' => e = .returned (.string ⟨(quoteL s.data.toList).toArray⟩) ∧ Below w.heap.size w w' := by
  go_enter Tryz.func21, Tryz.ntmps21
  go_wp2_with fail
  refine (writeByte_any w.heap.size w.heap.size [] 34 _ (Lib.fresh_isBuilder 53 5 w) (by simp) (by simp)).mono ?_
  rintro e w1 ⟨rfl, hB1, hb1⟩
  have hb1' := ((Below.refl _ w).alloc (Nat.le_refl _) _).trans hb1
  clear hb1
  go_wp2_with fail
  go_loopw [8] (fun i wr => ∃ k : Nat, i = .int .i64 k ∧ k ≤ s.size ∧ Lib.IsBuilder 53 5 w.heap.size w.heap.size (Lib.byteCells (34 :: qL (s.data.toList.take k))) wr ∧ Below w.heap.size w wr) (fun i _ => s.size - (intOf i).toNat)
  case atStart => exact ⟨0, by go_num, by omega, Or.inr hB1, hb1'⟩
  case round =>
    obtain ⟨k, rfl, hk, hI, hbw⟩ := hrel
    have hsz : w.heap.size ≤ wr.heap.size := hbw.size
    have hql := qL_len (s.data.toList.take k)
    have htl : (s.data.toList.take k).length ≤ k := List.length_take_le _ _
    have hbl : (Lib.byteCells (34 :: qL (s.data.toList.take k))).length ≤ 4 * k + 1 := by rw [hs_len]; simp only [List.length_cons]; omega
    by_cases hks : k < s.size
    · obtain ⟨c, hc⟩ : ∃ c : UInt8, s[k] = c := ⟨_, rfl⟩
      have hts := take_snoc s k hks
      rw [hc] at hts
      have HT := Lib.hid hts
      clear hts hql htl
      have c0 : (0 : Int) ≤ c.toNat := by omega
      have c1 : (c.toNat : Int) ≤ 255 := by have := c.toNat_lt; omega
      have HL := Lib.hid hbl
      clear hbl
      go_wp2_with (go_at_call 40; refine (quoteByte_any w.heap.size w.heap.size _ _ _ c0 c1 hI (by have := HL.out; omega) hsz).mono ?_; rintro e w' ⟨rfl, hI2, hb2⟩)
      go_roundw
      case rel =>
        refine ⟨k + 1, by go_num, by omega, ?_, hbw.trans hb2⟩
        rw [HT.out, bc_q]
        exact hI2
      case measure => simp [intOf]; omega
    · obtain rfl : k = s.size := by omega
      have ht : s.data.toList.take s.size = s.data.toList := List.take_of_length_le (by simp)
      rw [ht] at hI hbl
      have HL := Lib.hid hbl
      clear hbl ht hql htl
      go_wp2_with (go_at_call 25; refine (writeByte_any w.heap.size w.heap.size _ 34 _ hI (by have := HL.out; omega) hsz).mono ?_; rintro e w2 ⟨rfl, hB2, hb2⟩)
      have e34 : Lib.byteCells (34 :: qL s.data.toList) ++ [.int .u8 34] = Lib.byteCells (quoteL s.data.toList) := by
        rw [quoteL, ← List.cons_append, Lib.byteCells_append]; rfl
      have hB3 : Lib.IsBuilder 53 5 w.heap.size w.heap.size (Lib.byteCells (quoteL s.data.toList)) w2 := isB_eq (Or.inr hB2) e34
      clear e34 hB2
      refine (Tryz.Builder_String_any w.heap.size w.heap.size _ _ hB3 (by have := hb2.size; omega)).mono ?_
      rintro e w3 ⟨rfl, hb3⟩
      go_wp2
      go_ret
      exact ⟨rfl, (hbw.trans hb2).trans hb3⟩
end Go.Proofs.YthkjdllpgcocpaaGreatDoor
