/-
  strings.ContainsAny at this translation: is one of the two line terminators in a text? For every text, whatever its bytes.
-/
import Derived.Test.YthkjdllpgcocpaaGreatDoorTRune
import Derived.Test.YthkjdllpgcocpaaGreatDoorTTok
namespace Go.Proofs.YthkjdllpgcocpaaGreatDoor
open Go.RowKit

theorem rune_high (r : Int) (w : World) (h0 : 128 ≤ r) (h1 : r ≤ 2147483647) :
    Calls Tryz.prog 104 #[.string ⟨#[10, 13]⟩, .int .i32 r] w fun e w' => e = .returned (.int .i64 (-1)) ∧ Below w.heap.size w w' := by
  by_cases h2 : r = 65533
  · subst h2
    exact rune_fffd w
  · have h3 : (r == 65533) = false := by simpa using h2
    cases hv : Lib.validRune r with
    | false => exact rune_bad r w h0 h1 h3 hv
    | true =>
      by_cases h4 : r < 2048
      · exact rune_two r w h0 h4
      · exact rune_more r w (by omega) h1 h3 hv
set_option maxRecDepth 100000 in
set_option maxHeartbeats 1000000 in
theorem rune_low (x : UInt8) (w : World) (h : x.toNat < 128) :
    Calls Tryz.prog 104 #[.string ⟨#[10, 13]⟩, .int .i32 (x.toNat : Int)] w fun e w' => e = .returned (.int .i64 (Lib.indexByte nlC x)) ∧ w = w' := by
  have h0 : (0 : Int) ≤ x.toNat := by omega
  have h1 : (x.toNat : Int) < 128 := by omega
  have h2 : (x.toNat : Int) ≤ 255 := by omega
  have HI := Lib.hid (fun W => indexByte_at ⟨#[10, 13]⟩ (x.toNat : Int) (Lib.indexByte nlC x) W (by simp [nlC]))
  clear h
  go_enter Tryz.func104, Tryz.ntmps104
  go_wp2_with fail
  refine (HI.out _).mono ?_
  rintro e w' ⟨rfl, rfl⟩
  go_wp2
  go_ret
  exact ⟨rfl, rfl⟩

/-- a step of the range over a text, wherever its iterator lies -/
theorem next_at (W : World) (b : Nat) (s : ByteArray) (pos : Nat) (ty : TypeId) (hb : W.heap[b]? = some (.stringIter s pos)) (h : pos < s.size) :
    (Instr.next (.pointer (some ⟨b, 0, none⟩)) true ty).run Tryz.prog W =
      .ok (.tuple #[.bool true, .int .i64 pos, .int .i32 (Utf8.decode s pos).1]) { W with heap := W.heap.setIfInBounds b (.stringIter s (pos + (Utf8.decode s pos).2)) } := by
  simp only [Instr.next, getObj, setObj, Sem.run_bind, Sem.run, hb, Result.andThen, h, if_true]
  simp [goInt]
theorem next_stop (W : World) (b : Nat) (s : ByteArray) (pos : Nat) (ty : TypeId) (hb : W.heap[b]? = some (.stringIter s pos)) (h : ¬ pos < s.size) :
    (Instr.next (.pointer (some ⟨b, 0, none⟩)) true ty).run Tryz.prog W = .ok (.tuple #[.bool false]) W := by
  simp [Instr.next, getObj, Sem.run, hb, h]
theorem below_iter {B b : Nat} {w W : World} (h : Below B w W) (hB : B ≤ b) (o : Obj) : Below B w { W with heap := W.heap.setIfInBounds b o } := by
  refine ⟨h.1, h.2, h.3, ?_, ?_⟩
  · have := h.4
    simpa using this
  · intro j hj
    have := h.5 j hj
    show (W.heap.setIfInBounds b o)[j]? = _
    rw [Array.getElem?_setIfInBounds_ne (by omega)]
    exact this
theorem iter_new {W : World} {b : Nat} {o o' : Obj} (h : W.heap[b]? = some o) : ({ W with heap := W.heap.setIfInBounds b o' } : World).heap[b]? = some o' := by
  show (W.heap.setIfInBounds b o')[b]? = _
  rw [Array.getElem?_setIfInBounds_self_of_lt (t_lt h)]

set_option maxRecDepth 100000 in
set_option maxHeartbeats 4000000 in
theorem any_short (s : ByteArray) (w : World) (h8 : s.size ≤ 8) :
    Calls Tryz.prog 74 #[.string s, .string ⟨#[10, 13]⟩] w fun e w' => e = .returned (.int .i64 (Lib.indexAny s.data.toList nlC)) ∧ Below w.heap.size w w' := by
  obtain ⟨z, hz⟩ : ∃ z, z = Lib.indexAny s.data.toList nlC := ⟨_, rfl⟩
  rw [← hz]
  have HZ := Lib.hid hz
  clear hz
  have h8z : decide ((8 : Int) < (s.size : Int)) = false := decide_eq_false (by omega)
  go_enter Tryz.func74, Tryz.ntmps74
  go_wp2_with (go_at_call 105; refine (Tryz.strings_shouldUseASCIISet _ _).mono ?_; rintro e w' ⟨rfl, hw⟩; rw [hw, h8z])
  go_loopg [9, 10] s.size (fun g _ _ wz => ∃ (i : Nat) (wx : World), wx = wz ∧ i + g = s.size ∧ Below w.heap.size w wx ∧ wx.heap[w.heap.size]? = some (.stringIter s i) ∧ Lib.NoAny s.data.toList nlC i)
  case atStart => exact ⟨0, _, rfl, by omega, t_bel1 w _, heap_alloc_new w _, Lib.NoAny.zero _ _⟩
  case round =>
    obtain ⟨i, wx, hwx, hig, hB, hit, hno⟩ := hrel
    subst hwx
    have HN := Lib.hid hno
    have HB := Lib.hid hB
    have HT := Lib.hid hit
    clear hno hB hit
    by_cases hi : i < s.size
    · obtain ⟨W1, hW1⟩ : ∃ W1 : World, W1 = { wx with heap := wx.heap.setIfInBounds w.heap.size (.stringIter s (i + (Utf8.decode s i).2)) } := ⟨_, rfl⟩
      have hnx := fun ty => next_at wx w.heap.size s i ty HT.out hi
      rw [← hW1] at hnx
      have hB1 : Below w.heap.size w W1 := by rw [hW1]; exact below_iter HB.out (Nat.le_refl _) _
      have hT1 : W1.heap[w.heap.size]? = some (.stringIter s (i + (Utf8.decode s i).2)) := by rw [hW1]; exact iter_new HT.out
      obtain ⟨x, hx⟩ : ∃ x : UInt8, s[i]'hi = x := ⟨_, rfl⟩
      have hxl : s.data.toList[i]? = some x := by
        rw [List.getElem?_eq_getElem (by simpa using hi), ← hx]
        rfl
      by_cases h128 : x.toNat < 128
      · have hd := decode_ascii s i hi (by rw [hx]; exact h128)
        rw [hx] at hd
        rw [hd] at hnx hT1
        have HL := Lib.hid (fun W => rune_low x W h128)
        have hcon := Lib.contains_iff_indexByte nlC x
        have H1 := Lib.hid hB1
        have H2 := Lib.hid hT1
        have HX := Lib.hid hxl
        clear hd hW1 hB1 hT1 hx hxl HB HT
        obtain ⟨y, hy⟩ : ∃ y, y = Lib.indexByte nlC x := ⟨_, rfl⟩
        rw [← hy] at HL hcon
        clear hy
        cases hin : nlC.contains x with
        | false =>
          rw [hin] at hcon
          have hlt : ¬ ((0 : Int) ≤ y) := of_decide_eq_false hcon.symm
          have HIN := Lib.hid hin
          clear hcon hin
          go_wp2_with (go_at_call 104; refine (HL.out _).mono ?_; rintro e w' ⟨rfl, rfl⟩)
          go_roundg (s.size - (i + 1))
          case measure => omega
          case rel => exact ⟨i + 1, _, rfl, by omega, H1.out, H2.out, HN.out.succ HX.out HIN.out⟩
        | true =>
          rw [hin] at hcon
          have hge : (0 : Int) ≤ y := of_decide_eq_true hcon.symm
          have HIN := Lib.hid hin
          clear hcon hin
          go_wp2_with (go_at_call 104; refine (HL.out _).mono ?_; rintro e w' ⟨rfl, rfl⟩)
          go_ret
          exact ⟨by rw [HZ.out, Lib.indexAny_hit HN.out HX.out HIN.out]; rfl, H1.out⟩
      · have hd := decode_high s i hi (by rw [hx]; omega)
        have hdl := decode_le s i
        have ht := dec_tail s i hi (by rw [hx]; omega)
        generalize Utf8.decode s i = d at hd hdl ht hnx hT1
        obtain ⟨r, n⟩ := d
        obtain ⟨hr, hn⟩ := hd
        obtain ⟨ht1, ht2⟩ := ht
        simp only at hr hn ht1 ht2 hdl hnx hT1
        have hr0 : (128 : Int) ≤ (r : Nat) := by omega
        have hr1 : ((r : Nat) : Int) ≤ 2147483647 := by omega
        have HL := Lib.hid (fun W => rune_high (r : Int) W hr0 hr1)
        have HM := Lib.hid (noany_more HN.out ht2 ht1)
        have H1 := Lib.hid hB1
        have H2 := Lib.hid hT1
        clear hW1 hB1 hT1 hx hxl HB HT ht2 HN
        go_wp2_with (go_at_call 104; refine (HL.out _).mono ?_; rintro e w2 ⟨rfl, hb⟩; have H3 := Lib.hid (t_thr H1.out hb H1.out.size); have H4 := Lib.hid (t_kept hb (t_lt H2.out) H2.out); clear hb)
        go_roundg (s.size - (i + n))
        case measure => omega
        case rel => exact ⟨i + n, _, rfl, by omega, H3.out, H4.out, HM.out⟩
    · have hnx := fun ty => next_stop wx w.heap.size s i ty HT.out hi
      have hE : z = -1 := by
        rw [HZ.out]
        exact Lib.indexAny_none (by rw [show s.data.toList.length = i from by simp; omega]; exact HN.out)
      have HE := Lib.hid hE
      clear hE
      go_wp2
      go_ret
      exact ⟨by rw [HE.out]; rfl, HB.out⟩

theorem indexAny_any (s : ByteArray) (w : World) (hs : s.size ≤ 4000000) :
    Calls Tryz.prog 74 #[.string s, .string ⟨#[10, 13]⟩] w fun e w' => e = .returned (.int .i64 (Lib.indexAny s.data.toList nlC)) ∧ Below w.heap.size w w' := by
  by_cases h8 : s.size ≤ 8
  · exact any_short s w h8
  · refine (Tryz.strings_IndexAny_long (fun w => by kernel_rfl) s ⟨#[10, 13]⟩ w (by decide) (by omega) (by omega) (by decide) (by
      intro j b hb
      have e : b = 10 ∨ b = 13 := by
        match j, hb with
        | 0, hb => exact .inl (Option.some.inj hb).symm
        | 1, hb => exact .inr (Option.some.inj hb).symm
        | j + 2, hb => simp at hb
      rcases e with rfl | rfl <;> decide)).mono ?_
    rintro e w' ⟨rfl, rfl⟩
    exact ⟨rfl, ((t_bel1 w _).alloc (by simp) _)⟩
set_option maxHeartbeats 1000000 in
theorem containsNl_any (s : ByteArray) (w : World) (hs : s.size ≤ 4000000) :
    Calls Tryz.prog 46 #[.string s, .string ⟨#[10, 13]⟩] w fun e w' => e = .returned (.bool (nlL s.data.toList)) ∧ Below w.heap.size w w' := by
  have HI := Lib.hid (fun W => indexAny_any s W hs)
  unfold nlL
  generalize Lib.indexAny s.data.toList nlC = z at HI ⊢
  go_enter Tryz.func46, Tryz.ntmps46
  go_wp2_with fail
  refine (HI.out _).mono ?_
  rintro e w1 ⟨rfl, hb⟩
  go_wp2
  go_ret
  exact ⟨ret_b (by simp), hb⟩
end Go.Proofs.YthkjdllpgcocpaaGreatDoor
