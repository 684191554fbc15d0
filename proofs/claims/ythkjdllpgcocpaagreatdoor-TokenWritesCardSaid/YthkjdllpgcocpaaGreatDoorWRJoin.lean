/-
  Join of the reference of package token at this translation.
-/
import Derived.Test.YthkjdllpgcocpaaGreatDoorWRText
import Derived.Test.YthkjdllpgcocpaaGreatDoorTNext
namespace Go.Proofs.YthkjdllpgcocpaaGreatDoor
open Go.RowKit

def CellsT (w : World) (b o : Nat) (t : NT) : Prop := w.cell? ⟨b, o, none⟩ = some (.int .i64 t.kind) ∧ w.cell? ⟨b, o + 1, none⟩ = some (.int .i64 t.a) ∧ w.cell? ⟨b, o + 2, none⟩ = some (.int .i64 t.to) ∧ w.cell? ⟨b, o + 3, none⟩ = some (.int .i64 t.n) ∧ w.cell? ⟨b, o + 4, none⟩ = some (.string t.s) ∧ w.cell? ⟨b, o + 5, none⟩ = some (.bool t.line) ∧ w.cell? ⟨b, o + 6, none⟩ = some (.bool t.o)
theorem cellsT_kept {W w1 : World} {B b o : Nat} {t : NT} (hB : Below B W w1) (hb : b < B) (h : CellsT W b o t) : CellsT w1 b o t := by
  obtain ⟨c0, c1, c2, c3, c4, c5, c6⟩ := h
  exact ⟨(hB.cell (p := ⟨b, _, none⟩) hb).trans c0, (hB.cell (p := ⟨b, _, none⟩) hb).trans c1, (hB.cell (p := ⟨b, _, none⟩) hb).trans c2, (hB.cell (p := ⟨b, _, none⟩) hb).trans c3, (hB.cell (p := ⟨b, _, none⟩) hb).trans c4, (hB.cell (p := ⟨b, _, none⟩) hb).trans c5, (hB.cell (p := ⟨b, _, none⟩) hb).trans c6⟩
/-- a slice that holds the tokens of l -/
def TokIn (w : World) (v : Value) (l : List NT) : Prop := ∃ (ao : Option Addr) (cap : Nat), v = .slice ao l.length cap ∧ l.length ≤ cap ∧ cap ≤ maxLen ∧ ∀ i t, l[i]? = some t → ∃ b off, ao = some ⟨b, off, none⟩ ∧ b < w.heap.size ∧ CellsT w b (off + i * 7) t
def okT (t : NT) : Prop := t.s.size ≤ 20000 ∧ -9223372036854775808 ≤ t.n ∧ t.n ≤ 9223372036854775807
def txT (t : NT) : List UInt8 := tkV t.kind t.n t.s t.o
def sepV (k : Nat) (t : NT) : List UInt8 := if t.line then [10] else if 0 < k then [32] else []
/-- the text of the first k tokens -/
def joinK (l : List NT) : Nat → List UInt8
  | 0 => []
  | k + 1 => joinK l k ++ (match l[k]? with
    | some t => sepV k t ++ txT t
    | none => [])
theorem join_step {l : List NT} {k : Nat} {t : NT} (h : l[k]? = some t) : joinK l (k + 1) = joinK l k ++ sepV k t ++ txT t := by
  show joinK l k ++ _ = _
  rw [h]
  simp
theorem tkV_len (k n : Int) (s : ByteArray) (o : Bool) (h0 : -9223372036854775808 ≤ n) (h1 : n ≤ 9223372036854775807) : (tkV k n s o).length ≤ 4 * s.size + 30 := by
  have h2 : s.data.toList.length = s.size := by rw [Array.length_toList]; rfl
  have h3 := wL_len mkT s.data.toList
  have h4 := wL_len mkP s.data.toList
  have h5 := itoa_len n h0 h1
  unfold tkV
  by_cases c1 : k = 1 ∨ k = 2 ∨ k = 5
  · rw [if_pos c1]; omega
  rw [if_neg c1]
  by_cases c3 : k = 3
  · rw [if_pos c3]; omega
  rw [if_neg c3]
  by_cases c4 : k = 4
  · rw [if_pos c4]; simp only [List.length_cons, List.length_append, List.length_nil]; omega
  rw [if_neg c4]
  by_cases c6 : k = 6
  · rw [if_pos c6]
    cases o <;> simp <;> omega
  rw [if_neg c6]
  simp
theorem txT_size {t : NT} (h : okT t) : (⟨(txT t).toArray⟩ : ByteArray).size ≤ 80030 := by
  have h1 : (txT t).length ≤ 4 * t.s.size + 30 := tkV_len t.kind t.n t.s t.o h.2.1 h.2.2
  have h2 : (⟨(txT t).toArray⟩ : ByteArray).size = (txT t).length := rfl
  have h3 := h.1
  omega
theorem ba_list (o p : ByteArray) : (o ++ p).data.toList = o.data.toList ++ p.data.toList := by simp
set_option linter.unusedVariables false in
set_option maxRecDepth 100000 in
set_option maxHeartbeats 2000000 in
theorem rjoin_any (l : List NT) (v : Value) (w : World) (hl : l.length ≤ 1000) (hk : ∀ t ∈ l, okT t) (h : TokIn w v l) :
    Calls Tryz.prog 11 #[v] w fun e w' => e = .returned (.string ⟨(joinK l l.length).toArray⟩) ∧ Below w.heap.size w w' := by
  obtain ⟨ao, cap, rfl, hcap, hmax, hin⟩ := h
  have HI := Lib.hid hin
  have HK := Lib.hid hk
  obtain ⟨len, hlen⟩ : ∃ len, len = l.length := ⟨_, rfl⟩
  rw [← hlen] at hl ⊢
  have HL := Lib.hid hlen
  clear hin hk hlen hcap hmax
  go_enter Tryz.func11, Tryz.ntmps11
  go_wp2
  go_loopw [3, 4] (fun s i wr => ∃ (k : Nat) (o : ByteArray), i = .int .i64 k ∧ k ≤ len ∧ s = .string o ∧ Hid (o.data.toList = joinK l k) ∧ o.size ≤ k * 80040 ∧ Below w.heap.size w wr) (fun _ i _ => len - natOf i)
  case atStart => exact ⟨0, ⟨#[]⟩, rfl, Nat.zero_le _, rfl, Lib.hid rfl, by decide, Below.refl _ _⟩
  case round =>
    obtain ⟨k, o, rfl, hkl, rfl, HO, hz, hb⟩ := hrel
    by_cases hlt : k < len
    · have g1 : decide ((k : Int) < (len : Int)) = true := decide_eq_true (by omega)
      have g2 : (k : Int) < (len : Int) := by omega
      obtain ⟨t, ht⟩ : ∃ t, l[k]? = some t := ⟨_, List.getElem?_eq_getElem (by rw [← HL.out]; exact hlt)⟩
      obtain ⟨b, off, rfl, hbb, hc⟩ := HI.out k t ht
      obtain ⟨c0, c1, c2, c3, c4, c5, c6⟩ := cellsT_kept hb hbb hc
      have hbw : b < wr.heap.size := by have := hb.size; omega
      have hok := HK.out t (List.mem_of_getElem? ht)
      have HT : Hid (∀ W, Calls Tryz.prog 8 #[.agg #[.int .i64 t.kind, .int .i64 t.a, .int .i64 t.to, .int .i64 t.n, .string t.s, .bool t.line, .bool t.o]] W fun e w' => e = .returned (.string ⟨(txT t).toArray⟩) ∧ Below W.heap.size W w') := Lib.hid (fun W => rtext1_any t.kind t.a t.to t.n t.s t.line t.o W (by have := hok.1; omega) hok.2.1 hok.2.2)
      have hpz := txT_size hok
      obtain ⟨p, hp⟩ : ∃ p : ByteArray, p = ⟨(txT t).toArray⟩ := ⟨_, rfl⟩
      rw [← hp] at HT hpz
      have HS := Lib.hid (And.intro (join_step ht) hp)
      have HB := Lib.hid hb
      have hzk : k * 80040 ≤ 80040000 := by omega
      clear ht hc hok hp hb
      cases hli : t.line with
      | true =>
        rw [hli] at c5 HT
        have HLI := Lib.hid hli
        clear hli
        go_wp2_with fail
        refine (HT.out _).mono ?_
        rintro e w5 ⟨rfl, hb5⟩
        have HB5 := Lib.hid (t_thr HB.out hb5 HB.out.size)
        clear hb5 HT c0 c1 c2 c3 c4 c5 c6
        go_wp2
        go_roundw
        case rel =>
          refine ⟨k + 1, o ++ ⟨#[10]⟩ ++ p, by go_num, by omega, rfl, Lib.hid ?_, ?_, HB5.out⟩
          · rw [HS.out.1, ba_list, ba_list, HO.out, HS.out.2]
            unfold sepV
            rw [HLI.out]
            simp
          · rw [ByteArray.size_append, ByteArray.size_append]
            have : (⟨#[10]⟩ : ByteArray).size = 1 := rfl
            omega
        case measure => simp [natOf]; omega
      | false =>
        rw [hli] at c5 HT
        have HLI := Lib.hid hli
        clear hli
        by_cases hk0 : 0 < k
        · have g3 : decide ((0 : Int) < (k : Int)) = true := decide_eq_true (by omega)
          go_wp2_with fail
          refine (HT.out _).mono ?_
          rintro e w5 ⟨rfl, hb5⟩
          have HB5 := Lib.hid (t_thr HB.out hb5 HB.out.size)
          clear hb5 HT c0 c1 c2 c3 c4 c5 c6
          go_wp2
          go_roundw
          case rel =>
            refine ⟨k + 1, o ++ ⟨#[32]⟩ ++ p, by go_num, by omega, rfl, Lib.hid ?_, ?_, HB5.out⟩
            · rw [HS.out.1, ba_list, ba_list, HO.out, HS.out.2]
              unfold sepV
              rw [HLI.out, if_neg (by decide), if_pos hk0]
            · rw [ByteArray.size_append, ByteArray.size_append]
              have : (⟨#[32]⟩ : ByteArray).size = 1 := rfl
              omega
          case measure => simp [natOf]; omega
        · have g3 : decide ((0 : Int) < (k : Int)) = false := decide_eq_false (by omega)
          go_wp2_with fail
          refine (HT.out _).mono ?_
          rintro e w5 ⟨rfl, hb5⟩
          have HB5 := Lib.hid (t_thr HB.out hb5 HB.out.size)
          clear hb5 HT c0 c1 c2 c3 c4 c5 c6
          go_wp2
          go_roundw
          case rel =>
            refine ⟨k + 1, o ++ p, by go_num, by omega, rfl, Lib.hid ?_, ?_, HB5.out⟩
            · rw [HS.out.1, ba_list, HO.out, HS.out.2]
              unfold sepV
              rw [HLI.out, if_neg (by decide), if_neg hk0]
              simp
            · rw [ByteArray.size_append]
              omega
          case measure => simp [natOf]; omega
    · have g1 : decide ((k : Int) < (len : Int)) = false := decide_eq_false (by omega)
      obtain rfl : k = len := by omega
      have HB := Lib.hid hb
      have HJ : Hid (o = ⟨(joinK l k).toArray⟩) := Lib.hid (ByteArray.ext (Array.ext' (by rw [HO.out])))
      clear hb HO
      go_wp2
      go_ret
      refine ⟨?_, HB.out⟩
      rw [← HJ.out]
      rfl
end Go.Proofs.YthkjdllpgcocpaaGreatDoor
