/-
  pieceByte of package token at this translation.
-/
import Derived.Test.YthkjdllpgcocpaaGreatDoorWRJoin
namespace Go.Proofs.YthkjdllpgcocpaaGreatDoor
open Go.RowKit

theorem strc {s : ByteArray} {L : List Int} (h : s.data.toList = L.map byt) (hb : ∀ x ∈ L, 0 ≤ x ∧ x ≤ 255) : Lib.strCells s = L.map (Value.int .u8) := by
  have e : Lib.strCells s = Lib.byteCells s.data.toList := rfl
  rw [e, h, byt_cells _ hb]
theorem pI_b (c : Int) (h0 : 0 ≤ c) (h1 : c ≤ 255) : ∀ x ∈ pI c, 0 ≤ x ∧ x ≤ 255 := by
  intro x hx
  unfold pI at hx
  by_cases a : c = 96 ∨ c = 36
  · rw [if_pos a] at hx
    simp at hx
    omega
  rw [if_neg a] at hx
  by_cases b : c = 34
  · rw [if_pos b] at hx
    simp at hx
    omega
  rw [if_neg b] at hx
  exact qI_b c h0 h1 x hx
theorem lt_heap {w : World} {b : Nat} {o : Obj} (h : w.heap[b]? = some o) : b < w.heap.size := by
  rcases Nat.lt_or_ge b w.heap.size with h' | h'
  · exact h'
  · rw [Array.getElem?_eq_none h'] at h; cases h
theorem isB_kept {B b : Nat} {bs : List Value} {w w1 : World} (h : Lib.IsBuilder 53 5 B b bs w) (hb : Below w.heap.size w w1) : Lib.IsBuilder 53 5 B b bs w1 := by
  rcases h with ⟨hB, v, hbk, hown, hne⟩ | ⟨hB, v, hbk, hown, hne⟩
  · exact .inl ⟨hB, v, (hb.block b (lt_heap hbk)).trans hbk, own_below hown hb, hne⟩
  · exact .inr ⟨hB, v, (hb.block b (lt_heap hbk)).trans hbk, own_below hown hb, hne⟩
theorem one_list {p : ByteArray} {x : UInt8} (h : p.data.toList = [x]) : p.size = 1 := by
  have : p.data.toList.length = p.size := by rw [Array.length_toList]; rfl
  rw [h] at this
  exact this.symm
set_option linter.unusedVariables false in
set_option maxRecDepth 100000 in
set_option maxHeartbeats 1000000 in
theorem pieceByte_any (B b : Nat) (bs : List Value) (p : ByteArray) (x : UInt8) (w : World) (hp : p.data.toList = [x]) (h : Lib.IsBuilder 53 5 B b bs w) (hlen : bs.length + 4 ≤ 100000000000) (hBw : B ≤ w.heap.size) :
    Calls Tryz.prog 41 #[.pointer (some ⟨b, 0, none⟩), .string p] w fun e w' => e = .returned (.tuple #[]) ∧ Lib.IsBuilder 53 5 B b (bs ++ (pI x.toNat).map (Value.int .u8)) w' ∧ Below B w w' := by
  have hz := one_list hp
  have hpl : p.toList = [x] := by rw [ByteArray.toList_eq, hp]
  have hx0 : (0 : Int) ≤ x.toNat ∧ (x.toNat : Int) ≤ 255 := by have := x.toNat_lt; omega
  have hb := pI_b x.toNat hx0.1 hx0.2
  by_cases c1 : x = 96 ∨ x = 36
  · have hI : pI x.toNat = [92, (x.toNat : Int)] := by
      unfold pI
      rw [if_pos (by rcases c1 with rfl | rfl <;> simp)]
    rw [hI] at hb ⊢
    have hsz : (⟨#[92]⟩ : ByteArray).size = 1 := rfl
    have hS : Lib.strCells (⟨#[92]⟩ ++ p) = [92, (x.toNat : Int)].map (Value.int .u8) := strc (by simp [hp, byt]) hb
    have hzz : (⟨#[92]⟩ ++ p : ByteArray).size = 2 := by rw [ByteArray.size_append, hz]; rfl
    have HH := Lib.hid (And.intro hS hzz)
    clear hS hzz hI hb
    rcases c1 with rfl | rfl
    · have g1 : (p.toList == [96]) = true := by rw [hpl]; rfl
      clear hpl hp
      go_enter Tryz.func41, Tryz.ntmps41
      go_wp2_with fail
      refine (writeString_any B b bs _ _ h (by rw [HH.out.2]; omega) hBw).mono ?_
      rintro e w1 ⟨rfl, hB1, hb1⟩
      go_wp2
      go_end0
      exact ⟨rfl, isB_eq (Or.inr hB1) (by rw [HH.out.1]), hb1⟩
    · have g1 : (p.toList == [96]) = false := by rw [hpl]; rfl
      have g2 : (p.toList == [36]) = true := by rw [hpl]; rfl
      clear hpl hp
      go_enter Tryz.func41, Tryz.ntmps41
      go_wp2_with fail
      refine (writeString_any B b bs _ _ h (by rw [HH.out.2]; omega) hBw).mono ?_
      rintro e w1 ⟨rfl, hB1, hb1⟩
      go_wp2
      go_end0
      exact ⟨rfl, isB_eq (Or.inr hB1) (by rw [HH.out.1]), hb1⟩
  · have n1 : ¬ ((x.toNat : Int) = 96 ∨ (x.toNat : Int) = 36) := by
      intro e
      apply c1
      rcases e with e | e
      · left; exact UInt8.toNat_inj.1 (by have : x.toNat = 96 := by omega
                                          rw [this]; rfl)
      · right; exact UInt8.toNat_inj.1 (by have : x.toNat = 36 := by omega
                                           rw [this]; rfl)
    have g1 : (p.toList == [96]) = false := by rw [hpl]; simp; intro e; exact c1 (.inl e)
    have g2 : (p.toList == [36]) = false := by rw [hpl]; simp; intro e; exact c1 (.inr e)
    by_cases c2 : x = 34
    · subst c2
      have hI : pI (34 : UInt8).toNat = [34] := by rfl
      rw [hI] at hb ⊢
      have hS : Lib.strCells p = [34].map (Value.int .u8) := strc (by rw [hp]; rfl) hb
      have g3 : (p.toList == [34]) = true := by rw [hpl]; rfl
      have HH := Lib.hid hS
      clear hS hb hpl hp hI
      go_enter Tryz.func41, Tryz.ntmps41
      go_wp2_with fail
      refine (writeString_any B b bs _ _ h (by omega) hBw).mono ?_
      rintro e w1 ⟨rfl, hB1, hb1⟩
      go_wp2
      go_end0
      exact ⟨rfl, isB_eq (Or.inr hB1) (by rw [HH.out]), hb1⟩
    · have n2 : ¬ (x.toNat : Int) = 34 := by
        intro e
        apply c2
        exact UInt8.toNat_inj.1 (by have : x.toNat = 34 := by omega
                                    rw [this]; rfl)
      have g3 : (p.toList == [34]) = false := by rw [hpl]; simp; exact c2
      have hI : pI x.toNat = qI x.toNat := by
        unfold pI
        rw [if_neg n1, if_neg n2]
      rw [hI] at hb ⊢
      have hql := qI_len x.toNat
      obtain ⟨L, hL⟩ : ∃ L, L = qI x.toNat := ⟨_, rfl⟩
      have hQ : Hid (∀ W, Calls Tryz.prog 21 #[.string p] W fun e w' => e = .returned (.string ⟨(34 :: (L.map byt ++ [34])).toArray⟩) ∧ Below W.heap.size W w') := Lib.hid (fun W => by
        have H := quote_any p W (by omega)
        rw [hp] at H
        have e : quoteL [x] = 34 :: (L.map byt ++ [34]) := by
          unfold quoteL qL
          rw [hL]
          simp
        rw [e] at H
        exact H)
      rw [← hL] at hb hql ⊢
      obtain ⟨q, hq⟩ : ∃ q : ByteArray, q = ⟨(34 :: (L.map byt ++ [34])).toArray⟩ := ⟨_, rfl⟩
      rw [← hq] at hQ
      have hqz : q.size = L.length + 2 := by rw [hq]; simp [ByteArray.size]
      have hqx : (q.extract 1 (L.length + 1)).data.toList = L.map byt := by
        rw [Lib.extract_data, hq]
        simp
      have hS : Lib.strCells (q.extract 1 (L.length + 1)) = L.map (Value.int .u8) := strc hqx hb
      have hzz : (q.extract 1 (L.length + 1)).size = L.length := by simp [hqz]
      have HH := Lib.hid (And.intro hS hzz)
      clear hS hzz hqx hq hL hI hb hpl hp n1 n2 c1 c2
      go_enter Tryz.func41, Tryz.ntmps41
      go_wp2_with fail
      refine (hQ.out _).mono ?_
      rintro e w1 ⟨rfl, hb1⟩
      have h1 := isB_kept h hb1
      have hBw1 : B ≤ w1.heap.size := by have := hb1.size; omega
      have hbB : Below B w w1 := hb1.mono hBw
      clear hb1 h
      go_wp2_with fail
      refine (writeString_any B b bs _ _ h1 (by rw [HH.out.2]; omega) hBw1).mono ?_
      rintro e w2 ⟨rfl, hB2, hb2⟩
      go_wp2
      go_end0
      exact ⟨rfl, isB_eq (Or.inr hB2) (by rw [HH.out.1]), hbB.trans hb2⟩
end Go.Proofs.YthkjdllpgcocpaaGreatDoor
