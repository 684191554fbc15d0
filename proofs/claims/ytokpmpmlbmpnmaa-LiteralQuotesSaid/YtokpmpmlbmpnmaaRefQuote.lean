/-
  What the reference's Quote answers at this translation: for every string of at most 4000000 bytes: the same plain function of the bytes as the program's.
-/
import Derived.Test.YtokpmpmlbmpnmaaQuote
namespace Go.Proofs.Ytokpmpmlbmpnmaa
open Go.RowKit

theorem cat_size (o p : ByteArray) : (o ++ p).size = o.size + p.size := by simp
theorem one_size (s : ByteArray) (k : Nat) (h : k < s.size) : (s.extract k (k + 1)).size = 1 := by simp; omega
theorem one_data (s : ByteArray) (k : Nat) (h : k < s.size) : (s.extract k (k + 1)).data.toList = [s[k]] := by
  rw [Lib.extract_data, drop_at s k h]
  simp
theorem byt_id' (c : UInt8) : byt (c.toNat : Int) = c := by
  apply UInt8.toNat_inj.1
  have := byt_val (c.toNat : Int) (by omega) (by have := c.toNat_lt; omega)
  omega
theorem cat_le (o p : ByteArray) (k : Nat) (h : o.size ≤ 4 * k + 1) (hp : p.size ≤ 4) : (o ++ p).size ≤ 4 * (k + 1) + 1 := by rw [cat_size]; omega
theorem cat_le2 (o p q : ByteArray) (k : Nat) (h : o.size ≤ 4 * k + 1) (hp : p.size ≤ 3) (hq : q.size ≤ 1) : (o ++ p ++ q).size ≤ 4 * (k + 1) + 1 := by rw [cat_size, cat_size]; omega
theorem step_q2 (l : List UInt8) (c : UInt8) (o p q : ByteArray) (ho : o.data.toList = 34 :: qL l) (hp : (qI c.toNat).map byt = p.data.toList ++ q.data.toList) : (o ++ p ++ q).data.toList = 34 :: qL (l ++ [c]) := by
  rw [qL_snoc, hp]
  simp [ho]
def hexS : ByteArray := ⟨#[48, 49, 50, 51, 52, 53, 54, 55, 56, 57, 97, 98, 99, 100, 101, 102]⟩
theorem hex_extF : ∀ m : Fin 16, (hexS.extract m.val (m.val + 1)).data.toList = [byt (hexD (m.val : Int))] := by decide +kernel
theorem hex_ext (m : Nat) (h : m < 16) : ((⟨#[48, 49, 50, 51, 52, 53, 54, 55, 56, 57, 97, 98, 99, 100, 101, 102]⟩ : ByteArray).extract m (m + 1)).data.toList = [byt (hexD (m : Int))] := hex_extF ⟨m, h⟩
theorem hex_ext_z (m : Nat) (h : m < 16) : ((⟨#[48, 49, 50, 51, 52, 53, 54, 55, 56, 57, 97, 98, 99, 100, 101, 102]⟩ : ByteArray).extract m (m + 1)).size ≤ 1 := by
  have e := hex_ext m h
  have z : ∀ b : ByteArray, b.data.toList.length = b.size := fun b => by simp
  rw [← z, e]
  simp
theorem cat_le3 (o p q r : ByteArray) (k : Nat) (h : o.size ≤ 4 * k + 1) (hp : p.size ≤ 2) (hq : q.size ≤ 1) (hr : r.size ≤ 1) : (o ++ p ++ q ++ r).size ≤ 4 * (k + 1) + 1 := by rw [cat_size, cat_size, cat_size]; omega
theorem step_q3 (l : List UInt8) (c : UInt8) (o p q r : ByteArray) (ho : o.data.toList = 34 :: qL l) (hp : (qI c.toNat).map byt = p.data.toList ++ q.data.toList ++ r.data.toList) : (o ++ p ++ q ++ r).data.toList = 34 :: qL (l ++ [c]) := by
  rw [qL_snoc, hp]
  simp [ho]
theorem fin_q (l : List UInt8) (o : ByteArray) (ho : o.data.toList = 34 :: qL l) : o ++ ⟨#[34]⟩ = ⟨(quoteL l).toArray⟩ := by
  obtain ⟨d⟩ := o
  have e : ((⟨d⟩ : ByteArray) ++ ⟨#[34]⟩).data.toList = quoteL l := by
    simp only [ByteArray.data_append, Array.toList_append]
    rw [ho]
    rfl
  rw [← e]
theorem ret_s {a b : ByteArray} (h : a = b) : Ending.returned (.string a) = .returned (.string b) := by rw [h]
theorem step_q (l : List UInt8) (c : UInt8) (o p : ByteArray) (ho : o.data.toList = 34 :: qL l) (hp : p.data.toList = (qI c.toNat).map byt) : (o ++ p).data.toList = 34 :: qL (l ++ [c]) := by
  rw [qL_snoc]
  simp [ho, hp]

set_option maxHeartbeats 4000000 in
set_option maxRecDepth 100000 in
theorem refquote_any (s : ByteArray) (w : World) (hs : s.size ≤ 4000000) :
    Calls Try.prog 5 #[.string s] w fun e w' => e = .returned (.string ⟨(quoteL s.data.toList).toArray⟩) ∧ Below w.heap.size w w' := by
  go_enter Try.func5, Try.ntmps5
  go_wp2
  go_loopw [4, 5] (fun v i wr => ∃ (k : Nat) (o : ByteArray), i = .int .i64 k ∧ v = .string o ∧ k ≤ s.size ∧ o.data.toList = 34 :: qL (s.data.toList.take k) ∧ o.size ≤ 4 * k + 1 ∧ Below w.heap.size w wr) (fun _ i _ => s.size - (intOf i).toNat)
  case atStart => exact ⟨0, ⟨#[34]⟩, by go_num, rfl, by omega, rfl, by decide, Below.refl _ w⟩
  case round =>
    obtain ⟨k, o, rfl, rfl, hk, ho, hoz, hbw⟩ := hrel
    have HO := Lib.hid ho
    clear ho
    by_cases hks : k < s.size
    · obtain ⟨c, hc⟩ : ∃ c : UInt8, s[k] = c := ⟨_, rfl⟩
      have hts := take_snoc s k hks
      rw [hc] at hts
      have HT := Lib.hid hts
      have h1 := one_data s k hks
      rw [hc] at h1
      have H1 := Lib.hid h1
      have hz1 := one_size s k hks
      have HZ := Lib.hid hz1
      clear hts h1 hz1
      have c0 : (0 : Int) ≤ c.toNat := by omega
      have c1 : (c.toNat : Int) ≤ 255 := by have := c.toNat_lt; omega
      by_cases e10 : (c.toNat : Int) = 10
      · have t10 := beq_t e10
        have hq : qI c.toNat = [92, 110] := by rw [e10]; rfl
        have HQ := Lib.hid hq
        clear hq e10
        go_wp2
        go_roundw
        case rel =>
          refine ⟨k + 1, _, by go_num, rfl, by omega, ?_, cat_le _ _ _ hoz (by decide), hbw⟩
          rw [HT.out]
          exact step_q _ _ _ _ HO.out (by rw [HQ.out]; rfl)
        case measure => simp [intOf]; omega
      · have t10 := beq_f e10
        by_cases e9 : (c.toNat : Int) = 9
        · have t9 := beq_t e9
          have hq : qI c.toNat = [92, 116] := by rw [e9]; rfl
          have HQ := Lib.hid hq
          clear hq e9 e10
          go_wp2
          go_roundw
          case rel =>
            refine ⟨k + 1, _, by go_num, rfl, by omega, ?_, cat_le _ _ _ hoz (by decide), hbw⟩
            rw [HT.out]
            exact step_q _ _ _ _ HO.out (by rw [HQ.out]; rfl)
          case measure => simp [intOf]; omega
        · have t9 := beq_f e9
          by_cases e13 : (c.toNat : Int) = 13
          · have t13 := beq_t e13
            have hq : qI c.toNat = [92, 114] := by rw [e13]; rfl
            have HQ := Lib.hid hq
            clear hq e13 e10 e9
            go_wp2
            go_roundw
            case rel =>
              refine ⟨k + 1, _, by go_num, rfl, by omega, ?_, cat_le _ _ _ hoz (by decide), hbw⟩
              rw [HT.out]
              exact step_q _ _ _ _ HO.out (by rw [HQ.out]; rfl)
            case measure => simp [intOf]; omega
          · have t13 := beq_f e13
            by_cases e0 : (c.toNat : Int) = 0
            · have t0 := beq_t e0
              have hq : qI c.toNat = [92, 48] := by rw [e0]; rfl
              have HQ := Lib.hid hq
              clear hq e0 e10 e9 e13
              go_wp2
              go_roundw
              case rel =>
                refine ⟨k + 1, _, by go_num, rfl, by omega, ?_, cat_le _ _ _ hoz (by decide), hbw⟩
                rw [HT.out]
                exact step_q _ _ _ _ HO.out (by rw [HQ.out]; rfl)
              case measure => simp [intOf]; omega
            · have t0 := beq_f e0
              by_cases e34 : (c.toNat : Int) = 34
              · have t34 := beq_t e34
                have hq : qI c.toNat = [92, 34] := by rw [e34]; rfl
                have hcc : byt 34 = c := by rw [← e34, byt_id']
                have HQ := Lib.hid hq
                have HCC := Lib.hid hcc
                clear hq e34 e10 e9 e13 e0 hcc
                go_wp2
                go_roundw
                case rel =>
                  refine ⟨k + 1, _, by go_num, rfl, by omega, ?_, cat_le2 _ _ _ _ hoz (by decide) (by have := HZ.out; omega), hbw⟩
                  rw [HT.out]
                  exact step_q2 _ _ _ _ _ HO.out (by rw [HQ.out, H1.out, ← HCC.out]; rfl)
                case measure => simp [intOf]; omega
              · have t34 := beq_f e34
                by_cases e92 : (c.toNat : Int) = 92
                · have t92 := beq_t e92
                  have hq : qI c.toNat = [92, 92] := by rw [e92]; rfl
                  have hcc : byt 92 = c := by rw [← e92, byt_id']
                  have HQ := Lib.hid hq
                  have HCC := Lib.hid hcc
                  clear hq e92 e34 e10 e9 e13 e0 hcc
                  go_wp2
                  go_roundw
                  case rel =>
                    refine ⟨k + 1, _, by go_num, rfl, by omega, ?_, cat_le2 _ _ _ _ hoz (by decide) (by have := HZ.out; omega), hbw⟩
                    rw [HT.out]
                    exact step_q2 _ _ _ _ _ HO.out (by rw [HQ.out, H1.out, ← HCC.out]; rfl)
                  case measure => simp [intOf]; omega
                · have t92 := beq_f e92
                  have hs0 : shtV c.toNat = 0 := by unfold shtV; rw [if_neg e10, if_neg e9, if_neg e13, if_neg e0, if_neg e34, if_neg e92]
                  by_cases hp : 32 ≤ (c.toNat : Int) ∧ (c.toNat : Int) ≤ 126
                  · have hq : qI c.toNat = [(c.toNat : Int)] := by unfold qI; rw [if_neg (by simpa using hs0), if_pos hp]
                    have HQ := Lib.hid hq
                    obtain ⟨p0, p1⟩ := hp
                    clear hq hs0 e92 e34 e10 e9 e13 e0
                    go_wp2
                    go_roundw
                    case rel =>
                      refine ⟨k + 1, _, by go_num, rfl, by omega, ?_, cat_le _ _ _ hoz (by have := HZ.out; omega), hbw⟩
                      rw [HT.out]
                      exact step_q _ _ _ _ HO.out (by rw [HQ.out, H1.out]; simp [byt_id'])
                    case measure => simp [intOf]; omega
                  · have hq : qI c.toNat = [92, 120, hexD (c.toNat / 16), hexD (c.toNat % 16)] := by unfold qI; rw [if_neg (by simpa using hs0), if_neg hp]
                    have HQ := Lib.hid hq
                    have hp2 : (c.toNat : Int) < 32 ∨ 126 < (c.toNat : Int) := by omega
                    clear hq hs0 e92 e34 e10 e9 e13 e0 hp
                    rcases hp2 with hp | hp
                    all_goals
                      go_wp2
                      go_quiet (fail)
                      go_wp2
                      go_roundw
                      case rel =>
                        refine ⟨k + 1, _, by go_num, rfl, by omega, ?_, cat_le3 _ _ _ _ _ hoz (by decide) (hex_ext_z _ (by omega)) (hex_ext_z _ (by omega)), below_drawn hbw _⟩
                        rw [HT.out]
                        exact step_q3 _ _ _ _ _ _ HO.out (by rw [HQ.out, hex_ext _ (by omega), hex_ext _ (by omega)]; rfl)
                      case measure => simp [intOf]; omega
    · obtain rfl : k = s.size := by omega
      have ht : s.data.toList.take s.size = s.data.toList := List.take_of_length_le (by simp)
      have HT := Lib.hid ht
      clear ht
      go_wp2
      go_ret
      refine ⟨?_, hbw⟩
      have ho2 := HO.out
      rw [HT.out] at ho2
      exact ret_s (fin_q _ _ ho2)
end Go.Proofs.Ytokpmpmlbmpnmaa
