/-
  The gap of package token at this translation: white space, line terminators and comments ahead of a token.
-/
import Derived.Test.YthkjdllpgcocpaaGreatDoorTByte
import Derived.Test.YthkjdllpgcocpaaGreatDoorShelf
import Derived.Below
import Derived.Lib.IndexMore
import Derived.Lib.IndexBytes
namespace Go.Proofs.YthkjdllpgcocpaaGreatDoor
open Go.RowKit

def MaxL (w : World) : Prop := ∃ m : Int, w.cell? ⟨3, 0, none⟩ = some (.int .i64 m)
theorem maxl_grown {w w' : World} (h : MaxL w) (hb : Below w.heap.size w w') : MaxL w' := by
  obtain ⟨m, hm⟩ := h
  refine ⟨m, ?_⟩
  have hl : 3 < w.heap.size := by
    rcases Nat.lt_or_ge 3 w.heap.size with h' | h'
    · exact h'
    · simp [World.cell?, Array.getElem?_eq_none h'] at hm
  exact (hb.cell (p := ⟨3, 0, none⟩) hl).trans hm

/-- where the gap that begins at offset i ends, and whether its comments end: 0, or 8 if one does not (then the offset is that comment's) -/
def gapV : Nat → List UInt8 → Nat → Nat × Int
  | 0, _, i => (i, 0)
  | n + 1, l, i =>
    if Lib.hasPrefix (l.drop (runLen blkB l)) [47, 47] = true then gapV n ((l.drop (runLen blkB l)).drop (runLen inlB (l.drop (runLen blkB l)))) (i + runLen blkB l + runLen inlB (l.drop (runLen blkB l)))
    else if Lib.hasPrefix (l.drop (runLen blkB l)) [47, 42] = true then
      if Lib.index ((l.drop (runLen blkB l)).drop 2) [42, 47] < 0 then (i + runLen blkB l, 8)
      else gapV n ((l.drop (runLen blkB l)).drop ((Lib.index ((l.drop (runLen blkB l)).drop 2) [42, 47]).toNat + 4)) (i + runLen blkB l + ((Lib.index ((l.drop (runLen blkB l)).drop 2) [42, 47]).toNat + 4))
    else (i + runLen blkB l, 0)
theorem gap_step (L : List UInt8) (n j k : Nat) (hk : k = j + runLen blkB (L.drop j)) : gapV (n + 1) (L.drop j) j =
    if Lib.hasPrefix (L.drop k) [47, 47] = true then gapV n (L.drop (k + runLen inlB (L.drop k))) (k + runLen inlB (L.drop k))
    else if Lib.hasPrefix (L.drop k) [47, 42] = true then
      if Lib.index (L.drop (k + 2)) [42, 47] < 0 then (k, 8)
      else gapV n (L.drop (k + ((Lib.index (L.drop (k + 2)) [42, 47]).toNat + 4))) (k + ((Lib.index (L.drop (k + 2)) [42, 47]).toNat + 4))
    else (k, 0) := by
  subst hk
  simp only [gapV, List.drop_drop]
theorem pre2 {l : List UInt8} {a b : UInt8} (h : Lib.hasPrefix l [a, b] = true) : ∃ t, l = a :: b :: t := by
  match l with
  | [] => simp [Lib.hasPrefix, List.isPrefixOf] at h
  | [x] => simp [Lib.hasPrefix, List.isPrefixOf] at h
  | x :: y :: t =>
    simp [Lib.hasPrefix, List.isPrefixOf] at h
    obtain ⟨rfl, rfl⟩ := h
    exact ⟨t, rfl⟩
theorem inl_two {l : List UInt8} (h : Lib.hasPrefix l [47, 47] = true) : 2 ≤ runLen inlB l := by
  obtain ⟨t, rfl⟩ := pre2 h
  rw [run_yes (by decide), run_yes (by decide)]
  omega
theorem pre_len {l : List UInt8} {a b : UInt8} (h : Lib.hasPrefix l [a, b] = true) : 2 ≤ l.length := by
  obtain ⟨t, rfl⟩ := pre2 h
  simp
theorem prefix_at (s p : ByteArray) (k : Nat) (b : Bool) (hb : Lib.hasPrefix (s.data.toList.drop k) p.data.toList = b) (W : World) :
    Calls Tryz.prog 64 #[.string (s.extract k s.size), .string p] W fun e w' => e = .returned (.bool b) ∧ W = w' := by
  refine (Tryz.strings_HasPrefix (s.extract k s.size) p W).mono ?_
  rintro e w' ⟨rfl, rfl⟩
  exact ⟨by rw [Lib.extract_to_end, hb], rfl⟩
theorem index_at (s p : ByteArray) (k : Nat) (z : Int) (hs : s.size ≤ 4000000) (hz : Lib.index (s.data.toList.drop k) p.data.toList = z) (W : World) (hm : MaxL W) :
    Calls Tryz.prog 66 #[.string (s.extract k s.size), .string p] W fun e w' => e = .returned (.int .i64 z) ∧ W = w' := by
  obtain ⟨m, hm⟩ := hm
  refine (Tryz.strings_Index (s.extract k s.size) p m W (by rw [ByteArray.size_extract]; omega) hm).mono ?_
  rintro e w' ⟨rfl, rfl⟩
  exact ⟨by rw [Lib.extract_to_end, hz], rfl⟩
def gapR (r : Nat × Int) : Ending := .returned (.tuple #[.int .i64 r.1, .int .i64 r.2])

set_option maxRecDepth 100000 in
set_option maxHeartbeats 2000000 in
theorem gap_any (s : ByteArray) (a : Nat) (w : World) (hs : s.size ≤ 4000000) (ha : a ≤ s.size) (hm : MaxL w) :
    Calls Tryz.prog 44 #[.string s, .int .i64 a] w fun e w' => e = gapR (gapV (s.size + 1) (s.data.toList.drop a) a) ∧ w = w' := by
  obtain ⟨R, hR⟩ : ∃ R, R = gapV (s.size + 1) (s.data.toList.drop a) a := ⟨_, rfl⟩
  rw [← hR]
  have HR := Lib.hid hR
  clear hR
  have HM := Lib.hid hm
  clear hm
  go_enter Tryz.func44, Tryz.ntmps44
  go_wp2_with fail
  go_loop [1] (fun v => ∃ j n : Nat, v = .int .i64 j ∧ j ≤ s.size ∧ s.size < j + n ∧ R = gapV n (s.data.toList.drop j) j) (fun v => s.size - (intOf v).toNat)
  case atStart => exact ⟨a, s.size + 1, rfl, ha, by omega, HR.out⟩
  case round =>
    obtain ⟨j, n, rfl, hj, hn, hRj⟩ := hrel
    clear HR ha
    cases n with
    | zero => omega
    | succ n =>
      obtain ⟨k, hk⟩ : ∃ k, k = j + runLen blkB (s.data.toList.drop j) := ⟨_, rfl⟩
      rw [gap_step _ n j k hk] at hRj
      have hkj : j ≤ k := by omega
      have hks : k ≤ s.size := by
        have h1 := run_le blkB (s.data.toList.drop j)
        have h2 : (s.data.toList.drop j).length = s.size - j := by simp
        omega
      have HS := Lib.hid (fun W => skip_blank s j W hs hj)
      rw [← hk] at HS
      have hlen : (s.data.toList.drop k).length = s.size - k := by simp
      clear hk
      cases h1 : Lib.hasPrefix (s.data.toList.drop k) [47, 47] with
      | true =>
        rw [if_pos h1] at hRj
        have h2 := inl_two h1
        have h3 := run_le inlB (s.data.toList.drop k)
        have HP := Lib.hid (fun W => prefix_at s ⟨#[47, 47]⟩ k true h1 W)
        have HI := Lib.hid (fun W => skip_inl s k W hs hks)
        obtain ⟨q, hq⟩ : ∃ q, q = k + runLen inlB (s.data.toList.drop k) := ⟨_, rfl⟩
        rw [← hq] at HI hRj
        have hqs : q ≤ s.size := by omega
        have hqj : j < q := by omega
        have HJ := Lib.hid hRj
        clear hRj h1 h2 h3 hq hlen
        go_wp2_with fail
        refine (HS.out _).mono ?_
        rintro e w' ⟨rfl, rfl⟩
        go_wp2_with fail
        refine (HP.out _).mono ?_
        rintro e w' ⟨rfl, rfl⟩
        go_wp2_with fail
        refine (HI.out _).mono ?_
        rintro e w' ⟨rfl, rfl⟩
        go_wp2
        go_round
        case rel => exact ⟨q, n, rfl, hqs, by omega, HJ.out⟩
        case measure => simp [intOf]; omega
      | false =>
        rw [if_neg (by simp [h1])] at hRj
        have HP := Lib.hid (fun W => prefix_at s ⟨#[47, 47]⟩ k false h1 W)
        clear h1
        cases h2 : Lib.hasPrefix (s.data.toList.drop k) [47, 42] with
        | true =>
          rw [if_pos h2] at hRj
          have h3 := pre_len h2
          have hk2 : k + 2 ≤ s.size := by omega
          have HQ := Lib.hid (fun W => prefix_at s ⟨#[47, 42]⟩ k true h2 W)
          have hge := Lib.index_ge (s.data.toList.drop (k + 2)) [42, 47]
          have hroom := Lib.index_room (s.data.toList.drop (k + 2)) [42, 47]
          have hl2 : (s.data.toList.drop (k + 2)).length = s.size - (k + 2) := by simp
          rw [hl2] at hroom
          obtain ⟨z, hz⟩ : ∃ z, Lib.index (s.data.toList.drop (k + 2)) [42, 47] = z := ⟨_, rfl⟩
          rw [hz] at hRj hge hroom
          have HX := Lib.hid (index_at s ⟨#[42, 47]⟩ (k + 2) z hs hz)
          clear hz h2 h3 hlen hl2
          by_cases hz0 : z < 0
          · rw [if_pos hz0] at hRj
            have HE := Lib.hid hRj
            clear hRj hroom hge
            go_wp2_with fail
            refine (HS.out _).mono ?_
            rintro e w' ⟨rfl, rfl⟩
            go_wp2_with fail
            refine (HP.out _).mono ?_
            rintro e w' ⟨rfl, rfl⟩
            go_wp2_with fail
            refine (HQ.out _).mono ?_
            rintro e w' ⟨rfl, rfl⟩
            go_wp2_with fail
            refine (HX.out _ HM.out).mono ?_
            rintro e w' ⟨rfl, rfl⟩
            go_wp2
            go_ret2
            exact ⟨by rw [HE.out]; rfl, rfl⟩
          · rw [if_neg hz0] at hRj
            have hr := hroom (by omega)
            simp at hr
            obtain ⟨m, rfl⟩ : ∃ m : Nat, z = m := ⟨z.toNat, by omega⟩
            rw [Int.toNat_natCast] at hRj
            have hq : k + (m + 4) ≤ s.size := by omega
            have HJ := Lib.hid hRj
            clear hRj hroom hge hr
            go_wp2_with fail
            refine (HS.out _).mono ?_
            rintro e w' ⟨rfl, rfl⟩
            go_wp2_with fail
            refine (HP.out _).mono ?_
            rintro e w' ⟨rfl, rfl⟩
            go_wp2_with fail
            refine (HQ.out _).mono ?_
            rintro e w' ⟨rfl, rfl⟩
            go_wp2_with fail
            refine (HX.out _ HM.out).mono ?_
            rintro e w' ⟨rfl, rfl⟩
            go_wp2
            go_round
            case rel => exact ⟨k + (m + 4), n, by go_num, hq, by omega, HJ.out⟩
            case measure => simp [intOf]; omega
        | false =>
          rw [if_neg (by simp [h2])] at hRj
          have HQ := Lib.hid (fun W => prefix_at s ⟨#[47, 42]⟩ k false h2 W)
          have HE := Lib.hid hRj
          clear hRj h2 hlen
          go_wp2_with fail
          refine (HS.out _).mono ?_
          rintro e w' ⟨rfl, rfl⟩
          go_wp2_with fail
          refine (HP.out _).mono ?_
          rintro e w' ⟨rfl, rfl⟩
          go_wp2_with fail
          refine (HQ.out _).mono ?_
          rintro e w' ⟨rfl, rfl⟩
          go_wp2
          go_ret2
          exact ⟨by rw [HE.out]; rfl, rfl⟩
end Go.Proofs.YthkjdllpgcocpaaGreatDoor
