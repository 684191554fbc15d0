/-
  A token's own bytes are tokenized to that token.
-/
import Derived.Test.YtjbnobcnlmkbmaaDoorLoc
namespace Go.Proofs.YtjbnobcnlmkbmaaDoor
open Go.RowKit

theorem ex_list (s : ByteArray) (k e : Nat) : (s.extract k e).data.toList = (s.data.toList.drop k).take (e - k) := by
  simp [ByteArray.data_extract, Array.toList_extract, List.extract_eq_take_drop]
theorem ex_size (s : ByteArray) (k e : Nat) (h : e ≤ s.size) : (s.extract k e).size = e - k := by
  rw [ByteArray.size_extract]
  omega
theorem ex_first (s : ByteArray) (k e : Nat) (hk : k < e) (he : e ≤ s.size) (h : 0 < (s.extract k e).size) : (s.extract k e)[0]'h = s[k]'(by omega) := by
  have h1 : (s.extract k e).data.toList[0]? = some ((s.extract k e)[0]'h) := by
    rw [List.getElem?_eq_getElem (by rw [Array.length_toList]; exact h)]
    rfl
  rw [ex_list, drop_cons s k (by omega), take_c (by omega)] at h1
  simpa using h1.symm
theorem ex_rest (s : ByteArray) (k e : Nat) (hk : k < e) (he : e ≤ s.size) : (s.extract k e).data.toList.drop 1 = (s.data.toList.drop (k + 1)).take (e - (k + 1)) := by
  rw [ex_list, drop_cons s k (by omega), take_c (by omega), List.drop_succ_cons, List.drop_zero]
  congr 1
theorem ex_self (t : ByteArray) (m : Nat) (h : m = t.size) : t.extract 0 m = t := by
  subst h
  apply ByteArray.ext
  simp
theorem read_self (s : ByteArray) (k : Nat) (tail : Bool) (hk : k < s.size) (h : (readT s k tail).err = 0) : ∃ e : Nat, (readT s k tail).to = e ∧ k < e ∧ e ≤ s.size ∧
    readT (s.extract k e) 0 ((readT s k tail).kind == 6 && (readT s k tail).n == 1) = ⟨(readT s k tail).kind, ((e - k : Nat) : Int), (readT s k tail).n, (readT s k tail).s, (readT s k tail).o, 0⟩ := by
  have hb := read_to s k tail hk h
  obtain ⟨e, he⟩ : ∃ e : Nat, (readT s k tail).to = e := ⟨(readT s k tail).to.toNat, by omega⟩
  rw [he] at hb
  have h1 : k < e := by omega
  have h2 : e ≤ s.size := by omega
  refine ⟨e, he, h1, h2, ?_⟩
  have hsz := ex_size s k e h2
  have h0 : 0 < (s.extract k e).size := by omega
  obtain ⟨c, hc⟩ : ∃ c : UInt8, s[k] = c := ⟨_, rfl⟩
  have hf : (s.extract k e)[0]'h0 = c := by rw [ex_first s k e h1 h2 h0, hc]
  rw [readT_at (s.extract k e) 0 _ c h0 hf]
  rw [readT_at s k tail c hk hc] at h he ⊢
  unfold readC at h he ⊢
  clear hb
  by_cases l1 : letB c.toNat = true
  · rw [if_pos l1] at h he ⊢
    rw [if_pos l1]
    have hE : nameE s k = e := by
      have : ((nameE s k : Nat) : Int) = (e : Int) := he
      omega
    have hI : idLen (s.data.toList.drop (k + 1)) = e - (k + 1) := by unfold nameE at hE; omega
    have hE' : nameE (s.extract k e) 0 = e - k := by
      unfold nameE
      rw [Nat.zero_add, ex_rest s k e h1 h2, idl_take _ _ (by omega), hI]
      omega
    unfold nameT
    rw [hE', hE, ex_self _ _ hsz.symm]
  · rw [if_neg l1] at h he ⊢
    rw [if_neg l1]
    by_cases l2 : digB c.toNat = true
    · rw [if_pos l2] at h he ⊢
      rw [if_pos l2]
      rw [numT_eq] at h he ⊢
      rw [numT_eq]
      have hE : numE s k = e := by
        unfold nmR at h he
        split at he
        · rename_i hz
          rw [if_pos hz] at h
          simp [noT] at h
        · rename_i hz
          rw [if_neg hz] at h
          split at he
          · have : ((numE s k : Nat) : Int) = (e : Int) := he
            omega
          · rename_i hv
            rw [hv] at h
            simp [noT] at h
      have hI : runLen idcB (s.data.toList.drop k) = e - k := by unfold numE at hE; omega
      have hE' : numE (s.extract k e) 0 = e - k := by
        unfold numE
        rw [List.drop_zero, ex_list, run_take _ _ _ (by omega), hI]
        omega
      rw [hE', hE, ex_self _ _ hsz.symm]
      rw [hE] at h
      unfold nmR at h ⊢
      split
      · rename_i hz
        rw [if_pos hz] at h
        simp [noT] at h
      · rename_i hz
        rw [if_neg hz] at h
        split
        · rfl
        · rename_i hv
          rw [hv] at h
          simp [noT] at h
    · rw [if_neg l2] at h he ⊢
      rw [if_neg l2]
      by_cases l3 : (c.toNat : Int) = 39 ∨ (c.toNat : Int) = 34
      · rw [if_pos l3] at h he ⊢
        rw [if_pos l3]
        unfold textT at h he ⊢
        by_cases hz : (rdV c s.size (s.data.toList.drop (k + 1)) (k + 1) []).2.2 = 0
        · rw [if_pos hz] at he ⊢
          have hE : (rdV c s.size (s.data.toList.drop (k + 1)) (k + 1) []).2.1 = e := by
            have : (((rdV c s.size (s.data.toList.drop (k + 1)) (k + 1) []).2.1 : Nat) : Int) = (e : Int) := he
            omega
          have hrt := rd_take c _ _ _ _ hz (s.extract k e).size 1 (e - (k + 1)) (by rw [hE]) (by omega)
          rw [Nat.zero_add, ex_rest s k e h1 h2, hrt, if_pos rfl]
          have : 1 + (e - (k + 1)) = e - k := by omega
          simp only [this]
        · rw [if_neg hz] at h
          exact absurd h hz
      · rw [if_neg l3] at h he ⊢
        rw [if_neg l3]
        by_cases l4 : (c.toNat : Int) = 96 ∨ ((c.toNat : Int) = 125 ∧ tail = true)
        · rw [if_pos l4] at h he ⊢
          unfold pieceT at h he ⊢
          by_cases hz : (pcV s.size (s.data.toList.drop (k + 1)) (k + 1) []).2.2.2 = 0
          · rw [if_pos hz] at he ⊢
            have hE : (pcV s.size (s.data.toList.drop (k + 1)) (k + 1) []).2.1 = e := by
              have : (((pcV s.size (s.data.toList.drop (k + 1)) (k + 1) []).2.1 : Nat) : Int) = (e : Int) := he
              omega
            have hrt := pc_take _ _ _ _ hz (s.extract k e).size 1 (e - (k + 1)) (by rw [hE]) (by omega)
            have l4' : (c.toNat : Int) = 96 ∨ ((c.toNat : Int) = 125 ∧ (((6 : Int) == 6) && ((if (c.toNat : Int) = 125 then (1 : Int) else 0) == 1)) = true) := by
              rcases l4 with l4 | l4
              · exact .inl l4
              · exact .inr ⟨l4.1, by rw [if_pos l4.1]; rfl⟩
            rw [if_pos l4', Nat.zero_add, ex_rest s k e h1 h2, hrt, if_pos rfl]
            have : 1 + (e - (k + 1)) = e - k := by omega
            simp only [this]
          · rw [if_neg hz] at h
            exact absurd h hz
        · rw [if_neg l4] at h he ⊢
          rw [signT_eq] at h he ⊢
          cases hq : sgnL.find? (okS (s.data.toList.drop k)) with
          | none => rw [hq] at h; simp [sgR, noT] at h
          | some q =>
            rw [hq] at he
            have hmem := List.mem_of_find?_eq_some hq
            have h6 := List.find?_some hq
            have h7 : Lib.hasPrefix (s.data.toList.drop k) q = true := by
              unfold okS at h6
              simp only [Bool.and_eq_true] at h6
              exact h6.1
            have hE : k + q.length = e := by
              have : ((k + q.length : Nat) : Int) = (e : Int) := he
              omega
            have hl : (s.extract k e).data.toList = q := by
              have h8 : q <+: s.data.toList.drop k := by simpa [Lib.hasPrefix] using h7
              rw [List.prefix_iff_eq_take] at h8
              rw [ex_list]
              have : e - k = q.length := by omega
              rw [this]
              exact h8.symm
            have l4' : ¬ ((c.toNat : Int) = 96 ∨ ((c.toNat : Int) = 125 ∧ (((sgR k (some q)).kind == 6) && ((sgR k (some q)).n == 1)) = true)) := by
              rintro (l5 | l5)
              · exact l4 (.inl l5)
              · simp [sgR] at l5
            rw [if_neg l4', signT_eq, List.drop_zero, hl, sgn_self q hmem]
            have : 0 + q.length = e - k := by omega
            simp only [sgR, this]
end Go.Proofs.YtjbnobcnlmkbmaaDoor
