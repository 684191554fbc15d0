/-
  one of the reference at this translation: the same token as the program's read.
-/
import Derived.Test.YtjbnobcnlmkbmaaDoorROne2
namespace Go.Proofs.YtjbnobcnlmkbmaaDoor
open Go.RowKit

theorem sg_mem : ∀ q ∈ sgnL, q.length ≤ 3 ∧ q ≠ [] := by decide
theorem rOne_any (s : ByteArray) (k : Nat) (tail : Bool) (w : World) (hs : s.size ≤ 65536) (hk : k ≤ s.size) :
    Calls Tryd.prog 19 #[.string s, .int .i64 k, .bool tail] w fun e w' => e = oneT k (readT s k tail) ∧ Below w.heap.size w w' := by
  have hs4 : s.size ≤ 4000000 := by omega
  by_cases hks : k < s.size
  · obtain ⟨c, hc⟩ : ∃ c : UInt8, s[k] = c := ⟨_, rfl⟩
    rw [readT_at s k tail c hks hc]
    unfold readC
    have HL := Lib.hid (let_r c)
    have HD := Lib.hid (dig_r c)
    cases hl : letB c.toNat with
    | true =>
      rw [hl] at HL
      rw [if_pos rfl]
      have hic : idcB c.toNat = true := by unfold idcB; rw [hl]; rfl
      have hE : k + runLen idcB (s.data.toList.drop k) = nameE s k := by
        unfold nameE
        rw [drop_cons s k hks, hc, run_yes hic, id_run]
        omega
      refine (ro_name s k tail c (nameE s k) (decide (wordI (s.extract k (nameE s k)).data.toList = 1)) w hs hks hc HL (Lib.hid hE) (Lib.hid (fun W => rWord_any _ W))).mono ?_
      rintro e w' ⟨rfl, hb⟩
      refine ⟨?_, hb⟩
      unfold oneT nameT
      simp
    | false =>
      rw [hl] at HL
      rw [if_neg (by simp)]
      cases hd : digB c.toNat with
      | true =>
        rw [hd] at HD
        rw [if_pos rfl, numT_numO]
        have HN := fun W => rNum_any s k c W hs4 hks hc hd
        generalize numO (s.data.toList.drop k) = o at HN ⊢
        cases o with
        | some v => exact ro_num1 s k tail c v (numE s k) w hs hks hc HL HD (Lib.hid (fun W => (HN W).mono (by rintro e w' ⟨rfl, rfl⟩; exact ⟨rfl, Below.refl _ _⟩)))
        | none => exact ro_num0 s k tail c 0 0 22 w hs hks hc HL HD (by omega) (Lib.hid (fun W => (HN W).mono (by rintro e w' ⟨rfl, rfl⟩; exact ⟨rfl, Below.refl _ _⟩)))
      | false =>
        rw [hd] at HD
        rw [if_neg (by simp)]
        by_cases h1 : (c.toNat : Int) = 39 ∨ (c.toNat : Int) = 34
        · rw [if_pos h1]
          unfold textT
          have HT := fun W => rText_any s (k + 1) c W hs (by omega) (by omega) h1
          generalize rdV c s.size (s.data.toList.drop (k + 1)) (k + 1) [] = r at HT ⊢
          obtain ⟨o, t, er⟩ := r
          simp only
          by_cases he : er = 0
          · subst he
            rw [if_pos rfl]
            by_cases h34 : (c.toNat : Int) = 34
            · exact ro_text1a s k tail c t ⟨o.toArray⟩ w hs hks hc HL HD (beq_yes h34) (Lib.hid HT)
            · exact ro_text1b s k tail c t ⟨o.toArray⟩ w hs hks hc HL HD (beq_not h34) (beq_yes (by omega)) (Lib.hid HT)
          · rw [if_neg he]
            have hz : oneT k (noT er) = .returned (.tuple #[.agg #[.int .i64 0, .int .i64 0, .int .i64 0, .int .i64 0, .string ⟨#[]⟩, .bool false, .bool false], .int .i64 er]) := by unfold oneT noT; simp [he]
            rw [hz]
            by_cases h34 : (c.toNat : Int) = 34
            · exact ro_text0a s k tail c t er ⟨o.toArray⟩ w hs hks hc HL HD (beq_yes h34) he (Lib.hid HT)
            · exact ro_text0b s k tail c t er ⟨o.toArray⟩ w hs hks hc HL HD (beq_not h34) (beq_yes (by omega)) he (Lib.hid HT)
        · rw [if_neg h1]
          have b1 := beq_not (show ¬ (c.toNat : Int) = 34 from fun h => h1 (Or.inr h))
          have b2 := beq_not (show ¬ (c.toNat : Int) = 39 from fun h => h1 (Or.inl h))
          by_cases h2 : (c.toNat : Int) = 96 ∨ ((c.toNat : Int) = 125 ∧ tail = true)
          · rw [if_pos h2]
            unfold pieceT
            have HT := fun W => rPiece_any s (k + 1) W hs (by omega) (by omega)
            generalize pcV s.size (s.data.toList.drop (k + 1)) (k + 1) [] = r at HT ⊢
            obtain ⟨o, t, op, er⟩ := r
            simp only
            by_cases h96 : (c.toNat : Int) = 96
            · have h125 : ¬ (c.toNat : Int) = 125 := by omega
              by_cases he : er = 0
              · subst he
                rw [if_pos rfl, if_neg h125]
                exact ro_piece1a s k tail c t ⟨o.toArray⟩ op w hs hks hc HL HD b1 b2 (beq_yes h96) (beq_not h125) (Lib.hid HT)
              · rw [if_neg he]
                have hz : oneT k (noT er) = .returned (.tuple #[.agg #[.int .i64 0, .int .i64 0, .int .i64 0, .int .i64 0, .string ⟨#[]⟩, .bool false, .bool false], .int .i64 er]) := by unfold oneT noT; simp [he]
                rw [hz]
                exact ro_piece0a s k tail c t er ⟨o.toArray⟩ op w hs hks hc HL HD b1 b2 (beq_yes h96) (beq_not h125) he (Lib.hid HT)
            · obtain ⟨h125, rfl⟩ : (c.toNat : Int) = 125 ∧ tail = true := by
                rcases h2 with h | h
                · exact absurd h h96
                · exact h
              by_cases he : er = 0
              · subst he
                rw [if_pos rfl, if_pos h125]
                exact ro_piece1b s k c t ⟨o.toArray⟩ op w hs hks hc HL HD b1 b2 (beq_not h96) (beq_yes h125) (Lib.hid HT)
              · rw [if_neg he]
                have hz : oneT k (noT er) = .returned (.tuple #[.agg #[.int .i64 0, .int .i64 0, .int .i64 0, .int .i64 0, .string ⟨#[]⟩, .bool false, .bool false], .int .i64 er]) := by unfold oneT noT; simp [he]
                rw [hz]
                exact ro_piece0b s k c t er ⟨o.toArray⟩ op w hs hks hc HL HD b1 b2 (beq_not h96) (beq_yes h125) he (Lib.hid HT)
          · rw [if_neg h2, signT_eq]
            have b3 := beq_not (show ¬ (c.toNat : Int) = 96 from fun h => h2 (Or.inl h))
            have HT := fun W => rSign_any s k W hs4 hks
            cases hf : sgnL.find? (okS (s.data.toList.drop k)) with
            | some q =>
              rw [hf] at HT
              obtain ⟨m1, m2⟩ := sg_mem q (List.mem_of_find?_eq_some hf)
              have hq : (⟨q.toArray⟩ : ByteArray).size = q.length := ba_sz q
              have hql : (⟨q.toArray⟩ : ByteArray).toList = q := ba_ls q
              have hz : oneT k (sgR k (some q)) = .returned (.tuple #[.agg #[.int .i64 5, .int .i64 k, .int .i64 ((k : Int) + (⟨q.toArray⟩ : ByteArray).size), .int .i64 0, .string ⟨q.toArray⟩, .bool false, .bool false], .int .i64 0]) := by
                rw [hq]; rfl
              rw [hz]
              have e1 : (⟨q.toArray⟩ : ByteArray).toList.isEmpty = false := by rw [hql]; simpa using m2
              have e2 : ((⟨q.toArray⟩ : ByteArray).toList == []) = false := by rw [hql]; simpa using m2
              cases tail with
              | true =>
                have b4 := beq_not (show ¬ (c.toNat : Int) = 125 from fun h => h2 (Or.inr ⟨h, rfl⟩))
                exact ro_sign1a s k c ⟨q.toArray⟩ w hs hks (by omega) hc HL HD b1 b2 b3 b4 e1 e2 (Lib.hid HT)
              | false => exact ro_sign1b s k c ⟨q.toArray⟩ w hs hks (by omega) hc HL HD b1 b2 b3 e1 e2 (Lib.hid HT)
            | none =>
              rw [hf] at HT
              cases tail with
              | true =>
                have b4 := beq_not (show ¬ (c.toNat : Int) = 125 from fun h => h2 (Or.inr ⟨h, rfl⟩))
                exact ro_sign0a s k c w hs hks hc HL HD b1 b2 b3 b4 (Lib.hid HT)
              | false => exact ro_sign0b s k c w hs hks hc HL HD b1 b2 b3 (Lib.hid HT)
  · have hke : k = s.size := by omega
    subst hke
    rw [readT_end s s.size tail (Nat.le_refl _)]
    exact ro_end s tail w
end Go.Proofs.YtjbnobcnlmkbmaaDoor
