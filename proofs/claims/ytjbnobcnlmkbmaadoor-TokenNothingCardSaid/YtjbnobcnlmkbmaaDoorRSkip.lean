/-
  skip of the reference at this translation: the same gap, and whether a line terminator lies in it.
-/
import Derived.Test.YtjbnobcnlmkbmaaDoorTNl
import Derived.Test.YtjbnobcnlmkbmaaDoorRBytes
import Derived.Deep.LoopGhost
namespace Go.Proofs.YtjbnobcnlmkbmaaDoor
open Go.RowKit

theorem nl_any (l : List UInt8) : nlL l = l.any (fun c => ((c.toNat : Int) == 10) || ((c.toNat : Int) == 13)) := by
  induction l with
  | nil => rfl
  | cons c t ih =>
    rw [List.any_cons, ← ih]
    have hc : nlC.contains c = (((c.toNat : Int) == 10) || ((c.toNat : Int) == 13)) := by
      by_cases h1 : c = 10
      · subst h1; rfl
      · by_cases h2 : c = 13
        · subst h2; rfl
        · have g1 : ¬ (c.toNat : Int) = 10 := fun h => h1 (UInt8.toNat_inj.1 (by simp; omega))
          have g2 : ¬ (c.toNat : Int) = 13 := fun h => h2 (UInt8.toNat_inj.1 (by simp; omega))
          simp [nlC, h1, h2, g1, g2]
    have hge := Lib.indexAny_ge nlC t
    have hI : Lib.indexAny (c :: t) nlC = if (((c.toNat : Int) == 10) || ((c.toNat : Int) == 13)) = true then 0 else if Lib.indexAny t nlC = -1 then -1 else Lib.indexAny t nlC + 1 := by
      rw [← hc]
      simp only [Lib.indexAny, beq_iff_eq]
    unfold nlL
    simp only [hI]
    cases hb : (((c.toNat : Int) == 10) || ((c.toNat : Int) == 13)) with
    | true => simp
    | false =>
      by_cases h1 : Lib.indexAny t nlC = -1
      · simp [h1]
      · rw [Bool.false_or, decide_eq_decide, if_neg (by simp), if_neg h1]
        omega
theorem nl_step (s : ByteArray) (a i : Nat) (c : UInt8) (hai : a ≤ i) (h : i < s.size) (hc : s[i] = c) :
    nlL ((s.data.toList.drop a).take (i + 1 - a)) = (nlL ((s.data.toList.drop a).take (i - a)) || (((c.toNat : Int) == 10) || ((c.toNat : Int) == 13))) := by
  rw [nl_any, nl_any, show i + 1 - a = (i - a) + 1 from by omega, List.take_add_one, List.any_append]
  have : (s.data.toList.drop a)[i - a]? = some c := by
    rw [List.getElem?_drop, show a + (i - a) = i from by omega, List.getElem?_eq_getElem (by simpa using h)]
    exact congrArg some hc
  rw [this]
  simp
theorem pre_cons (c : UInt8) (t : List UInt8) (x y : UInt8) (h : Lib.hasPrefix (c :: t) [x, y] = true) : c = x := by
  obtain ⟨r, hr⟩ := pre2 h
  exact (List.cons.inj hr).1
theorem pre_nil (x y : UInt8) : Lib.hasPrefix [] [x, y] = false := rfl
theorem gap_blank (s : ByteArray) (m j : Nat) (c : UInt8) (h : j < s.size) (hc : s[j] = c) (hb : blkB c.toNat = true) :
    gapV (m + 1) (s.data.toList.drop j) j = gapV (m + 1) (s.data.toList.drop (j + 1)) (j + 1) := by
  have e : j + runLen blkB (s.data.toList.drop j) = j + 1 + runLen blkB (s.data.toList.drop (j + 1)) := by
    rw [drop_cons s j h, hc, run_yes hb]
    omega
  rw [gap_step _ m j _ e.symm, gap_step _ m (j + 1) _ rfl]
theorem gap_here (s : ByteArray) (m j : Nat) (c : UInt8) (h : j < s.size) (hc : s[j] = c) (hb : blkB c.toNat = false) :
    gapV (m + 1) (s.data.toList.drop j) j =
      if Lib.hasPrefix (s.data.toList.drop j) [47, 47] = true then gapV m (s.data.toList.drop (j + runLen inlB (s.data.toList.drop j))) (j + runLen inlB (s.data.toList.drop j))
      else if Lib.hasPrefix (s.data.toList.drop j) [47, 42] = true then
        if Lib.index (s.data.toList.drop (j + 2)) [42, 47] < 0 then (j, 8)
        else gapV m (s.data.toList.drop (j + ((Lib.index (s.data.toList.drop (j + 2)) [42, 47]).toNat + 4))) (j + ((Lib.index (s.data.toList.drop (j + 2)) [42, 47]).toNat + 4))
      else (j, 0) :=
  gap_step _ m j j (by rw [drop_cons s j h, hc, run_no hb]; rfl)
theorem gap_end (s : ByteArray) (m : Nat) : gapV (m + 1) (s.data.toList.drop s.size) s.size = (s.size, 0) := by
  rw [gap_step _ m s.size s.size (by rw [drop_none s _ (Nat.le_refl _)]; rfl), drop_none s _ (Nat.le_refl _)]
  rfl
theorem idx_step (c : UInt8) (t : List UInt8) : Lib.index (c :: t) [42, 47] = if Lib.hasPrefix (c :: t) [42, 47] = true then 0 else if Lib.index t [42, 47] = -1 then -1 else Lib.index t [42, 47] + 1 := by
  rw [show Lib.index (c :: t) [42, 47] = if ([42, 47] : List UInt8).isPrefixOf (c :: t) then 0 else if Lib.index t [42, 47] == -1 then -1 else Lib.index t [42, 47] + 1 from rfl]
  by_cases h : ([42, 47] : List UInt8).isPrefixOf (c :: t) = true
  · rw [if_pos h, if_pos (show Lib.hasPrefix (c :: t) [42, 47] = true from h)]
  · rw [if_neg h, if_neg (show ¬ Lib.hasPrefix (c :: t) [42, 47] = true from h)]
    by_cases h1 : Lib.index t [42, 47] = -1
    · rw [if_pos h1, if_pos (by simpa using h1)]
    · rw [if_neg h1, if_neg (by simpa using h1)]
theorem idx_nil : Lib.index [] [42, 47] = -1 := rfl

def skR (k : Nat) (b ok : Bool) : Ending := .returned (.tuple #[.int .i64 k, .bool b, .bool ok])
def skP (g : Nat × Int) (s : ByteArray) (a : Nat) (e : Ending) : Prop :=
  ∃ b, e = skR g.1 b (g.2 == 0) ∧ (g.2 = 0 → b = nlL ((s.data.toList.drop a).take (g.1 - a)))
theorem sk_ok {g : Nat × Int} {s : ByteArray} {a k : Nat} {lb : Bool} (hg : g = (k, 0)) (hl : lb = nlL ((s.data.toList.drop a).take (k - a))) : skP g s a (skR k lb true) := by
  subst hg
  exact ⟨lb, rfl, fun _ => hl⟩
theorem sk_no {g : Nat × Int} {s : ByteArray} {a k : Nat} {lb : Bool} (hg : g = (k, 8)) : skP g s a (skR k lb false) := by
  subst hg
  exact ⟨lb, rfl, fun h => absurd h (by simp)⟩
def Opq (p : Prop) : Prop := p

set_option linter.unusedVariables false in
set_option maxRecDepth 100000 in
set_option maxHeartbeats 8000000 in
theorem rSkip_any (s : ByteArray) (a : Nat) (w : World) (hs : s.size ≤ 4000000) (ha : a ≤ s.size) (R : Nat × Int) (HR : Hid (R = gapV (s.size + 1) (s.data.toList.drop a) a)) :
    Calls Tryd.prog 15 #[.string s, .int .i64 a] w fun e w' => skP R s a e ∧ w = w' := by
  go_enter Tryd.func15, Tryd.ntmps15
  go_wp2_with fail
  go_loopg [1, 7] (s.size + 1 - a) (fun g v u wz => ∃ (j m : Nat) (lb : Bool), v = .int .i64 j ∧ u = .bool lb ∧ j + g = s.size + 1 ∧ j ≤ s.size ∧ a ≤ j ∧ s.size < j + m ∧ Hid (R = gapV m (s.data.toList.drop j) j) ∧ Hid (lb = nlL ((s.data.toList.drop a).take (j - a))) ∧ w = wz)
  case atStart => exact ⟨a, s.size + 1, false, rfl, rfl, by omega, by omega, by omega, by omega, HR, Lib.hid (by simp; rfl), rfl⟩
  case round =>
    obtain ⟨j, m, lb, rfl, rfl, hjg, hjz, haj, hm, HJ, HL, rfl⟩ := hrel
    obtain ⟨m, rfl⟩ : ∃ m', m = m' + 1 := ⟨m - 1, by omega⟩
    clear HR ha
    by_cases hjs : j < s.size
    · obtain ⟨c, hc⟩ : ∃ c : UInt8, s[j] = c := ⟨_, rfl⟩
      have hj1 : decide (j < s.size) = true := by simpa using hjs
      have HN := nl_step s a j c haj hjs hc
      rw [← HL.out] at HN
      have hdr := drop_cons s j hjs
      rw [hc] at hdr
      cases hb : blkB c.toNat with
      | true =>
        have hstep := gap_blank s m j c hjs hc hb
        rw [← HJ.out] at hstep
        have H1 : Lib.hasPrefix (s.data.toList.drop j) [47, 47] = false := by
          cases h : Lib.hasPrefix (s.data.toList.drop j) [47, 47] with
          | false => rfl
          | true => rw [hdr] at h; have := pre_cons _ _ _ _ h; subst this; revert hb; decide
        have H2 : Lib.hasPrefix (s.data.toList.drop j) [47, 42] = false := by
          cases h : Lib.hasPrefix (s.data.toList.drop j) [47, 42] with
          | false => rfl
          | true => rw [hdr] at h; have := pre_cons _ _ _ _ h; subst this; revert hb; decide
        have HP := Lib.hid (fun W => begins_at s ⟨#[47, 47]⟩ j false W hs (by decide) (by omega) H1)
        have HQ := Lib.hid (fun W => begins_at s ⟨#[47, 42]⟩ j false W hs (by decide) (by omega) H2)
        have HS := Lib.hid hstep
        clear hstep H1 H2 hdr HJ HL
        unfold blkB at hb
        cases h9 : ((c.toNat : Int) == 9) <;> cases h32 : ((c.toNat : Int) == 32) <;> cases h10 : ((c.toNat : Int) == 10) <;> cases h13 : ((c.toNat : Int) == 13) <;> cases lb
        all_goals
          rw [h10, h13] at HN
          rw [h9, h32, h10, h13] at hb
          have HM := Lib.hid HN
          clear HN
          first
          | (exfalso; revert hb; decide)
          | (exfalso; simp at h9 h32 h10 h13; omega)
          | (clear hb
             have n9 : ((c.toNat : Int) != 9) = !((c.toNat : Int) == 9) := rfl
             have n32 : ((c.toNat : Int) != 32) = !((c.toNat : Int) == 32) := rfl
             have n10 : ((c.toNat : Int) != 10) = !((c.toNat : Int) == 10) := rfl
             have n13 : ((c.toNat : Int) != 13) = !((c.toNat : Int) == 13) := rfl
             rw [h9] at n9
             rw [h32] at n32
             rw [h10] at n10
             rw [h13] at n13
             simp only [Bool.not_true, Bool.not_false] at n9 n32 n10 n13
             go_wp2_with fail
             refine (HP.out _).mono ?_
             rintro e w' ⟨rfl, rfl⟩
             go_wp2_with fail
             refine (HQ.out _).mono ?_
             rintro e w' ⟨rfl, rfl⟩
             go_wp2
             go_roundg (s.size + 1 - (j + 1))
             case measure => omega
             case rel => exact ⟨j + 1, m + 1, _, by go_num, rfl, by omega, by omega, by omega, by omega, HS, Lib.hid HM.out.symm, rfl⟩)
      | false =>
        have hbl := gap_here s m j c hjs hc hb
        rw [← HJ.out] at hbl
        have hlen : (s.data.toList.drop j).length = s.size - j := by simp
        cases h1 : Lib.hasPrefix (s.data.toList.drop j) [47, 47] with
        | true =>
          rw [if_pos h1] at hbl
          have h2 := inl_two h1
          have h3 := run_le inlB (s.data.toList.drop j)
          obtain ⟨q, hq⟩ : ∃ q, q = j + runLen inlB (s.data.toList.drop j) := ⟨_, rfl⟩
          rw [← hq] at hbl
          have hqs : q ≤ s.size := by omega
          have hqj : j < q := by omega
          have HP := Lib.hid (fun W => begins_at s ⟨#[47, 47]⟩ j true W hs (by decide) (by omega) h1)
          have HB := Lib.hid hbl
          have HQ := Lib.hid hq.symm
          clear hbl h1 h2 h3 hq hlen hdr HN HJ hb hc
          go_wp2_with fail
          refine (HP.out _).mono ?_
          rintro e w' ⟨rfl, rfl⟩
          go_wp2
          go_loopg [1] (q - j) (fun h v wz => ∃ i : Nat, v = .int .i64 i ∧ i + h = q ∧ j ≤ i ∧ Hid (i + runLen inlB (s.data.toList.drop i) = q) ∧ Hid (lb = nlL ((s.data.toList.drop a).take (i - a))) ∧ w = wz)
          case atStart => exact ⟨j, rfl, by omega, by omega, HQ, HL, rfl⟩
          case round =>
            obtain ⟨i, rfl, hiq, hji, HI, HK, rfl⟩ := hrel
            clear HQ HL HP
            by_cases his : i < s.size
            · obtain ⟨d, hd⟩ : ∃ d : UInt8, s[i] = d := ⟨_, rfl⟩
              have hi1 : decide (i < s.size) = true := by simpa using his
              have hdi := drop_cons s i his
              rw [hd] at hdi
              have hI := HI.out
              rw [hdi] at hI
              cases b10 : ((d.toNat : Int) != 10) <;> cases b13 : ((d.toNat : Int) != 13)
              case true.true =>
                rw [run_yes (by unfold inlB; rw [b10, b13]; rfl)] at hI
                have hN := nl_step s a i d (by omega) his hd
                rw [← HK.out] at hN
                rw [show ((d.toNat : Int) == 10) = false from by simpa using b10, show ((d.toNat : Int) == 13) = false from by simpa using b13, Bool.or_false, Bool.or_false] at hN
                have HM := Lib.hid hN
                have hI' : (i + 1) + runLen inlB (s.data.toList.drop (i + 1)) = q := by omega
                have HI' := Lib.hid hI'
                have hiq2 : i < q := by omega
                clear hI hI' hN hdi HI HK
                go_wp2
                go_roundg (q - (i + 1))
                case measure => omega
                case rel => exact ⟨i + 1, by go_num, by omega, by omega, HI', Lib.hid HM.out.symm, rfl⟩
              all_goals
                rw [run_no (by unfold inlB; rw [b10, b13]; rfl)] at hI
                have hiq2 : i = q := by omega
                subst hiq2
                clear hI hdi HI
                go_wp2
                go_roundg (s.size + 1 - i)
                case measure => omega
                case rel => exact ⟨i, m, lb, rfl, rfl, by omega, by omega, by omega, by omega, HB, HK, rfl⟩
            · have hi1 : decide (i < s.size) = false := by simpa using his
              have hI := HI.out
              rw [drop_none s i (by omega), run_nil] at hI
              have hiq2 : i = q := by omega
              subst hiq2
              clear hI HI
              go_wp2
              go_roundg (s.size + 1 - i)
              case measure => omega
              case rel => exact ⟨i, m, lb, rfl, rfl, by omega, by omega, by omega, by omega, HB, HK, rfl⟩
        | false =>
          rw [if_neg (by rw [h1]; simp)] at hbl
          have HP := Lib.hid (fun W => begins_at s ⟨#[47, 47]⟩ j false W hs (by decide) (by omega) h1)
          clear h1
          cases h2 : Lib.hasPrefix (s.data.toList.drop j) [47, 42] with
          | true =>
            rw [if_pos h2] at hbl
            have h3 := pre_len h2
            have hj2 : j + 2 ≤ s.size := by omega
            have HQ := Lib.hid (fun W => begins_at s ⟨#[47, 42]⟩ j true W hs (by decide) (by omega) h2)
            obtain ⟨z, hz⟩ : ∃ z, Lib.index (s.data.toList.drop (j + 2)) [42, 47] = z := ⟨_, rfl⟩
            rw [hz] at hbl
            have hge := Lib.index_ge (s.data.toList.drop (j + 2)) [42, 47]
            have hroom := Lib.index_room (s.data.toList.drop (j + 2)) [42, 47]
            have hl2 : (s.data.toList.drop (j + 2)).length = s.size - (j + 2) := by simp
            rw [hz] at hge hroom
            rw [hl2] at hroom
            have hsj : ∃ (h : j + 1 < s.size), s[j] = 47 ∧ s[j + 1] = 42 := by
              obtain ⟨r, hr⟩ := pre2 h2
              rw [drop_cons s j hjs, drop_cons s (j + 1) (by omega)] at hr
              exact ⟨by omega, (List.cons.inj hr).1, (List.cons.inj (List.cons.inj hr).2).1⟩
            obtain ⟨hj1s, e47, e42⟩ := hsj
            have hN1 := nl_step s a j 47 haj hjs e47
            have hN2 := nl_step s a (j + 1) 42 (by omega) hj1s e42
            rw [hN1, ← HL.out] at hN2
            have hN3 : lb = nlL ((s.data.toList.drop a).take (j + 2 - a)) := by
              rw [show j + 2 - a = j + 1 + 1 - a from by omega, hN2]
              cases lb <;> rfl
            have HL2 := Lib.hid hN3
            clear hN1 hN2 hN3 e47 e42 hj1s h2 h3 hlen hl2 hdr HN HJ HL hb hc
            by_cases hz0 : z < 0
            · rw [if_pos hz0] at hbl
              have hz1 : z = -1 := by omega
              subst hz1
              have HB := Lib.hid hbl
              have HZ := Lib.hid hz
              clear hbl hz hge hroom hz0
              go_wp2_with fail
              refine (HP.out _).mono ?_
              rintro e w' ⟨rfl, rfl⟩
              go_wp2_with fail
              refine (HQ.out _).mono ?_
              rintro e w' ⟨rfl, rfl⟩
              go_wp2
              go_loopg [7, 8] (s.size - (j + 2)) (fun h v u wz => ∃ (i : Nat) (lb2 : Bool), v = .bool lb2 ∧ u = .int .i64 i ∧ i + h = s.size ∧ j + 2 ≤ i ∧ Hid (Lib.index (s.data.toList.drop i) [42, 47] = -1) ∧ w = wz)
              case atStart => exact ⟨j + 2, lb, rfl, by go_num, by omega, by omega, HZ, rfl⟩
              case round =>
                obtain ⟨i, lb2, rfl, rfl, his, hji, HI, rfl⟩ := hrel
                clear HZ HP HQ HL2
                by_cases hi : i < s.size
                · obtain ⟨d, hd⟩ : ∃ d : UInt8, s[i] = d := ⟨_, rfl⟩
                  have hi1 : decide (i < s.size) = true := by simpa using hi
                  have hi2 : decide (s.size ≤ i) = false := by simpa using hi
                  have hdi := drop_cons s i hi
                  rw [hd] at hdi
                  have hI := HI.out
                  rw [hdi, idx_step] at hI
                  cases hp : Lib.hasPrefix (d :: s.data.toList.drop (i + 1)) [42, 47] with
                  | true => rw [if_pos hp] at hI; omega
                  | false =>
                    rw [if_neg (by rw [hp]; simp)] at hI
                    have hI1 : Lib.index (s.data.toList.drop (i + 1)) [42, 47] = -1 := by
                      by_cases h0 : Lib.index (s.data.toList.drop (i + 1)) [42, 47] = -1
                      · exact h0
                      · rw [if_neg h0] at hI
                        have := Lib.index_ge (s.data.toList.drop (i + 1)) [42, 47]
                        omega
                    rw [← hdi] at hp
                    have HC := Lib.hid (fun W => begins_at s ⟨#[42, 47]⟩ i false W hs (by decide) (by omega) hp)
                    have HI' := Lib.hid hI1
                    clear hI hI1 hp hdi HI
                    cases b10 : ((d.toNat : Int) == 10) <;> cases b13 : ((d.toNat : Int) == 13) <;> cases lb2
                    all_goals
                      go_wp2_with fail
                      refine (HC.out _).mono ?_
                      rintro e w' ⟨rfl, rfl⟩
                      go_wp2
                      go_roundg (s.size - (i + 1))
                      case measure => omega
                      case rel => exact ⟨i + 1, _, rfl, by go_num, by omega, by omega, HI', rfl⟩
                · have hie : i = s.size := by omega
                  subst hie
                  have hi1 : decide (s.size < s.size) = false := by simp
                  have hi2 : decide (s.size ≤ s.size) = true := by simp
                  clear HI
                  go_wp2
                  go_ret3
                  exact ⟨sk_no HB.out, rfl⟩
            · rw [if_neg hz0] at hbl
              have hr := hroom (by omega)
              simp at hr
              obtain ⟨p, rfl⟩ : ∃ p : Nat, z = p := ⟨z.toNat, by omega⟩
              rw [Int.toNat_natCast] at hbl
              obtain ⟨T, hT, hT'⟩ : ∃ T, T ≤ j + 2 + p ∧ j + 2 + p ≤ T := ⟨_, Nat.le_refl _, Nat.le_refl _⟩
              rw [show j + (p + 4) = T + 2 from by omega] at hbl
              have hTs : T + 2 ≤ s.size := by omega
              rw [show ((p : Nat) : Int) = ((T - (j + 2) : Nat) : Int) from by omega] at hz
              have HB := Lib.hid hbl
              have HZ := Lib.hid hz
              clear hbl hz hge hroom hz0 hr
              go_wp2_with fail
              refine (HP.out _).mono ?_
              rintro e w' ⟨rfl, rfl⟩
              go_wp2_with fail
              refine (HQ.out _).mono ?_
              rintro e w' ⟨rfl, rfl⟩
              go_wp2
              go_loopg [7, 8] p (fun h v u wz => ∃ (i : Nat) (lb2 : Bool), v = .bool lb2 ∧ u = .int .i64 i ∧ i + h = T ∧ j + 2 ≤ i ∧ Hid (Lib.index (s.data.toList.drop i) [42, 47] = ((T - i : Nat) : Int)) ∧ Hid (lb2 = nlL ((s.data.toList.drop a).take (i - a))) ∧ w = wz)
              case atStart => exact ⟨j + 2, lb, rfl, by go_num, by omega, by omega, HZ, HL2, rfl⟩
              case round =>
                obtain ⟨i, lb2, rfl, rfl, his, hji, HI, HK, rfl⟩ := hrel
                clear HZ HP HQ HL2
                have hi : i < s.size := by omega
                obtain ⟨d, hd⟩ : ∃ d : UInt8, s[i] = d := ⟨_, rfl⟩
                have hi1 : decide (i < s.size) = true := by simpa using hi
                have hi2 : decide (s.size ≤ i) = false := by simpa using hi
                have hdi := drop_cons s i hi
                rw [hd] at hdi
                have hI := HI.out
                rw [hdi, idx_step] at hI
                by_cases hiT : i < T
                · cases hp : Lib.hasPrefix (d :: s.data.toList.drop (i + 1)) [42, 47] with
                  | true => rw [if_pos hp] at hI; omega
                  | false =>
                    rw [if_neg (by rw [hp]; simp)] at hI
                    have hI1 : Lib.index (s.data.toList.drop (i + 1)) [42, 47] = ((T - (i + 1) : Nat) : Int) := by
                      by_cases h0 : Lib.index (s.data.toList.drop (i + 1)) [42, 47] = -1
                      · rw [if_pos h0] at hI; omega
                      · rw [if_neg h0] at hI; omega
                    rw [← hdi] at hp
                    have HC := Lib.hid (fun W => begins_at s ⟨#[42, 47]⟩ i false W hs (by decide) (by omega) hp)
                    have HI' := Lib.hid hI1
                    have hN := nl_step s a i d (by omega) hi hd
                    rw [← HK.out] at hN
                    clear hI hI1 hp hdi HI HK
                    cases b10 : ((d.toNat : Int) == 10) <;> cases b13 : ((d.toNat : Int) == 13) <;> cases lb2
                    all_goals
                      rw [b10, b13] at hN
                      have HM := Lib.hid hN
                      clear hN
                      go_wp2_with fail
                      refine (HC.out _).mono ?_
                      rintro e w' ⟨rfl, rfl⟩
                      go_wp2
                      go_roundg (T - (i + 1))
                      case measure => omega
                      case rel => exact ⟨i + 1, _, rfl, by go_num, by omega, by omega, HI', Lib.hid HM.out.symm, rfl⟩
                · have hiT2 : i = T := by omega
                  subst hiT2
                  have hp : Lib.hasPrefix (d :: s.data.toList.drop (i + 1)) [42, 47] = true := by
                    cases hp : Lib.hasPrefix (d :: s.data.toList.drop (i + 1)) [42, 47] with
                    | true => rfl
                    | false =>
                      rw [if_neg (by rw [hp]; simp)] at hI
                      have := Lib.index_ge (s.data.toList.drop (i + 1)) [42, 47]
                      by_cases h0 : Lib.index (s.data.toList.drop (i + 1)) [42, 47] = -1
                      · rw [if_pos h0] at hI; omega
                      · rw [if_neg h0] at hI; omega
                  have hi1s : i + 1 < s.size := by omega
                  obtain ⟨r, hr⟩ := pre2 hp
                  have e42 : s[i] = 42 := hd.trans (List.cons.inj hr).1
                  have hr2 := (List.cons.inj hr).2
                  rw [drop_cons s (i + 1) hi1s] at hr2
                  have e47 : s[i + 1] = 47 := (List.cons.inj hr2).1
                  have hN1 := nl_step s a i 42 (by omega) hi e42
                  have hN2 := nl_step s a (i + 1) 47 (by omega) hi1s e47
                  rw [hN1, ← HK.out] at hN2
                  have hN3 : lb2 = nlL ((s.data.toList.drop a).take (i + 2 - a)) := by
                    rw [show i + 2 - a = i + 1 + 1 - a from by omega, hN2]
                    cases lb2 <;> rfl
                  have HL3 := Lib.hid hN3
                  rw [← hdi] at hp
                  have HC := Lib.hid (fun W => begins_at s ⟨#[42, 47]⟩ i true W hs (by decide) (by omega) hp)
                  clear hI hp hdi HI HK hN1 hN2 hN3 e42 e47 hr hr2 hd
                  go_wp2_with fail
                  refine (HC.out _).mono ?_
                  rintro e w' ⟨rfl, rfl⟩
                  go_wp2
                  go_roundg (s.size + 1 - (i + 2))
                  case measure => omega
                  case rel => exact ⟨i + 2, m, lb2, by go_num, rfl, by omega, by omega, by omega, by omega, HB, HL3, rfl⟩
          | false =>
            rw [if_neg (by rw [h2]; simp)] at hbl
            have HQ := Lib.hid (fun W => begins_at s ⟨#[47, 42]⟩ j false W hs (by decide) (by omega) h2)
            have HB := Lib.hid hbl
            clear h2 hbl hlen HN HJ hdr
            unfold blkB at hb
            have n9 : ((c.toNat : Int) != 9) = true := by simp at hb ⊢; omega
            have n32 : ((c.toNat : Int) != 32) = true := by simp at hb ⊢; omega
            have n10 : ((c.toNat : Int) != 10) = true := by simp at hb ⊢; omega
            have n13 : ((c.toNat : Int) != 13) = true := by simp at hb ⊢; omega
            clear hb
            go_wp2_with fail
            refine (HP.out _).mono ?_
            rintro e w' ⟨rfl, rfl⟩
            go_wp2_with fail
            refine (HQ.out _).mono ?_
            rintro e w' ⟨rfl, rfl⟩
            go_wp2
            go_ret3
            exact ⟨sk_ok HB.out HL.out, rfl⟩
    · have hje : j = s.size := by omega
      subst hje
      have hj1 : decide (s.size < s.size) = false := by simp
      have hfin : R = (s.size, 0) := by rw [HJ.out, gap_end]
      have HF := Lib.hid hfin
      clear hfin HJ
      go_wp2
      go_ret3
      exact ⟨sk_ok HF.out HL.out, rfl⟩
end Go.Proofs.YtjbnobcnlmkbmaaDoor
