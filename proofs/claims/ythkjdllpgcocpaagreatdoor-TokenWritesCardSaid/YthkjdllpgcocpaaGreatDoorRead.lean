/-
  What literal.Read answers at this translation: for every string of at most 4000000 bytes and every offset: one plain function of the bytes.
-/
import Derived.Test.YthkjdllpgcocpaaGreatDoorAdd
import Derived.WalkSpells
import Derived.WalkLawsBesides
import Derived.Deep.QuietTactic
import Derived.BigQuiet
namespace Go.Proofs.YthkjdllpgcocpaaGreatDoor
open Go.RowKit

/-- the value, the offset behind it and the error's number of a literal's rest, from offset i on, where 'out' has been read -/
def rdV (q : UInt8) : Nat → List UInt8 → Nat → List UInt8 → List UInt8 × Nat × Int
  | 0, _, _, _ => ([], 0, 8)
  | _ + 1, [], _, _ => ([], 0, 8)
  | n + 1, c :: t, i, out =>
    if c = q then (out, i + 1, 0) else if (c.toNat : Int) = 10 ∨ (c.toNat : Int) = 13 then ([], 0, 22)
    else if ¬ (unitV (c :: t)).2.2 = 0 then ([], 0, (unitV (c :: t)).2.2) else if out.length = 65536 then ([], 0, 9)
    else rdV q n ((c :: t).drop (unitV (c :: t)).2.1) (i + (unitV (c :: t)).2.1) (out ++ [byt (unitV (c :: t)).1])

def rdR (r : List UInt8 × Nat × Int) : Ending := .returned (.tuple #[.string ⟨r.1.toArray⟩, .int .i64 (r.2.1 : Nat), .int .i64 r.2.2])

theorem rd_nil (q : UInt8) (n i : Nat) (out : List UInt8) : rdV q n [] i out = ([], 0, 8) := by cases n <;> rfl
theorem rd_end {q : UInt8} {n i : Nat} {t out : List UInt8} : rdV q (n + 1) (q :: t) i out = (out, i + 1, 0) := by simp [rdV]
theorem rd_line {q c : UInt8} {n i : Nat} {t out : List UInt8} (h : ¬ c = q) (h1 : (c.toNat : Int) = 10 ∨ (c.toNat : Int) = 13) : rdV q (n + 1) (c :: t) i out = ([], 0, 22) := by
  show (if c = q then _ else if _ then _ else _) = _
  rw [if_neg h, if_pos h1]
theorem rd_err {q c : UInt8} {n i : Nat} {t out : List UInt8} (h : ¬ c = q) (h1 : ¬ ((c.toNat : Int) = 10 ∨ (c.toNat : Int) = 13)) (h2 : ¬ (unitV (c :: t)).2.2 = 0) : rdV q (n + 1) (c :: t) i out = ([], 0, (unitV (c :: t)).2.2) := by
  show (if c = q then _ else if _ then _ else if _ then _ else _) = _
  rw [if_neg h, if_neg h1, if_pos h2]
theorem rd_long {q c : UInt8} {n i : Nat} {t out : List UInt8} (h : ¬ c = q) (h1 : ¬ ((c.toNat : Int) = 10 ∨ (c.toNat : Int) = 13)) (h2 : (unitV (c :: t)).2.2 = 0) (h3 : out.length = 65536) : rdV q (n + 1) (c :: t) i out = ([], 0, 9) := by
  show (if c = q then _ else if _ then _ else if _ then _ else if _ then _ else _) = _
  rw [if_neg h, if_neg h1, if_neg (by simpa using h2), if_pos h3]
theorem rd_go {q c : UInt8} {n i : Nat} {t out : List UInt8} (h : ¬ c = q) (h1 : ¬ ((c.toNat : Int) = 10 ∨ (c.toNat : Int) = 13)) (h2 : (unitV (c :: t)).2.2 = 0) (h3 : ¬ out.length = 65536) : rdV q (n + 1) (c :: t) i out = rdV q n ((c :: t).drop (unitV (c :: t)).2.1) (i + (unitV (c :: t)).2.1) (out ++ [byt (unitV (c :: t)).1]) := by
  show (if c = q then _ else if _ then _ else if _ then _ else if _ then _ else _) = _
  rw [if_neg h, if_neg h1, if_neg (by simpa using h2), if_neg h3]

theorem below_drawn {B : Nat} {a w : World} (h : Below B a w) (n : Nat) : Below B a (w.drewN n) := h.trans ⟨rfl, rfl, rfl, Nat.le_refl _, fun _ _ => rfl⟩
theorem isB_drewN {B b : Nat} {bs : List Value} {w : World} (h : Lib.IsBuilder 53 5 B b bs w) (n : Nat) : Lib.IsBuilder 53 5 B b bs (w.drewN n) := by
  exact h

set_option maxHeartbeats 1000000 in
theorem holds_in (s : ByteArray) (k : Nat) (x : UInt8) (a b : Int) (w : World) (hk : k < s.size) (hx : s[k] = x) :
    Calls Tryz.prog 152 #[.string s, .int .i64 k, .int .u8 a, .int .u8 b] w fun e w' => e = .returned (.bool ((x.toNat : Int) == a || (x.toNat : Int) == b)) ∧ w = w' := by
  go_enter Tryz.func152, Tryz.ntmps152
  go_wp2
  all_goals
    go_ret
    exact ⟨ret_b (by simp_all), rfl⟩

set_option maxHeartbeats 1000000 in
theorem holds_out (s : ByteArray) (k : Int) (a b : Int) (w : World) (hs : s.size ≤ 4000000) (hk : k < 0 ∨ s.size ≤ k) :
    Calls Tryz.prog 152 #[.string s, .int .i64 k, .int .u8 a, .int .u8 b] w fun e w' => e = .returned (.bool false) ∧ w = w' := by
  rcases hk with hk | hk
  · go_enter Tryz.func152, Tryz.ntmps152
    go_wp2
    go_ret
    exact ⟨rfl, rfl⟩
  · go_enter Tryz.func152, Tryz.ntmps152
    go_wp2
    go_ret
    exact ⟨rfl, rfl⟩


theorem beq_t {a b : Int} (h : a = b) : (a == b) = true := by simpa using h
theorem beq_f {a b : Int} (h : ¬ a = b) : (a == b) = false := by simpa using h
theorem ne_int {a b : UInt8} (h : ¬ a = b) : ¬ (a.toNat : Int) = (b.toNat : Int) := fun e => h (UInt8.toNat_inj.1 (by omega))

set_option maxHeartbeats 2000000 in
set_option maxRecDepth 100000 in
theorem read_in (s : ByteArray) (k : Nat) (q : UInt8) (w : World) (hs : s.size ≤ 4000000) (hk : k < s.size) (hx : s[k] = q) (hq : (q.toNat : Int) = 39 ∨ (q.toNat : Int) = 34) :
    Calls Tryz.prog 102 #[.string s, .int .i64 k] w fun e w' => e = rdR (rdV q s.size (s.data.toList.drop (k + 1)) (k + 1) []) ∧ Below w.heap.size w w' := by
  obtain ⟨R, hR⟩ : ∃ R, R = rdV q s.size (s.data.toList.drop (k + 1)) (k + 1) [] := ⟨_, rfl⟩
  rw [← hR]
  have HR := Lib.hid hR
  clear hR
  have H := holds_in s k q 39 34 w hk hx
  have hqb : ((q.toNat : Int) == 39 || (q.toNat : Int) == 34) = true := by rcases hq with h | h <;> simp [h]
  rw [hqb] at H
  clear hqb hq
  go_enter Tryz.func102, Tryz.ntmps102
  go_wp2_with (go_at_call 152; refine H.mono ?_; rintro e w' ⟨rfl, rfl⟩)
  clear H
  go_loopw [6, 8] (fun e i wr => ∃ (j n : Nat) (out : List UInt8), i = .int .i64 j ∧ e = .int .i64 0 ∧ j ≤ s.size ∧ s.size - j < n ∧ R = rdV q n (s.data.toList.drop j) j out ∧ out.length ≤ 65536 ∧ Lib.IsBuilder 53 5 w.heap.size w.heap.size (Lib.byteCells out) wr ∧ Below w.heap.size w wr) (fun _ i _ => s.size - (intOf i).toNat)
  case atStart =>
    exact ⟨k + 1, s.size, [], by go_num, rfl, by omega, by omega, HR.out, by simp, Lib.fresh_isBuilder 53 5 w, (Below.refl _ w).alloc (Nat.le_refl _) _⟩
  case round =>
    obtain ⟨j, n, out, rfl, rfl, hj, hn, hRj, ho, hI, hbw⟩ := hrel
    have HJ := Lib.hid hRj
    clear hRj HR
    have hsz : w.heap.size ≤ wr.heap.size := hbw.size
    by_cases hjs : j < s.size
    · obtain ⟨c, hc⟩ : ∃ c : UInt8, s[j] = c := ⟨_, rfl⟩
      obtain ⟨m, rfl⟩ : ∃ m, n = m + 1 := ⟨n - 1, by omega⟩
      by_cases hcq : c = q
      · subst hcq
        go_wp2
        go_quiet (fail)
        go_wp2_with (go_at_call 27; refine (Tryz.Builder_String_any w.heap.size w.heap.size out _ (isB_drewN hI _) (by simpa using hsz)).mono ?_; rintro e w' ⟨rfl, hb⟩)
        go_ret3
        refine ⟨?_, (below_drawn hbw _).trans hb⟩
        rw [HJ.out, drop_at s j hjs, hc, rd_end]
        simp [rdR]
      · have hcb := beq_f (ne_int hcq)
        by_cases hln : (c.toNat : Int) = 10 ∨ (c.toNat : Int) = 13
        · have hfin : R = ([], 0, 22) := by rw [HJ.out, drop_at s j hjs, hc, rd_line hcq hln]
          have HF := Lib.hid hfin
          clear hfin HJ
          rcases hln with hln | hln
          · have h10 := beq_t hln
            clear hln
            go_wp2
            go_quiet (fail)
            go_wp2
            go_ret3
            refine ⟨?_, below_drawn hbw _⟩
            rw [HF.out]
            rfl
          · have h10 : ((c.toNat : Int) == 10) = false := beq_f (by omega)
            have h13 := beq_t hln
            clear hln
            go_wp2
            go_quiet (fail)
            go_wp2
            go_ret3
            refine ⟨?_, below_drawn hbw _⟩
            rw [HF.out]
            rfl
        · have h10 : ((c.toNat : Int) == 10) = false := beq_f (by omega)
          have h13 : ((c.toNat : Int) == 13) = false := beq_f (by omega)
          have DJ := drop_at s j hjs
          rw [hc] at DJ
          by_cases he : (unitV (s.data.toList.drop j)).2.2 = 0
          · by_cases ho2 : out.length = 65536
            · have hfin : R = ([], 0, 9) := by rw [DJ] at he; rw [HJ.out, DJ, rd_long hcq hln he ho2]
              have HF := Lib.hid hfin
              clear hfin HJ DJ hln
              have HO := Lib.hid ho2
              have HE := Lib.hid he
              clear ho2 he
              go_wp2
              go_quiet (fail)
              go_wp2_with (go_at_call 153; refine (add_long s j w.heap.size w.heap.size out _ hs hjs HE.out (isB_drewN hI _) HO.out).mono ?_; rintro e w' ⟨rfl, hw⟩; subst hw)
              go_ret3
              refine ⟨?_, below_drawn hbw _⟩
              rw [HF.out]
              rfl
            · have hul := unit_len _ he
              rw [List.length_drop] at hul
              have hul2 : (unitV (s.data.toList.drop j)).2.1 ≤ s.size - j := by simpa using hul.1
              have hul1 := hul.2
              clear hul
              have hfin : R = rdV q m (s.data.toList.drop (j + (unitV (s.data.toList.drop j)).2.1)) (j + (unitV (s.data.toList.drop j)).2.1) (out ++ [byt (unitV (s.data.toList.drop j)).1]) := by
                have he' := he
                rw [DJ] at he'
                rw [HJ.out, ← List.drop_drop, DJ, rd_go hcq hln he' ho2]
              have HF := Lib.hid hfin
              clear hfin HJ DJ hln
              have HE := Lib.hid he
              clear he
              have A := fun W hI2 hsz2 => add_ok s j w.heap.size w.heap.size out W hs hjs HE.out hI2 (by omega) hsz2
              clear HE
              obtain ⟨un, hun⟩ : ∃ un, un = (unitV (s.data.toList.drop j)).2.1 := ⟨_, rfl⟩
              obtain ⟨ub, hub⟩ : ∃ ub, ub = (unitV (s.data.toList.drop j)).1 := ⟨_, rfl⟩
              rw [← hun] at hul1 hul2
              rw [← hun, ← hub] at HF
              simp only [← hun, ← hub] at A
              clear hun hub
              have HA := Lib.hid A
              clear A
              go_wp2
              go_quiet (fail)
              go_wp2_with (go_at_call 153; refine (HA.out _ (isB_drewN hI _) (by simpa using hsz)).mono ?_; rintro e w' ⟨rfl, hI2, hb⟩)
              go_roundw
              case rel => exact ⟨j + un, m, _, by go_num, rfl, by omega, by omega, HF.out, by simp; omega, hI2, (below_drawn hbw _).trans hb⟩
              case measure => simp [intOf]; omega
          · have hfin : R = ([], 0, (unitV (s.data.toList.drop j)).2.2) := by
              have he' := he
              rw [DJ] at he'
              rw [HJ.out, DJ, rd_err hcq hln he']
            have HF := Lib.hid hfin
            clear hfin HJ DJ hln
            have A := fun W => add_err s j w.heap.size W hs hjs he
            obtain ⟨ue, hue⟩ : ∃ ue, ue = (unitV (s.data.toList.drop j)).2.2 := ⟨_, rfl⟩
            rw [← hue] at HF he
            simp only [← hue] at A
            clear hue
            have hne : (ue != 0) = true := by simpa using he
            clear he
            have HA := Lib.hid A
            clear A
            go_wp2
            go_quiet (fail)
            go_wp2_with (go_at_call 153; refine (HA.out _).mono ?_; rintro e w' ⟨rfl, hw⟩; subst hw)
            go_ret3
            refine ⟨?_, below_drawn hbw _⟩
            rw [HF.out]
            rfl
    · have hfin : R = ([], 0, 8) := by rw [HJ.out, drop_out s j hjs, rd_nil]
      have HF := Lib.hid hfin
      clear hfin HJ
      go_wp2
      go_ret3
      refine ⟨?_, hbw⟩
      rw [HF.out]
      rfl

theorem read_out (s : ByteArray) (k : Int) (w : World) (hs : s.size ≤ 4000000) (hk : k < 0 ∨ s.size ≤ k) :
    Calls Tryz.prog 102 #[.string s, .int .i64 k] w fun e w' => e = .returned (.tuple #[.string ⟨#[]⟩, .int .i64 0, .int .i64 1]) ∧ Below w.heap.size w w' := by
  have H := holds_out s k 39 34 w hs hk
  clear hk
  go_enter Tryz.func102, Tryz.ntmps102
  go_wp2_with (go_at_call 152; refine H.mono ?_; rintro e w' ⟨rfl, rfl⟩)
  go_ret3
  exact ⟨rfl, Below.refl _ w⟩

theorem read_no (s : ByteArray) (k : Nat) (q : UInt8) (w : World) (hk : k < s.size) (hx : s[k] = q) (hq : ¬ ((q.toNat : Int) = 39 ∨ (q.toNat : Int) = 34)) :
    Calls Tryz.prog 102 #[.string s, .int .i64 k] w fun e w' => e = .returned (.tuple #[.string ⟨#[]⟩, .int .i64 0, .int .i64 1]) ∧ Below w.heap.size w w' := by
  have H := holds_in s k q 39 34 w hk hx
  have hqb : ((q.toNat : Int) == 39 || (q.toNat : Int) == 34) = false := by rw [beq_f (fun h => hq (Or.inl h)), beq_f (fun h => hq (Or.inr h))]; rfl
  rw [hqb] at H
  clear hqb hq
  go_enter Tryz.func102, Tryz.ntmps102
  go_wp2_with (go_at_call 152; refine H.mono ?_; rintro e w' ⟨rfl, rfl⟩)
  go_ret3
  exact ⟨rfl, Below.refl _ w⟩

end Go.Proofs.YthkjdllpgcocpaaGreatDoor
