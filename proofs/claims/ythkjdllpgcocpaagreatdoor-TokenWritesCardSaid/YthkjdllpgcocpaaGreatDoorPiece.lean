/-
  What literal.Piece answers at this translation: for every string of at most 4000000 bytes and every offset: one plain function of the bytes.
-/
import Derived.Test.YthkjdllpgcocpaaGreatDoorRead
import Derived.Lib.IndexBytes
namespace Go.Proofs.YthkjdllpgcocpaaGreatDoor
open Go.RowKit

/-- is this the dollar sign with a brace behind it? -/
def dol (l : List UInt8) : Bool := Lib.hasPrefix l [36, 123]

/-- the value, the offset behind it, whether it is open, and the error's number, of a piece's rest from offset i on, where 'out' has been read -/
def pcV : Nat → List UInt8 → Nat → List UInt8 → List UInt8 × Nat × Bool × Int
  | 0, _, _, _ => ([], 0, false, 8)
  | _ + 1, [], _, _ => ([], 0, false, 8)
  | n + 1, c :: t, i, out =>
    if (c.toNat : Int) = 96 then (out, i + 1, false, 0) else if dol (c :: t) = true then (out, i + 2, true, 0)
    else if ¬ (unitV (c :: t)).2.2 = 0 then ([], 0, false, (unitV (c :: t)).2.2) else if out.length = 65536 then ([], 0, false, 9)
    else pcV n ((c :: t).drop (unitV (c :: t)).2.1) (i + (unitV (c :: t)).2.1) (out ++ [byt (unitV (c :: t)).1])

def pcR (r : List UInt8 × Nat × Bool × Int) : Ending := .returned (.tuple #[.string ⟨r.1.toArray⟩, .int .i64 (r.2.1 : Nat), .bool r.2.2.1, .int .i64 r.2.2.2])

theorem pc_nil (n i : Nat) (out : List UInt8) : pcV n [] i out = ([], 0, false, 8) := by cases n <;> rfl
theorem pc_end {c : UInt8} {n i : Nat} {t out : List UInt8} (h : (c.toNat : Int) = 96) : pcV (n + 1) (c :: t) i out = (out, i + 1, false, 0) := by
  show (if _ then _ else _) = _
  rw [if_pos h]
theorem pc_open {c : UInt8} {n i : Nat} {t out : List UInt8} (h : ¬ (c.toNat : Int) = 96) (h1 : dol (c :: t) = true) : pcV (n + 1) (c :: t) i out = (out, i + 2, true, 0) := by
  show (if _ then _ else if _ then _ else _) = _
  rw [if_neg h, if_pos h1]
theorem pc_err {c : UInt8} {n i : Nat} {t out : List UInt8} (h : ¬ (c.toNat : Int) = 96) (h1 : ¬ dol (c :: t) = true) (h2 : ¬ (unitV (c :: t)).2.2 = 0) : pcV (n + 1) (c :: t) i out = ([], 0, false, (unitV (c :: t)).2.2) := by
  show (if _ then _ else if _ then _ else if _ then _ else _) = _
  rw [if_neg h, if_neg h1, if_pos h2]
theorem pc_long {c : UInt8} {n i : Nat} {t out : List UInt8} (h : ¬ (c.toNat : Int) = 96) (h1 : ¬ dol (c :: t) = true) (h2 : (unitV (c :: t)).2.2 = 0) (h3 : out.length = 65536) : pcV (n + 1) (c :: t) i out = ([], 0, false, 9) := by
  show (if _ then _ else if _ then _ else if _ then _ else if _ then _ else _) = _
  rw [if_neg h, if_neg h1, if_neg (by simpa using h2), if_pos h3]
theorem pc_go {c : UInt8} {n i : Nat} {t out : List UInt8} (h : ¬ (c.toNat : Int) = 96) (h1 : ¬ dol (c :: t) = true) (h2 : (unitV (c :: t)).2.2 = 0) (h3 : ¬ out.length = 65536) : pcV (n + 1) (c :: t) i out = pcV n ((c :: t).drop (unitV (c :: t)).2.1) (i + (unitV (c :: t)).2.1) (out ++ [byt (unitV (c :: t)).1]) := by
  show (if _ then _ else if _ then _ else if _ then _ else if _ then _ else _) = _
  rw [if_neg h, if_neg h1, if_neg (by simpa using h2), if_neg h3]

set_option maxHeartbeats 2000000 in
set_option maxRecDepth 100000 in
theorem piece_in (s : ByteArray) (k : Nat) (q : UInt8) (w : World) (hs : s.size ≤ 4000000) (hk : k < s.size) (hx : s[k] = q) (hq : (q.toNat : Int) = 96 ∨ (q.toNat : Int) = 125) :
    Calls Tryz.prog 103 #[.string s, .int .i64 k] w fun e w' => e = pcR (pcV s.size (s.data.toList.drop (k + 1)) (k + 1) []) ∧ Below w.heap.size w w' := by
  obtain ⟨R, hR⟩ : ∃ R, R = pcV s.size (s.data.toList.drop (k + 1)) (k + 1) [] := ⟨_, rfl⟩
  rw [← hR]
  have HR := Lib.hid hR
  clear hR
  have H := holds_in s k q 96 125 w hk hx
  have hqb : ((q.toNat : Int) == 96 || (q.toNat : Int) == 125) = true := by rcases hq with h | h <;> simp [h]
  rw [hqb] at H
  clear hqb hq
  go_enter Tryz.func103, Tryz.ntmps103
  go_wp2_with (go_at_call 152; refine H.mono ?_; rintro e w' ⟨rfl, rfl⟩)
  clear H
  go_loopw [7, 9] (fun e i wr => ∃ (j n : Nat) (out : List UInt8), i = .int .i64 j ∧ e = .int .i64 0 ∧ j ≤ s.size ∧ s.size - j < n ∧ R = pcV n (s.data.toList.drop j) j out ∧ out.length ≤ 65536 ∧ Lib.IsBuilder 53 5 w.heap.size w.heap.size (Lib.byteCells out) wr ∧ Below w.heap.size w wr) (fun _ i _ => s.size - (intOf i).toNat)
  case atStart =>
    exact ⟨k + 1, s.size, [], by go_num, rfl, by omega, by omega, HR.out, by simp, Lib.fresh_isBuilder 53 5 w, (Below.refl _ w).alloc (Nat.le_refl _) _⟩
  case round =>
    obtain ⟨j, n, out, rfl, rfl, hj, hn, hRj, ho, hI, hbw⟩ := hrel
    have HJ := Lib.hid hRj
    clear hRj HR
    have hsz : w.heap.size ≤ wr.heap.size := hbw.size
    by_cases hjs : j < s.size
    · obtain ⟨c, hc⟩ : ∃ c : UInt8, s[j] = c := ⟨_, rfl⟩
      obtain ⟨m, rfl⟩ : ∃ m, n = m + 1 := ⟨n - 1, by omega⟩
      have DJ := drop_at s j hjs
      rw [hc] at DJ
      by_cases hcq : (c.toNat : Int) = 96
      · have hfin : R = (out, j + 1, false, 0) := by rw [HJ.out, DJ, pc_end hcq]
        have HF := Lib.hid hfin
        have hcb := beq_t hcq
        clear hfin HJ DJ hcq
        go_wp2_with (go_at_call 27; refine (Tryz.Builder_String_any w.heap.size w.heap.size out _ hI hsz).mono ?_; rintro e w' ⟨rfl, hb⟩)
        refine bodyPost_ret (v := .tuple #[.string ⟨out.toArray⟩, .int .i64 ((j : Int) + 1), .bool false, .int .i64 0]) (by simp [results, Tryz.results103, go_sem]) rfl ⟨?_, hbw.trans hb⟩
        rw [HF.out]
        simp [pcR]
      · have hcb := beq_f hcq
        have P := Tryz.strings_HasPrefix (s.extract j s.size) ⟨#[36, 123]⟩ wr
        rw [Lib.extract_to_end, DJ] at P
        have eP : Lib.hasPrefix (c :: s.data.toList.drop (j + 1)) (⟨#[36, 123]⟩ : ByteArray).data.toList = dol (c :: s.data.toList.drop (j + 1)) := rfl
        rw [eP] at P
        clear eP
        by_cases hdl : dol (c :: s.data.toList.drop (j + 1)) = true
        · have hfin : R = (out, j + 2, true, 0) := by rw [HJ.out, DJ, pc_open hcq hdl]
          have HF := Lib.hid hfin
          rw [hdl] at P
          clear hfin HJ DJ hcq hdl
          have HP := Lib.hid P
          clear P
          go_wp2_with (first | (go_at_call 64; refine HP.out.mono ?_; rintro e w' ⟨rfl, hw⟩; subst hw) | (go_at_call 27; refine (Tryz.Builder_String_any w.heap.size w.heap.size out _ hI hsz).mono ?_; rintro e w' ⟨rfl, hb⟩))
          refine bodyPost_ret (v := .tuple #[.string ⟨out.toArray⟩, .int .i64 ((j : Int) + 2), .bool true, .int .i64 0]) (by simp [results, Tryz.results103, go_sem]) rfl ⟨?_, hbw.trans hb⟩
          rw [HF.out]
          simp [pcR]
        · have hdf : dol (c :: s.data.toList.drop (j + 1)) = false := by simpa using hdl
          rw [hdf] at P
          have HP := Lib.hid P
          clear P hdf
          by_cases he : (unitV (s.data.toList.drop j)).2.2 = 0
          · by_cases ho2 : out.length = 65536
            · have hfin : R = ([], 0, false, 9) := by rw [DJ] at he; rw [HJ.out, DJ, pc_long hcq hdl he ho2]
              have HF := Lib.hid hfin
              clear hfin HJ DJ hcq hdl
              have HO := Lib.hid ho2
              have HE := Lib.hid he
              clear ho2 he
              go_wp2_with (first | (go_at_call 64; refine HP.out.mono ?_; rintro e w' ⟨rfl, hw⟩; subst hw) | (go_at_call 153; refine (add_long s j w.heap.size w.heap.size out _ hs hjs HE.out hI HO.out).mono ?_; rintro e w' ⟨rfl, hw⟩; subst hw))
              refine bodyPost_ret (v := .tuple #[.string ⟨#[]⟩, .int .i64 0, .bool false, .int .i64 9]) (by simp [results, Tryz.results103, go_sem]) rfl ⟨?_, hbw⟩
              rw [HF.out]
              rfl
            · have hul := unit_len _ he
              rw [List.length_drop] at hul
              have hul2 : (unitV (s.data.toList.drop j)).2.1 ≤ s.size - j := by simpa using hul.1
              have hul1 := hul.2
              clear hul
              have hfin : R = pcV m (s.data.toList.drop (j + (unitV (s.data.toList.drop j)).2.1)) (j + (unitV (s.data.toList.drop j)).2.1) (out ++ [byt (unitV (s.data.toList.drop j)).1]) := by
                have he' := he
                rw [DJ] at he'
                rw [HJ.out, ← List.drop_drop, DJ, pc_go hcq hdl he' ho2]
              have HF := Lib.hid hfin
              clear hfin HJ DJ hcq hdl
              have HE := Lib.hid he
              clear he
              have A := fun W hI2 hsz2 => add_ok s j w.heap.size w.heap.size out W hs hjs HE.out hI2 (by omega) hsz2
              clear HE
              obtain ⟨un, hun⟩ : ∃ un, un = (unitV (s.data.toList.drop j)).2.1 := ⟨_, rfl⟩
              obtain ⟨ub, hub⟩ : ∃ ub, ub = (unitV (s.data.toList.drop j)).1 := ⟨_, rfl⟩
              rw [← hun] at hul1 hul2
              rw [← hun, ← hub] at HF
              simp only [← hun, ← hub] at A
              clear hun hub
              have HA := Lib.hid A
              clear A
              go_wp2_with (first | (go_at_call 64; refine HP.out.mono ?_; rintro e w' ⟨rfl, hw⟩; subst hw) | (go_at_call 153; refine (HA.out _ hI hsz).mono ?_; rintro e w' ⟨rfl, hI2, hb⟩))
              go_roundw
              case rel => exact ⟨j + un, m, _, by go_num, rfl, by omega, by omega, HF.out, by simp; omega, hI2, hbw.trans hb⟩
              case measure => simp [intOf]; omega
          · have hfin : R = ([], 0, false, (unitV (s.data.toList.drop j)).2.2) := by
              have he' := he
              rw [DJ] at he'
              rw [HJ.out, DJ, pc_err hcq hdl he']
            have HF := Lib.hid hfin
            clear hfin HJ DJ hcq hdl
            have A := fun W => add_err s j w.heap.size W hs hjs he
            obtain ⟨ue, hue⟩ : ∃ ue, ue = (unitV (s.data.toList.drop j)).2.2 := ⟨_, rfl⟩
            rw [← hue] at HF he
            simp only [← hue] at A
            clear hue
            have hne : (ue != 0) = true := by simpa using he
            clear he
            have HA := Lib.hid A
            clear A
            go_wp2_with (first | (go_at_call 64; refine HP.out.mono ?_; rintro e w' ⟨rfl, hw⟩; subst hw) | (go_at_call 153; refine (HA.out _).mono ?_; rintro e w' ⟨rfl, hw⟩; subst hw))
            refine bodyPost_ret (v := .tuple #[.string ⟨#[]⟩, .int .i64 0, .bool false, .int .i64 ue]) (by simp [results, Tryz.results103, go_sem]) rfl ⟨?_, hbw⟩
            rw [HF.out]
            rfl
    · have hfin : R = ([], 0, false, 8) := by rw [HJ.out, drop_out s j hjs, pc_nil]
      have HF := Lib.hid hfin
      clear hfin HJ
      go_wp2
      refine bodyPost_ret (v := .tuple #[.string ⟨#[]⟩, .int .i64 0, .bool false, .int .i64 8]) (by simp [results, Tryz.results103, go_sem]) rfl ⟨?_, hbw⟩
      rw [HF.out]
      rfl

theorem piece_out (s : ByteArray) (k : Int) (w : World) (hs : s.size ≤ 4000000) (hk : k < 0 ∨ s.size ≤ k) :
    Calls Tryz.prog 103 #[.string s, .int .i64 k] w fun e w' => e = .returned (.tuple #[.string ⟨#[]⟩, .int .i64 0, .bool false, .int .i64 1]) ∧ Below w.heap.size w w' := by
  have H := holds_out s k 96 125 w hs hk
  clear hk
  go_enter Tryz.func103, Tryz.ntmps103
  go_wp2_with (go_at_call 152; refine H.mono ?_; rintro e w' ⟨rfl, rfl⟩)
  exact bodyPost_ret (v := .tuple #[.string ⟨#[]⟩, .int .i64 0, .bool false, .int .i64 1]) (by simp [results, Tryz.results103, go_sem]) rfl ⟨rfl, Below.refl _ w⟩

theorem piece_no (s : ByteArray) (k : Nat) (q : UInt8) (w : World) (hk : k < s.size) (hx : s[k] = q) (hq : ¬ ((q.toNat : Int) = 96 ∨ (q.toNat : Int) = 125)) :
    Calls Tryz.prog 103 #[.string s, .int .i64 k] w fun e w' => e = .returned (.tuple #[.string ⟨#[]⟩, .int .i64 0, .bool false, .int .i64 1]) ∧ Below w.heap.size w w' := by
  have H := holds_in s k q 96 125 w hk hx
  have hqb : ((q.toNat : Int) == 96 || (q.toNat : Int) == 125) = false := by rw [beq_f (fun h => hq (Or.inl h)), beq_f (fun h => hq (Or.inr h))]; rfl
  rw [hqb] at H
  clear hqb hq
  go_enter Tryz.func103, Tryz.ntmps103
  go_wp2_with (go_at_call 152; refine H.mono ?_; rintro e w' ⟨rfl, rfl⟩)
  exact bodyPost_ret (v := .tuple #[.string ⟨#[]⟩, .int .i64 0, .bool false, .int .i64 1]) (by simp [results, Tryz.results103, go_sem]) rfl ⟨rfl, Below.refl _ w⟩

end Go.Proofs.YthkjdllpgcocpaaGreatDoor
