/-
  written of the reference of package token at this translation.
-/
import Derived.Test.YthkjdllpgcocpaaGreatDoorWOwn
import Derived.Deep.LoopGhost
import Derived.Deep.AppendLies
import Derived.Deep.RegionLaw
import Derived.Deep.Cut
import Derived.Deep.CutRange
namespace Go.Proofs.YthkjdllpgcocpaaGreatDoor
open Go.RowKit

def codes (M : ByteArray) : List Int := M.data.toList.map fun c => (c.toNat : Int)
theorem wI_b (m : List Int) (c : Int) (h0 : 0 ≤ c) (h1 : c ≤ 255) : ∀ x ∈ wI m c, 0 ≤ x ∧ x ≤ 255 := by
  have d1 := hexD_b (c / 16) (by omega) (by omega)
  have d2 := hexD_b (c % 16) (by omega) (by omega)
  intro x hx
  unfold wI at hx
  by_cases h0' : c ∈ m
  · rw [if_pos h0'] at hx
    simp at hx
    omega
  rw [if_neg h0'] at hx
  by_cases h1 : c = 10
  · rw [if_pos h1] at hx
    simp at hx
    omega
  rw [if_neg h1] at hx
  by_cases h2 : c = 9
  · rw [if_pos h2] at hx
    simp at hx
    omega
  rw [if_neg h2] at hx
  by_cases h3 : c = 13
  · rw [if_pos h3] at hx
    simp at hx
    omega
  rw [if_neg h3] at hx
  by_cases h4 : c = 0
  · rw [if_pos h4] at hx
    simp at hx
    omega
  rw [if_neg h4] at hx
  by_cases h5 : c < 32 ∨ 126 < c
  · rw [if_pos h5] at hx
    simp at hx
    omega
  rw [if_neg h5] at hx
  simp at hx
  omega
theorem bc_app (out : List UInt8) (L : List Int) (h : ∀ x ∈ L, 0 ≤ x ∧ x ≤ 255) : Lib.byteCells (out ++ L.map byt) = Lib.byteCells out ++ L.map (Value.int .u8) := by
  rw [Lib.byteCells_append, byt_cells _ h]
theorem codes_take (M : ByteArray) (k : Nat) (h : k < M.size) : (codes M).take (k + 1) = (codes M).take k ++ [((M[k]'h).toNat : Int)] := by
  unfold codes
  rw [← List.map_take, ← List.map_take, take_snoc M k h]
  simp
theorem codes_all (M : ByteArray) : (codes M).take M.size = codes M := List.take_of_length_le (by simp [codes])
theorem wL_take (m : List Int) (s : ByteArray) (j : Nat) (h : j < s.size) : wL m (s.data.toList.take (j + 1)) = wL m (s.data.toList.take j) ++ (wI m ((s[j]'h).toNat : Int)).map byt := by
  rw [take_snoc s j h, wL_snoc]
theorem wL_tl (m : List Int) (s : ByteArray) (j : Nat) : (wL m (s.data.toList.take j)).length ≤ 4 * j := by
  have h1 := wL_len m (s.data.toList.take j)
  have h2 : (s.data.toList.take j).length ≤ j := List.length_take_le _ _
  omega
theorem news_atd (w : World) (us : List Value) : ∀ (j : Nat) (x : Value), us[j]? = some x → (w.alloc (.cells us.toArray 5)).drew.cell? ((⟨w.heap.size, 0, none⟩ : Addr).add j) = some x := fun j x hj => news_at w us j x hj
theorem u8_info : (Tryz.prog.info? 5).map (fun i => (i.zero, i.size, i.bytes)) = some (some (.int .u8 0), 1, 1) := by kernel_rfl

set_option linter.unusedVariables false in
set_option maxRecDepth 100000 in
set_option maxHeartbeats 8000000 in
theorem written_any (s M : ByteArray) (w : World) (hs : s.size ≤ 4000000) (hM : M.size ≤ 100) :
    Calls Tryz.prog 24 #[.string s, .string M] w fun e w' => e = .returned (.string ⟨(wL (codes M) s.data.toList).toArray⟩) ∧ Below w.heap.size w w' := by
  obtain ⟨i0, hi, hz0, hz1, hz2⟩ := info_parts u8_info
  have hT : Tryz.prog.underlying 51 = some (.slice 5) := Tryz.underlying51
  have HV : Hid ((w.alloc (.cells #[] 5)).ownsRow w.heap.size 5 1 (.slice (some ⟨w.heap.size, 0, none⟩) 0 0) 0 [] ∧ Below w.heap.size w (w.alloc (.cells #[] 5))) := Lib.hid ⟨World.ownsRow_made w #[] 0 (Nat.le_refl _) (by unfold maxLen; omega) rfl, (Below.refl _ w).alloc (Nat.le_refl _) _⟩
  go_enter Tryz.func24, Tryz.ntmps24
  go_wp2
  go_loopg [5, 7] s.size (fun g v u wz => ∃ (j : Nat) (out : List UInt8), u = .int .i64 j ∧ j + g = s.size ∧ Hid (out = wL (codes M) (s.data.toList.take j)) ∧ out.length ≤ 4 * j ∧ wz.ownsRow w.heap.size 5 1 v out.length (Lib.byteCells out) ∧ Below w.heap.size w wz)
  case atStart => exact ⟨0, [], rfl, by omega, Lib.hid (by simp [wL]), by simp, by simpa [Lib.byteCells] using HV.out.1, HV.out.2⟩
  case round =>
    obtain ⟨j, out, rfl, hjg, HO, hol, hown, hbw⟩ := hrel
    obtain ⟨ao, cap, rfl⟩ := own_form hown
    clear HV
    have hsz : w.heap.size ≤ wr.heap.size := hbw.size
    by_cases hjs : j < s.size
    · obtain ⟨c, hc⟩ : ∃ c : UInt8, s[j] = c := ⟨_, rfl⟩
      have hj1 : decide ((j : Int) < (s.size : Int)) = true := decide_eq_true (by omega)
      have hj2 : (j : Int) < (s.size : Int) := by omega
      have hstep := wL_take (codes M) s j hjs
      rw [hc, ← HO.out] at hstep
      have HS := Lib.hid hstep
      have hc0 : (0 : Int) ≤ c.toNat ∧ (c.toNat : Int) ≤ 255 := by have := c.toNat_lt; omega
      clear hstep
      go_wp2
      go_loopg [9, 10] M.size (fun h v u wz => ∃ (k : Nat) (mb : Bool), v = .bool mb ∧ u = .int .i64 k ∧ k + h = M.size ∧ Hid (mb = decide ((c.toNat : Int) ∈ (codes M).take k)) ∧ wr = wz)
      case atStart => exact ⟨0, false, rfl, rfl, by omega, Lib.hid (by simp), rfl⟩
      case round =>
        obtain ⟨k, mb, rfl, rfl, hkg, HK, rfl⟩ := hrel
        by_cases hkm : k < M.size
        · obtain ⟨d, hd⟩ : ∃ d : UInt8, M[k] = d := ⟨_, rfl⟩
          have hk1 : decide ((k : Int) < (M.size : Int)) = true := decide_eq_true (by omega)
          have hk2 : (k : Int) < (M.size : Int) := by omega
          have ht := codes_take M k hkm
          rw [hd] at ht
          cases mb with
          | true =>
            have HK' : Hid (true = decide ((c.toNat : Int) ∈ (codes M).take (k + 1))) := Lib.hid (by
              have h1 := of_decide_eq_true HK.out.symm
              rw [ht]
              exact (decide_eq_true (List.mem_append_left _ h1)).symm)
            clear ht HK
            go_wp2
            go_roundg (M.size - (k + 1))
            case measure => omega
            case rel => exact ⟨k + 1, true, rfl, by go_num, by omega, HK', rfl⟩
          | false =>
            have h1 := of_decide_eq_false HK.out.symm
            cases he : ((d.toNat : Int) == (c.toNat : Int)) with
            | true =>
              have HK' : Hid (true = decide ((c.toNat : Int) ∈ (codes M).take (k + 1))) := Lib.hid (by
                rw [ht]
                have : (d.toNat : Int) = (c.toNat : Int) := by simpa using he
                exact (decide_eq_true (List.mem_append_right _ (by rw [this]; simp))).symm)
              clear ht HK h1
              go_wp2
              go_roundg (M.size - (k + 1))
              case measure => omega
              case rel => exact ⟨k + 1, true, rfl, by go_num, by omega, HK', rfl⟩
            | false =>
              have HK' : Hid (false = decide ((c.toNat : Int) ∈ (codes M).take (k + 1))) := Lib.hid (by
                rw [ht]
                have hne : ¬ (d.toNat : Int) = (c.toNat : Int) := by simpa using he
                refine (decide_eq_false fun hm => ?_).symm
                rcases List.mem_append.1 hm with hm | hm
                · exact h1 hm
                · exact hne (by simpa using (List.mem_singleton.1 hm).symm))
              clear ht HK h1
              go_wp2
              go_roundg (M.size - (k + 1))
              case measure => omega
              case rel => exact ⟨k + 1, false, rfl, by go_num, by omega, HK', rfl⟩
        · have hk1 : decide ((k : Int) < (M.size : Int)) = false := decide_eq_false (by omega)
          obtain rfl : k = M.size := by omega
          have hmb := HK.out
          rw [codes_all] at hmb
          clear HK
          have hb := wI_b (codes M) c.toNat hc0.1 hc0.2
          have hlen := wI_len (codes M) c.toNat
          cases mb with
          | true =>
            have hI : wI (codes M) c.toNat = [92, (c.toNat : Int)] := by
              unfold wI
              rw [if_pos (of_decide_eq_true hmb.symm)]
            rw [hI] at hb hlen
            have HF := Lib.hid (And.intro HS.out (And.intro hI hb))
            clear hI hb hlen hmb
            go_wp2_with (at_builtin; refine wpList_append_own _ rfl _ _ 51 rfl w.heap.size 5 i0 (.int .u8 0) 1 1 hT hi hz0 hz1 hz2 rfl (by decide) _ _ _ rfl (hown.alloc _) ⟨_, 0, none⟩ 2 2 [.int .u8 92, .int .u8 (c.toNat : Int)] rfl rfl ?_ ?_ ?_ ?_ ?_ ?_; exact news_at wr [.int .u8 92, .int .u8 (c.toNat : Int)]; exact u8s [92, (c.toNat : Int)]; (unfold maxLen; omega); omega; (simp; omega))
            intro v' w2 hown' hgrow _
            have hown2 : w2.ownsRow w.heap.size 5 1 v' (out ++ ([92, (c.toNat : Int)] : List Int).map byt).length (Lib.byteCells (out ++ ([92, (c.toNat : Int)] : List Int).map byt)) := by
              rw [bc_app _ _ HF.out.2.2]
              simpa using hown'
            have hb2 : Below w.heap.size w w2 := ((hbw).alloc (hsz) _).grown hgrow (by simp; omega) (fun k hk => (hown.lt k hk).1)
            clear hown' hgrow hown hbw
            go_wp2
            go_roundg (s.size - (j + 1))
            case measure => omega
            case rel => exact ⟨j + 1, out ++ ([92, (c.toNat : Int)] : List Int).map byt, by go_num, by omega, Lib.hid (by rw [HF.out.1, HF.out.2.1]), by simp; omega, hown2, hb2⟩
          | false =>
            have hnm := of_decide_eq_false hmb.symm
            by_cases c10 : (c.toNat : Int) = 10
            · have gc10 : ((c.toNat : Int) == 10) = true := by simpa using c10
              have hI : wI (codes M) c.toNat = [92, 110] := by
                unfold wI
                rw [if_neg hnm, if_pos c10]
              rw [hI] at hb hlen
              have HF := Lib.hid (And.intro HS.out (And.intro hI hb))
              clear hI hb hlen hmb
              clear c10
              go_wp2_with (at_builtin; refine wpList_append_own _ rfl _ _ 51 rfl w.heap.size 5 i0 (.int .u8 0) 1 1 hT hi hz0 hz1 hz2 rfl (by decide) _ _ _ rfl (hown.alloc _) ⟨_, 0, none⟩ 2 2 [.int .u8 92, .int .u8 110] rfl rfl ?_ ?_ ?_ ?_ ?_ ?_; exact news_at wr [.int .u8 92, .int .u8 110]; exact u8s [92, 110]; (unfold maxLen; omega); omega; (simp; omega))
              intro v' w2 hown' hgrow _
              have hown2 : w2.ownsRow w.heap.size 5 1 v' (out ++ ([92, 110] : List Int).map byt).length (Lib.byteCells (out ++ ([92, 110] : List Int).map byt)) := by
                rw [bc_app _ _ HF.out.2.2]
                simpa using hown'
              have hb2 : Below w.heap.size w w2 := ((hbw).alloc (hsz) _).grown hgrow (by simp; omega) (fun k hk => (hown.lt k hk).1)
              clear hown' hgrow hown hbw
              go_wp2
              go_roundg (s.size - (j + 1))
              case measure => omega
              case rel => exact ⟨j + 1, out ++ ([92, 110] : List Int).map byt, by go_num, by omega, Lib.hid (by rw [HF.out.1, HF.out.2.1]), by simp; omega, hown2, hb2⟩
            have gc10 : ((c.toNat : Int) == 10) = false := by simpa using c10
            by_cases c9 : (c.toNat : Int) = 9
            · have gc9 : ((c.toNat : Int) == 9) = true := by simpa using c9
              have hI : wI (codes M) c.toNat = [92, 116] := by
                unfold wI
                rw [if_neg hnm, if_neg c10, if_pos c9]
              rw [hI] at hb hlen
              have HF := Lib.hid (And.intro HS.out (And.intro hI hb))
              clear hI hb hlen hmb
              clear c9
              go_wp2_with (at_builtin; refine wpList_append_own _ rfl _ _ 51 rfl w.heap.size 5 i0 (.int .u8 0) 1 1 hT hi hz0 hz1 hz2 rfl (by decide) _ _ _ rfl (hown.alloc _) ⟨_, 0, none⟩ 2 2 [.int .u8 92, .int .u8 116] rfl rfl ?_ ?_ ?_ ?_ ?_ ?_; exact news_at wr [.int .u8 92, .int .u8 116]; exact u8s [92, 116]; (unfold maxLen; omega); omega; (simp; omega))
              intro v' w2 hown' hgrow _
              have hown2 : w2.ownsRow w.heap.size 5 1 v' (out ++ ([92, 116] : List Int).map byt).length (Lib.byteCells (out ++ ([92, 116] : List Int).map byt)) := by
                rw [bc_app _ _ HF.out.2.2]
                simpa using hown'
              have hb2 : Below w.heap.size w w2 := ((hbw).alloc (hsz) _).grown hgrow (by simp; omega) (fun k hk => (hown.lt k hk).1)
              clear hown' hgrow hown hbw
              go_wp2
              go_roundg (s.size - (j + 1))
              case measure => omega
              case rel => exact ⟨j + 1, out ++ ([92, 116] : List Int).map byt, by go_num, by omega, Lib.hid (by rw [HF.out.1, HF.out.2.1]), by simp; omega, hown2, hb2⟩
            have gc9 : ((c.toNat : Int) == 9) = false := by simpa using c9
            by_cases c13 : (c.toNat : Int) = 13
            · have gc13 : ((c.toNat : Int) == 13) = true := by simpa using c13
              have hI : wI (codes M) c.toNat = [92, 114] := by
                unfold wI
                rw [if_neg hnm, if_neg c10, if_neg c9, if_pos c13]
              rw [hI] at hb hlen
              have HF := Lib.hid (And.intro HS.out (And.intro hI hb))
              clear hI hb hlen hmb
              clear c13
              go_wp2_with (at_builtin; refine wpList_append_own _ rfl _ _ 51 rfl w.heap.size 5 i0 (.int .u8 0) 1 1 hT hi hz0 hz1 hz2 rfl (by decide) _ _ _ rfl (hown.alloc _) ⟨_, 0, none⟩ 2 2 [.int .u8 92, .int .u8 114] rfl rfl ?_ ?_ ?_ ?_ ?_ ?_; exact news_at wr [.int .u8 92, .int .u8 114]; exact u8s [92, 114]; (unfold maxLen; omega); omega; (simp; omega))
              intro v' w2 hown' hgrow _
              have hown2 : w2.ownsRow w.heap.size 5 1 v' (out ++ ([92, 114] : List Int).map byt).length (Lib.byteCells (out ++ ([92, 114] : List Int).map byt)) := by
                rw [bc_app _ _ HF.out.2.2]
                simpa using hown'
              have hb2 : Below w.heap.size w w2 := ((hbw).alloc (hsz) _).grown hgrow (by simp; omega) (fun k hk => (hown.lt k hk).1)
              clear hown' hgrow hown hbw
              go_wp2
              go_roundg (s.size - (j + 1))
              case measure => omega
              case rel => exact ⟨j + 1, out ++ ([92, 114] : List Int).map byt, by go_num, by omega, Lib.hid (by rw [HF.out.1, HF.out.2.1]), by simp; omega, hown2, hb2⟩
            have gc13 : ((c.toNat : Int) == 13) = false := by simpa using c13
            by_cases c0 : (c.toNat : Int) = 0
            · have gc0 : ((c.toNat : Int) == 0) = true := by simpa using c0
              have hI : wI (codes M) c.toNat = [92, 48] := by
                unfold wI
                rw [if_neg hnm, if_neg c10, if_neg c9, if_neg c13, if_pos c0]
              rw [hI] at hb hlen
              have HF := Lib.hid (And.intro HS.out (And.intro hI hb))
              clear hI hb hlen hmb
              clear c0
              go_wp2_with (at_builtin; refine wpList_append_own _ rfl _ _ 51 rfl w.heap.size 5 i0 (.int .u8 0) 1 1 hT hi hz0 hz1 hz2 rfl (by decide) _ _ _ rfl (hown.alloc _) ⟨_, 0, none⟩ 2 2 [.int .u8 92, .int .u8 48] rfl rfl ?_ ?_ ?_ ?_ ?_ ?_; exact news_at wr [.int .u8 92, .int .u8 48]; exact u8s [92, 48]; (unfold maxLen; omega); omega; (simp; omega))
              intro v' w2 hown' hgrow _
              have hown2 : w2.ownsRow w.heap.size 5 1 v' (out ++ ([92, 48] : List Int).map byt).length (Lib.byteCells (out ++ ([92, 48] : List Int).map byt)) := by
                rw [bc_app _ _ HF.out.2.2]
                simpa using hown'
              have hb2 : Below w.heap.size w w2 := ((hbw).alloc (hsz) _).grown hgrow (by simp; omega) (fun k hk => (hown.lt k hk).1)
              clear hown' hgrow hown hbw
              go_wp2
              go_roundg (s.size - (j + 1))
              case measure => omega
              case rel => exact ⟨j + 1, out ++ ([92, 48] : List Int).map byt, by go_num, by omega, Lib.hid (by rw [HF.out.1, HF.out.2.1]), by simp; omega, hown2, hb2⟩
            have gc0 : ((c.toNat : Int) == 0) = false := by simpa using c0
            by_cases hlo : (c.toNat : Int) < 32 ∨ 126 < (c.toNat : Int)
            · have hI : wI (codes M) c.toNat = [92, 120, hexD ((c.toNat : Int) / 16), hexD ((c.toNat : Int) % 16)] := by
                unfold wI
                rw [if_neg hnm, if_neg c10, if_neg c9, if_neg c13, if_neg c0, if_pos hlo]
              rw [hI] at hb hlen
              have HF := Lib.hid (And.intro HS.out (And.intro hI hb))
              clear hI hb hlen hmb
              have hx1 := fun h => hexAt ((c.toNat : Int) / 16) (by omega) (by omega) h
              have hx2 := fun h => hexAt ((c.toNat : Int) % 16) (by omega) (by omega) h
              have hw1 : IntKind.u8.wrap ((c.toNat : Int) / 16) = (c.toNat : Int) / 16 := by simp [IntKind.wrap, IntKind.bits, IntKind.signed]; omega
              have hw2 : IntKind.u8.wrap ((c.toNat : Int) % 16) = (c.toNat : Int) % 16 := by simp [IntKind.wrap, IntKind.bits, IntKind.signed]; omega
              have hq1 : (c.toNat : Int) / 16 < 16 := by omega
              have hq2 : (c.toNat : Int) % 16 < 16 := by omega
              have hq3 : 0 ≤ (c.toNat : Int) / 16 := by omega
              have htm : ((c.toNat : Int)).tmod 16 = (c.toNat : Int) % 16 := Int.tmod_eq_emod_of_nonneg hc0.1
              have hq4 : 0 ≤ (c.toNat : Int) % 16 := by omega
              obtain ⟨u1, hu1⟩ : ∃ u1, u1 = hexD ((c.toNat : Int) / 16) := ⟨_, rfl⟩
              obtain ⟨u2, hu2⟩ : ∃ u2, u2 = hexD ((c.toNat : Int) % 16) := ⟨_, rfl⟩
              simp only [← hu1, ← hu2] at hx1 hx2 HF
              clear hu1 hu2 c10 c9 c13 c0
              have g32 : decide ((c.toNat : Int) < 32) = true ∨ (decide ((c.toNat : Int) < 32) = false ∧ decide (126 < (c.toNat : Int)) = true) := by
                rcases hlo with h | h
                · exact .inl (decide_eq_true h)
                · exact .inr ⟨decide_eq_false (by omega), decide_eq_true h⟩
              clear hlo
              rcases g32 with g32 | ⟨g32, g126⟩
              · go_upto_region 23 with fail
                go_region_law (refine step_append_lies _ (by rfl) _ _ _ (by rfl) w.heap.size 5 i0 _ 1 1 hT hi hz0 hz1 hz2 rfl (by omega) (.slice ao out.length cap) (out.length) (Lib.byteCells out) (by rfl) ((hown.alloc _).drew) ⟨wr.heap.size, 0, none⟩ 4 4 [.int .u8 92, .int .u8 120, .int .u8 u1, .int .u8 u2] (by rfl) (by rfl) (news_atd wr [.int .u8 92, .int .u8 120, .int .u8 u1, .int .u8 u2]) (u8s [92, 120, u1, u2]) (by omega) (by unfold maxLen; omega) (by omega) (by simp; omega) (wr.heap.size + 1) (by simp) ?_; intro g gc w2 hown' hgrow hat hlt)
                go_wp2
                all_goals
                  have hown2 : w2.ownsRow w.heap.size 5 1 (.slice (some ⟨g, 0, none⟩) (out.length + 4) gc) (out ++ ([92, 120, u1, u2] : List Int).map byt).length (Lib.byteCells (out ++ ([92, 120, u1, u2] : List Int).map byt)) := by
                    rw [bc_app _ _ HF.out.2.2]
                    simpa using hown'
                  have hb2 : Below w.heap.size w w2 := (((hbw).alloc (hsz) _).drew).grown hgrow (by simp; omega) (fun k hk => (hown.lt k hk).1)
                  clear hown' hgrow hown hbw
                  go_wp2
                  go_roundg (s.size - (j + 1))
                  case measure => omega
                  case rel => exact ⟨j + 1, out ++ ([92, 120, u1, u2] : List Int).map byt, by go_num, by omega, Lib.hid (by rw [HF.out.1, HF.out.2.1]), by simp; omega, hown2, hb2⟩
              · go_upto_region 23 with fail
                go_region_law (refine step_append_lies _ (by rfl) _ _ _ (by rfl) w.heap.size 5 i0 _ 1 1 hT hi hz0 hz1 hz2 rfl (by omega) (.slice ao out.length cap) (out.length) (Lib.byteCells out) (by rfl) ((hown.alloc _).drew) ⟨wr.heap.size, 0, none⟩ 4 4 [.int .u8 92, .int .u8 120, .int .u8 u1, .int .u8 u2] (by rfl) (by rfl) (news_atd wr [.int .u8 92, .int .u8 120, .int .u8 u1, .int .u8 u2]) (u8s [92, 120, u1, u2]) (by omega) (by unfold maxLen; omega) (by omega) (by simp; omega) (wr.heap.size + 1) (by simp) ?_; intro g gc w2 hown' hgrow hat hlt)
                go_wp2
                all_goals
                  have hown2 : w2.ownsRow w.heap.size 5 1 (.slice (some ⟨g, 0, none⟩) (out.length + 4) gc) (out ++ ([92, 120, u1, u2] : List Int).map byt).length (Lib.byteCells (out ++ ([92, 120, u1, u2] : List Int).map byt)) := by
                    rw [bc_app _ _ HF.out.2.2]
                    simpa using hown'
                  have hb2 : Below w.heap.size w w2 := (((hbw).alloc (hsz) _).drew).grown hgrow (by simp; omega) (fun k hk => (hown.lt k hk).1)
                  clear hown' hgrow hown hbw
                  go_wp2
                  go_roundg (s.size - (j + 1))
                  case measure => omega
                  case rel => exact ⟨j + 1, out ++ ([92, 120, u1, u2] : List Int).map byt, by go_num, by omega, Lib.hid (by rw [HF.out.1, HF.out.2.1]), by simp; omega, hown2, hb2⟩
            have g32 : decide ((c.toNat : Int) < 32) = false := decide_eq_false (by omega)
            have g126 : decide (126 < (c.toNat : Int)) = false := decide_eq_false (by omega)
            have hI : wI (codes M) c.toNat = [(c.toNat : Int)] := by
              unfold wI
              rw [if_neg hnm, if_neg c10, if_neg c9, if_neg c13, if_neg c0, if_neg hlo]
            rw [hI] at hb hlen
            have HF := Lib.hid (And.intro HS.out (And.intro hI hb))
            clear hI hb hlen hmb
            clear c10 c9 c13 c0 hlo hnm
            go_wp2_with (at_builtin; refine wpList_append_own _ rfl _ _ 51 rfl w.heap.size 5 i0 (.int .u8 0) 1 1 hT hi hz0 hz1 hz2 rfl (by decide) _ _ _ rfl (hown.alloc _) ⟨_, 0, none⟩ 1 1 [.int .u8 (c.toNat : Int)] rfl rfl ?_ ?_ ?_ ?_ ?_ ?_; exact news_at wr [.int .u8 (c.toNat : Int)]; exact u8s [(c.toNat : Int)]; (unfold maxLen; omega); omega; (simp; omega))
            intro v' w2 hown' hgrow _
            have hown2 : w2.ownsRow w.heap.size 5 1 v' (out ++ ([(c.toNat : Int)] : List Int).map byt).length (Lib.byteCells (out ++ ([(c.toNat : Int)] : List Int).map byt)) := by
              rw [bc_app _ _ HF.out.2.2]
              simpa using hown'
            have hb2 : Below w.heap.size w w2 := ((hbw).alloc (hsz) _).grown hgrow (by simp; omega) (fun k hk => (hown.lt k hk).1)
            clear hown' hgrow hown hbw
            go_wp2
            go_roundg (s.size - (j + 1))
            case measure => omega
            case rel => exact ⟨j + 1, out ++ ([(c.toNat : Int)] : List Int).map byt, by go_num, by omega, Lib.hid (by rw [HF.out.1, HF.out.2.1]), by simp; omega, hown2, hb2⟩
    · have hj1 : decide ((j : Int) < (s.size : Int)) = false := decide_eq_false (by omega)
      obtain rfl : j = s.size := by omega
      have hcv : (convert 51 9 (.slice ao out.length cap)).run Tryz.prog wr = .ok (.string ⟨out.toArray⟩) wr := conv_own hown
      have ht : s.data.toList.take s.size = s.data.toList := List.take_of_length_le (by simp)
      have he : out = wL (codes M) s.data.toList := by rw [HO.out, ht]
      have HE := Lib.hid he
      clear he ht HO
      go_wp2
      go_ret
      refine ⟨?_, hbw⟩
      rw [HE.out]
      rfl
end Go.Proofs.YthkjdllpgcocpaaGreatDoor
