/-
  Read of the reference at this translation.
-/
import Derived.Test.YtokpmpmlbmpnmaaDoorTrim
import Derived.Deep.Cut
import Derived.Test.YtokpmpmlbmpnmaaDoorRead
import Derived.Test.YtokpmpmlbmpnmaaDoorIs
namespace Go.Proofs.YtokpmpmlbmpnmaaDoor
open Go.RowKit

set_option linter.unusedVariables false in
set_option maxRecDepth 100000 in
set_option maxHeartbeats 8000000 in
theorem refread_any (s : ByteArray) (w : World) (hs : s.size ≤ 9223372036854775807) : Calls Tryd.prog 28 #[.string s] w fun e w' => e = .returned (.agg #[.int .i64 (vK (rdS s.data.toList)), .int .i64 (vN (rdS s.data.toList)), .string ⟨#[]⟩]) ∧ Below w.heap.size w w' := by
  obtain ⟨O, hO⟩ : ∃ O, O = rdS s.data.toList := ⟨_, rfl⟩
  rw [← hO]
  unfold rdS at hO
  rw [tr_eq] at hO
  have HO := Lib.hid hO
  clear hO
  go_enter Tryd.func28, Tryd.ntmps28
  go_wp2_with fail
  go_loop [0] (fun v => ∃ u : ByteArray, v = .string u ∧ u.size ≤ 9223372036854775807 ∧ O = rdT (rtr (ltr u.data.toList))) (fun v => szOf v)
  case atStart => exact ⟨s, rfl, hs, HO.out⟩
  case round =>
    obtain ⟨u, rfl, hu, hOu⟩ := hrel
    have HU := Lib.hid hOu
    clear hOu HO hs
    have hus : u.data.toList.length = u.size := by simp
    cases hl : u.data.toList with
    | nil =>
      have hE : u.toList.isEmpty = true := by rw [ByteArray.toList_eq, hl]; rfl
      have HO : Hid (O = some 0) := Lib.hid (by rw [HU.out, hl]; rfl)
      clear hl HU hus
      go_wp2_with fail
      go_loop [0] (fun v => v = .string u) (fun _ => 0)
      case atStart => rfl
      case round =>
        subst hrel
        have HS : Hid (O = some (0)) := Lib.hid (HO.out)
        clear HO
        have hin : inB (0) = true := in_of (by omega) (by omega)
        have Q := fun W => refof_any (0) W
        rw [(of_in hin).1, (of_in hin).2] at Q
        have HQ := Lib.hid Q
        clear Q hin
        go_wp2_with fail
        refine (HQ.out _).mono ?_
        rintro e w1 ⟨rfl, hb⟩
        obtain ⟨q0, q1, q2, f0, f1, f2, hz⟩ := three hb (by simp) (heap_alloc_new w _)
        have hB : Below w.heap.size w w1 := thr (bel1 w _) hb (by simp)
        go_wp2
        refine bodyPost_ret (v := .agg #[.int .i64 3, .int .i64 (0), .string ⟨#[]⟩]) (by simp [results, Tryd.results28, go_sem, q0, q1, q2]) rfl ?_
        exact ⟨by rw [HS.out]; rfl, st3 hB (Nat.le_refl _)⟩
    | cons c r =>
      have hE : u.toList.isEmpty = false := by rw [ByteArray.toList_eq, hl]; rfl
      have hpos : 0 < u.size := by rw [← hus, hl]; simp
      have hc : u[0]'hpos = c := by
        have h0 : u.data.toList[0]? = some c := by rw [hl]; rfl
        rw [List.getElem?_eq_getElem (by omega)] at h0
        rw [← Option.some.inj h0]
        simp [ByteArray.getElem_eq_getElem_data]
      cases hb : blU c with
      | true =>
        have hbb : blB (c.toNat : Int) = true := hb
        have HL := Lib.hid hl
        clear hl
        go_wp2_with (go_at_call 44; refine (blank_any _ _).mono ?_; rintro e w' ⟨rfl, rfl⟩)
        go_round
        case rel =>
          refine ⟨_, rfl, Nat.le_trans (sub_size u 1) hu, ?_⟩
          have h := HU.out
          rw [HL.out, ltr_yes hb] at h
          rw [sub_end, HL.out]
          exact h
        case measure =>
          have : (u.extract 1 u.size).size < u.size := by rw [ByteArray.size_extract]; omega
          simpa [szOf] using this
      | false =>
        have hbb : blB (c.toNat : Int) = false := hb
        have HN : Hid (O = rdT (rtr u.data.toList)) := Lib.hid (by
          have h := HU.out
          rw [hl, ltr_no hb, ← hl] at h
          exact h)
        clear hl HU hus
        go_wp2_with (go_at_call 44; refine (blank_any _ _).mono ?_; rintro e w' ⟨rfl, rfl⟩)
        go_loop [0] (fun v => ∃ t : ByteArray, v = .string t ∧ t.size ≤ 9223372036854775807 ∧ O = rdT (rtr t.data.toList)) (fun v => szOf v)
        case atStart => exact ⟨u, rfl, hu, HN.out⟩
        case round =>
          clear hE hc hpos hb hbb HN hu
          obtain ⟨t, rfl, ht, hOt⟩ := hrel
          have HT := Lib.hid hOt
          clear hOt
          have hts : t.data.toList.length = t.size := by simp
          cases hl : t.data.toList with
          | nil =>
            have hE : t.toList.isEmpty = true := by rw [ByteArray.toList_eq, hl]; rfl
            have HO : Hid (O = some 0) := Lib.hid (by rw [HT.out, hl]; rfl)
            clear hl HT hts
            have HS : Hid (O = some (0)) := Lib.hid (HO.out)
            clear HO
            have hin : inB (0) = true := in_of (by omega) (by omega)
            have Q := fun W => refof_any (0) W
            rw [(of_in hin).1, (of_in hin).2] at Q
            have HQ := Lib.hid Q
            clear Q hin
            go_wp2_with fail
            refine (HQ.out _).mono ?_
            rintro e w1 ⟨rfl, hb⟩
            obtain ⟨q0, q1, q2, f0, f1, f2, hz⟩ := three hb (by simp) (heap_alloc_new w _)
            have hB : Below w.heap.size w w1 := thr (bel1 w _) hb (by simp)
            go_wp2
            refine bodyPost_ret (v := .agg #[.int .i64 3, .int .i64 (0), .string ⟨#[]⟩]) (by simp [results, Tryd.results28, go_sem, q0, q1, q2]) rfl ?_
            exact ⟨by rw [HS.out]; rfl, st3 hB (Nat.le_refl _)⟩
          | cons d r' =>
            have hE : t.toList.isEmpty = false := by rw [ByteArray.toList_eq, hl]; rfl
            have hpos : 0 < t.size := by rw [← hts, hl]; simp
            obtain ⟨x, hx⟩ : ∃ x, t[t.size - 1]'(Nat.sub_lt hpos Nat.one_pos) = x := ⟨_, rfl⟩
            have hlast := last_at t hpos
            rw [hx] at hlast
            have HLast := Lib.hid hlast
            clear hlast
            cases hbx : blU x with
            | true =>
              have hbb : blB (x.toNat : Int) = true := hbx
              clear hl
              go_wp2_with (go_at_call 44; refine (blank_any _ _).mono ?_; rintro e w' ⟨rfl, rfl⟩)
              go_round
              case rel =>
                refine ⟨_, rfl, ?_, ?_⟩
                · rw [ByteArray.size_extract]; omega
                · have h := HT.out
                  rw [HLast.out, rtr_yes hbx] at h
                  rw [pre_end]
                  exact h
              case measure =>
                have : (t.extract 0 (t.size - 1)).size < t.size := by rw [ByteArray.size_extract]; omega
                simpa [szOf] using this
            | false =>
              have hbb : blB (x.toNat : Int) = false := hbx
              have HO : Hid (O = rdT t.data.toList) := Lib.hid (by
                have h := HT.out
                rw [HLast.out, rtr_no hbx, ← HLast.out] at h
                exact h)
              clear HT HLast
              have h0 : t[0]'hpos = d := by
                have h0 : t.data.toList[0]? = some d := by rw [hl]; rfl
                rw [List.getElem?_eq_getElem (by omega)] at h0
                rw [← Option.some.inj h0]
                simp [ByteArray.getElem_eq_getElem_data]
              have hsz : t.size = r'.length + 1 := by rw [← hts, hl]; simp
              have d0 : (0 : Int) ≤ d.toNat := by omega
              have d1 : (d.toNat : Int) ≤ 255 := by have := d.toNat_lt; omega
              have hO : O = rdT (d :: r') := by rw [HO.out, hl]
              have HM45 : Hid (d = 45 → O = ngO (dgS 10 (t.extract 1 t.size).data.toList)) := Lib.hid (fun h => by
                rw [sub_end, hl, hO, rdT_cons, h]
                simp [Lib.hasPrefix])
              have HM43 : Hid (d = 43 → O = dgS 10 (t.extract 1 t.size).data.toList) := Lib.hid (fun h => by
                rw [sub_end, hl, hO, rdT_cons, h]
                simp [Lib.hasPrefix])
              have HMP : Hid (d ≠ 43 → d ≠ 45 → (Lib.hasPrefix (d :: r') [48, 120] = false ∧ Lib.hasPrefix (d :: r') [48, 88] = false) ∨ (d = 48 ∧ (r' = [120] ∨ r' = [88])) → O = dgS 10 t.data.toList) := Lib.hid (fun h3 h5 h => by
                rw [hl, hO, rdT_cons]
                rcases h with ⟨e1, e2⟩ | ⟨rfl, rfl | rfl⟩
                · rw [e1, e2, if_neg (by simp), if_neg h3, if_neg h5]
                · kernel_rfl
                · kernel_rfl)
              have HMX : Hid (Lib.hasPrefix (d :: r') [48, 120] = true ∨ Lib.hasPrefix (d :: r') [48, 88] = true → O = dgS 16 (t.extract 2 t.size).data.toList) := Lib.hid (fun h => by
                rw [sub_end, hl, hO, rdT_cons, if_pos h])
              have HL := Lib.hid hl
              have HSZ := Lib.hid hsz
              clear hl hO HO hts hsz
              go_upto_region 7 with ((go_at_call 44; refine (blank_any _ _).mono ?_; rintro e w' ⟨rfl, rfl⟩))
              clear hx hbx hbb hE
              generalize (x.toNat : Int) = xx
              generalize (t.size : Int) - 1 = z1
              by_cases h2 : 2 < t.size
              · have hI : (2 : Int) < t.size := by omega
                have hp1 : 1 < t.size := by omega
                obtain ⟨e, he⟩ : ∃ e, t[1]'hp1 = e := ⟨_, rfl⟩
                have hr : ∃ r2, r' = e :: r2 := by
                  have h1 : t.data.toList[1]? = some e := by
                    rw [← he, List.getElem?_eq_getElem (by simpa using hp1)]
                    simp [ByteArray.getElem_eq_getElem_data]
                  rw [HL.out] at h1
                  cases r' with
                  | nil => simp at h1
                  | cons y ys =>
                    simp at h1
                    exact ⟨ys, by rw [h1]⟩
                obtain ⟨r2, hr2⟩ := hr
                have HR2 := Lib.hid hr2
                clear hr2
                have e0 : (0 : Int) ≤ e.toNat := by omega
                have e1 : (e.toNat : Int) ≤ 255 := by have := e.toNat_lt; omega
                by_cases h48 : d = 48
                · have b48 : (d.toNat : Int) = 48 := by rw [h48]; rfl
                  by_cases h120 : e = 120
                  · have b120 : (e.toNat : Int) = 120 := by rw [h120]; rfl
                    go_wp2_with fail
                    have HM : Hid (O = (dgS 16 (t.extract 2 t.size).data.toList)) := Lib.hid (HMX.out (Or.inl (by rw [HR2.out, h48, h120]; simp [Lib.hasPrefix])))
                    refine (count16_any (t.extract 2 t.size) _ (Nat.le_trans (sub_size t 2) ht)).mono ?_
                    rintro e w' ⟨⟨v, ok, rfl, hv⟩, rfl⟩
                    have HV := Lib.hid hv
                    clear hv
                    cases ok with
                    | false =>
                      have hd : dgS 16 (t.extract 2 t.size).data.toList = none := by rcases HV.out with ⟨_, h, _⟩ | ⟨h, _⟩; cases h; exact h
                      have HN : Hid (O = none) := Lib.hid (by rw [HM.out, hd])
                      go_wp2
                      go_returns
                      exact ⟨by rw [HN.out]; rfl, by go_grown⟩
                    | true =>
                      by_cases hv0 : v < 0
                      · have hd : dgS 16 (t.extract 2 t.size).data.toList = none := by
                          rcases HV.out with ⟨_, _, h, _⟩ | ⟨h, _⟩
                          · omega
                          · exact h
                        have HN : Hid (O = none) := Lib.hid (by rw [HM.out, hd])
                        go_wp2
                        go_returns
                        exact ⟨by rw [HN.out]; rfl, by go_grown⟩
                      · have hd : dgS 16 (t.extract 2 t.size).data.toList = some v ∧ 0 ≤ v ∧ v ≤ 9007199254740992 := by
                          rcases HV.out with ⟨h, _, h1, h2⟩ | ⟨_, h | h⟩
                          · exact ⟨h, h1, h2⟩
                          · cases h
                          · omega
                        obtain ⟨hd, v0, v1⟩ := hd
                        have HS : Hid (O = some (v)) := Lib.hid (by rw [HM.out, hd])
                        have hin : inB (v) = true := in_of (by omega) (by omega)
                        have Q := fun W => refof_any (v) W
                        rw [(of_in hin).1, (of_in hin).2] at Q
                        have HQ := Lib.hid Q
                        clear Q hin
                        go_wp2_with fail
                        refine (HQ.out _).mono ?_
                        rintro e w1 ⟨rfl, hb⟩
                        obtain ⟨q0, q1, q2, f0, f1, f2, hz⟩ := three hb (by simp) (heap_alloc_new w _)
                        have hB : Below w.heap.size w w1 := thr (bel1 w _) hb (by simp)
                        go_wp2
                        refine bodyPost_ret (v := .agg #[.int .i64 3, .int .i64 (v), .string ⟨#[]⟩]) (by simp [results, Tryd.results28, go_sem, q0, q1, q2]) rfl ?_
                        exact ⟨by rw [HS.out]; rfl, st3 hB (Nat.le_refl _)⟩
                  · have b120 : ((e.toNat : Int) == 120) = false := beq_false_of_ne (fun h => h120 (UInt8.toNat_inj.1 (by simp; omega)))
                    by_cases h88 : e = 88
                    · have b88 : (e.toNat : Int) = 88 := by rw [h88]; rfl
                      go_wp2_with fail
                      have HM : Hid (O = (dgS 16 (t.extract 2 t.size).data.toList)) := Lib.hid (HMX.out (Or.inr (by rw [HR2.out, h48, h88]; simp [Lib.hasPrefix])))
                      refine (count16_any (t.extract 2 t.size) _ (Nat.le_trans (sub_size t 2) ht)).mono ?_
                      rintro e w' ⟨⟨v, ok, rfl, hv⟩, rfl⟩
                      have HV := Lib.hid hv
                      clear hv
                      cases ok with
                      | false =>
                        have hd : dgS 16 (t.extract 2 t.size).data.toList = none := by rcases HV.out with ⟨_, h, _⟩ | ⟨h, _⟩; cases h; exact h
                        have HN : Hid (O = none) := Lib.hid (by rw [HM.out, hd])
                        go_wp2
                        go_returns
                        exact ⟨by rw [HN.out]; rfl, by go_grown⟩
                      | true =>
                        by_cases hv0 : v < 0
                        · have hd : dgS 16 (t.extract 2 t.size).data.toList = none := by
                            rcases HV.out with ⟨_, _, h, _⟩ | ⟨h, _⟩
                            · omega
                            · exact h
                          have HN : Hid (O = none) := Lib.hid (by rw [HM.out, hd])
                          go_wp2
                          go_returns
                          exact ⟨by rw [HN.out]; rfl, by go_grown⟩
                        · have hd : dgS 16 (t.extract 2 t.size).data.toList = some v ∧ 0 ≤ v ∧ v ≤ 9007199254740992 := by
                            rcases HV.out with ⟨h, _, h1, h2⟩ | ⟨_, h | h⟩
                            · exact ⟨h, h1, h2⟩
                            · cases h
                            · omega
                          obtain ⟨hd, v0, v1⟩ := hd
                          have HS : Hid (O = some (v)) := Lib.hid (by rw [HM.out, hd])
                          have hin : inB (v) = true := in_of (by omega) (by omega)
                          have Q := fun W => refof_any (v) W
                          rw [(of_in hin).1, (of_in hin).2] at Q
                          have HQ := Lib.hid Q
                          clear Q hin
                          go_wp2_with fail
                          refine (HQ.out _).mono ?_
                          rintro e w1 ⟨rfl, hb⟩
                          obtain ⟨q0, q1, q2, f0, f1, f2, hz⟩ := three hb (by simp) (heap_alloc_new w _)
                          have hB : Below w.heap.size w w1 := thr (bel1 w _) hb (by simp)
                          go_wp2
                          refine bodyPost_ret (v := .agg #[.int .i64 3, .int .i64 (v), .string ⟨#[]⟩]) (by simp [results, Tryd.results28, go_sem, q0, q1, q2]) rfl ?_
                          exact ⟨by rw [HS.out]; rfl, st3 hB (Nat.le_refl _)⟩
                    · have b88 : ((e.toNat : Int) == 88) = false := beq_false_of_ne (fun h => h88 (UInt8.toNat_inj.1 (by simp; omega)))
                      have h43 : d ≠ 43 := by rw [h48]; decide
                      have h45 : d ≠ 45 := by rw [h48]; decide
                      go_wp2_with fail
                      have HM : Hid (O = (dgS 10 (t).data.toList)) := Lib.hid (HMP.out h43 h45 (Or.inl (by rw [HR2.out, h48]; exact ⟨by simp [Lib.hasPrefix, List.isPrefixOf, Ne.symm h120], by simp [Lib.hasPrefix, List.isPrefixOf, Ne.symm h88]⟩)))
                      refine (count10_any (t) _ (ht)).mono ?_
                      rintro e w' ⟨⟨v, ok, rfl, hv⟩, rfl⟩
                      have HV := Lib.hid hv
                      clear hv
                      cases ok with
                      | false =>
                        have hd : dgS 10 (t).data.toList = none := by rcases HV.out with ⟨_, h, _⟩ | ⟨h, _⟩; cases h; exact h
                        have HN : Hid (O = none) := Lib.hid (by rw [HM.out, hd])
                        go_wp2
                        go_returns
                        exact ⟨by rw [HN.out]; rfl, by go_grown⟩
                      | true =>
                        by_cases hv0 : v < 0
                        · have hd : dgS 10 (t).data.toList = none := by
                            rcases HV.out with ⟨_, _, h, _⟩ | ⟨h, _⟩
                            · omega
                            · exact h
                          have HN : Hid (O = none) := Lib.hid (by rw [HM.out, hd])
                          go_wp2
                          go_returns
                          exact ⟨by rw [HN.out]; rfl, by go_grown⟩
                        · have hd : dgS 10 (t).data.toList = some v ∧ 0 ≤ v ∧ v ≤ 9007199254740992 := by
                            rcases HV.out with ⟨h, _, h1, h2⟩ | ⟨_, h | h⟩
                            · exact ⟨h, h1, h2⟩
                            · cases h
                            · omega
                          obtain ⟨hd, v0, v1⟩ := hd
                          have HS : Hid (O = some (v)) := Lib.hid (by rw [HM.out, hd])
                          have hin : inB (v) = true := in_of (by omega) (by omega)
                          have Q := fun W => refof_any (v) W
                          rw [(of_in hin).1, (of_in hin).2] at Q
                          have HQ := Lib.hid Q
                          clear Q hin
                          go_wp2_with fail
                          refine (HQ.out _).mono ?_
                          rintro e w1 ⟨rfl, hb⟩
                          obtain ⟨q0, q1, q2, f0, f1, f2, hz⟩ := three hb (by simp) (heap_alloc_new w _)
                          have hB : Below w.heap.size w w1 := thr (bel1 w _) hb (by simp)
                          go_wp2
                          refine bodyPost_ret (v := .agg #[.int .i64 3, .int .i64 (v), .string ⟨#[]⟩]) (by simp [results, Tryd.results28, go_sem, q0, q1, q2]) rfl ?_
                          exact ⟨by rw [HS.out]; rfl, st3 hB (Nat.le_refl _)⟩
                · have b48 : ((d.toNat : Int) == 48) = false := beq_false_of_ne (fun h => h48 (UInt8.toNat_inj.1 (by simp; omega)))
                  by_cases h45 : d = 45
                  · have b45 : (d.toNat : Int) = 45 := by rw [h45]; rfl
                    go_wp2_with fail
                    have HM : Hid (O = ngO (dgS 10 (t.extract 1 t.size).data.toList)) := Lib.hid (HM45.out h45)
                    refine (count10_any (t.extract 1 t.size) _ (Nat.le_trans (sub_size t 1) ht)).mono ?_
                    rintro e w' ⟨⟨v, ok, rfl, hv⟩, rfl⟩
                    have HV := Lib.hid hv
                    clear hv
                    cases ok with
                    | false =>
                      have hd : dgS 10 (t.extract 1 t.size).data.toList = none := by rcases HV.out with ⟨_, h, _⟩ | ⟨h, _⟩; cases h; exact h
                      have HN : Hid (O = none) := Lib.hid (by rw [HM.out, hd]; rfl)
                      go_wp2
                      go_returns
                      exact ⟨by rw [HN.out]; rfl, by go_grown⟩
                    | true =>
                      by_cases hv0 : v < 0
                      · have hd : dgS 10 (t.extract 1 t.size).data.toList = none := by
                          rcases HV.out with ⟨_, _, h, _⟩ | ⟨h, _⟩
                          · omega
                          · exact h
                        have HN : Hid (O = none) := Lib.hid (by rw [HM.out, hd]; rfl)
                        go_wp2
                        go_returns
                        exact ⟨by rw [HN.out]; rfl, by go_grown⟩
                      · have hd : dgS 10 (t.extract 1 t.size).data.toList = some v ∧ 0 ≤ v ∧ v ≤ 9007199254740992 := by
                          rcases HV.out with ⟨h, _, h1, h2⟩ | ⟨_, h | h⟩
                          · exact ⟨h, h1, h2⟩
                          · cases h
                          · omega
                        obtain ⟨hd, v0, v1⟩ := hd
                        have HS : Hid (O = some (-v)) := Lib.hid (by rw [HM.out, hd]; simp [ngO])
                        have hin : inB (-v) = true := in_of (by omega) (by omega)
                        have Q := fun W => refof_any (-v) W
                        rw [(of_in hin).1, (of_in hin).2] at Q
                        have HQ := Lib.hid Q
                        clear Q hin
                        go_wp2_with fail
                        refine (HQ.out _).mono ?_
                        rintro e w1 ⟨rfl, hb⟩
                        obtain ⟨q0, q1, q2, f0, f1, f2, hz⟩ := three hb (by simp) (heap_alloc_new w _)
                        have hB : Below w.heap.size w w1 := thr (bel1 w _) hb (by simp)
                        go_wp2
                        refine bodyPost_ret (v := .agg #[.int .i64 3, .int .i64 (-v), .string ⟨#[]⟩]) (by simp [results, Tryd.results28, go_sem, q0, q1, q2]) rfl ?_
                        exact ⟨by rw [HS.out]; rfl, st3 hB (Nat.le_refl _)⟩
                  · have b45 : ((d.toNat : Int) == 45) = false := beq_false_of_ne (fun h => h45 (UInt8.toNat_inj.1 (by simp; omega)))
                    by_cases h43 : d = 43
                    · have b43 : (d.toNat : Int) = 43 := by rw [h43]; rfl
                      go_wp2_with fail
                      have HM : Hid (O = (dgS 10 (t.extract 1 t.size).data.toList)) := Lib.hid (HM43.out h43)
                      refine (count10_any (t.extract 1 t.size) _ (Nat.le_trans (sub_size t 1) ht)).mono ?_
                      rintro e w' ⟨⟨v, ok, rfl, hv⟩, rfl⟩
                      have HV := Lib.hid hv
                      clear hv
                      cases ok with
                      | false =>
                        have hd : dgS 10 (t.extract 1 t.size).data.toList = none := by rcases HV.out with ⟨_, h, _⟩ | ⟨h, _⟩; cases h; exact h
                        have HN : Hid (O = none) := Lib.hid (by rw [HM.out, hd])
                        go_wp2
                        go_returns
                        exact ⟨by rw [HN.out]; rfl, by go_grown⟩
                      | true =>
                        by_cases hv0 : v < 0
                        · have hd : dgS 10 (t.extract 1 t.size).data.toList = none := by
                            rcases HV.out with ⟨_, _, h, _⟩ | ⟨h, _⟩
                            · omega
                            · exact h
                          have HN : Hid (O = none) := Lib.hid (by rw [HM.out, hd])
                          go_wp2
                          go_returns
                          exact ⟨by rw [HN.out]; rfl, by go_grown⟩
                        · have hd : dgS 10 (t.extract 1 t.size).data.toList = some v ∧ 0 ≤ v ∧ v ≤ 9007199254740992 := by
                            rcases HV.out with ⟨h, _, h1, h2⟩ | ⟨_, h | h⟩
                            · exact ⟨h, h1, h2⟩
                            · cases h
                            · omega
                          obtain ⟨hd, v0, v1⟩ := hd
                          have HS : Hid (O = some (v)) := Lib.hid (by rw [HM.out, hd])
                          have hin : inB (v) = true := in_of (by omega) (by omega)
                          have Q := fun W => refof_any (v) W
                          rw [(of_in hin).1, (of_in hin).2] at Q
                          have HQ := Lib.hid Q
                          clear Q hin
                          go_wp2_with fail
                          refine (HQ.out _).mono ?_
                          rintro e w1 ⟨rfl, hb⟩
                          obtain ⟨q0, q1, q2, f0, f1, f2, hz⟩ := three hb (by simp) (heap_alloc_new w _)
                          have hB : Below w.heap.size w w1 := thr (bel1 w _) hb (by simp)
                          go_wp2
                          refine bodyPost_ret (v := .agg #[.int .i64 3, .int .i64 (v), .string ⟨#[]⟩]) (by simp [results, Tryd.results28, go_sem, q0, q1, q2]) rfl ?_
                          exact ⟨by rw [HS.out]; rfl, st3 hB (Nat.le_refl _)⟩
                    · have b43 : ((d.toNat : Int) == 43) = false := beq_false_of_ne (fun h => h43 (UInt8.toNat_inj.1 (by simp; omega)))
                      go_wp2_with fail
                      have HM : Hid (O = (dgS 10 (t).data.toList)) := Lib.hid (HMP.out h43 h45 (Or.inl ⟨by simp [Lib.hasPrefix, List.isPrefixOf, Ne.symm h48], by simp [Lib.hasPrefix, List.isPrefixOf, Ne.symm h48]⟩))
                      refine (count10_any (t) _ (ht)).mono ?_
                      rintro e w' ⟨⟨v, ok, rfl, hv⟩, rfl⟩
                      have HV := Lib.hid hv
                      clear hv
                      cases ok with
                      | false =>
                        have hd : dgS 10 (t).data.toList = none := by rcases HV.out with ⟨_, h, _⟩ | ⟨h, _⟩; cases h; exact h
                        have HN : Hid (O = none) := Lib.hid (by rw [HM.out, hd])
                        go_wp2
                        go_returns
                        exact ⟨by rw [HN.out]; rfl, by go_grown⟩
                      | true =>
                        by_cases hv0 : v < 0
                        · have hd : dgS 10 (t).data.toList = none := by
                            rcases HV.out with ⟨_, _, h, _⟩ | ⟨h, _⟩
                            · omega
                            · exact h
                          have HN : Hid (O = none) := Lib.hid (by rw [HM.out, hd])
                          go_wp2
                          go_returns
                          exact ⟨by rw [HN.out]; rfl, by go_grown⟩
                        · have hd : dgS 10 (t).data.toList = some v ∧ 0 ≤ v ∧ v ≤ 9007199254740992 := by
                            rcases HV.out with ⟨h, _, h1, h2⟩ | ⟨_, h | h⟩
                            · exact ⟨h, h1, h2⟩
                            · cases h
                            · omega
                          obtain ⟨hd, v0, v1⟩ := hd
                          have HS : Hid (O = some (v)) := Lib.hid (by rw [HM.out, hd])
                          have hin : inB (v) = true := in_of (by omega) (by omega)
                          have Q := fun W => refof_any (v) W
                          rw [(of_in hin).1, (of_in hin).2] at Q
                          have HQ := Lib.hid Q
                          clear Q hin
                          go_wp2_with fail
                          refine (HQ.out _).mono ?_
                          rintro e w1 ⟨rfl, hb⟩
                          obtain ⟨q0, q1, q2, f0, f1, f2, hz⟩ := three hb (by simp) (heap_alloc_new w _)
                          have hB : Below w.heap.size w w1 := thr (bel1 w _) hb (by simp)
                          go_wp2
                          refine bodyPost_ret (v := .agg #[.int .i64 3, .int .i64 (v), .string ⟨#[]⟩]) (by simp [results, Tryd.results28, go_sem, q0, q1, q2]) rfl ?_
                          exact ⟨by rw [HS.out]; rfl, st3 hB (Nat.le_refl _)⟩
              · have hI : ¬ (2 : Int) < t.size := by omega
                have NP : (Lib.hasPrefix (d :: r') [48, 120] = false ∧ Lib.hasPrefix (d :: r') [48, 88] = false) ∨ (d = 48 ∧ (r' = [120] ∨ r' = [88])) := by
                  cases r' with
                  | nil => exact .inl ⟨by simp [Lib.hasPrefix, List.isPrefixOf], by simp [Lib.hasPrefix, List.isPrefixOf]⟩
                  | cons y ys =>
                    have : ys = [] := by
                      have hsz := HSZ.out
                      simp at hsz
                      exact List.length_eq_zero_iff.1 (by omega)
                    subst this
                    by_cases h48 : d = 48
                    · by_cases hy : y = 120
                      · exact .inr ⟨h48, .inl (by rw [hy])⟩
                      · by_cases hy2 : y = 88
                        · exact .inr ⟨h48, .inr (by rw [hy2])⟩
                        · exact .inl ⟨by simp [Lib.hasPrefix, List.isPrefixOf, Ne.symm hy], by simp [Lib.hasPrefix, List.isPrefixOf, Ne.symm hy2]⟩
                    · exact .inl ⟨by simp [Lib.hasPrefix, List.isPrefixOf, Ne.symm h48], by simp [Lib.hasPrefix, List.isPrefixOf, Ne.symm h48]⟩
                have HNP := Lib.hid NP
                clear NP
                by_cases h45 : d = 45
                · have b45 : (d.toNat : Int) = 45 := by rw [h45]; rfl
                  go_wp2_with fail
                  have HM : Hid (O = ngO (dgS 10 (t.extract 1 t.size).data.toList)) := Lib.hid (HM45.out h45)
                  refine (count10_any (t.extract 1 t.size) _ (Nat.le_trans (sub_size t 1) ht)).mono ?_
                  rintro e w' ⟨⟨v, ok, rfl, hv⟩, rfl⟩
                  have HV := Lib.hid hv
                  clear hv
                  cases ok with
                  | false =>
                    have hd : dgS 10 (t.extract 1 t.size).data.toList = none := by rcases HV.out with ⟨_, h, _⟩ | ⟨h, _⟩; cases h; exact h
                    have HN : Hid (O = none) := Lib.hid (by rw [HM.out, hd]; rfl)
                    go_wp2
                    go_returns
                    exact ⟨by rw [HN.out]; rfl, by go_grown⟩
                  | true =>
                    by_cases hv0 : v < 0
                    · have hd : dgS 10 (t.extract 1 t.size).data.toList = none := by
                        rcases HV.out with ⟨_, _, h, _⟩ | ⟨h, _⟩
                        · omega
                        · exact h
                      have HN : Hid (O = none) := Lib.hid (by rw [HM.out, hd]; rfl)
                      go_wp2
                      go_returns
                      exact ⟨by rw [HN.out]; rfl, by go_grown⟩
                    · have hd : dgS 10 (t.extract 1 t.size).data.toList = some v ∧ 0 ≤ v ∧ v ≤ 9007199254740992 := by
                        rcases HV.out with ⟨h, _, h1, h2⟩ | ⟨_, h | h⟩
                        · exact ⟨h, h1, h2⟩
                        · cases h
                        · omega
                      obtain ⟨hd, v0, v1⟩ := hd
                      have HS : Hid (O = some (-v)) := Lib.hid (by rw [HM.out, hd]; simp [ngO])
                      have hin : inB (-v) = true := in_of (by omega) (by omega)
                      have Q := fun W => refof_any (-v) W
                      rw [(of_in hin).1, (of_in hin).2] at Q
                      have HQ := Lib.hid Q
                      clear Q hin
                      go_wp2_with fail
                      refine (HQ.out _).mono ?_
                      rintro e w1 ⟨rfl, hb⟩
                      obtain ⟨q0, q1, q2, f0, f1, f2, hz⟩ := three hb (by simp) (heap_alloc_new w _)
                      have hB : Below w.heap.size w w1 := thr (bel1 w _) hb (by simp)
                      go_wp2
                      refine bodyPost_ret (v := .agg #[.int .i64 3, .int .i64 (-v), .string ⟨#[]⟩]) (by simp [results, Tryd.results28, go_sem, q0, q1, q2]) rfl ?_
                      exact ⟨by rw [HS.out]; rfl, st3 hB (Nat.le_refl _)⟩
                · have b45 : ((d.toNat : Int) == 45) = false := beq_false_of_ne (fun h => h45 (UInt8.toNat_inj.1 (by simp; omega)))
                  by_cases h43 : d = 43
                  · have b43 : (d.toNat : Int) = 43 := by rw [h43]; rfl
                    go_wp2_with fail
                    have HM : Hid (O = (dgS 10 (t.extract 1 t.size).data.toList)) := Lib.hid (HM43.out h43)
                    refine (count10_any (t.extract 1 t.size) _ (Nat.le_trans (sub_size t 1) ht)).mono ?_
                    rintro e w' ⟨⟨v, ok, rfl, hv⟩, rfl⟩
                    have HV := Lib.hid hv
                    clear hv
                    cases ok with
                    | false =>
                      have hd : dgS 10 (t.extract 1 t.size).data.toList = none := by rcases HV.out with ⟨_, h, _⟩ | ⟨h, _⟩; cases h; exact h
                      have HN : Hid (O = none) := Lib.hid (by rw [HM.out, hd])
                      go_wp2
                      go_returns
                      exact ⟨by rw [HN.out]; rfl, by go_grown⟩
                    | true =>
                      by_cases hv0 : v < 0
                      · have hd : dgS 10 (t.extract 1 t.size).data.toList = none := by
                          rcases HV.out with ⟨_, _, h, _⟩ | ⟨h, _⟩
                          · omega
                          · exact h
                        have HN : Hid (O = none) := Lib.hid (by rw [HM.out, hd])
                        go_wp2
                        go_returns
                        exact ⟨by rw [HN.out]; rfl, by go_grown⟩
                      · have hd : dgS 10 (t.extract 1 t.size).data.toList = some v ∧ 0 ≤ v ∧ v ≤ 9007199254740992 := by
                          rcases HV.out with ⟨h, _, h1, h2⟩ | ⟨_, h | h⟩
                          · exact ⟨h, h1, h2⟩
                          · cases h
                          · omega
                        obtain ⟨hd, v0, v1⟩ := hd
                        have HS : Hid (O = some (v)) := Lib.hid (by rw [HM.out, hd])
                        have hin : inB (v) = true := in_of (by omega) (by omega)
                        have Q := fun W => refof_any (v) W
                        rw [(of_in hin).1, (of_in hin).2] at Q
                        have HQ := Lib.hid Q
                        clear Q hin
                        go_wp2_with fail
                        refine (HQ.out _).mono ?_
                        rintro e w1 ⟨rfl, hb⟩
                        obtain ⟨q0, q1, q2, f0, f1, f2, hz⟩ := three hb (by simp) (heap_alloc_new w _)
                        have hB : Below w.heap.size w w1 := thr (bel1 w _) hb (by simp)
                        go_wp2
                        refine bodyPost_ret (v := .agg #[.int .i64 3, .int .i64 (v), .string ⟨#[]⟩]) (by simp [results, Tryd.results28, go_sem, q0, q1, q2]) rfl ?_
                        exact ⟨by rw [HS.out]; rfl, st3 hB (Nat.le_refl _)⟩
                  · have b43 : ((d.toNat : Int) == 43) = false := beq_false_of_ne (fun h => h43 (UInt8.toNat_inj.1 (by simp; omega)))
                    go_wp2_with fail
                    have HM : Hid (O = (dgS 10 (t).data.toList)) := Lib.hid (HMP.out h43 h45 (HNP.out))
                    refine (count10_any (t) _ (ht)).mono ?_
                    rintro e w' ⟨⟨v, ok, rfl, hv⟩, rfl⟩
                    have HV := Lib.hid hv
                    clear hv
                    cases ok with
                    | false =>
                      have hd : dgS 10 (t).data.toList = none := by rcases HV.out with ⟨_, h, _⟩ | ⟨h, _⟩; cases h; exact h
                      have HN : Hid (O = none) := Lib.hid (by rw [HM.out, hd])
                      go_wp2
                      go_returns
                      exact ⟨by rw [HN.out]; rfl, by go_grown⟩
                    | true =>
                      by_cases hv0 : v < 0
                      · have hd : dgS 10 (t).data.toList = none := by
                          rcases HV.out with ⟨_, _, h, _⟩ | ⟨h, _⟩
                          · omega
                          · exact h
                        have HN : Hid (O = none) := Lib.hid (by rw [HM.out, hd])
                        go_wp2
                        go_returns
                        exact ⟨by rw [HN.out]; rfl, by go_grown⟩
                      · have hd : dgS 10 (t).data.toList = some v ∧ 0 ≤ v ∧ v ≤ 9007199254740992 := by
                          rcases HV.out with ⟨h, _, h1, h2⟩ | ⟨_, h | h⟩
                          · exact ⟨h, h1, h2⟩
                          · cases h
                          · omega
                        obtain ⟨hd, v0, v1⟩ := hd
                        have HS : Hid (O = some (v)) := Lib.hid (by rw [HM.out, hd])
                        have hin : inB (v) = true := in_of (by omega) (by omega)
                        have Q := fun W => refof_any (v) W
                        rw [(of_in hin).1, (of_in hin).2] at Q
                        have HQ := Lib.hid Q
                        clear Q hin
                        go_wp2_with fail
                        refine (HQ.out _).mono ?_
                        rintro e w1 ⟨rfl, hb⟩
                        obtain ⟨q0, q1, q2, f0, f1, f2, hz⟩ := three hb (by simp) (heap_alloc_new w _)
                        have hB : Below w.heap.size w w1 := thr (bel1 w _) hb (by simp)
                        go_wp2
                        refine bodyPost_ret (v := .agg #[.int .i64 3, .int .i64 (v), .string ⟨#[]⟩]) (by simp [results, Tryd.results28, go_sem, q0, q1, q2]) rfl ?_
                        exact ⟨by rw [HS.out]; rfl, st3 hB (Nat.le_refl _)⟩
end Go.Proofs.YtokpmpmlbmpnmaaDoor
