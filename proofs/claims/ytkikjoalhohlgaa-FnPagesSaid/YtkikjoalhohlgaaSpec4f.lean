/- Chapter 4 of the model: a slot that is taken. -/
import Derived.Test.YtkikjoalhohlgaaSpec4d
import Derived.Test.YtkikjoalhohlgaaSpec4c
namespace Go.Proofs.Ytkikjoalhohlgaa
open Go.RowKit

/-- The place of the slot that is taken next, or -1; the pages with it. -/
def slotAt (ps : List Pg) (c : Int) : Int := match slotFor ps c with
  | some (i, s) => (i : Int) * 16 + s * sizeW c
  | none => -1
def slotPut (ps : List Pg) (c : Int) : List Pg := match slotFor ps c with
  | some (i, s) => putSlot ps c i s
  | none => ps
theorem slotFor_gap {ps : List Pg} {c : Int} {x : Nat × Nat} (h : gapIn c 0 ps = some x) : slotFor ps c = some x := by unfold slotFor; rw [h]
theorem slotFor_free {ps : List Pg} {c : Int} (h : gapIn c 0 ps = none) : slotFor ps c = (freeIn 0 ps).map fun i => (i, 0) := by unfold slotFor; rw [h]

set_option maxRecDepth 100000 in
set_option maxHeartbeats 2000000 in
theorem l4Slot_calls {v : Value} {n : Nat} {c : Int} {ps : List Pg} {S : Nat → Prop} {w : World} (hT : Own KPage 45 w S v n ps) (hS : ShortP 17592186044416 ps) (hn : n ≤ 17592186044416) (h0 : 0 ≤ c) (h3 : c ≤ 3) :
    Calls Try.prog 73 #[v, .int .i64 c] w fun e w' => e = .returned (.int .i64 (slotAt ps c)) ∧ Own KPage 45 w' (fun k => S k ∨ w.heap.size ≤ k) v n (slotPut ps c) ∧ Turn S w w' := by
  have HL := Lib.hid hT.1
  have HS := Lib.hid hS
  have hsz := sizeW_small c
  obtain ⟨ao, cc, rfl, _, _, hLst⟩ := hT.shape
  obtain ⟨ib, hib, hb0, hb1, hb2⟩ := info_parts infoBool
  go_enter Try.func73, Try.ntmps73
  go_wp2_with fail
  go_loop [5, 6] (fun i _ => ∃ k : Nat, k ≤ n ∧ i = .int .i64 k ∧ Hid (gapIn c 0 ps = gapIn c k (ps.drop k))) (fun i _ => n - (intOf i).toNat)
  case atStart => exact ⟨0, Nat.zero_le _, rfl, rfl⟩
  case round =>
    obtain ⟨k, hk, rfl, HW⟩ := hrel
    by_cases hlt : k < n
    · obtain ⟨g, cap, p, a, l, c', F, he, g0, hgS, hp, ⟨q0, q1, q2, q3⟩, ⟨f0, f1, f2, f3⟩, ⟨hU, hF, hlc, hcm⟩, hset, hus⟩ := hT.pg_at hlt
      cases he
      have HP := Lib.hid hp
      have hl : l ≤ 17592186044416 := by have := HS.out.at_ hp; have := hU.1; omega
      have HLU := Lib.hid hU.1
      have HWd : Hid (gapIn c 0 ps = if p.kind = 1 ∧ p.cls = c ∧ 0 ≤ idxB false p.used 0 then some (k, (idxB false p.used 0).toNat) else gapIn c (k + 1) (ps.drop (k + 1))) := by
        have := HW.out; rw [drop_at hp, gapIn] at this; exact this
      clear hp hcm hset
      by_cases k1 : p.kind = 1
      · rw [k1] at q0
        have k1' := Lib.hid k1
        clear k1
        by_cases kc : p.cls = c
        · rw [kc] at q1
          have kc' := Lib.hid kc
          clear kc
          go_wp2_with fail
          go_loop [6] (fun q => ∃ j : Nat, j ≤ l ∧ q = .int .i64 j ∧ Hid (idxB false p.used 0 = idxB false (p.used.drop j) j)) (fun q => l - (intOf q).toNat)
          case atStart => exact ⟨0, Nat.zero_le _, rfl, rfl⟩
          case round =>
            obtain ⟨j, hj, rfl, HJ⟩ := hrel
            by_cases hjl : j < l
            · obtain ⟨g2, cap2, hv2, hg2S, hg2, hcl, hfr, hbst⟩ := hU.bool_at hjl
              cases hv2
              have hju : j < p.used.length := by rw [HLU.out]; exact hjl
              have HJd : Hid (idxB false p.used 0 = if p.used[j] = false then (j : Int) else idxB false (p.used.drop (j + 1)) (j + 1)) := by
                have := HJ.out; rw [drop_at (List.getElem?_eq_getElem hju), idxB] at this; exact this
              have hge : p.used.getD j false = p.used[j] := by simp [List.getD, hju]
              rw [hge] at hcl
              clear hge
              rcases hv : p.used[j] with _ | _
              · rw [hv] at hcl
                have HX : Hid (slotFor ps c = some (k, j)) := by
                  have h1 := HJd.out
                  rw [if_pos hv] at h1
                  have h2 := HWd.out
                  rw [if_pos ⟨k1'.out, kc'.out, by rw [h1]; omega⟩, h1, Int.toNat_natCast] at h2
                  exact slotFor_gap h2
                have H2 := Lib.hid (hus _ _ (hbst true).2 (hbst true).1)
                have H3 : Hid (slotPut ps c = ps.set k ⟨p.kind, p.cls, p.used.set j true, p.run⟩) := by
                  show slotPut ps c = _
                  unfold slotPut; rw [HX.out]; simp only [putSlot]; rw [HP.out]; simp only [useSlot, k1'.out]; rfl
                have H4 : Hid (slotAt ps c = (k : Int) * 16 + j * sizeW c) := by show slotAt ps c = _; unfold slotAt; rw [HX.out]
                have hb1 : (j : Int) * sizeW c ≤ 281474976710656 := by
                  have := Int.mul_le_mul (show (j : Int) ≤ 17592186044416 by omega) hsz.2 (by omega) (by omega)
                  omega
                have hb0' : 0 ≤ (j : Int) * sizeW c := Int.mul_nonneg (by omega) (by omega)
                clear hbst hus HJd hU hv
                go_wp2_with fail
                refine (l3Size_calls h0 h3).mono ?_
                rintro e w' ⟨rfl, rfl⟩
                go_wp2_with fail
                go_ret
                exact ⟨ret_int H4.out.symm, by rw [H3.out]; exact H2.out.1.mono (fun q hq _ => .inl hq), H2.out.2⟩
              · rw [hv] at hcl
                have HN : Hid (idxB false p.used 0 = idxB false (p.used.drop (j + 1)) (j + 1)) := by have := HJd.out; rw [if_neg (by rw [hv]; simp)] at this; exact this
                clear hbst hus HJd hU hv
                go_wp2_with fail
                go_round
                case rel => exact ⟨j + 1, by omega, by go_num, HN⟩
                case measure => simp [intOf]; omega
            · have HN : Hid (gapIn c 0 ps = gapIn c (k + 1) (ps.drop (k + 1))) := by
                have h1 := HJ.out
                rw [drop_end (by rw [HLU.out]; omega), idxB] at h1
                have h2 := HWd.out
                rw [if_neg (by rw [h1]; omega)] at h2
                exact h2
              clear hus hU
              go_wp2_with fail
              go_round
              case rel => exact ⟨k + 1, by omega, by go_num, HN⟩
              case measure => simp [intOf]; omega
        · have hq : (p.cls != c) = true := by simpa using kc
          have HN : Hid (gapIn c 0 ps = gapIn c (k + 1) (ps.drop (k + 1))) := by have := HWd.out; rw [if_neg (fun h => kc h.2.1)] at this; exact this
          clear hus hU kc
          go_wp2_with fail
          go_round
          case rel => exact ⟨k + 1, by omega, by go_num, HN⟩
          case measure => simp [intOf]; omega
      · have hq : (p.kind != 1) = true := by simpa using k1
        have HN : Hid (gapIn c 0 ps = gapIn c (k + 1) (ps.drop (k + 1))) := by have := HWd.out; rw [if_neg (fun h => k1 h.1)] at this; exact this
        clear hus hU k1
        go_wp2_with fail
        go_round
        case rel => exact ⟨k + 1, by omega, by go_num, HN⟩
        case measure => simp [intOf]; omega
    · have HX : Hid (slotFor ps c = (freeIn 0 ps).map fun i => (i, 0)) := by
        have := HW.out; rw [drop_end (by rw [HL.out]; omega), gapIn] at this; exact slotFor_free this
      clear HW
      go_wp2_with fail
      clear hlt hk
      go_loop [7] (fun i => ∃ k : Nat, k ≤ n ∧ i = .int .i64 k ∧ Hid (freeIn 0 ps = freeIn k (ps.drop k))) (fun i => n - (intOf i).toNat)
      case atStart => exact ⟨0, Nat.zero_le _, rfl, rfl⟩
      case round =>
        obtain ⟨k, hk, rfl, HW⟩ := hrel
        by_cases hlt : k < n
        · obtain ⟨g, cap, p, a, l, c', F, he, g0, hgS, hp, ⟨q0, q1, q2, q3⟩, ⟨f0, f1, f2, f3⟩, _, hset, _⟩ := hT.pg_at hlt
          cases he
          have HP := Lib.hid hp
          have HWd : Hid (freeIn 0 ps = if p.kind = 0 then some k else freeIn (k + 1) (ps.drop (k + 1))) := by
            have := HW.out; rw [drop_at hp, freeIn] at this; exact this
          clear hp
          by_cases k0 : p.kind = 0
          · have HY : Hid (slotFor ps c = some (k, 0)) := by show slotFor ps c = _; rw [HX.out, HWd.out, if_pos k0]; rfl
            have H3 : Hid (slotPut ps c = ps.set k ⟨1, c, (List.replicate (16 / sizeW c).toNat false).set 0 true, 0⟩) := by
              show slotPut ps c = _
              unfold slotPut; rw [HY.out]; simp only [putSlot]; rw [HP.out]; simp only [useSlot, if_pos k0]
            have H4 : Hid (slotAt ps c = (k : Int) * 16) := by show slotAt ps c = _; unfold slotAt; rw [HY.out]; simp
            rw [k0] at q0
            clear k0
            obtain ⟨z, hz⟩ : ∃ z : Nat, (16 : Int) / sizeW c = z := ⟨(16 / sizeW c).toNat, by rw [Int.toNat_of_nonneg (Int.ediv_nonneg (by omega) (by omega))]⟩
            have hz16 : z ≤ 16 := by have := Int.ediv_le_self (a := 16) (sizeW c) (by omega); omega
            have hz1 : 1 ≤ z := by
              rcases (show c = 0 ∨ c = 1 ∨ c = 2 ∨ c = 3 by omega) with e | e | e | e <;> rw [e] at hz <;> simp [sizeW] at hz <;> omega
            have HZ := Lib.hid hz
            clear hz
            go_wp2_with fail
            refine (l3Slots_calls h0 h3).mono ?_
            rintro e w' ⟨rfl, rfl⟩
            rw [HZ.out]
            go_wp2_with (
              at_make
              go_must (refine wpList_make_full _ rfl _ _ 43 rfl 0 4 ib (.bool false) 1 Try.underlying43 hib hb0 hb1 _ _ _ _ z rfl rfl rfl rfl (by rw [hb2]; omega) (by unfold maxLen; omega) (Nat.zero_le _) ?_)
              intro w1 hown hg
              have hb : Below w.heap.size w w1 := (Below.refl _ _).grown hg (Nat.le_refl _) (by simp)
              have hU : Own KBool 4 w1 (fun q => w.heap.size ≤ q) (.slice (some ⟨w.heap.size, 0, none⟩) z z) z (List.replicate z false) := Own.of_made (z := .bool false) (by simpa [KBool] using hown) (Nat.le_refl _) rfl rfl
              have HU := Lib.hid (And.intro hU hb)
              have e0 := (hb.cell (p := ⟨g, k * 4, none⟩) g0).trans q0
              have e1 := (hb.cell (p := ⟨g, k * 4 + 1, none⟩) g0).trans q1
              have e2 := (hb.cell (p := ⟨g, k * 4 + 2, none⟩) g0).trans q2
              have e3 := (hb.cell (p := ⟨g, k * 4 + 3, none⟩) g0).trans q3
              have d0 := (hb.frozen (p := ⟨g, k * 4, none⟩) g0).trans f0
              have d1 := (hb.frozen (p := ⟨g, k * 4 + 1, none⟩) g0).trans f1
              have d2 := (hb.frozen (p := ⟨g, k * 4 + 2, none⟩) g0).trans f2
              have d3 := (hb.frozen (p := ⟨g, k * 4 + 3, none⟩) g0).trans f3
              have hst := hset w1 ⟨1, c, List.replicate z false, 0⟩ (.slice (some ⟨w.heap.size, 0, none⟩) z z) z (fun q => w.heap.size ≤ q) (Turn.of_below hb) hU (fun q hq hlt _ => by omega)
              obtain ⟨g', cap', p', a', l', c2, F', he', g0', hgS', hp', ⟨z0, z1, z2, z3⟩, _, ⟨hU', hF', _, _⟩, _, hus'⟩ := hst.1.pg_at hlt
              cases he'
              have hp2 : p' = ⟨1, c, List.replicate z false, 0⟩ := by
                rw [List.getElem?_set_self (by have := (List.getElem?_eq_some_iff.1 HP.out).1; exact this)] at hp'
                injection hp' with hp'; exact hp'.symm
              subst hp2
              have hv3 := hst.2.2.symm.trans z2
              injection hv3 with hv3
              cases hv3
              obtain ⟨g2, cap2, hv2, hg2S, hg2, hcl, hfr, hbst⟩ := hU'.bool_at (j := 0) (by omega)
              cases hv2
              have H5 := Lib.hid (And.intro (hus' _ _ (hbst true).2 (hbst true).1) hst.2.1)
              generalize (List.replicate z false).getD 0 false = u0 at hcl
              have y2 := hst.2.2
              clear hst hus' hbst hp' hU' hF' hU hown hg z0 z1 z2 z3 hset)
            go_ret
            refine ⟨ret_int H4.out.symm, ?_, ?_⟩
            · rw [H3.out, HZ.out, Int.toNat_natCast]
              have := H5.out.1.1
              rw [List.set_set] at this
              exact this
            · exact H5.out.2.trans H5.out.1.2 (fun q hq hlt => hq.elim id (fun h => by omega))
          · have HN : Hid (freeIn 0 ps = freeIn (k + 1) (ps.drop (k + 1))) := by have := HWd.out; rw [if_neg k0] at this; exact this
            have hq : (p.kind == 0) = false := by simpa using k0
            clear hset k0
            go_wp2_with fail
            go_round
            case rel => exact ⟨k + 1, by omega, by go_num, HN⟩
            case measure => simp [intOf]; omega
        · have HY : Hid (slotFor ps c = none) := by
            have := HW.out; rw [drop_end (by rw [HL.out]; omega), freeIn] at this
            show slotFor ps c = none; rw [HX.out, this]; rfl
          have H3 : Hid (slotPut ps c = ps) := by show slotPut ps c = _; unfold slotPut; rw [HY.out]
          have H4 : Hid (slotAt ps c = -1) := by show slotAt ps c = _; unfold slotAt; rw [HY.out]
          have HO := Lib.hid hT
          clear hT
          go_wp2_with fail
          go_ret
          exact ⟨ret_int H4.out.symm, by rw [H3.out]; exact HO.out.mono (fun q hq _ => .inl hq), Turn.refl _ _⟩
end Go.Proofs.Ytkikjoalhohlgaa
