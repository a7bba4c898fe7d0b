/- Chapter 4 of the program: a slot that is searched for; runs that are free. -/
import Derived.Test.YtkikjoalhohlgaaBlk4
import Derived.Test.YtkikjoalhohlgaaSpec4d
import Derived.Test.YtkikjoalhohlgaaWhole4
import Derived.Deep.LoopGhost
namespace Go.Proofs.Ytkikjoalhohlgaa
open Go.RowKit

theorem ret_val {a b : Value} (h : a = b) : Ending.returned a = .returned b := by rw [h]
/-- What is found so far, as a block. -/
def fv (c : Int) (f : Option (Nat × Nat)) : Value := blkO (f.map fun x => Blk.slot x.1 c x.2)

set_option maxRecDepth 100000 in
set_option maxHeartbeats 2000000 in
theorem slotFor_calls {ao : Option Addr} {n cc : Nat} {c : Int} {ps : List Pg} {S : Nat → Prop} {w : World} (hT : Lst KPage w S ao n ps) (hS : ShortP 17592186044416 ps) (hn : n ≤ 17592186044416) :
    Calls Try.prog 61 #[.slice ao n cc, .int .i64 c] w fun e w' => e = .returned (fv c (slotFor ps c)) ∧ Below w.heap.size w w' := by
  have HL := Lib.hid hT.1
  have HS := Lib.hid hS
  go_enter Try.func61, Try.ntmps61
  go_wp2_with fail
  go_step3
  go_wp2_with fail
  go_step3
  go_wp2_with fail
  go_loopw [5, 6, 7, 8, 11] (fun v _ _ _ i wr => ∃ (k : Nat) (f : Option (Nat × Nat)), k ≤ n ∧ i = .int .i64 k ∧ v = fv c f ∧ Hid (scan c 0 none ps = scan c k f (ps.drop k)) ∧ Below w.heap.size w wr) (fun _ _ _ _ i _ => n - (intOf i).toNat)
  case atStart => exact ⟨0, none, Nat.zero_le _, rfl, rfl, rfl, Below.refl _ _⟩
  case round =>
    obtain ⟨k, f, hk, rfl, rfl, HW, hbw⟩ := hrel
    by_cases hlt : k < n
    · obtain ⟨b, off, p, a, l, cu, rfl, d0, hp, e0, e1, e2, e3, hlc, hcm, hu⟩ := (hT.below hbw).pg_at hlt
      have HWd : Hid (scan c 0 none ps = if p.kind = 1 ∧ p.cls = c ∧ 0 ≤ idxB false p.used 0 then some (k, (idxB false p.used 0).toNat) else scan c (k + 1) (if p.kind = 0 ∧ f = none then some (k, 0) else f) (ps.drop (k + 1))) := by
        have := HW.out; rw [drop_at hp, scan] at this; exact this
      have hl : l ≤ 17592186044416 := by have := HS.out.at_ hp; have := hu.1; omega
      have hB := Lib.hid (fun o => hbw.alloc hbw.size o)
      clear hp hcm
      by_cases k0 : p.kind = 0
      · rw [k0] at e0
        rcases f with _ | x
        · have HN : Hid (scan c 0 none ps = scan c (k + 1) (some (k, 0)) (ps.drop (k + 1))) := by
            have := HWd.out; rw [if_neg (by omega), if_pos ⟨k0, rfl⟩] at this; exact this
          clear k0
          simp only [fv, Option.map_none, blkO]
          go_wp2_with fail
          go_roundw
          case rel => exact ⟨k + 1, some (k, 0), by omega, by go_num, rfl, HN, hB.out _⟩
          case measure => simp [intOf]; omega
        · have HN : Hid (scan c 0 none ps = scan c (k + 1) (some x) (ps.drop (k + 1))) := by
            have := HWd.out; rw [if_neg (by omega), if_neg (by simp)] at this; exact this
          clear k0
          simp only [fv, Option.map_some, blkO, blkV]
          go_wp2_with fail
          go_roundw
          case rel => exact ⟨k + 1, some x, by omega, by go_num, rfl, HN, hB.out _⟩
          case measure => simp [intOf]; omega
      · have q0 : (p.kind == 0) = false := by simpa using k0
        have HM : Hid (¬ (p.kind = 1 ∧ p.cls = c ∧ 0 ≤ idxB false p.used 0) → scan c 0 none ps = scan c (k + 1) f (ps.drop (k + 1))) := fun h => by
          have := HWd.out; rw [if_neg h, if_neg (fun h => k0 h.1)] at this; exact this
        have HV : Hid (∃ v, v = fv c f) := ⟨_, rfl⟩
        obtain ⟨v, hv⟩ := HV.out
        rw [← hv]
        have HVV := Lib.hid hv
        clear k0 hv HV
        by_cases k1 : p.kind = 1 ∧ p.cls = c
        · obtain ⟨k1, kc⟩ := k1
          rw [k1] at e0
          rw [kc] at e1
          clear q0
          by_cases hix : 0 ≤ idxB false p.used 0
          · have HN : Hid (fv c (slotFor ps c) = .iface 107 (.agg #[.int .i64 k, .int .i64 c, .int .i64 (idxB false p.used 0)])) := by
              have := HWd.out; rw [if_pos ⟨k1, kc, hix⟩, scan_slotFor] at this
              show _ = _; rw [this]
              simp only [fv, Option.map_some, blkO, blkV, Int.toNat_of_nonneg hix]
            clear k1 kc
            go_wp2_with fail
            refine (idx_calls (hu.alloc _) hl).mono ?_
            rintro e w1 ⟨rfl, rfl⟩
            go_wp2_with fail
            try rw [Exit.noGoto_ret]
            go_ret
            exact ⟨ret_val HN.out.symm, hB.out _⟩
          · have HN := Lib.hid (HM.out (fun h => hix h.2.2))
            have hneg : ¬ (0 ≤ idxB false p.used 0) := hix
            clear k1 kc hix
            go_wp2_with fail
            refine (idx_calls (hu.alloc _) hl).mono ?_
            rintro e w1 ⟨rfl, rfl⟩
            go_wp2_with fail
            go_roundw
            case rel => exact ⟨k + 1, f, by omega, by go_num, HVV.out, HN, hB.out _⟩
            case measure => simp [intOf]; omega
        · have HN := Lib.hid (HM.out (fun h => k1 ⟨h.1, h.2.1⟩))
          by_cases k1' : p.kind = 1
          · have q1 : (p.cls == c) = false := by simp; exact fun h => k1 ⟨k1', h⟩
            rw [k1'] at e0
            clear k1 k1' q0
            go_wp2_with fail
            go_roundw
            case rel => exact ⟨k + 1, f, by omega, by go_num, HVV.out, HN, hB.out _⟩
            case measure => simp [intOf]; omega
          · have q1 : (p.kind == 1) = false := by simpa using k1'
            clear k1 k1'
            go_wp2_with fail
            go_roundw
            case rel => exact ⟨k + 1, f, by omega, by go_num, HVV.out, HN, hB.out _⟩
            case measure => simp [intOf]; omega
    · have HN : Hid (fv c (slotFor ps c) = fv c f) := by
        have := HW.out; rw [drop_end (by rw [HL.out]; omega), scan, scan_slotFor] at this; show _ = _; rw [this]
      have HV : Hid (∃ v, v = fv c f) := ⟨_, rfl⟩
      obtain ⟨v, hv⟩ := HV.out
      rw [← hv]
      have HVV := Lib.hid hv
      clear hv HV
      go_wp2_with fail
      try rw [Exit.noGoto_ret]
      go_ret
      exact ⟨ret_val (HVV.out.trans HN.out.symm), hbw⟩

theorem freeN_take : ∀ {m : Nat} {ps : List Pg}, freeN m (ps.take m) = freeN m ps
  | 0, ps => rfl
  | m + 1, [] => rfl
  | m + 1, q :: r => by rw [List.take_succ_cons, freeN, freeN, freeN_take]
theorem freeN_all {m : Nat} {ps : List Pg} (h1 : m ≤ ps.length) (h : ∀ i p, i < m → ps[i]? = some p → p.kind = 0) : freeN m ps = true := by
  induction m generalizing ps with
  | zero => rfl
  | succ m ih =>
    cases ps with
    | nil => simp at h1
    | cons q r =>
      rw [freeN, h 0 q (by omega) (by simp), ih (by simpa using h1) (fun i p hi hp => h (i + 1) p (by omega) (by simpa using hp))]; simp
theorem runFrom_skip1 {m k : Nat} {ps : List Pg} (h : freeN m (ps.drop k) = false) (hk : k < ps.length) : runFrom m k (ps.drop k) = runFrom m (k + 1) (ps.drop (k + 1)) := by
  rw [List.drop_eq_getElem_cons hk] at h ⊢
  rw [runFrom, h]; simp
theorem runFrom_hit {m k : Nat} {ps : List Pg} (h : freeN m (ps.drop k) = true) (hk : k < ps.length) : runFrom m k (ps.drop k) = some k := by
  rw [List.drop_eq_getElem_cons hk] at h ⊢
  rw [runFrom, h]; simp
/-- What 'freeRun' answers. -/
def runV (x : Option Nat) : Value := match x with
  | some i => .tuple #[.int .i64 i, .bool true]
  | none => .tuple #[.int .i64 0, .bool false]

set_option maxRecDepth 100000 in
set_option maxHeartbeats 2000000 in
theorem freeRun_calls {ao : Option Addr} {n cc m : Nat} {ps : List Pg} {S : Nat → Prop} {w : World} (hT : Lst KPage w S ao n ps) (hn : n ≤ cc) (hc : cc ≤ maxLen) (hm0 : 0 < m) (hm : m ≤ 4) :
    Calls Try.prog 66 #[.slice ao n cc, .int .i64 m] w fun e w' => e = .returned (runV (runFrom m 0 ps)) ∧ Below w.heap.size w w' := by
  have HL := Lib.hid hT.1
  unfold maxLen at hc
  go_enter Try.func66, Try.ntmps66
  go_wp2_with fail
  go_step3
  go_wp2_with fail
  go_step3
  go_wp2_with fail
  go_loopg [6, 8, 14] (n + 1 - m) (fun g _ _ s14 wx => ∃ k : Nat, k + g = n + 1 - m ∧ s14 = .int .i64 k ∧ Hid (runFrom m 0 ps = runFrom m k (ps.drop k)) ∧ Below w.heap.size w wx)
  case atStart => exact ⟨0, by omega, rfl, rfl, Below.refl _ _⟩
  case round =>
    obtain ⟨k, hkg, rfl, HW, hbw⟩ := hrel
    cases gk with
    | zero =>
      have hlt : ¬ ((k : Int) < (n : Int) - (m : Int) + 1) := by omega
      have HN : Hid (runFrom m 0 ps = none) := by show _ = _; rw [HW.out, runFrom_short (by rw [List.length_drop, HL.out]; omega)]
      go_wp2_with fail
      try rw [Exit.noGoto_ret]
      go_ret2
      exact ⟨by rw [HN.out]; rfl, hbw⟩
    | succ g =>
      have hlt : (k : Int) < (n : Int) - (m : Int) + 1 := by omega
      have hkm : k + m ≤ n := by omega
      obtain ⟨b, off, rfl, hbl, _⟩ := hT.lt (by omega)
      have hP := (hT.part (i := k) (m := m) (by omega)).below hbw
      rw [KPage_sz] at hP
      have hN : ((k : Int) + (m : Int)).toNat = k + m := by omega
      have hb1 : (k : Int) ≤ (k : Int) + (m : Int) := by omega
      have hb2 : (k : Int) + (m : Int) ≤ (cc : Int) := by omega
      have hkc : ¬ (cc = k) := by omega
      have hkc2 : ¬ (cc - k = 0) := by omega
      go_wp2_with fail
      have hbw0 := hbw
      obtain ⟨wo, hwo⟩ : ∃ wo : World, wo = wr := ⟨_, rfl⟩
      subst hwo
      go_loopg [8, 24] m (fun g' _ s24 wx => ∃ j : Nat, j + g' = m ∧ s24 = .int .i64 j ∧ Hid (∀ i p, i < j → (ps.drop k)[i]? = some p → p.kind = 0) ∧ Below wo.heap.size wo wx)
      case atStart => exact ⟨0, by omega, rfl, fun i p hi => by omega, Below.refl _ _⟩
      case round =>
        obtain ⟨j, hjg, rfl, HJ, hbj⟩ := hrel
        have hbw2 := hbw0.trans (hbj.mono hbw0.size)
        cases gk with
        | zero =>
          have hge : ¬ ((j : Int) < (m : Int)) := by omega
          have hfr : freeN m (ps.drop k) = true := freeN_all (by rw [List.length_drop, HL.out]; omega) (fun i p hi hp => HJ.out i p (by omega) hp)
          have HN : Hid (runFrom m 0 ps = some k) := by show _ = _; rw [HW.out, runFrom_hit hfr (by rw [HL.out]; omega)]
          clear hfr
          go_wp2_with fail
          try rw [Exit.noGoto_ret]
          go_ret2
          exact ⟨by rw [HN.out]; rfl, hbw2⟩
        | succ g' =>
          have hlt2 : (j : Int) < (m : Int) := by omega
          obtain ⟨b', off', p, a, l, c, he, d0, hp, e0, e1, e2, e3, hlc, hcm, hu⟩ := (hP.below hbj).pg_at (j := j) (by omega)
          cases he
          have hPx : (ps.drop k)[j]? = some p := by rw [List.getElem?_take] at hp; split at hp; exact hp; cases hp
          have HP := Lib.hid hPx
          have hB := Lib.hid (fun o => hbj.alloc hbj.size o)
          have hB2 := Lib.hid (fun o => hbw2.alloc hbw2.size o)
          clear hp hPx hu
          by_cases k0 : p.kind = 0
          · have HN : Hid (∀ i p, i < j + 1 → (ps.drop k)[i]? = some p → p.kind = 0) := fun i q hi hq => by
              by_cases e : i = j
              · subst e; have := HP.out.symm.trans hq; injection this with this; rw [← this]; exact k0
              · exact HJ.out i q (by omega) hq
            rw [k0] at e0
            clear k0
            go_wp2_with fail
            go_roundg g'
            case rel => exact ⟨j + 1, by omega, by go_num, HN, hB.out _⟩
            case measure => omega
          · have hq : (p.kind != 0) = true := by simpa using k0
            have HN : Hid (runFrom m 0 ps = runFrom m (k + 1) (ps.drop (k + 1))) := by
              show _ = _
              rw [HW.out, runFrom_skip1 (freeN_no (by omega) HP.out k0) (by rw [HL.out]; omega)]
            clear k0
            go_wp2_with fail
            go_roundg g
            case rel => exact ⟨k + 1, by omega, by go_num, HN, hB2.out _⟩
            case measure => omega
end Go.Proofs.Ytkikjoalhohlgaa
