/- Chapter 4 of the program: why pages are none, one by one and all of them. -/
import Derived.Test.YtkikjoalhohlgaaImpl4b
namespace Go.Proofs.Ytkikjoalhohlgaa
open Go.RowKit

set_option maxHeartbeats 2000000 in
theorem pageFault_calls {a : Option Addr} {n cc : Nat} {p : Pg} {S : Nat → Prop} {w : World} (hu : Lst KBool w S a n p.used) (hn : n ≤ 17592186044416) :
    Calls Try.prog 43 #[.agg #[.int .i64 p.kind, .int .i64 p.cls, .slice a n cc, .int .i64 p.run]] w fun e w' => e = .returned (.int .i64 (pageFault p)) ∧ Below w.heap.size w w' := by
  have HB := Lib.hid (pageFault_by p)
  rcases hr : rangeOk p with _ | _
  · have HF : Hid (pageFault p = 3) := by show _ = _; rw [HB.out, if_neg (by rw [hr]; simp)]
    go_enter Try.func43, Try.ntmps43
    go_wp2_with fail
    refine (isRange_calls (us := p.used)).mono ?_
    rw [hr]
    rintro e w1 ⟨rfl, hb1⟩
    have hrow := Row.new hb1
    have hb := below_past hb1
    go_wp2_with fail
    go_ret
    exact ⟨ret_int HF.out.symm, hb⟩
  rcases hd : decide (p = needed p) with _ | _
  · have HF : Hid (pageFault p = 1) := by show _ = _; rw [HB.out, if_pos hr, if_neg (by rw [hd]; simp)]
    go_enter Try.func43, Try.ntmps43
    go_wp2_with fail
    refine (isRange_calls (us := p.used)).mono ?_
    rw [hr]
    rintro e w1 ⟨rfl, hb1⟩
    have hrow := Row.new hb1
    have hb := below_past hb1
    have x0 : w1.cell? ⟨w.heap.size, 0, none⟩ = some (.int .i64 p.kind) := by rw [hrow.cell]; rfl
    have x1 : w1.cell? ⟨w.heap.size, 1, none⟩ = some (.int .i64 p.cls) := by rw [hrow.cell]; rfl
    have x2 : w1.cell? ⟨w.heap.size, 2, none⟩ = some (.slice a n cc) := by rw [hrow.cell]; rfl
    have x3 : w1.cell? ⟨w.heap.size, 3, none⟩ = some (.int .i64 p.run) := by rw [hrow.cell]; rfl
    clear hb1 hrow
    have kB := hb
    go_wp2_with fail
    go_region_held3 (fun w' => w'.cell? ⟨w.heap.size, 0, none⟩ = some (.int .i64 p.kind) ∧ w'.cell? ⟨w.heap.size, 1, none⟩ = some (.int .i64 p.cls) ∧ w'.cell? ⟨w.heap.size, 2, none⟩ = some (.slice a n cc) ∧ w'.cell? ⟨w.heap.size, 3, none⟩ = some (.int .i64 p.run) ∧ Below w.heap.size w w') (first | assumption | exact ⟨x0, x1, x2, x3, kB.drew⟩)
      (first
        | (go_at_call 84; obtain ⟨z0, z1, z2, z3, kb⟩ := ‹_ ∧ _ ∧ _ ∧ _ ∧ Below _ _ _›; refine (neededOf_calls (hu.below kb)).mono ?_; rintro e w' ⟨na, nm, nc, rfl, hnm, hnl, b1⟩; have hS' := keep4 ⟨z0, z1, z2, z3, kb⟩ b1)
        | (go_at_call 75; obtain ⟨z0, z1, z2, z3, kb⟩ := ‹_ ∧ _ ∧ _ ∧ _ ∧ Below _ _ _›; refine (samePage_calls (hu.below kb) hnl hn (by omega)).mono ?_; rw [hd]; rintro e w' ⟨rfl, b1⟩; have hS'' := keep4 ⟨z0, z1, z2, z3, kb⟩ b1))
    have kb2 := hS''.2.2.2.2
    clear hS' hS''
    go_wp2_with fail
    go_ret
    exact ⟨ret_int HF.out.symm, kb2⟩
  by_cases k1 : p.kind = 1
  · have HF : Hid (pageFault p = usedF p) := by show _ = _; rw [HB.out, if_pos hr, if_pos hd, if_pos k1]
    have h03 : 0 ≤ p.cls ∧ p.cls ≤ 3 := by unfold rangeOk at hr; rw [if_pos k1] at hr; exact within_range hr
    have K1 := Lib.hid k1
    have q1 : (p.kind == 1) = true := by simpa using k1
    clear k1
    go_enter Try.func43, Try.ntmps43
    go_wp2_with fail
    refine (isRange_calls (us := p.used)).mono ?_
    rw [hr]
    rintro e w1 ⟨rfl, hb1⟩
    have hrow := Row.new hb1
    have hb := below_past hb1
    have x0 : w1.cell? ⟨w.heap.size, 0, none⟩ = some (.int .i64 p.kind) := by rw [hrow.cell]; rfl
    have x1 : w1.cell? ⟨w.heap.size, 1, none⟩ = some (.int .i64 p.cls) := by rw [hrow.cell]; rfl
    have x2 : w1.cell? ⟨w.heap.size, 2, none⟩ = some (.slice a n cc) := by rw [hrow.cell]; rfl
    have x3 : w1.cell? ⟨w.heap.size, 3, none⟩ = some (.int .i64 p.run) := by rw [hrow.cell]; rfl
    clear hb1 hrow
    have kB := hb
    go_wp2_with fail
    go_region_held3 (fun w' => w'.cell? ⟨w.heap.size, 0, none⟩ = some (.int .i64 p.kind) ∧ w'.cell? ⟨w.heap.size, 1, none⟩ = some (.int .i64 p.cls) ∧ w'.cell? ⟨w.heap.size, 2, none⟩ = some (.slice a n cc) ∧ w'.cell? ⟨w.heap.size, 3, none⟩ = some (.int .i64 p.run) ∧ Below w.heap.size w w') (first | assumption | exact ⟨x0, x1, x2, x3, kB.drew⟩)
      (first
        | (go_at_call 84; obtain ⟨z0, z1, z2, z3, kb⟩ := ‹_ ∧ _ ∧ _ ∧ _ ∧ Below _ _ _›; refine (neededOf_calls (hu.below kb)).mono ?_; rintro e w' ⟨na, nm, nc, rfl, hnm, hnl, b1⟩; have hS' := keep4 ⟨z0, z1, z2, z3, kb⟩ b1)
        | (go_at_call 75; obtain ⟨z0, z1, z2, z3, kb⟩ := ‹_ ∧ _ ∧ _ ∧ _ ∧ Below _ _ _›; refine (samePage_calls (hu.below kb) hnl hn (by omega)).mono ?_; rw [hd]; rintro e w' ⟨rfl, b1⟩; have hS'' := keep4 ⟨z0, z1, z2, z3, kb⟩ b1))
    have kb2 := hS''.2.2.2.2
    obtain ⟨y0, y1, y2, y3, _⟩ := hS''
    clear hS'
    go_wp2_with fail
    refine (usedFault_calls (hu.below kb2) hn h03.1 h03.2).mono ?_
    rintro e w9 ⟨rfl, b9⟩
    have kb9 := kb2.trans (b9.mono kb2.size)
    go_wp2_with fail
    go_ret
    exact ⟨ret_int HF.out.symm, kb9⟩
  have HF : Hid (pageFault p = 0) := by show _ = _; rw [HB.out, if_pos hr, if_pos hd, if_neg k1]
  have q1 : (p.kind == 1) = false := by simpa using k1
  clear k1
  go_enter Try.func43, Try.ntmps43
  go_wp2_with fail
  refine (isRange_calls (us := p.used)).mono ?_
  rw [hr]
  rintro e w1 ⟨rfl, hb1⟩
  have hrow := Row.new hb1
  have hb := below_past hb1
  have x0 : w1.cell? ⟨w.heap.size, 0, none⟩ = some (.int .i64 p.kind) := by rw [hrow.cell]; rfl
  have x1 : w1.cell? ⟨w.heap.size, 1, none⟩ = some (.int .i64 p.cls) := by rw [hrow.cell]; rfl
  have x2 : w1.cell? ⟨w.heap.size, 2, none⟩ = some (.slice a n cc) := by rw [hrow.cell]; rfl
  have x3 : w1.cell? ⟨w.heap.size, 3, none⟩ = some (.int .i64 p.run) := by rw [hrow.cell]; rfl
  clear hb1 hrow
  have kB := hb
  go_wp2_with fail
  go_region_held3 (fun w' => w'.cell? ⟨w.heap.size, 0, none⟩ = some (.int .i64 p.kind) ∧ w'.cell? ⟨w.heap.size, 1, none⟩ = some (.int .i64 p.cls) ∧ w'.cell? ⟨w.heap.size, 2, none⟩ = some (.slice a n cc) ∧ w'.cell? ⟨w.heap.size, 3, none⟩ = some (.int .i64 p.run) ∧ Below w.heap.size w w') (first | assumption | exact ⟨x0, x1, x2, x3, kB.drew⟩)
    (first
      | (go_at_call 84; obtain ⟨z0, z1, z2, z3, kb⟩ := ‹_ ∧ _ ∧ _ ∧ _ ∧ Below _ _ _›; refine (neededOf_calls (hu.below kb)).mono ?_; rintro e w' ⟨na, nm, nc, rfl, hnm, hnl, b1⟩; have hS' := keep4 ⟨z0, z1, z2, z3, kb⟩ b1)
      | (go_at_call 75; obtain ⟨z0, z1, z2, z3, kb⟩ := ‹_ ∧ _ ∧ _ ∧ _ ∧ Below _ _ _›; refine (samePage_calls (hu.below kb) hnl hn (by omega)).mono ?_; rw [hd]; rintro e w' ⟨rfl, b1⟩; have hS'' := keep4 ⟨z0, z1, z2, z3, kb⟩ b1))
  have kb2 := hS''.2.2.2.2
  obtain ⟨y0, y1, y2, y3, _⟩ := hS''
  clear hS'
  go_wp2_with fail
  go_ret
  exact ⟨ret_int HF.out.symm, kb2⟩

/-- A box behind a new block: it is there, and all else is as it was. -/
theorem below_box {w0 w w1 : World} {o : Obj} (hb : Below w0.heap.size w0 w) (h : Below (w.alloc o).heap.size (w.alloc o) w1) : Below w0.heap.size w0 w1 := hb.trans ((below_past h).mono hb.size)

set_option maxRecDepth 100000 in
set_option maxHeartbeats 1000000 in
theorem runsWhole_calls {ao : Option Addr} {n cc : Nat} {ps : List Pg} {S : Nat → Prop} {w : World} (hT : Lst KPage w S ao n ps) (hn : n ≤ 17592186044416) (hA : ∀ p ∈ ps, pageFault p = 0) :
    Calls Try.prog 79 #[.slice ao n cc] w fun e w' => e = .returned (.bool (whole 0 ps)) ∧ Below w.heap.size w w' := by
  have HL := Lib.hid hT.1
  have HA := Lib.hid hA
  clear hA
  go_enter Try.func79, Try.ntmps79
  go_wp2_with fail
  go_loopw [3, 5, 8] (fun q _ i wr => ∃ (k : Nat) (l : Int), k ≤ n ∧ i = .int .i64 k ∧ q = .int .i64 l ∧ 0 ≤ l ∧ l ≤ 3 ∧ Hid (whole 0 ps = whole l (ps.drop k)) ∧ Below w.heap.size w wr) (fun _ _ i _ => n - (intOf i).toNat)
  case atStart => exact ⟨0, 0, Nat.zero_le _, rfl, rfl, by omega, by omega, rfl, Below.refl _ _⟩
  case round =>
    obtain ⟨k, l, hk, rfl, rfl, hl0, hl3, HW, hbw⟩ := hrel
    by_cases hlt : k < n
    · obtain ⟨b, off, p, a, m, c, rfl, d0, hp, e0, e1, e2, e3, hlc, hcm, hu⟩ := (hT.below hbw).pg_at hlt
      have HD := Lib.hid hp
      have HPF := Lib.hid (HA.out p (List.mem_of_getElem? hp))
      have HWd : Hid (whole 0 ps = if decide (p.kind = 3) = decide (0 < l) then whole (nextLeft l p) (ps.drop (k + 1)) else false) := by
        have := HW.out; rw [drop_at hp, whole] at this; exact this
      have hB := Lib.hid (fun o => hbw.alloc hbw.size o)
      clear hp hcm hu HW
      by_cases k3 : p.kind = 3
      · rw [k3] at e0
        by_cases hl : 0 < l
        · have HN : Hid (whole 0 ps = whole (l - 1) (ps.drop (k + 1))) := by
            have := HWd.out
            rw [if_pos (by simp [k3, hl])] at this
            rw [show nextLeft l p = l - 1 by unfold nextLeft; rw [if_neg (by omega), if_pos k3]] at this
            exact this
          clear k3
          go_wp2_with fail
          go_roundw
          case rel => exact ⟨k + 1, l - 1, by omega, by go_num, by go_num, by omega, by omega, HN, hB.out _⟩
          case measure => simp [intOf]; omega
        · have HN : Hid (whole 0 ps = false) := by
            have := HWd.out
            rw [if_neg (by simp [k3, hl])] at this
            exact this
          clear k3
          go_wp2_with fail
          go_ret
          exact ⟨ret_bool HN.out.symm, hB.out _⟩
      · have q3 : (p.kind == 3) = false := by simpa using k3
        by_cases hl : 0 < l
        · have HN : Hid (whole 0 ps = false) := by
            have := HWd.out
            rw [if_neg (by simp [k3, hl])] at this
            exact this
          clear k3
          go_wp2_with fail
          go_ret
          exact ⟨ret_bool HN.out.symm, hB.out _⟩
        · by_cases k2 : p.kind = 2
          · have hr : 1 ≤ p.run ∧ p.run ≤ 4 := by
              rcases pageFault_ok HPF.out with h | h | h <;> omega
            have HN : Hid (whole 0 ps = whole (p.run - 1) (ps.drop (k + 1))) := by
              have := HWd.out
              rw [if_pos (by simp [k3, hl])] at this
              rw [show nextLeft l p = p.run - 1 by unfold nextLeft; rw [if_pos k2]] at this
              exact this
            obtain ⟨hr1, hr4⟩ := hr
            rw [k2] at e0
            clear k3 k2 q3
            go_wp2_with fail
            go_roundw
            case rel => exact ⟨k + 1, p.run - 1, by omega, by go_num, rfl, by omega, by omega, HN, hB.out _⟩
            case measure => simp [intOf]; omega
          · have q2 : (p.kind == 2) = false := by simpa using k2
            have HN : Hid (whole 0 ps = whole l (ps.drop (k + 1))) := by
              have := HWd.out
              rw [if_pos (by simp [k3, hl])] at this
              rw [show nextLeft l p = l by unfold nextLeft; rw [if_neg k2, if_neg k3]] at this
              exact this
            clear k3 k2
            go_wp2_with fail
            go_roundw
            case rel => exact ⟨k + 1, l, by omega, by go_num, rfl, by omega, by omega, HN, hB.out _⟩
            case measure => simp [intOf]; omega
    · have HW2 : Hid (whole 0 ps = decide (l = 0)) := by
        have := HW.out; rw [drop_end (by rw [HL.out]; omega)] at this; exact this
      by_cases hl : l = 0
      · have HF : Hid (whole 0 ps = true) := by show _ = _; rw [HW2.out]; simpa using hl
        subst hl
        go_wp2_with fail
        go_ret
        exact ⟨ret_bool HF.out.symm, hbw⟩
      · have HF : Hid (whole 0 ps = false) := by show _ = _; rw [HW2.out]; simpa using hl
        have hq : (l == 0) = false := by simpa using hl
        clear hl
        go_wp2_with fail
        go_ret
        exact ⟨ret_bool HF.out.symm, hbw⟩

set_option maxRecDepth 100000 in
set_option maxHeartbeats 1000000 in
theorem pagesFault_calls {ao : Option Addr} {n cc : Nat} {ps : List Pg} {S : Nat → Prop} {w : World} (hT : Lst KPage w S ao n ps) (hS : ShortP 17592186044416 ps) (hn : n ≤ 17592186044416) :
    Calls Try.prog 28 #[.slice ao n cc] w fun e w' => e = .returned (.int .i64 (pagesFault ps)) ∧ Below w.heap.size w w' := by
  have HL := Lib.hid hT.1
  have HS := Lib.hid hS
  by_cases hbig : 40 < n
  · have HF := Lib.hid (show pagesFault ps = 2 by unfold pagesFault; rw [if_pos (by rw [HL.out]; exact hbig)])
    go_enter Try.func28, Try.ntmps28
    go_wp2_with fail
    go_ret
    exact ⟨ret_int HF.out.symm, Below.refl _ _⟩
  have hno : ¬ ((40 : Int) < n) := by omega
  have HP : Hid (pagesFault ps = if firstPF ps = 0 then (if whole 0 ps = true then 0 else 8) else firstPF ps) := by
    show pagesFault ps = _
    unfold pagesFault; rw [if_neg (by rw [HL.out]; omega)]
  go_enter Try.func28, Try.ntmps28
  go_wp2_with fail
  go_loopw [4, 5, 11] (fun _ _ i wr => ∃ k : Nat, k ≤ n ∧ i = .int .i64 k ∧ Hid (firstPF ps = firstPF (ps.drop k)) ∧ Hid (∀ j p, j < k → ps[j]? = some p → pageFault p = 0) ∧ Below w.heap.size w wr) (fun _ _ i _ => n - (intOf i).toNat)
  case atStart => exact ⟨0, Nat.zero_le _, rfl, rfl, fun j p hj => by omega, Below.refl _ _⟩
  case round =>
    obtain ⟨k, hk, rfl, HW, HA, hbw⟩ := hrel
    by_cases hlt : k < n
    · obtain ⟨b, off, p, a, l, c, rfl, d0, hp, e0, e1, e2, e3, hlc, hcm, hu⟩ := (hT.below hbw).pg_at hlt
      have HD := Lib.hid hp
      have hl : l ≤ 17592186044416 := by have := HS.out.at_ hp; have := hu.1; omega
      clear hp hcm
      by_cases hz : pageFault p = 0
      · have HN : Hid (firstPF ps = firstPF (ps.drop (k + 1))) := by
          have := HW.out; rw [drop_at HD.out, firstPF, if_pos hz] at this; exact this
        have HN2 : Hid (∀ j p, j < k + 1 → ps[j]? = some p → pageFault p = 0) := fun j q hj hq => by
          by_cases e : j = k
          · subst e; have := HD.out.symm.trans hq; injection this with this; rw [← this]; exact hz
          · exact HA.out j q (by omega) hq
        have HZ := Lib.hid hz
        clear hz
        go_wp2_with fail
        refine (pageFault_calls (hu.alloc _) hl).mono ?_
        rintro e w1 ⟨rfl, hb1⟩
        rw [HZ.out]
        have hb2 := below_box hbw hb1
        clear hb1
        go_wp2_with fail
        go_roundw
        case rel => exact ⟨k + 1, by omega, by go_num, HN, HN2, hb2⟩
        case measure => simp [intOf]; omega
      · have HF : Hid (pagesFault ps = pageFault p) := by
          have h1 := HW.out; rw [drop_at HD.out, firstPF, if_neg hz] at h1
          show pagesFault ps = _
          rw [HP.out, h1, if_neg hz]
        have hq : (pageFault p != 0) = true := by simpa using hz
        clear hz
        go_wp2_with fail
        refine (pageFault_calls (hu.alloc _) hl).mono ?_
        rintro e w1 ⟨rfl, hb1⟩
        have hb2 := below_box hbw hb1
        clear hb1
        go_wp2_with fail
        go_ret
        exact ⟨ret_int HF.out.symm, hb2⟩
    · have HA2 : Hid (∀ p ∈ ps, pageFault p = 0) := by
        intro p hp
        obtain ⟨j, hj, rfl⟩ := List.getElem_of_mem hp
        exact HA.out j _ (by have := HL.out; omega) (List.getElem?_eq_getElem hj)
      have HP2 : Hid (pagesFault ps = if whole 0 ps = true then 0 else 8) := by
        have h1 := HP.out; rw [if_pos (firstPF_of HA2.out)] at h1; exact h1
      clear HA HW HP
      rcases hwh : whole 0 ps with _ | _
      · have HF : Hid (pagesFault ps = 8) := by show _ = _; rw [HP2.out, hwh]; rfl
        go_wp2_with fail
        refine (runsWhole_calls (hT.below hbw) hn HA2.out).mono ?_
        rw [hwh]
        rintro e w1 ⟨rfl, hb1⟩
        go_wp2_with fail
        go_ret
        exact ⟨ret_int HF.out.symm, hbw.trans (hb1.mono hbw.size)⟩
      · have HF : Hid (pagesFault ps = 0) := by show _ = _; rw [HP2.out, hwh]; rfl
        go_wp2_with fail
        refine (runsWhole_calls (hT.below hbw) hn HA2.out).mono ?_
        rw [hwh]
        rintro e w1 ⟨rfl, hb1⟩
        go_wp2_with fail
        go_ret
        exact ⟨ret_int HF.out.symm, hbw.trans (hb1.mono hbw.size)⟩

end Go.Proofs.Ytkikjoalhohlgaa
