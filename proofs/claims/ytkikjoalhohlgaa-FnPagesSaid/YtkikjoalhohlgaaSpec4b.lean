/- Chapter 4 of the model: why pages are none (all of them); copies. -/
import Derived.Test.YtkikjoalhohlgaaSpec4
namespace Go.Proofs.Ytkikjoalhohlgaa
open Go.RowKit

theorem nextLeft_range {l : Int} {p : Pg} (h0 : 0 ≤ l) (h3 : l ≤ 3) (hp : pageFault p = 0) (hd : decide (p.kind = 3) = decide (0 < l)) : 0 ≤ nextLeft l p ∧ nextLeft l p ≤ 3 := by
  unfold nextLeft
  rcases pageFault_ok hp with h | h | ⟨h, _⟩
  · rw [if_neg (by omega), if_neg (by omega)]; omega
  · rw [if_pos h.1]; omega
  · rw [if_neg (by omega)]
    split
    · rename_i h1; simp [h1] at hd; omega
    · omega

set_option maxHeartbeats 1000000 in
theorem sPagesFault_calls {ao : Option Addr} {n cc : Nat} {ps : List Pg} {S : Nat → Prop} {w : World} (hT : Lst KPage w S ao n ps) (hS : ShortP 17592186044416 ps) (hn : n ≤ 17592186044416) :
    Calls Try.prog 29 #[.slice ao n cc] w fun e w' => e = .returned (.int .i64 (pagesFault ps)) ∧ Below w.heap.size w w' := by
  have HL := Lib.hid hT.1
  have HS := Lib.hid hS
  by_cases hbig : 40 < n
  · have HF := Lib.hid (show pagesFault ps = 2 by unfold pagesFault; rw [if_pos (by rw [HL.out]; exact hbig)])
    go_enter Try.func29, Try.ntmps29
    go_wp2
    go_ret
    exact ⟨ret_int HF.out.symm, Below.refl _ _⟩
  have hno : ¬ ((40 : Int) < n) := by omega
  have HP : Hid (pagesFault ps = if firstPF ps = 0 then (if whole 0 ps = true then 0 else 8) else firstPF ps) := by
    show pagesFault ps = _
    unfold pagesFault; rw [if_neg (by rw [HL.out]; omega)]
  go_enter Try.func29, Try.ntmps29
  go_wp2
  go_loopw [3, 4] (fun i _ wr => ∃ k : Nat, k ≤ n ∧ i = .int .i64 k ∧ Hid (firstPF ps = firstPF (ps.drop k)) ∧ Hid (∀ j p, j < k → ps[j]? = some p → pageFault p = 0) ∧ Below w.heap.size w wr) (fun i _ _ => n - (intOf i).toNat)
  case atStart => exact ⟨0, Nat.zero_le _, rfl, rfl, fun j p hj => by omega, Below.refl _ _⟩
  case round =>
    obtain ⟨k, hk, rfl, HW, HA, hbw⟩ := hrel
    by_cases hlt : k < n
    · obtain ⟨b, off, p, a, l, c, rfl, d0, hp, e0, e1, e2, e3, hlc, hcm, hu⟩ := (hT.below hbw).pg_at hlt
      have HD := Lib.hid hp
      have hl : l ≤ 17592186044416 := by have := HS.out.at_ hp; have := hu.1; omega
      clear hp hcm
      by_cases hz : pageFault p = 0
      · have HN : Hid (firstPF ps = firstPF (ps.drop (k + 1))) := by
          have := HW.out; rw [drop_at HD.out, firstPF, if_pos hz] at this; exact this
        have HN2 : Hid (∀ j p, j < k + 1 → ps[j]? = some p → pageFault p = 0) := fun j q hj hq => by
          by_cases e : j = k
          · subst e; have := HD.out.symm.trans hq; injection this with this; rw [← this]; exact hz
          · exact HA.out j q (by omega) hq
        have HZ := Lib.hid hz
        clear hz
        go_wp2_with fail
        refine (sPageFault_calls hu hl).mono ?_
        rintro e w1 ⟨rfl, hb1⟩
        rw [HZ.out]
        go_wp2_with fail
        go_roundw
        case rel => exact ⟨k + 1, by omega, by go_num, HN, HN2, hbw.trans (hb1.mono hbw.size)⟩
        case measure => simp [intOf]; omega
      · have HF : Hid (pagesFault ps = pageFault p) := by
          have h1 := HW.out; rw [drop_at HD.out, firstPF, if_neg hz] at h1
          show pagesFault ps = _
          rw [HP.out, h1, if_neg hz]
        have hq : (pageFault p != 0) = true := by simpa using hz
        clear hz
        go_wp2_with fail
        refine (sPageFault_calls hu hl).mono ?_
        rintro e w1 ⟨rfl, hb1⟩
        go_wp2_with fail
        go_ret
        exact ⟨ret_int HF.out.symm, hbw.trans (hb1.mono hbw.size)⟩
    · have HA2 : Hid (∀ p ∈ ps, pageFault p = 0) := by
        intro p hp
        obtain ⟨j, hj, rfl⟩ := List.getElem_of_mem hp
        exact HA.out j _ (by have := HL.out; omega) (List.getElem?_eq_getElem hj)
      have HP2 : Hid (pagesFault ps = if whole 0 ps = true then 0 else 8) := by
        have h1 := HP.out; rw [if_pos (firstPF_of HA2.out)] at h1; exact h1
      clear HA HW HP
      go_wp2_with fail
      have hbw0 := hbw
      obtain ⟨wo, hwo⟩ : ∃ wo : World, wo = wr := ⟨_, rfl⟩
      subst hwo
      go_loopw [5, 6, 7] (fun q i _ wr => ∃ (k : Nat) (l : Int), k ≤ n ∧ i = .int .i64 k ∧ q = .int .i64 l ∧ 0 ≤ l ∧ l ≤ 3 ∧ Hid (whole 0 ps = whole l (ps.drop k)) ∧ Below w.heap.size w wr) (fun _ i _ _ => n - (intOf i).toNat)
      case atStart => exact ⟨0, 0, Nat.zero_le _, rfl, rfl, by omega, by omega, rfl, hbw0⟩
      case round =>
        clear hbw hbw0
        obtain ⟨k, l, hk, rfl, rfl, hl0, hl3, HW, hbw⟩ := hrel
        by_cases hlt : k < n
        · obtain ⟨b, off, p, a, m, c, rfl, d0, hp, e0, e1, e2, e3, hlc, hcm, hu⟩ := (hT.below hbw).pg_at hlt
          have HD := Lib.hid hp
          have HPF := Lib.hid (HA2.out p (List.mem_of_getElem? hp))
          have HWd : Hid (whole 0 ps = if decide (p.kind = 3) = decide (0 < l) then whole (nextLeft l p) (ps.drop (k + 1)) else false) := by
            have := HW.out; rw [drop_at hp, whole] at this; exact this
          clear hp hcm hu HW e1 e2
          by_cases k3 : p.kind = 3
          · rw [k3] at e0
            by_cases hl : 0 < l
            · have HN : Hid (whole 0 ps = whole (l - 1) (ps.drop (k + 1))) := by
                have := HWd.out
                rw [if_pos (by simp [k3, hl])] at this
                rw [show nextLeft l p = l - 1 by unfold nextLeft; rw [if_neg (by omega), if_pos k3]] at this
                exact this
              clear k3
              go_wp2_with fail
              go_roundw
              case rel => exact ⟨k + 1, l - 1, by omega, by go_num, by go_num, by omega, by omega, HN, hbw⟩
              case measure => simp [intOf]; omega
            · have HN : Hid (pagesFault ps = 8) := by
                have := HWd.out
                rw [if_neg (by simp [k3, hl])] at this
                show pagesFault ps = 8
                rw [HP2.out, this]; rfl
              clear k3
              go_wp2_with fail
              go_ret
              exact ⟨ret_int HN.out.symm, hbw⟩
          · have q3 : (p.kind == 3) = false := by simpa using k3
            by_cases hl : 0 < l
            · have HN : Hid (pagesFault ps = 8) := by
                have := HWd.out
                rw [if_neg (by simp [k3, hl])] at this
                show pagesFault ps = 8
                rw [HP2.out, this]; rfl
              clear k3
              go_wp2_with fail
              go_ret
              exact ⟨ret_int HN.out.symm, hbw⟩
            · by_cases k2 : p.kind = 2
              · have hr : 1 ≤ p.run ∧ p.run ≤ 4 := by
                  rcases pageFault_ok HPF.out with h | h | h <;> omega
                have HN : Hid (whole 0 ps = whole (p.run - 1) (ps.drop (k + 1))) := by
                  have := HWd.out
                  rw [if_pos (by simp [k3, hl])] at this
                  rw [show nextLeft l p = p.run - 1 by unfold nextLeft; rw [if_pos k2]] at this
                  exact this
                obtain ⟨hr1, hr4⟩ := hr
                rw [k2] at e0
                clear k3 k2 q3
                go_wp2_with fail
                go_roundw
                case rel => exact ⟨k + 1, p.run - 1, by omega, by go_num, rfl, by omega, by omega, HN, hbw⟩
                case measure => simp [intOf]; omega
              · have q2 : (p.kind == 2) = false := by simpa using k2
                have HN : Hid (whole 0 ps = whole l (ps.drop (k + 1))) := by
                  have := HWd.out
                  rw [if_pos (by simp [k3, hl])] at this
                  rw [show nextLeft l p = l by unfold nextLeft; rw [if_neg k2, if_neg k3]] at this
                  exact this
                clear k3 k2
                go_wp2_with fail
                go_roundw
                case rel => exact ⟨k + 1, l, by omega, by go_num, rfl, by omega, by omega, HN, hbw⟩
                case measure => simp [intOf]; omega
        · have HW2 : Hid (whole 0 ps = decide (l = 0)) := by
            have := HW.out; rw [drop_end (by rw [HL.out]; omega)] at this; exact this
          by_cases hl : 0 < l
          · have HN : Hid (pagesFault ps = 8) := by
              show pagesFault ps = 8
              rw [HP2.out, HW2.out, if_neg (by simp; omega)]
            go_wp2_with fail
            go_ret
            exact ⟨ret_int HN.out.symm, hbw⟩
          · have HN : Hid (pagesFault ps = 0) := by
              show pagesFault ps = 0
              rw [HP2.out, HW2.out, if_pos (by simp; omega)]
            go_wp2_with fail
            go_ret
            exact ⟨ret_int HN.out.symm, hbw⟩
end Go.Proofs.Ytkikjoalhohlgaa
