/- Chapter 4 of the program: pages compared. -/
import Derived.Test.YtkikjoalhohlgaaImpl4c
namespace Go.Proofs.Ytkikjoalhohlgaa
open Go.RowKit

set_option maxRecDepth 100000 in
set_option maxHeartbeats 2000000 in
theorem equalPages_calls {a b : Option Addr} {n m c d : Nat} {ps qs : List Pg} {S S' : Nat → Prop} {w : World} (ha : Lst KPage w S a n ps) (hb : Lst KPage w S' b m qs) (hS : ShortP 17592186044416 ps) (hS2 : ShortP 17592186044416 qs) (hn : n ≤ 17592186044416) (hm : m ≤ 17592186044416) :
    Calls Try.prog 74 #[.slice a n c, .slice b m d, .func (Fn.func 75) #[] #[]] w fun e w' => e = .returned (.bool (decide (ps = qs))) ∧ Below w.heap.size w w' := by
  have HL := Lib.hid ha.1
  have HL2 := Lib.hid hb.1
  have HS := Lib.hid hS
  have HS2 := Lib.hid hS2
  by_cases hnm : n = m
  rotate_left
  · have HF : Hid (decide (ps = qs) = false) := by show _ = _; rw [decide_eq_false_iff_not]; rintro rfl; exact hnm (HL.out.symm.trans HL2.out)
    have hq : ((n : Int) != (m : Int)) = true := by simp; omega
    go_enter Try.func74, Try.ntmps74
    go_wp2_with fail
    go_ret
    exact ⟨ret_bool HF.out.symm, Below.refl _ _⟩
  subst hnm
  have hq : ((n : Int) != (n : Int)) = false := by simp
  go_enter Try.func74, Try.ntmps74
  go_wp2_with fail
  clear hq
  go_loopw [7, 8, 9, 17] (fun _ _ _ i wr => ∃ k : Nat, k ≤ n ∧ i = .int .i64 k ∧ Hid (SameUpto ps qs k) ∧ Below w.heap.size w wr) (fun _ _ _ i _ => n - (intOf i).toNat)
  case atStart => exact ⟨0, Nat.zero_le _, rfl, fun j hj => by omega, Below.refl _ _⟩
  case round =>
    obtain ⟨k, hk, rfl, HK, hbw⟩ := hrel
    by_cases hlt : k < n
    · obtain ⟨b0, o0, p, a0, l0, c0, rfl, d0, hp, e0, e1, e2, e3, hlc0, hcm0, hu0⟩ := (ha.below hbw).pg_at hlt
      obtain ⟨b1, o1, q, a1, l1, c1, rfl, d1, hp', f0, f1, f2, f3, hlc1, hcm1, hu1⟩ := (hb.below hbw).pg_at hlt
      have HP := Lib.hid hp
      have HP2 := Lib.hid hp'
      have hl : l0 ≤ 17592186044416 := by have := HS.out.at_ hp; have := hu0.1; omega
      have hl1 : l1 ≤ 17592186044416 := by have := HS2.out.at_ hp'; have := hu1.1; omega
      clear hp hp' hcm0 hcm1
      rcases hd : decide (p = q) with _ | _
      · have HF : Hid (decide (ps = qs) = false) := by
          show _ = _; rw [decide_eq_false_iff_not]; exact differ_at HP.out HP2.out (by simpa using hd)
        go_wp2_with fail
        refine (samePage_calls ((hu0.alloc _).alloc _) ((hu1.alloc _).alloc _) hl hl1).mono ?_
        rw [hd]
        rintro e w1 ⟨rfl, hx⟩
        have hb2 := below_box (hbw.alloc hbw.size _) hx
        clear hx
        go_wp2_with fail
        go_ret
        exact ⟨ret_bool HF.out.symm, hb2⟩
      · have HN := Lib.hid (HK.out.succ (HP.out.trans (by rw [HP2.out, show p = q by simpa using hd])))
        go_wp2_with fail
        refine (samePage_calls ((hu0.alloc _).alloc _) ((hu1.alloc _).alloc _) hl hl1).mono ?_
        rw [hd]
        rintro e w1 ⟨rfl, hx⟩
        have hb2 := below_box (hbw.alloc hbw.size _) hx
        clear hx
        go_wp2_with fail
        go_roundw
        case rel => exact ⟨k + 1, by omega, by go_num, HN, hb2⟩
        case measure => simp [intOf]; omega
    · have HF : Hid (decide (ps = qs) = true) := by show _ = _; rw [decide_eq_true_iff]; exact HK.out.all (by rw [HL.out]; omega) (by rw [HL2.out]; omega)
      go_wp2_with fail
      go_ret
      exact ⟨ret_bool HF.out.symm, hbw⟩

theorem samePages_calls {a b : Option Addr} {n m c d : Nat} {ps qs : List Pg} {S S' : Nat → Prop} {w : World} (ha : Lst KPage w S a n ps) (hb : Lst KPage w S' b m qs) (hS : ShortP 17592186044416 ps) (hS2 : ShortP 17592186044416 qs) (hn : n ≤ 17592186044416) (hm : m ≤ 17592186044416) :
    Calls Try.prog 24 #[.slice a n c, .slice b m d] w fun e w' => e = .returned (.bool (decide (ps = qs))) ∧ Below w.heap.size w w' := by
  go_enter Try.func24, Try.ntmps24
  go_wp2_with fail
  refine (equalPages_calls ha hb hS hS2 hn hm).mono ?_
  rintro e w1 ⟨rfl, hb1⟩
  go_wp2_with fail
  go_ret
  exact ⟨rfl, hb1⟩
end Go.Proofs.Ytkikjoalhohlgaa
