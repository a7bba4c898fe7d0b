/- Chapter 4 of the model: pages compared. -/
import Derived.Test.YtkikjoalhohlgaaSpec4b
namespace Go.Proofs.Ytkikjoalhohlgaa
open Go.RowKit

/-- Two lists are the same as far as this. -/
def SameTo {α : Type} (xs ys : List α) (k : Nat) : Prop := ∀ j, j < k → xs[j]? = ys[j]?
theorem SameTo.succ {α : Type} {xs ys : List α} {k : Nat} (h : SameTo xs ys k) (hk : xs[k]? = ys[k]?) : SameTo xs ys (k + 1) := fun j hj => by
  by_cases e : j = k
  · rw [e]; exact hk
  · exact h j (by omega)
theorem SameTo.all {α : Type} {xs ys : List α} {k : Nat} (h : SameTo xs ys k) (h1 : xs.length ≤ k) (h2 : ys.length ≤ k) : xs = ys := by
  apply List.ext_getElem?
  intro j
  rcases Nat.lt_or_ge j k with hj | hj
  · exact h j hj
  · rw [List.getElem?_eq_none (by omega), List.getElem?_eq_none (by omega)]
theorem ne_at {α : Type} {xs ys : List α} {k : Nat} {x y : α} (hx : xs[k]? = some x) (hy : ys[k]? = some y) (h : x ≠ y) : xs ≠ ys := by
  rintro rfl; rw [hx] at hy; injection hy with hy; exact h hy

set_option maxRecDepth 100000 in
set_option maxHeartbeats 4000000 in
theorem sSamePages_calls {a b : Option Addr} {n m c d : Nat} {ps qs : List Pg} {S S' : Nat → Prop} {w : World} (ha : Lst KPage w S a n ps) (hb : Lst KPage w S' b m qs) (hS : ShortP 17592186044416 ps) (hS2 : ShortP 17592186044416 qs) (hn : n ≤ 17592186044416) (hm : m ≤ 17592186044416) :
    Calls Try.prog 27 #[.slice a n c, .slice b m d] w fun e w' => e = .returned (.bool (decide (ps = qs))) ∧ Below w.heap.size w w' := by
  have HL := Lib.hid ha.1
  have HL2 := Lib.hid hb.1
  have HS := Lib.hid hS
  have HS2 := Lib.hid hS2
  by_cases hnm : n = m
  rotate_left
  · have HF : Hid (decide (ps = qs) = false) := by show _ = _; rw [decide_eq_false_iff_not]; rintro rfl; exact hnm (HL.out.symm.trans HL2.out)
    have hq : ((n : Int) != (m : Int)) = true := by simp; omega
    go_enter Try.func27, Try.ntmps27
    go_wp2_with fail
    go_ret
    exact ⟨ret_bool HF.out.symm, Below.refl _ _⟩
  subst hnm
  have hq : ((n : Int) != (n : Int)) = false := by simp
  go_enter Try.func27, Try.ntmps27
  go_wp2_with fail
  clear hq
  go_loopw [5, 6] (fun i _ wr => ∃ k : Nat, k ≤ n ∧ i = .int .i64 k ∧ Hid (SameTo ps qs k) ∧ Below w.heap.size w wr) (fun i _ _ => n - (intOf i).toNat)
  case atStart => exact ⟨0, Nat.zero_le _, rfl, fun j hj => by omega, Below.refl _ _⟩
  case round =>
    obtain ⟨k, hk, rfl, HK, hbw⟩ := hrel
    by_cases hlt : k < n
    · obtain ⟨b0, o0, p, a0, l0, c0, rfl, d0, hp, e0, e1, e2, e3, hlc0, hcm0, hu0⟩ := (ha.below hbw).pg_at hlt
      obtain ⟨b1, o1, q, a1, l1, c1, rfl, d1, hp', f0, f1, f2, f3, hlc1, hcm1, hu1⟩ := (hb.below hbw).pg_at hlt
      have HP := Lib.hid hp
      have HP2 := Lib.hid hp'
      have hl : l0 ≤ 17592186044416 := by have := HS.out.at_ hp; have := hu0.1; omega
      have hl1 : l1 ≤ 17592186044416 := by have := HS2.out.at_ hp'; have := hu1.1; omega
      have HU := Lib.hid hu0.1
      have HU1 := Lib.hid hu1.1
      clear hp hp' hcm0 hcm1
      by_cases k0 : p.kind = q.kind
      rotate_left
      · have HF : Hid (decide (ps = qs) = false) := by show _ = _; rw [decide_eq_false_iff_not]; exact ne_at HP.out HP2.out (fun h => k0 (by rw [h]))
        have gk0 : (p.kind != q.kind) = true := by simp; omega
        clear k0
        go_wp2_with (go_quiet (fail))
        go_ret
        exact ⟨ret_bool HF.out.symm, below_drewN hbw _⟩
      have gk0 : (p.kind != q.kind) = false := by simp; omega
      by_cases k1 : p.cls = q.cls
      rotate_left
      · have HF : Hid (decide (ps = qs) = false) := by show _ = _; rw [decide_eq_false_iff_not]; exact ne_at HP.out HP2.out (fun h => k1 (by rw [h]))
        have gk1 : (p.cls != q.cls) = true := by simp; omega
        clear k1
        go_wp2_with (go_quiet (fail))
        go_ret
        exact ⟨ret_bool HF.out.symm, below_drewN hbw _⟩
      have gk1 : (p.cls != q.cls) = false := by simp; omega
      by_cases k2 : p.run = q.run
      rotate_left
      · have HF : Hid (decide (ps = qs) = false) := by show _ = _; rw [decide_eq_false_iff_not]; exact ne_at HP.out HP2.out (fun h => k2 (by rw [h]))
        have gk2 : (p.run != q.run) = true := by simp; omega
        clear k2
        go_wp2_with (go_quiet (fail))
        go_ret
        exact ⟨ret_bool HF.out.symm, below_drewN hbw _⟩
      have gk2 : (p.run != q.run) = false := by simp; omega
      by_cases k3 : l0 = l1
      rotate_left
      · have HF : Hid (decide (ps = qs) = false) := by show _ = _; rw [decide_eq_false_iff_not]; exact ne_at HP.out HP2.out (fun h => k3 (by rw [← HU.out, ← HU1.out, h]))
        have gk3 : ((l0 : Int) != (l1 : Int)) = true := by simp; omega
        clear k3
        go_wp2_with (go_quiet (fail))
        go_ret
        exact ⟨ret_bool HF.out.symm, below_drewN hbw _⟩
      have gk3 : ((l0 : Int) != (l1 : Int)) = false := by simp; omega
      have HPQ := Lib.hid (And.intro k0 (And.intro k1 k2))
      subst k3
      clear k0 k1 k2
      go_wp2_with (go_quiet (fail))
      obtain ⟨wo, hwo⟩ : ∃ wo : World, wo = wr := ⟨_, rfl⟩
      subst hwo
      have hbw1 := below_drewN hbw 1
      go_loopw [6] (fun i wr => ∃ j : Nat, j ≤ l0 ∧ i = .int .i64 j ∧ Hid (SameTo p.used q.used j) ∧ Below wo.heap.size wo wr) (fun i _ => l0 - (intOf i).toNat)
      case atStart => exact ⟨0, Nat.zero_le _, rfl, fun j hj => by omega, below_drewN (Below.refl _ _) _⟩
      case round =>
        obtain ⟨j, hj, rfl, HJ, hbj⟩ := hrel
        have x2 := (hbj.cell (p := ⟨b0, o0 + k * 4 + 2, none⟩) d0).trans e2
        have y2 := (hbj.cell (p := ⟨b1, o1 + k * 4 + 2, none⟩) d1).trans f2
        have hbw2 := hbw.trans (hbj.mono hbw.size)
        by_cases hjl : j < l0
        · obtain ⟨g0, s0, rfl, hg0, hc0⟩ := (hu0.below hbj).bool_at hjl
          obtain ⟨g1, s1, rfl, hg1, hc1⟩ := (hu1.below hbj).bool_at hjl
          have hx0 : p.used[j]? = some (p.used.getD j false) := by rw [List.getD_eq_getElem?_getD, List.getElem?_eq_getElem (by rw [HU.out]; exact hjl)]; rfl
          have hx1 : q.used[j]? = some (q.used.getD j false) := by rw [List.getD_eq_getElem?_getD, List.getElem?_eq_getElem (by rw [HU1.out]; exact hjl)]; rfl
          have HX := Lib.hid (And.intro hx0 hx1)
          generalize p.used.getD j false = u0 at hc0 HX
          generalize q.used.getD j false = u1 at hc1 HX
          clear hx0 hx1
          by_cases hu : u0 = u1
          · have HN := Lib.hid (HJ.out.succ (HX.out.1.trans (by rw [hu]; exact HX.out.2.symm)))
            subst hu
            rcases u0 with _ | _
            · go_wp2_with (go_quiet (fail))
              go_roundw
              case rel => exact ⟨j + 1, by omega, by go_num, HN, below_drewN hbj _⟩
              case measure => simp [intOf]; omega
            · go_wp2_with (go_quiet (fail))
              go_roundw
              case rel => exact ⟨j + 1, by omega, by go_num, HN, below_drewN hbj _⟩
              case measure => simp [intOf]; omega
          · have HF : Hid (decide (ps = qs) = false) := by
              show _ = _; rw [decide_eq_false_iff_not]
              exact ne_at HP.out HP2.out (fun h => by have h1 := HX.out.1; rw [h, HX.out.2] at h1; injection h1 with h1; exact hu h1.symm)
            rcases u0 with _ | _ <;> rcases u1 with _ | _
            · exact absurd rfl hu
            · clear hu
              go_wp2_with (go_quiet (fail))
              go_ret
              exact ⟨ret_bool HF.out.symm, below_drewN hbw2 _⟩
            · clear hu
              go_wp2_with (go_quiet (fail))
              go_ret
              exact ⟨ret_bool HF.out.symm, below_drewN hbw2 _⟩
            · exact absurd rfl hu
        · have HN : Hid (SameTo ps qs (k + 1)) := HK.out.succ (by
            rw [HP.out, HP2.out]
            congr 1
            exact Pg.ext_ HPQ.out.1 HPQ.out.2.1 (HJ.out.all (by rw [HU.out]; omega) (by rw [HU1.out]; omega)) HPQ.out.2.2)
          go_wp2_with fail
          go_roundw
          case rel => exact ⟨k + 1, by omega, by go_num, HN, hbw2⟩
          case measure => simp [intOf]; omega
    · have HF : Hid (decide (ps = qs) = true) := by show _ = _; rw [decide_eq_true_iff]; exact HK.out.all (by rw [HL.out]; omega) (by rw [HL2.out]; omega)
      go_wp2_with fail
      go_ret
      exact ⟨ret_bool HF.out.symm, hbw⟩
end Go.Proofs.Ytkikjoalhohlgaa
