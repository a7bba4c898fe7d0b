/- Chapter 4 of the program: truth values that are looked for and compared; what a page needs. -/
import Derived.Test.YtkikjoalhohlgaaPlain4
import Derived.Test.YtkikjoalhohlgaaImpl3
import Derived.Test.YtkikjoalhohlgaaHelp4b
namespace Go.Proofs.Ytkikjoalhohlgaa
open Go.RowKit

theorem idx_calls {a : Option Addr} {n c : Nat} {v : Bool} {us : List Bool} {S : Nat → Prop} {w : World} (hu : Lst KBool w S a n us) (hn : n ≤ 17592186044416) :
    Calls Try.prog 94 #[.slice a n c, .bool v] w fun e w' => e = .returned (.int .i64 (idxB v us 0)) ∧ w = w' := by
  have HL := Lib.hid hu.1
  go_enter Try.func94, Try.ntmps94
  go_wp2_with fail
  go_loop [5, 8] (fun _ i => ∃ k : Nat, k ≤ n ∧ i = .int .i64 k ∧ Hid (idxB v us 0 = idxB v (us.drop k) k)) (fun _ i => n - (intOf i).toNat)
  case atStart => exact ⟨0, Nat.zero_le _, rfl, rfl⟩
  case round =>
    obtain ⟨k, hk, rfl, HW⟩ := hrel
    by_cases hlt : k < n
    · obtain ⟨ba, oa, rfl, hba, hca⟩ := hu.bool_at hlt
      have hx : us[k]? = some (us.getD k false) := by rw [List.getD_eq_getElem?_getD, List.getElem?_eq_getElem (by rw [HL.out]; exact hlt)]; rfl
      generalize us.getD k false = u at hca hx
      have HS : Hid (idxB v us 0 = if u = v then (k : Int) else idxB v (us.drop (k + 1)) (k + 1)) := by have := HW.out; rw [drop_at hx, idxB] at this; exact this
      clear hx
      by_cases huv : u = v
      · have HF : Hid (idxB v us 0 = k) := by have := HS.out; rw [if_pos huv] at this; exact this
        subst huv
        rcases u with _ | _
        · go_wp2_with fail
          go_ret
          exact ⟨ret_int HF.out.symm, rfl⟩
        · go_wp2_with fail
          go_ret
          exact ⟨ret_int HF.out.symm, rfl⟩
      · have HF : Hid (idxB v us 0 = idxB v (us.drop (k + 1)) (k + 1)) := by have := HS.out; rw [if_neg huv] at this; exact this
        rcases u with _ | _ <;> rcases v with _ | _
        · exact absurd rfl huv
        · clear huv
          go_wp2_with fail
          go_round
          case rel => exact ⟨k + 1, by omega, by go_num, HF⟩
          case measure => simp [intOf]; omega
        · clear huv
          go_wp2_with fail
          go_round
          case rel => exact ⟨k + 1, by omega, by go_num, HF⟩
          case measure => simp [intOf]; omega
        · exact absurd rfl huv
    · have HF : Hid (idxB v us 0 = -1) := by have := HW.out; rw [drop_end (by rw [HL.out]; omega), idxB] at this; exact this
      go_wp2_with fail
      go_ret
      exact ⟨ret_int HF.out.symm, rfl⟩

theorem containsB_calls {a : Option Addr} {n c : Nat} {us : List Bool} {S : Nat → Prop} {w : World} (hu : Lst KBool w S a n us) (hn : n ≤ 17592186044416) :
    Calls Try.prog 98 #[.slice a n c, .bool true] w fun e w' => e = .returned (.bool (anyB us)) ∧ w = w' := by
  rcases hx : anyB us with _ | _
  · have h1 := hx; rw [anyB_idx us 0, decide_eq_false_iff_not] at h1
    clear hx
    go_enter Try.func98, Try.ntmps98
    go_wp2_with fail
    refine (idx_calls hu hn).mono ?_
    rintro e w' ⟨rfl, rfl⟩
    go_wp2_with fail
    go_ret
    exact ⟨ret_bool (by first | rfl | simpa using h1), rfl⟩
  · have h1 := hx; rw [anyB_idx us 0, decide_eq_true_iff] at h1
    clear hx
    go_enter Try.func98, Try.ntmps98
    go_wp2_with fail
    refine (idx_calls hu hn).mono ?_
    rintro e w' ⟨rfl, rfl⟩
    go_wp2_with fail
    go_ret
    exact ⟨ret_bool (by first | rfl | simpa using h1), rfl⟩

/-- Two lists are the same as far as this. -/
def SameUpto {α : Type} (xs ys : List α) (k : Nat) : Prop := ∀ j, j < k → xs[j]? = ys[j]?
theorem SameUpto.succ {α : Type} {xs ys : List α} {k : Nat} (h : SameUpto xs ys k) (hk : xs[k]? = ys[k]?) : SameUpto xs ys (k + 1) := fun j hj => by
  by_cases e : j = k
  · rw [e]; exact hk
  · exact h j (by omega)
theorem SameUpto.all {α : Type} {xs ys : List α} {k : Nat} (h : SameUpto xs ys k) (h1 : xs.length ≤ k) (h2 : ys.length ≤ k) : xs = ys := by
  apply List.ext_getElem?
  intro j
  rcases Nat.lt_or_ge j k with hj | hj
  · exact h j hj
  · rw [List.getElem?_eq_none (by omega), List.getElem?_eq_none (by omega)]
theorem differ_at {α : Type} {xs ys : List α} {k : Nat} {x y : α} (hx : xs[k]? = some x) (hy : ys[k]? = some y) (h : x ≠ y) : xs ≠ ys := by
  rintro rfl; rw [hx] at hy; injection hy with hy; exact h hy

set_option maxHeartbeats 1000000 in
theorem equalB_calls {a b : Option Addr} {n m c d : Nat} {us vs : List Bool} {S S' : Nat → Prop} {w : World} (ha : Lst KBool w S a n us) (hb : Lst KBool w S' b m vs) (hn : n ≤ 17592186044416) (hm : m ≤ 17592186044416) :
    Calls Try.prog 100 #[.slice a n c, .slice b m d] w fun e w' => e = .returned (.bool (decide (us = vs))) ∧ Below w.heap.size w w' := by
  have HL := Lib.hid ha.1
  have HL2 := Lib.hid hb.1
  by_cases hnm : n = m
  rotate_left
  · have HF : Hid (decide (us = vs) = false) := by show _ = _; rw [decide_eq_false_iff_not]; rintro rfl; exact hnm (HL.out.symm.trans HL2.out)
    have hq : ((n : Int) != (m : Int)) = true := by simp; omega
    go_enter Try.func100, Try.ntmps100
    go_wp2_with fail
    go_ret
    exact ⟨ret_bool HF.out.symm, Below.refl _ _⟩
  subst hnm
  have hq : ((n : Int) != (n : Int)) = false := by simp
  go_enter Try.func100, Try.ntmps100
  go_wp2_with fail
  go_loopw [5, 13] (fun _ i wr => ∃ k : Nat, k ≤ n ∧ i = .int .i64 k ∧ Hid (SameUpto us vs k) ∧ Below w.heap.size w wr) (fun _ i _ => n - (intOf i).toNat)
  case atStart => exact ⟨0, Nat.zero_le _, rfl, fun j hj => by omega, Below.refl _ _⟩
  case round =>
    obtain ⟨k, hk, rfl, HJ, hbw⟩ := hrel
    by_cases hlt : k < n
    · obtain ⟨g0, s0, rfl, hg0, hc0⟩ := (ha.below hbw).bool_at hlt
      obtain ⟨g1, s1, rfl, hg1, hc1⟩ := (hb.below hbw).bool_at hlt
      have hx0 : us[k]? = some (us.getD k false) := by rw [List.getD_eq_getElem?_getD, List.getElem?_eq_getElem (by rw [HL.out]; exact hlt)]; rfl
      have hx1 : vs[k]? = some (vs.getD k false) := by rw [List.getD_eq_getElem?_getD, List.getElem?_eq_getElem (by rw [HL2.out]; exact hlt)]; rfl
      have HX := Lib.hid (And.intro hx0 hx1)
      generalize us.getD k false = u0 at hc0 HX
      generalize vs.getD k false = u1 at hc1 HX
      clear hx0 hx1
      by_cases hu : u0 = u1
      · have HN := Lib.hid (HJ.out.succ (HX.out.1.trans (by rw [hu]; exact HX.out.2.symm)))
        subst hu
        rcases u0 with _ | _
        · go_wp2_with (go_quiet (fail))
          go_roundw
          case rel => exact ⟨k + 1, by omega, by go_num, HN, below_drewN hbw _⟩
          case measure => simp [intOf]; omega
        · go_wp2_with (go_quiet (fail))
          go_roundw
          case rel => exact ⟨k + 1, by omega, by go_num, HN, below_drewN hbw _⟩
          case measure => simp [intOf]; omega
      · have HF : Hid (decide (us = vs) = false) := by
          show _ = _; rw [decide_eq_false_iff_not]; exact differ_at HX.out.1 HX.out.2 hu
        rcases u0 with _ | _ <;> rcases u1 with _ | _
        · exact absurd rfl hu
        · clear hu
          go_wp2_with (go_quiet (fail))
          go_ret
          exact ⟨ret_bool HF.out.symm, below_drewN hbw _⟩
        · clear hu
          go_wp2_with (go_quiet (fail))
          go_ret
          exact ⟨ret_bool HF.out.symm, below_drewN hbw _⟩
        · exact absurd rfl hu
    · have HF : Hid (decide (us = vs) = true) := by show _ = _; rw [decide_eq_true_iff]; exact HJ.out.all (by rw [HL.out]; omega) (by rw [HL2.out]; omega)
      go_wp2_with fail
      go_ret
      exact ⟨ret_bool HF.out.symm, hbw⟩

/-- The range of a page's numbers. -/
def rangeOk (p : Pg) : Bool := if p.kind = 1 then within 0 3 [p.cls] else if p.kind = 2 then within 1 4 [p.run] else decide (p.kind = 0 ∨ p.kind = 3)
/-- What of a page its kind needs. -/
def needed (p : Pg) : Pg := if p.kind = 1 then ⟨1, p.cls, p.used, 0⟩ else if p.kind = 2 then ⟨2, 0, [], p.run⟩ else ⟨p.kind, 0, [], 0⟩
def usedF (p : Pg) : Int := if (p.used.length : Int) = 16 / sizeW p.cls then (if anyB p.used = true then 0 else 4) else 2
theorem pageFault_by (p : Pg) : pageFault p = if rangeOk p = true then (if decide (p = needed p) = true then (if p.kind = 1 then usedF p else 0) else 1) else 3 := by
  obtain ⟨k, c, us, r⟩ := p
  unfold pageFault rangeOk needed usedF
  by_cases h1 : k = 1
  · subst h1
    simp only [if_true]
    by_cases hw : within 0 3 [c] = true
    · rw [if_pos hw, if_pos hw]
      by_cases hr : r = 0
      · subst hr; simp
      · rw [if_neg hr, if_neg (by simp [hr])]
    · rw [if_neg hw, if_neg hw]
  · by_cases h2 : k = 2
    · subst h2
      simp only [show ¬ ((2 : Int) = 1) by omega, if_false, if_true]
      by_cases hw : within 1 4 [r] = true
      · rw [if_pos hw, if_pos hw]
        by_cases hc : c = 0 ∧ us = []
        · rw [if_pos hc, if_pos (by simp [hc])]
        · rw [if_neg hc, if_neg (by simpa using hc)]
      · rw [if_neg hw, if_neg hw]
    · simp only [h1, h2, if_false]
      by_cases h03 : k = 0 ∨ k = 3
      · by_cases hc : c = 0 ∧ us = [] ∧ r = 0
        · obtain ⟨rfl, rfl, rfl⟩ := hc; simp [h03]
        · simp [h03, hc]
      · simp [h03]

theorem isRange_calls {a : Option Addr} {n cc : Nat} {k c r : Int} {us : List Bool} {w : World} :
    Calls Try.prog 83 #[.agg #[.int .i64 k, .int .i64 c, .slice a n cc, .int .i64 r]] w fun e w' => e = .returned (.bool (rangeOk ⟨k, c, us, r⟩)) ∧ Below w.heap.size w w' := by
  by_cases h0 : k = 0
  · subst h0
    have HF := Lib.hid (show rangeOk ⟨0, c, us, r⟩ = true from rfl)
    go_enter Try.func83, Try.ntmps83
    go_wp2_with fail
    go_ret
    exact ⟨ret_bool HF.out.symm, (Below.refl _ _).alloc (Nat.le_refl _) _⟩
  by_cases h3 : k = 3
  · subst h3
    have HF := Lib.hid (show rangeOk ⟨3, c, us, r⟩ = true from rfl)
    clear h0
    go_enter Try.func83, Try.ntmps83
    go_wp2_with fail
    go_ret
    exact ⟨ret_bool HF.out.symm, (Below.refl _ _).alloc (Nat.le_refl _) _⟩
  by_cases h1 : k = 1
  · subst h1
    have HF := Lib.hid (show rangeOk ⟨1, c, us, r⟩ = within 0 3 [c] from rfl)
    clear h0 h3
    go_enter Try.func83, Try.ntmps83
    go_wp2_with fail
    refine (allWithin_calls (Ints.one (by simp)) (by omega)).mono ?_
    rintro e w1 ⟨rfl, rfl⟩
    go_wp2_with fail
    go_ret
    exact ⟨ret_bool HF.out.symm, ((Below.refl _ _).alloc (Nat.le_refl _) _).alloc (by simp) _⟩
  by_cases h2 : k = 2
  · subst h2
    have HF := Lib.hid (show rangeOk ⟨2, c, us, r⟩ = within 1 4 [r] from rfl)
    clear h0 h3 h1
    go_enter Try.func83, Try.ntmps83
    go_wp2_with fail
    refine (allWithin_calls (Ints.one (by simp)) (by omega)).mono ?_
    rintro e w1 ⟨rfl, rfl⟩
    go_wp2_with fail
    go_ret
    exact ⟨ret_bool HF.out.symm, ((Below.refl _ _).alloc (Nat.le_refl _) _).alloc (by simp) _⟩
  have HF : Hid (rangeOk ⟨k, c, us, r⟩ = false) := by show _ = _; unfold rangeOk; simp [h0, h1, h2, h3]
  have q0 : (k == 0) = false := by simpa using h0
  have q1 : (k == 1) = false := by simpa using h1
  have q2 : (k == 2) = false := by simpa using h2
  have q3 : (k == 3) = false := by simpa using h3
  clear h0 h1 h2 h3
  go_enter Try.func83, Try.ntmps83
  go_wp2_with fail
  go_ret
  exact ⟨ret_bool HF.out.symm, (Below.refl _ _).alloc (Nat.le_refl _) _⟩
end Go.Proofs.Ytkikjoalhohlgaa
