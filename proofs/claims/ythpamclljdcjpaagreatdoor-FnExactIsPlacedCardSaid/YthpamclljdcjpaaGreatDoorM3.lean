/- Joined texts (Impl4, Spec3, Spec4, Spec4b, Pair, Impl4b, Impl4c): steps of the proofs of chapter 5's laws. -/
import Derived.Deep.QuietTactic
import Derived.Laws.StructEq
import Derived.Test.YthpamclljdcjpaaGreatDoorM2
set_option linter.unusedVariables false
set_option linter.unusedSimpArgs false
/- Chapter 4 of the program: truth values that are looked for and compared; what a page needs. -/
namespace Go.Proofs.YthpamclljdcjpaaGreatDoor
open Go.RowKit

theorem idx_calls {a : Option Addr} {n c : Nat} {v : Bool} {us : List Bool} {S : Nat → Prop} {w : World} (hu : Lst KBool w S a n us) (hn : n ≤ 17592186044416) :
    Calls Tryz.prog 243 #[.slice a n c, .bool v] w fun e w' => e = .returned (.int .i64 (idxB v us 0)) ∧ w = w' := by
  have HL := Lib.hid hu.1
  go_enter Tryz.func243, Tryz.ntmps243
  go_wp2_with fail
  go_loop [5, 8] (fun _ i => ∃ k : Nat, k ≤ n ∧ i = .int .i64 k ∧ Hid (idxB v us 0 = idxB v (us.drop k) k)) (fun _ i => n - (intOf i).toNat)
  case atStart => exact ⟨0, Nat.zero_le _, rfl, rfl⟩
  case round =>
    obtain ⟨k, hk, rfl, HW⟩ := hrel
    by_cases hlt : k < n
    · obtain ⟨ba, oa, rfl, hba, hca⟩ := hu.bool_at hlt
      have hx : us[k]? = some (us.getD k false) := by rw [List.getD_eq_getElem?_getD, List.getElem?_eq_getElem (by rw [HL.out]; exact hlt)]; rfl
      generalize us.getD k false = u at hca hx
      have HS : Hid (idxB v us 0 = if u = v then (k : Int) else idxB v (us.drop (k + 1)) (k + 1)) := by have := HW.out; rw [drop_at hx, idxB] at this; exact this
      clear hx
      by_cases huv : u = v
      · have HF : Hid (idxB v us 0 = k) := by have := HS.out; rw [if_pos huv] at this; exact this
        subst huv
        rcases u with _ | _
        · go_wp2_with fail
          go_ret
          exact ⟨ret_int HF.out.symm, rfl⟩
        · go_wp2_with fail
          go_ret
          exact ⟨ret_int HF.out.symm, rfl⟩
      · have HF : Hid (idxB v us 0 = idxB v (us.drop (k + 1)) (k + 1)) := by have := HS.out; rw [if_neg huv] at this; exact this
        rcases u with _ | _ <;> rcases v with _ | _
        · exact absurd rfl huv
        · clear huv
          go_wp2_with fail
          go_round
          case rel => exact ⟨k + 1, by omega, by go_num, HF⟩
          case measure => simp [intOf]; omega
        · clear huv
          go_wp2_with fail
          go_round
          case rel => exact ⟨k + 1, by omega, by go_num, HF⟩
          case measure => simp [intOf]; omega
        · exact absurd rfl huv
    · have HF : Hid (idxB v us 0 = -1) := by have := HW.out; rw [drop_end (by rw [HL.out]; omega), idxB] at this; exact this
      go_wp2_with fail
      go_ret
      exact ⟨ret_int HF.out.symm, rfl⟩

theorem containsB_calls {a : Option Addr} {n c : Nat} {us : List Bool} {S : Nat → Prop} {w : World} (hu : Lst KBool w S a n us) (hn : n ≤ 17592186044416) :
    Calls Tryz.prog 220 #[.slice a n c, .bool true] w fun e w' => e = .returned (.bool (anyB us)) ∧ w = w' := by
  rcases hx : anyB us with _ | _
  · have h1 := hx; rw [anyB_idx us 0, decide_eq_false_iff_not] at h1
    clear hx
    go_enter Tryz.func220, Tryz.ntmps220
    go_wp2_with fail
    refine (idx_calls hu hn).mono ?_
    rintro e w' ⟨rfl, rfl⟩
    go_wp2_with fail
    go_ret
    exact ⟨ret_bool (by first | rfl | simpa using h1), rfl⟩
  · have h1 := hx; rw [anyB_idx us 0, decide_eq_true_iff] at h1
    clear hx
    go_enter Tryz.func220, Tryz.ntmps220
    go_wp2_with fail
    refine (idx_calls hu hn).mono ?_
    rintro e w' ⟨rfl, rfl⟩
    go_wp2_with fail
    go_ret
    exact ⟨ret_bool (by first | rfl | simpa using h1), rfl⟩

/-- Two lists are the same as far as this. -/
def SameUpto {α : Type} (xs ys : List α) (k : Nat) : Prop := ∀ j, j < k → xs[j]? = ys[j]?
theorem SameUpto.succ {α : Type} {xs ys : List α} {k : Nat} (h : SameUpto xs ys k) (hk : xs[k]? = ys[k]?) : SameUpto xs ys (k + 1) := fun j hj => by
  by_cases e : j = k
  · rw [e]; exact hk
  · exact h j (by omega)
theorem SameUpto.all {α : Type} {xs ys : List α} {k : Nat} (h : SameUpto xs ys k) (h1 : xs.length ≤ k) (h2 : ys.length ≤ k) : xs = ys := by
  apply List.ext_getElem?
  intro j
  rcases Nat.lt_or_ge j k with hj | hj
  · exact h j hj
  · rw [List.getElem?_eq_none (by omega), List.getElem?_eq_none (by omega)]
theorem differ_at {α : Type} {xs ys : List α} {k : Nat} {x y : α} (hx : xs[k]? = some x) (hy : ys[k]? = some y) (h : x ≠ y) : xs ≠ ys := by
  rintro rfl; rw [hx] at hy; injection hy with hy; exact h hy

set_option maxHeartbeats 1000000 in
theorem equalB_calls {a b : Option Addr} {n m c d : Nat} {us vs : List Bool} {S S' : Nat → Prop} {w : World} (ha : Lst KBool w S a n us) (hb : Lst KBool w S' b m vs) (hn : n ≤ 17592186044416) (hm : m ≤ 17592186044416) :
    Calls Tryz.prog 192 #[.slice a n c, .slice b m d] w fun e w' => e = .returned (.bool (decide (us = vs))) ∧ Below w.heap.size w w' := by
  have HL := Lib.hid ha.1
  have HL2 := Lib.hid hb.1
  by_cases hnm : n = m
  rotate_left
  · have HF : Hid (decide (us = vs) = false) := by show _ = _; rw [decide_eq_false_iff_not]; rintro rfl; exact hnm (HL.out.symm.trans HL2.out)
    have hq : ((n : Int) != (m : Int)) = true := by simp; omega
    go_enter Tryz.func192, Tryz.ntmps192
    go_wp2_with fail
    go_ret
    exact ⟨ret_bool HF.out.symm, Below.refl _ _⟩
  subst hnm
  have hq : ((n : Int) != (n : Int)) = false := by simp
  go_enter Tryz.func192, Tryz.ntmps192
  go_wp2_with fail
  go_loopw [5, 13] (fun _ i wr => ∃ k : Nat, k ≤ n ∧ i = .int .i64 k ∧ Hid (SameUpto us vs k) ∧ Below w.heap.size w wr) (fun _ i _ => n - (intOf i).toNat)
  case atStart => exact ⟨0, Nat.zero_le _, rfl, fun j hj => by omega, Below.refl _ _⟩
  case round =>
    obtain ⟨k, hk, rfl, HJ, hbw⟩ := hrel
    by_cases hlt : k < n
    · obtain ⟨g0, s0, rfl, hg0, hc0⟩ := (ha.below hbw).bool_at hlt
      obtain ⟨g1, s1, rfl, hg1, hc1⟩ := (hb.below hbw).bool_at hlt
      have hx0 : us[k]? = some (us.getD k false) := by rw [List.getD_eq_getElem?_getD, List.getElem?_eq_getElem (by rw [HL.out]; exact hlt)]; rfl
      have hx1 : vs[k]? = some (vs.getD k false) := by rw [List.getD_eq_getElem?_getD, List.getElem?_eq_getElem (by rw [HL2.out]; exact hlt)]; rfl
      have HX := Lib.hid (And.intro hx0 hx1)
      generalize us.getD k false = u0 at hc0 HX
      generalize vs.getD k false = u1 at hc1 HX
      clear hx0 hx1
      by_cases hu : u0 = u1
      · have HN := Lib.hid (HJ.out.succ (HX.out.1.trans (by rw [hu]; exact HX.out.2.symm)))
        subst hu
        rcases u0 with _ | _
        · go_wp2_with (go_quiet (fail))
          go_roundw
          case rel => exact ⟨k + 1, by omega, by go_num, HN, below_drewN hbw _⟩
          case measure => simp [intOf]; omega
        · go_wp2_with (go_quiet (fail))
          go_roundw
          case rel => exact ⟨k + 1, by omega, by go_num, HN, below_drewN hbw _⟩
          case measure => simp [intOf]; omega
      · have HF : Hid (decide (us = vs) = false) := by
          show _ = _; rw [decide_eq_false_iff_not]; exact differ_at HX.out.1 HX.out.2 hu
        rcases u0 with _ | _ <;> rcases u1 with _ | _
        · exact absurd rfl hu
        · clear hu
          go_wp2_with (go_quiet (fail))
          go_ret
          exact ⟨ret_bool HF.out.symm, below_drewN hbw _⟩
        · clear hu
          go_wp2_with (go_quiet (fail))
          go_ret
          exact ⟨ret_bool HF.out.symm, below_drewN hbw _⟩
        · exact absurd rfl hu
    · have HF : Hid (decide (us = vs) = true) := by show _ = _; rw [decide_eq_true_iff]; exact HJ.out.all (by rw [HL.out]; omega) (by rw [HL2.out]; omega)
      go_wp2_with fail
      go_ret
      exact ⟨ret_bool HF.out.symm, hbw⟩

/-- The range of a page's numbers. -/
def rangeOk (p : Pg) : Bool := if p.kind = 1 then within 0 3 [p.cls] else if p.kind = 2 then within 1 4 [p.run] else decide (p.kind = 0 ∨ p.kind = 3)
/-- What of a page its kind needs. -/
def needed (p : Pg) : Pg := if p.kind = 1 then ⟨1, p.cls, p.used, 0⟩ else if p.kind = 2 then ⟨2, 0, [], p.run⟩ else ⟨p.kind, 0, [], 0⟩
def usedF (p : Pg) : Int := if (p.used.length : Int) = 16 / sizeW p.cls then (if anyB p.used = true then 0 else 4) else 2
theorem pageFault_by (p : Pg) : pageFault p = if rangeOk p = true then (if decide (p = needed p) = true then (if p.kind = 1 then usedF p else 0) else 1) else 3 := by
  obtain ⟨k, c, us, r⟩ := p
  unfold pageFault rangeOk needed usedF
  by_cases h1 : k = 1
  · subst h1
    simp only [if_true]
    by_cases hw : within 0 3 [c] = true
    · rw [if_pos hw, if_pos hw]
      by_cases hr : r = 0
      · subst hr; simp
      · rw [if_neg hr, if_neg (by simp [hr])]
    · rw [if_neg hw, if_neg hw]
  · by_cases h2 : k = 2
    · subst h2
      simp only [show ¬ ((2 : Int) = 1) by omega, if_false, if_true]
      by_cases hw : within 1 4 [r] = true
      · rw [if_pos hw, if_pos hw]
        by_cases hc : c = 0 ∧ us = []
        · rw [if_pos hc, if_pos (by simp [hc])]
        · rw [if_neg hc, if_neg (by simpa using hc)]
      · rw [if_neg hw, if_neg hw]
    · simp only [h1, h2, if_false]
      by_cases h03 : k = 0 ∨ k = 3
      · by_cases hc : c = 0 ∧ us = [] ∧ r = 0
        · obtain ⟨rfl, rfl, rfl⟩ := hc; simp [h03]
        · simp [h03, hc]
      · simp [h03]

theorem isRange_calls {a : Option Addr} {n cc : Nat} {k c r : Int} {us : List Bool} {w : World} :
    Calls Tryz.prog 193 #[.agg #[.int .i64 k, .int .i64 c, .slice a n cc, .int .i64 r]] w fun e w' => e = .returned (.bool (rangeOk ⟨k, c, us, r⟩)) ∧ Below w.heap.size w w' := by
  by_cases h0 : k = 0
  · subst h0
    have HF := Lib.hid (show rangeOk ⟨0, c, us, r⟩ = true from rfl)
    go_enter Tryz.func193, Tryz.ntmps193
    go_wp2_with fail
    go_ret
    exact ⟨ret_bool HF.out.symm, (Below.refl _ _).alloc (Nat.le_refl _) _⟩
  by_cases h3 : k = 3
  · subst h3
    have HF := Lib.hid (show rangeOk ⟨3, c, us, r⟩ = true from rfl)
    clear h0
    go_enter Tryz.func193, Tryz.ntmps193
    go_wp2_with fail
    go_ret
    exact ⟨ret_bool HF.out.symm, (Below.refl _ _).alloc (Nat.le_refl _) _⟩
  by_cases h1 : k = 1
  · subst h1
    have HF := Lib.hid (show rangeOk ⟨1, c, us, r⟩ = within 0 3 [c] from rfl)
    clear h0 h3
    go_enter Tryz.func193, Tryz.ntmps193
    go_wp2_with fail
    refine (allWithin_calls (Ints.one (by simp)) (by omega)).mono ?_
    rintro e w1 ⟨rfl, rfl⟩
    go_wp2_with fail
    go_ret
    exact ⟨ret_bool HF.out.symm, ((Below.refl _ _).alloc (Nat.le_refl _) _).alloc (by simp) _⟩
  by_cases h2 : k = 2
  · subst h2
    have HF := Lib.hid (show rangeOk ⟨2, c, us, r⟩ = within 1 4 [r] from rfl)
    clear h0 h3 h1
    go_enter Tryz.func193, Tryz.ntmps193
    go_wp2_with fail
    refine (allWithin_calls (Ints.one (by simp)) (by omega)).mono ?_
    rintro e w1 ⟨rfl, rfl⟩
    go_wp2_with fail
    go_ret
    exact ⟨ret_bool HF.out.symm, ((Below.refl _ _).alloc (Nat.le_refl _) _).alloc (by simp) _⟩
  have HF : Hid (rangeOk ⟨k, c, us, r⟩ = false) := by show _ = _; unfold rangeOk; simp [h0, h1, h2, h3]
  have q0 : (k == 0) = false := by simpa using h0
  have q1 : (k == 1) = false := by simpa using h1
  have q2 : (k == 2) = false := by simpa using h2
  have q3 : (k == 3) = false := by simpa using h3
  clear h0 h1 h2 h3
  go_enter Tryz.func193, Tryz.ntmps193
  go_wp2_with fail
  go_ret
  exact ⟨ret_bool HF.out.symm, (Below.refl _ _).alloc (Nat.le_refl _) _⟩
end Go.Proofs.YthpamclljdcjpaaGreatDoor

/- Chapter 3 of the model: sizes, slots, pages, steps. -/
namespace Go.Proofs.YthpamclljdcjpaaGreatDoor
open Go.RowKit

/-- Two to the power of k. -/
def pw : Nat → Int
  | 0 => 1
  | k + 1 => pw k * 2
theorem pw_small {k : Nat} (h : k ≤ 3) : 1 ≤ pw k ∧ pw k ≤ 8 := by
  rcases (show k = 0 ∨ k = 1 ∨ k = 2 ∨ k = 3 by omega) with rfl | rfl | rfl | rfl <;> decide
theorem pw_size {c : Int} (h0 : 0 ≤ c) (h3 : c ≤ 3) : pw c.toNat = sizeW c := by
  rcases (show c = 0 ∨ c = 1 ∨ c = 2 ∨ c = 3 by omega) with rfl | rfl | rfl | rfl <;> decide

theorem class_step {s : Int} {k : Nat} (hk : k ≤ 3) (h8 : s ≤ 8) (h : (k : Int) ≤ classW s) : (sizeW k < s → k < 3 ∧ ((k + 1 : Nat) : Int) ≤ classW s) ∧ (¬ sizeW k < s → (k : Int) = classW s) := by
  rcases (show k = 0 ∨ k = 1 ∨ k = 2 ∨ k = 3 by omega) with rfl | rfl | rfl | rfl <;> unfold sizeW classW at * <;> simp at * <;> (try split) <;> (try split) <;> (try split) <;> omega
theorem l3Size_calls {c : Int} {w : World} (h0 : 0 ≤ c) (h3 : c ≤ 3) :
    Calls Tryz.prog 162 #[.int .i64 c] w fun e w' => e = .returned (.int .i64 (sizeW c)) ∧ w = w' := by
  obtain ⟨m, rfl⟩ : ∃ m : Nat, c = m := ⟨c.toNat, by omega⟩
  have HP : Hid (pw m = sizeW m) := by have := pw_size h0 h3; rwa [Int.toNat_natCast] at this
  go_enter Tryz.func162, Tryz.ntmps162
  go_wp2
  go_loop [3, 0] (fun n i => ∃ k : Nat, k ≤ m ∧ i = .int .i64 ((m - k : Nat) : Int) ∧ n = .int .i64 (pw k)) (fun _ i => (intOf i).toNat)
  case atStart => exact ⟨0, Nat.zero_le _, rfl, rfl⟩
  case round =>
    obtain ⟨k, hk, rfl, rfl⟩ := hrel
    have hp := pw_small (k := k) (by omega)
    by_cases hlt : k < m
    · have HN : Hid (pw (k + 1) = pw k * 2) := rfl
      obtain ⟨x, hx⟩ : ∃ x, pw k = x := ⟨_, rfl⟩
      have HX := Lib.hid hx
      rw [hx] at hp
      rw [hx]
      clear hx
      go_wp2
      go_round
      case rel => exact ⟨k + 1, by omega, by go_num, by rw [HN.out, HX.out]⟩
      case measure => simp [intOf]; omega
    · have HE : Hid (pw k = sizeW m) := by
        have e : k = m := by omega
        rw [e]; exact HP.out
      obtain ⟨x, hx⟩ : ∃ x, pw k = x := ⟨_, rfl⟩
      have HX : Hid (x = sizeW m) := hx.symm.trans HE.out
      rw [hx]
      clear hx
      go_wp2
      go_ret
      exact ⟨ret_int HX.out, rfl⟩

/-- The class that is told, once it is known how far the search has gone. -/
theorem l3Class_calls {s : Int} {w : World} (h8 : s ≤ 8) :
    Calls Tryz.prog 101 #[.int .i64 s] w fun e w' => e = .returned (.int .i64 (classW s)) ∧ w = w' := by
  go_enter Tryz.func101, Tryz.ntmps101
  go_wp2
  go_loop [3] (fun c => ∃ k : Nat, k ≤ 3 ∧ c = .int .i64 k ∧ Hid ((k : Int) ≤ classW s)) (fun c => 3 - (intOf c).toNat)
  case atStart => exact ⟨0, by omega, rfl, (classW_small s).1⟩
  case round =>
    obtain ⟨k, hk, rfl, HK⟩ := hrel
    go_wp2_with fail
    refine (l3Size_calls (by omega) (by omega)).mono ?_
    rintro e w1 ⟨rfl, rfl⟩
    have F := Lib.hid (class_step (s := s) (k := k) hk h8 HK.out)
    clear HK
    obtain ⟨x, hx⟩ : ∃ x, sizeW k = x := ⟨_, rfl⟩
    rw [hx] at F ⊢
    clear hx
    by_cases hlt : x < s
    · obtain ⟨hk2, HS⟩ := F.out.1 hlt
      have HS := Lib.hid HS
      clear F
      go_wp2_with fail
      go_round
      case rel => exact ⟨k + 1, by omega, by go_num, HS⟩
      case measure => simp [intOf]; omega
    · have HE := Lib.hid (F.out.2 hlt)
      clear F
      go_wp2_with fail
      go_ret
      exact ⟨ret_int HE.out, rfl⟩

theorem l3IsClass_calls {c : Int} {w : World} :
    Calls Tryz.prog 102 #[.int .i64 c] w fun e w' => e = .returned (.bool (within 0 3 [c])) ∧ w = w' := by
  go_enter Tryz.func102, Tryz.ntmps102
  go_wp2_with fail
  refine l1In_calls.mono ?_
  rintro e w1 ⟨rfl, rfl⟩
  go_wp2_with fail
  go_ret
  exact ⟨rfl, rfl⟩

theorem l3Slots_calls {c : Int} {w : World} (h0 : 0 ≤ c) (h3 : c ≤ 3) :
    Calls Tryz.prog 165 #[.int .i64 c] w fun e w' => e = .returned (.int .i64 (16 / sizeW c)) ∧ w = w' := by
  have hs := sizeW_small c
  go_enter Tryz.func165, Tryz.ntmps165
  go_wp2_with fail
  refine (l3Size_calls h0 h3).mono ?_
  rintro e w1 ⟨rfl, rfl⟩
  obtain ⟨x, hx⟩ : ∃ x, sizeW c = x := ⟨_, rfl⟩
  have HX := Lib.hid hx
  rw [hx] at hs ⊢
  clear hx
  have hd : (x == 0) = false := by simp; omega
  go_wp2_with fail
  go_ret
  exact ⟨ret_int (by rw [HX.out]), rfl⟩

theorem l3Pages_calls {s : Int} {w : World} (h0 : 9 ≤ s) (h3 : s ≤ 64) :
    Calls Tryz.prog 100 #[.int .i64 s] w fun e w' => e = .returned (.int .i64 ((s + 15) / 16)) ∧ w = w' := by
  go_enter Tryz.func100, Tryz.ntmps100
  go_wp2_with fail
  go_ret
  exact ⟨ret_int (by omega), rfl⟩

theorem sClassOf_calls {c : Int} {w : World} :
    Calls Tryz.prog 31 #[.int .i64 c] w (Pair w (classOf c)) := by
  by_cases h : 1 ≤ c ∧ c ≤ 8
  · have HR := Lib.hid (classOf_yes h.1 h.2)
    have HW := Lib.hid (within_yes1 h.1 h.2)
    go_enter Tryz.func31, Tryz.ntmps31
    go_wp2_with fail
    refine l1In_calls.mono ?_
    rw [HW.out]
    rintro e w1 ⟨rfl, rfl⟩
    go_wp2_with fail
    refine (l3Class_calls h.2).mono ?_
    rintro e w1 ⟨rfl, rfl⟩
    have hres := heap_alloc_new w (.cells #[.int .i64 0, .int .i64 0] 45)
    go_wp2_with (refine wpList_store_row rfl 45 _ _ rfl w.heap.size _ rfl rfl _ _ hres (by kernel_rfl) (by rfl) (by simp [Value.oneCell']) ?_)
    refine bodyPost_ret (results_cell_row rfl _ _ w.heap.size _ _ _ _ rfl (setRow_heap _ _ _ _ _ _ hres) Tryz.underlying45 rfl (by kernel_rfl)) rfl ?_
    exact pair_done ((Below.refl _ _).alloc (Nat.le_refl _) _) (Nat.le_refl _) _ HR.out
  · have hw : within 1 8 [c] = false := within_no1 (by omega)
    have HR := Lib.hid (classOf_no hw)
    have HW := Lib.hid hw
    clear hw
    go_enter Tryz.func31, Tryz.ntmps31
    go_wp2_with fail
    refine l1In_calls.mono ?_
    rw [HW.out]
    rintro e w1 ⟨rfl, rfl⟩
    have hres := heap_alloc_new w (.cells #[.int .i64 0, .int .i64 0] 45)
    go_wp2_with (refine wpList_store_row rfl 45 _ _ rfl w.heap.size _ rfl rfl _ _ hres (by kernel_rfl) (by rfl) (by simp [Value.oneCell']) ?_)
    refine bodyPost_ret (results_cell_row rfl _ _ w.heap.size _ _ _ _ rfl (setRow_heap _ _ _ _ _ _ hres) Tryz.underlying45 rfl (by kernel_rfl)) rfl ?_
    exact pair_done ((Below.refl _ _).alloc (Nat.le_refl _) _) (Nat.le_refl _) _ HR.out

theorem sPagesOf_calls {c : Int} {w : World} :
    Calls Tryz.prog 30 #[.int .i64 c] w (Pair w (pagesOf c)) := by
  by_cases h : 9 ≤ c ∧ c ≤ 64
  · have HR := Lib.hid (pagesOf_yes h.1 h.2)
    have HW := Lib.hid (within_yes1 h.1 h.2)
    go_enter Tryz.func30, Tryz.ntmps30
    go_wp2_with fail
    refine l1In_calls.mono ?_
    rw [HW.out]
    rintro e w1 ⟨rfl, rfl⟩
    go_wp2_with fail
    refine (l3Pages_calls h.1 h.2).mono ?_
    rintro e w1 ⟨rfl, rfl⟩
    have hres := heap_alloc_new w (.cells #[.int .i64 0, .int .i64 0] 45)
    go_wp2_with (refine wpList_store_row rfl 45 _ _ rfl w.heap.size _ rfl rfl _ _ hres (by kernel_rfl) (by rfl) (by simp [Value.oneCell']) ?_)
    refine bodyPost_ret (results_cell_row rfl _ _ w.heap.size _ _ _ _ rfl (setRow_heap _ _ _ _ _ _ hres) Tryz.underlying45 rfl (by kernel_rfl)) rfl ?_
    exact pair_done ((Below.refl _ _).alloc (Nat.le_refl _) _) (Nat.le_refl _) _ HR.out
  · have hw : within 9 64 [c] = false := within_no1 (by omega)
    have HR := Lib.hid (pagesOf_no hw)
    have HW := Lib.hid hw
    clear hw
    go_enter Tryz.func30, Tryz.ntmps30
    go_wp2_with fail
    refine l1In_calls.mono ?_
    rw [HW.out]
    rintro e w1 ⟨rfl, rfl⟩
    have hres := heap_alloc_new w (.cells #[.int .i64 0, .int .i64 0] 45)
    go_wp2_with (refine wpList_store_row rfl 45 _ _ rfl w.heap.size _ rfl rfl _ _ hres (by kernel_rfl) (by rfl) (by simp [Value.oneCell']) ?_)
    refine bodyPost_ret (results_cell_row rfl _ _ w.heap.size _ _ _ _ rfl (setRow_heap _ _ _ _ _ _ hres) Tryz.underlying45 rfl (by kernel_rfl)) rfl ?_
    exact pair_done ((Below.refl _ _).alloc (Nat.le_refl _) _) (Nat.le_refl _) _ HR.out

end Go.Proofs.YthpamclljdcjpaaGreatDoor

/- Chapter 4 of the model: why pages are none. -/
namespace Go.Proofs.YthpamclljdcjpaaGreatDoor
open Go.RowKit

theorem l4Any_calls {a : Option Addr} {n c : Nat} {us : List Bool} {S : Nat → Prop} {w : World} (hu : Lst KBool w S a n us) (hn : n ≤ 17592186044416) :
    Calls Tryz.prog 200 #[.slice a n c] w fun e w' => e = .returned (.bool (anyB us)) ∧ w = w' := by
  have HL := Lib.hid hu.1
  go_enter Tryz.func200, Tryz.ntmps200
  go_wp2
  go_loop [3] (fun i => ∃ k : Nat, k ≤ n ∧ i = .int .i64 k ∧ Hid (anyB us = anyB (us.drop k))) (fun i => n - (intOf i).toNat)
  case atStart => exact ⟨0, Nat.zero_le _, rfl, rfl⟩
  case round =>
    obtain ⟨k, hk, rfl, HW⟩ := hrel
    by_cases hlt : k < n
    · obtain ⟨ba, oa, rfl, hba, hca⟩ := hu.bool_at hlt
      have hkx : k < us.length := by rw [HL.out]; exact hlt
      have HD := Lib.hid (drop_at (List.getElem?_eq_getElem hkx))
      rcases hv : us[k] with _ | _
      · have HS : Hid (anyB us = anyB (us.drop (k + 1))) := by have := HW.out; rw [HD.out, hv] at this; exact this
        go_wp2
        go_round
        case rel => exact ⟨k + 1, by omega, by go_num, HS⟩
        case measure => simp [intOf]; omega
      · have HS : Hid (anyB us = true) := by have := HW.out; rw [HD.out, hv] at this; exact this
        go_wp2
        go_ret
        exact ⟨ret_bool HS.out.symm, rfl⟩
    · have HS : Hid (anyB us = false) := by have := HW.out; rw [drop_end (by rw [HL.out]; omega)] at this; exact this
      go_wp2
      go_ret
      exact ⟨ret_bool HS.out.symm, rfl⟩

theorem sPageFault_x {a : Option Addr} {n cc : Nat} {k c r : Int} {us : List Bool} {S : Nat → Prop} {w : World} (hu : Lst KBool w S a n us) (hn : n ≤ 17592186044416) (hk : within 0 3 [k] = false) :
    Calls Tryz.prog 155 #[.agg #[.int .i64 k, .int .i64 c, .slice a n cc, .int .i64 r]] w fun e w' => e = .returned (.int .i64 3) ∧ Below w.heap.size w w' := by
  go_enter Tryz.func155, Tryz.ntmps155
  go_wp2_with fail
  refine l1In_calls.mono ?_
  rintro e w' ⟨rfl, rfl⟩
  go_wp2_with fail
  go_ret
  first | exact ⟨rfl, (Below.refl _ _).alloc (Nat.le_refl _) _⟩ | exact ⟨rfl, below_drewN ((Below.refl _ _).alloc (Nat.le_refl _) _) _⟩

theorem sPageFault_1a {a : Option Addr} {n cc : Nat} {c r : Int} {us : List Bool} {S : Nat → Prop} {w : World} (hu : Lst KBool w S a n us) (hn : n ≤ 17592186044416) (hc : within 0 3 [c] = false) :
    Calls Tryz.prog 155 #[.agg #[.int .i64 1, .int .i64 c, .slice a n cc, .int .i64 r]] w fun e w' => e = .returned (.int .i64 3) ∧ Below w.heap.size w w' := by
  have hk : within 0 3 [(1 : Int)] = true := rfl
  go_enter Tryz.func155, Tryz.ntmps155
  go_wp2_with fail
  refine l1In_calls.mono ?_
  rintro e w' ⟨rfl, rfl⟩
  go_wp2_with fail
  refine l3IsClass_calls.mono ?_
  rintro e w' ⟨rfl, rfl⟩
  go_wp2_with fail
  go_ret
  first | exact ⟨rfl, (Below.refl _ _).alloc (Nat.le_refl _) _⟩ | exact ⟨rfl, below_drewN ((Below.refl _ _).alloc (Nat.le_refl _) _) _⟩

theorem sPageFault_1b {a : Option Addr} {n cc : Nat} {c r : Int} {us : List Bool} {S : Nat → Prop} {w : World} (hu : Lst KBool w S a n us) (hn : n ≤ 17592186044416) (hc : within 0 3 [c] = true) (hr : (r != 0) = true) :
    Calls Tryz.prog 155 #[.agg #[.int .i64 1, .int .i64 c, .slice a n cc, .int .i64 r]] w fun e w' => e = .returned (.int .i64 1) ∧ Below w.heap.size w w' := by
  have hk : within 0 3 [(1 : Int)] = true := rfl
  go_enter Tryz.func155, Tryz.ntmps155
  go_wp2_with fail
  refine l1In_calls.mono ?_
  rintro e w' ⟨rfl, rfl⟩
  go_wp2_with fail
  refine l3IsClass_calls.mono ?_
  rintro e w' ⟨rfl, rfl⟩
  go_wp2_with fail
  go_ret
  first | exact ⟨rfl, (Below.refl _ _).alloc (Nat.le_refl _) _⟩ | exact ⟨rfl, below_drewN ((Below.refl _ _).alloc (Nat.le_refl _) _) _⟩

theorem sPageFault_1c {a : Option Addr} {n cc : Nat} {c r : Int} {us : List Bool} {S : Nat → Prop} {w : World} (hu : Lst KBool w S a n us) (hn : n ≤ 17592186044416) (h0 : 0 ≤ c) (h3 : c ≤ 3) (hc : within 0 3 [c] = true) (hr : (r != 0) = false) (hs : ((n : Int) != 16 / sizeW c) = true) :
    Calls Tryz.prog 155 #[.agg #[.int .i64 1, .int .i64 c, .slice a n cc, .int .i64 r]] w fun e w' => e = .returned (.int .i64 2) ∧ Below w.heap.size w w' := by
  have hk : within 0 3 [(1 : Int)] = true := rfl
  go_enter Tryz.func155, Tryz.ntmps155
  go_wp2_with fail
  refine l1In_calls.mono ?_
  rintro e w' ⟨rfl, rfl⟩
  go_wp2_with fail
  refine l3IsClass_calls.mono ?_
  rintro e w' ⟨rfl, rfl⟩
  go_wp2_with fail
  go_quiet ((go_at_call 165; exact Calls.quiet_of_same ((l3Slots_calls h0 h3).mono fun _ _ ⟨h1, h2⟩ => ⟨h1, h2.symm⟩)))
  go_wp2_with fail
  go_ret
  first | exact ⟨rfl, (Below.refl _ _).alloc (Nat.le_refl _) _⟩ | exact ⟨rfl, below_drewN ((Below.refl _ _).alloc (Nat.le_refl _) _) _⟩

theorem sPageFault_1d {a : Option Addr} {n cc : Nat} {c r : Int} {us : List Bool} {S : Nat → Prop} {w : World} (hu : Lst KBool w S a n us) (hn : n ≤ 17592186044416) (h0 : 0 ≤ c) (h3 : c ≤ 3) (hc : within 0 3 [c] = true) (hr : (r != 0) = false) (hs : ((n : Int) != 16 / sizeW c) = false) (ha : anyB us = false) :
    Calls Tryz.prog 155 #[.agg #[.int .i64 1, .int .i64 c, .slice a n cc, .int .i64 r]] w fun e w' => e = .returned (.int .i64 4) ∧ Below w.heap.size w w' := by
  have hk : within 0 3 [(1 : Int)] = true := rfl
  go_enter Tryz.func155, Tryz.ntmps155
  go_wp2_with fail
  refine l1In_calls.mono ?_
  rintro e w' ⟨rfl, rfl⟩
  go_wp2_with fail
  refine l3IsClass_calls.mono ?_
  rintro e w' ⟨rfl, rfl⟩
  go_wp2_with fail
  go_quiet ((go_at_call 165; exact Calls.quiet_of_same ((l3Slots_calls h0 h3).mono fun _ _ ⟨h1, h2⟩ => ⟨h1, h2.symm⟩)))
  go_wp2_with fail
  refine (l4Any_calls (hu.below (below_drewN ((Below.refl _ _).alloc (Nat.le_refl _) _) _)) hn).mono ?_
  rintro e w' ⟨rfl, rfl⟩
  go_wp2_with fail
  go_ret
  first | exact ⟨rfl, (Below.refl _ _).alloc (Nat.le_refl _) _⟩ | exact ⟨rfl, below_drewN ((Below.refl _ _).alloc (Nat.le_refl _) _) _⟩

theorem sPageFault_1e {a : Option Addr} {n cc : Nat} {c r : Int} {us : List Bool} {S : Nat → Prop} {w : World} (hu : Lst KBool w S a n us) (hn : n ≤ 17592186044416) (h0 : 0 ≤ c) (h3 : c ≤ 3) (hc : within 0 3 [c] = true) (hr : (r != 0) = false) (hs : ((n : Int) != 16 / sizeW c) = false) (ha : anyB us = true) :
    Calls Tryz.prog 155 #[.agg #[.int .i64 1, .int .i64 c, .slice a n cc, .int .i64 r]] w fun e w' => e = .returned (.int .i64 0) ∧ Below w.heap.size w w' := by
  have hk : within 0 3 [(1 : Int)] = true := rfl
  go_enter Tryz.func155, Tryz.ntmps155
  go_wp2_with fail
  refine l1In_calls.mono ?_
  rintro e w' ⟨rfl, rfl⟩
  go_wp2_with fail
  refine l3IsClass_calls.mono ?_
  rintro e w' ⟨rfl, rfl⟩
  go_wp2_with fail
  go_quiet ((go_at_call 165; exact Calls.quiet_of_same ((l3Slots_calls h0 h3).mono fun _ _ ⟨h1, h2⟩ => ⟨h1, h2.symm⟩)))
  go_wp2_with fail
  refine (l4Any_calls (hu.below (below_drewN ((Below.refl _ _).alloc (Nat.le_refl _) _) _)) hn).mono ?_
  rintro e w' ⟨rfl, rfl⟩
  go_wp2_with fail
  go_ret
  first | exact ⟨rfl, (Below.refl _ _).alloc (Nat.le_refl _) _⟩ | exact ⟨rfl, below_drewN ((Below.refl _ _).alloc (Nat.le_refl _) _) _⟩

theorem sPageFault_2a {a : Option Addr} {n cc : Nat} {c r : Int} {us : List Bool} {S : Nat → Prop} {w : World} (hu : Lst KBool w S a n us) (hn : n ≤ 17592186044416) (hr : within 1 4 [r] = false) :
    Calls Tryz.prog 155 #[.agg #[.int .i64 2, .int .i64 c, .slice a n cc, .int .i64 r]] w fun e w' => e = .returned (.int .i64 3) ∧ Below w.heap.size w w' := by
  have hk : within 0 3 [(2 : Int)] = true := rfl
  go_enter Tryz.func155, Tryz.ntmps155
  go_wp2_with fail
  refine l1In_calls.mono ?_
  rintro e w' ⟨rfl, rfl⟩
  go_wp2_with fail
  refine l1In_calls.mono ?_
  rintro e w' ⟨rfl, rfl⟩
  go_wp2_with fail
  go_ret
  first | exact ⟨rfl, (Below.refl _ _).alloc (Nat.le_refl _) _⟩ | exact ⟨rfl, below_drewN ((Below.refl _ _).alloc (Nat.le_refl _) _) _⟩

theorem sPageFault_2b {a : Option Addr} {n cc : Nat} {c r : Int} {us : List Bool} {S : Nat → Prop} {w : World} (hu : Lst KBool w S a n us) (hn : n ≤ 17592186044416) (hr : within 1 4 [r] = true) (hc : (c != 0) = true) :
    Calls Tryz.prog 155 #[.agg #[.int .i64 2, .int .i64 c, .slice a n cc, .int .i64 r]] w fun e w' => e = .returned (.int .i64 1) ∧ Below w.heap.size w w' := by
  have hk : within 0 3 [(2 : Int)] = true := rfl
  go_enter Tryz.func155, Tryz.ntmps155
  go_wp2_with fail
  refine l1In_calls.mono ?_
  rintro e w' ⟨rfl, rfl⟩
  go_wp2_with fail
  refine l1In_calls.mono ?_
  rintro e w' ⟨rfl, rfl⟩
  go_wp2_with fail
  go_ret
  first | exact ⟨rfl, (Below.refl _ _).alloc (Nat.le_refl _) _⟩ | exact ⟨rfl, below_drewN ((Below.refl _ _).alloc (Nat.le_refl _) _) _⟩

theorem sPageFault_2c {a : Option Addr} {n cc : Nat} {c r : Int} {us : List Bool} {S : Nat → Prop} {w : World} (hu : Lst KBool w S a n us) (hn : n ≤ 17592186044416) (hr : within 1 4 [r] = true) (hc : (c != 0) = false) (h0 : 0 < n) :
    Calls Tryz.prog 155 #[.agg #[.int .i64 2, .int .i64 c, .slice a n cc, .int .i64 r]] w fun e w' => e = .returned (.int .i64 1) ∧ Below w.heap.size w w' := by
  have hk : within 0 3 [(2 : Int)] = true := rfl
  go_enter Tryz.func155, Tryz.ntmps155
  go_wp2_with fail
  refine l1In_calls.mono ?_
  rintro e w' ⟨rfl, rfl⟩
  go_wp2_with fail
  refine l1In_calls.mono ?_
  rintro e w' ⟨rfl, rfl⟩
  go_wp2_with fail
  go_ret
  first | exact ⟨rfl, (Below.refl _ _).alloc (Nat.le_refl _) _⟩ | exact ⟨rfl, below_drewN ((Below.refl _ _).alloc (Nat.le_refl _) _) _⟩

theorem sPageFault_2d {a : Option Addr} {n cc : Nat} {c r : Int} {us : List Bool} {S : Nat → Prop} {w : World} (hu : Lst KBool w S a n us) (hn : n ≤ 17592186044416) (hr : within 1 4 [r] = true) (hc : (c != 0) = false) (h0 : n = 0) :
    Calls Tryz.prog 155 #[.agg #[.int .i64 2, .int .i64 c, .slice a n cc, .int .i64 r]] w fun e w' => e = .returned (.int .i64 0) ∧ Below w.heap.size w w' := by
  have hk : within 0 3 [(2 : Int)] = true := rfl
  subst h0
  go_enter Tryz.func155, Tryz.ntmps155
  go_wp2_with fail
  refine l1In_calls.mono ?_
  rintro e w' ⟨rfl, rfl⟩
  go_wp2_with fail
  refine l1In_calls.mono ?_
  rintro e w' ⟨rfl, rfl⟩
  go_wp2_with fail
  go_quiet (fail)
  go_wp2_with fail
  go_ret
  first | exact ⟨rfl, (Below.refl _ _).alloc (Nat.le_refl _) _⟩ | exact ⟨rfl, below_drewN ((Below.refl _ _).alloc (Nat.le_refl _) _) _⟩

theorem sPageFault_0a {a : Option Addr} {n cc : Nat} {c r : Int} {us : List Bool} {S : Nat → Prop} {w : World} (hu : Lst KBool w S a n us) (hn : n ≤ 17592186044416) (hc : (c != 0) = true) :
    Calls Tryz.prog 155 #[.agg #[.int .i64 0, .int .i64 c, .slice a n cc, .int .i64 r]] w fun e w' => e = .returned (.int .i64 1) ∧ Below w.heap.size w w' := by
  have hk : within 0 3 [(0 : Int)] = true := rfl
  go_enter Tryz.func155, Tryz.ntmps155
  go_wp2_with fail
  refine l1In_calls.mono ?_
  rintro e w' ⟨rfl, rfl⟩
  go_wp2_with fail
  go_ret
  first | exact ⟨rfl, (Below.refl _ _).alloc (Nat.le_refl _) _⟩ | exact ⟨rfl, below_drewN ((Below.refl _ _).alloc (Nat.le_refl _) _) _⟩

theorem sPageFault_0b {a : Option Addr} {n cc : Nat} {c r : Int} {us : List Bool} {S : Nat → Prop} {w : World} (hu : Lst KBool w S a n us) (hn : n ≤ 17592186044416) (hc : (c != 0) = false) (h0 : 0 < n) :
    Calls Tryz.prog 155 #[.agg #[.int .i64 0, .int .i64 c, .slice a n cc, .int .i64 r]] w fun e w' => e = .returned (.int .i64 1) ∧ Below w.heap.size w w' := by
  have hk : within 0 3 [(0 : Int)] = true := rfl
  go_enter Tryz.func155, Tryz.ntmps155
  go_wp2_with fail
  refine l1In_calls.mono ?_
  rintro e w' ⟨rfl, rfl⟩
  go_wp2_with fail
  go_ret
  first | exact ⟨rfl, (Below.refl _ _).alloc (Nat.le_refl _) _⟩ | exact ⟨rfl, below_drewN ((Below.refl _ _).alloc (Nat.le_refl _) _) _⟩

theorem sPageFault_0c {a : Option Addr} {n cc : Nat} {c r : Int} {us : List Bool} {S : Nat → Prop} {w : World} (hu : Lst KBool w S a n us) (hn : n ≤ 17592186044416) (hc : (c != 0) = false) (h0 : n = 0) (hr : (r != 0) = true) :
    Calls Tryz.prog 155 #[.agg #[.int .i64 0, .int .i64 c, .slice a n cc, .int .i64 r]] w fun e w' => e = .returned (.int .i64 1) ∧ Below w.heap.size w w' := by
  have hk : within 0 3 [(0 : Int)] = true := rfl
  subst h0
  go_enter Tryz.func155, Tryz.ntmps155
  go_wp2_with fail
  refine l1In_calls.mono ?_
  rintro e w' ⟨rfl, rfl⟩
  go_wp2_with fail
  go_ret
  first | exact ⟨rfl, (Below.refl _ _).alloc (Nat.le_refl _) _⟩ | exact ⟨rfl, below_drewN ((Below.refl _ _).alloc (Nat.le_refl _) _) _⟩

theorem sPageFault_0d {a : Option Addr} {n cc : Nat} {c r : Int} {us : List Bool} {S : Nat → Prop} {w : World} (hu : Lst KBool w S a n us) (hn : n ≤ 17592186044416) (hc : (c != 0) = false) (h0 : n = 0) (hr : (r != 0) = false) :
    Calls Tryz.prog 155 #[.agg #[.int .i64 0, .int .i64 c, .slice a n cc, .int .i64 r]] w fun e w' => e = .returned (.int .i64 0) ∧ Below w.heap.size w w' := by
  have hk : within 0 3 [(0 : Int)] = true := rfl
  subst h0
  go_enter Tryz.func155, Tryz.ntmps155
  go_wp2_with fail
  refine l1In_calls.mono ?_
  rintro e w' ⟨rfl, rfl⟩
  go_wp2_with fail
  go_quiet (fail)
  go_wp2_with fail
  go_ret
  first | exact ⟨rfl, (Below.refl _ _).alloc (Nat.le_refl _) _⟩ | exact ⟨rfl, below_drewN ((Below.refl _ _).alloc (Nat.le_refl _) _) _⟩

theorem sPageFault_3a {a : Option Addr} {n cc : Nat} {c r : Int} {us : List Bool} {S : Nat → Prop} {w : World} (hu : Lst KBool w S a n us) (hn : n ≤ 17592186044416) (hc : (c != 0) = true) :
    Calls Tryz.prog 155 #[.agg #[.int .i64 3, .int .i64 c, .slice a n cc, .int .i64 r]] w fun e w' => e = .returned (.int .i64 1) ∧ Below w.heap.size w w' := by
  have hk : within 0 3 [(3 : Int)] = true := rfl
  go_enter Tryz.func155, Tryz.ntmps155
  go_wp2_with fail
  refine l1In_calls.mono ?_
  rintro e w' ⟨rfl, rfl⟩
  go_wp2_with fail
  go_ret
  first | exact ⟨rfl, (Below.refl _ _).alloc (Nat.le_refl _) _⟩ | exact ⟨rfl, below_drewN ((Below.refl _ _).alloc (Nat.le_refl _) _) _⟩

theorem sPageFault_3b {a : Option Addr} {n cc : Nat} {c r : Int} {us : List Bool} {S : Nat → Prop} {w : World} (hu : Lst KBool w S a n us) (hn : n ≤ 17592186044416) (hc : (c != 0) = false) (h0 : 0 < n) :
    Calls Tryz.prog 155 #[.agg #[.int .i64 3, .int .i64 c, .slice a n cc, .int .i64 r]] w fun e w' => e = .returned (.int .i64 1) ∧ Below w.heap.size w w' := by
  have hk : within 0 3 [(3 : Int)] = true := rfl
  go_enter Tryz.func155, Tryz.ntmps155
  go_wp2_with fail
  refine l1In_calls.mono ?_
  rintro e w' ⟨rfl, rfl⟩
  go_wp2_with fail
  go_ret
  first | exact ⟨rfl, (Below.refl _ _).alloc (Nat.le_refl _) _⟩ | exact ⟨rfl, below_drewN ((Below.refl _ _).alloc (Nat.le_refl _) _) _⟩

theorem sPageFault_3c {a : Option Addr} {n cc : Nat} {c r : Int} {us : List Bool} {S : Nat → Prop} {w : World} (hu : Lst KBool w S a n us) (hn : n ≤ 17592186044416) (hc : (c != 0) = false) (h0 : n = 0) (hr : (r != 0) = true) :
    Calls Tryz.prog 155 #[.agg #[.int .i64 3, .int .i64 c, .slice a n cc, .int .i64 r]] w fun e w' => e = .returned (.int .i64 1) ∧ Below w.heap.size w w' := by
  have hk : within 0 3 [(3 : Int)] = true := rfl
  subst h0
  go_enter Tryz.func155, Tryz.ntmps155
  go_wp2_with fail
  refine l1In_calls.mono ?_
  rintro e w' ⟨rfl, rfl⟩
  go_wp2_with fail
  go_ret
  first | exact ⟨rfl, (Below.refl _ _).alloc (Nat.le_refl _) _⟩ | exact ⟨rfl, below_drewN ((Below.refl _ _).alloc (Nat.le_refl _) _) _⟩

theorem sPageFault_3d {a : Option Addr} {n cc : Nat} {c r : Int} {us : List Bool} {S : Nat → Prop} {w : World} (hu : Lst KBool w S a n us) (hn : n ≤ 17592186044416) (hc : (c != 0) = false) (h0 : n = 0) (hr : (r != 0) = false) :
    Calls Tryz.prog 155 #[.agg #[.int .i64 3, .int .i64 c, .slice a n cc, .int .i64 r]] w fun e w' => e = .returned (.int .i64 0) ∧ Below w.heap.size w w' := by
  have hk : within 0 3 [(3 : Int)] = true := rfl
  subst h0
  go_enter Tryz.func155, Tryz.ntmps155
  go_wp2_with fail
  refine l1In_calls.mono ?_
  rintro e w' ⟨rfl, rfl⟩
  go_wp2_with fail
  go_quiet (fail)
  go_wp2_with fail
  go_ret
  first | exact ⟨rfl, (Below.refl _ _).alloc (Nat.le_refl _) _⟩ | exact ⟨rfl, below_drewN ((Below.refl _ _).alloc (Nat.le_refl _) _) _⟩

/-- What a page's fault is, case by case. -/
theorem pf_x {k c r : Int} {us : List Bool} (h : within 0 3 [k] = false) : pageFault ⟨k, c, us, r⟩ = 3 := by
  rw [within_one] at h
  simp only [decide_eq_false_iff_not] at h
  unfold pageFault
  dsimp only
  rw [if_neg (by omega), if_neg (by omega), if_neg (by omega)]
theorem pf_1a {c r : Int} {us : List Bool} (h : within 0 3 [c] = false) : pageFault ⟨1, c, us, r⟩ = 3 := by simp [pageFault, h]
theorem pf_1b {c r : Int} {us : List Bool} (h : within 0 3 [c] = true) (hr : r ≠ 0) : pageFault ⟨1, c, us, r⟩ = 1 := by simp [pageFault, h, hr]
theorem pf_1c {c r : Int} {us : List Bool} (h : within 0 3 [c] = true) (hr : r = 0) (hs : (us.length : Int) ≠ 16 / sizeW c) : pageFault ⟨1, c, us, r⟩ = 2 := by simp [pageFault, h, hr, hs]
theorem pf_1d {c r : Int} {us : List Bool} (h : within 0 3 [c] = true) (hr : r = 0) (hs : (us.length : Int) = 16 / sizeW c) (ha : anyB us = false) : pageFault ⟨1, c, us, r⟩ = 4 := by simp [pageFault, h, hr, hs, ha]
theorem pf_1e {c r : Int} {us : List Bool} (h : within 0 3 [c] = true) (hr : r = 0) (hs : (us.length : Int) = 16 / sizeW c) (ha : anyB us = true) : pageFault ⟨1, c, us, r⟩ = 0 := by simp [pageFault, h, hr, hs, ha]
theorem pf_2a {c r : Int} {us : List Bool} (h : within 1 4 [r] = false) : pageFault ⟨2, c, us, r⟩ = 3 := by simp [pageFault, h]
theorem pf_2b {c r : Int} {us : List Bool} (h : within 1 4 [r] = true) (hc : c ≠ 0) : pageFault ⟨2, c, us, r⟩ = 1 := by simp [pageFault, h, hc]
theorem pf_2c {c r : Int} {us : List Bool} (h : within 1 4 [r] = true) (hu : us ≠ []) : pageFault ⟨2, c, us, r⟩ = 1 := by simp [pageFault, h, hu]
theorem pf_2d {c r : Int} {us : List Bool} (h : within 1 4 [r] = true) (hc : c = 0) (hu : us = []) : pageFault ⟨2, c, us, r⟩ = 0 := by simp [pageFault, h, hc, hu]
theorem pf_03a {k c r : Int} {us : List Bool} (hk : k = 0 ∨ k = 3) (hc : c ≠ 0) : pageFault ⟨k, c, us, r⟩ = 1 := by rcases hk with rfl | rfl <;> simp [pageFault, hc]
theorem pf_03b {k c r : Int} {us : List Bool} (hk : k = 0 ∨ k = 3) (hu : us ≠ []) : pageFault ⟨k, c, us, r⟩ = 1 := by rcases hk with rfl | rfl <;> simp [pageFault, hu]
theorem pf_03c {k c r : Int} {us : List Bool} (hk : k = 0 ∨ k = 3) (hr : r ≠ 0) : pageFault ⟨k, c, us, r⟩ = 1 := by rcases hk with rfl | rfl <;> simp [pageFault, hr]
theorem pf_03d {k c r : Int} {us : List Bool} (hk : k = 0 ∨ k = 3) (hc : c = 0) (hu : us = []) (hr : r = 0) : pageFault ⟨k, c, us, r⟩ = 0 := by rcases hk with rfl | rfl <;> simp [pageFault, hr, hc, hu]

theorem sPageFault_calls {a : Option Addr} {n cc : Nat} {k c r : Int} {us : List Bool} {S : Nat → Prop} {w : World} (hu : Lst KBool w S a n us) (hn : n ≤ 17592186044416) :
    Calls Tryz.prog 155 #[.agg #[.int .i64 k, .int .i64 c, .slice a n cc, .int .i64 r]] w fun e w' => e = .returned (.int .i64 (pageFault ⟨k, c, us, r⟩)) ∧ Below w.heap.size w w' := by
  have hl := hu.1
  have hne : 0 < n → us ≠ [] := by rintro h0 rfl; simp at hl; omega
  have hnn : n = 0 → us = [] := fun h => List.eq_nil_of_length_eq_zero (by omega)
  rcases hk : within 0 3 [k] with _ | _
  · rw [pf_x hk]; exact sPageFault_x hu hn hk
  have hk2 := within_range hk
  by_cases e1 : k = 1
  · subst e1
    rcases hc : within 0 3 [c] with _ | _
    · rw [pf_1a hc]; exact sPageFault_1a hu hn hc
    have hc2 := within_range hc
    by_cases hr : r = 0
    · by_cases hs : (n : Int) = 16 / sizeW c
      · rcases ha : anyB us with _ | _
        · rw [pf_1d hc hr (by rw [hl]; exact hs) ha]; exact sPageFault_1d hu hn hc2.1 hc2.2 hc (by simpa using hr) (by simpa using hs) ha
        · rw [pf_1e hc hr (by rw [hl]; exact hs) ha]; exact sPageFault_1e hu hn hc2.1 hc2.2 hc (by simpa using hr) (by simpa using hs) ha
      · rw [pf_1c hc hr (by rw [hl]; exact hs)]; exact sPageFault_1c hu hn hc2.1 hc2.2 hc (by simpa using hr) (by simpa using hs)
    · rw [pf_1b hc hr]; exact sPageFault_1b hu hn hc (by simpa using hr)
  by_cases e2 : k = 2
  · subst e2
    rcases hr : within 1 4 [r] with _ | _
    · rw [pf_2a hr]; exact sPageFault_2a hu hn hr
    by_cases hc : c = 0
    · by_cases h0 : n = 0
      · rw [pf_2d hr hc (hnn h0)]; exact sPageFault_2d hu hn hr (by simpa using hc) h0
      · rw [pf_2c hr (hne (by omega))]; exact sPageFault_2c hu hn hr (by simpa using hc) (by omega)
    · rw [pf_2b hr hc]; exact sPageFault_2b hu hn hr (by simpa using hc)
  have e03 : k = 0 ∨ k = 3 := by omega
  by_cases hc : c = 0
  · by_cases h0 : n = 0
    · by_cases hr : r = 0
      · rw [pf_03d e03 hc (hnn h0) hr]
        rcases e03 with rfl | rfl
        · exact sPageFault_0d hu hn (by simpa using hc) h0 (by simpa using hr)
        · exact sPageFault_3d hu hn (by simpa using hc) h0 (by simpa using hr)
      · rw [pf_03c e03 hr]
        rcases e03 with rfl | rfl
        · exact sPageFault_0c hu hn (by simpa using hc) h0 (by simpa using hr)
        · exact sPageFault_3c hu hn (by simpa using hc) h0 (by simpa using hr)
    · rw [pf_03b e03 (hne (by omega))]
      rcases e03 with rfl | rfl
      · exact sPageFault_0b hu hn (by simpa using hc) (by omega)
      · exact sPageFault_3b hu hn (by simpa using hc) (by omega)
  · rw [pf_03a e03 hc]
    rcases e03 with rfl | rfl
    · exact sPageFault_0a hu hn (by simpa using hc)
    · exact sPageFault_3a hu hn (by simpa using hc)
end Go.Proofs.YthpamclljdcjpaaGreatDoor

/- Chapter 4 of the model: why pages are none (all of them); copies. -/
namespace Go.Proofs.YthpamclljdcjpaaGreatDoor
open Go.RowKit

theorem nextLeft_range {l : Int} {p : Pg} (h0 : 0 ≤ l) (h3 : l ≤ 3) (hp : pageFault p = 0) (hd : decide (p.kind = 3) = decide (0 < l)) : 0 ≤ nextLeft l p ∧ nextLeft l p ≤ 3 := by
  unfold nextLeft
  rcases pageFault_ok hp with h | h | ⟨h, _⟩
  · rw [if_neg (by omega), if_neg (by omega)]; omega
  · rw [if_pos h.1]; omega
  · rw [if_neg (by omega)]
    split
    · rename_i h1; simp [h1] at hd; omega
    · omega

set_option maxHeartbeats 1000000 in
theorem sPagesFault_calls {ao : Option Addr} {n cc : Nat} {ps : List Pg} {S : Nat → Prop} {w : World} (hT : Lst KPage w S ao n ps) (hS : ShortP 17592186044416 ps) (hn : n ≤ 17592186044416) :
    Calls Tryz.prog 87 #[.slice ao n cc] w fun e w' => e = .returned (.int .i64 (pagesFault ps)) ∧ Below w.heap.size w w' := by
  have HL := Lib.hid hT.1
  have HS := Lib.hid hS
  by_cases hbig : 40 < n
  · have HF := Lib.hid (show pagesFault ps = 2 by unfold pagesFault; rw [if_pos (by rw [HL.out]; exact hbig)])
    go_enter Tryz.func87, Tryz.ntmps87
    go_wp2
    go_ret
    exact ⟨ret_int HF.out.symm, Below.refl _ _⟩
  have hno : ¬ ((40 : Int) < n) := by omega
  have HP : Hid (pagesFault ps = if firstPF ps = 0 then (if whole 0 ps = true then 0 else 8) else firstPF ps) := by
    show pagesFault ps = _
    unfold pagesFault; rw [if_neg (by rw [HL.out]; omega)]
  go_enter Tryz.func87, Tryz.ntmps87
  go_wp2
  go_loopw [3, 4] (fun i _ wr => ∃ k : Nat, k ≤ n ∧ i = .int .i64 k ∧ Hid (firstPF ps = firstPF (ps.drop k)) ∧ Hid (∀ j p, j < k → ps[j]? = some p → pageFault p = 0) ∧ Below w.heap.size w wr) (fun i _ _ => n - (intOf i).toNat)
  case atStart => exact ⟨0, Nat.zero_le _, rfl, rfl, fun j p hj => by omega, Below.refl _ _⟩
  case round =>
    obtain ⟨k, hk, rfl, HW, HA, hbw⟩ := hrel
    by_cases hlt : k < n
    · obtain ⟨b, off, p, a, l, c, rfl, d0, hp, e0, e1, e2, e3, hlc, hcm, hu⟩ := (hT.below hbw).pg_at hlt
      have HD := Lib.hid hp
      have hl : l ≤ 17592186044416 := by have := HS.out.at_ hp; have := hu.1; omega
      clear hp hcm
      by_cases hz : pageFault p = 0
      · have HN : Hid (firstPF ps = firstPF (ps.drop (k + 1))) := by
          have := HW.out; rw [drop_at HD.out, firstPF, if_pos hz] at this; exact this
        have HN2 : Hid (∀ j p, j < k + 1 → ps[j]? = some p → pageFault p = 0) := fun j q hj hq => by
          by_cases e : j = k
          · subst e; have := HD.out.symm.trans hq; injection this with this; rw [← this]; exact hz
          · exact HA.out j q (by omega) hq
        have HZ := Lib.hid hz
        clear hz
        go_wp2_with fail
        refine (sPageFault_calls hu hl).mono ?_
        rintro e w1 ⟨rfl, hb1⟩
        rw [HZ.out]
        go_wp2_with fail
        go_roundw
        case rel => exact ⟨k + 1, by omega, by go_num, HN, HN2, hbw.trans (hb1.mono hbw.size)⟩
        case measure => simp [intOf]; omega
      · have HF : Hid (pagesFault ps = pageFault p) := by
          have h1 := HW.out; rw [drop_at HD.out, firstPF, if_neg hz] at h1
          show pagesFault ps = _
          rw [HP.out, h1, if_neg hz]
        have hq : (pageFault p != 0) = true := by simpa using hz
        clear hz
        go_wp2_with fail
        refine (sPageFault_calls hu hl).mono ?_
        rintro e w1 ⟨rfl, hb1⟩
        go_wp2_with fail
        go_ret
        exact ⟨ret_int HF.out.symm, hbw.trans (hb1.mono hbw.size)⟩
    · have HA2 : Hid (∀ p ∈ ps, pageFault p = 0) := by
        intro p hp
        obtain ⟨j, hj, rfl⟩ := List.getElem_of_mem hp
        exact HA.out j _ (by have := HL.out; omega) (List.getElem?_eq_getElem hj)
      have HP2 : Hid (pagesFault ps = if whole 0 ps = true then 0 else 8) := by
        have h1 := HP.out; rw [if_pos (firstPF_of HA2.out)] at h1; exact h1
      clear HA HW HP
      go_wp2_with fail
      have hbw0 := hbw
      obtain ⟨wo, hwo⟩ : ∃ wo : World, wo = wr := ⟨_, rfl⟩
      subst hwo
      go_loopw [5, 6, 7] (fun q i _ wr => ∃ (k : Nat) (l : Int), k ≤ n ∧ i = .int .i64 k ∧ q = .int .i64 l ∧ 0 ≤ l ∧ l ≤ 3 ∧ Hid (whole 0 ps = whole l (ps.drop k)) ∧ Below w.heap.size w wr) (fun _ i _ _ => n - (intOf i).toNat)
      case atStart => exact ⟨0, 0, Nat.zero_le _, rfl, rfl, by omega, by omega, rfl, hbw0⟩
      case round =>
        clear hbw hbw0
        obtain ⟨k, l, hk, rfl, rfl, hl0, hl3, HW, hbw⟩ := hrel
        by_cases hlt : k < n
        · obtain ⟨b, off, p, a, m, c, rfl, d0, hp, e0, e1, e2, e3, hlc, hcm, hu⟩ := (hT.below hbw).pg_at hlt
          have HD := Lib.hid hp
          have HPF := Lib.hid (HA2.out p (List.mem_of_getElem? hp))
          have HWd : Hid (whole 0 ps = if decide (p.kind = 3) = decide (0 < l) then whole (nextLeft l p) (ps.drop (k + 1)) else false) := by
            have := HW.out; rw [drop_at hp, whole] at this; exact this
          clear hp hcm hu HW e1 e2
          by_cases k3 : p.kind = 3
          · rw [k3] at e0
            by_cases hl : 0 < l
            · have HN : Hid (whole 0 ps = whole (l - 1) (ps.drop (k + 1))) := by
                have := HWd.out
                rw [if_pos (by simp [k3, hl])] at this
                rw [show nextLeft l p = l - 1 by unfold nextLeft; rw [if_neg (by omega), if_pos k3]] at this
                exact this
              clear k3
              go_wp2_with fail
              go_roundw
              case rel => exact ⟨k + 1, l - 1, by omega, by go_num, by go_num, by omega, by omega, HN, hbw⟩
              case measure => simp [intOf]; omega
            · have HN : Hid (pagesFault ps = 8) := by
                have := HWd.out
                rw [if_neg (by simp [k3, hl])] at this
                show pagesFault ps = 8
                rw [HP2.out, this]; rfl
              clear k3
              go_wp2_with fail
              go_ret
              exact ⟨ret_int HN.out.symm, hbw⟩
          · have q3 : (p.kind == 3) = false := by simpa using k3
            by_cases hl : 0 < l
            · have HN : Hid (pagesFault ps = 8) := by
                have := HWd.out
                rw [if_neg (by simp [k3, hl])] at this
                show pagesFault ps = 8
                rw [HP2.out, this]; rfl
              clear k3
              go_wp2_with fail
              go_ret
              exact ⟨ret_int HN.out.symm, hbw⟩
            · by_cases k2 : p.kind = 2
              · have hr : 1 ≤ p.run ∧ p.run ≤ 4 := by
                  rcases pageFault_ok HPF.out with h | h | h <;> omega
                have HN : Hid (whole 0 ps = whole (p.run - 1) (ps.drop (k + 1))) := by
                  have := HWd.out
                  rw [if_pos (by simp [k3, hl])] at this
                  rw [show nextLeft l p = p.run - 1 by unfold nextLeft; rw [if_pos k2]] at this
                  exact this
                obtain ⟨hr1, hr4⟩ := hr
                rw [k2] at e0
                clear k3 k2 q3
                go_wp2_with fail
                go_roundw
                case rel => exact ⟨k + 1, p.run - 1, by omega, by go_num, rfl, by omega, by omega, HN, hbw⟩
                case measure => simp [intOf]; omega
              · have q2 : (p.kind == 2) = false := by simpa using k2
                have HN : Hid (whole 0 ps = whole l (ps.drop (k + 1))) := by
                  have := HWd.out
                  rw [if_pos (by simp [k3, hl])] at this
                  rw [show nextLeft l p = l by unfold nextLeft; rw [if_neg k2, if_neg k3]] at this
                  exact this
                clear k3 k2
                go_wp2_with fail
                go_roundw
                case rel => exact ⟨k + 1, l, by omega, by go_num, rfl, by omega, by omega, HN, hbw⟩
                case measure => simp [intOf]; omega
        · have HW2 : Hid (whole 0 ps = decide (l = 0)) := by
            have := HW.out; rw [drop_end (by rw [HL.out]; omega)] at this; exact this
          by_cases hl : 0 < l
          · have HN : Hid (pagesFault ps = 8) := by
              show pagesFault ps = 8
              rw [HP2.out, HW2.out, if_neg (by simp; omega)]
            go_wp2_with fail
            go_ret
            exact ⟨ret_int HN.out.symm, hbw⟩
          · have HN : Hid (pagesFault ps = 0) := by
              show pagesFault ps = 0
              rw [HP2.out, HW2.out, if_pos (by simp; omega)]
            go_wp2_with fail
            go_ret
            exact ⟨ret_int HN.out.symm, hbw⟩
end Go.Proofs.YthpamclljdcjpaaGreatDoor

/- Results of two numbers, compared. -/
namespace Go.Proofs.YthpamclljdcjpaaGreatDoor
open Go.RowKit

theorem run_eqPair (x y : Int) (d : Nat) (u : World) : (Op.equalIn (d + 2) 45 (.agg #[.int .i64 x, .int .i64 y]) (.agg #[.int .i64 x, .int .i64 y])).run Tryz.prog u = .ok true u := by
  rw [run_equalIn_struct u (d + 1) _ _ _ (by kernel_rfl) (by kernel_rfl)]
  have hf : Tryz.prog.fieldsOf 45 = #[{ name := "Code", type := 2, offset := 0, embedded := false, tag := "", pkgPath := "", byteOffset := 0 }, { name := "Value", type := 2, offset := 1, embedded := false, tag := "", pkgPath := "", byteOffset := 8 }] := by kernel_rfl
  rw [hf]
  have p0 := run_part_plain (P := Tryz.prog) u (e := 2) (by kernel_rfl) (xs := #[.int .i64 x, .int .i64 y]) (off := 0) (v := .int .i64 x) (by simp)
  have p1 := run_part_plain (P := Tryz.prog) u (e := 2) (by kernel_rfl) (xs := #[.int .i64 x, .int .i64 y]) (off := 1) (v := .int .i64 y) (by simp)
  simp [Op.eqFields, p0, p1, run_equalIn_int u d 2 .i64 .i64 _ _ Tryz.underlying2]
theorem run_neqPair (x y : Int) (u : World) : (binOp .neq 45 (.agg #[.int .i64 x, .int .i64 y]) (.agg #[.int .i64 x, .int .i64 y])).run Tryz.prog u = .ok (.bool false) u := by
  rw [run_neq_struct, run_eqPair]; rfl
theorem run_eqlPair (x y : Int) (u : World) : (binOp .eql 45 (.agg #[.int .i64 x, .int .i64 y]) (.agg #[.int .i64 x, .int .i64 y])).run Tryz.prog u = .ok (.bool true) u := by
  rw [run_eql_struct, run_eqPair]; rfl
theorem run_field_P (u : World) (x v : Value) : (Instr.field 45 (.agg #[x, v]) 0).run Tryz.prog u = .ok x u := by
  simp [Instr.field, run_underlying Tryz.underlying45, part, isAgg, run_underlying Tryz.underlying2, asAgg]
theorem run_field_P1 (u : World) (x v : Value) : (Instr.field 45 (.agg #[x, v]) 1).run Tryz.prog u = .ok v u := by
  simp [Instr.field, run_underlying Tryz.underlying45, part, isAgg, run_underlying Tryz.underlying2, asAgg]
end Go.Proofs.YthpamclljdcjpaaGreatDoor

/- Chapter 4 of the program: why pages are none. -/
namespace Go.Proofs.YthpamclljdcjpaaGreatDoor
open Go.RowKit

/-- What a call that answers a page leaves. -/
def GivesPg (w : World) (S : Nat → Prop) (n : Nat) (q : Pg) (e : Ending) (w' : World) : Prop := ∃ a m c, e = .returned (.agg #[.int .i64 q.kind, .int .i64 q.cls, .slice a m c, .int .i64 q.run]) ∧ m ≤ n ∧ Lst KBool w' S a m q.used ∧ Below w.heap.size w w'

theorem neededOf_calls {a : Option Addr} {n cc : Nat} {p : Pg} {S : Nat → Prop} {w : World} (hu : Lst KBool w S a n p.used) :
    Calls Tryz.prog 194 #[.agg #[.int .i64 p.kind, .int .i64 p.cls, .slice a n cc, .int .i64 p.run]] w (GivesPg w S n (needed p)) := by
  by_cases h1 : p.kind = 1
  · have HN : Hid (needed p = ⟨1, p.cls, p.used, 0⟩) := by show _ = _; unfold needed; rw [if_pos h1]
    rw [h1]
    clear h1
    have hres := heap_alloc2_new w (.cells #[.int .i64 1, .int .i64 p.cls, .slice a n cc, .int .i64 p.run] 137) (.cells #[.int .i64 0, .int .i64 0, .slice none 0 0, .int .i64 0] 137)
    go_enter Tryz.func194, Tryz.ntmps194
    go_wp2_with (refine wpList_store_row rfl 137 _ _ rfl (w.heap.size + 1) _ rfl rfl _ _ hres (by kernel_rfl) (by rfl) (by simp [Value.oneCell']) ?_)
    refine bodyPost_ret (results_cell_row rfl _ _ (w.heap.size + 1) _ _ _ _ rfl (setRow_heap _ _ _ _ _ _ hres) Tryz.underlying137 rfl (by kernel_rfl)) rfl ?_
    have hb := below_setRow (((Below.refl w.heap.size w).alloc (Nat.le_refl _) (.cells #[.int .i64 1, .int .i64 p.cls, .slice a n cc, .int .i64 p.run] 137)).alloc (by simp) (.cells #[.int .i64 0, .int .i64 0, .slice none 0 0, .int .i64 0] 137)) (show w.heap.size ≤ w.heap.size + 1 by omega)
    rw [HN.out]
    exact ⟨_, _, _, rfl, Nat.le_refl _, hu.below (hb _), hb _⟩
  by_cases h2 : p.kind = 2
  · have HN : Hid (needed p = ⟨2, 0, [], p.run⟩) := by show _ = _; unfold needed; rw [if_neg h1, if_pos h2]
    rw [h2]
    clear h1 h2
    have hres := heap_alloc2_new w (.cells #[.int .i64 2, .int .i64 p.cls, .slice a n cc, .int .i64 p.run] 137) (.cells #[.int .i64 0, .int .i64 0, .slice none 0 0, .int .i64 0] 137)
    go_enter Tryz.func194, Tryz.ntmps194
    go_wp2_with (refine wpList_store_row rfl 137 _ _ rfl (w.heap.size + 1) _ rfl rfl _ _ hres (by kernel_rfl) (by rfl) (by simp [Value.oneCell']) ?_)
    refine bodyPost_ret (results_cell_row rfl _ _ (w.heap.size + 1) _ _ _ _ rfl (setRow_heap _ _ _ _ _ _ hres) Tryz.underlying137 rfl (by kernel_rfl)) rfl ?_
    have hb := below_setRow (((Below.refl w.heap.size w).alloc (Nat.le_refl _) (.cells #[.int .i64 2, .int .i64 p.cls, .slice a n cc, .int .i64 p.run] 137)).alloc (by simp) (.cells #[.int .i64 0, .int .i64 0, .slice none 0 0, .int .i64 0] 137)) (show w.heap.size ≤ w.heap.size + 1 by omega)
    rw [HN.out]
    exact ⟨_, _, _, rfl, Nat.zero_le _, Lst.nil, hb _⟩
  have HN : Hid (needed p = ⟨p.kind, 0, [], 0⟩) := by show _ = _; unfold needed; rw [if_neg h1, if_neg h2]
  have q1 : (p.kind == 1) = false := by simpa using h1
  have q2 : (p.kind == 2) = false := by simpa using h2
  clear h1 h2
  have hres := heap_alloc2_new w (.cells #[.int .i64 p.kind, .int .i64 p.cls, .slice a n cc, .int .i64 p.run] 137) (.cells #[.int .i64 0, .int .i64 0, .slice none 0 0, .int .i64 0] 137)
  go_enter Tryz.func194, Tryz.ntmps194
  go_wp2_with (refine wpList_store_row rfl 137 _ _ rfl (w.heap.size + 1) _ rfl rfl _ _ hres (by kernel_rfl) (by rfl) (by simp [Value.oneCell']) ?_)
  refine bodyPost_ret (results_cell_row rfl _ _ (w.heap.size + 1) _ _ _ _ rfl (setRow_heap _ _ _ _ _ _ hres) Tryz.underlying137 rfl (by kernel_rfl)) rfl ?_
  have hb := below_setRow (((Below.refl w.heap.size w).alloc (Nat.le_refl _) (.cells #[.int .i64 p.kind, .int .i64 p.cls, .slice a n cc, .int .i64 p.run] 137)).alloc (by simp) (.cells #[.int .i64 0, .int .i64 0, .slice none 0 0, .int .i64 0] 137)) (show w.heap.size ≤ w.heap.size + 1 by omega)
  rw [HN.out]
  exact ⟨_, _, _, rfl, Nat.zero_le _, Lst.nil, hb _⟩

set_option maxHeartbeats 1000000 in
theorem samePage_calls {a b : Option Addr} {n m c d : Nat} {p q : Pg} {S S' : Nat → Prop} {w : World} (ha : Lst KBool w S a n p.used) (hb : Lst KBool w S' b m q.used) (hn : n ≤ 17592186044416) (hm : m ≤ 17592186044416) :
    Calls Tryz.prog 142 #[.agg #[.int .i64 p.kind, .int .i64 p.cls, .slice a n c, .int .i64 p.run], .agg #[.int .i64 q.kind, .int .i64 q.cls, .slice b m d, .int .i64 q.run]] w fun e w' => e = .returned (.bool (decide (p = q))) ∧ Below w.heap.size w w' := by
  by_cases k0 : p.kind = q.kind
  rotate_left
  · have HF : Hid (decide (p = q) = false) := by show _ = _; rw [decide_eq_false_iff_not]; exact fun h => k0 (by rw [h])
    have gk0 : (p.kind == q.kind) = false := by simpa using k0
    clear k0
    go_enter Tryz.func142, Tryz.ntmps142
    go_wp2_with (go_quiet (fail))
    go_ret
    exact ⟨ret_bool HF.out.symm, ((Below.refl _ _).alloc (Nat.le_refl _) _).alloc (by simp) _⟩
  have gk0 : (p.kind == q.kind) = true := by simpa using k0
  by_cases k1 : p.cls = q.cls
  rotate_left
  · have HF : Hid (decide (p = q) = false) := by show _ = _; rw [decide_eq_false_iff_not]; exact fun h => k1 (by rw [h])
    have gk1 : (p.cls == q.cls) = false := by simpa using k1
    clear k1
    go_enter Tryz.func142, Tryz.ntmps142
    go_wp2_with (go_quiet (fail))
    go_ret
    exact ⟨ret_bool HF.out.symm, ((Below.refl _ _).alloc (Nat.le_refl _) _).alloc (by simp) _⟩
  have gk1 : (p.cls == q.cls) = true := by simpa using k1
  by_cases k2 : p.run = q.run
  rotate_left
  · have HF : Hid (decide (p = q) = false) := by show _ = _; rw [decide_eq_false_iff_not]; exact fun h => k2 (by rw [h])
    have gk2 : (p.run == q.run) = false := by simpa using k2
    clear k2
    go_enter Tryz.func142, Tryz.ntmps142
    go_wp2_with (go_quiet (fail))
    go_ret
    exact ⟨ret_bool HF.out.symm, ((Below.refl _ _).alloc (Nat.le_refl _) _).alloc (by simp) _⟩
  have gk2 : (p.run == q.run) = true := by simpa using k2
  have HF : Hid (decide (p.used = q.used) = decide (p = q)) := by
    show _ = _
    congr 1
    rw [eq_iff_iff]
    exact ⟨fun h => Pg.ext_ k0 k1 h k2, fun h => by rw [h]⟩
  clear k0 k1 k2
  go_enter Tryz.func142, Tryz.ntmps142
  go_wp2_with fail
  refine (equalB_calls ((ha.alloc _).alloc _) ((hb.alloc _).alloc _) hn hm).mono ?_
  rw [HF.out]
  rintro e w1 ⟨rfl, hb1⟩
  go_wp2_with fail
  go_ret
  exact ⟨rfl, (((Below.refl _ _).alloc (Nat.le_refl _) _).alloc (by simp) _).trans (hb1.mono (by simp; omega))⟩

theorem slots_known {c : Int} {w : World} (h0 : 0 ≤ c) (h3 : c ≤ 3) : Calls Tryz.prog 219 #[.int .i64 c] w fun e w' => e = .returned (.agg #[.int .i64 0, .int .i64 (16 / sizeW c)]) ∧ Below w.heap.size w w' :=
  slotsOf_calls.mono fun e w' h => by rw [slotsOf_yes h0 h3] at h; exact h
/-- Two cells, and all that was there, are kept. -/
theorem keep2 {W a b : World} {p q : Addr} {x y : Value} (h : a.cell? p = some x ∧ a.cell? q = some y ∧ Below W.heap.size W a) (hb : Below a.heap.size a b) : b.cell? p = some x ∧ b.cell? q = some y ∧ Below W.heap.size W b :=
  ⟨(hb.cell (World.block_lt_of_cell? _ _ h.1)).trans h.1, (hb.cell (World.block_lt_of_cell? _ _ h.2.1)).trans h.2.1, h.2.2.trans (hb.mono h.2.2.size)⟩
/-- Of a box, its four cells; what was there is kept. -/
def Box4 (W : World) (b : Nat) (x0 x1 x2 x3 : Value) (w' : World) : Prop := w'.cell? ⟨b, 0, none⟩ = some x0 ∧ w'.cell? ⟨b, 1, none⟩ = some x1 ∧ w'.cell? ⟨b, 2, none⟩ = some x2 ∧ w'.cell? ⟨b, 3, none⟩ = some x3 ∧ Below W.heap.size W w'

set_option maxHeartbeats 1000000 in
theorem usedFault_calls {a : Option Addr} {n cc : Nat} {p : Pg} {S : Nat → Prop} {w : World} (hu : Lst KBool w S a n p.used) (hn : n ≤ 17592186044416) (h0 : 0 ≤ p.cls) (h3 : p.cls ≤ 3) :
    Calls Tryz.prog 195 #[.agg #[.int .i64 p.kind, .int .i64 p.cls, .slice a n cc, .int .i64 p.run]] w fun e w' => e = .returned (.int .i64 (usedF p)) ∧ Below w.heap.size w w' := by
  obtain ⟨o, ho⟩ : ∃ o, o = Obj.cells #[.int .i64 p.kind, .int .i64 p.cls, .slice a n cc, .int .i64 p.run] 137 := ⟨_, rfl⟩
  have hrow : Row (w.alloc o) w.heap.size 137 #[.int .i64 p.kind, .int .i64 p.cls, .slice a n cc, .int .i64 p.run] := by rw [ho]; exact heap_alloc_new _ _
  have q1 : (w.alloc o).cell? ⟨w.heap.size, 1, none⟩ = some (.int .i64 p.cls) := by rw [hrow.cell]; rfl
  have q2 : (w.alloc o).cell? ⟨w.heap.size, 2, none⟩ = some (.slice a n cc) := by rw [hrow.cell]; rfl
  have kB : Below w.heap.size w (w.alloc o) := (Below.refl _ _).alloc (Nat.le_refl _) o
  have kS : w.heap.size < (w.alloc o).heap.size := by simp
  have hL := hu.1
  have rf := fun W => run_field_P1 W (.int .i64 0) (.int .i64 (16 / sizeW p.cls))
  have hu1 := hu.alloc o
  have HU : Hid (usedF p = if (n : Int) = 16 / sizeW p.cls then (if anyB p.used = true then 0 else 4) else 2) := by show _ = _; unfold usedF; rw [hL]
  clear hL
  subst ho
  by_cases hs : (n : Int) = 16 / sizeW p.cls
  rotate_left
  · have HF : Hid (usedF p = 2) := by show _ = _; rw [HU.out, if_neg hs]
    have hq : ((n : Int) != 16 / sizeW p.cls) = true := by simpa using hs
    clear hs
    go_enter Tryz.func195, Tryz.ntmps195
    go_wp2_with fail
    go_region_held3 (fun w' => w'.cell? ⟨w.heap.size, 1, none⟩ = some (.int .i64 p.cls) ∧ w'.cell? ⟨w.heap.size, 2, none⟩ = some (.slice a n cc) ∧ Below w.heap.size w w') (first | assumption | exact ⟨q1, q2, kB.drew⟩)
      ((go_at_call 219; obtain ⟨x1, x2, kb⟩ := ‹_ ∧ _ ∧ Below _ _ _›; refine (slots_known h0 h3).mono ?_; rintro e w' ⟨rfl, b1⟩; have hS' := keep2 ⟨x1, x2, kb⟩ b1))
    have kb2 := hS'.2.2
    clear hS'
    go_wp2_with fail
    go_ret
    exact ⟨ret_int HF.out.symm, kb2⟩
  have hq : ((n : Int) != 16 / sizeW p.cls) = false := by simpa using hs
  have HU2 : Hid (usedF p = if anyB p.used = true then 0 else 4) := by show _ = _; rw [HU.out, if_pos hs]
  clear hs
  rcases hx : anyB p.used with _ | _
  · have HF : Hid (usedF p = 4) := by show _ = _; rw [HU2.out, hx]; rfl
    go_enter Tryz.func195, Tryz.ntmps195
    go_wp2_with fail
    go_region_held3 (fun w' => w'.cell? ⟨w.heap.size, 1, none⟩ = some (.int .i64 p.cls) ∧ w'.cell? ⟨w.heap.size, 2, none⟩ = some (.slice a n cc) ∧ Below w.heap.size w w') (first | assumption | exact ⟨q1, q2, kB.drew⟩)
      ((go_at_call 219; obtain ⟨x1, x2, kb⟩ := ‹_ ∧ _ ∧ Below _ _ _›; refine (slots_known h0 h3).mono ?_; rintro e w' ⟨rfl, b1⟩; have hS' := keep2 ⟨x1, x2, kb⟩ b1))
    have kb2 := hS'.2.2
    have z2 := hS'.2.1
    clear hS'
    go_wp2_with fail
    refine (containsB_calls (hu.below kb2) hn).mono ?_
    rw [hx]
    rintro e w1 ⟨rfl, rfl⟩
    go_wp2_with fail
    go_ret
    exact ⟨ret_int HF.out.symm, kb2⟩
  · have HF : Hid (usedF p = 0) := by show _ = _; rw [HU2.out, hx]; rfl
    go_enter Tryz.func195, Tryz.ntmps195
    go_wp2_with fail
    go_region_held3 (fun w' => w'.cell? ⟨w.heap.size, 1, none⟩ = some (.int .i64 p.cls) ∧ w'.cell? ⟨w.heap.size, 2, none⟩ = some (.slice a n cc) ∧ Below w.heap.size w w') (first | assumption | exact ⟨q1, q2, kB.drew⟩)
      ((go_at_call 219; obtain ⟨x1, x2, kb⟩ := ‹_ ∧ _ ∧ Below _ _ _›; refine (slots_known h0 h3).mono ?_; rintro e w' ⟨rfl, b1⟩; have hS' := keep2 ⟨x1, x2, kb⟩ b1))
    have kb2 := hS'.2.2
    have z2 := hS'.2.1
    clear hS'
    go_wp2_with fail
    refine (containsB_calls (hu.below kb2) hn).mono ?_
    rw [hx]
    rintro e w1 ⟨rfl, rfl⟩
    go_wp2_with fail
    go_ret
    exact ⟨ret_int HF.out.symm, kb2⟩
end Go.Proofs.YthpamclljdcjpaaGreatDoor

/- Chapter 4 of the program: why pages are none, one by one and all of them. -/
namespace Go.Proofs.YthpamclljdcjpaaGreatDoor
open Go.RowKit

set_option maxHeartbeats 2000000 in
theorem pageFault_calls {a : Option Addr} {n cc : Nat} {p : Pg} {S : Nat → Prop} {w : World} (hu : Lst KBool w S a n p.used) (hn : n ≤ 17592186044416) :
    Calls Tryz.prog 143 #[.agg #[.int .i64 p.kind, .int .i64 p.cls, .slice a n cc, .int .i64 p.run]] w fun e w' => e = .returned (.int .i64 (pageFault p)) ∧ Below w.heap.size w w' := by
  have HB := Lib.hid (pageFault_by p)
  rcases hr : rangeOk p with _ | _
  · have HF : Hid (pageFault p = 3) := by show _ = _; rw [HB.out, if_neg (by rw [hr]; simp)]
    go_enter Tryz.func143, Tryz.ntmps143
    go_wp2_with fail
    refine (isRange_calls (us := p.used)).mono ?_
    rw [hr]
    rintro e w1 ⟨rfl, hb1⟩
    have hrow := Row.new hb1
    have hb := below_past hb1
    go_wp2_with fail
    go_ret
    exact ⟨ret_int HF.out.symm, hb⟩
  rcases hd : decide (p = needed p) with _ | _
  · have HF : Hid (pageFault p = 1) := by show _ = _; rw [HB.out, if_pos hr, if_neg (by rw [hd]; simp)]
    go_enter Tryz.func143, Tryz.ntmps143
    go_wp2_with fail
    refine (isRange_calls (us := p.used)).mono ?_
    rw [hr]
    rintro e w1 ⟨rfl, hb1⟩
    have hrow := Row.new hb1
    have hb := below_past hb1
    have x0 : w1.cell? ⟨w.heap.size, 0, none⟩ = some (.int .i64 p.kind) := by rw [hrow.cell]; rfl
    have x1 : w1.cell? ⟨w.heap.size, 1, none⟩ = some (.int .i64 p.cls) := by rw [hrow.cell]; rfl
    have x2 : w1.cell? ⟨w.heap.size, 2, none⟩ = some (.slice a n cc) := by rw [hrow.cell]; rfl
    have x3 : w1.cell? ⟨w.heap.size, 3, none⟩ = some (.int .i64 p.run) := by rw [hrow.cell]; rfl
    clear hb1 hrow
    have kB := hb
    go_wp2_with fail
    go_region_held3 (fun w' => w'.cell? ⟨w.heap.size, 0, none⟩ = some (.int .i64 p.kind) ∧ w'.cell? ⟨w.heap.size, 1, none⟩ = some (.int .i64 p.cls) ∧ w'.cell? ⟨w.heap.size, 2, none⟩ = some (.slice a n cc) ∧ w'.cell? ⟨w.heap.size, 3, none⟩ = some (.int .i64 p.run) ∧ Below w.heap.size w w') (first | assumption | exact ⟨x0, x1, x2, x3, kB.drew⟩)
      (first
        | (go_at_call 194; obtain ⟨z0, z1, z2, z3, kb⟩ := ‹_ ∧ _ ∧ _ ∧ _ ∧ Below _ _ _›; refine (neededOf_calls (hu.below kb)).mono ?_; rintro e w' ⟨na, nm, nc, rfl, hnm, hnl, b1⟩; have hS' := keep4 ⟨z0, z1, z2, z3, kb⟩ b1)
        | (go_at_call 142; obtain ⟨z0, z1, z2, z3, kb⟩ := ‹_ ∧ _ ∧ _ ∧ _ ∧ Below _ _ _›; refine (samePage_calls (hu.below kb) hnl hn (by omega)).mono ?_; rw [hd]; rintro e w' ⟨rfl, b1⟩; have hS'' := keep4 ⟨z0, z1, z2, z3, kb⟩ b1))
    have kb2 := hS''.2.2.2.2
    clear hS' hS''
    go_wp2_with fail
    go_ret
    exact ⟨ret_int HF.out.symm, kb2⟩
  by_cases k1 : p.kind = 1
  · have HF : Hid (pageFault p = usedF p) := by show _ = _; rw [HB.out, if_pos hr, if_pos hd, if_pos k1]
    have h03 : 0 ≤ p.cls ∧ p.cls ≤ 3 := by unfold rangeOk at hr; rw [if_pos k1] at hr; exact within_range hr
    have K1 := Lib.hid k1
    have q1 : (p.kind == 1) = true := by simpa using k1
    clear k1
    go_enter Tryz.func143, Tryz.ntmps143
    go_wp2_with fail
    refine (isRange_calls (us := p.used)).mono ?_
    rw [hr]
    rintro e w1 ⟨rfl, hb1⟩
    have hrow := Row.new hb1
    have hb := below_past hb1
    have x0 : w1.cell? ⟨w.heap.size, 0, none⟩ = some (.int .i64 p.kind) := by rw [hrow.cell]; rfl
    have x1 : w1.cell? ⟨w.heap.size, 1, none⟩ = some (.int .i64 p.cls) := by rw [hrow.cell]; rfl
    have x2 : w1.cell? ⟨w.heap.size, 2, none⟩ = some (.slice a n cc) := by rw [hrow.cell]; rfl
    have x3 : w1.cell? ⟨w.heap.size, 3, none⟩ = some (.int .i64 p.run) := by rw [hrow.cell]; rfl
    clear hb1 hrow
    have kB := hb
    go_wp2_with fail
    go_region_held3 (fun w' => w'.cell? ⟨w.heap.size, 0, none⟩ = some (.int .i64 p.kind) ∧ w'.cell? ⟨w.heap.size, 1, none⟩ = some (.int .i64 p.cls) ∧ w'.cell? ⟨w.heap.size, 2, none⟩ = some (.slice a n cc) ∧ w'.cell? ⟨w.heap.size, 3, none⟩ = some (.int .i64 p.run) ∧ Below w.heap.size w w') (first | assumption | exact ⟨x0, x1, x2, x3, kB.drew⟩)
      (first
        | (go_at_call 194; obtain ⟨z0, z1, z2, z3, kb⟩ := ‹_ ∧ _ ∧ _ ∧ _ ∧ Below _ _ _›; refine (neededOf_calls (hu.below kb)).mono ?_; rintro e w' ⟨na, nm, nc, rfl, hnm, hnl, b1⟩; have hS' := keep4 ⟨z0, z1, z2, z3, kb⟩ b1)
        | (go_at_call 142; obtain ⟨z0, z1, z2, z3, kb⟩ := ‹_ ∧ _ ∧ _ ∧ _ ∧ Below _ _ _›; refine (samePage_calls (hu.below kb) hnl hn (by omega)).mono ?_; rw [hd]; rintro e w' ⟨rfl, b1⟩; have hS'' := keep4 ⟨z0, z1, z2, z3, kb⟩ b1))
    have kb2 := hS''.2.2.2.2
    obtain ⟨y0, y1, y2, y3, _⟩ := hS''
    clear hS'
    go_wp2_with fail
    refine (usedFault_calls (hu.below kb2) hn h03.1 h03.2).mono ?_
    rintro e w9 ⟨rfl, b9⟩
    have kb9 := kb2.trans (b9.mono kb2.size)
    go_wp2_with fail
    go_ret
    exact ⟨ret_int HF.out.symm, kb9⟩
  have HF : Hid (pageFault p = 0) := by show _ = _; rw [HB.out, if_pos hr, if_pos hd, if_neg k1]
  have q1 : (p.kind == 1) = false := by simpa using k1
  clear k1
  go_enter Tryz.func143, Tryz.ntmps143
  go_wp2_with fail
  refine (isRange_calls (us := p.used)).mono ?_
  rw [hr]
  rintro e w1 ⟨rfl, hb1⟩
  have hrow := Row.new hb1
  have hb := below_past hb1
  have x0 : w1.cell? ⟨w.heap.size, 0, none⟩ = some (.int .i64 p.kind) := by rw [hrow.cell]; rfl
  have x1 : w1.cell? ⟨w.heap.size, 1, none⟩ = some (.int .i64 p.cls) := by rw [hrow.cell]; rfl
  have x2 : w1.cell? ⟨w.heap.size, 2, none⟩ = some (.slice a n cc) := by rw [hrow.cell]; rfl
  have x3 : w1.cell? ⟨w.heap.size, 3, none⟩ = some (.int .i64 p.run) := by rw [hrow.cell]; rfl
  clear hb1 hrow
  have kB := hb
  go_wp2_with fail
  go_region_held3 (fun w' => w'.cell? ⟨w.heap.size, 0, none⟩ = some (.int .i64 p.kind) ∧ w'.cell? ⟨w.heap.size, 1, none⟩ = some (.int .i64 p.cls) ∧ w'.cell? ⟨w.heap.size, 2, none⟩ = some (.slice a n cc) ∧ w'.cell? ⟨w.heap.size, 3, none⟩ = some (.int .i64 p.run) ∧ Below w.heap.size w w') (first | assumption | exact ⟨x0, x1, x2, x3, kB.drew⟩)
    (first
      | (go_at_call 194; obtain ⟨z0, z1, z2, z3, kb⟩ := ‹_ ∧ _ ∧ _ ∧ _ ∧ Below _ _ _›; refine (neededOf_calls (hu.below kb)).mono ?_; rintro e w' ⟨na, nm, nc, rfl, hnm, hnl, b1⟩; have hS' := keep4 ⟨z0, z1, z2, z3, kb⟩ b1)
      | (go_at_call 142; obtain ⟨z0, z1, z2, z3, kb⟩ := ‹_ ∧ _ ∧ _ ∧ _ ∧ Below _ _ _›; refine (samePage_calls (hu.below kb) hnl hn (by omega)).mono ?_; rw [hd]; rintro e w' ⟨rfl, b1⟩; have hS'' := keep4 ⟨z0, z1, z2, z3, kb⟩ b1))
  have kb2 := hS''.2.2.2.2
  obtain ⟨y0, y1, y2, y3, _⟩ := hS''
  clear hS'
  go_wp2_with fail
  go_ret
  exact ⟨ret_int HF.out.symm, kb2⟩

/-- A box behind a new block: it is there, and all else is as it was. -/
theorem below_box {w0 w w1 : World} {o : Obj} (hb : Below w0.heap.size w0 w) (h : Below (w.alloc o).heap.size (w.alloc o) w1) : Below w0.heap.size w0 w1 := hb.trans ((below_past h).mono hb.size)

set_option maxRecDepth 100000 in
set_option maxHeartbeats 1000000 in
theorem runsWhole_calls {ao : Option Addr} {n cc : Nat} {ps : List Pg} {S : Nat → Prop} {w : World} (hT : Lst KPage w S ao n ps) (hn : n ≤ 17592186044416) (hA : ∀ p ∈ ps, pageFault p = 0) :
    Calls Tryz.prog 144 #[.slice ao n cc] w fun e w' => e = .returned (.bool (whole 0 ps)) ∧ Below w.heap.size w w' := by
  have HL := Lib.hid hT.1
  have HA := Lib.hid hA
  clear hA
  go_enter Tryz.func144, Tryz.ntmps144
  go_wp2_with fail
  go_loopw [3, 5, 8] (fun q _ i wr => ∃ (k : Nat) (l : Int), k ≤ n ∧ i = .int .i64 k ∧ q = .int .i64 l ∧ 0 ≤ l ∧ l ≤ 3 ∧ Hid (whole 0 ps = whole l (ps.drop k)) ∧ Below w.heap.size w wr) (fun _ _ i _ => n - (intOf i).toNat)
  case atStart => exact ⟨0, 0, Nat.zero_le _, rfl, rfl, by omega, by omega, rfl, Below.refl _ _⟩
  case round =>
    obtain ⟨k, l, hk, rfl, rfl, hl0, hl3, HW, hbw⟩ := hrel
    by_cases hlt : k < n
    · obtain ⟨b, off, p, a, m, c, rfl, d0, hp, e0, e1, e2, e3, hlc, hcm, hu⟩ := (hT.below hbw).pg_at hlt
      have HD := Lib.hid hp
      have HPF := Lib.hid (HA.out p (List.mem_of_getElem? hp))
      have HWd : Hid (whole 0 ps = if decide (p.kind = 3) = decide (0 < l) then whole (nextLeft l p) (ps.drop (k + 1)) else false) := by
        have := HW.out; rw [drop_at hp, whole] at this; exact this
      have hB := Lib.hid (fun o => hbw.alloc hbw.size o)
      clear hp hcm hu HW
      by_cases k3 : p.kind = 3
      · rw [k3] at e0
        by_cases hl : 0 < l
        · have HN : Hid (whole 0 ps = whole (l - 1) (ps.drop (k + 1))) := by
            have := HWd.out
            rw [if_pos (by simp [k3, hl])] at this
            rw [show nextLeft l p = l - 1 by unfold nextLeft; rw [if_neg (by omega), if_pos k3]] at this
            exact this
          clear k3
          go_wp2_with fail
          go_roundw
          case rel => exact ⟨k + 1, l - 1, by omega, by go_num, by go_num, by omega, by omega, HN, hB.out _⟩
          case measure => simp [intOf]; omega
        · have HN : Hid (whole 0 ps = false) := by
            have := HWd.out
            rw [if_neg (by simp [k3, hl])] at this
            exact this
          clear k3
          go_wp2_with fail
          go_ret
          exact ⟨ret_bool HN.out.symm, hB.out _⟩
      · have q3 : (p.kind == 3) = false := by simpa using k3
        by_cases hl : 0 < l
        · have HN : Hid (whole 0 ps = false) := by
            have := HWd.out
            rw [if_neg (by simp [k3, hl])] at this
            exact this
          clear k3
          go_wp2_with fail
          go_ret
          exact ⟨ret_bool HN.out.symm, hB.out _⟩
        · by_cases k2 : p.kind = 2
          · have hr : 1 ≤ p.run ∧ p.run ≤ 4 := by
              rcases pageFault_ok HPF.out with h | h | h <;> omega
            have HN : Hid (whole 0 ps = whole (p.run - 1) (ps.drop (k + 1))) := by
              have := HWd.out
              rw [if_pos (by simp [k3, hl])] at this
              rw [show nextLeft l p = p.run - 1 by unfold nextLeft; rw [if_pos k2]] at this
              exact this
            obtain ⟨hr1, hr4⟩ := hr
            rw [k2] at e0
            clear k3 k2 q3
            go_wp2_with fail
            go_roundw
            case rel => exact ⟨k + 1, p.run - 1, by omega, by go_num, rfl, by omega, by omega, HN, hB.out _⟩
            case measure => simp [intOf]; omega
          · have q2 : (p.kind == 2) = false := by simpa using k2
            have HN : Hid (whole 0 ps = whole l (ps.drop (k + 1))) := by
              have := HWd.out
              rw [if_pos (by simp [k3, hl])] at this
              rw [show nextLeft l p = l by unfold nextLeft; rw [if_neg k2, if_neg k3]] at this
              exact this
            clear k3 k2
            go_wp2_with fail
            go_roundw
            case rel => exact ⟨k + 1, l, by omega, by go_num, rfl, by omega, by omega, HN, hB.out _⟩
            case measure => simp [intOf]; omega
    · have HW2 : Hid (whole 0 ps = decide (l = 0)) := by
        have := HW.out; rw [drop_end (by rw [HL.out]; omega)] at this; exact this
      by_cases hl : l = 0
      · have HF : Hid (whole 0 ps = true) := by show _ = _; rw [HW2.out]; simpa using hl
        subst hl
        go_wp2_with fail
        go_ret
        exact ⟨ret_bool HF.out.symm, hbw⟩
      · have HF : Hid (whole 0 ps = false) := by show _ = _; rw [HW2.out]; simpa using hl
        have hq : (l == 0) = false := by simpa using hl
        clear hl
        go_wp2_with fail
        go_ret
        exact ⟨ret_bool HF.out.symm, hbw⟩

set_option maxRecDepth 100000 in
set_option maxHeartbeats 1000000 in
theorem pagesFault_calls {ao : Option Addr} {n cc : Nat} {ps : List Pg} {S : Nat → Prop} {w : World} (hT : Lst KPage w S ao n ps) (hS : ShortP 17592186044416 ps) (hn : n ≤ 17592186044416) :
    Calls Tryz.prog 75 #[.slice ao n cc] w fun e w' => e = .returned (.int .i64 (pagesFault ps)) ∧ Below w.heap.size w w' := by
  have HL := Lib.hid hT.1
  have HS := Lib.hid hS
  by_cases hbig : 40 < n
  · have HF := Lib.hid (show pagesFault ps = 2 by unfold pagesFault; rw [if_pos (by rw [HL.out]; exact hbig)])
    go_enter Tryz.func75, Tryz.ntmps75
    go_wp2_with fail
    go_ret
    exact ⟨ret_int HF.out.symm, Below.refl _ _⟩
  have hno : ¬ ((40 : Int) < n) := by omega
  have HP : Hid (pagesFault ps = if firstPF ps = 0 then (if whole 0 ps = true then 0 else 8) else firstPF ps) := by
    show pagesFault ps = _
    unfold pagesFault; rw [if_neg (by rw [HL.out]; omega)]
  go_enter Tryz.func75, Tryz.ntmps75
  go_wp2_with fail
  go_loopw [4, 5, 11] (fun _ _ i wr => ∃ k : Nat, k ≤ n ∧ i = .int .i64 k ∧ Hid (firstPF ps = firstPF (ps.drop k)) ∧ Hid (∀ j p, j < k → ps[j]? = some p → pageFault p = 0) ∧ Below w.heap.size w wr) (fun _ _ i _ => n - (intOf i).toNat)
  case atStart => exact ⟨0, Nat.zero_le _, rfl, rfl, fun j p hj => by omega, Below.refl _ _⟩
  case round =>
    obtain ⟨k, hk, rfl, HW, HA, hbw⟩ := hrel
    by_cases hlt : k < n
    · obtain ⟨b, off, p, a, l, c, rfl, d0, hp, e0, e1, e2, e3, hlc, hcm, hu⟩ := (hT.below hbw).pg_at hlt
      have HD := Lib.hid hp
      have hl : l ≤ 17592186044416 := by have := HS.out.at_ hp; have := hu.1; omega
      clear hp hcm
      by_cases hz : pageFault p = 0
      · have HN : Hid (firstPF ps = firstPF (ps.drop (k + 1))) := by
          have := HW.out; rw [drop_at HD.out, firstPF, if_pos hz] at this; exact this
        have HN2 : Hid (∀ j p, j < k + 1 → ps[j]? = some p → pageFault p = 0) := fun j q hj hq => by
          by_cases e : j = k
          · subst e; have := HD.out.symm.trans hq; injection this with this; rw [← this]; exact hz
          · exact HA.out j q (by omega) hq
        have HZ := Lib.hid hz
        clear hz
        go_wp2_with fail
        refine (pageFault_calls (hu.alloc _) hl).mono ?_
        rintro e w1 ⟨rfl, hb1⟩
        rw [HZ.out]
        have hb2 := below_box hbw hb1
        clear hb1
        go_wp2_with fail
        go_roundw
        case rel => exact ⟨k + 1, by omega, by go_num, HN, HN2, hb2⟩
        case measure => simp [intOf]; omega
      · have HF : Hid (pagesFault ps = pageFault p) := by
          have h1 := HW.out; rw [drop_at HD.out, firstPF, if_neg hz] at h1
          show pagesFault ps = _
          rw [HP.out, h1, if_neg hz]
        have hq : (pageFault p != 0) = true := by simpa using hz
        clear hz
        go_wp2_with fail
        refine (pageFault_calls (hu.alloc _) hl).mono ?_
        rintro e w1 ⟨rfl, hb1⟩
        have hb2 := below_box hbw hb1
        clear hb1
        go_wp2_with fail
        go_ret
        exact ⟨ret_int HF.out.symm, hb2⟩
    · have HA2 : Hid (∀ p ∈ ps, pageFault p = 0) := by
        intro p hp
        obtain ⟨j, hj, rfl⟩ := List.getElem_of_mem hp
        exact HA.out j _ (by have := HL.out; omega) (List.getElem?_eq_getElem hj)
      have HP2 : Hid (pagesFault ps = if whole 0 ps = true then 0 else 8) := by
        have h1 := HP.out; rw [if_pos (firstPF_of HA2.out)] at h1; exact h1
      clear HA HW HP
      rcases hwh : whole 0 ps with _ | _
      · have HF : Hid (pagesFault ps = 8) := by show _ = _; rw [HP2.out, hwh]; rfl
        go_wp2_with fail
        refine (runsWhole_calls (hT.below hbw) hn HA2.out).mono ?_
        rw [hwh]
        rintro e w1 ⟨rfl, hb1⟩
        go_wp2_with fail
        go_ret
        exact ⟨ret_int HF.out.symm, hbw.trans (hb1.mono hbw.size)⟩
      · have HF : Hid (pagesFault ps = 0) := by show _ = _; rw [HP2.out, hwh]; rfl
        go_wp2_with fail
        refine (runsWhole_calls (hT.below hbw) hn HA2.out).mono ?_
        rw [hwh]
        rintro e w1 ⟨rfl, hb1⟩
        go_wp2_with fail
        go_ret
        exact ⟨ret_int HF.out.symm, hbw.trans (hb1.mono hbw.size)⟩

end Go.Proofs.YthpamclljdcjpaaGreatDoor
