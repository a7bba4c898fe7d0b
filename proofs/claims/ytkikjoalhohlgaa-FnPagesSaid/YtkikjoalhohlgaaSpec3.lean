/- Chapter 3 of the model: sizes, slots, pages, steps. -/
import Derived.Test.YtkikjoalhohlgaaThree
import Derived.Deep.QuietTactic
namespace Go.Proofs.Ytkikjoalhohlgaa
open Go.RowKit

/-- Two to the power of k. -/
def pw : Nat → Int
  | 0 => 1
  | k + 1 => pw k * 2
theorem pw_small {k : Nat} (h : k ≤ 3) : 1 ≤ pw k ∧ pw k ≤ 8 := by
  rcases (show k = 0 ∨ k = 1 ∨ k = 2 ∨ k = 3 by omega) with rfl | rfl | rfl | rfl <;> decide
theorem pw_size {c : Int} (h0 : 0 ≤ c) (h3 : c ≤ 3) : pw c.toNat = sizeW c := by
  rcases (show c = 0 ∨ c = 1 ∨ c = 2 ∨ c = 3 by omega) with rfl | rfl | rfl | rfl <;> decide

theorem class_step {s : Int} {k : Nat} (hk : k ≤ 3) (h8 : s ≤ 8) (h : (k : Int) ≤ classW s) : (sizeW k < s → k < 3 ∧ ((k + 1 : Nat) : Int) ≤ classW s) ∧ (¬ sizeW k < s → (k : Int) = classW s) := by
  rcases (show k = 0 ∨ k = 1 ∨ k = 2 ∨ k = 3 by omega) with rfl | rfl | rfl | rfl <;> unfold sizeW classW at * <;> simp at * <;> (try split) <;> (try split) <;> (try split) <;> omega
theorem l3Size_calls {c : Int} {w : World} (h0 : 0 ≤ c) (h3 : c ≤ 3) :
    Calls Try.prog 99 #[.int .i64 c] w fun e w' => e = .returned (.int .i64 (sizeW c)) ∧ w = w' := by
  obtain ⟨m, rfl⟩ : ∃ m : Nat, c = m := ⟨c.toNat, by omega⟩
  have HP : Hid (pw m = sizeW m) := by have := pw_size h0 h3; rwa [Int.toNat_natCast] at this
  go_enter Try.func99, Try.ntmps99
  go_wp2
  go_loop [3, 0] (fun n i => ∃ k : Nat, k ≤ m ∧ i = .int .i64 ((m - k : Nat) : Int) ∧ n = .int .i64 (pw k)) (fun _ i => (intOf i).toNat)
  case atStart => exact ⟨0, Nat.zero_le _, rfl, rfl⟩
  case round =>
    obtain ⟨k, hk, rfl, rfl⟩ := hrel
    have hp := pw_small (k := k) (by omega)
    by_cases hlt : k < m
    · have HN : Hid (pw (k + 1) = pw k * 2) := rfl
      obtain ⟨x, hx⟩ : ∃ x, pw k = x := ⟨_, rfl⟩
      have HX := Lib.hid hx
      rw [hx] at hp
      rw [hx]
      clear hx
      go_wp2
      go_round
      case rel => exact ⟨k + 1, by omega, by go_num, by rw [HN.out, HX.out]⟩
      case measure => simp [intOf]; omega
    · have HE : Hid (pw k = sizeW m) := by
        have e : k = m := by omega
        rw [e]; exact HP.out
      obtain ⟨x, hx⟩ : ∃ x, pw k = x := ⟨_, rfl⟩
      have HX : Hid (x = sizeW m) := hx.symm.trans HE.out
      rw [hx]
      clear hx
      go_wp2
      go_ret
      exact ⟨ret_int HX.out, rfl⟩

theorem l3IsClass_calls {c : Int} {w : World} :
    Calls Try.prog 72 #[.int .i64 c] w fun e w' => e = .returned (.bool (within 0 3 [c])) ∧ w = w' := by
  go_enter Try.func72, Try.ntmps72
  go_wp2_with fail
  refine l1In_calls.mono ?_
  rintro e w1 ⟨rfl, rfl⟩
  go_wp2_with fail
  go_ret
  exact ⟨rfl, rfl⟩

theorem l3Slots_calls {c : Int} {w : World} (h0 : 0 ≤ c) (h3 : c ≤ 3) :
    Calls Try.prog 86 #[.int .i64 c] w fun e w' => e = .returned (.int .i64 (16 / sizeW c)) ∧ w = w' := by
  have hs := sizeW_small c
  go_enter Try.func86, Try.ntmps86
  go_wp2_with fail
  refine (l3Size_calls h0 h3).mono ?_
  rintro e w1 ⟨rfl, rfl⟩
  obtain ⟨x, hx⟩ : ∃ x, sizeW c = x := ⟨_, rfl⟩
  have HX := Lib.hid hx
  rw [hx] at hs ⊢
  clear hx
  have hd : (x == 0) = false := by simp; omega
  go_wp2_with fail
  go_ret
  exact ⟨ret_int (by rw [HX.out]), rfl⟩

end Go.Proofs.Ytkikjoalhohlgaa
