/- Chapter 3 of the model: sizes, slots, pages, steps. -/
import Derived.Test.YtjbihaijfdgipaaThree
import Derived.Deep.QuietTactic
namespace Go.Proofs.Ytjbihaijfdgipaa
open Go.RowKit

/-- Two to the power of k. -/
def pw : Nat → Int
  | 0 => 1
  | k + 1 => pw k * 2
theorem pw_small {k : Nat} (h : k ≤ 3) : 1 ≤ pw k ∧ pw k ≤ 8 := by
  rcases (show k = 0 ∨ k = 1 ∨ k = 2 ∨ k = 3 by omega) with rfl | rfl | rfl | rfl <;> decide
theorem pw_size {c : Int} (h0 : 0 ≤ c) (h3 : c ≤ 3) : pw c.toNat = sizeW c := by
  rcases (show c = 0 ∨ c = 1 ∨ c = 2 ∨ c = 3 by omega) with rfl | rfl | rfl | rfl <;> decide

theorem class_step {s : Int} {k : Nat} (hk : k ≤ 3) (h8 : s ≤ 8) (h : (k : Int) ≤ classW s) : (sizeW k < s → k < 3 ∧ ((k + 1 : Nat) : Int) ≤ classW s) ∧ (¬ sizeW k < s → (k : Int) = classW s) := by
  rcases (show k = 0 ∨ k = 1 ∨ k = 2 ∨ k = 3 by omega) with rfl | rfl | rfl | rfl <;> unfold sizeW classW at * <;> simp at * <;> (try split) <;> (try split) <;> (try split) <;> omega
theorem l3Size_calls {c : Int} {w : World} (h0 : 0 ≤ c) (h3 : c ≤ 3) :
    Calls Try.prog 44 #[.int .i64 c] w fun e w' => e = .returned (.int .i64 (sizeW c)) ∧ w = w' := by
  obtain ⟨m, rfl⟩ : ∃ m : Nat, c = m := ⟨c.toNat, by omega⟩
  have HP : Hid (pw m = sizeW m) := by have := pw_size h0 h3; rwa [Int.toNat_natCast] at this
  go_enter Try.func44, Try.ntmps44
  go_wp2
  go_loop [3, 0] (fun n i => ∃ k : Nat, k ≤ m ∧ i = .int .i64 ((m - k : Nat) : Int) ∧ n = .int .i64 (pw k)) (fun _ i => (intOf i).toNat)
  case atStart => exact ⟨0, Nat.zero_le _, rfl, rfl⟩
  case round =>
    obtain ⟨k, hk, rfl, rfl⟩ := hrel
    have hp := pw_small (k := k) (by omega)
    by_cases hlt : k < m
    · have HN : Hid (pw (k + 1) = pw k * 2) := rfl
      obtain ⟨x, hx⟩ : ∃ x, pw k = x := ⟨_, rfl⟩
      have HX := Lib.hid hx
      rw [hx] at hp
      rw [hx]
      clear hx
      go_wp2
      go_round
      case rel => exact ⟨k + 1, by omega, by go_num, by rw [HN.out, HX.out]⟩
      case measure => simp [intOf]; omega
    · have HE : Hid (pw k = sizeW m) := by
        have e : k = m := by omega
        rw [e]; exact HP.out
      obtain ⟨x, hx⟩ : ∃ x, pw k = x := ⟨_, rfl⟩
      have HX : Hid (x = sizeW m) := hx.symm.trans HE.out
      rw [hx]
      clear hx
      go_wp2
      go_ret
      exact ⟨ret_int HX.out, rfl⟩

/-- The class that is told, once it is known how far the search has gone. -/
theorem l3Class_calls {s : Int} {w : World} (h8 : s ≤ 8) :
    Calls Try.prog 42 #[.int .i64 s] w fun e w' => e = .returned (.int .i64 (classW s)) ∧ w = w' := by
  go_enter Try.func42, Try.ntmps42
  go_wp2
  go_loop [3] (fun c => ∃ k : Nat, k ≤ 3 ∧ c = .int .i64 k ∧ Hid ((k : Int) ≤ classW s)) (fun c => 3 - (intOf c).toNat)
  case atStart => exact ⟨0, by omega, rfl, (classW_small s).1⟩
  case round =>
    obtain ⟨k, hk, rfl, HK⟩ := hrel
    go_wp2_with fail
    refine (l3Size_calls (by omega) (by omega)).mono ?_
    rintro e w1 ⟨rfl, rfl⟩
    have F := Lib.hid (class_step (s := s) (k := k) hk h8 HK.out)
    clear HK
    obtain ⟨x, hx⟩ : ∃ x, sizeW k = x := ⟨_, rfl⟩
    rw [hx] at F ⊢
    clear hx
    by_cases hlt : x < s
    · obtain ⟨hk2, HS⟩ := F.out.1 hlt
      have HS := Lib.hid HS
      clear F
      go_wp2_with fail
      go_round
      case rel => exact ⟨k + 1, by omega, by go_num, HS⟩
      case measure => simp [intOf]; omega
    · have HE := Lib.hid (F.out.2 hlt)
      clear F
      go_wp2_with fail
      go_ret
      exact ⟨ret_int HE.out, rfl⟩

theorem l3IsClass_calls {c : Int} {w : World} :
    Calls Try.prog 43 #[.int .i64 c] w fun e w' => e = .returned (.bool (within 0 3 [c])) ∧ w = w' := by
  go_enter Try.func43, Try.ntmps43
  go_wp2_with fail
  refine l1In_calls.mono ?_
  rintro e w1 ⟨rfl, rfl⟩
  go_wp2_with fail
  go_ret
  exact ⟨rfl, rfl⟩

theorem l3Slots_calls {c : Int} {w : World} (h0 : 0 ≤ c) (h3 : c ≤ 3) :
    Calls Try.prog 45 #[.int .i64 c] w fun e w' => e = .returned (.int .i64 (16 / sizeW c)) ∧ w = w' := by
  have hs := sizeW_small c
  go_enter Try.func45, Try.ntmps45
  go_wp2_with fail
  refine (l3Size_calls h0 h3).mono ?_
  rintro e w1 ⟨rfl, rfl⟩
  obtain ⟨x, hx⟩ : ∃ x, sizeW c = x := ⟨_, rfl⟩
  have HX := Lib.hid hx
  rw [hx] at hs ⊢
  clear hx
  have hd : (x == 0) = false := by simp; omega
  go_wp2_with fail
  go_ret
  exact ⟨ret_int (by rw [HX.out]), rfl⟩

theorem l3Pages_calls {s : Int} {w : World} (h0 : 9 ≤ s) (h3 : s ≤ 64) :
    Calls Try.prog 46 #[.int .i64 s] w fun e w' => e = .returned (.int .i64 ((s + 15) / 16)) ∧ w = w' := by
  go_enter Try.func46, Try.ntmps46
  go_wp2_with fail
  go_ret
  exact ⟨ret_int (by omega), rfl⟩

theorem l3Steps_calls {k : Int} {w : World} (h0 : 1 ≤ k) (h3 : k ≤ 8) :
    Calls Try.prog 47 #[.int .i64 k] w fun e w' => e = .returned (.int .i64 (stepsW k)) ∧ Below w.heap.size w w' := by
  rcases (show k = 1 ∨ k = 2 ∨ k = 3 ∨ k = 4 ∨ k = 5 ∨ k = 6 ∨ k = 7 ∨ k = 8 by omega) with rfl | rfl | rfl | rfl | rfl | rfl | rfl | rfl
  all_goals
    go_enter Try.func47, Try.ntmps47
    go_wp2_with fail
    go_ret
    exact ⟨rfl, (Below.refl _ _).alloc (Nat.le_refl _) _⟩

theorem sClassOf_calls {c : Int} {w : World} :
    Calls Try.prog 19 #[.int .i64 c] w (Pair w (classOf c)) := by
  by_cases h : 1 ≤ c ∧ c ≤ 8
  · have HR := Lib.hid (classOf_yes h.1 h.2)
    have HW := Lib.hid (within_yes1 h.1 h.2)
    go_enter Try.func19, Try.ntmps19
    go_wp2_with fail
    refine l1In_calls.mono ?_
    rw [HW.out]
    rintro e w1 ⟨rfl, rfl⟩
    go_wp2_with fail
    refine (l3Class_calls h.2).mono ?_
    rintro e w1 ⟨rfl, rfl⟩
    have hres := heap_alloc_new w (.cells #[.int .i64 0, .int .i64 0] 26)
    go_wp2_with (refine wpList_store_row rfl 26 _ _ rfl w.heap.size _ rfl rfl _ _ hres (by kernel_rfl) (by rfl) (by simp [Value.oneCell']) ?_)
    refine bodyPost_ret (results_cell_row rfl _ _ w.heap.size _ _ _ _ rfl (setRow_heap _ _ _ _ _ _ hres) Try.underlying26 rfl (by kernel_rfl)) rfl ?_
    exact pair_done ((Below.refl _ _).alloc (Nat.le_refl _) _) (Nat.le_refl _) _ HR.out
  · have hw : within 1 8 [c] = false := within_no1 (by omega)
    have HR := Lib.hid (classOf_no hw)
    have HW := Lib.hid hw
    clear hw
    go_enter Try.func19, Try.ntmps19
    go_wp2_with fail
    refine l1In_calls.mono ?_
    rw [HW.out]
    rintro e w1 ⟨rfl, rfl⟩
    have hres := heap_alloc_new w (.cells #[.int .i64 0, .int .i64 0] 26)
    go_wp2_with (refine wpList_store_row rfl 26 _ _ rfl w.heap.size _ rfl rfl _ _ hres (by kernel_rfl) (by rfl) (by simp [Value.oneCell']) ?_)
    refine bodyPost_ret (results_cell_row rfl _ _ w.heap.size _ _ _ _ rfl (setRow_heap _ _ _ _ _ _ hres) Try.underlying26 rfl (by kernel_rfl)) rfl ?_
    exact pair_done ((Below.refl _ _).alloc (Nat.le_refl _) _) (Nat.le_refl _) _ HR.out

theorem sSizeOf_calls {c : Int} {w : World} :
    Calls Try.prog 20 #[.int .i64 c] w (Pair w (sizeOf3 c)) := by
  by_cases h : 0 ≤ c ∧ c ≤ 3
  · have HR := Lib.hid (sizeOf3_yes h.1 h.2)
    have HW := Lib.hid (within_yes1 h.1 h.2)
    go_enter Try.func20, Try.ntmps20
    go_wp2_with fail
    refine l3IsClass_calls.mono ?_
    rw [HW.out]
    rintro e w1 ⟨rfl, rfl⟩
    go_wp2_with fail
    refine (l3Size_calls h.1 h.2).mono ?_
    rintro e w1 ⟨rfl, rfl⟩
    have hres := heap_alloc_new w (.cells #[.int .i64 0, .int .i64 0] 26)
    go_wp2_with (refine wpList_store_row rfl 26 _ _ rfl w.heap.size _ rfl rfl _ _ hres (by kernel_rfl) (by rfl) (by simp [Value.oneCell']) ?_)
    refine bodyPost_ret (results_cell_row rfl _ _ w.heap.size _ _ _ _ rfl (setRow_heap _ _ _ _ _ _ hres) Try.underlying26 rfl (by kernel_rfl)) rfl ?_
    exact pair_done ((Below.refl _ _).alloc (Nat.le_refl _) _) (Nat.le_refl _) _ HR.out
  · have hw : within 0 3 [c] = false := within_no1 (by omega)
    have HR := Lib.hid (sizeOf3_no hw)
    have HW := Lib.hid hw
    clear hw
    go_enter Try.func20, Try.ntmps20
    go_wp2_with fail
    refine l3IsClass_calls.mono ?_
    rw [HW.out]
    rintro e w1 ⟨rfl, rfl⟩
    have hres := heap_alloc_new w (.cells #[.int .i64 0, .int .i64 0] 26)
    go_wp2_with (refine wpList_store_row rfl 26 _ _ rfl w.heap.size _ rfl rfl _ _ hres (by kernel_rfl) (by rfl) (by simp [Value.oneCell']) ?_)
    refine bodyPost_ret (results_cell_row rfl _ _ w.heap.size _ _ _ _ rfl (setRow_heap _ _ _ _ _ _ hres) Try.underlying26 rfl (by kernel_rfl)) rfl ?_
    exact pair_done ((Below.refl _ _).alloc (Nat.le_refl _) _) (Nat.le_refl _) _ HR.out

theorem sSlotsOf_calls {c : Int} {w : World} :
    Calls Try.prog 21 #[.int .i64 c] w (Pair w (slotsOf c)) := by
  by_cases h : 0 ≤ c ∧ c ≤ 3
  · have HR := Lib.hid (slotsOf_yes h.1 h.2)
    have HW := Lib.hid (within_yes1 h.1 h.2)
    go_enter Try.func21, Try.ntmps21
    go_wp2_with fail
    refine l3IsClass_calls.mono ?_
    rw [HW.out]
    rintro e w1 ⟨rfl, rfl⟩
    go_wp2_with fail
    refine (l3Slots_calls h.1 h.2).mono ?_
    rintro e w1 ⟨rfl, rfl⟩
    have hres := heap_alloc_new w (.cells #[.int .i64 0, .int .i64 0] 26)
    go_wp2_with (refine wpList_store_row rfl 26 _ _ rfl w.heap.size _ rfl rfl _ _ hres (by kernel_rfl) (by rfl) (by simp [Value.oneCell']) ?_)
    refine bodyPost_ret (results_cell_row rfl _ _ w.heap.size _ _ _ _ rfl (setRow_heap _ _ _ _ _ _ hres) Try.underlying26 rfl (by kernel_rfl)) rfl ?_
    exact pair_done ((Below.refl _ _).alloc (Nat.le_refl _) _) (Nat.le_refl _) _ HR.out
  · have hw : within 0 3 [c] = false := within_no1 (by omega)
    have HR := Lib.hid (slotsOf_no hw)
    have HW := Lib.hid hw
    clear hw
    go_enter Try.func21, Try.ntmps21
    go_wp2_with fail
    refine l3IsClass_calls.mono ?_
    rw [HW.out]
    rintro e w1 ⟨rfl, rfl⟩
    have hres := heap_alloc_new w (.cells #[.int .i64 0, .int .i64 0] 26)
    go_wp2_with (refine wpList_store_row rfl 26 _ _ rfl w.heap.size _ rfl rfl _ _ hres (by kernel_rfl) (by rfl) (by simp [Value.oneCell']) ?_)
    refine bodyPost_ret (results_cell_row rfl _ _ w.heap.size _ _ _ _ rfl (setRow_heap _ _ _ _ _ _ hres) Try.underlying26 rfl (by kernel_rfl)) rfl ?_
    exact pair_done ((Below.refl _ _).alloc (Nat.le_refl _) _) (Nat.le_refl _) _ HR.out

theorem sPagesOf_calls {c : Int} {w : World} :
    Calls Try.prog 22 #[.int .i64 c] w (Pair w (pagesOf c)) := by
  by_cases h : 9 ≤ c ∧ c ≤ 64
  · have HR := Lib.hid (pagesOf_yes h.1 h.2)
    have HW := Lib.hid (within_yes1 h.1 h.2)
    go_enter Try.func22, Try.ntmps22
    go_wp2_with fail
    refine l1In_calls.mono ?_
    rw [HW.out]
    rintro e w1 ⟨rfl, rfl⟩
    go_wp2_with fail
    refine (l3Pages_calls h.1 h.2).mono ?_
    rintro e w1 ⟨rfl, rfl⟩
    have hres := heap_alloc_new w (.cells #[.int .i64 0, .int .i64 0] 26)
    go_wp2_with (refine wpList_store_row rfl 26 _ _ rfl w.heap.size _ rfl rfl _ _ hres (by kernel_rfl) (by rfl) (by simp [Value.oneCell']) ?_)
    refine bodyPost_ret (results_cell_row rfl _ _ w.heap.size _ _ _ _ rfl (setRow_heap _ _ _ _ _ _ hres) Try.underlying26 rfl (by kernel_rfl)) rfl ?_
    exact pair_done ((Below.refl _ _).alloc (Nat.le_refl _) _) (Nat.le_refl _) _ HR.out
  · have hw : within 9 64 [c] = false := within_no1 (by omega)
    have HR := Lib.hid (pagesOf_no hw)
    have HW := Lib.hid hw
    clear hw
    go_enter Try.func22, Try.ntmps22
    go_wp2_with fail
    refine l1In_calls.mono ?_
    rw [HW.out]
    rintro e w1 ⟨rfl, rfl⟩
    have hres := heap_alloc_new w (.cells #[.int .i64 0, .int .i64 0] 26)
    go_wp2_with (refine wpList_store_row rfl 26 _ _ rfl w.heap.size _ rfl rfl _ _ hres (by kernel_rfl) (by rfl) (by simp [Value.oneCell']) ?_)
    refine bodyPost_ret (results_cell_row rfl _ _ w.heap.size _ _ _ _ rfl (setRow_heap _ _ _ _ _ _ hres) Try.underlying26 rfl (by kernel_rfl)) rfl ?_
    exact pair_done ((Below.refl _ _).alloc (Nat.le_refl _) _) (Nat.le_refl _) _ HR.out

theorem sStepsOf_calls {c : Int} {w : World} :
    Calls Try.prog 24 #[.int .i64 c] w (Pair w (stepsOf c)) := by
  by_cases h : 1 ≤ c ∧ c ≤ 8
  · have HR := Lib.hid (stepsOf_yes h.1 h.2)
    have HW := Lib.hid (within_yes1 h.1 h.2)
    go_enter Try.func24, Try.ntmps24
    go_wp2_with fail
    refine l1In_calls.mono ?_
    rw [HW.out]
    rintro e w1 ⟨rfl, rfl⟩
    go_wp2_with fail
    refine (l3Steps_calls h.1 h.2).mono ?_
    rintro e w1 ⟨rfl, b1⟩
    have R := Row.new b1
    have B := below_past b1
    clear b1
    go_wp2_with (refine wpList_store_row rfl 26 _ _ rfl w.heap.size _ rfl rfl _ _ R (by kernel_rfl) (by rfl) (by simp [Value.oneCell']) ?_)
    refine bodyPost_ret (results_cell_row rfl _ _ w.heap.size _ _ _ _ rfl (setRow_heap _ _ _ _ _ _ R) Try.underlying26 rfl (by kernel_rfl)) rfl ?_
    exact pair_done B (Nat.le_refl _) _ HR.out
  · have hw : within 1 8 [c] = false := within_no1 (by omega)
    have HR := Lib.hid (stepsOf_no hw)
    have HW := Lib.hid hw
    clear hw
    go_enter Try.func24, Try.ntmps24
    go_wp2_with fail
    refine l1In_calls.mono ?_
    rw [HW.out]
    rintro e w1 ⟨rfl, rfl⟩
    have hres := heap_alloc_new w (.cells #[.int .i64 0, .int .i64 0] 26)
    go_wp2_with (refine wpList_store_row rfl 26 _ _ rfl w.heap.size _ rfl rfl _ _ hres (by kernel_rfl) (by rfl) (by simp [Value.oneCell']) ?_)
    refine bodyPost_ret (results_cell_row rfl _ _ w.heap.size _ _ _ _ rfl (setRow_heap _ _ _ _ _ _ hres) Try.underlying26 rfl (by kernel_rfl)) rfl ?_
    exact pair_done ((Below.refl _ _).alloc (Nat.le_refl _) _) (Nat.le_refl _) _ HR.out
end Go.Proofs.Ytjbihaijfdgipaa
