/- Chapter 3 of the program: sizes, slots, pages, steps. -/
import Derived.Test.YtjbihaijfdgipaaThree
namespace Go.Proofs.Ytjbihaijfdgipaa
open Go.RowKit

theorem wordsOfClass_calls {c : Int} {w : World} (h0 : 0 ≤ c) (h3 : c ≤ 3) :
    Calls Try.prog 39 #[.int .i64 c] w fun e w' => e = .returned (.int .i64 (sizeW c)) ∧ w = w' := by
  rcases (show c = 0 ∨ c = 1 ∨ c = 2 ∨ c = 3 by omega) with rfl | rfl | rfl | rfl
  all_goals
    go_enter Try.func39, Try.ntmps39
    go_wp2
    go_ret
    exact ⟨rfl, rfl⟩

theorem lowestClass_calls {s : Int} {w : World} (h1 : 1 ≤ s) (h8 : s ≤ 8) :
    Calls Try.prog 38 #[.int .i64 s] w fun e w' => e = .returned (.int .i64 (classW s)) ∧ w = w' := by
  rcases (show s = 1 ∨ s = 2 ∨ s = 3 ∨ s = 4 ∨ s = 5 ∨ s = 6 ∨ s = 7 ∨ s = 8 by omega) with rfl | rfl | rfl | rfl | rfl | rfl | rfl | rfl
  all_goals
    go_enter Try.func38, Try.ntmps38
    go_wp2_with (go_at_call 39; go_must (refine (wordsOfClass_calls (by omega) (by omega)).mono ?_); rintro e w' ⟨rfl, rfl⟩)
    go_ret
    exact ⟨rfl, rfl⟩

theorem classOf_calls {c : Int} {w : World} :
    Calls Try.prog 12 #[.int .i64 c] w (Pair w (classOf c)) := by
  have hres := heap_alloc_new w (.cells #[.int .i64 0, .int .i64 0] 26)
  have hres2 := (heap_alloc_old (w.alloc (.cells #[.int .i64 0, .int .i64 0] 26)) (.cells #[.int .i64 c] 2) (by simp)).trans hres
  have HB : Hid (Below w.heap.size w ((w.alloc (.cells #[.int .i64 0, .int .i64 0] 26)).alloc (.cells #[.int .i64 c] 2))) := ((Below.refl _ _).alloc (Nat.le_refl _) _).alloc (by simp) _
  clear hres
  by_cases h : 1 ≤ c ∧ c ≤ 8
  · have HR := Lib.hid (classOf_yes h.1 h.2)
    have HW := Lib.hid (within_yes1 h.1 h.2)
    go_enter Try.func12, Try.ntmps12
    go_wp2_with fail
    refine (allWithin_calls (Ints.one (by simp)) (by omega)).mono ?_
    rw [HW.out]
    rintro e w1 ⟨rfl, rfl⟩
    go_wp2_with fail
    refine (lowestClass_calls h.1 h.2).mono ?_
    rintro e w1 ⟨rfl, rfl⟩
    go_wp2_with (refine wpList_store_row rfl 26 _ _ rfl w.heap.size _ rfl rfl _ _ hres2 (by kernel_rfl) (by rfl) (by simp [Value.oneCell']) ?_)
    refine bodyPost_ret (results_cell_row rfl _ _ w.heap.size _ _ _ _ rfl (setRow_heap _ _ _ _ _ _ hres2) Try.underlying26 rfl (by kernel_rfl)) rfl ?_
    exact pair_done HB.out (Nat.le_refl _) _ HR.out
  · have hw : within 1 8 [c] = false := within_no1 (by omega)
    have HR := Lib.hid (classOf_no hw)
    have HW := Lib.hid hw
    clear hw
    go_enter Try.func12, Try.ntmps12
    go_wp2_with fail
    refine (allWithin_calls (Ints.one (by simp)) (by omega)).mono ?_
    rw [HW.out]
    rintro e w1 ⟨rfl, rfl⟩
    go_wp2_with (refine wpList_store_row rfl 26 _ _ rfl w.heap.size _ rfl rfl _ _ hres2 (by kernel_rfl) (by rfl) (by simp [Value.oneCell']) ?_)
    refine bodyPost_ret (results_cell_row rfl _ _ w.heap.size _ _ _ _ rfl (setRow_heap _ _ _ _ _ _ hres2) Try.underlying26 rfl (by kernel_rfl)) rfl ?_
    exact pair_done HB.out (Nat.le_refl _) _ HR.out

theorem sizeOf3_calls {c : Int} {w : World} :
    Calls Try.prog 14 #[.int .i64 c] w (Pair w (sizeOf3 c)) := by
  have hres := heap_alloc_new w (.cells #[.int .i64 0, .int .i64 0] 26)
  have hres2 := (heap_alloc_old (w.alloc (.cells #[.int .i64 0, .int .i64 0] 26)) (.cells #[.int .i64 c] 2) (by simp)).trans hres
  have HB : Hid (Below w.heap.size w ((w.alloc (.cells #[.int .i64 0, .int .i64 0] 26)).alloc (.cells #[.int .i64 c] 2))) := ((Below.refl _ _).alloc (Nat.le_refl _) _).alloc (by simp) _
  clear hres
  by_cases h : 0 ≤ c ∧ c ≤ 3
  · have HR := Lib.hid (sizeOf3_yes h.1 h.2)
    have HW := Lib.hid (within_yes1 h.1 h.2)
    go_enter Try.func14, Try.ntmps14
    go_wp2_with fail
    refine (allWithin_calls (Ints.one (by simp)) (by omega)).mono ?_
    rw [HW.out]
    rintro e w1 ⟨rfl, rfl⟩
    go_wp2_with fail
    refine (wordsOfClass_calls h.1 h.2).mono ?_
    rintro e w1 ⟨rfl, rfl⟩
    go_wp2_with (refine wpList_store_row rfl 26 _ _ rfl w.heap.size _ rfl rfl _ _ hres2 (by kernel_rfl) (by rfl) (by simp [Value.oneCell']) ?_)
    refine bodyPost_ret (results_cell_row rfl _ _ w.heap.size _ _ _ _ rfl (setRow_heap _ _ _ _ _ _ hres2) Try.underlying26 rfl (by kernel_rfl)) rfl ?_
    exact pair_done HB.out (Nat.le_refl _) _ HR.out
  · have hw : within 0 3 [c] = false := within_no1 (by omega)
    have HR := Lib.hid (sizeOf3_no hw)
    have HW := Lib.hid hw
    clear hw
    go_enter Try.func14, Try.ntmps14
    go_wp2_with fail
    refine (allWithin_calls (Ints.one (by simp)) (by omega)).mono ?_
    rw [HW.out]
    rintro e w1 ⟨rfl, rfl⟩
    go_wp2_with (refine wpList_store_row rfl 26 _ _ rfl w.heap.size _ rfl rfl _ _ hres2 (by kernel_rfl) (by rfl) (by simp [Value.oneCell']) ?_)
    refine bodyPost_ret (results_cell_row rfl _ _ w.heap.size _ _ _ _ rfl (setRow_heap _ _ _ _ _ _ hres2) Try.underlying26 rfl (by kernel_rfl)) rfl ?_
    exact pair_done HB.out (Nat.le_refl _) _ HR.out

theorem pagesOf_calls {c : Int} {w : World} :
    Calls Try.prog 17 #[.int .i64 c] w (Pair w (pagesOf c)) := by
  have hres := heap_alloc_new w (.cells #[.int .i64 0, .int .i64 0] 26)
  have hres2 := (heap_alloc_old (w.alloc (.cells #[.int .i64 0, .int .i64 0] 26)) (.cells #[.int .i64 c] 2) (by simp)).trans hres
  have HB : Hid (Below w.heap.size w ((w.alloc (.cells #[.int .i64 0, .int .i64 0] 26)).alloc (.cells #[.int .i64 c] 2))) := ((Below.refl _ _).alloc (Nat.le_refl _) _).alloc (by simp) _
  clear hres
  by_cases h : 9 ≤ c ∧ c ≤ 64
  · have HR := Lib.hid (pagesOf_yes h.1 h.2)
    have HW := Lib.hid (within_yes1 h.1 h.2)
    go_enter Try.func17, Try.ntmps17
    go_wp2_with fail
    refine (allWithin_calls (Ints.one (by simp)) (by omega)).mono ?_
    rw [HW.out]
    rintro e w1 ⟨rfl, rfl⟩
    go_wp2_with (refine wpList_store_row rfl 26 _ _ rfl w.heap.size _ rfl rfl _ _ hres2 (by kernel_rfl) (by rfl) (by simp [Value.oneCell']) ?_)
    refine bodyPost_ret (results_cell_row rfl _ _ w.heap.size _ _ _ _ rfl (setRow_heap _ _ _ _ _ _ hres2) Try.underlying26 rfl (by kernel_rfl)) rfl ?_
    exact pair_done HB.out (Nat.le_refl _) _ (HR.out.trans (by congr 2; omega))
  · have hw : within 9 64 [c] = false := within_no1 (by omega)
    have HR := Lib.hid (pagesOf_no hw)
    have HW := Lib.hid hw
    clear hw
    go_enter Try.func17, Try.ntmps17
    go_wp2_with fail
    refine (allWithin_calls (Ints.one (by simp)) (by omega)).mono ?_
    rw [HW.out]
    rintro e w1 ⟨rfl, rfl⟩
    go_wp2_with (refine wpList_store_row rfl 26 _ _ rfl w.heap.size _ rfl rfl _ _ hres2 (by kernel_rfl) (by rfl) (by simp [Value.oneCell']) ?_)
    refine bodyPost_ret (results_cell_row rfl _ _ w.heap.size _ _ _ _ rfl (setRow_heap _ _ _ _ _ _ hres2) Try.underlying26 rfl (by kernel_rfl)) rfl ?_
    exact pair_done HB.out (Nat.le_refl _) _ HR.out

theorem slotsOf_calls {c : Int} {w : World} :
    Calls Try.prog 15 #[.int .i64 c] w (Pair w (slotsOf c)) := by
  by_cases h : 0 ≤ c ∧ c ≤ 3
  · have HR := Lib.hid (slotsOf_yes h.1 h.2)
    have HS := Lib.hid (sizeOf3_yes h.1 h.2)
    have hs := sizeW_small c
    go_enter Try.func15, Try.ntmps15
    go_wp2_with fail
    refine sizeOf3_calls.mono ?_
    rw [HS.out]
    rintro e w1 ⟨rfl, b1⟩
    have hres := Row.new b1
    have hb := below_past b1
    have hres2 := (heap_alloc_old w1 (.cells #[.int .i64 0, .int .i64 (sizeW c)] 26) hres.lt).trans hres
    have HB := Lib.hid (hb.alloc hb.size (.cells #[.int .i64 0, .int .i64 (sizeW c)] 26))
    clear b1 hb hres
    obtain ⟨x, hx⟩ : ∃ x, sizeW c = x := ⟨_, rfl⟩
    have HX := Lib.hid hx
    rw [hx] at hs hres2 HB ⊢
    clear hx
    have hd : (x == 0) = false := by simp; omega
    go_wp2_with (refine wpList_store_row rfl 26 _ _ rfl w.heap.size _ rfl rfl _ _ hres2 (by kernel_rfl) (by rfl) (by simp [Value.oneCell']) ?_)
    refine bodyPost_ret (results_cell_row rfl _ _ w.heap.size _ _ _ _ rfl (setRow_heap _ _ _ _ _ _ hres2) Try.underlying26 rfl (by kernel_rfl)) rfl ?_
    exact pair_done HB.out (Nat.le_refl _) _ (HR.out.trans (by rw [HX.out]))
  · have hw : within 0 3 [c] = false := within_no1 (by omega)
    have HR := Lib.hid (slotsOf_no hw)
    have HS := Lib.hid (sizeOf3_no hw)
    clear hw
    go_enter Try.func15, Try.ntmps15
    go_wp2_with fail
    refine sizeOf3_calls.mono ?_
    rw [HS.out]
    rintro e w1 ⟨rfl, b1⟩
    have hres := Row.new b1
    have hb := below_past b1
    have hres2 := (heap_alloc_old w1 (.cells #[.int .i64 3, .int .i64 0] 26) hres.lt).trans hres
    have HB := Lib.hid (hb.alloc hb.size (.cells #[.int .i64 3, .int .i64 0] 26))
    clear b1 hb hres
    go_wp2_with (refine wpList_store_row rfl 26 _ _ rfl w.heap.size _ rfl rfl _ _ hres2 (by kernel_rfl) (by rfl) (by simp [Value.oneCell']) ?_)
    refine bodyPost_ret (results_cell_row rfl _ _ w.heap.size _ _ _ _ rfl (setRow_heap _ _ _ _ _ _ hres2) Try.underlying26 rfl (by kernel_rfl)) rfl ?_
    exact pair_done HB.out (Nat.le_refl _) _ HR.out

theorem stepsOf_calls {c : Int} {w : World} :
    Calls Try.prog 23 #[.int .i64 c] w (Pair w (stepsOf c)) := by
  have hres := heap_alloc_new w (.cells #[.int .i64 0, .int .i64 0] 26)
  have HB : Hid (Below w.heap.size w (w.alloc (.cells #[.int .i64 0, .int .i64 0] 26))) := (Below.refl _ _).alloc (Nat.le_refl _) _
  by_cases h : 1 ≤ c ∧ c ≤ 8
  · have HR := Lib.hid (stepsOf_yes h.1 h.2)
    rcases (show c = 1 ∨ c = 2 ∨ c = 3 ∨ c = 4 ∨ c = 5 ∨ c = 6 ∨ c = 7 ∨ c = 8 by omega) with rfl | rfl | rfl | rfl | rfl | rfl | rfl | rfl
    all_goals
      go_enter Try.func23, Try.ntmps23
      go_wp2_with (refine wpList_store_row rfl 26 _ _ rfl w.heap.size _ rfl rfl _ _ hres (by kernel_rfl) (by rfl) (by simp [Value.oneCell']) ?_)
      refine bodyPost_ret (results_cell_row rfl _ _ w.heap.size _ _ _ _ rfl (setRow_heap _ _ _ _ _ _ hres) Try.underlying26 rfl (by kernel_rfl)) rfl ?_
      exact pair_done HB.out (Nat.le_refl _) _ HR.out
  · have HR := Lib.hid (stepsOf_no (k := c) (within_no1 (by omega)))
    have e1 : (c == 1) = false := by simp; omega
    have e2 : (c == 2) = false := by simp; omega
    have e3 : (c == 3) = false := by simp; omega
    have e4 : (c == 4) = false := by simp; omega
    have e5 : (c == 5) = false := by simp; omega
    have e6 : (c == 6) = false := by simp; omega
    have e7 : (c == 7) = false := by simp; omega
    have e8 : (c == 8) = false := by simp; omega
    go_enter Try.func23, Try.ntmps23
    go_wp2_with (refine wpList_store_row rfl 26 _ _ rfl w.heap.size _ rfl rfl _ _ hres (by kernel_rfl) (by rfl) (by simp [Value.oneCell']) ?_)
    refine bodyPost_ret (results_cell_row rfl _ _ w.heap.size _ _ _ _ rfl (setRow_heap _ _ _ _ _ _ hres) Try.underlying26 rfl (by kernel_rfl)) rfl ?_
    exact pair_done HB.out (Nat.le_refl _) _ HR.out
end Go.Proofs.Ytjbihaijfdgipaa
