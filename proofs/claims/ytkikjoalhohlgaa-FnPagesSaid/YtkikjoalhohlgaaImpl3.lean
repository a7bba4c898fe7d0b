/- Chapter 3 of the program: sizes, slots, pages, steps. -/
import Derived.Test.YtkikjoalhohlgaaThree
namespace Go.Proofs.Ytkikjoalhohlgaa
open Go.RowKit

theorem wordsOfClass_calls {c : Int} {w : World} (h0 : 0 ≤ c) (h3 : c ≤ 3) :
    Calls Try.prog 80 #[.int .i64 c] w fun e w' => e = .returned (.int .i64 (sizeW c)) ∧ w = w' := by
  rcases (show c = 0 ∨ c = 1 ∨ c = 2 ∨ c = 3 by omega) with rfl | rfl | rfl | rfl
  all_goals
    go_enter Try.func80, Try.ntmps80
    go_wp2
    go_ret
    exact ⟨rfl, rfl⟩

theorem sizeOf3_calls {c : Int} {w : World} :
    Calls Try.prog 32 #[.int .i64 c] w (Pair w (sizeOf3 c)) := by
  have hres := heap_alloc_new w (.cells #[.int .i64 0, .int .i64 0] 38)
  have hres2 := (heap_alloc_old (w.alloc (.cells #[.int .i64 0, .int .i64 0] 38)) (.cells #[.int .i64 c] 2) (by simp)).trans hres
  have HB : Hid (Below w.heap.size w ((w.alloc (.cells #[.int .i64 0, .int .i64 0] 38)).alloc (.cells #[.int .i64 c] 2))) := ((Below.refl _ _).alloc (Nat.le_refl _) _).alloc (by simp) _
  clear hres
  by_cases h : 0 ≤ c ∧ c ≤ 3
  · have HR := Lib.hid (sizeOf3_yes h.1 h.2)
    have HW := Lib.hid (within_yes1 h.1 h.2)
    go_enter Try.func32, Try.ntmps32
    go_wp2_with fail
    refine (allWithin_calls (Ints.one (by simp)) (by omega)).mono ?_
    rw [HW.out]
    rintro e w1 ⟨rfl, rfl⟩
    go_wp2_with fail
    refine (wordsOfClass_calls h.1 h.2).mono ?_
    rintro e w1 ⟨rfl, rfl⟩
    go_wp2_with (refine wpList_store_row rfl 38 _ _ rfl w.heap.size _ rfl rfl _ _ hres2 (by kernel_rfl) (by rfl) (by simp [Value.oneCell']) ?_)
    refine bodyPost_ret (results_cell_row rfl _ _ w.heap.size _ _ _ _ rfl (setRow_heap _ _ _ _ _ _ hres2) Try.underlying38 rfl (by kernel_rfl)) rfl ?_
    exact pair_done HB.out (Nat.le_refl _) _ HR.out
  · have hw : within 0 3 [c] = false := within_no1 (by omega)
    have HR := Lib.hid (sizeOf3_no hw)
    have HW := Lib.hid hw
    clear hw
    go_enter Try.func32, Try.ntmps32
    go_wp2_with fail
    refine (allWithin_calls (Ints.one (by simp)) (by omega)).mono ?_
    rw [HW.out]
    rintro e w1 ⟨rfl, rfl⟩
    go_wp2_with (refine wpList_store_row rfl 38 _ _ rfl w.heap.size _ rfl rfl _ _ hres2 (by kernel_rfl) (by rfl) (by simp [Value.oneCell']) ?_)
    refine bodyPost_ret (results_cell_row rfl _ _ w.heap.size _ _ _ _ rfl (setRow_heap _ _ _ _ _ _ hres2) Try.underlying38 rfl (by kernel_rfl)) rfl ?_
    exact pair_done HB.out (Nat.le_refl _) _ HR.out

theorem slotsOf_calls {c : Int} {w : World} :
    Calls Try.prog 96 #[.int .i64 c] w (Pair w (slotsOf c)) := by
  by_cases h : 0 ≤ c ∧ c ≤ 3
  · have HR := Lib.hid (slotsOf_yes h.1 h.2)
    have HS := Lib.hid (sizeOf3_yes h.1 h.2)
    have hs := sizeW_small c
    go_enter Try.func96, Try.ntmps96
    go_wp2_with fail
    refine sizeOf3_calls.mono ?_
    rw [HS.out]
    rintro e w1 ⟨rfl, b1⟩
    have hres := Row.new b1
    have hb := below_past b1
    have hres2 := (heap_alloc_old w1 (.cells #[.int .i64 0, .int .i64 (sizeW c)] 38) hres.lt).trans hres
    have HB := Lib.hid (hb.alloc hb.size (.cells #[.int .i64 0, .int .i64 (sizeW c)] 38))
    clear b1 hb hres
    obtain ⟨x, hx⟩ : ∃ x, sizeW c = x := ⟨_, rfl⟩
    have HX := Lib.hid hx
    rw [hx] at hs hres2 HB ⊢
    clear hx
    have hd : (x == 0) = false := by simp; omega
    go_wp2_with (refine wpList_store_row rfl 38 _ _ rfl w.heap.size _ rfl rfl _ _ hres2 (by kernel_rfl) (by rfl) (by simp [Value.oneCell']) ?_)
    refine bodyPost_ret (results_cell_row rfl _ _ w.heap.size _ _ _ _ rfl (setRow_heap _ _ _ _ _ _ hres2) Try.underlying38 rfl (by kernel_rfl)) rfl ?_
    exact pair_done HB.out (Nat.le_refl _) _ (HR.out.trans (by rw [HX.out]))
  · have hw : within 0 3 [c] = false := within_no1 (by omega)
    have HR := Lib.hid (slotsOf_no hw)
    have HS := Lib.hid (sizeOf3_no hw)
    clear hw
    go_enter Try.func96, Try.ntmps96
    go_wp2_with fail
    refine sizeOf3_calls.mono ?_
    rw [HS.out]
    rintro e w1 ⟨rfl, b1⟩
    have hres := Row.new b1
    have hb := below_past b1
    have hres2 := (heap_alloc_old w1 (.cells #[.int .i64 3, .int .i64 0] 38) hres.lt).trans hres
    have HB := Lib.hid (hb.alloc hb.size (.cells #[.int .i64 3, .int .i64 0] 38))
    clear b1 hb hres
    go_wp2_with (refine wpList_store_row rfl 38 _ _ rfl w.heap.size _ rfl rfl _ _ hres2 (by kernel_rfl) (by rfl) (by simp [Value.oneCell']) ?_)
    refine bodyPost_ret (results_cell_row rfl _ _ w.heap.size _ _ _ _ rfl (setRow_heap _ _ _ _ _ _ hres2) Try.underlying38 rfl (by kernel_rfl)) rfl ?_
    exact pair_done HB.out (Nat.le_refl _) _ HR.out

end Go.Proofs.Ytkikjoalhohlgaa
