/- The law 'FnClasses'. -/
import Derived.Test.YtjbihaijfdgipaaLaw3
import Derived.Test.YtjbihaijfdgipaaDraw3
import Derived.Deep.RegionHeld3
namespace Go.Proofs.Ytjbihaijfdgipaa
open Go.RowKit

/-- Eight cells, and all that was there, are kept. -/
theorem keep8 {W a b : World} {p1 p2 p3 p4 p5 p6 p7 p8 : Addr} {x1 x2 x3 x4 x5 x6 x7 x8 : Value} (h : a.cell? p1 = some x1 ∧ a.cell? p2 = some x2 ∧ a.cell? p3 = some x3 ∧ a.cell? p4 = some x4 ∧ a.cell? p5 = some x5 ∧ a.cell? p6 = some x6 ∧ a.cell? p7 = some x7 ∧ a.cell? p8 = some x8 ∧ Below W.heap.size W a) (hb : Below a.heap.size a b) :
    b.cell? p1 = some x1 ∧ b.cell? p2 = some x2 ∧ b.cell? p3 = some x3 ∧ b.cell? p4 = some x4 ∧ b.cell? p5 = some x5 ∧ b.cell? p6 = some x6 ∧ b.cell? p7 = some x7 ∧ b.cell? p8 = some x8 ∧ Below W.heap.size W b := by
  obtain ⟨h1, h2, h3, h4, h5, h6, h7, h8, h⟩ := h
  have k := fun (p : Addr) (x : Value) (e : a.cell? p = some x) => (hb.cell (World.block_lt_of_cell? _ _ e)).trans e
  exact ⟨k _ _ h1, k _ _ h2, k _ _ h3, k _ _ h4, k _ _ h5, k _ _ h6, k _ _ h7, k _ _ h8, h.trans (hb.mono h.size)⟩

theorem size_cases (c : Int) : (∃ x y, sizeOf3 c = (0, x) ∧ slotsOf c = (0, y) ∧ x * y = 16) ∨ (∃ z, sizeOf3 c = (3, 0) ∧ slotsOf c = z) := by
  by_cases h : 0 ≤ c ∧ c ≤ 3
  · exact .inl ⟨_, _, sizeOf3_yes h.1 h.2, slotsOf_yes h.1 h.2, sizeW_slots h.1 h.2⟩
  · exact .inr ⟨_, sizeOf3_no (within_no1 (by omega)), rfl⟩
theorem pages_cases (s : Int) : (∃ x, pagesOf s = (0, x) ∧ s ≤ x * 16 ∧ (x - 1) * 16 < s ∧ 1 ≤ x ∧ x ≤ 4) ∨ pagesOf s = (3, 0) := by
  by_cases h : 9 ≤ s ∧ s ≤ 64
  · exact .inl ⟨_, pagesOf_yes h.1 h.2, by omega, by omega, by omega, by omega⟩
  · exact .inr (pagesOf_no (within_no1 (by omega)))
theorem class_cases (s : Int) : (∃ x, classOf s = (0, 0) ∧ sizeOf3 0 = (0, x) ∧ s ≤ x) ∨ (∃ k x y, classOf s = (0, k) ∧ 1 ≤ k ∧ k ≤ 3 ∧ sizeOf3 k = (0, x) ∧ s ≤ x ∧ sizeOf3 (k - 1) = (0, y) ∧ y < s) ∨ classOf s = (3, 0) := by
  by_cases h : 1 ≤ s ∧ s ≤ 8
  · have h1 := classW_small s
    have h2 := classW_holds h.2
    by_cases h0 : classW s = 0
    · exact .inl ⟨_, by rw [classOf_yes h.1 h.2, h0], sizeOf3_yes (by omega) (by omega), by rw [h0] at h2; exact h2⟩
    · exact .inr (.inl ⟨_, _, _, classOf_yes h.1 h.2, by omega, by omega, sizeOf3_yes (by omega) (by omega), h2, sizeOf3_yes (by omega) (by omega), classW_lowest h0⟩)
  · exact .inr (.inr (classOf_no (within_no1 (by omega))))

set_option maxHeartbeats 4000000 in
set_option maxRecDepth 100000 in
theorem lawClasses {ao : Option Addr} {n c : Nat} {bs : List Int} {w : World} (hb : Bytes w ao n bs) :
    Calls Try.prog 3 #[.slice ao n c] w fun e w' => e = .returned (.bool true) ∧ Below w.heap.size w w' := by
  by_cases hbig : n ≤ 1048576
  rotate_left
  · go_enter Try.func3, Try.ntmps3
    go_wp2
    go_ret
    exact ⟨rfl, Below.refl _ _⟩
  have hbig' : ¬ (1048576 : Int) < (n : Int) := by omega
  go_enter Try.func3, Try.ntmps3
  go_wp2_with (go_at_call 10; go_in)
  refine (drawClassOf_calls hb hbig).mono ?_
  rintro e w1 ⟨s, rfl, s0, s1, B⟩
  go_wp2_with fail
  refine classOf_calls.mono ?_
  rintro e w2 ⟨rfl, b⟩
  have B := B.trans (b.mono B.size)
  clear b
  go_wp2_with fail
  refine (drawSizeOf_calls (hb.below (B.alloc B.size _)) hbig).mono ?_
  rintro e w3 ⟨k, rfl, k0, k1, b⟩
  have R1 := Row.new b
  have B := B.trans ((below_past b).mono B.size)
  clear b
  go_wp2_with fail
  refine sizeOf3_calls.mono ?_
  rintro e w4 ⟨rfl, b⟩
  have R1 := R1.below b
  have B := B.trans (b.mono B.size)
  clear b
  go_wp2_with fail
  refine slotsOf_calls.mono ?_
  rintro e w5 ⟨rfl, b⟩
  have R2 := Row.new b
  have R1 := R1.below (below_past b)
  have B := B.trans ((below_past b).mono B.size)
  clear b
  go_wp2_with fail
  refine (drawPagesOf_calls (hb.below (B.alloc B.size _)) hbig).mono ?_
  rintro e w6 ⟨m, rfl, m0, m1, b⟩
  have R3 := Row.new b
  have R2 := R2.below (below_past b)
  have R1 := R1.below (below_past b)
  have B := B.trans ((below_past b).mono B.size)
  clear b
  go_wp2_with fail
  refine pagesOf_calls.mono ?_
  rintro e w7 ⟨rfl, b⟩
  have R3 := R3.below b
  have R2 := R2.below b
  have R1 := R1.below b
  have B := B.trans (b.mono B.size)
  clear b
  go_wp2_with fail
  refine (drawStepsOf_calls (hb.below (B.alloc B.size _)) hbig).mono ?_
  rintro e W ⟨q, rfl, q0, q1, b⟩
  have R4 := Row.new b
  have R3 := R3.below (below_past b)
  have R2 := R2.below (below_past b)
  have R1 := R1.below (below_past b)
  have B := B.trans ((below_past b).mono B.size)
  clear b
  have k1 := R1.cell 0
  have k2 := R1.cell 1
  have k3 := R2.cell 0
  have k4 := R2.cell 1
  have k5 := R3.cell 0
  have k6 := R3.cell 1
  have k7 := R4.cell 0
  have k8 := R4.cell 1
  simp at k1 k2 k3 k4 k5 k6 k7 k8
  have kB := Below.refl W.heap.size W
  have hq := run_neqPair
  have heg : Try.prog.eqGuardType Try.prog.depth 26 = false := by kernel_rfl
  go_wp2_with fail
  go_region_held3 (fun w' => w'.cell? ⟨w2.heap.size, 0, none⟩ = some (.int .i64 (classOf s).1) ∧ w'.cell? ⟨w2.heap.size, 1, none⟩ = some (.int .i64 (classOf s).2) ∧ w'.cell? ⟨w4.heap.size, 0, none⟩ = some (.int .i64 (sizeOf3 k).1) ∧ w'.cell? ⟨w4.heap.size, 1, none⟩ = some (.int .i64 (sizeOf3 k).2) ∧ w'.cell? ⟨w5.heap.size, 0, none⟩ = some (.int .i64 (slotsOf k).1) ∧ w'.cell? ⟨w5.heap.size, 1, none⟩ = some (.int .i64 (slotsOf k).2) ∧ w'.cell? ⟨w7.heap.size, 0, none⟩ = some (.int .i64 (pagesOf m).1) ∧ w'.cell? ⟨w7.heap.size, 1, none⟩ = some (.int .i64 (pagesOf m).2) ∧ Below W.heap.size W w') (first | assumption | exact ⟨k1, k2, k3, k4, k5, k6, k7, k8, kB.drew⟩)
    (first
      | (go_at_call 19; have hh := ‹_ ∧ _ ∧ _ ∧ _ ∧ _ ∧ _ ∧ _ ∧ _ ∧ Below _ _ _›; refine sClassOf_calls.mono ?_; rintro e w' ⟨rfl, b⟩; have hS' := keep8 hh b)
      | (go_at_call 20; have hh := ‹_ ∧ _ ∧ _ ∧ _ ∧ _ ∧ _ ∧ _ ∧ _ ∧ Below _ _ _›; refine sSizeOf_calls.mono ?_; rintro e w' ⟨rfl, b⟩; have hS' := keep8 hh b)
      | (go_at_call 21; have hh := ‹_ ∧ _ ∧ _ ∧ _ ∧ _ ∧ _ ∧ _ ∧ _ ∧ Below _ _ _›; refine sSlotsOf_calls.mono ?_; rintro e w' ⟨rfl, b⟩; have hS' := keep8 hh b)
      | (go_at_call 22; have hh := ‹_ ∧ _ ∧ _ ∧ _ ∧ _ ∧ _ ∧ _ ∧ _ ∧ Below _ _ _›; refine sPagesOf_calls.mono ?_; rintro e w' ⟨rfl, b⟩; have hS' := keep8 hh b)
      | (go_at_call 23; have hh := ‹_ ∧ _ ∧ _ ∧ _ ∧ _ ∧ _ ∧ _ ∧ _ ∧ Below _ _ _›; refine stepsOf_calls.mono ?_; rintro e w' ⟨rfl, b⟩; have hS' := keep8 hh b)
      | (go_at_call 24; have hh := ‹_ ∧ _ ∧ _ ∧ _ ∧ _ ∧ _ ∧ _ ∧ _ ∧ Below _ _ _›; refine sStepsOf_calls.mono ?_; rintro e w' ⟨rfl, b⟩; have hS' := keep8 hh b))
  obtain ⟨_, _, _, _, _, _, _, _, kb⟩ := ‹_ ∧ _ ∧ _ ∧ _ ∧ _ ∧ _ ∧ _ ∧ _ ∧ Below W.heap.size W _›
  obtain ⟨V, hV⟩ : ∃ V, V = w' := ⟨_, rfl⟩
  rw [← hV] at kb ⊢
  have R1 := R1.below kb
  have R2 := R2.below kb
  have R3 := R3.below kb
  have R4 := R4.below kb
  have B := B.trans (kb.mono B.size)
  clear hV k1 k2 k3 k4 k5 k6 k7 k8 kB b hS' kb hh
  have k1 := R1.cell 0
  have k2 := R1.cell 1
  have k3 := R2.cell 0
  have k4 := R2.cell 1
  have k5 := R3.cell 0
  have k6 := R3.cell 1
  have k7 := R4.cell 0
  have k8 := R4.cell 1
  simp at k1 k2 k3 k4 k5 k6 k7 k8
  clear R1 R2 R3 R4
  rcases size_cases k with ⟨x, y, e1, e2, hxy⟩ | ⟨z, e1, e2⟩
  all_goals rw [e1] at k3 k4
  all_goals rw [e2] at k5 k6
  all_goals clear e1 e2
  all_goals rcases pages_cases m with ⟨u, e3, u0, u1, u2, u3⟩ | e3
  all_goals rw [e3] at k7 k8
  all_goals clear e3
  all_goals rcases class_cases s with ⟨v, e4, e5, v0⟩ | ⟨i, v, v', e4, i0, i1, e5, v0, e6, v1⟩ | e4
  all_goals rw [e4] at k1 k2
  all_goals clear e4
  all_goals simp only at k1 k2 k3 k4 k5 k6 k7 k8
  · have h5 := Lib.hid e5
    have hv : (decide (v ≥ s)) = true := by simpa using v0
    have fl1 := run_field_P1
    clear e5
    go_wp2_with fail
    refine sizeOf3_calls.mono ?_
    rw [h5.out]
    rintro e w1' ⟨rfl, b⟩
    have q1 := (b.cell (World.block_lt_of_cell? _ _ k1)).trans k1
    have q2 := (b.cell (World.block_lt_of_cell? _ _ k2)).trans k2
    have B := B.trans (b.mono B.size)
    clear b
    go_wp2_with fail
    go_ret
    exact ⟨rfl, B⟩
  · have h5 := Lib.hid e5
    have h6 := Lib.hid e6
    have i2 : (i == 0) = false := by simp; omega
    have hv : (decide (v ≥ s)) = true := by simpa using v0
    have fl1 := run_field_P1
    clear e5 e6
    go_wp2_with fail
    refine sizeOf3_calls.mono ?_
    rw [h5.out]
    rintro e w1' ⟨rfl, b⟩
    have q1 := (b.cell (World.block_lt_of_cell? _ _ k1)).trans k1
    have q2 := (b.cell (World.block_lt_of_cell? _ _ k2)).trans k2
    have B := B.trans (b.mono B.size)
    clear b
    go_wp2_with fail
    refine sizeOf3_calls.mono ?_
    rw [h6.out]
    rintro e w2' ⟨rfl, b⟩
    have B := B.trans (b.mono B.size)
    clear b
    go_wp2_with fail
    go_ret
    exact ⟨rfl, B⟩
  · go_wp2_with fail
    go_ret
    exact ⟨rfl, B⟩
  · have h5 := Lib.hid e5
    have hv : (decide (v ≥ s)) = true := by simpa using v0
    have fl1 := run_field_P1
    clear e5
    go_wp2_with fail
    refine sizeOf3_calls.mono ?_
    rw [h5.out]
    rintro e w1' ⟨rfl, b⟩
    have q1 := (b.cell (World.block_lt_of_cell? _ _ k1)).trans k1
    have q2 := (b.cell (World.block_lt_of_cell? _ _ k2)).trans k2
    have B := B.trans (b.mono B.size)
    clear b
    go_wp2_with fail
    go_ret
    exact ⟨rfl, B⟩
  · have h5 := Lib.hid e5
    have h6 := Lib.hid e6
    have i2 : (i == 0) = false := by simp; omega
    have hv : (decide (v ≥ s)) = true := by simpa using v0
    have fl1 := run_field_P1
    clear e5 e6
    go_wp2_with fail
    refine sizeOf3_calls.mono ?_
    rw [h5.out]
    rintro e w1' ⟨rfl, b⟩
    have q1 := (b.cell (World.block_lt_of_cell? _ _ k1)).trans k1
    have q2 := (b.cell (World.block_lt_of_cell? _ _ k2)).trans k2
    have B := B.trans (b.mono B.size)
    clear b
    go_wp2_with fail
    refine sizeOf3_calls.mono ?_
    rw [h6.out]
    rintro e w2' ⟨rfl, b⟩
    have B := B.trans (b.mono B.size)
    clear b
    go_wp2_with fail
    go_ret
    exact ⟨rfl, B⟩
  · go_wp2_with fail
    go_ret
    exact ⟨rfl, B⟩
  · have h5 := Lib.hid e5
    have hv : (decide (v ≥ s)) = true := by simpa using v0
    have fl1 := run_field_P1
    clear e5
    go_wp2_with fail
    refine sizeOf3_calls.mono ?_
    rw [h5.out]
    rintro e w1' ⟨rfl, b⟩
    have q1 := (b.cell (World.block_lt_of_cell? _ _ k1)).trans k1
    have q2 := (b.cell (World.block_lt_of_cell? _ _ k2)).trans k2
    have B := B.trans (b.mono B.size)
    clear b
    go_wp2_with fail
    go_ret
    exact ⟨rfl, B⟩
  · have h5 := Lib.hid e5
    have h6 := Lib.hid e6
    have i2 : (i == 0) = false := by simp; omega
    have hv : (decide (v ≥ s)) = true := by simpa using v0
    have fl1 := run_field_P1
    clear e5 e6
    go_wp2_with fail
    refine sizeOf3_calls.mono ?_
    rw [h5.out]
    rintro e w1' ⟨rfl, b⟩
    have q1 := (b.cell (World.block_lt_of_cell? _ _ k1)).trans k1
    have q2 := (b.cell (World.block_lt_of_cell? _ _ k2)).trans k2
    have B := B.trans (b.mono B.size)
    clear b
    go_wp2_with fail
    refine sizeOf3_calls.mono ?_
    rw [h6.out]
    rintro e w2' ⟨rfl, b⟩
    have B := B.trans (b.mono B.size)
    clear b
    go_wp2_with fail
    go_ret
    exact ⟨rfl, B⟩
  · go_wp2_with fail
    go_ret
    exact ⟨rfl, B⟩
  · have h5 := Lib.hid e5
    have hv : (decide (v ≥ s)) = true := by simpa using v0
    have fl1 := run_field_P1
    clear e5
    go_wp2_with fail
    refine sizeOf3_calls.mono ?_
    rw [h5.out]
    rintro e w1' ⟨rfl, b⟩
    have q1 := (b.cell (World.block_lt_of_cell? _ _ k1)).trans k1
    have q2 := (b.cell (World.block_lt_of_cell? _ _ k2)).trans k2
    have B := B.trans (b.mono B.size)
    clear b
    go_wp2_with fail
    go_ret
    exact ⟨rfl, B⟩
  · have h5 := Lib.hid e5
    have h6 := Lib.hid e6
    have i2 : (i == 0) = false := by simp; omega
    have hv : (decide (v ≥ s)) = true := by simpa using v0
    have fl1 := run_field_P1
    clear e5 e6
    go_wp2_with fail
    refine sizeOf3_calls.mono ?_
    rw [h5.out]
    rintro e w1' ⟨rfl, b⟩
    have q1 := (b.cell (World.block_lt_of_cell? _ _ k1)).trans k1
    have q2 := (b.cell (World.block_lt_of_cell? _ _ k2)).trans k2
    have B := B.trans (b.mono B.size)
    clear b
    go_wp2_with fail
    refine sizeOf3_calls.mono ?_
    rw [h6.out]
    rintro e w2' ⟨rfl, b⟩
    have B := B.trans (b.mono B.size)
    clear b
    go_wp2_with fail
    go_ret
    exact ⟨rfl, B⟩
  · go_wp2_with fail
    go_ret
    exact ⟨rfl, B⟩
end Go.Proofs.Ytjbihaijfdgipaa
