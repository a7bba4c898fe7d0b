/- The exact laws of chapter 3 answer true at every number. -/
import Derived.Test.YtjbihaijfdgipaaSpec3
import Derived.Test.YtjbihaijfdgipaaImpl3
import Derived.Test.YtjbihaijfdgipaaPair
namespace Go.Proofs.Ytjbihaijfdgipaa
open Go.RowKit

theorem lawClassOf {c : Int} {w : World} : Calls Try.prog 5 #[.int .i64 c] w fun e w' => e = .returned (.bool true) ∧ Below w.heap.size w w' := by
  obtain ⟨⟨p, q⟩, hp⟩ : ∃ p, classOf c = p := ⟨_, rfl⟩
  have HP := Lib.hid hp
  clear hp
  go_enter Try.func5, Try.ntmps5
  go_wp2_with fail
  refine sClassOf_calls.mono ?_
  rw [HP.out]
  rintro e w1 ⟨rfl, B1⟩
  go_wp2_with fail
  refine classOf_calls.mono ?_
  rw [HP.out]
  rintro e w2 ⟨rfl, b2⟩
  have R1 := Row.new b2
  have B2 := B1.trans ((below_past b2).mono B1.size)
  clear b2 B1
  have l1 := R1.lt
  have a0 := R1.cell 0
  have a1 := R1.cell 1
  simp at a0 a1
  go_wp2_with fail
  refine eqPair_calls.mono ?_
  rintro e w3 ⟨rfl, b3⟩
  have B3 := B2.trans ((below_past b3).mono B2.size)
  clear b3 B2
  go_wp2_with fail
  go_ret
  exact ⟨rfl, B3⟩

theorem lawSizeOf {c : Int} {w : World} : Calls Try.prog 6 #[.int .i64 c] w fun e w' => e = .returned (.bool true) ∧ Below w.heap.size w w' := by
  obtain ⟨⟨p, q⟩, hp⟩ : ∃ p, sizeOf3 c = p := ⟨_, rfl⟩
  have HP := Lib.hid hp
  clear hp
  go_enter Try.func6, Try.ntmps6
  go_wp2_with fail
  refine sSizeOf_calls.mono ?_
  rw [HP.out]
  rintro e w1 ⟨rfl, B1⟩
  go_wp2_with fail
  refine sizeOf3_calls.mono ?_
  rw [HP.out]
  rintro e w2 ⟨rfl, b2⟩
  have R1 := Row.new b2
  have B2 := B1.trans ((below_past b2).mono B1.size)
  clear b2 B1
  have l1 := R1.lt
  have a0 := R1.cell 0
  have a1 := R1.cell 1
  simp at a0 a1
  go_wp2_with fail
  refine eqPair_calls.mono ?_
  rintro e w3 ⟨rfl, b3⟩
  have B3 := B2.trans ((below_past b3).mono B2.size)
  clear b3 B2
  go_wp2_with fail
  go_ret
  exact ⟨rfl, B3⟩

theorem lawSlotsOf {c : Int} {w : World} : Calls Try.prog 7 #[.int .i64 c] w fun e w' => e = .returned (.bool true) ∧ Below w.heap.size w w' := by
  obtain ⟨⟨p, q⟩, hp⟩ : ∃ p, slotsOf c = p := ⟨_, rfl⟩
  have HP := Lib.hid hp
  clear hp
  go_enter Try.func7, Try.ntmps7
  go_wp2_with fail
  refine sSlotsOf_calls.mono ?_
  rw [HP.out]
  rintro e w1 ⟨rfl, B1⟩
  go_wp2_with fail
  refine slotsOf_calls.mono ?_
  rw [HP.out]
  rintro e w2 ⟨rfl, b2⟩
  have R1 := Row.new b2
  have B2 := B1.trans ((below_past b2).mono B1.size)
  clear b2 B1
  have l1 := R1.lt
  have a0 := R1.cell 0
  have a1 := R1.cell 1
  simp at a0 a1
  go_wp2_with fail
  refine eqPair_calls.mono ?_
  rintro e w3 ⟨rfl, b3⟩
  have B3 := B2.trans ((below_past b3).mono B2.size)
  clear b3 B2
  go_wp2_with fail
  go_ret
  exact ⟨rfl, B3⟩

theorem lawPagesOf {c : Int} {w : World} : Calls Try.prog 8 #[.int .i64 c] w fun e w' => e = .returned (.bool true) ∧ Below w.heap.size w w' := by
  obtain ⟨⟨p, q⟩, hp⟩ : ∃ p, pagesOf c = p := ⟨_, rfl⟩
  have HP := Lib.hid hp
  clear hp
  go_enter Try.func8, Try.ntmps8
  go_wp2_with fail
  refine sPagesOf_calls.mono ?_
  rw [HP.out]
  rintro e w1 ⟨rfl, B1⟩
  go_wp2_with fail
  refine pagesOf_calls.mono ?_
  rw [HP.out]
  rintro e w2 ⟨rfl, b2⟩
  have R1 := Row.new b2
  have B2 := B1.trans ((below_past b2).mono B1.size)
  clear b2 B1
  have l1 := R1.lt
  have a0 := R1.cell 0
  have a1 := R1.cell 1
  simp at a0 a1
  go_wp2_with fail
  refine eqPair_calls.mono ?_
  rintro e w3 ⟨rfl, b3⟩
  have B3 := B2.trans ((below_past b3).mono B2.size)
  clear b3 B2
  go_wp2_with fail
  go_ret
  exact ⟨rfl, B3⟩

theorem lawStepsOf {c : Int} {w : World} : Calls Try.prog 9 #[.int .i64 c] w fun e w' => e = .returned (.bool true) ∧ Below w.heap.size w w' := by
  obtain ⟨⟨p, q⟩, hp⟩ : ∃ p, stepsOf c = p := ⟨_, rfl⟩
  have HP := Lib.hid hp
  clear hp
  go_enter Try.func9, Try.ntmps9
  go_wp2_with fail
  refine sStepsOf_calls.mono ?_
  rw [HP.out]
  rintro e w1 ⟨rfl, B1⟩
  go_wp2_with fail
  refine stepsOf_calls.mono ?_
  rw [HP.out]
  rintro e w2 ⟨rfl, b2⟩
  have R1 := Row.new b2
  have B2 := B1.trans ((below_past b2).mono B1.size)
  clear b2 B1
  have l1 := R1.lt
  have a0 := R1.cell 0
  have a1 := R1.cell 1
  simp at a0 a1
  go_wp2_with fail
  refine eqPair_calls.mono ?_
  rintro e w3 ⟨rfl, b3⟩
  have B3 := B2.trans ((below_past b3).mono B2.size)
  clear b3 B2
  go_wp2_with fail
  go_ret
  exact ⟨rfl, B3⟩
end Go.Proofs.Ytjbihaijfdgipaa
