/- The law of 'NewArena' answers true at every argument and writes nothing that was there. -/
import Derived.Test.YtfhdcbahgddlhaaImpl1c
import Derived.Test.YtfhdcbahgddlhaaSpec1b
namespace Go.Proofs.Ytfhdcbahgddlhaa
open Go.RowKit

set_option maxHeartbeats 2000000 in
set_option maxRecDepth 100000 in
theorem lawNewArena {a0 : Int} {w : World}  :
    Calls Try.prog 5 #[.int .i64 a0] w fun e w' => e = .returned (.bool true) ∧ Below w.heap.size w w' := by
  go_enter Try.func5, Try.ntmps5
  go_wp2_with fail
  refine (sNewArena_calls).mono ?_
  rintro e w1 ⟨v1, m1, rfl, o1, b1⟩
  have s1 := b1.size
  have B := b1
  obtain ⟨ao1, c1', rfl, _, _, _⟩ := o1.shape
  have hm1 : m1 ≤ 640 := by have := o1.in_.lohi; have := newArena_small a0; omega
  have O1 := o1.in_
  clear o1 b1
  go_wp2_with fail
  refine (newArena_calls).mono ?_
  rintro e w2 ⟨v2, m2, rfl, o2, b2⟩
  have b2' := below_past b2
  have R1 := Row.new b2
  have O1 := O1.below b2'
  have s2 : w1.heap.size + 1 ≤ w2.heap.size := by have := b2.size; simp at this; omega
  have B := B.trans (b2'.mono B.size)
  obtain ⟨ao2, c2', rfl, _, _, _⟩ := o2.shape
  have hm2 : m2 ≤ 640 := by have := o2.in_.lohi; have := newArena_small a0; omega
  have O2 := (o2.base (B' := w1.heap.size + 1) (by simp)).in_
  clear o2 b2
  have R1l := R1.lt
  have R10 := R1.cell 0
  have R11 := R1.cell 1
  simp at R10 R11
  go_wp2_with fail
  refine (eqR_calls (O2.ints.alloc _) (O1.ints.alloc _) (by omega)).mono ?_
  rintro e w3 ⟨rfl, b3⟩
  have b3' := below_past b3
  have R2 := Row.new b3
  have O1 := O1.below b3'
  have R1 := R1.below b3'
  have O2 := O2.below b3'
  have s3 : w2.heap.size + 1 ≤ w3.heap.size := by have := b3.size; simp at this; omega
  have B := B.trans (b3'.mono B.size)
  clear b3
  clear R1l R10 R11
  have R1l := R1.lt
  have R10 := R1.cell 0
  have R11 := R1.cell 1
  simp at R10 R11
  have R2l := R2.lt
  have R20 := R2.cell 0
  have R21 := R2.cell 1
  simp at R20 R21
  go_wp2_with fail
  refine (markR_calls O2 (by omega) (by omega) (by omega)).mono ?_
  rintro e w4 ⟨rfl, o4, b4⟩
  have O1 := O1.touch b4 (by omega)
  have R1 := R1.touch b4 (by omega)
  have R2 := R2.touch b4 (by omega)
  have s4 := b4.size
  have B := b4.below B (by omega) (Nat.le_refl _)
  clear R1l R10 R11
  clear R2l R20 R21
  have O2 := o4
  clear o4 b4
  have hqm : ((1 : Int) + (m2 : Int) != 1 + m2) = false := by simp
  have R1l := R1.lt
  have R10 := R1.cell 0
  have R11 := R1.cell 1
  simp at R10 R11
  have R2l := R2.lt
  have R20 := R2.cell 0
  have R21 := R2.cell 1
  simp at R20 R21
  go_wp2_with fail
  refine (heldR_calls O2.ints (by omega) (by omega) (by omega)).mono ?_
  rintro e w5 ⟨rfl, b5⟩
  have O1 := O1.below b5
  have R1 := R1.below b5
  have O2 := O2.below b5
  have R2 := R2.below b5
  have s5 := b5.size
  have B := B.trans (b5.mono B.size)
  clear R1l R10 R11
  clear R2l R20 R21
  have R1l := R1.lt
  have R10 := R1.cell 0
  have R11 := R1.cell 1
  simp at R10 R11
  have R2l := R2.lt
  have R20 := R2.cell 0
  have R21 := R2.cell 1
  simp at R20 R21
  go_wp2_with fail
  refine (newArena_calls).mono ?_
  rintro e w6 ⟨v6, m6, rfl, o6, b6⟩
  have O1 := O1.below b6
  have R1 := R1.below b6
  have O2 := O2.below b6
  have R2 := R2.below b6
  have s6 := b6.size
  have B := B.trans (b6.mono B.size)
  obtain ⟨ao6, c6', rfl, _, _, _⟩ := o6.shape
  have hm6 : m6 ≤ 640 := by have := o6.in_.lohi; have := newArena_small a0; omega
  have O6 := o6.in_
  clear o6 b6
  clear R1l R10 R11
  clear R2l R20 R21
  have R1l := R1.lt
  have R10 := R1.cell 0
  have R11 := R1.cell 1
  simp at R10 R11
  have R2l := R2.lt
  have R20 := R2.cell 0
  have R21 := R2.cell 1
  simp at R20 R21
  go_wp2_with fail
  refine (eqR_calls (O6.ints.alloc _) (O1.ints.alloc _) (by omega)).mono ?_
  rintro e w7 ⟨rfl, b7⟩
  have b7' := below_past b7
  have R6 := Row.new b7
  have O1 := O1.below b7'
  have R1 := R1.below b7'
  have O2 := O2.below b7'
  have R2 := R2.below b7'
  have O6 := O6.below b7'
  have s7 : w6.heap.size + 1 ≤ w7.heap.size := by have := b7.size; simp at this; omega
  have B := B.trans (b7'.mono B.size)
  clear b7
  clear R1l R10 R11
  clear R2l R20 R21
  have R1l := R1.lt
  have R10 := R1.cell 0
  have R11 := R1.cell 1
  simp at R10 R11
  have R2l := R2.lt
  have R20 := R2.cell 0
  have R21 := R2.cell 1
  simp at R20 R21
  go_wp2_with fail
  refine (heldR_calls O2.ints (by omega) (by omega) (by omega)).mono ?_
  rintro e w8 ⟨rfl, b8⟩
  have O1 := O1.below b8
  have R1 := R1.below b8
  have O2 := O2.below b8
  have R2 := R2.below b8
  have O6 := O6.below b8
  have s8 := b8.size
  have B := B.trans (b8.mono B.size)
  go_wp2_with fail
  go_ret
  exact ⟨rfl, B⟩
end Go.Proofs.Ytfhdcbahgddlhaa
