/- The law of 'ZeroFrame' answers true at every argument and writes nothing that was there. -/
import Derived.Test.YtfhdcbahgddlhaaImpl1c
import Derived.Test.YtfhdcbahgddlhaaSpec1b
namespace Go.Proofs.Ytfhdcbahgddlhaa
open Go.RowKit

set_option maxHeartbeats 2000000 in
set_option maxRecDepth 100000 in
theorem lawZeroFrame {a0 : Option Addr} {n0 c0 : Nat} {z0 : List Int} {a1 : Int} {w : World} (h0 : Ints w a0 n0 z0) :
    Calls Try.prog 8 #[.slice a0 n0 c0, .int .i64 a1] w fun e w' => e = .returned (.bool true) ∧ Below w.heap.size w w' := by
  by_cases hbig0 : n0 ≤ 1048576
  rotate_left
  · go_enter Try.func8, Try.ntmps8
    go_wp2
    go_ret
    exact ⟨rfl, Below.refl _ _⟩
  go_enter Try.func8, Try.ntmps8
  go_wp2_with fail
  refine (to_calls h0 (by omega)).mono ?_
  rintro e w1 ⟨v1, rfl, o1, b1⟩
  have s1 := b1.size
  have B := b1
  obtain ⟨ao1, c1', rfl, hc1, _, _⟩ := o1.shape
  have O1 := o1.in_
  clear o1 b1
  go_wp2_with fail
  refine (sZeroFrame_calls O1.ints (by omega)).mono ?_
  rintro e w2 ⟨v2, m2, rfl, o2, b2⟩
  have O1 := O1.below b2
  have s2 := b2.size
  have B := B.trans (b2.mono B.size)
  obtain ⟨ao2, c2', rfl, _, _, _⟩ := o2.shape
  have hm2 : m2 ≤ 640 := by have := o2.in_.lohi; have := zeroFrame_small z0 a1; omega
  have O2 := o2.in_
  clear o2 b2
  go_wp2_with fail
  refine (to_calls (h0.below (B.alloc B.size _)) (by omega)).mono ?_
  rintro e w3 ⟨v3, rfl, o3, b3⟩
  have b3' := below_past b3
  have R2 := Row.new b3
  have O2 := O2.below b3'
  have s3 : w2.heap.size + 1 ≤ w3.heap.size := by have := b3.size; simp at this; omega
  have B := B.trans (b3'.mono B.size)
  obtain ⟨ao3, c3', rfl, hc3, _, _⟩ := o3.shape
  have O3 := (o3.base (B' := w2.heap.size + 1) (by simp)).in_
  clear o3 b3
  go_wp2_with fail
  refine (zeroFrame_calls O3.ints (by omega)).mono ?_
  rintro e w4 ⟨v4, m4, rfl, o4, b4⟩
  have O2 := O2.below b4
  have R2 := R2.below b4
  have O3 := O3.below b4
  have s4 := b4.size
  have B := B.trans (b4.mono B.size)
  obtain ⟨ao4, c4', rfl, _, _, _⟩ := o4.shape
  have hm4 : m4 ≤ 640 := by have := o4.in_.lohi; have := zeroFrame_small z0 a1; omega
  have O4 := o4.in_
  clear o4 b4
  have R2l := R2.lt
  have R20 := R2.cell 0
  have R21 := R2.cell 1
  simp at R20 R21
  go_wp2_with fail
  refine (eqR_calls (O4.ints.alloc _) (O2.ints.alloc _) (by omega)).mono ?_
  rintro e w5 ⟨rfl, b5⟩
  have b5' := below_past b5
  have R4 := Row.new b5
  have O2 := O2.below b5'
  have R2 := R2.below b5'
  have O3 := O3.below b5'
  have O4 := O4.below b5'
  have s5 : w4.heap.size + 1 ≤ w5.heap.size := by have := b5.size; simp at this; omega
  have B := B.trans (b5'.mono B.size)
  clear b5
  clear R2l R20 R21
  have R2l := R2.lt
  have R20 := R2.cell 0
  have R21 := R2.cell 1
  simp at R20 R21
  have R4l := R4.lt
  have R40 := R4.cell 0
  have R41 := R4.cell 1
  simp at R40 R41
  go_wp2_with fail
  refine (to_calls (h0.below B) (by omega)).mono ?_
  rintro e w6 ⟨v6, rfl, o6, b6⟩
  have O2 := O2.below b6
  have R2 := R2.below b6
  have O3 := O3.below b6
  have O4 := O4.below b6
  have R4 := R4.below b6
  have s6 := b6.size
  have B := B.trans (b6.mono B.size)
  obtain ⟨ao6, c6', rfl, hc6, _, _⟩ := o6.shape
  have O6 := o6.in_
  clear o6 b6
  clear R2l R20 R21
  clear R4l R40 R41
  go_wp2_with fail
  refine (eq_calls O3.ints O6.ints (by omega)).mono ?_
  rintro e w7 ⟨rfl, b7⟩
  have O2 := O2.below b7
  have R2 := R2.below b7
  have O3 := O3.below b7
  have O4 := O4.below b7
  have R4 := R4.below b7
  have O6 := O6.below b7
  have s7 := b7.size
  have B := B.trans (b7.mono B.size)
  go_wp2_with fail
  refine (mark_calls O3 (by omega) (by omega) (by omega)).mono ?_
  rintro e w8 ⟨rfl, o8, b8⟩
  have O2 := O2.touch b8 (by omega)
  have R2 := R2.touch b8 (by omega)
  have O4 := O4.touch b8 (by omega)
  have R4 := R4.touch b8 (by omega)
  have s8 := b8.size
  have B := b8.below B (by omega) (Nat.le_refl _)
  clear o8 b8
  have R2l := R2.lt
  have R20 := R2.cell 0
  have R21 := R2.cell 1
  simp at R20 R21
  have R4l := R4.lt
  have R40 := R4.cell 0
  have R41 := R4.cell 1
  simp at R40 R41
  go_wp2_with fail
  refine (eqR_calls O4.ints O2.ints (by omega)).mono ?_
  rintro e w9 ⟨rfl, b9⟩
  have O2 := O2.below b9
  have R2 := R2.below b9
  have O4 := O4.below b9
  have R4 := R4.below b9
  have s9 := b9.size
  have B := B.trans (b9.mono B.size)
  clear b9
  clear R2l R20 R21
  clear R4l R40 R41
  have R2l := R2.lt
  have R20 := R2.cell 0
  have R21 := R2.cell 1
  simp at R20 R21
  have R4l := R4.lt
  have R40 := R4.cell 0
  have R41 := R4.cell 1
  simp at R40 R41
  go_wp2_with fail
  refine (markR_calls O4 (by omega) (by omega) (by omega)).mono ?_
  rintro e w10 ⟨rfl, o10, b10⟩
  have O2 := O2.touch b10 (by omega)
  have R2 := R2.touch b10 (by omega)
  have R4 := R4.touch b10 (by omega)
  have s10 := b10.size
  have B := b10.below B (by omega) (Nat.le_refl _)
  clear R2l R20 R21
  clear R4l R40 R41
  have O4 := o10
  clear o10 b10
  have hqm : ((1 : Int) + (m4 : Int) != 1 + m4) = false := by simp
  have R2l := R2.lt
  have R20 := R2.cell 0
  have R21 := R2.cell 1
  simp at R20 R21
  have R4l := R4.lt
  have R40 := R4.cell 0
  have R41 := R4.cell 1
  simp at R40 R41
  go_wp2_with fail
  refine (heldR_calls O4.ints (by omega) (by omega) (by omega)).mono ?_
  rintro e w11 ⟨rfl, b11⟩
  have O2 := O2.below b11
  have R2 := R2.below b11
  have O4 := O4.below b11
  have R4 := R4.below b11
  have s11 := b11.size
  have B := B.trans (b11.mono B.size)
  clear R2l R20 R21
  clear R4l R40 R41
  have R2l := R2.lt
  have R20 := R2.cell 0
  have R21 := R2.cell 1
  simp at R20 R21
  have R4l := R4.lt
  have R40 := R4.cell 0
  have R41 := R4.cell 1
  simp at R40 R41
  go_wp2_with fail
  refine (to_calls (h0.below B) (by omega)).mono ?_
  rintro e w12 ⟨v12, rfl, o12, b12⟩
  have O2 := O2.below b12
  have R2 := R2.below b12
  have O4 := O4.below b12
  have R4 := R4.below b12
  have s12 := b12.size
  have B := B.trans (b12.mono B.size)
  obtain ⟨ao12, c12', rfl, hc12, _, _⟩ := o12.shape
  have O12 := o12.in_
  clear o12 b12
  go_wp2_with fail
  refine (zeroFrame_calls O12.ints (by omega)).mono ?_
  rintro e w13 ⟨v13, m13, rfl, o13, b13⟩
  have O2 := O2.below b13
  have R2 := R2.below b13
  have O4 := O4.below b13
  have R4 := R4.below b13
  have O12 := O12.below b13
  have s13 := b13.size
  have B := B.trans (b13.mono B.size)
  obtain ⟨ao13, c13', rfl, _, _, _⟩ := o13.shape
  have hm13 : m13 ≤ 640 := by have := o13.in_.lohi; have := zeroFrame_small z0 a1; omega
  have O13 := o13.in_
  clear o13 b13
  clear R2l R20 R21
  clear R4l R40 R41
  have R2l := R2.lt
  have R20 := R2.cell 0
  have R21 := R2.cell 1
  simp at R20 R21
  have R4l := R4.lt
  have R40 := R4.cell 0
  have R41 := R4.cell 1
  simp at R40 R41
  go_wp2_with fail
  refine (eqR_calls (O13.ints.alloc _) (O2.ints.alloc _) (by omega)).mono ?_
  rintro e w14 ⟨rfl, b14⟩
  have b14' := below_past b14
  have R13 := Row.new b14
  have O2 := O2.below b14'
  have R2 := R2.below b14'
  have O4 := O4.below b14'
  have R4 := R4.below b14'
  have O12 := O12.below b14'
  have O13 := O13.below b14'
  have s14 : w13.heap.size + 1 ≤ w14.heap.size := by have := b14.size; simp at this; omega
  have B := B.trans (b14'.mono B.size)
  clear b14
  clear R2l R20 R21
  clear R4l R40 R41
  have R2l := R2.lt
  have R20 := R2.cell 0
  have R21 := R2.cell 1
  simp at R20 R21
  have R4l := R4.lt
  have R40 := R4.cell 0
  have R41 := R4.cell 1
  simp at R40 R41
  go_wp2_with fail
  refine (heldR_calls O4.ints (by omega) (by omega) (by omega)).mono ?_
  rintro e w15 ⟨rfl, b15⟩
  have O2 := O2.below b15
  have R2 := R2.below b15
  have O4 := O4.below b15
  have R4 := R4.below b15
  have O12 := O12.below b15
  have O13 := O13.below b15
  have s15 := b15.size
  have B := B.trans (b15.mono B.size)
  go_wp2_with fail
  go_ret
  exact ⟨rfl, B⟩
end Go.Proofs.Ytfhdcbahgddlhaa
