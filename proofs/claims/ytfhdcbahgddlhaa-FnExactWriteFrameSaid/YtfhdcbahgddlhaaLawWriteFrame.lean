/- The law of 'WriteFrame' answers true at every argument and writes nothing that was there. -/
import Derived.Test.YtfhdcbahgddlhaaImpl1c
import Derived.Test.YtfhdcbahgddlhaaSpec1b
namespace Go.Proofs.Ytfhdcbahgddlhaa
open Go.RowKit

set_option maxHeartbeats 2000000 in
set_option maxRecDepth 100000 in
theorem lawWriteFrame {a0 : Option Addr} {n0 c0 : Nat} {z0 : List Int} {a1 : Int} {a2 : Option Addr} {n2 c2 : Nat} {z2 : List Int} {w : World} (h0 : Ints w a0 n0 z0) (h2 : Ints w a2 n2 z2) :
    Calls Try.prog 7 #[.slice a0 n0 c0, .int .i64 a1, .slice a2 n2 c2] w fun e w' => e = .returned (.bool true) ∧ Below w.heap.size w w' := by
  by_cases hbig0 : n0 ≤ 1048576
  rotate_left
  · go_enter Try.func7, Try.ntmps7
    go_wp2
    go_ret
    exact ⟨rfl, Below.refl _ _⟩
  by_cases hbig2 : n2 ≤ 1048576
  rotate_left
  · go_enter Try.func7, Try.ntmps7
    go_wp2
    go_ret
    exact ⟨rfl, Below.refl _ _⟩
  go_enter Try.func7, Try.ntmps7
  go_wp2_with fail
  refine (to_calls h0 (by omega)).mono ?_
  rintro e w1 ⟨v1, rfl, o1, b1⟩
  have s1 := b1.size
  have B := b1
  obtain ⟨ao1, c1', rfl, hc1, _, _⟩ := o1.shape
  have O1 := o1.in_
  clear o1 b1
  go_wp2_with fail
  refine (to_calls (h2.below B) (by omega)).mono ?_
  rintro e w2 ⟨v2, rfl, o2, b2⟩
  have O1 := O1.below b2
  have s2 := b2.size
  have B := B.trans (b2.mono B.size)
  obtain ⟨ao2, c2', rfl, hc2, _, _⟩ := o2.shape
  have O2 := o2.in_
  clear o2 b2
  go_wp2_with fail
  refine (sWriteFrame_calls O1.ints O2.ints (by omega) (by omega)).mono ?_
  rintro e w3 ⟨v3, m3, rfl, o3, b3⟩
  have O1 := O1.below b3
  have O2 := O2.below b3
  have s3 := b3.size
  have B := B.trans (b3.mono B.size)
  obtain ⟨ao3, c3', rfl, _, _, _⟩ := o3.shape
  have hm3 : m3 ≤ 640 := by have := o3.in_.lohi; have := writeFrame_small z0 a1 z2; omega
  have O3 := o3.in_
  clear o3 b3
  go_wp2_with fail
  refine (to_calls (h0.below (B.alloc B.size _)) (by omega)).mono ?_
  rintro e w4 ⟨v4, rfl, o4, b4⟩
  have b4' := below_past b4
  have R3 := Row.new b4
  have O3 := O3.below b4'
  have s4 : w3.heap.size + 1 ≤ w4.heap.size := by have := b4.size; simp at this; omega
  have B := B.trans (b4'.mono B.size)
  obtain ⟨ao4, c4', rfl, hc4, _, _⟩ := o4.shape
  have O4 := (o4.base (B' := w3.heap.size + 1) (by simp)).in_
  clear o4 b4
  go_wp2_with fail
  refine (to_calls (h2.below B) (by omega)).mono ?_
  rintro e w5 ⟨v5, rfl, o5, b5⟩
  have O3 := O3.below b5
  have R3 := R3.below b5
  have O4 := O4.below b5
  have s5 := b5.size
  have B := B.trans (b5.mono B.size)
  obtain ⟨ao5, c5', rfl, hc5, _, _⟩ := o5.shape
  have O5 := o5.in_
  clear o5 b5
  go_wp2_with fail
  refine (writeFrame_calls O4.ints O5.ints (by omega) (by omega)).mono ?_
  rintro e w6 ⟨v6, m6, rfl, o6, b6⟩
  have O3 := O3.below b6
  have R3 := R3.below b6
  have O4 := O4.below b6
  have O5 := O5.below b6
  have s6 := b6.size
  have B := B.trans (b6.mono B.size)
  obtain ⟨ao6, c6', rfl, _, _, _⟩ := o6.shape
  have hm6 : m6 ≤ 640 := by have := o6.in_.lohi; have := writeFrame_small z0 a1 z2; omega
  have O6 := o6.in_
  clear o6 b6
  have R3l := R3.lt
  have R30 := R3.cell 0
  have R31 := R3.cell 1
  simp at R30 R31
  go_wp2_with fail
  refine (eqR_calls (O6.ints.alloc _) (O3.ints.alloc _) (by omega)).mono ?_
  rintro e w7 ⟨rfl, b7⟩
  have b7' := below_past b7
  have R6 := Row.new b7
  have O3 := O3.below b7'
  have R3 := R3.below b7'
  have O4 := O4.below b7'
  have O5 := O5.below b7'
  have O6 := O6.below b7'
  have s7 : w6.heap.size + 1 ≤ w7.heap.size := by have := b7.size; simp at this; omega
  have B := B.trans (b7'.mono B.size)
  clear b7
  clear R3l R30 R31
  have R3l := R3.lt
  have R30 := R3.cell 0
  have R31 := R3.cell 1
  simp at R30 R31
  have R6l := R6.lt
  have R60 := R6.cell 0
  have R61 := R6.cell 1
  simp at R60 R61
  go_wp2_with fail
  refine (to_calls (h0.below B) (by omega)).mono ?_
  rintro e w8 ⟨v8, rfl, o8, b8⟩
  have O3 := O3.below b8
  have R3 := R3.below b8
  have O4 := O4.below b8
  have O5 := O5.below b8
  have O6 := O6.below b8
  have R6 := R6.below b8
  have s8 := b8.size
  have B := B.trans (b8.mono B.size)
  obtain ⟨ao8, c8', rfl, hc8, _, _⟩ := o8.shape
  have O8 := o8.in_
  clear o8 b8
  clear R3l R30 R31
  clear R6l R60 R61
  go_wp2_with fail
  refine (eq_calls O4.ints O8.ints (by omega)).mono ?_
  rintro e w9 ⟨rfl, b9⟩
  have O3 := O3.below b9
  have R3 := R3.below b9
  have O4 := O4.below b9
  have O5 := O5.below b9
  have O6 := O6.below b9
  have R6 := R6.below b9
  have O8 := O8.below b9
  have s9 := b9.size
  have B := B.trans (b9.mono B.size)
  have R3l := R3.lt
  have R30 := R3.cell 0
  have R31 := R3.cell 1
  simp at R30 R31
  have R6l := R6.lt
  have R60 := R6.cell 0
  have R61 := R6.cell 1
  simp at R60 R61
  go_wp2_with fail
  refine (to_calls (h2.below B) (by omega)).mono ?_
  rintro e w10 ⟨v10, rfl, o10, b10⟩
  have O3 := O3.below b10
  have R3 := R3.below b10
  have O4 := O4.below b10
  have O5 := O5.below b10
  have O6 := O6.below b10
  have R6 := R6.below b10
  have s10 := b10.size
  have B := B.trans (b10.mono B.size)
  obtain ⟨ao10, c10', rfl, hc10, _, _⟩ := o10.shape
  have O10 := o10.in_
  clear o10 b10
  clear R3l R30 R31
  clear R6l R60 R61
  go_wp2_with fail
  refine (eq_calls O5.ints O10.ints (by omega)).mono ?_
  rintro e w11 ⟨rfl, b11⟩
  have O3 := O3.below b11
  have R3 := R3.below b11
  have O4 := O4.below b11
  have O5 := O5.below b11
  have O6 := O6.below b11
  have R6 := R6.below b11
  have O10 := O10.below b11
  have s11 := b11.size
  have B := B.trans (b11.mono B.size)
  go_wp2_with fail
  refine (mark_calls O4 (by omega) (by omega) (by omega)).mono ?_
  rintro e w12 ⟨rfl, o12, b12⟩
  have O3 := O3.touch b12 (by omega)
  have R3 := R3.touch b12 (by omega)
  have O5 := O5.touch b12 (by omega)
  have O6 := O6.touch b12 (by omega)
  have R6 := R6.touch b12 (by omega)
  have s12 := b12.size
  have B := b12.below B (by omega) (Nat.le_refl _)
  clear o12 b12
  go_wp2_with fail
  refine (mark_calls O5 (by omega) (by omega) (by omega)).mono ?_
  rintro e w13 ⟨rfl, o13, b13⟩
  have O3 := O3.touch b13 (by omega)
  have R3 := R3.touch b13 (by omega)
  have O6 := O6.touch b13 (by omega)
  have R6 := R6.touch b13 (by omega)
  have s13 := b13.size
  have B := b13.below B (by omega) (Nat.le_refl _)
  clear o13 b13
  have R3l := R3.lt
  have R30 := R3.cell 0
  have R31 := R3.cell 1
  simp at R30 R31
  have R6l := R6.lt
  have R60 := R6.cell 0
  have R61 := R6.cell 1
  simp at R60 R61
  go_wp2_with fail
  refine (eqR_calls O6.ints O3.ints (by omega)).mono ?_
  rintro e w14 ⟨rfl, b14⟩
  have O3 := O3.below b14
  have R3 := R3.below b14
  have O6 := O6.below b14
  have R6 := R6.below b14
  have s14 := b14.size
  have B := B.trans (b14.mono B.size)
  clear b14
  clear R3l R30 R31
  clear R6l R60 R61
  have R3l := R3.lt
  have R30 := R3.cell 0
  have R31 := R3.cell 1
  simp at R30 R31
  have R6l := R6.lt
  have R60 := R6.cell 0
  have R61 := R6.cell 1
  simp at R60 R61
  go_wp2_with fail
  refine (markR_calls O6 (by omega) (by omega) (by omega)).mono ?_
  rintro e w15 ⟨rfl, o15, b15⟩
  have O3 := O3.touch b15 (by omega)
  have R3 := R3.touch b15 (by omega)
  have R6 := R6.touch b15 (by omega)
  have s15 := b15.size
  have B := b15.below B (by omega) (Nat.le_refl _)
  clear R3l R30 R31
  clear R6l R60 R61
  have O6 := o15
  clear o15 b15
  have hqm : ((1 : Int) + (m6 : Int) != 1 + m6) = false := by simp
  have R3l := R3.lt
  have R30 := R3.cell 0
  have R31 := R3.cell 1
  simp at R30 R31
  have R6l := R6.lt
  have R60 := R6.cell 0
  have R61 := R6.cell 1
  simp at R60 R61
  go_wp2_with fail
  refine (heldR_calls O6.ints (by omega) (by omega) (by omega)).mono ?_
  rintro e w16 ⟨rfl, b16⟩
  have O3 := O3.below b16
  have R3 := R3.below b16
  have O6 := O6.below b16
  have R6 := R6.below b16
  have s16 := b16.size
  have B := B.trans (b16.mono B.size)
  clear R3l R30 R31
  clear R6l R60 R61
  have R3l := R3.lt
  have R30 := R3.cell 0
  have R31 := R3.cell 1
  simp at R30 R31
  have R6l := R6.lt
  have R60 := R6.cell 0
  have R61 := R6.cell 1
  simp at R60 R61
  go_wp2_with fail
  refine (to_calls (h0.below B) (by omega)).mono ?_
  rintro e w17 ⟨v17, rfl, o17, b17⟩
  have O3 := O3.below b17
  have R3 := R3.below b17
  have O6 := O6.below b17
  have R6 := R6.below b17
  have s17 := b17.size
  have B := B.trans (b17.mono B.size)
  obtain ⟨ao17, c17', rfl, hc17, _, _⟩ := o17.shape
  have O17 := o17.in_
  clear o17 b17
  go_wp2_with fail
  refine (to_calls (h2.below B) (by omega)).mono ?_
  rintro e w18 ⟨v18, rfl, o18, b18⟩
  have O3 := O3.below b18
  have R3 := R3.below b18
  have O6 := O6.below b18
  have R6 := R6.below b18
  have O17 := O17.below b18
  have s18 := b18.size
  have B := B.trans (b18.mono B.size)
  obtain ⟨ao18, c18', rfl, hc18, _, _⟩ := o18.shape
  have O18 := o18.in_
  clear o18 b18
  go_wp2_with fail
  refine (writeFrame_calls O17.ints O18.ints (by omega) (by omega)).mono ?_
  rintro e w19 ⟨v19, m19, rfl, o19, b19⟩
  have O3 := O3.below b19
  have R3 := R3.below b19
  have O6 := O6.below b19
  have R6 := R6.below b19
  have O17 := O17.below b19
  have O18 := O18.below b19
  have s19 := b19.size
  have B := B.trans (b19.mono B.size)
  obtain ⟨ao19, c19', rfl, _, _, _⟩ := o19.shape
  have hm19 : m19 ≤ 640 := by have := o19.in_.lohi; have := writeFrame_small z0 a1 z2; omega
  have O19 := o19.in_
  clear o19 b19
  clear R3l R30 R31
  clear R6l R60 R61
  have R3l := R3.lt
  have R30 := R3.cell 0
  have R31 := R3.cell 1
  simp at R30 R31
  have R6l := R6.lt
  have R60 := R6.cell 0
  have R61 := R6.cell 1
  simp at R60 R61
  go_wp2_with fail
  refine (eqR_calls (O19.ints.alloc _) (O3.ints.alloc _) (by omega)).mono ?_
  rintro e w20 ⟨rfl, b20⟩
  have b20' := below_past b20
  have R19 := Row.new b20
  have O3 := O3.below b20'
  have R3 := R3.below b20'
  have O6 := O6.below b20'
  have R6 := R6.below b20'
  have O17 := O17.below b20'
  have O18 := O18.below b20'
  have O19 := O19.below b20'
  have s20 : w19.heap.size + 1 ≤ w20.heap.size := by have := b20.size; simp at this; omega
  have B := B.trans (b20'.mono B.size)
  clear b20
  clear R3l R30 R31
  clear R6l R60 R61
  have R3l := R3.lt
  have R30 := R3.cell 0
  have R31 := R3.cell 1
  simp at R30 R31
  have R6l := R6.lt
  have R60 := R6.cell 0
  have R61 := R6.cell 1
  simp at R60 R61
  go_wp2_with fail
  refine (heldR_calls O6.ints (by omega) (by omega) (by omega)).mono ?_
  rintro e w21 ⟨rfl, b21⟩
  have O3 := O3.below b21
  have R3 := R3.below b21
  have O6 := O6.below b21
  have R6 := R6.below b21
  have O17 := O17.below b21
  have O18 := O18.below b21
  have O19 := O19.below b21
  have s21 := b21.size
  have B := B.trans (b21.mono B.size)
  go_wp2_with fail
  go_ret
  exact ⟨rfl, B⟩
end Go.Proofs.Ytfhdcbahgddlhaa
