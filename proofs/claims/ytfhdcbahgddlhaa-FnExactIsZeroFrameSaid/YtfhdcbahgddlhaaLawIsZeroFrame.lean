/- The law of 'IsZeroFrame' answers true at every argument and writes nothing that was there. -/
import Derived.Test.YtfhdcbahgddlhaaImpl1c
import Derived.Test.YtfhdcbahgddlhaaSpec1b
namespace Go.Proofs.Ytfhdcbahgddlhaa
open Go.RowKit

set_option maxHeartbeats 2000000 in
set_option maxRecDepth 100000 in
theorem lawIsZeroFrame {a0 : Option Addr} {n0 c0 : Nat} {z0 : List Int} {a1 : Int} {w : World} (h0 : Ints w a0 n0 z0) :
    Calls Try.prog 9 #[.slice a0 n0 c0, .int .i64 a1] w fun e w' => e = .returned (.bool true) ∧ Below w.heap.size w w' := by
  by_cases hbig0 : n0 ≤ 1048576
  rotate_left
  · go_enter Try.func9, Try.ntmps9
    go_wp2
    go_ret
    exact ⟨rfl, Below.refl _ _⟩
  have hsame : ((isZeroFrame z0 a1) != (isZeroFrame z0 a1)) = false := by simp
  go_enter Try.func9, Try.ntmps9
  go_wp2_with fail
  refine (to_calls h0 (by omega)).mono ?_
  rintro e w1 ⟨v1, rfl, o1, b1⟩
  have s1 := b1.size
  have B := b1
  obtain ⟨ao1, c1', rfl, hc1, _, _⟩ := o1.shape
  have O1 := o1.in_
  clear o1 b1
  go_wp2_with fail
  refine (sIsZeroFrame_calls O1.ints hc1 (by omega)).mono ?_
  rintro e w2 ⟨rfl, b2⟩
  have O1 := O1.below b2
  have s2 := b2.size
  have B := B.trans (b2.mono B.size)
  clear b2
  go_wp2_with fail
  refine (to_calls (h0.below B) (by omega)).mono ?_
  rintro e w3 ⟨v3, rfl, o3, b3⟩
  have s3 := b3.size
  have B := B.trans (b3.mono B.size)
  obtain ⟨ao3, c3', rfl, hc3, _, _⟩ := o3.shape
  have O3 := o3.in_
  clear o3 b3
  go_wp2_with fail
  refine (isZeroFrame_calls O3.ints hc3 (by omega)).mono ?_
  rintro e w4 ⟨rfl, b4⟩
  have O3 := O3.below b4
  have s4 := b4.size
  have B := B.trans (b4.mono B.size)
  clear b4
  go_wp2_with fail
  refine (to_calls (h0.below B) (by omega)).mono ?_
  rintro e w5 ⟨v5, rfl, o5, b5⟩
  have O3 := O3.below b5
  have s5 := b5.size
  have B := B.trans (b5.mono B.size)
  obtain ⟨ao5, c5', rfl, hc5, _, _⟩ := o5.shape
  have O5 := o5.in_
  clear o5 b5
  go_wp2_with fail
  refine (eq_calls O3.ints O5.ints (by omega)).mono ?_
  rintro e w6 ⟨rfl, b6⟩
  have O3 := O3.below b6
  have O5 := O5.below b6
  have s6 := b6.size
  have B := B.trans (b6.mono B.size)
  go_wp2_with fail
  go_ret
  exact ⟨rfl, B⟩
end Go.Proofs.Ytfhdcbahgddlhaa
