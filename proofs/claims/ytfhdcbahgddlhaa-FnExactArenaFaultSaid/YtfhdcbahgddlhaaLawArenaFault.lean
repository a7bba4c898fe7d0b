/- The law of 'ArenaFault' answers true at every argument and writes nothing that was there. -/
import Derived.Test.YtfhdcbahgddlhaaImpl1c
import Derived.Test.YtfhdcbahgddlhaaSpec1b
namespace Go.Proofs.Ytfhdcbahgddlhaa
open Go.RowKit

set_option maxHeartbeats 2000000 in
set_option maxRecDepth 100000 in
theorem lawArenaFault {a0 : Option Addr} {n0 c0 : Nat} {z0 : List Int} {w : World} (h0 : Ints w a0 n0 z0) :
    Calls Try.prog 4 #[.slice a0 n0 c0] w fun e w' => e = .returned (.bool true) ∧ Below w.heap.size w w' := by
  by_cases hbig0 : n0 ≤ 1048576
  rotate_left
  · go_enter Try.func4, Try.ntmps4
    go_wp2
    go_ret
    exact ⟨rfl, Below.refl _ _⟩
  have hsame : ((arenaFault z0) != (arenaFault z0)) = false := by simp
  go_enter Try.func4, Try.ntmps4
  go_wp2_with fail
  refine (to_calls h0 (by omega)).mono ?_
  rintro e w1 ⟨v1, rfl, o1, b1⟩
  have s1 := b1.size
  have B := b1
  obtain ⟨ao1, c1', rfl, hc1, _, _⟩ := o1.shape
  have O1 := o1.in_
  clear o1 b1
  go_wp2_with fail
  refine (sArenaFault_calls O1.ints (by omega)).mono ?_
  rintro e w' ⟨rfl, rfl⟩
  go_wp2_with fail
  refine (to_calls (h0.below B) (by omega)).mono ?_
  rintro e w2 ⟨v2, rfl, o2, b2⟩
  have s2 := b2.size
  have B := B.trans (b2.mono B.size)
  obtain ⟨ao2, c2', rfl, hc2, _, _⟩ := o2.shape
  have O2 := o2.in_
  clear o2 b2
  go_wp2_with fail
  refine (arenaFault_calls O2.ints (by omega)).mono ?_
  rintro e w3 ⟨rfl, b3⟩
  have O2 := O2.below b3
  have s3 := b3.size
  have B := B.trans (b3.mono B.size)
  clear b3
  go_wp2_with fail
  refine (to_calls (h0.below B) (by omega)).mono ?_
  rintro e w4 ⟨v4, rfl, o4, b4⟩
  have O2 := O2.below b4
  have s4 := b4.size
  have B := B.trans (b4.mono B.size)
  obtain ⟨ao4, c4', rfl, hc4, _, _⟩ := o4.shape
  have O4 := o4.in_
  clear o4 b4
  go_wp2_with fail
  refine (eq_calls O2.ints O4.ints (by omega)).mono ?_
  rintro e w5 ⟨rfl, b5⟩
  have O2 := O2.below b5
  have O4 := O4.below b5
  have s5 := b5.size
  have B := B.trans (b5.mono B.size)
  go_wp2_with fail
  go_ret
  exact ⟨rfl, B⟩
end Go.Proofs.Ytfhdcbahgddlhaa
