/- The laws of 'ConfigFault', 'ColourOf', 'RoomFor', 'OwnerOf' answer true at every argument and write nothing that was there. -/
import Derived.Test.YtmibekddapnaaaaImpl2d
import Derived.Test.YtmibekddapnaaaaSpec2c
import Derived.Test.YtmibekddapnaaaaHelp2d
namespace Go.Proofs.Ytmibekddapnaaaa
open Go.RowKit

theorem Short.mono {N M : Nat} {ts : List (List Int × Int)} (h : Short N ts) (hNM : N ≤ M) : Short M ts := fun t ht => Nat.le_trans (h t ht) hNM

set_option maxHeartbeats 2000000 in
set_option maxRecDepth 100000 in
theorem lawConfigFault {ao : Option Addr} {n cc : Nat} {F C : Int} {ts : List (List Int × Int)} {w : World} (hT : Tens w ao n ts) (hS : Short 9223372036854775807 ts) (hn : n ≤ 9223372036854775807) :
    Calls Try.prog 4 #[.agg #[.int .i64 F, .int .i64 C, .slice ao n cc]] w fun e w' => e = .returned (.bool true) ∧ Below w.heap.size w w' := by
  have hne : (configFault F C ts != configFault F C ts) = false := by simp
  go_enter Try.func4, Try.ntmps4
  go_wp2_with fail
  refine (szConfig_calls (hT.alloc _) hS hn).mono ?_
  rintro e w1 ⟨rfl | ⟨r, rfl, r0, r1, hn1, hS1⟩, hb1⟩
  · have hb := below_past hb1
    clear hb1
    go_wp2_with fail
    go_ret
    exact ⟨rfl, hb⟩
  have hS2 := hS1.mono (M := 17592186044416) (by omega)
  have HSS := Lib.hid hS1
  have hr : ¬ (r < 0) := by omega
  have RA := Row.new hb1
  have l0 := RA.lt
  have a0 := RA.cell 0
  have a1 := RA.cell 1
  have a2 := RA.cell 2
  simp at a0 a1 a2
  have B1 := below_past hb1
  have T1 := hT.below B1
  clear hb1 hS1
  go_wp2_with fail
  refine (toConfig_calls T1 hS2 hn1).mono ?_
  rintro e w2 ⟨g2, rfl, hg2, hI2, hb2⟩
  have B2 := B1.trans (hb2.mono B1.size)
  have R2 := RA.below hb2
  clear B1 hb2 RA a0 a1 a2 l0 hg2 T1
  go_wp2_with fail
  refine (sConfigFault_calls hI2.tens hS2 (Nat.le_refl _) (by omega)).mono ?_
  rintro e w3 ⟨rfl, hb3⟩
  have B3 := B2.trans (hb3.mono B2.size)
  have R3 := R2.below hb3
  have l0 := R3.lt
  have a0 := R3.cell 0
  have a1 := R3.cell 1
  have a2 := R3.cell 2
  simp at a0 a1 a2
  have T3 := hT.below B3
  clear B2 hb3 R2 hI2
  go_wp2_with fail
  refine (toConfig_calls T3 hS2 hn1).mono ?_
  rintro e w4 ⟨g4, rfl, hg4, hI4, hb4⟩
  have B4 := B3.trans (hb4.mono B3.size)
  have R4 := R3.below hb4
  clear B3 hb4 R3 a0 a1 a2 l0 hg4 T3
  go_wp2_with fail
  refine (configFault_calls (hI4.tens.alloc _) hS2 (Nat.le_refl _) (by omega)).mono ?_
  rintro e w5 ⟨rfl, hb5⟩
  have RX := Row.new hb5
  have B5 := B4.trans ((below_past hb5).mono B4.size)
  have R5 := R4.below (below_past hb5)
  have T5 := hI4.tens.below (below_past hb5)
  clear B4 hb5 R4 hI4
  have x0 := RX.cell 0
  have x1 := RX.cell 1
  have x2 := RX.cell 2
  have a0 := R5.cell 0
  have a1 := R5.cell 1
  have a2 := R5.cell 2
  simp at a0 a1 a2 x0 x1 x2
  have kB := Below.refl w5.heap.size w5
  have T6 := hT.below B5
  go_wp2_with fail
  go_region_held3 (fun w' => w'.cell? ⟨w4.heap.size, 0, none⟩ = some (.int .i64 F) ∧ w'.cell? ⟨w4.heap.size, 1, none⟩ = some (.int .i64 C) ∧ w'.cell? ⟨w4.heap.size, 2, none⟩ = some (.slice (some ⟨g4, 0, none⟩) n n) ∧ w'.cell? ⟨w.heap.size, 0, none⟩ = some (.int .i64 F) ∧ w'.cell? ⟨w.heap.size, 1, none⟩ = some (.int .i64 C) ∧ w'.cell? ⟨w.heap.size, 2, none⟩ = some (.slice ao n cc) ∧ Below w5.heap.size w5 w') (first | assumption | exact ⟨x0, x1, x2, a0, a1, a2, kB.drew⟩)
    (first
      | (go_at_call 25; obtain ⟨y0, y1, y2, y3, y4, y5, kb⟩ := ‹_ ∧ _ ∧ _ ∧ _ ∧ _ ∧ _ ∧ Below _ _ _›; refine (toConfig_calls (T6.below kb) hS2 hn1).mono ?_; rintro e w' ⟨g6, rfl, hg6, hI6, b1⟩; have hS' := keep6 ⟨y0, y1, y2, y3, y4, y5, kb⟩ b1)
      | (go_at_call 26; obtain ⟨y0, y1, y2, y3, y4, y5, kb⟩ := ‹_ ∧ _ ∧ _ ∧ _ ∧ _ ∧ _ ∧ Below _ _ _›; refine (eqConfig_calls (T5.below kb) hI6.tens hS2 hn1).mono ?_; rintro e w'' ⟨rfl, b2⟩; have hS'' := keep6 ⟨y0, y1, y2, y3, y4, y5, kb⟩ b2))
  obtain ⟨_, _, _, _, _, _, kb⟩ := hS''
  have B7 := B5.trans (kb.mono B5.size)
  clear kb hS'
  go_wp2_with fail
  go_ret
  exact ⟨rfl, B7⟩
end Go.Proofs.Ytmibekddapnaaaa
