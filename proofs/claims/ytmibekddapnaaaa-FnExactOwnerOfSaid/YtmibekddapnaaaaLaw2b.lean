/- The laws of 'ColourOf', 'RoomFor', 'OwnerOf' answer true at every argument and write nothing that was there. -/
import Derived.Test.YtmibekddapnaaaaLaw2a
namespace Go.Proofs.Ytmibekddapnaaaa
open Go.RowKit

set_option maxHeartbeats 2000000 in
set_option maxRecDepth 100000 in
theorem lawColourOf {ao : Option Addr} {n cc : Nat} {F C f : Int} {ts : List (List Int × Int)} {w : World} (hT : Tens w ao n ts) (hS : Short 9223372036854775807 ts) (hn : n ≤ 9223372036854775807) :
    Calls Try.prog 5 #[.agg #[.int .i64 F, .int .i64 C, .slice ao n cc], .int .i64 f] w fun e w' => e = .returned (.bool true) ∧ Below w.heap.size w w' := by
  go_enter Try.func5, Try.ntmps5
  go_wp2_with fail
  refine (szConfig_calls (hT.alloc _) hS hn).mono ?_
  rintro e w1 ⟨rfl | ⟨r, rfl, r0, r1, hn1, hS1⟩, hb1⟩
  · have hb := below_past hb1
    clear hb1
    go_wp2_with fail
    go_ret
    exact ⟨rfl, hb⟩
  have hS2 := hS1.mono (M := 17592186044416) (by omega)
  have hr : ¬ (r < 0) := by omega
  have RA := Row.new hb1
  have l0 := RA.lt
  have a0 := RA.cell 0
  have a1 := RA.cell 1
  have a2 := RA.cell 2
  simp at a0 a1 a2
  have B1 := below_past hb1
  have T1 := hT.below B1
  clear hb1 hS1
  go_wp2_with fail
  refine (toConfig_calls T1 hS2 hn1).mono ?_
  rintro e w2 ⟨g2, rfl, hg2, hI2, hb2⟩
  have B2 := B1.trans (hb2.mono B1.size)
  have R2 := RA.below hb2
  clear B1 hb2 RA a0 a1 a2 l0 hg2 T1
  go_wp2_with fail
  refine (sColourOf_calls hI2.tens hS2 (Nat.le_refl _) (by omega)).mono ?_
  rintro e w3 ⟨rfl, hb3⟩
  have B3 := B2.trans (hb3.mono B2.size)
  have R3 := R2.below hb3
  have l0 := R3.lt
  have a0 := R3.cell 0
  have a1 := R3.cell 1
  have a2 := R3.cell 2
  simp at a0 a1 a2
  have T3 := hT.below B3
  clear B2 hb3 R2 hI2
  obtain ⟨⟨p, q⟩, hp⟩ : ∃ p, colourOf F C ts f = p := ⟨_, rfl⟩
  have HP := Lib.hid hp
  rw [hp]
  clear hp
  go_wp2_with fail
  refine (toConfig_calls (T3.alloc _) hS2 hn1).mono ?_
  rintro e w4 ⟨g4, rfl, hg4, hI4, hb4⟩
  have RW := Row.new hb4
  have B4 := B3.trans ((below_past hb4).mono B3.size)
  have R4 := R3.below (below_past hb4)
  clear B3 hb4 R3 a0 a1 a2 l0 hg4 T3
  go_wp2_with fail
  refine (colourOf_calls (hI4.tens.alloc _) hS2 (Nat.le_refl _) (by omega)).mono ?_
  rintro e w5 ⟨rfl, hb5⟩
  have RX := Row.new hb5
  have B5 := B4.trans ((below_past hb5).mono B4.size)
  have R5 := R4.below (below_past hb5)
  have RW5 := RW.below (below_past hb5)
  have T5 := hI4.tens.below (below_past hb5)
  clear B4 hb5 R4 hI4 RW
  rw [HP.out]
  have lw := RW5.lt
  have v0 := RW5.cell 0
  have v1 := RW5.cell 1
  simp at v0 v1
  go_wp2_with fail
  refine eqPair_calls.mono ?_
  rintro e w6 ⟨rfl, hb6⟩
  have hb6' := below_past hb6
  have B6 := B5.trans (hb6'.mono B5.size)
  have R6 := R5.below hb6'
  have RX6 := RX.below hb6'
  have T6 := T5.below hb6'
  have T7 := hT.below B6
  clear hb6 hb6' B5 R5 RX T5 RW5 lw v0 v1
  have x0 := RX6.cell 0
  have x1 := RX6.cell 1
  have x2 := RX6.cell 2
  have a0 := R6.cell 0
  have a1 := R6.cell 1
  have a2 := R6.cell 2
  simp at a0 a1 a2 x0 x1 x2
  have kB := Below.refl w6.heap.size w6
  go_wp2_with fail
  go_region_held3 (fun w' => w'.cell? ⟨w4.heap.size, 0, none⟩ = some (.int .i64 F) ∧ w'.cell? ⟨w4.heap.size, 1, none⟩ = some (.int .i64 C) ∧ w'.cell? ⟨w4.heap.size, 2, none⟩ = some (.slice (some ⟨g4, 0, none⟩) n n) ∧ w'.cell? ⟨w.heap.size, 0, none⟩ = some (.int .i64 F) ∧ w'.cell? ⟨w.heap.size, 1, none⟩ = some (.int .i64 C) ∧ w'.cell? ⟨w.heap.size, 2, none⟩ = some (.slice ao n cc) ∧ Below w6.heap.size w6 w') (first | assumption | exact ⟨x0, x1, x2, a0, a1, a2, kB.drew⟩)
    (first
      | (go_at_call 25; obtain ⟨y0, y1, y2, y3, y4, y5, kb⟩ := ‹_ ∧ _ ∧ _ ∧ _ ∧ _ ∧ _ ∧ Below _ _ _›; refine (toConfig_calls (T7.below kb) hS2 hn1).mono ?_; rintro e w' ⟨g6, rfl, hg6, hI6, b1⟩; have hS' := keep6 ⟨y0, y1, y2, y3, y4, y5, kb⟩ b1)
      | (go_at_call 26; obtain ⟨y0, y1, y2, y3, y4, y5, kb⟩ := ‹_ ∧ _ ∧ _ ∧ _ ∧ _ ∧ _ ∧ Below _ _ _›; refine (eqConfig_calls (T6.below kb) hI6.tens hS2 hn1).mono ?_; rintro e w'' ⟨rfl, b2⟩; have hS'' := keep6 ⟨y0, y1, y2, y3, y4, y5, kb⟩ b2))
  obtain ⟨_, _, _, _, _, _, kb⟩ := hS''
  have B7 := B6.trans (kb.mono B6.size)
  clear kb hS'
  go_wp2_with fail
  go_ret
  exact ⟨rfl, B7⟩

set_option maxHeartbeats 2000000 in
set_option maxRecDepth 100000 in
theorem lawRoomFor {ao : Option Addr} {n cc : Nat} {F C f : Int} {ts : List (List Int × Int)} {w : World} (hT : Tens w ao n ts) (hS : Short 9223372036854775807 ts) (hn : n ≤ 9223372036854775807) :
    Calls Try.prog 7 #[.agg #[.int .i64 F, .int .i64 C, .slice ao n cc], .int .i64 f] w fun e w' => e = .returned (.bool true) ∧ Below w.heap.size w w' := by
  go_enter Try.func7, Try.ntmps7
  go_wp2_with fail
  refine (szConfig_calls (hT.alloc _) hS hn).mono ?_
  rintro e w1 ⟨rfl | ⟨r, rfl, r0, r1, hn1, hS1⟩, hb1⟩
  · have hb := below_past hb1
    clear hb1
    go_wp2_with fail
    go_ret
    exact ⟨rfl, hb⟩
  have hS2 := hS1.mono (M := 17592186044416) (by omega)
  have hr : ¬ (r < 0) := by omega
  have RA := Row.new hb1
  have l0 := RA.lt
  have a0 := RA.cell 0
  have a1 := RA.cell 1
  have a2 := RA.cell 2
  simp at a0 a1 a2
  have B1 := below_past hb1
  have T1 := hT.below B1
  clear hb1 hS1
  go_wp2_with fail
  refine (toConfig_calls T1 hS2 hn1).mono ?_
  rintro e w2 ⟨g2, rfl, hg2, hI2, hb2⟩
  have B2 := B1.trans (hb2.mono B1.size)
  have R2 := RA.below hb2
  clear B1 hb2 RA a0 a1 a2 l0 hg2 T1
  go_wp2_with fail
  refine (sRoomFor_calls hI2.tens hS2 (Nat.le_refl _) (by omega)).mono ?_
  rintro e w3 ⟨rfl, hb3⟩
  have B3 := B2.trans (hb3.mono B2.size)
  have R3 := R2.below hb3
  have l0 := R3.lt
  have a0 := R3.cell 0
  have a1 := R3.cell 1
  have a2 := R3.cell 2
  simp at a0 a1 a2
  have T3 := hT.below B3
  clear B2 hb3 R2 hI2
  obtain ⟨⟨p, q⟩, hp⟩ : ∃ p, roomFor F C ts f = p := ⟨_, rfl⟩
  have HP := Lib.hid hp
  rw [hp]
  clear hp
  go_wp2_with fail
  refine (toConfig_calls (T3.alloc _) hS2 hn1).mono ?_
  rintro e w4 ⟨g4, rfl, hg4, hI4, hb4⟩
  have RW := Row.new hb4
  have B4 := B3.trans ((below_past hb4).mono B3.size)
  have R4 := R3.below (below_past hb4)
  clear B3 hb4 R3 a0 a1 a2 l0 hg4 T3
  go_wp2_with fail
  refine (roomFor_calls (hI4.tens.alloc _) hS2 (Nat.le_refl _) (by omega)).mono ?_
  rintro e w5 ⟨rfl, hb5⟩
  have RX := Row.new hb5
  have B5 := B4.trans ((below_past hb5).mono B4.size)
  have R5 := R4.below (below_past hb5)
  have RW5 := RW.below (below_past hb5)
  have T5 := hI4.tens.below (below_past hb5)
  clear B4 hb5 R4 hI4 RW
  rw [HP.out]
  have lw := RW5.lt
  have v0 := RW5.cell 0
  have v1 := RW5.cell 1
  simp at v0 v1
  go_wp2_with fail
  refine eqPair_calls.mono ?_
  rintro e w6 ⟨rfl, hb6⟩
  have hb6' := below_past hb6
  have B6 := B5.trans (hb6'.mono B5.size)
  have R6 := R5.below hb6'
  have RX6 := RX.below hb6'
  have T6 := T5.below hb6'
  have T7 := hT.below B6
  clear hb6 hb6' B5 R5 RX T5 RW5 lw v0 v1
  have x0 := RX6.cell 0
  have x1 := RX6.cell 1
  have x2 := RX6.cell 2
  have a0 := R6.cell 0
  have a1 := R6.cell 1
  have a2 := R6.cell 2
  simp at a0 a1 a2 x0 x1 x2
  have kB := Below.refl w6.heap.size w6
  go_wp2_with fail
  go_region_held3 (fun w' => w'.cell? ⟨w4.heap.size, 0, none⟩ = some (.int .i64 F) ∧ w'.cell? ⟨w4.heap.size, 1, none⟩ = some (.int .i64 C) ∧ w'.cell? ⟨w4.heap.size, 2, none⟩ = some (.slice (some ⟨g4, 0, none⟩) n n) ∧ w'.cell? ⟨w.heap.size, 0, none⟩ = some (.int .i64 F) ∧ w'.cell? ⟨w.heap.size, 1, none⟩ = some (.int .i64 C) ∧ w'.cell? ⟨w.heap.size, 2, none⟩ = some (.slice ao n cc) ∧ Below w6.heap.size w6 w') (first | assumption | exact ⟨x0, x1, x2, a0, a1, a2, kB.drew⟩)
    (first
      | (go_at_call 25; obtain ⟨y0, y1, y2, y3, y4, y5, kb⟩ := ‹_ ∧ _ ∧ _ ∧ _ ∧ _ ∧ _ ∧ Below _ _ _›; refine (toConfig_calls (T7.below kb) hS2 hn1).mono ?_; rintro e w' ⟨g6, rfl, hg6, hI6, b1⟩; have hS' := keep6 ⟨y0, y1, y2, y3, y4, y5, kb⟩ b1)
      | (go_at_call 26; obtain ⟨y0, y1, y2, y3, y4, y5, kb⟩ := ‹_ ∧ _ ∧ _ ∧ _ ∧ _ ∧ _ ∧ Below _ _ _›; refine (eqConfig_calls (T6.below kb) hI6.tens hS2 hn1).mono ?_; rintro e w'' ⟨rfl, b2⟩; have hS'' := keep6 ⟨y0, y1, y2, y3, y4, y5, kb⟩ b2))
  obtain ⟨_, _, _, _, _, _, kb⟩ := hS''
  have B7 := B6.trans (kb.mono B6.size)
  clear kb hS'
  go_wp2_with fail
  go_ret
  exact ⟨rfl, B7⟩

set_option maxHeartbeats 2000000 in
set_option maxRecDepth 100000 in
theorem lawOwnerOf {ao : Option Addr} {n cc : Nat} {F C f : Int} {ts : List (List Int × Int)} {w : World} (hT : Tens w ao n ts) (hS : Short 9223372036854775807 ts) (hn : n ≤ 9223372036854775807) :
    Calls Try.prog 8 #[.agg #[.int .i64 F, .int .i64 C, .slice ao n cc], .int .i64 f] w fun e w' => e = .returned (.bool true) ∧ Below w.heap.size w w' := by
  go_enter Try.func8, Try.ntmps8
  go_wp2_with fail
  refine (szConfig_calls (hT.alloc _) hS hn).mono ?_
  rintro e w1 ⟨rfl | ⟨r, rfl, r0, r1, hn1, hS1⟩, hb1⟩
  · have hb := below_past hb1
    clear hb1
    go_wp2_with fail
    go_ret
    exact ⟨rfl, hb⟩
  have hS2 := hS1.mono (M := 17592186044416) (by omega)
  have hr : ¬ (r < 0) := by omega
  have RA := Row.new hb1
  have l0 := RA.lt
  have a0 := RA.cell 0
  have a1 := RA.cell 1
  have a2 := RA.cell 2
  simp at a0 a1 a2
  have B1 := below_past hb1
  have T1 := hT.below B1
  clear hb1 hS1
  go_wp2_with fail
  refine (toConfig_calls T1 hS2 hn1).mono ?_
  rintro e w2 ⟨g2, rfl, hg2, hI2, hb2⟩
  have B2 := B1.trans (hb2.mono B1.size)
  have R2 := RA.below hb2
  clear B1 hb2 RA a0 a1 a2 l0 hg2 T1
  go_wp2_with fail
  refine (sOwnerOf_calls hI2.tens hS2 (Nat.le_refl _) (by omega)).mono ?_
  rintro e w3 ⟨rfl, hb3⟩
  have B3 := B2.trans (hb3.mono B2.size)
  have R3 := R2.below hb3
  have l0 := R3.lt
  have a0 := R3.cell 0
  have a1 := R3.cell 1
  have a2 := R3.cell 2
  simp at a0 a1 a2
  have T3 := hT.below B3
  clear B2 hb3 R2 hI2
  obtain ⟨⟨p, q⟩, hp⟩ : ∃ p, ownerOf F C ts f = p := ⟨_, rfl⟩
  have HP := Lib.hid hp
  rw [hp]
  clear hp
  go_wp2_with fail
  refine (toConfig_calls (T3.alloc _) hS2 hn1).mono ?_
  rintro e w4 ⟨g4, rfl, hg4, hI4, hb4⟩
  have RW := Row.new hb4
  have B4 := B3.trans ((below_past hb4).mono B3.size)
  have R4 := R3.below (below_past hb4)
  clear B3 hb4 R3 a0 a1 a2 l0 hg4 T3
  go_wp2_with fail
  refine (ownerOf_calls (hI4.tens.alloc _) hS2 (Nat.le_refl _) (by omega)).mono ?_
  rintro e w5 ⟨rfl, hb5⟩
  have RX := Row.new hb5
  have B5 := B4.trans ((below_past hb5).mono B4.size)
  have R5 := R4.below (below_past hb5)
  have RW5 := RW.below (below_past hb5)
  have T5 := hI4.tens.below (below_past hb5)
  clear B4 hb5 R4 hI4 RW
  rw [HP.out]
  have lw := RW5.lt
  have v0 := RW5.cell 0
  have v1 := RW5.cell 1
  simp at v0 v1
  go_wp2_with fail
  refine eqPair_calls.mono ?_
  rintro e w6 ⟨rfl, hb6⟩
  have hb6' := below_past hb6
  have B6 := B5.trans (hb6'.mono B5.size)
  have R6 := R5.below hb6'
  have RX6 := RX.below hb6'
  have T6 := T5.below hb6'
  have T7 := hT.below B6
  clear hb6 hb6' B5 R5 RX T5 RW5 lw v0 v1
  have x0 := RX6.cell 0
  have x1 := RX6.cell 1
  have x2 := RX6.cell 2
  have a0 := R6.cell 0
  have a1 := R6.cell 1
  have a2 := R6.cell 2
  simp at a0 a1 a2 x0 x1 x2
  have kB := Below.refl w6.heap.size w6
  go_wp2_with fail
  go_region_held3 (fun w' => w'.cell? ⟨w4.heap.size, 0, none⟩ = some (.int .i64 F) ∧ w'.cell? ⟨w4.heap.size, 1, none⟩ = some (.int .i64 C) ∧ w'.cell? ⟨w4.heap.size, 2, none⟩ = some (.slice (some ⟨g4, 0, none⟩) n n) ∧ w'.cell? ⟨w.heap.size, 0, none⟩ = some (.int .i64 F) ∧ w'.cell? ⟨w.heap.size, 1, none⟩ = some (.int .i64 C) ∧ w'.cell? ⟨w.heap.size, 2, none⟩ = some (.slice ao n cc) ∧ Below w6.heap.size w6 w') (first | assumption | exact ⟨x0, x1, x2, a0, a1, a2, kB.drew⟩)
    (first
      | (go_at_call 25; obtain ⟨y0, y1, y2, y3, y4, y5, kb⟩ := ‹_ ∧ _ ∧ _ ∧ _ ∧ _ ∧ _ ∧ Below _ _ _›; refine (toConfig_calls (T7.below kb) hS2 hn1).mono ?_; rintro e w' ⟨g6, rfl, hg6, hI6, b1⟩; have hS' := keep6 ⟨y0, y1, y2, y3, y4, y5, kb⟩ b1)
      | (go_at_call 26; obtain ⟨y0, y1, y2, y3, y4, y5, kb⟩ := ‹_ ∧ _ ∧ _ ∧ _ ∧ _ ∧ _ ∧ Below _ _ _›; refine (eqConfig_calls (T6.below kb) hI6.tens hS2 hn1).mono ?_; rintro e w'' ⟨rfl, b2⟩; have hS'' := keep6 ⟨y0, y1, y2, y3, y4, y5, kb⟩ b2))
  obtain ⟨_, _, _, _, _, _, kb⟩ := hS''
  have B7 := B6.trans (kb.mono B6.size)
  clear kb hS'
  go_wp2_with fail
  go_ret
  exact ⟨rfl, B7⟩
end Go.Proofs.Ytmibekddapnaaaa
