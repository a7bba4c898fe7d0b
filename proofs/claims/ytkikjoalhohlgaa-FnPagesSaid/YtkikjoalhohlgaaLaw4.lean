/- The exact laws of chapter 4 answer true at every argument and write nothing that was there: answers that are numbers. -/
import Derived.Test.YtkikjoalhohlgaaImpl4g
import Derived.Test.YtkikjoalhohlgaaSpec4i
import Derived.Test.YtkikjoalhohlgaaSpec4j
import Derived.Test.YtkikjoalhohlgaaHelp4b
namespace Go.Proofs.Ytkikjoalhohlgaa
open Go.RowKit

theorem ShortP.more {N M : Nat} {ps : List Pg} (h : ShortP N ps) (hM : N ≤ M) : ShortP M ps := fun p hp => Nat.le_trans (h p hp) hM

set_option maxHeartbeats 2000000 in
set_option maxRecDepth 100000 in
theorem lawUsedIn {ao : Option Addr} {n cc : Nat} {ps : List Pg} {S : Nat → Prop} {w : World} (hT : Lst KPage w S ao n ps) (hn : n ≤ 9223372036854775807) :
    Calls Try.prog 13 #[.slice ao n cc] w fun e w' => e = .returned (.bool true) ∧ Below w.heap.size w w' := by
  go_enter Try.func13, Try.ntmps13
  go_wp2_with fail
  refine (szPgs_calls hT hn (by omega) (by omega)).mono ?_
  rintro e w1 ⟨rfl | ⟨r, rfl, r0, r1, hn1, hS1⟩, hb1⟩
  · go_wp2_with fail
    go_ret
    exact ⟨rfl, hb1⟩
  have HS1 := Lib.hid hS1
  have HS2 := Lib.hid (hS1.more (show 1048576 ≤ 17592186044416 by omega))
  have hr : ¬ (r < 0) := by omega
  have T1 := hT.below hb1
  have B1 := hb1
  clear hS1 hb1
  go_wp2_with fail
  refine (toPgs_calls T1 HS2.out hn1).mono ?_
  rintro e w2 ⟨a2, rfl, O2, hb2⟩
  have B2 := B1.trans (hb2.mono B1.size)
  have T2 := T1.below hb2
  have X2 := O2.lst.2.2.2
  clear hb2 O2 T1 B1
  go_wp2_with fail
  refine (sUsedIn_calls X2 HS2.out (by omega)).mono ?_
  rintro e w3 ⟨rfl, hb3⟩
  have B3 := B2.trans (hb3.mono B2.size)
  have T3 := T2.below hb3
  clear hb3 X2 T2 B2
  obtain ⟨⟨p, q⟩, hp⟩ : ∃ p, usedInR ps = p := ⟨_, rfl⟩
  have HP := Lib.hid hp
  rw [hp]
  clear hp
  go_wp2_with fail
  refine (toPgs_calls (T3.alloc _) HS2.out hn1).mono ?_
  rintro e w4 ⟨a4, rfl, O4, hb4⟩
  have RW := Row.new hb4
  have B4 := B3.trans ((below_past hb4).mono B3.size)
  have T4 := (T3.alloc (.cells #[.int .i64 p, .int .i64 q] 38)).below hb4
  have X4 := O4.lst.2.2.2
  clear hb4 O4 T3 B3
  go_wp2_with fail
  refine (usedIn_calls X4 HS2.out (Nat.le_refl _) (by omega) (by omega)).mono ?_
  rintro e w5 ⟨rfl, hb5⟩
  have RW5 := RW.below hb5
  have B5 := B4.trans (hb5.mono B4.size)
  have T5 := T4.below hb5
  have X5 := X4.below hb5
  clear hb5 T4 X4 B4 RW
  rw [HP.out]
  have lw := RW5.lt
  have v0 := RW5.cell 0
  have v1 := RW5.cell 1
  simp at v0 v1
  go_wp2_with fail
  refine eqPair_calls.mono ?_
  rintro e w6 ⟨rfl, hb6⟩
  have B6 := below_box B5 hb6
  have T6 := (T5.alloc (.cells #[.int .i64 p, .int .i64 q] 38)).below hb6
  have X6 := (X5.alloc (.cells #[.int .i64 p, .int .i64 q] 38)).below hb6
  clear hb6 B5 T5 X5 RW5 v0 v1 lw
  go_wp2_with fail
  refine (toPgs_calls T6 HS2.out hn1).mono ?_
  rintro e w7 ⟨a7, rfl, O7, hb7⟩
  have B7 := B6.trans (hb7.mono B6.size)
  have X7 := X6.below hb7
  have Y7 := O7.lst.2.2.2
  clear hb7 B6 X6 T6 O7
  go_wp2_with fail
  refine (eqPgs_calls X7 Y7 HS2.out hn1).mono ?_
  rintro e w8 ⟨rfl, hb8⟩
  have B8 := B7.trans (hb8.mono B7.size)
  clear hb8 B7
  go_wp2_with fail
  go_ret
  exact ⟨rfl, B8⟩

set_option maxHeartbeats 2000000 in
set_option maxRecDepth 100000 in
theorem lawFindRun {ao : Option Addr} {n cc : Nat} {c : Int} {ps : List Pg} {S : Nat → Prop} {w : World} (hT : Lst KPage w S ao n ps) (hn : n ≤ 9223372036854775807) :
    Calls Try.prog 8 #[.slice ao n cc, .int .i64 c] w fun e w' => e = .returned (.bool true) ∧ Below w.heap.size w w' := by
  go_enter Try.func8, Try.ntmps8
  go_wp2_with fail
  refine (szPgs_calls hT hn (by omega) (by omega)).mono ?_
  rintro e w1 ⟨rfl | ⟨r, rfl, r0, r1, hn1, hS1⟩, hb1⟩
  · go_wp2_with fail
    go_ret
    exact ⟨rfl, hb1⟩
  have HS1 := Lib.hid hS1
  have HS2 := Lib.hid (hS1.more (show 1048576 ≤ 17592186044416 by omega))
  have hr : ¬ (r < 0) := by omega
  have T1 := hT.below hb1
  have B1 := hb1
  clear hS1 hb1
  go_wp2_with fail
  refine (toPgs_calls T1 HS2.out hn1).mono ?_
  rintro e w2 ⟨a2, rfl, O2, hb2⟩
  have B2 := B1.trans (hb2.mono B1.size)
  have T2 := T1.below hb2
  have X2 := O2.lst.2.2.2
  clear hb2 O2 T1 B1
  go_wp2_with fail
  refine (sFindRun_calls X2 HS2.out (by omega)).mono ?_
  rintro e w3 ⟨rfl, hb3⟩
  have B3 := B2.trans (hb3.mono B2.size)
  have T3 := T2.below hb3
  clear hb3 X2 T2 B2
  obtain ⟨⟨p, q⟩, hp⟩ : ∃ p, findRun ps c = p := ⟨_, rfl⟩
  have HP := Lib.hid hp
  rw [hp]
  clear hp
  go_wp2_with fail
  refine (toPgs_calls (T3.alloc _) HS2.out hn1).mono ?_
  rintro e w4 ⟨a4, rfl, O4, hb4⟩
  have RW := Row.new hb4
  have B4 := B3.trans ((below_past hb4).mono B3.size)
  have T4 := (T3.alloc (.cells #[.int .i64 p, .int .i64 q] 38)).below hb4
  have X4 := O4.lst.2.2.2
  clear hb4 O4 T3 B3
  go_wp2_with fail
  refine (findRun_calls X4 HS2.out (Nat.le_refl _) (by omega) (by omega)).mono ?_
  rintro e w5 ⟨rfl, hb5⟩
  have RW5 := RW.below hb5
  have B5 := B4.trans (hb5.mono B4.size)
  have T5 := T4.below hb5
  have X5 := X4.below hb5
  clear hb5 T4 X4 B4 RW
  rw [HP.out]
  have lw := RW5.lt
  have v0 := RW5.cell 0
  have v1 := RW5.cell 1
  simp at v0 v1
  go_wp2_with fail
  refine eqPair_calls.mono ?_
  rintro e w6 ⟨rfl, hb6⟩
  have B6 := below_box B5 hb6
  have T6 := (T5.alloc (.cells #[.int .i64 p, .int .i64 q] 38)).below hb6
  have X6 := (X5.alloc (.cells #[.int .i64 p, .int .i64 q] 38)).below hb6
  clear hb6 B5 T5 X5 RW5 v0 v1 lw
  go_wp2_with fail
  refine (toPgs_calls T6 HS2.out hn1).mono ?_
  rintro e w7 ⟨a7, rfl, O7, hb7⟩
  have B7 := B6.trans (hb7.mono B6.size)
  have X7 := X6.below hb7
  have Y7 := O7.lst.2.2.2
  clear hb7 B6 X6 T6 O7
  go_wp2_with fail
  refine (eqPgs_calls X7 Y7 HS2.out hn1).mono ?_
  rintro e w8 ⟨rfl, hb8⟩
  have B8 := B7.trans (hb8.mono B7.size)
  clear hb8 B7
  go_wp2_with fail
  go_ret
  exact ⟨rfl, B8⟩

set_option maxHeartbeats 2000000 in
set_option maxRecDepth 100000 in
theorem lawBlockStart {ao : Option Addr} {n cc : Nat} {c : Int} {ps : List Pg} {S : Nat → Prop} {w : World} (hT : Lst KPage w S ao n ps) (hn : n ≤ 9223372036854775807) :
    Calls Try.prog 11 #[.slice ao n cc, .int .i64 c] w fun e w' => e = .returned (.bool true) ∧ Below w.heap.size w w' := by
  go_enter Try.func11, Try.ntmps11
  go_wp2_with fail
  refine (szPgs_calls hT hn (by omega) (by omega)).mono ?_
  rintro e w1 ⟨rfl | ⟨r, rfl, r0, r1, hn1, hS1⟩, hb1⟩
  · go_wp2_with fail
    go_ret
    exact ⟨rfl, hb1⟩
  have HS1 := Lib.hid hS1
  have HS2 := Lib.hid (hS1.more (show 1048576 ≤ 17592186044416 by omega))
  have hr : ¬ (r < 0) := by omega
  have T1 := hT.below hb1
  have B1 := hb1
  clear hS1 hb1
  go_wp2_with fail
  refine (toPgs_calls T1 HS2.out hn1).mono ?_
  rintro e w2 ⟨a2, rfl, O2, hb2⟩
  have B2 := B1.trans (hb2.mono B1.size)
  have T2 := T1.below hb2
  have X2 := O2.lst.2.2.2
  clear hb2 O2 T1 B1
  go_wp2_with fail
  refine (sBlockStart_calls X2 HS2.out (by omega)).mono ?_
  rintro e w3 ⟨rfl, hb3⟩
  have B3 := B2.trans (hb3.mono B2.size)
  have T3 := T2.below hb3
  clear hb3 X2 T2 B2
  obtain ⟨⟨p, q⟩, hp⟩ : ∃ p, blockStart ps c = p := ⟨_, rfl⟩
  have HP := Lib.hid hp
  rw [hp]
  clear hp
  go_wp2_with fail
  refine (toPgs_calls (T3.alloc _) HS2.out hn1).mono ?_
  rintro e w4 ⟨a4, rfl, O4, hb4⟩
  have RW := Row.new hb4
  have B4 := B3.trans ((below_past hb4).mono B3.size)
  have T4 := (T3.alloc (.cells #[.int .i64 p, .int .i64 q] 38)).below hb4
  have X4 := O4.lst.2.2.2
  clear hb4 O4 T3 B3
  go_wp2_with fail
  refine (blockStart_calls X4 HS2.out (Nat.le_refl _) (by omega) (by omega)).mono ?_
  rintro e w5 ⟨rfl, hb5⟩
  have RW5 := RW.below hb5
  have B5 := B4.trans (hb5.mono B4.size)
  have T5 := T4.below hb5
  have X5 := X4.below hb5
  clear hb5 T4 X4 B4 RW
  rw [HP.out]
  have lw := RW5.lt
  have v0 := RW5.cell 0
  have v1 := RW5.cell 1
  simp at v0 v1
  go_wp2_with fail
  refine eqPair_calls.mono ?_
  rintro e w6 ⟨rfl, hb6⟩
  have B6 := below_box B5 hb6
  have T6 := (T5.alloc (.cells #[.int .i64 p, .int .i64 q] 38)).below hb6
  have X6 := (X5.alloc (.cells #[.int .i64 p, .int .i64 q] 38)).below hb6
  clear hb6 B5 T5 X5 RW5 v0 v1 lw
  go_wp2_with fail
  refine (toPgs_calls T6 HS2.out hn1).mono ?_
  rintro e w7 ⟨a7, rfl, O7, hb7⟩
  have B7 := B6.trans (hb7.mono B6.size)
  have X7 := X6.below hb7
  have Y7 := O7.lst.2.2.2
  clear hb7 B6 X6 T6 O7
  go_wp2_with fail
  refine (eqPgs_calls X7 Y7 HS2.out hn1).mono ?_
  rintro e w8 ⟨rfl, hb8⟩
  have B8 := B7.trans (hb8.mono B7.size)
  clear hb8 B7
  go_wp2_with fail
  go_ret
  exact ⟨rfl, B8⟩

set_option maxHeartbeats 2000000 in
set_option maxRecDepth 100000 in
theorem lawBlockSize {ao : Option Addr} {n cc : Nat} {c : Int} {ps : List Pg} {S : Nat → Prop} {w : World} (hT : Lst KPage w S ao n ps) (hn : n ≤ 9223372036854775807) :
    Calls Try.prog 12 #[.slice ao n cc, .int .i64 c] w fun e w' => e = .returned (.bool true) ∧ Below w.heap.size w w' := by
  go_enter Try.func12, Try.ntmps12
  go_wp2_with fail
  refine (szPgs_calls hT hn (by omega) (by omega)).mono ?_
  rintro e w1 ⟨rfl | ⟨r, rfl, r0, r1, hn1, hS1⟩, hb1⟩
  · go_wp2_with fail
    go_ret
    exact ⟨rfl, hb1⟩
  have HS1 := Lib.hid hS1
  have HS2 := Lib.hid (hS1.more (show 1048576 ≤ 17592186044416 by omega))
  have hr : ¬ (r < 0) := by omega
  have T1 := hT.below hb1
  have B1 := hb1
  clear hS1 hb1
  go_wp2_with fail
  refine (toPgs_calls T1 HS2.out hn1).mono ?_
  rintro e w2 ⟨a2, rfl, O2, hb2⟩
  have B2 := B1.trans (hb2.mono B1.size)
  have T2 := T1.below hb2
  have X2 := O2.lst.2.2.2
  clear hb2 O2 T1 B1
  go_wp2_with fail
  refine (sBlockSize_calls X2 HS2.out (by omega)).mono ?_
  rintro e w3 ⟨rfl, hb3⟩
  have B3 := B2.trans (hb3.mono B2.size)
  have T3 := T2.below hb3
  clear hb3 X2 T2 B2
  obtain ⟨⟨p, q⟩, hp⟩ : ∃ p, blockSize ps c = p := ⟨_, rfl⟩
  have HP := Lib.hid hp
  rw [hp]
  clear hp
  go_wp2_with fail
  refine (toPgs_calls (T3.alloc _) HS2.out hn1).mono ?_
  rintro e w4 ⟨a4, rfl, O4, hb4⟩
  have RW := Row.new hb4
  have B4 := B3.trans ((below_past hb4).mono B3.size)
  have T4 := (T3.alloc (.cells #[.int .i64 p, .int .i64 q] 38)).below hb4
  have X4 := O4.lst.2.2.2
  clear hb4 O4 T3 B3
  go_wp2_with fail
  refine (blockSize_calls X4 HS2.out (Nat.le_refl _) (by omega) (by omega)).mono ?_
  rintro e w5 ⟨rfl, hb5⟩
  have RW5 := RW.below hb5
  have B5 := B4.trans (hb5.mono B4.size)
  have T5 := T4.below hb5
  have X5 := X4.below hb5
  clear hb5 T4 X4 B4 RW
  rw [HP.out]
  have lw := RW5.lt
  have v0 := RW5.cell 0
  have v1 := RW5.cell 1
  simp at v0 v1
  go_wp2_with fail
  refine eqPair_calls.mono ?_
  rintro e w6 ⟨rfl, hb6⟩
  have B6 := below_box B5 hb6
  have T6 := (T5.alloc (.cells #[.int .i64 p, .int .i64 q] 38)).below hb6
  have X6 := (X5.alloc (.cells #[.int .i64 p, .int .i64 q] 38)).below hb6
  clear hb6 B5 T5 X5 RW5 v0 v1 lw
  go_wp2_with fail
  refine (toPgs_calls T6 HS2.out hn1).mono ?_
  rintro e w7 ⟨a7, rfl, O7, hb7⟩
  have B7 := B6.trans (hb7.mono B6.size)
  have X7 := X6.below hb7
  have Y7 := O7.lst.2.2.2
  clear hb7 B6 X6 T6 O7
  go_wp2_with fail
  refine (eqPgs_calls X7 Y7 HS2.out hn1).mono ?_
  rintro e w8 ⟨rfl, hb8⟩
  have B8 := B7.trans (hb8.mono B7.size)
  clear hb8 B7
  go_wp2_with fail
  go_ret
  exact ⟨rfl, B8⟩

set_option maxHeartbeats 2000000 in
set_option maxRecDepth 100000 in
theorem lawPagesFault {ao : Option Addr} {n cc : Nat} {ps : List Pg} {S : Nat → Prop} {w : World} (hT : Lst KPage w S ao n ps) (hn : n ≤ 9223372036854775807) :
    Calls Try.prog 6 #[.slice ao n cc] w fun e w' => e = .returned (.bool true) ∧ Below w.heap.size w w' := by
  go_enter Try.func6, Try.ntmps6
  go_wp2_with fail
  refine (szPgs_calls hT hn (by omega) (by omega)).mono ?_
  rintro e w1 ⟨rfl | ⟨r, rfl, r0, r1, hn1, hS1⟩, hb1⟩
  · go_wp2_with fail
    go_ret
    exact ⟨rfl, hb1⟩
  have HS1 := Lib.hid hS1
  have HS2 := Lib.hid (hS1.more (show 1048576 ≤ 17592186044416 by omega))
  have hr : ¬ (r < 0) := by omega
  have T1 := hT.below hb1
  have B1 := hb1
  clear hS1 hb1
  go_wp2_with fail
  refine (toPgs_calls T1 HS2.out hn1).mono ?_
  rintro e w2 ⟨a2, rfl, O2, hb2⟩
  have B2 := B1.trans (hb2.mono B1.size)
  have T2 := T1.below hb2
  have X2 := O2.lst.2.2.2
  clear hb2 O2 T1 B1
  go_wp2_with fail
  refine (sPagesFault_calls X2 HS2.out (by omega)).mono ?_
  rintro e w3 ⟨rfl, hb3⟩
  have B3 := B2.trans (hb3.mono B2.size)
  have T3 := T2.below hb3
  clear hb3 X2 T2 B2
  obtain ⟨p, hp⟩ : ∃ p, pagesFault ps = p := ⟨_, rfl⟩
  have HP := Lib.hid hp
  rw [hp]
  clear hp
  have hpp : (p != p) = false := by simp
  go_wp2_with fail
  refine (toPgs_calls T3 HS2.out hn1).mono ?_
  rintro e w4 ⟨a4, rfl, O4, hb4⟩
  have B4 := B3.trans (hb4.mono B3.size)
  have T4 := T3.below hb4
  have X4 := O4.lst.2.2.2
  clear hb4 O4 T3 B3
  go_wp2_with fail
  refine (pagesFault_calls X4 HS2.out (by omega)).mono ?_
  rintro e w5 ⟨rfl, hb5⟩
  have B5 := B4.trans (hb5.mono B4.size)
  have T5 := T4.below hb5
  have X5 := X4.below hb5
  clear hb5 T4 X4 B4
  rw [HP.out]
  go_wp2_with fail
  refine (toPgs_calls T5 HS2.out hn1).mono ?_
  rintro e w7 ⟨a7, rfl, O7, hb7⟩
  have B7 := B5.trans (hb7.mono B5.size)
  have X7 := X5.below hb7
  have Y7 := O7.lst.2.2.2
  clear hb7 B5 X5 T5 O7
  go_wp2_with fail
  refine (eqPgs_calls X7 Y7 HS2.out hn1).mono ?_
  rintro e w8 ⟨rfl, hb8⟩
  have B8 := B7.trans (hb8.mono B7.size)
  clear hb8 B7
  go_wp2_with fail
  go_ret
  exact ⟨rfl, B8⟩
end Go.Proofs.Ytkikjoalhohlgaa
