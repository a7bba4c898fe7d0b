/- The exact laws of 'SamePages' and 'PageFault' answer true at every argument and write nothing that was there. -/
import Derived.Test.YtkikjoalhohlgaaLaw4
namespace Go.Proofs.Ytkikjoalhohlgaa
open Go.RowKit

set_option maxHeartbeats 8000000 in
set_option maxRecDepth 100000 in
theorem lawSamePages {ao bo : Option Addr} {n cc m dc : Nat} {ps qs : List Pg} {S S' : Nat → Prop} {w : World} (hT : Lst KPage w S ao n ps) (hn : n ≤ 9223372036854775807) (hU : Lst KPage w S' bo m qs) (hm : m ≤ 9223372036854775807) :
    Calls Try.prog 14 #[.slice ao n cc, .slice bo m dc] w fun e w' => e = .returned (.bool true) ∧ Below w.heap.size w w' := by
  go_enter Try.func14, Try.ntmps14
  go_wp2_with fail
  refine (szPgs_calls hT hn (by omega) (by omega)).mono ?_
  rintro e w1 ⟨rfl | ⟨r, rfl, r0, r1, hn1, hS1⟩, hb1⟩
  · go_wp2_with fail
    go_ret
    exact ⟨rfl, hb1⟩
  have HS := Lib.hid (hS1.more (show 1048576 ≤ 17592186044416 by omega))
  have hr : ¬ (r < 0) := by omega
  have T1 := hT.below hb1
  have U1 := hU.below hb1
  have B1 := hb1
  clear hS1 hb1
  go_wp2_with fail
  refine (szPgs_calls U1 hm r0 r1).mono ?_
  rintro e w2 ⟨rfl | ⟨r', rfl, r0', r1', hm1, hS2⟩, hb2⟩
  · have B2 := B1.trans (hb2.mono B1.size)
    clear hb2 B1
    go_wp2_with fail
    go_ret
    exact ⟨rfl, B2⟩
  have HS' := Lib.hid (hS2.more (show 1048576 ≤ 17592186044416 by omega))
  have hr' : ¬ (r' < 0) := by omega
  have B2 := B1.trans (hb2.mono B1.size)
  have T2 := T1.below hb2
  have U2 := U1.below hb2
  clear hS2 hb2 B1 T1 U1
  go_wp2_with fail
  refine (toPgs_calls T2 HS.out hn1).mono ?_
  rintro e w3 ⟨x3, rfl, O, hb⟩
  have B3 := B2.trans (hb.mono B2.size)
  have T3 := T2.below hb
  have U3 := U2.below hb
  have X3 := O.lst.2.2.2
  clear hb B2 T2 U2 O
  go_wp2_with fail
  refine (toPgs_calls U3 HS'.out hm1).mono ?_
  rintro e w4 ⟨y4, rfl, O, hb⟩
  have B4 := B3.trans (hb.mono B3.size)
  have T4 := T3.below hb
  have U4 := U3.below hb
  have X4 := X3.below hb
  have Y4 := O.lst.2.2.2
  clear hb B3 T3 U3 X3 O
  go_wp2_with fail
  rcases hd : decide (ps = qs) with _ | _
  · skip
    refine (sSamePages_calls X4 Y4 HS.out HS'.out (by omega) (by omega)).mono ?_
    rw [hd]
    rintro e w5 ⟨rfl, hb⟩
    have B5 := B4.trans (hb.mono B4.size)
    have T5 := T4.below hb
    have U5 := U4.below hb
    clear hb B4 T4 U4
    clear X4 Y4
    go_wp2_with fail
    refine (toPgs_calls T5 HS.out hn1).mono ?_
    rintro e w6 ⟨x6, rfl, O, hb⟩
    have B6 := B5.trans (hb.mono B5.size)
    have T6 := T5.below hb
    have U6 := U5.below hb
    have X6 := O.lst.2.2.2
    clear hb B5 T5 U5 O
    go_wp2_with fail
    refine (toPgs_calls U6 HS'.out hm1).mono ?_
    rintro e w7 ⟨y7, rfl, O, hb⟩
    have B7 := B6.trans (hb.mono B6.size)
    have T7 := T6.below hb
    have U7 := U6.below hb
    have X7 := X6.below hb
    have Y7 := O.lst.2.2.2
    clear hb B6 T6 U6 X6 O
    go_wp2_with fail
    refine (samePages_calls X7 Y7 HS.out HS'.out (by omega) (by omega)).mono ?_
    rw [hd]
    rintro e w8 ⟨rfl, hb⟩
    have B8 := B7.trans (hb.mono B7.size)
    have T8 := T7.below hb
    have U8 := U7.below hb
    have X8 := X7.below hb
    have Y8 := Y7.below hb
    clear hb B7 T7 U7 X7 Y7
    go_wp2_with fail
    refine (toPgs_calls T8 HS.out hn1).mono ?_
    rintro e w9 ⟨x9, rfl, O, hb⟩
    have B9 := B8.trans (hb.mono B8.size)
    have T9 := T8.below hb
    have U9 := U8.below hb
    have X9 := X8.below hb
    have Y9 := Y8.below hb
    have Z9 := O.lst.2.2.2
    clear hb B8 T8 U8 X8 Y8 O
    go_wp2_with fail
    refine (eqPgs_calls X9 Z9 HS.out hn1).mono ?_
    rintro e w10 ⟨rfl, hb⟩
    have B10 := B9.trans (hb.mono B9.size)
    have T10 := T9.below hb
    have U10 := U9.below hb
    have Y10 := Y9.below hb
    clear hb B9 T9 U9 Y9
    clear X9 Z9
    go_wp2_with fail
    refine (toPgs_calls U10 HS'.out hm1).mono ?_
    rintro e w11 ⟨y11, rfl, O, hb⟩
    have B11 := B10.trans (hb.mono B10.size)
    have Y11 := Y10.below hb
    have Z11 := O.lst.2.2.2
    clear hb B10 Y10 O
    clear T10 U10
    go_wp2_with fail
    refine (eqPgs_calls Y11 Z11 HS'.out hm1).mono ?_
    rintro e w12 ⟨rfl, hb⟩
    have B12 := B11.trans (hb.mono B11.size)
    clear hb B11 
    clear Y11 Z11
    go_wp2_with fail
    go_ret
    exact ⟨rfl, B12⟩
  · skip
    refine (sSamePages_calls X4 Y4 HS.out HS'.out (by omega) (by omega)).mono ?_
    rw [hd]
    rintro e w5 ⟨rfl, hb⟩
    have B5 := B4.trans (hb.mono B4.size)
    have T5 := T4.below hb
    have U5 := U4.below hb
    clear hb B4 T4 U4
    clear X4 Y4
    go_wp2_with fail
    refine (toPgs_calls T5 HS.out hn1).mono ?_
    rintro e w6 ⟨x6, rfl, O, hb⟩
    have B6 := B5.trans (hb.mono B5.size)
    have T6 := T5.below hb
    have U6 := U5.below hb
    have X6 := O.lst.2.2.2
    clear hb B5 T5 U5 O
    go_wp2_with fail
    refine (toPgs_calls U6 HS'.out hm1).mono ?_
    rintro e w7 ⟨y7, rfl, O, hb⟩
    have B7 := B6.trans (hb.mono B6.size)
    have T7 := T6.below hb
    have U7 := U6.below hb
    have X7 := X6.below hb
    have Y7 := O.lst.2.2.2
    clear hb B6 T6 U6 X6 O
    go_wp2_with fail
    refine (samePages_calls X7 Y7 HS.out HS'.out (by omega) (by omega)).mono ?_
    rw [hd]
    rintro e w8 ⟨rfl, hb⟩
    have B8 := B7.trans (hb.mono B7.size)
    have T8 := T7.below hb
    have U8 := U7.below hb
    have X8 := X7.below hb
    have Y8 := Y7.below hb
    clear hb B7 T7 U7 X7 Y7
    go_wp2_with fail
    refine (toPgs_calls T8 HS.out hn1).mono ?_
    rintro e w9 ⟨x9, rfl, O, hb⟩
    have B9 := B8.trans (hb.mono B8.size)
    have T9 := T8.below hb
    have U9 := U8.below hb
    have X9 := X8.below hb
    have Y9 := Y8.below hb
    have Z9 := O.lst.2.2.2
    clear hb B8 T8 U8 X8 Y8 O
    go_wp2_with fail
    refine (eqPgs_calls X9 Z9 HS.out hn1).mono ?_
    rintro e w10 ⟨rfl, hb⟩
    have B10 := B9.trans (hb.mono B9.size)
    have T10 := T9.below hb
    have U10 := U9.below hb
    have Y10 := Y9.below hb
    clear hb B9 T9 U9 Y9
    clear X9 Z9
    go_wp2_with fail
    refine (toPgs_calls U10 HS'.out hm1).mono ?_
    rintro e w11 ⟨y11, rfl, O, hb⟩
    have B11 := B10.trans (hb.mono B10.size)
    have Y11 := Y10.below hb
    have Z11 := O.lst.2.2.2
    clear hb B10 Y10 O
    clear T10 U10
    go_wp2_with fail
    refine (eqPgs_calls Y11 Z11 HS'.out hm1).mono ?_
    rintro e w12 ⟨rfl, hb⟩
    have B12 := B11.trans (hb.mono B11.size)
    clear hb B11 
    clear Y11 Z11
    go_wp2_with fail
    go_ret
    exact ⟨rfl, B12⟩

set_option maxHeartbeats 8000000 in
set_option maxRecDepth 100000 in
theorem lawPageFault {a : Option Addr} {n c : Nat} {p : Pg} {S : Nat → Prop} {w : World} (hn : n ≤ 9223372036854775807) (hU : Lst KBool w S a n p.used) :
    Calls Try.prog 5 #[.agg #[.int .i64 p.kind, .int .i64 p.cls, .slice a n c, .int .i64 p.run]] w fun e w' => e = .returned (.bool true) ∧ Below w.heap.size w w' := by
  by_cases hbig : (1048576 : Int) - (n : Int) < 0
  · have HE := Lib.hid (show (if (1048576 : Int) - (n : Int) < 0 then (-1 : Int) else 1048576 - n) = -1 from if_pos hbig)
    go_enter Try.func5, Try.ntmps5
    go_wp2_with fail
    refine (szPg_calls hn (by omega) (by omega)).mono ?_
    rw [HE.out]
    rintro e w1 ⟨rfl, hb1⟩
    have B1 := below_past hb1
    clear hb1
    go_wp2_with fail
    go_ret
    exact ⟨rfl, B1⟩
  have HE := Lib.hid (show (if (1048576 : Int) - (n : Int) < 0 then (-1 : Int) else 1048576 - n) = 1048576 - n from if_neg hbig)
  have hge : ¬ ((1048576 : Int) - (n : Int) < 0) := hbig
  have hn1 : n ≤ 17592186044416 := by omega
  go_enter Try.func5, Try.ntmps5
  go_wp2_with fail
  refine (szPg_calls hn (by omega) (by omega)).mono ?_
  rw [HE.out]
  rintro e w1 ⟨rfl, hb1⟩
  have R1 := Row.new hb1
  have B1 := below_past hb1
  have U1 := hU.below B1
  have l0 := R1.lt
  have a0 := R1.cell 0
  have a1 := R1.cell 1
  have a2 := R1.cell 2
  have a3 := R1.cell 3
  simp at a0 a1 a2 a3
  clear hb1
  go_wp2_with fail
  refine (toPg_calls U1 hn1).mono ?_
  rintro e w2 ⟨v, rfl, O2, hb2⟩
  obtain ⟨v2, c2, rfl, _, _, L2⟩ := O2.shape
  have R2 := R1.below hb2
  have B2 := B1.trans (hb2.mono B1.size)
  have U2 := U1.below hb2
  clear hb2 R1 B1 U1 O2 l0 a0 a1 a2 a3
  go_wp2_with fail
  refine (sPageFault_calls L2 hn1).mono ?_
  rintro e w3 ⟨rfl, hb3⟩
  have R3 := R2.below hb3
  have B3 := B2.trans (hb3.mono B2.size)
  have U3 := U2.below hb3
  have l0 := R3.lt
  have a0 := R3.cell 0
  have a1 := R3.cell 1
  have a2 := R3.cell 2
  have a3 := R3.cell 3
  simp at a0 a1 a2 a3
  clear hb3 R2 B2 U2 L2
  obtain ⟨f, hf⟩ : ∃ f, pageFault p = f := ⟨_, rfl⟩
  have HF := Lib.hid hf
  have hf2 : pageFault ⟨p.kind, p.cls, p.used, p.run⟩ = f := hf
  rw [hf2]
  clear hf hf2
  have hff : (f != f) = false := by simp
  go_wp2_with fail
  refine (toPg_calls U3 hn1).mono ?_
  rintro e w4 ⟨v, rfl, O4, hb4⟩
  obtain ⟨v4, c4, rfl, _, _, L4⟩ := O4.shape
  have R4 := R3.below hb4
  have B4 := B3.trans (hb4.mono B3.size)
  have U4 := U3.below hb4
  clear hb4 R3 B3 U3 O4 l0 a0 a1 a2 a3
  go_wp2_with fail
  refine (pageFault_calls (L4.alloc _) hn1).mono ?_
  rw [HF.out]
  rintro e w5 ⟨rfl, hb5⟩
  have X5 := Row.new hb5
  have R5 := R4.below (below_past hb5)
  have B5 := B4.trans ((below_past hb5).mono B4.size)
  have U5 := U4.below (below_past hb5)
  have L5 := L4.below (below_past hb5)
  have a0 := R5.cell 0
  have a1 := R5.cell 1
  have a2 := R5.cell 2
  have a3 := R5.cell 3
  have x0 := X5.cell 0
  have x1 := X5.cell 1
  have x2 := X5.cell 2
  have x3 := X5.cell 3
  simp at a0 a1 a2 a3 x0 x1 x2 x3
  clear hb5 R4 B4 U4 L4 R5 X5
  have kB := Below.refl w5.heap.size w5
  go_wp2_with fail
  go_region_held3 (fun w' => w'.cell? ⟨w4.heap.size, 0, none⟩ = some (.int .i64 p.kind) ∧ w'.cell? ⟨w4.heap.size, 1, none⟩ = some (.int .i64 p.cls) ∧ w'.cell? ⟨w4.heap.size, 2, none⟩ = some (.slice v4 n c4) ∧ w'.cell? ⟨w4.heap.size, 3, none⟩ = some (.int .i64 p.run) ∧ w'.cell? ⟨w.heap.size, 0, none⟩ = some (.int .i64 p.kind) ∧ w'.cell? ⟨w.heap.size, 1, none⟩ = some (.int .i64 p.cls) ∧ w'.cell? ⟨w.heap.size, 2, none⟩ = some (.slice a n c) ∧ w'.cell? ⟨w.heap.size, 3, none⟩ = some (.int .i64 p.run) ∧ Below w5.heap.size w5 w') (first | with_reducible assumption | with_reducible exact ⟨x0, x1, x2, x3, a0, a1, a2, a3, kB.drew⟩ | exact ⟨x0, x1, x2, x3, a0, a1, a2, a3, kB.drew⟩)
    (first
      | (go_at_call 47; obtain ⟨y0, y1, y2, y3, y4, y5, y6, y7, kb⟩ := ‹_ ∧ _ ∧ _ ∧ _ ∧ _ ∧ _ ∧ _ ∧ _ ∧ Below _ _ _›; refine (toPg_calls (U5.below kb) hn1).mono ?_; rintro e w' ⟨vz, rfl, Oz, b1⟩; obtain ⟨vz0, cz, rfl, _, _, Lz⟩ := Oz.shape; have hS' := keep8 ⟨y0, y1, y2, y3, y4, y5, y6, y7, kb⟩ b1; clear Oz)
      | (go_at_call 48; obtain ⟨y0, y1, y2, y3, y4, y5, y6, y7, kb⟩ := ‹_ ∧ _ ∧ _ ∧ _ ∧ _ ∧ _ ∧ _ ∧ _ ∧ Below _ _ _›; refine (eqPg_calls (L5.below kb) Lz hn1).mono ?_; rintro e w'' ⟨rfl, b2⟩; have hS'' := keep8 ⟨y0, y1, y2, y3, y4, y5, y6, y7, kb⟩ b2))
  obtain ⟨_, _, _, _, _, _, _, _, kb⟩ := hS''
  have B7 := B5.trans (kb.mono B5.size)
  clear kb hS'
  go_wp2_with fail
  go_ret
  exact ⟨rfl, B7⟩
end Go.Proofs.Ytkikjoalhohlgaa
