/- Joined texts (Law7t): steps of the proofs of chapter 5's laws. -/
import Derived.Test.YtoaeglhjaandmaaM6
set_option linter.unusedVariables false
set_option linter.unusedSimpArgs false
/- The law of Translate answers true at every argument and writes nothing that was there. -/
namespace Go.Proofs.Ytoaeglhjaandmaa
open Go.RowKit

set_option maxHeartbeats 4000000 in
set_option maxRecDepth 100000 in
theorem lawTranslate {ao ta : Option Addr} {n cc m tc : Nat} {F C tn p : Int} {ts : List (List Int × Int)} {fr : List Int} {w : World} (hT : Tens w ao n ts) (hS : Short 9223372036854775807 ts) (hn : n ≤ 9223372036854775807) (hf : Ints w ta m fr) (hm : m ≤ 9223372036854775807) :
    Calls Try.prog 7 #[.agg #[.int .i64 F, .int .i64 C, .slice ao n cc], .agg #[.int .i64 tn, .slice ta m tc], .int .i64 p] w fun e w' => e = .returned (.bool true) ∧ Below w.heap.size w w' := by
  have HL := Lib.hid hf.1
  go_enter Try.func7, Try.ntmps7
  go_wp2_with fail
  refine (szConfig_calls ((hT.alloc _).alloc _) hS hn).mono ?_
  rintro e w1 ⟨rfl | ⟨r, rfl, r0, r1, hn1, hS1⟩, hb1⟩
  · have hb := below_past (below_past hb1)
    clear hb1
    go_wp2_with fail
    go_ret
    exact ⟨rfl, hb⟩
  have hSh := hS1.mono (M := 17592186044416) (by omega)
  have hr : ¬ (r < 0) := by omega
  obtain ⟨RA1, RB1, B1, Z1⟩ := two_new hb1
  have RA1 : Row w1 w.heap.size 45 #[.int .i64 F, .int .i64 C, .slice ao n cc] := RA1
  have RB1 : Row w1 (w.heap.size + 1) 46 #[.int .i64 tn, .slice ta m tc] := RB1
  have HS1 := Lib.hid hS1
  clear hb1 hS1
  have rac0 := Row.cell (RA1) 0
  have rac1 := Row.cell (RA1) 1
  have rac2 := Row.cell (RA1) 2
  have rbc0 := Row.cell (RB1) 0
  have rbc1 := Row.cell (RB1) 1
  have ral := Row.lt RA1
  have rbl := Row.lt RB1
  simp at rac0 rac1 rac2 rbc0 rbc1
  go_wp2_with fail
  refine (szTable_calls hm r0 r1).mono ?_
  by_cases hbig : r - (m : Int) < 0
  · rw [if_pos hbig]
    rintro e w2 ⟨rfl, hb2⟩
    have hb := B1.trans (hb2.mono B1.size)
    clear hb2
    go_wp2_with fail
    go_ret
    exact ⟨rfl, hb⟩
  rw [if_neg hbig]
  rintro e w2 ⟨rfl, hb2⟩
  have hm1 : m ≤ 1048576 := by omega
  have hge : ¬ (r - (m : Int) < 0) := hbig
  clear hbig
  clear rac0 rac1 rac2 rbc0 rbc1 ral rbl
  have RA2 := Row.below RA1 hb2
  have RB2 := Row.below RB1 hb2
  have B2 := B1.trans (hb2.mono B1.size)
  have Z2 := hb2.size
  clear RA1 RB1
  clear hb2
  obtain ⟨⟨q, t⟩, hq⟩ : ∃ r, translate F C ts tn fr p = r := ⟨_, rfl⟩
  have HQ := Lib.hid hq
  clear hq
  have rac0 := Row.cell (RA2) 0
  have rac1 := Row.cell (RA2) 1
  have rac2 := Row.cell (RA2) 2
  have rbc0 := Row.cell (RB2) 0
  have rbc1 := Row.cell (RB2) 1
  have ral := Row.lt RA2
  have rbl := Row.lt RB2
  simp at rac0 rac1 rac2 rbc0 rbc1
  have HTI := Lib.hid (hT.below B2)
  have HFI := Lib.hid (hf.below B2)
  have hA0 : AS w F C ao n cc tn ta m tc w2 w2 := ⟨rac0, rac1, rac2, rbc0, rbc1, by omega, Below.refl _ _⟩
  have hA1 := hA0.keep ((Below.refl w2.heap.size w2).drew)
  have hA2 := fun o : Obj => (hA0.keep (((Below.refl w2.heap.size w2).alloc (Nat.le_refl _) o).drew)).more
  have hwd : w2.drew.heap.size = w2.heap.size := rfl
  go_upto_region 8 with (fail)
  go_cut [8] (fun p wx => ResP w2 q t p wx)
  case first =>
    go_region_held3 (fun a => a.cell? ⟨w.heap.size, 0, none⟩ = some (.int .i64 F) ∧ a.cell? ⟨w.heap.size, 1, none⟩ = some (.int .i64 C) ∧ a.cell? ⟨w.heap.size, 2, none⟩ = some (.slice ao n cc) ∧ a.cell? ⟨w.heap.size + 1, 0, none⟩ = some (.int .i64 tn) ∧ a.cell? ⟨w.heap.size + 1, 1, none⟩ = some (.slice ta m tc) ∧ AS w F C ao n cc tn ta m tc w2 a) (first | with_reducible assumption | (with_reducible refine AS.s2 ?_ ‹_ ∧ _ ∧ _ ∧ _ ∧ _ ∧ AS _ _ _ _ _ _ _ _ _ _ _ _›; first | exact Nat.le_refl _ | omega) | with_reducible exact AS.al _ ‹_ ∧ _ ∧ _ ∧ _ ∧ _ ∧ AS _ _ _ _ _ _ _ _ _ _ _ _› | with_reducible exact hA1.more | with_reducible exact hA2 _ | with_reducible exact AS.al _ hA1.more | exact hA1.more)
      (first
        | (go_at_call 28; obtain ⟨y0, y1, y2, y3, y4, kb⟩ := ‹_ ∧ _ ∧ _ ∧ _ ∧ _ ∧ AS _ _ _ _ _ _ _ _ _ _ _ _›; refine (toConfig_calls (HTI.out.below (kb.bel)) hSh hn1).mono ?_; rintro e wC ⟨gC, rfl, hgC, hIC, bC⟩; have hS1 := (kb.below bC).more; have hs1 := kb.bel.size; have hs1b := bC.size; (try (have hs1c : w2.heap.size + 1 ≤ wC.heap.size := by simpa using bC.size)); (try (have rN : Row _ w2.heap.size 36 #[.int .i64 0, .int .i64 0] := ((bC).block _ (by simp)).trans (heap_alloc_new w2 _))))
        | (go_at_call 29; obtain ⟨y0, y1, y2, y3, y4, kb⟩ := ‹_ ∧ _ ∧ _ ∧ _ ∧ _ ∧ AS _ _ _ _ _ _ _ _ _ _ _ _›; refine (toTable_calls (HFI.out.below (kb.bel)) (by omega)).mono ?_; rintro e wT ⟨vT, rfl, oT, bT⟩; obtain ⟨xT, cT, rfl, hcT, _, _⟩ := oT.shape; have hS2 := (kb.below bT).more; have hs2 := kb.bel.size; have hs2b := bT.size; (try (have hs2c : wC.heap.size + 1 ≤ wT.heap.size := by simpa using bT.size)); (try (have rM := Row.below rN bT)); (try (have rM : Row _ wC.heap.size 36 #[.int .i64 0, .int .i64 0] := ((bT).block _ (by simp)).trans (heap_alloc_new wC _))); (first | (have hICT := hIC.below bT) | (have hICT := (hIC.below ((Below.refl _ _).alloc (Nat.le_refl _) _)).below bT)))
        | (go_at_call 20; obtain ⟨y0, y1, y2, y3, y4, kb⟩ := ‹_ ∧ _ ∧ _ ∧ _ ∧ _ ∧ AS _ _ _ _ _ _ _ _ _ _ _ _›; (first | refine (sTranslate_calls hICT.tens hSh (Nat.le_refl _) (by omega) oT.ints (by omega) hcT).mono ?_ | refine (sTranslate_calls (hICT.tens.alloc _) hSh (Nat.le_refl _) (by omega) (oT.ints.alloc _) (by omega) hcT).mono ?_); rw [HQ.out]; rintro e wS ⟨rfl, bS⟩; have hS3 := (kb.below bS).more; have hs3 := kb.bel.size; have hs4 := bS.size; (try (have rL := Row.below rM bS)); (try (have rL : Row _ wT.heap.size 36 #[.int .i64 0, .int .i64 0] := ((bS).block _ (by simp)).trans (heap_alloc_new wT _))); (try (have z0 := rL.cell 0; have z1 := rL.cell 1; have zf0 := frozen_of_row _ _ 0 _ _ rL; have zf1 := frozen_of_row _ _ 1 _ _ rL; simp at z0 z1))))
    all_goals
      go_wp2_with fail
      go_meet
      case rel => (first | exact ResP.al hS3.2.2.2.2.2.bel | exact ResP.st hS3.2.2.2.2.2.bel rL (by first | exact Nat.le_refl _ | omega))
  obtain ⟨w3, rfl⟩ : ∃ w3, w3 = wc := ⟨_, rfl⟩
  obtain ⟨bw, rfl, RW3, hbl, hbg, kb3⟩ := hcut
  clear rac0 rac1 rac2 rbc0 rbc1 ral rbl HTI HFI hA0 hA1 hA2 hwd
  have RA3 := Row.below RA2 kb3
  have RB3 := Row.below RB2 kb3
  have B3 := B2.trans (kb3.mono B2.size)
  have Z3 := kb3.size
  clear RA2 RB2
  have rac0 := Row.cell (RA3) 0
  have rac1 := Row.cell (RA3) 1
  have rac2 := Row.cell (RA3) 2
  have rbc0 := Row.cell (RB3) 0
  have rbc1 := Row.cell (RB3) 1
  have rwc0 := Row.cell (RW3) 0
  have rwc1 := Row.cell (RW3) 1
  have ral := Row.lt RA3
  have rbl := Row.lt RB3
  have rwl := Row.lt RW3
  simp at rac0 rac1 rac2 rbc0 rbc1 rwc0 rwc1
  have T3 := hT.below B3
  go_wp2_with fail
  refine (toConfig_calls T3 hSh hn1).mono ?_
  rintro e w4 ⟨gX, rfl, hgX, hIX, hb4⟩
  clear rac0 rac1 rac2 rbc0 rbc1 rwc0 rwc1 ral rbl rwl T3
  have RA4 := Row.below RA3 hb4
  have RB4 := Row.below RB3 hb4
  have RW4 := Row.below RW3 hb4
  have B4 := B3.trans (hb4.mono B3.size)
  have Z4 := hb4.size
  clear RA3 RB3 RW3
  obtain ⟨w5, hw5⟩ : ∃ w5, w4.alloc (.cells #[.int .i64 F, .int .i64 C, .slice (some ⟨gX, 0, none⟩) n n] 26) = w5 := ⟨_, rfl⟩
  have hb5 : Below w4.heap.size w4 w5 := by rw [← hw5]; exact (Below.refl _ _).alloc (Nat.le_refl _) _
  have RX5 : Row w5 w4.heap.size 26 #[.int .i64 F, .int .i64 C, .slice (some ⟨gX, 0, none⟩) n n] := by rw [← hw5]; exact heap_alloc_new _ _
  have hw5s : w5.heap.size = w4.heap.size + 1 := by rw [← hw5]; simp
  have RA5 := Row.below RA4 hb5
  have RB5 := Row.below RB4 hb5
  have RW5 := Row.below RW4 hb5
  have B5 := B4.trans (hb5.mono B4.size)
  have Z5 := hb5.size
  clear RA4 RB4 RW4
  have I5 := hIX.below hb5
  clear hIX hb4 hb5
  have rac0 := Row.cell (RA5) 0
  have rac1 := Row.cell (RA5) 1
  have rac2 := Row.cell (RA5) 2
  have rbc0 := Row.cell (RB5) 0
  have rbc1 := Row.cell (RB5) 1
  have rwc0 := Row.cell (RW5) 0
  have rwc1 := Row.cell (RW5) 1
  have rxc0 := Row.cell (RX5) 0
  have rxc1 := Row.cell (RX5) 1
  have rxc2 := Row.cell (RX5) 2
  have ral := Row.lt RA5
  have rbl := Row.lt RB5
  have rwl := Row.lt RW5
  have rxl := Row.lt RX5
  simp at rac0 rac1 rac2 rbc0 rbc1 rwc0 rwc1 rxc0 rxc1 rxc2
  have f5 := hf.below B5
  go_wp2_with fail
  refine (toTable_calls f5 (by omega)).mono ?_
  rintro e w6 ⟨vY, rfl, oY, hb6⟩
  obtain ⟨yo, yc, rfl, hyc, _, _⟩ := oY.shape
  have O6 := oY.in_
  clear rac0 rac1 rac2 rbc0 rbc1 rwc0 rwc1 rxc0 rxc1 rxc2 ral rbl rwl rxl f5 oY
  have RA6 := Row.below RA5 hb6
  have RB6 := Row.below RB5 hb6
  have RW6 := Row.below RW5 hb6
  have RX6 := Row.below RX5 hb6
  have I6 := I5.below hb6
  have B6 := B5.trans (hb6.mono B5.size)
  have Z6 := hb6.size
  clear RA5 RB5 RW5 RX5 I5
  obtain ⟨w7, hw7⟩ : ∃ w7, w6.alloc (.cells #[.int .i64 tn, .slice yo m yc] 29) = w7 := ⟨_, rfl⟩
  have hb7 : Below w6.heap.size w6 w7 := by rw [← hw7]; exact (Below.refl _ _).alloc (Nat.le_refl _) _
  have RY7 : Row w7 w6.heap.size 29 #[.int .i64 tn, .slice yo m yc] := by rw [← hw7]; exact heap_alloc_new _ _
  have hw7s : w7.heap.size = w6.heap.size + 1 := by rw [← hw7]; simp
  have RA7 := Row.below RA6 hb7
  have RB7 := Row.below RB6 hb7
  have RW7 := Row.below RW6 hb7
  have RX7 := Row.below RX6 hb7
  have I7 := I6.below hb7
  have O7 := O6.below hb7
  have B7 := B6.trans (hb7.mono B6.size)
  have Z7 := hb7.size
  clear RA6 RB6 RW6 RX6 I6 O6
  clear hb6 hb7
  have rac0 := Row.cell (RA7) 0
  have rac1 := Row.cell (RA7) 1
  have rac2 := Row.cell (RA7) 2
  have rbc0 := Row.cell (RB7) 0
  have rbc1 := Row.cell (RB7) 1
  have rwc0 := Row.cell (RW7) 0
  have rwc1 := Row.cell (RW7) 1
  have rxc0 := Row.cell (RX7) 0
  have rxc1 := Row.cell (RX7) 1
  have rxc2 := Row.cell (RX7) 2
  have ryc0 := Row.cell (RY7) 0
  have ryc1 := Row.cell (RY7) 1
  have ral := Row.lt RA7
  have rbl := Row.lt RB7
  have rwl := Row.lt RW7
  have rxl := Row.lt RX7
  have ryl := Row.lt RY7
  simp at rac0 rac1 rac2 rbc0 rbc1 rwc0 rwc1 rxc0 rxc1 rxc2 ryc0 ryc1
  go_wp2_with fail
  refine (translate_calls I7.tens hSh (Nat.le_refl _) (by omega) O7.ints (by omega)).mono ?_
  rw [HQ.out]
  rintro e w8 ⟨rfl, hb8⟩
  clear rac0 rac1 rac2 rbc0 rbc1 rwc0 rwc1 rxc0 rxc1 rxc2 ryc0 ryc1 ral rbl rwl rxl ryl
  have RA8 := Row.below RA7 hb8
  have RB8 := Row.below RB7 hb8
  have RW8 := Row.below RW7 hb8
  have RX8 := Row.below RX7 hb8
  have RY8 := Row.below RY7 hb8
  have I8 := I7.below hb8
  have O8 := O7.below hb8
  have B8 := B7.trans (hb8.mono B7.size)
  have Z8 := hb8.size
  clear RA7 RB7 RW7 RX7 RY7 I7 O7
  obtain ⟨w9, hw9⟩ : ∃ w9, w8.alloc (.cells #[.int .i64 q, .int .i64 t] 36) = w9 := ⟨_, rfl⟩
  have hb9 : Below w8.heap.size w8 w9 := by rw [← hw9]; exact (Below.refl _ _).alloc (Nat.le_refl _) _
  have RG9 : Row w9 w8.heap.size 36 #[.int .i64 q, .int .i64 t] := by rw [← hw9]; exact heap_alloc_new _ _
  have hw9s : w9.heap.size = w8.heap.size + 1 := by rw [← hw9]; simp
  have RA9 := Row.below RA8 hb9
  have RB9 := Row.below RB8 hb9
  have RW9 := Row.below RW8 hb9
  have RX9 := Row.below RX8 hb9
  have RY9 := Row.below RY8 hb9
  have I9 := I8.below hb9
  have O9 := O8.below hb9
  have B9 := B8.trans (hb9.mono B8.size)
  have Z9 := hb9.size
  clear RA8 RB8 RW8 RX8 RY8 I8 O8
  clear hb8 hb9
  have rac0 := Row.cell (RA9) 0
  have rac1 := Row.cell (RA9) 1
  have rac2 := Row.cell (RA9) 2
  have rbc0 := Row.cell (RB9) 0
  have rbc1 := Row.cell (RB9) 1
  have rwc0 := Row.cell (RW9) 0
  have rwc1 := Row.cell (RW9) 1
  have rxc0 := Row.cell (RX9) 0
  have rxc1 := Row.cell (RX9) 1
  have rxc2 := Row.cell (RX9) 2
  have ryc0 := Row.cell (RY9) 0
  have ryc1 := Row.cell (RY9) 1
  have rgc0 := Row.cell (RG9) 0
  have rgc1 := Row.cell (RG9) 1
  have ral := Row.lt RA9
  have rbl := Row.lt RB9
  have rwl := Row.lt RW9
  have rxl := Row.lt RX9
  have ryl := Row.lt RY9
  have rgl := Row.lt RG9
  simp at rac0 rac1 rac2 rbc0 rbc1 rwc0 rwc1 rxc0 rxc1 rxc2 ryc0 ryc1 rgc0 rgc1
  go_wp2_with fail
  refine eqPair_calls.mono ?_
  rintro e w10 ⟨rfl, hb10⟩
  clear rac0 rac1 rac2 rbc0 rbc1 rwc0 rwc1 rxc0 rxc1 rxc2 ryc0 ryc1 rgc0 rgc1 ral rbl rwl rxl ryl rgl
  have RA10 := Row.below RA9 hb10
  have RB10 := Row.below RB9 hb10
  have RW10 := Row.below RW9 hb10
  have RX10 := Row.below RX9 hb10
  have RY10 := Row.below RY9 hb10
  have RG10 := Row.below RG9 hb10
  have I10 := I9.below hb10
  have O10 := O9.below hb10
  have B10 := B9.trans (hb10.mono B9.size)
  have Z10 := hb10.size
  clear RA9 RB9 RW9 RX9 RY9 RG9 I9 O9
  clear hb10
  have rac0 := Row.cell (RA10) 0
  have rac1 := Row.cell (RA10) 1
  have rac2 := Row.cell (RA10) 2
  have rbc0 := Row.cell (RB10) 0
  have rbc1 := Row.cell (RB10) 1
  have rwc0 := Row.cell (RW10) 0
  have rwc1 := Row.cell (RW10) 1
  have rxc0 := Row.cell (RX10) 0
  have rxc1 := Row.cell (RX10) 1
  have rxc2 := Row.cell (RX10) 2
  have ryc0 := Row.cell (RY10) 0
  have ryc1 := Row.cell (RY10) 1
  have rgc0 := Row.cell (RG10) 0
  have rgc1 := Row.cell (RG10) 1
  have ral := Row.lt RA10
  have rbl := Row.lt RB10
  have rwl := Row.lt RW10
  have rxl := Row.lt RX10
  have ryl := Row.lt RY10
  have rgl := Row.lt RG10
  simp at rac0 rac1 rac2 rbc0 rbc1 rwc0 rwc1 rxc0 rxc1 rxc2 ryc0 ryc1 rgc0 rgc1
  have TA := hT.below B10
  have kB := Below.refl w10.heap.size w10
  have IA := I10
  go_wp2_with fail
  go_region_held3 (fun w' => w'.cell? ⟨w4.heap.size, 0, none⟩ = some (.int .i64 F) ∧ w'.cell? ⟨w4.heap.size, 1, none⟩ = some (.int .i64 C) ∧ w'.cell? ⟨w4.heap.size, 2, none⟩ = some (.slice (some ⟨gX, 0, none⟩) n n) ∧ w'.cell? ⟨w.heap.size, 0, none⟩ = some (.int .i64 F) ∧ w'.cell? ⟨w.heap.size, 1, none⟩ = some (.int .i64 C) ∧ w'.cell? ⟨w.heap.size, 2, none⟩ = some (.slice ao n cc) ∧ Below w10.heap.size w10 w') (first | assumption | exact ⟨rxc0, rxc1, rxc2, rac0, rac1, rac2, kB.drew⟩)
    (first
      | (go_at_call 28; obtain ⟨y0, y1, y2, y3, y4, y5, kb⟩ := ‹_ ∧ _ ∧ _ ∧ _ ∧ _ ∧ _ ∧ Below _ _ _›; refine (toConfig_calls (TA.below kb) hSh hn1).mono ?_; rintro e wD ⟨gD, rfl, hgD, hID, bD⟩; have hD1 := keep6 ⟨y0, y1, y2, y3, y4, y5, kb⟩ bD)
      | (go_at_call 30; obtain ⟨y0, y1, y2, y3, y4, y5, kb⟩ := ‹_ ∧ _ ∧ _ ∧ _ ∧ _ ∧ _ ∧ Below _ _ _›; refine (eqConfig_calls ((IA.below kb).tens) hID.tens hSh hn1).mono ?_; rintro e wE ⟨rfl, bE⟩; have hD2 := keep6 ⟨y0, y1, y2, y3, y4, y5, kb⟩ bE))
  obtain ⟨_, _, _, _, _, _, kb11⟩ := hD2
  clear rac0 rac1 rac2 rbc0 rbc1 rwc0 rwc1 rxc0 rxc1 rxc2 ryc0 ryc1 rgc0 rgc1 ral rbl rwl rxl ryl rgl TA kB IA hD1 hID bD bE hgD
  have RA11 := Row.below RA10 kb11
  have RB11 := Row.below RB10 kb11
  have RW11 := Row.below RW10 kb11
  have RX11 := Row.below RX10 kb11
  have RY11 := Row.below RY10 kb11
  have RG11 := Row.below RG10 kb11
  have I11 := I10.below kb11
  have O11 := O10.below kb11
  have B11 := B10.trans (kb11.mono B10.size)
  have Z11 := kb11.size
  clear RA10 RB10 RW10 RX10 RY10 RG10 I10 O10
  have rac0 := Row.cell (RA11) 0
  have rac1 := Row.cell (RA11) 1
  have rac2 := Row.cell (RA11) 2
  have rbc0 := Row.cell (RB11) 0
  have rbc1 := Row.cell (RB11) 1
  have rwc0 := Row.cell (RW11) 0
  have rwc1 := Row.cell (RW11) 1
  have rxc0 := Row.cell (RX11) 0
  have rxc1 := Row.cell (RX11) 1
  have rxc2 := Row.cell (RX11) 2
  have ryc0 := Row.cell (RY11) 0
  have ryc1 := Row.cell (RY11) 1
  have rgc0 := Row.cell (RG11) 0
  have rgc1 := Row.cell (RG11) 1
  have ral := Row.lt RA11
  have rbl := Row.lt RB11
  have rwl := Row.lt RW11
  have rxl := Row.lt RX11
  have ryl := Row.lt RY11
  have rgl := Row.lt RG11
  simp at rac0 rac1 rac2 rbc0 rbc1 rwc0 rwc1 rxc0 rxc1 rxc2 ryc0 ryc1 rgc0 rgc1
  have fA := hf.below B11
  have kB := Below.refl wE.heap.size wE
  have OA := O11
  go_wp2_with fail
  go_region_held3 (fun w' => w'.cell? ⟨w6.heap.size, 0, none⟩ = some (.int .i64 tn) ∧ w'.cell? ⟨w6.heap.size, 1, none⟩ = some (.slice yo m yc) ∧ w'.cell? ⟨w.heap.size + 1, 0, none⟩ = some (.int .i64 tn) ∧ w'.cell? ⟨w.heap.size + 1, 1, none⟩ = some (.slice ta m tc) ∧ Below wE.heap.size wE w') (first | assumption | exact ⟨ryc0, ryc1, rbc0, rbc1, kB.drew⟩)
    (first
      | (go_at_call 29; obtain ⟨y0, y1, y2, y3, kb⟩ := ‹_ ∧ _ ∧ _ ∧ _ ∧ Below _ _ _›; refine (toTable_calls (fA.below kb) (by omega)).mono ?_; rintro e wH ⟨vH, rfl, oH, bH⟩; obtain ⟨xH, cH, rfl, _, _, _⟩ := oH.shape; have hH1 := keep4 ⟨y0, y1, y2, y3, kb⟩ bH)
      | (go_at_call 31; obtain ⟨y0, y1, y2, y3, kb⟩ := ‹_ ∧ _ ∧ _ ∧ _ ∧ Below _ _ _›; refine (eqTable_calls (OA.below kb).ints oH.ints (by omega)).mono ?_; rintro e wJ ⟨rfl, bJ⟩; have hH2 := keep4 ⟨y0, y1, y2, y3, kb⟩ bJ))
  obtain ⟨_, _, _, _, kb12⟩ := hH2
  clear rac0 rac1 rac2 rbc0 rbc1 rwc0 rwc1 rxc0 rxc1 rxc2 ryc0 ryc1 rgc0 rgc1 ral rbl rwl rxl ryl rgl fA kB OA hH1 oH bH bJ
  have RA12 := Row.below RA11 kb12
  have RB12 := Row.below RB11 kb12
  have RW12 := Row.below RW11 kb12
  have RX12 := Row.below RX11 kb12
  have RY12 := Row.below RY11 kb12
  have RG12 := Row.below RG11 kb12
  have I12 := I11.below kb12
  have O12 := O11.below kb12
  have B12 := B11.trans (kb12.mono B11.size)
  have Z12 := kb12.size
  clear RA11 RB11 RW11 RX11 RY11 RG11 I11 O11
  go_wp2_with fail
  go_ret
  exact ⟨rfl, B12⟩
end Go.Proofs.Ytoaeglhjaandmaa
