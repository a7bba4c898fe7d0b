/- Joined texts (Law7w, Args2, Args7): steps of the proofs of chapter 5's laws. -/
import Derived.Lib.SmallJoins
import Derived.Deep.Slices
import Derived.Deep.Fields
import Derived.ChangeSame
import Derived.OpenShut
import Derived.Test.YtoaeglhjaandmaaM1
import Derived.Test.YtoaeglhjaandmaaM6
import Derived.Test.YtoaeglhjaandmaaM7
set_option linter.unusedVariables false
set_option linter.unusedSimpArgs false
/- The law of GatherWords answers true at every argument and writes nothing that was there. -/
namespace Go.Proofs.Ytoaeglhjaandmaa
open Go.RowKit

/-- A box with a code and words, all of it new. -/
def ResS (w2 : World) (c : Int) (k : Nat) (xs : List Int) (p : Value) (wx : World) : Prop :=
  ∃ bw vo vc, p = .pointer (some ⟨bw, 0, none⟩) ∧ Row wx bw 60 #[.int .i64 c, .slice vo k vc] ∧ OwnIn wx w2.heap.size wx.heap.size (.slice vo k vc) k xs ∧ bw < wx.heap.size ∧ w2.heap.size ≤ bw ∧ Below w2.heap.size w2 wx
theorem ResS.st {w2 wS : World} {g B k : Nat} {vo : Option Addr} {vc : Nat} {c : Int} {xs : List Int} {x y : Value} (hB : Below w2.heap.size w2 wS) (r : Row wS g 60 #[x, y]) (ho : OwnI wS B (.slice vo k vc) k xs) (h1 : g < B) (h2 : w2.heap.size ≤ g) :
    ResS w2 c k xs (.pointer (some ⟨g, 0, none⟩)) ((wS.setCell ⟨g, 0, none⟩ (.int .i64 c)).setCell ⟨g, 1, none⟩ (.slice vo k vc)) := by
  have hr := Row.upd7 (Row.upd7 (i := 0) r (.int .i64 c)) (i := 1) (.slice vo k vc)
  simp at hr
  have hO := (ho.set_ (a := ⟨g, 0, none⟩) h1 (.int .i64 c)).set_ (a := ⟨g, 1, none⟩) h1 (.slice vo k vc)
  exact ⟨g, vo, vc, rfl, hr, (hO.base (by omega)).in_, hr.lt, h2, (hB.setCell (p := ⟨g, 0, none⟩) h2 _).setCell (p := ⟨g, 1, none⟩) h2 _⟩
theorem ResS.al {w2 wS : World} {B k : Nat} {vo : Option Addr} {vc : Nat} {c : Int} {xs : List Int} (hB : Below w2.heap.size w2 wS) (ho : OwnI wS B (.slice vo k vc) k xs) (h2 : w2.heap.size ≤ B) :
    ResS w2 c k xs (.pointer (some ⟨wS.heap.size, 0, none⟩)) (wS.alloc (.cells #[.int .i64 c, .slice vo k vc] 60)) :=
  ⟨wS.heap.size, vo, vc, rfl, heap_alloc_new _ _, ((ho.below ((Below.refl _ _).alloc (Nat.le_refl _) _)).base h2).in_, by simp, hB.size, hB.alloc hB.size _⟩

set_option maxHeartbeats 4000000 in
set_option maxRecDepth 100000 in
theorem lawGatherWords {ao ta wa : Option Addr} {n cc m tc wn wk : Nat} {F C tn : Int} {ts : List (List Int × Int)} {fr ws : List Int} {w : World} (hT : Tens w ao n ts) (hS : Short 9223372036854775807 ts) (hn : n ≤ 9223372036854775807) (hf : Ints w ta m fr) (hm : m ≤ 9223372036854775807) (hw : Ints w wa wn ws) (hwk0 : wn ≤ wk) (hwn0 : wn ≤ 9223372036854775807) :
    Calls Try.prog 8 #[.agg #[.int .i64 F, .int .i64 C, .slice ao n cc], .agg #[.int .i64 tn, .slice ta m tc], .slice wa wn wk] w fun e w' => e = .returned (.bool true) ∧ Below w.heap.size w w' := by
  have HL := Lib.hid hf.1
  go_enter Try.func8, Try.ntmps8
  by_cases hbw : (wn : Int) > 1048576
  · go_wp2_with fail
    go_ret
    exact ⟨rfl, ((Below.refl _ _).alloc (Nat.le_refl _) _).alloc (by simp) _⟩
  have hwn1 : wn ≤ 1048576 := by omega
  go_wp2_with fail
  refine (szConfig_calls ((hT.alloc _).alloc _) hS hn).mono ?_
  rintro e w1 ⟨rfl | ⟨r, rfl, r0, r1, hn1, hS1⟩, hb1⟩
  · have hb := below_past (below_past hb1)
    clear hb1
    go_wp2_with fail
    go_ret
    exact ⟨rfl, hb⟩
  have hSh := hS1.mono (M := 17592186044416) (by omega)
  have hr : ¬ (r < 0) := by omega
  obtain ⟨RA1, RB1, B1, Z1⟩ := two_new hb1
  have RA1 : Row w1 w.heap.size 45 #[.int .i64 F, .int .i64 C, .slice ao n cc] := RA1
  have RB1 : Row w1 (w.heap.size + 1) 46 #[.int .i64 tn, .slice ta m tc] := RB1
  have HS1 := Lib.hid hS1
  clear hb1 hS1
  have rac0 := Row.cell (RA1) 0
  have rac1 := Row.cell (RA1) 1
  have rac2 := Row.cell (RA1) 2
  have rbc0 := Row.cell (RB1) 0
  have rbc1 := Row.cell (RB1) 1
  have ral := Row.lt RA1
  have rbl := Row.lt RB1
  simp at rac0 rac1 rac2 rbc0 rbc1
  go_wp2_with fail
  refine (szTable_calls hm r0 r1).mono ?_
  by_cases hbig : r - (m : Int) < 0
  · rw [if_pos hbig]
    rintro e w2 ⟨rfl, hb2⟩
    have hb := B1.trans (hb2.mono B1.size)
    clear hb2
    go_wp2_with fail
    go_ret
    exact ⟨rfl, hb⟩
  rw [if_neg hbig]
  rintro e w2 ⟨rfl, hb2⟩
  have hm1 : m ≤ 1048576 := by omega
  have hge : ¬ (r - (m : Int) < 0) := hbig
  clear hbig
  clear rac0 rac1 rac2 rbc0 rbc1 ral rbl
  have RA2 := Row.below RA1 hb2
  have RB2 := Row.below RB1 hb2
  have B2 := B1.trans (hb2.mono B1.size)
  have Z2 := hb2.size
  clear RA1 RB1
  clear hb2
  obtain ⟨⟨q, xs⟩, hq⟩ : ∃ r, gatherWords F C ts tn fr ws = r := ⟨_, rfl⟩
  have HQ := Lib.hid hq
  have hsm := gatherWords_small F C ts tn fr ws
  rw [hq] at hsm
  clear hq
  obtain ⟨k, hkk⟩ : ∃ k, k = xs.length := ⟨_, rfl⟩
  have hkm : k ≤ 640 := by rw [hkk]; exact hsm
  have HKK := Lib.hid hkk
  clear hkk hsm
  have rac0 := Row.cell (RA2) 0
  have rac1 := Row.cell (RA2) 1
  have rac2 := Row.cell (RA2) 2
  have rbc0 := Row.cell (RB2) 0
  have rbc1 := Row.cell (RB2) 1
  have ral := Row.lt RA2
  have rbl := Row.lt RB2
  simp at rac0 rac1 rac2 rbc0 rbc1
  have HTI := Lib.hid (hT.below B2)
  have HFI := Lib.hid (hf.below B2)
  have HWI := Lib.hid (hw.below B2)
  have hA0 : AS w F C ao n cc tn ta m tc w2 w2 := ⟨rac0, rac1, rac2, rbc0, rbc1, by omega, Below.refl _ _⟩
  have hA1 := hA0.keep ((Below.refl w2.heap.size w2).drew)
  have hA2 := fun o : Obj => (hA0.keep (((Below.refl w2.heap.size w2).alloc (Nat.le_refl _) o).drew)).more
  have hwd : w2.drew.heap.size = w2.heap.size := rfl
  go_upto_region 10 with (fail)
  go_cut [8] (fun p wx => ResS w2 q k xs p wx)
  case first =>
    go_region_held3 (fun a => a.cell? ⟨w.heap.size, 0, none⟩ = some (.int .i64 F) ∧ a.cell? ⟨w.heap.size, 1, none⟩ = some (.int .i64 C) ∧ a.cell? ⟨w.heap.size, 2, none⟩ = some (.slice ao n cc) ∧ a.cell? ⟨w.heap.size + 1, 0, none⟩ = some (.int .i64 tn) ∧ a.cell? ⟨w.heap.size + 1, 1, none⟩ = some (.slice ta m tc) ∧ AS w F C ao n cc tn ta m tc w2 a) (first | with_reducible assumption | (with_reducible refine AS.s2 ?_ ‹_ ∧ _ ∧ _ ∧ _ ∧ _ ∧ AS _ _ _ _ _ _ _ _ _ _ _ _›; first | exact Nat.le_refl _ | omega) | with_reducible exact AS.al _ ‹_ ∧ _ ∧ _ ∧ _ ∧ _ ∧ AS _ _ _ _ _ _ _ _ _ _ _ _› | with_reducible exact hA1.more | with_reducible exact hA2 _ | with_reducible exact AS.al _ hA1.more | exact hA1.more)
      (first
        | (go_at_call 28; obtain ⟨y0, y1, y2, y3, y4, kb⟩ := ‹_ ∧ _ ∧ _ ∧ _ ∧ _ ∧ AS _ _ _ _ _ _ _ _ _ _ _ _›; refine (toConfig_calls (HTI.out.below (kb.bel)) hSh hn1).mono ?_; rintro e wC ⟨gC, rfl, hgC, hIC, bC⟩; have hS1 := (kb.below bC).more; have hs1 := kb.bel.size; have hs1b := bC.size; (try (have hs1c : w2.heap.size + 1 ≤ wC.heap.size := by simpa using bC.size)); (try (have rN : Row _ w2.heap.size 60 #[.int .i64 0, .slice none 0 0] := ((bC).block _ (by simp)).trans (heap_alloc_new w2 _))))
        | (go_at_call 29; obtain ⟨y0, y1, y2, y3, y4, kb⟩ := ‹_ ∧ _ ∧ _ ∧ _ ∧ _ ∧ AS _ _ _ _ _ _ _ _ _ _ _ _›; refine (toTable_calls (HFI.out.below (kb.bel)) (by omega)).mono ?_; rintro e wT ⟨vT, rfl, oT, bT⟩; obtain ⟨xT, cT, rfl, hcT, _, _⟩ := oT.shape; have hS2 := (kb.below bT).more; have hs2 := kb.bel.size; have hs2b := bT.size; (try (have hs2c : wC.heap.size + 1 ≤ wT.heap.size := by simpa using bT.size)); (try (have rM := Row.below rN bT)); (try (have rM : Row _ wC.heap.size 60 #[.int .i64 0, .slice none 0 0] := ((bT).block _ (by simp)).trans (heap_alloc_new wC _))); (first | (have hICT := hIC.below bT) | (have hICT := (hIC.below ((Below.refl _ _).alloc (Nat.le_refl _) _)).below bT)))
        | (go_at_call 39; obtain ⟨y0, y1, y2, y3, y4, kb⟩ := ‹_ ∧ _ ∧ _ ∧ _ ∧ _ ∧ AS _ _ _ _ _ _ _ _ _ _ _ _›; refine (to_calls (HWI.out.below (kb.bel)) (by omega)).mono ?_; rintro e wV ⟨vV, rfl, oV, bV⟩; obtain ⟨xV, cV, rfl, hcV, _, _⟩ := oV.shape; have hS4 := (kb.below bV).more; have hs4 := kb.bel.size; have hs4b := bV.size; (try (have hs4c : wT.heap.size + 1 ≤ wV.heap.size := by simpa using bV.size)); (try (have rK := Row.below rM bV)); (try (have rK : Row _ wT.heap.size 60 #[.int .i64 0, .slice none 0 0] := ((bV).block _ (by simp)).trans (heap_alloc_new wT _))); (first | (have hICV := hICT.below bV) | (have hICV := (hICT.below ((Below.refl _ _).alloc (Nat.le_refl _) _)).below bV)); (first | (have hTV := oT.ints.below bV) | (have hTV := (oT.ints.alloc _).below bV)))
        | (go_at_call 38; obtain ⟨y0, y1, y2, y3, y4, kb⟩ := ‹_ ∧ _ ∧ _ ∧ _ ∧ _ ∧ AS _ _ _ _ _ _ _ _ _ _ _ _›; (first | refine (sGatherWords_calls hICV.tens hSh (Nat.le_refl _) (by omega) hTV (by omega) hcT oV.ints (by omega) hcV).mono ?_ | refine (sGatherWords_calls (hICV.tens.alloc _) hSh (Nat.le_refl _) (by omega) (hTV.alloc _) (by omega) hcT (oV.ints.alloc _) (by omega) hcV).mono ?_); rw [HQ.out]; rintro e wS ⟨vS, nS, rfl, oS, bS⟩; obtain rfl : k = nS := HKK.out.trans oS.in_.lohi.symm; obtain ⟨xS, cS, rfl, _, _, _⟩ := oS.shape; have hS3 := (kb.below bS).more; have hs3 := kb.bel.size; have hs5 := bS.size; (try (have rL := Row.below rK bS)); (try (have rL : Row _ wV.heap.size 60 #[.int .i64 0, .slice none 0 0] := ((bS).block _ (by simp)).trans (heap_alloc_new wV _))); (try (have z0 := rL.cell 0; have z1 := rL.cell 1; have zf0 := frozen_of_row _ _ 0 _ _ rL; have zf1 := frozen_of_row _ _ 1 _ _ rL; simp at z0 z1))))
    all_goals
      go_wp2_with fail
      go_meet
      case rel => (first | exact ResS.al hS3.2.2.2.2.2.bel oS (by first | omega | (simp; omega)) | exact ResS.st hS3.2.2.2.2.2.bel rL oS (by first | omega | (simp; done) | (simp; omega)) (by first | exact Nat.le_refl _ | omega))
  obtain ⟨w3, rfl⟩ : ∃ w3, w3 = wc := ⟨_, rfl⟩
  obtain ⟨bw, wo, wk2, rfl, RW3, OW3, hbl, hbg, kb3⟩ := hcut
  clear rac0 rac1 rac2 rbc0 rbc1 ral rbl HTI HFI HWI hA0 hA1 hA2 hwd
  have RA3 := Row.below RA2 kb3
  have RB3 := Row.below RB2 kb3
  have B3 := B2.trans (kb3.mono B2.size)
  have Z3 := kb3.size
  clear RA2 RB2
  have rac0 := Row.cell (RA3) 0
  have rac1 := Row.cell (RA3) 1
  have rac2 := Row.cell (RA3) 2
  have rbc0 := Row.cell (RB3) 0
  have rbc1 := Row.cell (RB3) 1
  have rwc0 := Row.cell (RW3) 0
  have rwc1 := Row.cell (RW3) 1
  have ral := Row.lt RA3
  have rbl := Row.lt RB3
  have rwl := Row.lt RW3
  simp at rac0 rac1 rac2 rbc0 rbc1 rwc0 rwc1
  have T3 := hT.below B3
  go_wp2_with fail
  refine (toConfig_calls T3 hSh hn1).mono ?_
  rintro e w4 ⟨gX, rfl, hgX, hIX, hb4⟩
  clear rac0 rac1 rac2 rbc0 rbc1 rwc0 rwc1 ral rbl rwl T3
  have RA4 := Row.below RA3 hb4
  have RB4 := Row.below RB3 hb4
  have RW4 := Row.below RW3 hb4
  have OW4 := OW3.below hb4
  have B4 := B3.trans (hb4.mono B3.size)
  have Z4 := hb4.size
  clear RA3 RB3 RW3 OW3
  obtain ⟨w5, hw5⟩ : ∃ w5, w4.alloc (.cells #[.int .i64 F, .int .i64 C, .slice (some ⟨gX, 0, none⟩) n n] 26) = w5 := ⟨_, rfl⟩
  have hb5 : Below w4.heap.size w4 w5 := by rw [← hw5]; exact (Below.refl _ _).alloc (Nat.le_refl _) _
  have RX5 : Row w5 w4.heap.size 26 #[.int .i64 F, .int .i64 C, .slice (some ⟨gX, 0, none⟩) n n] := by rw [← hw5]; exact heap_alloc_new _ _
  have hw5s : w5.heap.size = w4.heap.size + 1 := by rw [← hw5]; simp
  have RA5 := Row.below RA4 hb5
  have RB5 := Row.below RB4 hb5
  have RW5 := Row.below RW4 hb5
  have OW5 := OW4.below hb5
  have B5 := B4.trans (hb5.mono B4.size)
  have Z5 := hb5.size
  clear RA4 RB4 RW4 OW4
  have I5 := hIX.below hb5
  clear hIX hb4 hb5
  have rac0 := Row.cell (RA5) 0
  have rac1 := Row.cell (RA5) 1
  have rac2 := Row.cell (RA5) 2
  have rbc0 := Row.cell (RB5) 0
  have rbc1 := Row.cell (RB5) 1
  have rwc0 := Row.cell (RW5) 0
  have rwc1 := Row.cell (RW5) 1
  have rxc0 := Row.cell (RX5) 0
  have rxc1 := Row.cell (RX5) 1
  have rxc2 := Row.cell (RX5) 2
  have ral := Row.lt RA5
  have rbl := Row.lt RB5
  have rwl := Row.lt RW5
  have rxl := Row.lt RX5
  simp at rac0 rac1 rac2 rbc0 rbc1 rwc0 rwc1 rxc0 rxc1 rxc2
  have f5 := hf.below B5
  go_wp2_with fail
  refine (toTable_calls f5 (by omega)).mono ?_
  rintro e w6 ⟨vY, rfl, oY, hb6⟩
  obtain ⟨yo, yc, rfl, hyc, _, _⟩ := oY.shape
  have O6 := oY.in_
  clear rac0 rac1 rac2 rbc0 rbc1 rwc0 rwc1 rxc0 rxc1 rxc2 ral rbl rwl rxl f5 oY
  have RA6 := Row.below RA5 hb6
  have RB6 := Row.below RB5 hb6
  have RW6 := Row.below RW5 hb6
  have RX6 := Row.below RX5 hb6
  have OW6 := OW5.below hb6
  have I6 := I5.below hb6
  have B6 := B5.trans (hb6.mono B5.size)
  have Z6 := hb6.size
  clear RA5 RB5 RW5 RX5 OW5 I5
  obtain ⟨w7, hw7⟩ : ∃ w7, w6.alloc (.cells #[.int .i64 tn, .slice yo m yc] 29) = w7 := ⟨_, rfl⟩
  have hb7 : Below w6.heap.size w6 w7 := by rw [← hw7]; exact (Below.refl _ _).alloc (Nat.le_refl _) _
  have RY7 : Row w7 w6.heap.size 29 #[.int .i64 tn, .slice yo m yc] := by rw [← hw7]; exact heap_alloc_new _ _
  have hw7s : w7.heap.size = w6.heap.size + 1 := by rw [← hw7]; simp
  have RA7 := Row.below RA6 hb7
  have RB7 := Row.below RB6 hb7
  have RW7 := Row.below RW6 hb7
  have RX7 := Row.below RX6 hb7
  have OW7 := OW6.below hb7
  have I7 := I6.below hb7
  have O7 := O6.below hb7
  have B7 := B6.trans (hb7.mono B6.size)
  have Z7 := hb7.size
  clear RA6 RB6 RW6 RX6 OW6 I6 O6
  clear hb6 hb7
  have rac0 := Row.cell (RA7) 0
  have rac1 := Row.cell (RA7) 1
  have rac2 := Row.cell (RA7) 2
  have rbc0 := Row.cell (RB7) 0
  have rbc1 := Row.cell (RB7) 1
  have rwc0 := Row.cell (RW7) 0
  have rwc1 := Row.cell (RW7) 1
  have rxc0 := Row.cell (RX7) 0
  have rxc1 := Row.cell (RX7) 1
  have rxc2 := Row.cell (RX7) 2
  have ryc0 := Row.cell (RY7) 0
  have ryc1 := Row.cell (RY7) 1
  have ral := Row.lt RA7
  have rbl := Row.lt RB7
  have rwl := Row.lt RW7
  have rxl := Row.lt RX7
  have ryl := Row.lt RY7
  simp at rac0 rac1 rac2 rbc0 rbc1 rwc0 rwc1 rxc0 rxc1 rxc2 ryc0 ryc1
  have v7 := hw.below B7
  go_wp2_with fail
  refine (to_calls v7 (by omega)).mono ?_
  rintro e w8 ⟨vU, rfl, oU, hb8⟩
  obtain ⟨uo, uc, rfl, huc, _, _⟩ := oU.shape
  have OU8 := oU.in_
  clear rac0 rac1 rac2 rbc0 rbc1 rwc0 rwc1 rxc0 rxc1 rxc2 ryc0 ryc1 ral rbl rwl rxl ryl v7 oU
  have RA8 := Row.below RA7 hb8
  have RB8 := Row.below RB7 hb8
  have RW8 := Row.below RW7 hb8
  have RX8 := Row.below RX7 hb8
  have RY8 := Row.below RY7 hb8
  have OW8 := OW7.below hb8
  have I8 := I7.below hb8
  have O8 := O7.below hb8
  have B8 := B7.trans (hb8.mono B7.size)
  have Z8 := hb8.size
  clear RA7 RB7 RW7 RX7 RY7 OW7 I7 O7
  clear hb8
  have rac0 := Row.cell (RA8) 0
  have rac1 := Row.cell (RA8) 1
  have rac2 := Row.cell (RA8) 2
  have rbc0 := Row.cell (RB8) 0
  have rbc1 := Row.cell (RB8) 1
  have rwc0 := Row.cell (RW8) 0
  have rwc1 := Row.cell (RW8) 1
  have rxc0 := Row.cell (RX8) 0
  have rxc1 := Row.cell (RX8) 1
  have rxc2 := Row.cell (RX8) 2
  have ryc0 := Row.cell (RY8) 0
  have ryc1 := Row.cell (RY8) 1
  have ral := Row.lt RA8
  have rbl := Row.lt RB8
  have rwl := Row.lt RW8
  have rxl := Row.lt RX8
  have ryl := Row.lt RY8
  simp at rac0 rac1 rac2 rbc0 rbc1 rwc0 rwc1 rxc0 rxc1 rxc2 ryc0 ryc1
  go_wp2_with fail
  refine (gatherWords_calls I8.tens hSh (Nat.le_refl _) (by omega) O8.ints (by omega) OU8.ints (by omega) huc).mono ?_
  rw [HQ.out]
  rintro e w9 ⟨vG, nG, rfl, oG, hb9⟩
  obtain rfl : k = nG := HKK.out.trans oG.in_.lohi.symm
  obtain ⟨go, gc, rfl, hgc, _, _⟩ := oG.shape
  have OG9 := oG.in_
  clear rac0 rac1 rac2 rbc0 rbc1 rwc0 rwc1 rxc0 rxc1 rxc2 ryc0 ryc1 ral rbl rwl rxl ryl oG
  have RA9 := Row.below RA8 hb9
  have RB9 := Row.below RB8 hb9
  have RW9 := Row.below RW8 hb9
  have RX9 := Row.below RX8 hb9
  have RY9 := Row.below RY8 hb9
  have OW9 := OW8.below hb9
  have I9 := I8.below hb9
  have O9 := O8.below hb9
  have OU9 := OU8.below hb9
  have B9 := B8.trans (hb9.mono B8.size)
  have Z9 := hb9.size
  clear RA8 RB8 RW8 RX8 RY8 OW8 I8 O8 OU8
  obtain ⟨w10, hw10⟩ : ∃ w10, w9.alloc (.cells #[.int .i64 q, .slice go k gc] 60) = w10 := ⟨_, rfl⟩
  have hb10 : Below w9.heap.size w9 w10 := by rw [← hw10]; exact (Below.refl _ _).alloc (Nat.le_refl _) _
  have RG10 : Row w10 w9.heap.size 60 #[.int .i64 q, .slice go k gc] := by rw [← hw10]; exact heap_alloc_new _ _
  have hw10s : w10.heap.size = w9.heap.size + 1 := by rw [← hw10]; simp
  have RA10 := Row.below RA9 hb10
  have RB10 := Row.below RB9 hb10
  have RW10 := Row.below RW9 hb10
  have RX10 := Row.below RX9 hb10
  have RY10 := Row.below RY9 hb10
  have OW10 := OW9.below hb10
  have I10 := I9.below hb10
  have O10 := O9.below hb10
  have OU10 := OU9.below hb10
  have OG10 := OG9.below hb10
  have B10 := B9.trans (hb10.mono B9.size)
  have Z10 := hb10.size
  clear RA9 RB9 RW9 RX9 RY9 OW9 I9 O9 OU9 OG9
  clear hb9 hb10
  have rac0 := Row.cell (RA10) 0
  have rac1 := Row.cell (RA10) 1
  have rac2 := Row.cell (RA10) 2
  have rbc0 := Row.cell (RB10) 0
  have rbc1 := Row.cell (RB10) 1
  have rwc0 := Row.cell (RW10) 0
  have rwc1 := Row.cell (RW10) 1
  have rxc0 := Row.cell (RX10) 0
  have rxc1 := Row.cell (RX10) 1
  have rxc2 := Row.cell (RX10) 2
  have ryc0 := Row.cell (RY10) 0
  have ryc1 := Row.cell (RY10) 1
  have rgc0 := Row.cell (RG10) 0
  have rgc1 := Row.cell (RG10) 1
  have ral := Row.lt RA10
  have rbl := Row.lt RB10
  have rwl := Row.lt RW10
  have rxl := Row.lt RX10
  have ryl := Row.lt RY10
  have rgl := Row.lt RG10
  simp at rac0 rac1 rac2 rbc0 rbc1 rwc0 rwc1 rxc0 rxc1 rxc2 ryc0 ryc1 rgc0 rgc1
  go_wp2_with fail
  refine (eqR_calls OG10.ints OW10.ints (by omega)).mono ?_
  rintro e w11 ⟨rfl, hb11⟩
  clear rac0 rac1 rac2 rbc0 rbc1 rwc0 rwc1 rxc0 rxc1 rxc2 ryc0 ryc1 rgc0 rgc1 ral rbl rwl rxl ryl rgl
  have RA11 := Row.below RA10 hb11
  have RB11 := Row.below RB10 hb11
  have RW11 := Row.below RW10 hb11
  have RX11 := Row.below RX10 hb11
  have RY11 := Row.below RY10 hb11
  have RG11 := Row.below RG10 hb11
  have OW11 := OW10.below hb11
  have I11 := I10.below hb11
  have O11 := O10.below hb11
  have OU11 := OU10.below hb11
  have OG11 := OG10.below hb11
  have B11 := B10.trans (hb11.mono B10.size)
  have Z11 := hb11.size
  clear RA10 RB10 RW10 RX10 RY10 RG10 OW10 I10 O10 OU10 OG10
  clear hb11
  have rac0 := Row.cell (RA11) 0
  have rac1 := Row.cell (RA11) 1
  have rac2 := Row.cell (RA11) 2
  have rbc0 := Row.cell (RB11) 0
  have rbc1 := Row.cell (RB11) 1
  have rwc0 := Row.cell (RW11) 0
  have rwc1 := Row.cell (RW11) 1
  have rxc0 := Row.cell (RX11) 0
  have rxc1 := Row.cell (RX11) 1
  have rxc2 := Row.cell (RX11) 2
  have ryc0 := Row.cell (RY11) 0
  have ryc1 := Row.cell (RY11) 1
  have rgc0 := Row.cell (RG11) 0
  have rgc1 := Row.cell (RG11) 1
  have ral := Row.lt RA11
  have rbl := Row.lt RB11
  have rwl := Row.lt RW11
  have rxl := Row.lt RX11
  have ryl := Row.lt RY11
  have rgl := Row.lt RG11
  simp at rac0 rac1 rac2 rbc0 rbc1 rwc0 rwc1 rxc0 rxc1 rxc2 ryc0 ryc1 rgc0 rgc1
  have TA := hT.below B11
  have kB := Below.refl w11.heap.size w11
  have IA := I11
  go_wp2_with fail
  go_region_held3 (fun w' => w'.cell? ⟨w4.heap.size, 0, none⟩ = some (.int .i64 F) ∧ w'.cell? ⟨w4.heap.size, 1, none⟩ = some (.int .i64 C) ∧ w'.cell? ⟨w4.heap.size, 2, none⟩ = some (.slice (some ⟨gX, 0, none⟩) n n) ∧ w'.cell? ⟨w.heap.size, 0, none⟩ = some (.int .i64 F) ∧ w'.cell? ⟨w.heap.size, 1, none⟩ = some (.int .i64 C) ∧ w'.cell? ⟨w.heap.size, 2, none⟩ = some (.slice ao n cc) ∧ Below w11.heap.size w11 w') (first | assumption | exact ⟨rxc0, rxc1, rxc2, rac0, rac1, rac2, kB.drew⟩)
    (first
      | (go_at_call 28; obtain ⟨y0, y1, y2, y3, y4, y5, kb⟩ := ‹_ ∧ _ ∧ _ ∧ _ ∧ _ ∧ _ ∧ Below _ _ _›; refine (toConfig_calls (TA.below kb) hSh hn1).mono ?_; rintro e wD ⟨gD, rfl, hgD, hID, bD⟩; have hD1 := keep6 ⟨y0, y1, y2, y3, y4, y5, kb⟩ bD)
      | (go_at_call 30; obtain ⟨y0, y1, y2, y3, y4, y5, kb⟩ := ‹_ ∧ _ ∧ _ ∧ _ ∧ _ ∧ _ ∧ Below _ _ _›; refine (eqConfig_calls ((IA.below kb).tens) hID.tens hSh hn1).mono ?_; rintro e wE ⟨rfl, bE⟩; have hD2 := keep6 ⟨y0, y1, y2, y3, y4, y5, kb⟩ bE))
  obtain ⟨_, _, _, _, _, _, kb12⟩ := hD2
  clear rac0 rac1 rac2 rbc0 rbc1 rwc0 rwc1 rxc0 rxc1 rxc2 ryc0 ryc1 rgc0 rgc1 ral rbl rwl rxl ryl rgl TA kB IA hD1 hID bD bE hgD
  have RA12 := Row.below RA11 kb12
  have RB12 := Row.below RB11 kb12
  have RW12 := Row.below RW11 kb12
  have RX12 := Row.below RX11 kb12
  have RY12 := Row.below RY11 kb12
  have RG12 := Row.below RG11 kb12
  have OW12 := OW11.below kb12
  have I12 := I11.below kb12
  have O12 := O11.below kb12
  have OU12 := OU11.below kb12
  have OG12 := OG11.below kb12
  have B12 := B11.trans (kb12.mono B11.size)
  have Z12 := kb12.size
  clear RA11 RB11 RW11 RX11 RY11 RG11 OW11 I11 O11 OU11 OG11
  have rac0 := Row.cell (RA12) 0
  have rac1 := Row.cell (RA12) 1
  have rac2 := Row.cell (RA12) 2
  have rbc0 := Row.cell (RB12) 0
  have rbc1 := Row.cell (RB12) 1
  have rwc0 := Row.cell (RW12) 0
  have rwc1 := Row.cell (RW12) 1
  have rxc0 := Row.cell (RX12) 0
  have rxc1 := Row.cell (RX12) 1
  have rxc2 := Row.cell (RX12) 2
  have ryc0 := Row.cell (RY12) 0
  have ryc1 := Row.cell (RY12) 1
  have rgc0 := Row.cell (RG12) 0
  have rgc1 := Row.cell (RG12) 1
  have ral := Row.lt RA12
  have rbl := Row.lt RB12
  have rwl := Row.lt RW12
  have rxl := Row.lt RX12
  have ryl := Row.lt RY12
  have rgl := Row.lt RG12
  simp at rac0 rac1 rac2 rbc0 rbc1 rwc0 rwc1 rxc0 rxc1 rxc2 ryc0 ryc1 rgc0 rgc1
  have fA := hf.below B12
  have kB := Below.refl wE.heap.size wE
  have OA := O12
  go_wp2_with fail
  go_region_held3 (fun w' => w'.cell? ⟨w6.heap.size, 0, none⟩ = some (.int .i64 tn) ∧ w'.cell? ⟨w6.heap.size, 1, none⟩ = some (.slice yo m yc) ∧ w'.cell? ⟨w.heap.size + 1, 0, none⟩ = some (.int .i64 tn) ∧ w'.cell? ⟨w.heap.size + 1, 1, none⟩ = some (.slice ta m tc) ∧ Below wE.heap.size wE w') (first | assumption | exact ⟨ryc0, ryc1, rbc0, rbc1, kB.drew⟩)
    (first
      | (go_at_call 29; obtain ⟨y0, y1, y2, y3, kb⟩ := ‹_ ∧ _ ∧ _ ∧ _ ∧ Below _ _ _›; refine (toTable_calls (fA.below kb) (by omega)).mono ?_; rintro e wH ⟨vH, rfl, oH, bH⟩; obtain ⟨xH, cH, rfl, _, _, _⟩ := oH.shape; have hH1 := keep4 ⟨y0, y1, y2, y3, kb⟩ bH)
      | (go_at_call 31; obtain ⟨y0, y1, y2, y3, kb⟩ := ‹_ ∧ _ ∧ _ ∧ _ ∧ Below _ _ _›; refine (eqTable_calls (OA.below kb).ints oH.ints (by omega)).mono ?_; rintro e wJ ⟨rfl, bJ⟩; have hH2 := keep4 ⟨y0, y1, y2, y3, kb⟩ bJ))
  obtain ⟨_, _, _, _, kb13⟩ := hH2
  clear rac0 rac1 rac2 rbc0 rbc1 rwc0 rwc1 rxc0 rxc1 rxc2 ryc0 ryc1 rgc0 rgc1 ral rbl rwl rxl ryl rgl fA kB OA hH1 oH bH bJ
  have RA13 := Row.below RA12 kb13
  have RB13 := Row.below RB12 kb13
  have RW13 := Row.below RW12 kb13
  have RX13 := Row.below RX12 kb13
  have RY13 := Row.below RY12 kb13
  have RG13 := Row.below RG12 kb13
  have OW13 := OW12.below kb13
  have I13 := I12.below kb13
  have O13 := O12.below kb13
  have OU13 := OU12.below kb13
  have OG13 := OG12.below kb13
  have B13 := B12.trans (kb13.mono B12.size)
  have Z13 := kb13.size
  clear RA12 RB12 RW12 RX12 RY12 RG12 OW12 I12 O12 OU12 OG12
  have rac0 := Row.cell (RA13) 0
  have rac1 := Row.cell (RA13) 1
  have rac2 := Row.cell (RA13) 2
  have rbc0 := Row.cell (RB13) 0
  have rbc1 := Row.cell (RB13) 1
  have rwc0 := Row.cell (RW13) 0
  have rwc1 := Row.cell (RW13) 1
  have rxc0 := Row.cell (RX13) 0
  have rxc1 := Row.cell (RX13) 1
  have rxc2 := Row.cell (RX13) 2
  have ryc0 := Row.cell (RY13) 0
  have ryc1 := Row.cell (RY13) 1
  have rgc0 := Row.cell (RG13) 0
  have rgc1 := Row.cell (RG13) 1
  have ral := Row.lt RA13
  have rbl := Row.lt RB13
  have rwl := Row.lt RW13
  have rxl := Row.lt RX13
  have ryl := Row.lt RY13
  have rgl := Row.lt RG13
  simp at rac0 rac1 rac2 rbc0 rbc1 rwc0 rwc1 rxc0 rxc1 rxc2 ryc0 ryc1 rgc0 rgc1
  have v13 := hw.below B13
  go_wp2_with fail
  refine (to_calls v13 (by omega)).mono ?_
  rintro e w14 ⟨vY, rfl, oY, hb14⟩
  obtain ⟨yo2, yc2, rfl, _, _, _⟩ := oY.shape
  have hY := oY.ints
  clear rac0 rac1 rac2 rbc0 rbc1 rwc0 rwc1 rxc0 rxc1 rxc2 ryc0 ryc1 rgc0 rgc1 ral rbl rwl rxl ryl rgl v13 oY
  have RA14 := Row.below RA13 hb14
  have RB14 := Row.below RB13 hb14
  have RW14 := Row.below RW13 hb14
  have RX14 := Row.below RX13 hb14
  have RY14 := Row.below RY13 hb14
  have RG14 := Row.below RG13 hb14
  have OW14 := OW13.below hb14
  have I14 := I13.below hb14
  have O14 := O13.below hb14
  have OU14 := OU13.below hb14
  have OG14 := OG13.below hb14
  have B14 := B13.trans (hb14.mono B13.size)
  have Z14 := hb14.size
  clear RA13 RB13 RW13 RX13 RY13 RG13 OW13 I13 O13 OU13 OG13
  clear hb14
  have rac0 := Row.cell (RA14) 0
  have rac1 := Row.cell (RA14) 1
  have rac2 := Row.cell (RA14) 2
  have rbc0 := Row.cell (RB14) 0
  have rbc1 := Row.cell (RB14) 1
  have rwc0 := Row.cell (RW14) 0
  have rwc1 := Row.cell (RW14) 1
  have rxc0 := Row.cell (RX14) 0
  have rxc1 := Row.cell (RX14) 1
  have rxc2 := Row.cell (RX14) 2
  have ryc0 := Row.cell (RY14) 0
  have ryc1 := Row.cell (RY14) 1
  have rgc0 := Row.cell (RG14) 0
  have rgc1 := Row.cell (RG14) 1
  have ral := Row.lt RA14
  have rbl := Row.lt RB14
  have rwl := Row.lt RW14
  have rxl := Row.lt RX14
  have ryl := Row.lt RY14
  have rgl := Row.lt RG14
  simp at rac0 rac1 rac2 rbc0 rbc1 rwc0 rwc1 rxc0 rxc1 rxc2 ryc0 ryc1 rgc0 rgc1
  go_wp2_with fail
  refine (eq_calls OU14.ints hY (by omega)).mono ?_
  rintro e w15 ⟨rfl, hb15⟩
  clear rac0 rac1 rac2 rbc0 rbc1 rwc0 rwc1 rxc0 rxc1 rxc2 ryc0 ryc1 rgc0 rgc1 ral rbl rwl rxl ryl rgl hY
  have RA15 := Row.below RA14 hb15
  have RB15 := Row.below RB14 hb15
  have RW15 := Row.below RW14 hb15
  have RX15 := Row.below RX14 hb15
  have RY15 := Row.below RY14 hb15
  have RG15 := Row.below RG14 hb15
  have OW15 := OW14.below hb15
  have I15 := I14.below hb15
  have O15 := O14.below hb15
  have OU15 := OU14.below hb15
  have OG15 := OG14.below hb15
  have B15 := B14.trans (hb15.mono B14.size)
  have Z15 := hb15.size
  clear RA14 RB14 RW14 RX14 RY14 RG14 OW14 I14 O14 OU14 OG14
  clear hb15
  have rac0 := Row.cell (RA15) 0
  have rac1 := Row.cell (RA15) 1
  have rac2 := Row.cell (RA15) 2
  have rbc0 := Row.cell (RB15) 0
  have rbc1 := Row.cell (RB15) 1
  have rwc0 := Row.cell (RW15) 0
  have rwc1 := Row.cell (RW15) 1
  have rxc0 := Row.cell (RX15) 0
  have rxc1 := Row.cell (RX15) 1
  have rxc2 := Row.cell (RX15) 2
  have ryc0 := Row.cell (RY15) 0
  have ryc1 := Row.cell (RY15) 1
  have rgc0 := Row.cell (RG15) 0
  have rgc1 := Row.cell (RG15) 1
  have ral := Row.lt RA15
  have rbl := Row.lt RB15
  have rwl := Row.lt RW15
  have rxl := Row.lt RX15
  have ryl := Row.lt RY15
  have rgl := Row.lt RG15
  simp at rac0 rac1 rac2 rbc0 rbc1 rwc0 rwc1 rxc0 rxc1 rxc2 ryc0 ryc1 rgc0 rgc1
  go_wp2_with fail
  refine (markConfig_calls I15 HS1.out hn1).mono ?_
  rintro e w16 ⟨⟨K, rfl, hK, hK2⟩, ht16⟩
  clear rac0 rac1 rac2 rbc0 rbc1 rwc0 rwc1 rxc0 rxc1 rxc2 ryc0 ryc1 rgc0 rgc1 ral rbl rwl rxl ryl rgl I15
  have RA16 := Row.touch RA15 ht16 (.inl (by omega))
  have RB16 := Row.touch RB15 ht16 (.inl (by omega))
  have RW16 := Row.touch RW15 ht16 (.inl (by omega))
  have RX16 := Row.touch RX15 ht16 (.inr (by omega))
  have RY16 := Row.touch RY15 ht16 (.inr (by omega))
  have RG16 := Row.touch RG15 ht16 (.inr (by omega))
  have OW16 := OW15.touch ht16 (.inl (by omega))
  have O16 := O15.touch ht16 (.inr (by omega))
  have OU16 := OU15.touch ht16 (.inr (by omega))
  have OG16 := OG15.touch ht16 (.inr (by omega))
  have B16 := ht16.below B15 (by omega) (Nat.le_refl _)
  have Z16 := ht16.size
  clear RA15 RB15 RW15 RX15 RY15 RG15 OW15 O15 OU15 OG15
  clear ht16
  have rac0 := Row.cell (RA16) 0
  have rac1 := Row.cell (RA16) 1
  have rac2 := Row.cell (RA16) 2
  have rbc0 := Row.cell (RB16) 0
  have rbc1 := Row.cell (RB16) 1
  have rwc0 := Row.cell (RW16) 0
  have rwc1 := Row.cell (RW16) 1
  have rxc0 := Row.cell (RX16) 0
  have rxc1 := Row.cell (RX16) 1
  have rxc2 := Row.cell (RX16) 2
  have ryc0 := Row.cell (RY16) 0
  have ryc1 := Row.cell (RY16) 1
  have rgc0 := Row.cell (RG16) 0
  have rgc1 := Row.cell (RG16) 1
  have ral := Row.lt RA16
  have rbl := Row.lt RB16
  have rwl := Row.lt RW16
  have rxl := Row.lt RX16
  have ryl := Row.lt RY16
  have rgl := Row.lt RG16
  simp at rac0 rac1 rac2 rbc0 rbc1 rwc0 rwc1 rxc0 rxc1 rxc2 ryc0 ryc1 rgc0 rgc1
  go_wp2_with fail
  refine (markTable_calls O16 (by omega) (by omega) (by omega)).mono ?_
  rintro e w17 ⟨rfl, _, ht17⟩
  clear rac0 rac1 rac2 rbc0 rbc1 rwc0 rwc1 rxc0 rxc1 rxc2 ryc0 ryc1 rgc0 rgc1 ral rbl rwl rxl ryl rgl O16
  have RA17 := Row.touch RA16 ht17 (.inl (by omega))
  have RB17 := Row.touch RB16 ht17 (.inl (by omega))
  have RW17 := Row.touch RW16 ht17 (.inl (by omega))
  have RX17 := Row.touch RX16 ht17 (.inl (by omega))
  have RY17 := Row.touch RY16 ht17 (.inr (by omega))
  have RG17 := Row.touch RG16 ht17 (.inr (by omega))
  have OW17 := OW16.touch ht17 (.inl (by omega))
  have OU17 := OU16.touch ht17 (.inr (by omega))
  have OG17 := OG16.touch ht17 (.inr (by omega))
  have B17 := ht17.below B16 (by omega) (Nat.le_refl _)
  have Z17 := ht17.size
  clear RA16 RB16 RW16 RX16 RY16 RG16 OW16 OU16 OG16
  clear ht17
  have rac0 := Row.cell (RA17) 0
  have rac1 := Row.cell (RA17) 1
  have rac2 := Row.cell (RA17) 2
  have rbc0 := Row.cell (RB17) 0
  have rbc1 := Row.cell (RB17) 1
  have rwc0 := Row.cell (RW17) 0
  have rwc1 := Row.cell (RW17) 1
  have rxc0 := Row.cell (RX17) 0
  have rxc1 := Row.cell (RX17) 1
  have rxc2 := Row.cell (RX17) 2
  have ryc0 := Row.cell (RY17) 0
  have ryc1 := Row.cell (RY17) 1
  have rgc0 := Row.cell (RG17) 0
  have rgc1 := Row.cell (RG17) 1
  have ral := Row.lt RA17
  have rbl := Row.lt RB17
  have rwl := Row.lt RW17
  have rxl := Row.lt RX17
  have ryl := Row.lt RY17
  have rgl := Row.lt RG17
  simp at rac0 rac1 rac2 rbc0 rbc1 rwc0 rwc1 rxc0 rxc1 rxc2 ryc0 ryc1 rgc0 rgc1
  go_wp2_with fail
  refine (mark_calls OU17 (by omega) (by omega) (by omega)).mono ?_
  rintro e w18 ⟨rfl, _, ht18⟩
  clear rac0 rac1 rac2 rbc0 rbc1 rwc0 rwc1 rxc0 rxc1 rxc2 ryc0 ryc1 rgc0 rgc1 ral rbl rwl rxl ryl rgl OU17
  have RA18 := Row.touch RA17 ht18 (.inl (by omega))
  have RB18 := Row.touch RB17 ht18 (.inl (by omega))
  have RW18 := Row.touch RW17 ht18 (.inl (by omega))
  have RX18 := Row.touch RX17 ht18 (.inl (by omega))
  have RY18 := Row.touch RY17 ht18 (.inl (by omega))
  have RG18 := Row.touch RG17 ht18 (.inr (by omega))
  have OW18 := OW17.touch ht18 (.inl (by omega))
  have OG18 := OG17.touch ht18 (.inr (by omega))
  have B18 := ht18.below B17 (by omega) (Nat.le_refl _)
  have Z18 := ht18.size
  clear RA17 RB17 RW17 RX17 RY17 RG17 OW17 OG17
  clear ht18
  have hK3 : ¬ (K + (m : Int) + (wn : Int) < 0) := by omega
  have rac0 := Row.cell (RA18) 0
  have rac1 := Row.cell (RA18) 1
  have rac2 := Row.cell (RA18) 2
  have rbc0 := Row.cell (RB18) 0
  have rbc1 := Row.cell (RB18) 1
  have rwc0 := Row.cell (RW18) 0
  have rwc1 := Row.cell (RW18) 1
  have rxc0 := Row.cell (RX18) 0
  have rxc1 := Row.cell (RX18) 1
  have rxc2 := Row.cell (RX18) 2
  have ryc0 := Row.cell (RY18) 0
  have ryc1 := Row.cell (RY18) 1
  have rgc0 := Row.cell (RG18) 0
  have rgc1 := Row.cell (RG18) 1
  have ral := Row.lt RA18
  have rbl := Row.lt RB18
  have rwl := Row.lt RW18
  have rxl := Row.lt RX18
  have ryl := Row.lt RY18
  have rgl := Row.lt RG18
  simp at rac0 rac1 rac2 rbc0 rbc1 rwc0 rwc1 rxc0 rxc1 rxc2 ryc0 ryc1 rgc0 rgc1
  go_wp2_with fail
  refine (eqR_calls OG18.ints OW18.ints (by omega)).mono ?_
  rintro e w19 ⟨rfl, hb19⟩
  clear rac0 rac1 rac2 rbc0 rbc1 rwc0 rwc1 rxc0 rxc1 rxc2 ryc0 ryc1 rgc0 rgc1 ral rbl rwl rxl ryl rgl
  have RA19 := Row.below RA18 hb19
  have RB19 := Row.below RB18 hb19
  have RW19 := Row.below RW18 hb19
  have RX19 := Row.below RX18 hb19
  have RY19 := Row.below RY18 hb19
  have RG19 := Row.below RG18 hb19
  have OW19 := OW18.below hb19
  have OG19 := OG18.below hb19
  have B19 := B18.trans (hb19.mono B18.size)
  have Z19 := hb19.size
  clear RA18 RB18 RW18 RX18 RY18 RG18 OW18 OG18
  clear hb19
  have rac0 := Row.cell (RA19) 0
  have rac1 := Row.cell (RA19) 1
  have rac2 := Row.cell (RA19) 2
  have rbc0 := Row.cell (RB19) 0
  have rbc1 := Row.cell (RB19) 1
  have rwc0 := Row.cell (RW19) 0
  have rwc1 := Row.cell (RW19) 1
  have rxc0 := Row.cell (RX19) 0
  have rxc1 := Row.cell (RX19) 1
  have rxc2 := Row.cell (RX19) 2
  have ryc0 := Row.cell (RY19) 0
  have ryc1 := Row.cell (RY19) 1
  have rgc0 := Row.cell (RG19) 0
  have rgc1 := Row.cell (RG19) 1
  have ral := Row.lt RA19
  have rbl := Row.lt RB19
  have rwl := Row.lt RW19
  have rxl := Row.lt RX19
  have ryl := Row.lt RY19
  have rgl := Row.lt RG19
  simp at rac0 rac1 rac2 rbc0 rbc1 rwc0 rwc1 rxc0 rxc1 rxc2 ryc0 ryc1 rgc0 rgc1
  go_wp2_with fail
  refine (markR_calls OG19 (by omega) (by omega) (by omega)).mono ?_
  rintro e w20 ⟨rfl, OG20, ht20⟩
  clear rac0 rac1 rac2 rbc0 rbc1 rwc0 rwc1 rxc0 rxc1 rxc2 ryc0 ryc1 rgc0 rgc1 ral rbl rwl rxl ryl rgl OG19
  have RA20 := Row.touch RA19 ht20 (.inl (by omega))
  have RB20 := Row.touch RB19 ht20 (.inl (by omega))
  have RW20 := Row.touch RW19 ht20 (.inl (by omega))
  have RX20 := Row.touch RX19 ht20 (.inl (by omega))
  have RY20 := Row.touch RY19 ht20 (.inl (by omega))
  have RG20 := Row.touch RG19 ht20 (.inr (by omega))
  have OW20 := OW19.touch ht20 (.inl (by omega))
  have B20 := ht20.below B19 (by omega) (Nat.le_refl _)
  have Z20 := ht20.size
  clear RA19 RB19 RW19 RX19 RY19 RG19 OW19
  clear ht20
  have rac0 := Row.cell (RA20) 0
  have rac1 := Row.cell (RA20) 1
  have rac2 := Row.cell (RA20) 2
  have rbc0 := Row.cell (RB20) 0
  have rbc1 := Row.cell (RB20) 1
  have rwc0 := Row.cell (RW20) 0
  have rwc1 := Row.cell (RW20) 1
  have rxc0 := Row.cell (RX20) 0
  have rxc1 := Row.cell (RX20) 1
  have rxc2 := Row.cell (RX20) 2
  have ryc0 := Row.cell (RY20) 0
  have ryc1 := Row.cell (RY20) 1
  have rgc0 := Row.cell (RG20) 0
  have rgc1 := Row.cell (RG20) 1
  have ral := Row.lt RA20
  have rbl := Row.lt RB20
  have rwl := Row.lt RW20
  have rxl := Row.lt RX20
  have ryl := Row.lt RY20
  have rgl := Row.lt RG20
  simp at rac0 rac1 rac2 rbc0 rbc1 rwc0 rwc1 rxc0 rxc1 rxc2 ryc0 ryc1 rgc0 rgc1
  go_wp2_with fail
  refine (heldR_calls OG20.ints (by omega) (by omega) (by omega)).mono ?_
  rintro e w21 ⟨rfl, hb21⟩
  clear rac0 rac1 rac2 rbc0 rbc1 rwc0 rwc1 rxc0 rxc1 rxc2 ryc0 ryc1 rgc0 rgc1 ral rbl rwl rxl ryl rgl
  have RA21 := Row.below RA20 hb21
  have RB21 := Row.below RB20 hb21
  have RW21 := Row.below RW20 hb21
  have RX21 := Row.below RX20 hb21
  have RY21 := Row.below RY20 hb21
  have RG21 := Row.below RG20 hb21
  have OW21 := OW20.below hb21
  have OG21 := OG20.below hb21
  have B21 := B20.trans (hb21.mono B20.size)
  have Z21 := hb21.size
  clear RA20 RB20 RW20 RX20 RY20 RG20 OW20 OG20
  clear hb21
  have hqm : ((1 : Int) + (k : Int) != 1 + (k : Int)) = false := by simp
  have rac0 := Row.cell (RA21) 0
  have rac1 := Row.cell (RA21) 1
  have rac2 := Row.cell (RA21) 2
  have rbc0 := Row.cell (RB21) 0
  have rbc1 := Row.cell (RB21) 1
  have rwc0 := Row.cell (RW21) 0
  have rwc1 := Row.cell (RW21) 1
  have rxc0 := Row.cell (RX21) 0
  have rxc1 := Row.cell (RX21) 1
  have rxc2 := Row.cell (RX21) 2
  have ryc0 := Row.cell (RY21) 0
  have ryc1 := Row.cell (RY21) 1
  have rgc0 := Row.cell (RG21) 0
  have rgc1 := Row.cell (RG21) 1
  have ral := Row.lt RA21
  have rbl := Row.lt RB21
  have rwl := Row.lt RW21
  have rxl := Row.lt RX21
  have ryl := Row.lt RY21
  have rgl := Row.lt RG21
  simp at rac0 rac1 rac2 rbc0 rbc1 rwc0 rwc1 rxc0 rxc1 rxc2 ryc0 ryc1 rgc0 rgc1
  have HTI := Lib.hid (hT.below B21)
  have HFI := Lib.hid (hf.below B21)
  have HWI := Lib.hid (hw.below B21)
  have hA0 : AS w F C ao n cc tn ta m tc w21 w21 := ⟨rac0, rac1, rac2, rbc0, rbc1, by omega, Below.refl _ _⟩
  have hA1 := hA0.keep ((Below.refl w21.heap.size w21).drew)
  have hA2 := fun o : Obj => (hA0.keep (((Below.refl w21.heap.size w21).alloc (Nat.le_refl _) o).drew)).more
  have hwd : w21.drew.heap.size = w21.heap.size := rfl
  go_upto_region 37 with (fail)
  go_cut [16] (fun p wx => ResS w21 q k xs p wx)
  case first =>
    go_region_held3 (fun a => a.cell? ⟨w.heap.size, 0, none⟩ = some (.int .i64 F) ∧ a.cell? ⟨w.heap.size, 1, none⟩ = some (.int .i64 C) ∧ a.cell? ⟨w.heap.size, 2, none⟩ = some (.slice ao n cc) ∧ a.cell? ⟨w.heap.size + 1, 0, none⟩ = some (.int .i64 tn) ∧ a.cell? ⟨w.heap.size + 1, 1, none⟩ = some (.slice ta m tc) ∧ AS w F C ao n cc tn ta m tc w21 a) (first | with_reducible assumption | (with_reducible refine AS.s2 ?_ ‹_ ∧ _ ∧ _ ∧ _ ∧ _ ∧ AS _ _ _ _ _ _ _ _ _ _ _ _›; first | exact Nat.le_refl _ | omega) | with_reducible exact AS.al _ ‹_ ∧ _ ∧ _ ∧ _ ∧ _ ∧ AS _ _ _ _ _ _ _ _ _ _ _ _› | with_reducible exact hA1.more | with_reducible exact hA2 _ | with_reducible exact AS.al _ hA1.more | exact hA1.more)
      (first
        | (go_at_call 28; obtain ⟨y0, y1, y2, y3, y4, kb⟩ := ‹_ ∧ _ ∧ _ ∧ _ ∧ _ ∧ AS _ _ _ _ _ _ _ _ _ _ _ _›; refine (toConfig_calls (HTI.out.below (kb.bel)) hSh hn1).mono ?_; rintro e wC ⟨gC, rfl, hgC, hIC, bC⟩; have hS1 := (kb.below bC).more; have hs1 := kb.bel.size; have hs1b := bC.size; (try (have hs1c : w21.heap.size + 1 ≤ wC.heap.size := by simpa using bC.size)); (try (have rN : Row _ w21.heap.size 60 #[.int .i64 0, .slice none 0 0] := ((bC).block _ (by simp)).trans (heap_alloc_new w21 _))))
        | (go_at_call 29; obtain ⟨y0, y1, y2, y3, y4, kb⟩ := ‹_ ∧ _ ∧ _ ∧ _ ∧ _ ∧ AS _ _ _ _ _ _ _ _ _ _ _ _›; refine (toTable_calls (HFI.out.below (kb.bel)) (by omega)).mono ?_; rintro e wT ⟨vT, rfl, oT, bT⟩; obtain ⟨xT, cT, rfl, hcT, _, _⟩ := oT.shape; have hS2 := (kb.below bT).more; have hs2 := kb.bel.size; have hs2b := bT.size; (try (have hs2c : wC.heap.size + 1 ≤ wT.heap.size := by simpa using bT.size)); (try (have rM := Row.below rN bT)); (try (have rM : Row _ wC.heap.size 60 #[.int .i64 0, .slice none 0 0] := ((bT).block _ (by simp)).trans (heap_alloc_new wC _))); (first | (have hICT := hIC.below bT) | (have hICT := (hIC.below ((Below.refl _ _).alloc (Nat.le_refl _) _)).below bT)))
        | (go_at_call 39; obtain ⟨y0, y1, y2, y3, y4, kb⟩ := ‹_ ∧ _ ∧ _ ∧ _ ∧ _ ∧ AS _ _ _ _ _ _ _ _ _ _ _ _›; refine (to_calls (HWI.out.below (kb.bel)) (by omega)).mono ?_; rintro e wV ⟨vV, rfl, oV, bV⟩; obtain ⟨xV, cV, rfl, hcV, _, _⟩ := oV.shape; have hS4 := (kb.below bV).more; have hs4 := kb.bel.size; have hs4b := bV.size; (try (have hs4c : wT.heap.size + 1 ≤ wV.heap.size := by simpa using bV.size)); (try (have rK := Row.below rM bV)); (try (have rK : Row _ wT.heap.size 60 #[.int .i64 0, .slice none 0 0] := ((bV).block _ (by simp)).trans (heap_alloc_new wT _))); (first | (have hICV := hICT.below bV) | (have hICV := (hICT.below ((Below.refl _ _).alloc (Nat.le_refl _) _)).below bV)); (first | (have hTV := oT.ints.below bV) | (have hTV := (oT.ints.alloc _).below bV)))
        | (go_at_call 40; obtain ⟨y0, y1, y2, y3, y4, kb⟩ := ‹_ ∧ _ ∧ _ ∧ _ ∧ _ ∧ AS _ _ _ _ _ _ _ _ _ _ _ _›; (first | refine (gatherWords_calls hICV.tens hSh (Nat.le_refl _) (by omega) hTV (by omega) oV.ints (by omega) hcV).mono ?_ | refine (gatherWords_calls (hICV.tens.alloc _) hSh (Nat.le_refl _) (by omega) (hTV.alloc _) (by omega) (oV.ints.alloc _) (by omega) hcV).mono ?_); rw [HQ.out]; rintro e wS ⟨vS, nS, rfl, oS, bS⟩; obtain rfl : k = nS := HKK.out.trans oS.in_.lohi.symm; obtain ⟨xS, cS, rfl, _, _, _⟩ := oS.shape; have hS3 := (kb.below bS).more; have hs3 := kb.bel.size; have hs5 := bS.size; (try (have rL := Row.below rK bS)); (try (have rL : Row _ wV.heap.size 60 #[.int .i64 0, .slice none 0 0] := ((bS).block _ (by simp)).trans (heap_alloc_new wV _))); (try (have z0 := rL.cell 0; have z1 := rL.cell 1; have zf0 := frozen_of_row _ _ 0 _ _ rL; have zf1 := frozen_of_row _ _ 1 _ _ rL; simp at z0 z1))))
    all_goals
      go_wp2_with fail
      go_meet
      case rel => (first | exact ResS.al hS3.2.2.2.2.2.bel oS (by first | omega | (simp; omega)) | exact ResS.st hS3.2.2.2.2.2.bel rL oS (by first | omega | (simp; done) | (simp; omega)) (by first | exact Nat.le_refl _ | omega))
  obtain ⟨w22, rfl⟩ : ∃ w22, w22 = wc := ⟨_, rfl⟩
  obtain ⟨bh, ho, hk', rfl, RH22, OH22, hhl, hhg, kb22⟩ := hcut
  clear rac0 rac1 rac2 rbc0 rbc1 rwc0 rwc1 rxc0 rxc1 rxc2 ryc0 ryc1 rgc0 rgc1 ral rbl rwl rxl ryl rgl HTI HFI HWI hA0 hA1 hA2 hwd
  have RA22 := Row.below RA21 kb22
  have RB22 := Row.below RB21 kb22
  have RW22 := Row.below RW21 kb22
  have RX22 := Row.below RX21 kb22
  have RY22 := Row.below RY21 kb22
  have RG22 := Row.below RG21 kb22
  have OW22 := OW21.below kb22
  have OG22 := OG21.below kb22
  have B22 := B21.trans (kb22.mono B21.size)
  have Z22 := kb22.size
  clear RA21 RB21 RW21 RX21 RY21 RG21 OW21 OG21
  have rac0 := Row.cell (RA22) 0
  have rac1 := Row.cell (RA22) 1
  have rac2 := Row.cell (RA22) 2
  have rbc0 := Row.cell (RB22) 0
  have rbc1 := Row.cell (RB22) 1
  have rwc0 := Row.cell (RW22) 0
  have rwc1 := Row.cell (RW22) 1
  have rxc0 := Row.cell (RX22) 0
  have rxc1 := Row.cell (RX22) 1
  have rxc2 := Row.cell (RX22) 2
  have ryc0 := Row.cell (RY22) 0
  have ryc1 := Row.cell (RY22) 1
  have rgc0 := Row.cell (RG22) 0
  have rgc1 := Row.cell (RG22) 1
  have rhc0 := Row.cell (RH22) 0
  have rhc1 := Row.cell (RH22) 1
  have ral := Row.lt RA22
  have rbl := Row.lt RB22
  have rwl := Row.lt RW22
  have rxl := Row.lt RX22
  have ryl := Row.lt RY22
  have rgl := Row.lt RG22
  have rhl := Row.lt RH22
  simp at rac0 rac1 rac2 rbc0 rbc1 rwc0 rwc1 rxc0 rxc1 rxc2 ryc0 ryc1 rgc0 rgc1 rhc0 rhc1
  go_wp2_with fail
  refine (eqR_calls OH22.ints OW22.ints (by omega)).mono ?_
  rintro e w23 ⟨rfl, hb23⟩
  clear rac0 rac1 rac2 rbc0 rbc1 rwc0 rwc1 rxc0 rxc1 rxc2 ryc0 ryc1 rgc0 rgc1 rhc0 rhc1 ral rbl rwl rxl ryl rgl rhl
  have RA23 := Row.below RA22 hb23
  have RB23 := Row.below RB22 hb23
  have RW23 := Row.below RW22 hb23
  have RX23 := Row.below RX22 hb23
  have RY23 := Row.below RY22 hb23
  have RG23 := Row.below RG22 hb23
  have RH23 := Row.below RH22 hb23
  have OW23 := OW22.below hb23
  have OG23 := OG22.below hb23
  have OH23 := OH22.below hb23
  have B23 := B22.trans (hb23.mono B22.size)
  have Z23 := hb23.size
  clear RA22 RB22 RW22 RX22 RY22 RG22 RH22 OW22 OG22 OH22
  clear hb23
  have rac0 := Row.cell (RA23) 0
  have rac1 := Row.cell (RA23) 1
  have rac2 := Row.cell (RA23) 2
  have rbc0 := Row.cell (RB23) 0
  have rbc1 := Row.cell (RB23) 1
  have rwc0 := Row.cell (RW23) 0
  have rwc1 := Row.cell (RW23) 1
  have rxc0 := Row.cell (RX23) 0
  have rxc1 := Row.cell (RX23) 1
  have rxc2 := Row.cell (RX23) 2
  have ryc0 := Row.cell (RY23) 0
  have ryc1 := Row.cell (RY23) 1
  have rgc0 := Row.cell (RG23) 0
  have rgc1 := Row.cell (RG23) 1
  have rhc0 := Row.cell (RH23) 0
  have rhc1 := Row.cell (RH23) 1
  have ral := Row.lt RA23
  have rbl := Row.lt RB23
  have rwl := Row.lt RW23
  have rxl := Row.lt RX23
  have ryl := Row.lt RY23
  have rgl := Row.lt RG23
  have rhl := Row.lt RH23
  simp at rac0 rac1 rac2 rbc0 rbc1 rwc0 rwc1 rxc0 rxc1 rxc2 ryc0 ryc1 rgc0 rgc1 rhc0 rhc1
  go_wp2_with fail
  refine (heldR_calls OG23.ints (by omega) (by omega) (by omega)).mono ?_
  rintro e w24 ⟨rfl, hb24⟩
  clear rac0 rac1 rac2 rbc0 rbc1 rwc0 rwc1 rxc0 rxc1 rxc2 ryc0 ryc1 rgc0 rgc1 rhc0 rhc1 ral rbl rwl rxl ryl rgl rhl
  have RA24 := Row.below RA23 hb24
  have RB24 := Row.below RB23 hb24
  have RW24 := Row.below RW23 hb24
  have RX24 := Row.below RX23 hb24
  have RY24 := Row.below RY23 hb24
  have RG24 := Row.below RG23 hb24
  have RH24 := Row.below RH23 hb24
  have OW24 := OW23.below hb24
  have OG24 := OG23.below hb24
  have OH24 := OH23.below hb24
  have B24 := B23.trans (hb24.mono B23.size)
  have Z24 := hb24.size
  clear RA23 RB23 RW23 RX23 RY23 RG23 RH23 OW23 OG23 OH23
  clear hb24
  go_wp2_with fail
  go_ret
  exact ⟨rfl, B24⟩
end Go.Proofs.Ytoaeglhjaandmaa

/- A config that came in, opened to what is known of it in memory. -/
namespace Go.Proofs.Ytoaeglhjaandmaa
open Go.Joins Go.ChangeShapes Go.WideShapes Go.RowKit Go.Deep
set_option linter.unusedVariables false

section
variable {H : Type} {enc : TypeId × Value → H} {P : Program} {w : World} {base : Nat} {spare : Nat → Bool} {held : Bool}
/-- A slice of structs of one-cell fields: each element's fields in their cells. -/
theorem open_structs {t e : TypeId} {fs : Array Field} {fuel : Nat} {cs : List Value} {x : DataW H × List MemPlace} (ht : P.underlying t = some (.slice e)) (he : P.underlying e = some (.struct fs))
    (hone : oneCellFields P fs = true) (hC : P.cellsOf e = fs.size) (h : DataW.trod enc P w base spare held fuel t cs = some x) :
    cs = [.slice none 0 0] ∨
    ∃ (a : Addr) (len cap : Nat), cs = [.slice (some a) len cap] ∧ len ≤ cap ∧ cap ≤ maxLen ∧
      ∀ i, i < len → ∃ n, ∀ (j : Nat) (f : Field), fs[j]? = some f → ∃ (v : Value) (y : DataW H × List MemPlace), w.cell? (a.add (i * fs.size + j)) = some v ∧ DataW.trod enc P w base spare held n f.type [v] = some y := by
  rcases open_slice ht h with h0 | ⟨a, len, cap, m, n, D, Pl, hcs, hb, hl, hm, hmm, hx, hi⟩
  · exact .inl h0.1
  · refine .inr ⟨a, len, cap, hcs, hl, hm, fun i him => ?_⟩
    have him2 : i < m := by
      rw [hmm]; split <;> omega
    obtain ⟨cs', hc, ht'⟩ := hi i him2
    rw [hC] at hc
    obtain ⟨ys, n', hn', hy, hlen, hyl, hf⟩ := DataW.trod_struct he ht'
    obtain ⟨_, hcl, hat⟩ := World.cells?_some hc
    refine ⟨n', fun j f hj => ?_⟩
    obtain ⟨ho, hk⟩ := hone_of hone j f hj
    have hjl : j < fs.size := (Array.getElem?_eq_some_iff.1 hj).1
    have hcell := hat j hjl
    have hv : cs'[j]? = some (cs'[j]'(by omega)) := List.getElem?_eq_getElem (by omega)
    have h1 := hf j f hj
    rw [ho, hk] at h1
    have hone' : (cs'.drop j).take 1 = [cs'[j]'(by omega)] := by
      rw [List.drop_eq_getElem_cons (by omega)]
      rfl
    rw [hone'] at h1
    have hys : ys[j]? = some (ys[j]'(by omega)) := List.getElem?_eq_getElem (by omega)
    refine ⟨_, _, ?_, h1.trans hys⟩
    rw [← Go.Deep.add_add, hcell, hv]
end

theorem ints_of_trod {H : Type} {enc : TypeId × Value → H} {w : World} {base : Nat} {spare : Nat → Bool} {held : Bool} {fuel : Nat} {v : Value} {x : DataW H × List MemPlace}
    (h : DataW.trod enc Try.prog w base spare held fuel 27 [v] = some x) : ∃ a m c xs, v = .slice a m c ∧ m ≤ c ∧ c ≤ maxLen ∧ Ints w a m xs := by
  rcases open_ints Try.underlying27 Try.underlying2 (by kernel_rfl) h with ⟨hcs, _⟩ | ⟨x, l, c, zs, hcs, _, hl, hm, hz, _, hcell, hwz⟩
  · simp at hcs
    exact ⟨none, 0, 0, [], hcs, Nat.le_refl _, Nat.zero_le _, Ints.none_ _⟩
  · simp at hcs
    rcases Nat.eq_zero_or_pos l with rfl | h0
    · exact ⟨some x, 0, c, [], hcs, hl, hm, ⟨rfl, fun h => absurd h (by omega)⟩⟩
    · have hzl : l ≤ zs.length := by rw [hz]; split <;> omega
      obtain ⟨b, off, rfl, hc⟩ := ints_at hcell (by omega)
      refine ⟨_, l, c, zs.take l, hcs, hl, hm, by simp; omega, fun _ => ⟨b, off, rfl, World.block_lt_of_cell? w _ (hc 0 (by omega)), fun j hj => ?_⟩⟩
      rw [hc j (by omega)]; simp [List.getD, hj]

/-- The tenants of a config that came in (any element type with the two fields). -/
theorem tens_of_cells {w : World} {a : Addr} {n : Nat} (h : ∀ i, i < n → ∃ v0 c, w.cell? (a.add (i * 2)) = some v0 ∧ w.cell? (a.add (i * 2 + 1)) = some (.int .i64 c) ∧ ∃ b m cc xs, v0 = .slice b m cc ∧ m ≤ cc ∧ cc ≤ maxLen ∧ Ints w b m xs) :
    ∃ ts, Tens w (some a) n ts ∧ Short 9223372036854775807 ts := by
  have : ∀ k, k ≤ n → ∃ ts : List (List Int × Int), ts.length = k ∧ Short 9223372036854775807 ts ∧ ∀ i, i < k → ∃ b m cc, m ≤ cc ∧ w.cell? (a.add (i * 2)) = some (.slice b m cc) ∧ w.cell? (a.add (i * 2 + 1)) = some (.int .i64 (tenAt ts i).2) ∧ Ints w b m (tenAt ts i).1 := by
    intro k
    induction k with
    | zero => exact fun _ => ⟨[], rfl, fun t ht => by simp at ht, fun i hi => by omega⟩
    | succ k ih =>
      intro hk
      obtain ⟨ts, hl, hs, hc⟩ := ih (by omega)
      obtain ⟨v0, c, h0, h1, b, m, cc, xs, rfl, hm, hcc, hI⟩ := h k (by omega)
      refine ⟨ts ++ [(xs, c)], by simp [hl], ?_, fun i hi => ?_⟩
      · intro t ht
        rcases List.mem_append.1 ht with h2 | h2
        · exact hs t h2
        · simp at h2; subst h2
          have := hI.1
          unfold maxLen at hcc
          simp only; omega
      · by_cases e : i = k
        · subst e
          have ht : tenAt (ts ++ [(xs, c)]) i = (xs, c) := by simp [tenAt, List.getD, ← hl]
          exact ⟨b, m, cc, hm, h0, by rw [ht]; exact h1, by rw [ht]; exact hI⟩
        · have ht : tenAt (ts ++ [(xs, c)]) i = tenAt ts i := by
            unfold tenAt
            rw [List.getD_eq_getElem?_getD, List.getD_eq_getElem?_getD, List.getElem?_append_left (by omega)]
          rw [ht]; exact hc i (by omega)
  obtain ⟨ts, hl, hs, hc⟩ := this n (Nat.le_refl _)
  refine ⟨ts, ⟨hl, fun h0 => ?_⟩, hs⟩
  obtain ⟨b, off, spot⟩ := a
  obtain ⟨_, _, _, _, e0, _⟩ := hc 0 h0
  have hspot : spot = none := by simpa [Addr.add] using World.cell?_spot e0
  subst hspot
  have hb : b < w.heap.size := by
    have := World.block_lt_of_cell? w _ e0
    rwa [add_block] at this
  refine ⟨b, off, rfl, hb, fun j hj => ?_⟩
  obtain ⟨b', m, cc, hm, e0, e1, hI⟩ := hc j hj
  rw [Go.WideShapes.add_plain] at e0 e1
  exact ⟨hb, b', m, cc, hm, e0, by rw [Nat.add_assoc]; exact e1, hI⟩

set_option maxRecDepth 100000 in
theorem open_config {H : Type} {enc : TypeId × Value → H} {w : World} {base : Nat} {spare : Nat → Bool} {held : Bool} {r : Reach} {b0 : Nat} {v : Value} {d : DataW H} {p : List MemPlace}
    (hv : Value.okWide Try.prog w r b0 45 v) (h : DataW.Trod enc Try.prog w base spare held 45 v d p) :
    ∃ F C a n c ts, v = .agg #[.int .i64 F, .int .i64 C, .slice a n c] ∧ Tens w a n ts ∧ Short 9223372036854775807 ts ∧ n ≤ 9223372036854775807 := by
  obtain ⟨v0, v1, v2, y0, y1, y2, m, rfl, _, _, t0, t1, t2⟩ := open_agg3 Try.underlying45 (by kernel_rfl) (by kernel_rfl) hv h
  obtain ⟨F, h0, _⟩ := DataW.trod_int Try.underlying2 t0
  obtain ⟨C, h1, _⟩ := DataW.trod_int Try.underlying2 t1
  simp at h0 h1
  subst h0 h1
  rcases open_structs Try.underlying43 Try.underlying128 (by kernel_rfl) (by kernel_rfl) t2 with h2 | ⟨a, n, c, h2, hn, hc, hi⟩
  · simp at h2; subst h2
    exact ⟨F, C, none, 0, 0, [], rfl, Tens.none_ _, fun t ht => by simp at ht, Nat.zero_le _⟩
  · simp at h2; subst h2
    obtain ⟨ts, hT, hS⟩ := tens_of_cells (w := w) (a := a) (n := n) (fun i hi' => by
      obtain ⟨k, hf⟩ := hi i hi'
      obtain ⟨u0, z0, e0, f0⟩ := hf 0 _ rfl
      obtain ⟨u1, z1, e1, f1⟩ := hf 1 _ rfl
      obtain ⟨b, m, cc, xs, rfl, hm, hcc, hI⟩ := ints_of_trod f0
      obtain ⟨cp, hcp, _⟩ := DataW.trod_int Try.underlying2 f1
      simp at hcp
      subst hcp
      exact ⟨_, cp, e0, e1, b, m, cc, xs, rfl, hm, hcc, hI⟩)
    unfold maxLen at hc
    exact ⟨F, C, some a, n, c, ts, rfl, hT, hS, by omega⟩
end Go.Proofs.Ytoaeglhjaandmaa

/- A table that came in, opened to what is known of it in memory. -/
namespace Go.Proofs.Ytoaeglhjaandmaa
open Go.Joins Go.ChangeShapes Go.WideShapes Go.RowKit Go.Deep
set_option linter.unusedVariables false

section
variable {H : Type} {enc : TypeId × Value → H} {P : Program} {w : World} {base : Nat} {spare : Nat → Bool} {held : Bool}
theorem two_fields {t : TypeId} {f0 f1 : Field} {fuel : Nat} {c0 c1 : Value} {x : DataW H × List MemPlace} (hs : P.underlying t = some (.struct #[f0, f1])) (hone : oneCellFields P #[f0, f1] = true)
    (h : DataW.trod enc P w base spare held fuel t [c0, c1] = some x) :
    ∃ (n : Nat) (y0 y1 : DataW H × List MemPlace), DataW.trod enc P w base spare held n f0.type [c0] = some y0 ∧ DataW.trod enc P w base spare held n f1.type [c1] = some y1 := by
  obtain ⟨y0, y1, n, _, _, h0, h1⟩ := trod_struct2 hs h
  obtain ⟨o0, k0⟩ := hone_of hone 0 f0 rfl
  obtain ⟨o1, k1⟩ := hone_of hone 1 f1 rfl
  exact ⟨n, y0, y1, by simpa [o0, k0] using h0, by simpa [o1, k1] using h1⟩
end
section
variable {H : Type} {enc : TypeId × Value → H} {w : World} {base : Nat} {spare : Nat → Bool} {held : Bool}
set_option maxRecDepth 100000 in
/-- A table that came in. -/
theorem open_table {r : Reach} {b0 : Nat} {v : Value} {d : DataW H} {p : List MemPlace} (hv : Value.okWide Try.prog w r b0 46 v) (h : DataW.Trod enc Try.prog w base spare held 46 v d p) :
    ∃ (tn : Int) (a : Option Addr) (n c : Nat) (fr : List Int), v = .agg #[.int .i64 tn, .slice a n c] ∧ Ints w a n fr ∧ n ≤ c ∧ n ≤ 9223372036854775807 := by
  obtain ⟨cs, rfl, hsz⟩ := okWide_struct Try.underlying46 hv
  have h2 : Try.prog.cellsOf 46 = 2 := (by kernel_rfl)
  rw [h2] at hsz
  obtain ⟨fuel, hf⟩ := h
  obtain ⟨l⟩ := cs
  match l, hsz with
  | [c0, c1], _ =>
    obtain ⟨n, y0, y1, t0, t1⟩ := two_fields Try.underlying46 (by kernel_rfl) (by simpa [Value.cells] using hf)
    obtain ⟨k0, e0, _⟩ := DataW.trod_int Try.underlying2 t0
    simp at e0
    subst e0
    obtain ⟨a, m, c, xs, rfl, hm, hc, hI⟩ := ints_of_trod t1
    exact ⟨k0, a, m, c, xs, rfl, hI, hm, Nat.le_trans hm (Nat.le_trans hc (by decide))⟩
end
end Go.Proofs.Ytoaeglhjaandmaa
