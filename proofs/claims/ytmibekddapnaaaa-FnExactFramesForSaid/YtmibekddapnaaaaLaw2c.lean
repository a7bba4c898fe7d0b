/- The law of 'FramesFor' answers true at every argument and writes nothing that was there. -/
import Derived.Test.YtmibekddapnaaaaLaw2a
namespace Go.Proofs.Ytmibekddapnaaaa
open Go.RowKit

set_option maxHeartbeats 4000000 in
set_option maxRecDepth 100000 in
theorem lawFramesFor {ao : Option Addr} {n cc : Nat} {F C f : Int} {ts : List (List Int × Int)} {w : World} (hT : Tens w ao n ts) (hS : Short 9223372036854775807 ts) (hn : n ≤ 9223372036854775807) :
    Calls Try.prog 6 #[.agg #[.int .i64 F, .int .i64 C, .slice ao n cc], .int .i64 f] w fun e w' => e = .returned (.bool true) ∧ Below w.heap.size w w' := by
  go_enter Try.func6, Try.ntmps6
  go_wp2_with fail
  refine (szConfig_calls (hT.alloc _) hS hn).mono ?_
  rintro e w1 ⟨rfl | ⟨r, rfl, r0, r1, hn1, hS1⟩, hb1⟩
  · have hb := below_past hb1
    clear hb1
    go_wp2_with fail
    go_ret
    exact ⟨rfl, hb⟩
  have hS2 := hS1.mono (M := 17592186044416) (by omega)
  have hr : ¬ (r < 0) := by omega
  have RA := Row.new hb1
  have l0 := RA.lt
  have a0 := RA.cell 0
  have a1 := RA.cell 1
  have a2 := RA.cell 2
  simp at a0 a1 a2
  have B1 := below_past hb1
  have T1 := hT.below B1
  have HS1 := Lib.hid hS1
  clear hb1 hS1
  go_wp2_with fail
  refine (toConfig_calls T1 hS2 hn1).mono ?_
  rintro e w2 ⟨g2, rfl, hg2, hI2, hb2⟩
  have B2 := B1.trans (hb2.mono B1.size)
  have R2 := RA.below hb2
  clear B1 hb2 RA a0 a1 a2 l0 hg2 T1
  go_wp2_with fail
  refine (sFramesFor_calls hI2.tens hS2 (Nat.le_refl _) (by omega)).mono ?_
  rintro e w3 ⟨v, m, rfl, hown, hb3⟩
  have hsm := framesFor_small F C ts f
  obtain ⟨⟨p, xs⟩, hp⟩ : ∃ p, framesFor F C ts f = p := ⟨_, rfl⟩
  have HP := Lib.hid hp
  rw [hp] at hown hsm ⊢
  clear hp
  have hm : m = xs.length := hown.in_.lohi
  have hm40 : m ≤ 40 := by have : xs.length ≤ 40 := hsm; omega
  obtain ⟨vo, vc, rfl, hvc, _, _⟩ := hown.shape
  have OW := hown.in_
  have HM := Lib.hid hm
  clear hm
  have B3 := B2.trans (hb3.mono B2.size)
  have R3 := R2.below hb3
  have l0 := R3.lt
  have a0 := R3.cell 0
  have a1 := R3.cell 1
  have a2 := R3.cell 2
  simp at a0 a1 a2
  have T3 := hT.below B3
  clear B2 hb3 R2 hI2 hown hsm
  go_wp2_with fail
  refine (toConfig_calls (T3.alloc _) hS2 hn1).mono ?_
  rintro e w4 ⟨g4, rfl, hg4, hI4, hb4⟩
  have RW := Row.new hb4
  have B4 := B3.trans ((below_past hb4).mono B3.size)
  have R4 := R3.below (below_past hb4)
  have OW4 := OW.below (below_past hb4)
  have hg4' : w3.heap.size + 1 ≤ g4 := by simpa using hg4
  have s4 := hI4.2.1
  have s3 := B3.size
  clear B3 hb4 R3 a0 a1 a2 l0 hg4 T3 OW
  go_wp2_with fail
  refine (framesFor_calls (hI4.tens.alloc _) hS2 (Nat.le_refl _) (by omega)).mono ?_
  rintro e w5 ⟨u, m5, rfl, hown5, hb5⟩
  rw [HP.out] at hown5 ⊢
  have hm5 : m5 = xs.length := hown5.in_.lohi
  obtain rfl : m5 = m := by have := HM.out; omega
  obtain ⟨uo, uc, rfl, huc, _, _⟩ := hown5.shape
  have RX := Row.new hb5
  have OG : OwnIn w5 (w4.heap.size + 1) w5.heap.size (.slice uo m5 uc) m5 xs := (hown5.base (B' := w4.heap.size + 1) (by simp)).in_
  have B5 := B4.trans ((below_past hb5).mono B4.size)
  have s5 := (below_past hb5).size
  have R5 := R4.below (below_past hb5)
  have RW5 := RW.below (below_past hb5)
  have I5 := hI4.below (below_past hb5)
  have OW5 := OW4.below (below_past hb5)
  have x0lt := RX.lt
  clear B4 hb5 R4 hI4 RW hown5 OW4 hm5
  have lw := RW5.lt
  have v0 := RW5.cell 0
  have v1 := RW5.cell 1
  simp at v0 v1
  go_wp2_with fail
  refine (eqR_calls (OG.ints.alloc _) (OW5.ints.alloc _) (by omega)).mono ?_
  rintro e w6 ⟨rfl, hb6⟩
  have RG := Row.new hb6
  have hb6' := below_past hb6
  have B6 := B5.trans (hb6'.mono B5.size)
  have R6 := R5.below hb6'
  have RX6 := RX.below hb6'
  have I6 := I5.below hb6'
  have OG6 := OG.below hb6'
  have OW6 := OW5.below hb6'
  have RW6 := RW5.below hb6'
  have s6 := RG.lt
  have T7 := hT.below B6
  clear hb6 hb6' B5 R5 RX RW5 lw v0 v1 I5 OG OW5
  have x0 := RX6.cell 0
  have x1 := RX6.cell 1
  have x2 := RX6.cell 2
  have a0 := R6.cell 0
  have a1 := R6.cell 1
  have a2 := R6.cell 2
  simp at a0 a1 a2 x0 x1 x2
  have kB := Below.refl w6.heap.size w6
  go_wp2_with fail
  go_region_held3 (fun w' => w'.cell? ⟨w4.heap.size, 0, none⟩ = some (.int .i64 F) ∧ w'.cell? ⟨w4.heap.size, 1, none⟩ = some (.int .i64 C) ∧ w'.cell? ⟨w4.heap.size, 2, none⟩ = some (.slice (some ⟨g4, 0, none⟩) n n) ∧ w'.cell? ⟨w.heap.size, 0, none⟩ = some (.int .i64 F) ∧ w'.cell? ⟨w.heap.size, 1, none⟩ = some (.int .i64 C) ∧ w'.cell? ⟨w.heap.size, 2, none⟩ = some (.slice ao n cc) ∧ Below w6.heap.size w6 w') (first | assumption | exact ⟨x0, x1, x2, a0, a1, a2, kB.drew⟩)
    (first
      | (go_at_call 25; obtain ⟨y0, y1, y2, y3, y4, y5, kb⟩ := ‹_ ∧ _ ∧ _ ∧ _ ∧ _ ∧ _ ∧ Below _ _ _›; refine (toConfig_calls (T7.below kb) hS2 hn1).mono ?_; rintro e w' ⟨g6, rfl, hg6, hI6, b1⟩; have hS' := keep6 ⟨y0, y1, y2, y3, y4, y5, kb⟩ b1)
      | (go_at_call 26; obtain ⟨y0, y1, y2, y3, y4, y5, kb⟩ := ‹_ ∧ _ ∧ _ ∧ _ ∧ _ ∧ _ ∧ Below _ _ _›; refine (eqConfig_calls ((I6.below kb).tens) hI6.tens hS2 hn1).mono ?_; rintro e w'' ⟨rfl, b2⟩; have hS'' := keep6 ⟨y0, y1, y2, y3, y4, y5, kb⟩ b2))
  obtain ⟨_, _, _, _, _, _, kb⟩ := hS''
  obtain ⟨w8, hw8⟩ : ∃ w8, w8 = w'' := ⟨_, rfl⟩
  have kb : Below w6.heap.size w6 w8 := by rw [hw8]; exact kb
  rw [← hw8]
  have B8 := B6.trans (kb.mono B6.size)
  have R8 := R6.below kb
  have RX8 := RX6.below kb
  have I8 := I6.below kb
  have OG8 := OG6.below kb
  have OW8 := OW6.below kb
  have RW8 := RW6.below kb
  have RG8 := RG.below kb
  have s8 := kb.size
  clear hS' hI6 T7 kB x0 x1 x2 a0 a1 a2 B6 R6 RX6 I6 OG6 OW6 RW6 RG kb hw8 b1 b2
  have xl := RX8.lt
  have x0 := RX8.cell 0
  have x1 := RX8.cell 1
  have x2 := RX8.cell 2
  simp at x0 x1 x2
  go_wp2_with fail
  refine (markConfig_calls I8 HS1.out hn1).mono ?_
  rintro e w9 ⟨⟨K, rfl, hK⟩, ht9⟩
  have hK' : ¬ (K < 0) := by omega
  have s9 := ht9.size
  have R9 := R8.touch ht9 (.inl (by omega))
  have OG9 := OG8.touch ht9 (.inr (by omega))
  have OW9 := OW8.touch ht9 (.inl (by omega))
  have RW9 := RW8.touch ht9 (.inl (by omega))
  have RG9 := RG8.touch ht9 (.inr (by omega))
  have B9 := ht9.below B8 (by omega) (Nat.le_refl _)
  clear x0 x1 x2 xl R8 OG8 OW8 RW8 RG8 ht9 RX8 I8 B8
  have l1 := RG9.lt
  have v0 := RG9.cell 0
  have v1 := RG9.cell 1
  have l2 := RW9.lt
  have u0 := RW9.cell 0
  have u1 := RW9.cell 1
  simp at v0 v1 u0 u1
  go_wp2_with fail
  refine (eqR_calls OG9.ints OW9.ints (by omega)).mono ?_
  rintro e w10 ⟨rfl, hb10⟩
  have s10 := hb10.size
  have R10 := R9.below hb10
  have OG10 := OG9.below hb10
  have OW10 := OW9.below hb10
  have RW10 := RW9.below hb10
  have RG10 := RG9.below hb10
  have B10 := B9.trans (hb10.mono B9.size)
  clear v0 v1 u0 u1 l1 l2 R9 OG9 OW9 RW9 RG9 B9 hb10
  have l1 := RG10.lt
  have v0 := RG10.cell 0
  have v1 := RG10.cell 1
  simp at v0 v1
  go_wp2_with fail
  refine (markR_calls OG10 (by omega) (by omega) (by omega)).mono ?_
  rintro e w11 ⟨rfl, OG11, ht11⟩
  have s11 := ht11.size
  have R11 := R10.touch ht11 (.inl (by omega))
  have OW11 := OW10.touch ht11 (.inl (by omega))
  have RW11 := RW10.touch ht11 (.inl (by omega))
  have RG11 := RG10.touch ht11 (.inr (by omega))
  have B11 := ht11.below B10 (by omega) (Nat.le_refl _)
  clear v0 v1 l1 R10 OG10 OW10 RW10 RG10 ht11 B10
  have hqm : ((1 : Int) + (m5 : Int) != 1 + m5) = false := by simp
  have l1 := RG11.lt
  have v0 := RG11.cell 0
  have v1 := RG11.cell 1
  simp at v0 v1
  go_wp2_with fail
  refine (heldR_calls OG11.ints (by omega) (by omega) (by omega)).mono ?_
  rintro e w12 ⟨rfl, hb12⟩
  have s12 := hb12.size
  have R12 := R11.below hb12
  have OG12 := OG11.below hb12
  have OW12 := OW11.below hb12
  have RW12 := RW11.below hb12
  have RG12 := RG11.below hb12
  have B12 := B11.trans (hb12.mono B11.size)
  have T12 := hT.below B12
  clear v0 v1 l1 R11 OG11 OW11 RW11 RG11 B11 hb12
  have l0 := R12.lt
  have a0 := R12.cell 0
  have a1 := R12.cell 1
  have a2 := R12.cell 2
  simp at a0 a1 a2
  go_wp2_with fail
  refine (toConfig_calls T12 hS2 hn1).mono ?_
  rintro e w13 ⟨g13, rfl, hg13, hI13, hb13⟩
  have s13 := hb13.size
  have OG13 := OG12.below hb13
  have OW13 := OW12.below hb13
  have RW13 := RW12.below hb13
  have RG13 := RG12.below hb13
  have B13 := B12.trans (hb13.mono B12.size)
  clear a0 a1 a2 l0 R12 OG12 OW12 RW12 RG12 B12 hb13 T12 hg13
  go_wp2_with fail
  refine (framesFor_calls hI13.tens hS2 (Nat.le_refl _) (by omega)).mono ?_
  rintro e w14 ⟨z, m14, rfl, hown14, hb14⟩
  rw [HP.out] at hown14 ⊢
  have hm14 : m14 = xs.length := hown14.in_.lohi
  obtain rfl : m14 = m5 := by have := HM.out; omega
  obtain ⟨zo, zc, rfl, _, _, hz⟩ := hown14.shape
  have hz : Ints w14 zo m14 xs := hz
  have s14 := hb14.size
  have OG14 := OG13.below hb14
  have OW14 := OW13.below hb14
  have RW14 := RW13.below hb14
  have RG14 := RG13.below hb14
  have B14 := B13.trans (hb14.mono B13.size)
  clear OG13 OW13 RW13 RG13 B13 hb14 hI13 hown14 hm14
  have l2 := RW14.lt
  have u0 := RW14.cell 0
  have u1 := RW14.cell 1
  simp at u0 u1
  go_wp2_with fail
  refine (eqR_calls (hz.alloc _) (OW14.ints.alloc _) (by omega)).mono ?_
  rintro e w15 ⟨rfl, hb15⟩
  have hb15' := below_past hb15
  have OG15 := OG14.below hb15'
  have RG15 := RG14.below hb15'
  have B15 := B14.trans (hb15'.mono B14.size)
  clear u0 u1 l2 OG14 OW14 RW14 RG14 B14 hb15 hb15' hz
  have l1 := RG15.lt
  have v0 := RG15.cell 0
  have v1 := RG15.cell 1
  simp at v0 v1
  go_wp2_with fail
  refine (heldR_calls OG15.ints (by omega) (by omega) (by omega)).mono ?_
  rintro e w16 ⟨rfl, hb16⟩
  have B16 := B15.trans (hb16.mono B15.size)
  clear hb16
  go_wp2_with fail
  go_ret
  exact ⟨rfl, B16⟩
end Go.Proofs.Ytmibekddapnaaaa
