/- The law 'FnFrames'. -/
import Derived.Test.YtfhdcbahgddlhaaImpl1c
import Derived.Test.YtfhdcbahgddlhaaSpec1b
import Derived.Test.YtfhdcbahgddlhaaDraw1b
import Derived.Test.YtfhdcbahgddlhaaFacts1
import Derived.Deep.RegionHeld3
namespace Go.Proofs.Ytfhdcbahgddlhaa
open Go.RowKit

theorem lwNums_calls {a b : Option Addr} {n m c d : Nat} {xs : List Int} {w : World} (ha : Ints w a n xs) (hb : Ints w b m xs) (hx : n ≤ 17592186044416) :
    Calls Try.prog 24 #[.slice a n c, .slice b m d] w fun e w' => e = .returned (.bool true) ∧ Below w.heap.size w w' := by
  obtain rfl : n = m := ha.1.symm.trans hb.1
  have h1 : ((n : Int) != (n : Int)) = false := by simp
  have HL := Lib.hid ha.1
  go_enter Try.func24, Try.ntmps24
  go_wp2
  go_loopw [5] (fun i wr => ∃ k : Nat, k ≤ n ∧ i = .int .i64 k ∧ Below w.heap.size w wr) (fun i _ => n - (intOf i).toNat)
  case atStart => exact ⟨0, Nat.zero_le _, rfl, Below.refl _ _⟩
  case round =>
    obtain ⟨k, hk, rfl, hbw⟩ := hrel
    by_cases hlt : k < n
    · obtain ⟨ba, oa, rfl, hba, hca⟩ := (ha.below hbw).at_ hlt
      obtain ⟨bb, ob, rfl, hbb, hcb⟩ := (hb.below hbw).at_ hlt
      have hkx : k < xs.length := by rw [HL.out]; exact hlt
      have h2 : (xs[k] != xs[k]) = false := by simp
      go_wp2_with (go_quiet (fail))
      go_roundw
      case rel => exact ⟨k + 1, by omega, by go_num, below_drewN hbw _⟩
      case measure => simp [intOf]; omega
    · go_wp2
      go_ret
      exact ⟨rfl, hbw⟩


/-- Two cells, and all that was there, are kept. -/
theorem keep2 {W a b : World} {p q : Addr} {x y : Value} (h : a.cell? p = some x ∧ a.cell? q = some y ∧ Below W.heap.size W a) (hb : Below a.heap.size a b) :
    b.cell? p = some x ∧ b.cell? q = some y ∧ Below W.heap.size W b := by
  obtain ⟨h1, h2, h4⟩ := h
  exact ⟨(hb.cell (World.block_lt_of_cell? _ _ h1)).trans h1, (hb.cell (World.block_lt_of_cell? _ _ h2)).trans h2, h4.trans (hb.mono h4.size)⟩

/-- Three cells, and all that was there, are kept. -/
theorem keep3 {W a b : World} {p q r : Addr} {x y z : Value} (h : a.cell? p = some x ∧ a.cell? q = some y ∧ a.cell? r = some z ∧ Below W.heap.size W a) (hb : Below a.heap.size a b) :
    b.cell? p = some x ∧ b.cell? q = some y ∧ b.cell? r = some z ∧ Below W.heap.size W b := by
  obtain ⟨h1, h2, h3, h4⟩ := h
  exact ⟨(hb.cell (World.block_lt_of_cell? _ _ h1)).trans h1, (hb.cell (World.block_lt_of_cell? _ _ h2)).trans h2, (hb.cell (World.block_lt_of_cell? _ _ h3)).trans h3, h4.trans (hb.mono h4.size)⟩

set_option maxHeartbeats 4000000 in
set_option maxRecDepth 100000 in
theorem lawFrames {ao : Option Addr} {n c : Nat} {bs : List Int} {w : World} (hb : Bytes w ao n bs) :
    Calls Try.prog 3 #[.slice ao n c] w fun e w' => e = .returned (.bool true) ∧ Below w.heap.size w w' := by
  by_cases hbig : n ≤ 1048576
  rotate_left
  · go_enter Try.func3, Try.ntmps3
    go_wp2
    go_ret
    exact ⟨rfl, Below.refl _ _⟩
  have hbig' : ¬ (1048576 : Int) < (n : Int) := by omega
  go_enter Try.func3, Try.ntmps3
  go_wp2_with (go_at_call 10; go_in)
  refine (drawWriteFrame_calls hb hbig).mono ?_
  rintro e w1 ⟨a1, n1, c1, xs, f, a2, n2, c2, page, rfl, I1, hc1, hn1, I2, hn2, B1⟩
  go_wp2_with fail
  refine (writeFrame_calls I1 I2 (by omega) (by omega)).mono ?_
  rintro e w2 ⟨v2, m2, rfl, o2, b2⟩
  obtain ⟨q2, d2, rfl, hd2, _, _⟩ := o2.shape
  have hm2 : m2 ≤ 640 := by have := o2.in_.lohi; have := writeFrame_small xs f page; omega
  have O2 := o2.in_
  have I1 := I1.below b2
  have I2 := I2.below b2
  have B2 := B1.trans (b2.mono B1.size)
  clear o2 b2 B1
  go_wp2_with fail
  refine (drawZeroFrame_calls (hb.below (B2.alloc B2.size _)) hbig).mono ?_
  rintro e w3 ⟨a3, n3, c3, zs, g, rfl, I3, hc3, hn3, b3⟩
  have b3' := below_past b3
  have R2 := Row.new b3
  have I1 := I1.below b3'
  have I2 := I2.below b3'
  have O2 := O2.below b3'
  have B3 := B2.trans (b3'.mono B2.size)
  have s3 := b3'.size
  clear b3 b3' B2
  go_wp2_with fail
  refine (zeroFrame_calls I3 (by omega)).mono ?_
  rintro e w4 ⟨v4, m4, rfl, o4, b4⟩
  obtain ⟨q4, d4, rfl, hd4, _, _⟩ := o4.shape
  have hm4 : m4 ≤ 640 := by have := o4.in_.lohi; have := zeroFrame_small zs g; omega
  have O4 := o4.in_
  have I1 := I1.below b4
  have I2 := I2.below b4
  have I3 := I3.below b4
  have O2 := O2.below b4
  have R2 := R2.below b4
  have B4 := B3.trans (b4.mono B3.size)
  clear o4 b4 B3
  go_wp2_with fail
  refine (drawNewArena_calls (hb.below (B4.alloc B4.size _)) hbig).mono ?_
  rintro e w5 ⟨⟨k, hk, rfl⟩, b5⟩
  have b5' := below_past b5
  have R4 := Row.new b5
  have I1 := I1.below b5'
  have I2 := I2.below b5'
  have I3 := I3.below b5'
  have O2 := O2.below b5'
  have R2 := R2.below b5'
  have O4 := O4.below b5'
  have B5 := B4.trans (b5'.mono B4.size)
  clear b5 b5' B4
  go_wp2_with fail
  refine (newArena_calls).mono ?_
  rintro e w6 ⟨v6, m6, rfl, o6, b6⟩
  obtain ⟨q6, d6, rfl, hd6, _, _⟩ := o6.shape
  have hm6 : m6 ≤ 640 := by have := o6.in_.lohi; have := newArena_small k; omega
  have O6 := o6.in_
  have I1 := I1.below b6
  have I2 := I2.below b6
  have I3 := I3.below b6
  have O2 := O2.below b6
  have O4 := O4.below b6
  have R2 := R2.below b6
  have R4 := R4.below b6
  have B6 := B5.trans (b6.mono B5.size)
  have HK := Lib.hid hk
  clear o6 b6 B5 hk
  go_wp2_with fail
  obtain ⟨W, hW⟩ : ∃ W, W = w6.alloc (.cells #[.int .i64 (newArena k).1, .slice q6 m6 d6] 28) := ⟨_, rfl⟩
  have bW : Below w6.heap.size w6 W := by rw [hW]; exact (Below.refl _ _).alloc (Nat.le_refl _) _
  have R6 : Row W w6.heap.size 28 #[.int .i64 (newArena k).1, .slice q6 m6 d6] := by rw [hW]; exact heap_alloc_new _ _
  have I1 := I1.below bW
  have I2 := I2.below bW
  have I3 := I3.below bW
  have O2 := O2.below bW
  have O4 := O4.below bW
  have O6 := O6.below bW
  have R2 := R2.below bW
  have R4 := R4.below bW
  have BW := B6.trans (bW.mono B6.size)
  rw [← hW]
  clear hW bW B6
  have k0 : W.cell? ⟨w2.heap.size, 0, none⟩ = some (.int .i64 (writeFrame xs f page).1) := by rw [R2.cell 0]; rfl
  have k1 : W.cell? ⟨w4.heap.size, 0, none⟩ = some (.int .i64 (zeroFrame zs g).1) := by rw [R4.cell 0]; rfl
  have k2 : W.cell? ⟨w6.heap.size, 0, none⟩ = some (.int .i64 (newArena k).1) := by rw [R6.cell 0]; rfl
  have kB := Below.refl W.heap.size W
  have g0 : ((writeFrame xs f page).1 != (writeFrame xs f page).1) = false := by simp
  have g1 : ((zeroFrame zs g).1 != (zeroFrame zs g).1) = false := by simp
  have g2 : ((newArena k).1 != (newArena k).1) = false := by simp
  have g3 : (arenaFault xs != arenaFault xs) = false := by simp
  have g4 : (isZeroFrame zs g != isZeroFrame zs g) = false := by simp
  have fl0 := run_field_R
  have fl1 := run_field_R1
  go_region_held3 (fun w' => w'.cell? ⟨w2.heap.size, 0, none⟩ = some (.int .i64 (writeFrame xs f page).1) ∧ w'.cell? ⟨w4.heap.size, 0, none⟩ = some (.int .i64 (zeroFrame zs g).1) ∧ w'.cell? ⟨w6.heap.size, 0, none⟩ = some (.int .i64 (newArena k).1) ∧ Below W.heap.size W w') (first | assumption | exact ⟨k0, k1, k2, kB.drew⟩)
    (first
      | (go_at_call 17; obtain ⟨x0, x1, x2, kb⟩ := ‹_ ∧ _ ∧ _ ∧ Below _ _ _›; refine (sWriteFrame_calls (I1.below kb) (I2.below kb) (by omega) (by omega)).mono ?_; rintro e w' ⟨v, nn, rfl, o, b⟩; obtain ⟨qq, dd, rfl, _, _, _⟩ := o.shape; have hS' := keep3 ⟨x0, x1, x2, kb⟩ b)
      | (go_at_call 18; obtain ⟨x0, x1, x2, kb⟩ := ‹_ ∧ _ ∧ _ ∧ Below _ _ _›; refine (sZeroFrame_calls (I3.below kb) (by omega)).mono ?_; rintro e w' ⟨v, nn, rfl, o, b⟩; obtain ⟨qq, dd, rfl, _, _, _⟩ := o.shape; have hS' := keep3 ⟨x0, x1, x2, kb⟩ b)
      | (go_at_call 19; obtain ⟨x0, x1, x2, kb⟩ := ‹_ ∧ _ ∧ _ ∧ Below _ _ _›; refine (sNewArena_calls).mono ?_; rintro e w' ⟨v, nn, rfl, o, b⟩; obtain ⟨qq, dd, rfl, _, _, _⟩ := o.shape; have hS' := keep3 ⟨x0, x1, x2, kb⟩ b)
      | (go_at_call 20; obtain ⟨x0, x1, x2, kb⟩ := ‹_ ∧ _ ∧ _ ∧ Below _ _ _›; refine (arenaFault_calls (I1.below kb) (by omega)).mono ?_; rintro e w' ⟨rfl, b⟩; have hS' := keep3 ⟨x0, x1, x2, kb⟩ b)
      | (go_at_call 21; obtain ⟨x0, x1, x2, kb⟩ := ‹_ ∧ _ ∧ _ ∧ Below _ _ _›; refine (sArenaFault_calls (I1.below kb) (by omega)).mono ?_; rintro e w' ⟨rfl, rfl⟩)
      | (go_at_call 22; obtain ⟨x0, x1, x2, kb⟩ := ‹_ ∧ _ ∧ _ ∧ Below _ _ _›; refine (isZeroFrame_calls (I3.below kb) hc3 (by omega)).mono ?_; rintro e w' ⟨rfl, b⟩; have hS' := keep3 ⟨x0, x1, x2, kb⟩ b)
      | (go_at_call 23; obtain ⟨x0, x1, x2, kb⟩ := ‹_ ∧ _ ∧ _ ∧ Below _ _ _›; refine (sIsZeroFrame_calls (I3.below kb) hc3 (by omega)).mono ?_; rintro e w' ⟨rfl, b⟩; have hS' := keep3 ⟨x0, x1, x2, kb⟩ b))
  obtain ⟨_, _, _, kb⟩ := ‹_ ∧ _ ∧ _ ∧ Below W.heap.size W _›
  have I1 := I1.below kb
  have I2 := I2.below kb
  have I3 := I3.below kb
  have O2 := O2.below kb
  have O4 := O4.below kb
  have O6 := O6.below kb
  have R2 := R2.below kb
  have R4 := R4.below kb
  have R6 := R6.below kb
  have BV := BW.trans (kb.mono BW.size)
  clear k0 k1 k2 kB g0 g1 g2 g3 g4 b hS' kb
  have l6 := R6.lt
  have e60 := R6.cell 0
  have e61 := R6.cell 1
  simp at e60 e61
  by_cases hk0 : (newArena k).1 = 0
  obtain ⟨hlen, hz, hk1, hk2⟩ := new_ok hk0
  have hk0' : ((newArena k).1 == 0) = true := by simpa using hk0
  have hm6 : m6 = (newArena k).2.length := O6.lohi
  have hlen' : ((m6 : Int) != k * 16) = false := by rw [hm6, hlen]; simp
  have HZ := Lib.hid hz
  clear hz hlen hm6 hk0
  go_wp2_with fail
  refine (isZeroFrame_calls O6.ints hd6 (by omega)).mono ?_
  rintro e V ⟨rfl, bv⟩
  rw [HZ.out]
  have I1 := I1.below bv
  have I2 := I2.below bv
  have I3 := I3.below bv
  have O2 := O2.below bv
  have O4 := O4.below bv
  have R2 := R2.below bv
  have R4 := R4.below bv
  have BV := BV.trans (bv.mono BV.size)
  clear hk0' hlen' e60 e61 l6 bv O6 R6 HZ hk1 hk2
  go_wp2_with fail
  rotate_left
  have hk0' : ((newArena k).1 == 0) = false := by simpa using hk0
  clear hk0
  go_wp2_with fail
  obtain ⟨V, hV⟩ : ∃ V, V = w' := ⟨_, rfl⟩
  subst hV
  clear hk0' e60 e61 l6 O6 R6
  rotate_left
  all_goals
    have e40 : V.cell? ⟨w4.heap.size, 0, none⟩ = some (.int .i64 (zeroFrame zs g).1) := by rw [R4.cell 0]; rfl
    have e41 : V.cell? ⟨w4.heap.size, 1, none⟩ = some (.slice q4 m4 d4) := by rw [R4.cell 1]; rfl
    have kV := Below.refl V.heap.size V
    by_cases hz0 : (zeroFrame zs g).1 = 0
    obtain ⟨hzz, hzw, _⟩ := zero_ok hz0
    have hz0' : ((zeroFrame zs g).1 == 0) = true := by simpa using hz0
    have HZ1 := Lib.hid hzz
    have HZ2 := Lib.hid hzw
    clear hz0 hzz hzw
    focus
     go_region_held3 (fun w' => w'.cell? ⟨w4.heap.size, 0, none⟩ = some (.int .i64 (zeroFrame zs g).1) ∧ w'.cell? ⟨w4.heap.size, 1, none⟩ = some (.slice q4 m4 d4) ∧ Below V.heap.size V w') (first | assumption | exact ⟨e40, e41, kV.drew⟩)
      (first
        | (go_at_call 22; obtain ⟨x0, x1, kb⟩ := ‹_ ∧ _ ∧ Below _ _ _›; refine (isZeroFrame_calls (O4.below kb).ints hd4 (by omega)).mono ?_; rintro e w' ⟨rfl, b⟩; rw [HZ1.out]; have hS' := keep2 ⟨x0, x1, kb⟩ b)
        | (go_at_call 25; obtain ⟨x0, x1, kb⟩ := ‹_ ∧ _ ∧ Below _ _ _›; refine (frameWords_calls (I3.below kb) hc3 (by omega)).mono ?_; rintro e w' ⟨v, nn, rfl, o, b⟩; have hnn : nn ≤ 640 := (by have := o.in_.lohi; have := frameWords_small zs g; omega); obtain ⟨qq, dd, rfl, _, _, i1⟩ := o.shape; have hS' := keep2 ⟨x0, x1, kb⟩ b)
        | (go_at_call 12; obtain ⟨x0, x1, kb⟩ := ‹_ ∧ _ ∧ Below _ _ _›; refine (writeFrame_calls (O4.below kb).ints i1 (by omega) (by omega)).mono ?_; rintro e w' ⟨v, n5, rfl, o, b⟩; rw [HZ2.out] at o; obtain ⟨q5, d5, rfl, _, _, i5⟩ := o.shape; have hn5 : n5 ≤ 656 := (by have h5 : zs.length = n5 := i5.1; have h3 := I3.1; omega); have i5 : Ints w' q5 n5 zs := i5; have hS' := keep2 ⟨x0, x1, kb⟩ b)
        | (go_at_call 24; obtain ⟨x0, x1, kb⟩ := ‹_ ∧ _ ∧ Below _ _ _›; refine (lwNums_calls i5 (I3.below kb) (by omega)).mono ?_; rintro e w' ⟨rfl, b⟩; have hS' := keep2 ⟨x0, x1, kb⟩ b))
    obtain ⟨U, hU⟩ : ∃ U, U = w' := ⟨_, rfl⟩
    subst hU
    have kb2 := hS'.2.2
    have I1 := I1.below kb2
    have I2 := I2.below kb2
    have O2 := O2.below kb2
    have R2 := R2.below kb2
    have BU := BV.trans (kb2.mono BV.size)
    clear hS' kb2 hz0' HZ1 HZ2 e40 e41 kV
    rotate_left
    have hz0' : ((zeroFrame zs g).1 == 0) = false := by simpa using hz0
    clear hz0
    focus
     go_quiet (fail)
    obtain ⟨U, hU⟩ : ∃ U, U = V.drewN nq := ⟨_, rfl⟩
    have kb2 : Below V.heap.size V U := by rw [hU]; exact below_drewN (Below.refl _ _) _
    rw [← hU]
    have I1 := I1.below kb2
    have I2 := I2.below kb2
    have O2 := O2.below kb2
    have R2 := R2.below kb2
    have BU := BV.trans (kb2.mono BV.size)
    clear hU kb2 hz0' e40 e41 kV
    rotate_left
  all_goals
    have l2 := R2.lt
    have e20 := R2.cell 0
    have e21 := R2.cell 1
    simp at e20 e21
    by_cases hw0 : (writeFrame xs f page).1 = 0
    rotate_left
    have hw0' : ((writeFrame xs f page).1 != 0) = true := by simpa [bne_iff_ne] using hw0
    clear hw0
    focus
     go_wp2_with fail
     go_ret
     exact ⟨rfl, BU⟩
    obtain ⟨hl, hfw, hoth⟩ := write_ok hw0
    have hw0' : ((writeFrame xs f page).1 != 0) = false := by simpa using hw0
    have hmn : m2 = n1 := by have h1 := O2.lohi; have h2 := I1.1; omega
    have hmn' : ((m2 : Int) != (n1 : Int)) = false := by rw [hmn]; simp
    have HF1 := Lib.hid hfw
    have HF2 := Lib.hid hoth
    have HX := Lib.hid I1.1
    clear hw0 hl hfw hoth hmn
    go_wp2_with fail
    refine (frameWords_calls O2.ints hd2 (by omega)).mono ?_
    rintro e U2 ⟨v, nn, rfl, o, b⟩
    rw [HF1.out] at o
    rw [HF1.out]
    obtain ⟨qq, dd, rfl, _, _, i1⟩ := o.shape
    have hnn : nn ≤ 656 := by have h5 : page.length = nn := i1.1; have h3 := I2.1; omega
    have i1 : Ints U2 qq nn page := i1
    have I1 := I1.below b
    have I2 := I2.below b
    have O2 := O2.below b
    have R2 := R2.below b
    have BU := BU.trans (b.mono BU.size)
    clear o b l2 e20 e21
    go_wp2_with fail
    refine (lwNums_calls i1 I2 (by omega)).mono ?_
    rintro e U3 ⟨rfl, b⟩
    have I1 := I1.below b
    have O2 := O2.below b
    have R2 := R2.below b
    have BU := BU.trans (b.mono BU.size)
    clear b i1 I2
    go_wp2_with fail
    go_loopw [12] (fun t wr => ∃ j : Nat, j ≤ n1 / 16 ∧ t = .int .i64 j ∧ Below U3.heap.size U3 wr) (fun t _ => n1 / 16 - (intOf t).toNat)
    case atStart => exact ⟨0, Nat.zero_le _, rfl, Below.refl _ _⟩
    case round =>
      obtain ⟨j, hj, rfl, kb⟩ := hrel
      by_cases hlt : j < n1 / 16
      · have hlt' : (j : Int) < (n1 : Int) / 16 := by omega
        by_cases hjf : (j : Int) = f
        · have hne : ((j : Int) != f) = false := by rw [hjf]; simp
          clear hjf
          go_wp2_with fail
          go_roundw
          case rel => exact ⟨j + 1, by omega, by go_num, kb⟩
          case measure => simp [intOf]; omega
        · have hne : ((j : Int) != f) = true := by simpa [bne_iff_ne] using hjf
          have HJ := Lib.hid (HF2.out j (by omega) (by rw [HX.out]; omega) hjf)
          have Rr := R2.below kb
          have l2 := Rr.lt
          have e20 := Rr.cell 0
          have e21 := Rr.cell 1
          simp at e20 e21
          clear hjf
          go_wp2_with fail
          refine (frameWords_calls (O2.below kb).ints hd2 (by omega)).mono ?_
          rintro e U4 ⟨v, nn, rfl, o, b⟩
          rw [HJ.out] at o
          rw [HJ.out]
          have hnn : nn ≤ 640 := by have := o.in_.lohi; have := frameWords_small xs j; omega
          obtain ⟨qq, dd, rfl, _, _, i1⟩ := o.shape
          have kb4 := kb.trans (b.mono kb.size)
          clear o b e20 e21 l2 Rr
          go_wp2_with fail
          refine (sFrameWords_calls (I1.below kb4) hc1 (by omega)).mono ?_
          rintro e U5 ⟨v, n5, rfl, o, b⟩
          obtain ⟨q5, d5, rfl, _, _, i5⟩ := o.shape
          have i1 := i1.below b
          have kb5 := kb4.trans (b.mono kb4.size)
          clear o b
          go_wp2_with fail
          refine (lwNums_calls i1 i5 (by omega)).mono ?_
          rintro e U6 ⟨rfl, b⟩
          have kb6 := kb5.trans (b.mono kb5.size)
          clear b i1 i5 kb4 kb5
          go_wp2_with fail
          go_roundw
          case rel => exact ⟨j + 1, by omega, by go_num, kb6⟩
          case measure => simp [intOf]; omega
      · have hlt' : ¬ (j : Int) < (n1 : Int) / 16 := by omega
        go_wp2_with fail
        go_ret
        exact ⟨rfl, BU.trans (kb.mono BU.size)⟩
end Go.Proofs.Ytfhdcbahgddlhaa
