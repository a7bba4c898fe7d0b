/- The law 'FnColours'. -/
import Derived.Test.YtmibekddapnaaaaImpl2d
import Derived.Test.YtmibekddapnaaaaSpec2c
import Derived.Test.YtmibekddapnaaaaDraw2d
import Derived.Test.YtmibekddapnaaaaFacts2
import Derived.Deep.RegionHeld3
namespace Go.Proofs.Ytmibekddapnaaaa
open Go.RowKit

theorem lwNums_calls {a b : Option Addr} {n m c d : Nat} {xs : List Int} {w : World} (ha : Ints w a n xs) (hb : Ints w b m xs) (hx : n ≤ 17592186044416) :
    Calls Try.prog 15 #[.slice a n c, .slice b m d] w fun e w' => e = .returned (.bool true) ∧ Below w.heap.size w w' := by
  obtain rfl : n = m := ha.1.symm.trans hb.1
  have h1 : ((n : Int) != (n : Int)) = false := by simp
  have HL := Lib.hid ha.1
  go_enter Try.func15, Try.ntmps15
  go_wp2
  go_loopw [5] (fun i wr => ∃ k : Nat, k ≤ n ∧ i = .int .i64 k ∧ Below w.heap.size w wr) (fun i _ => n - (intOf i).toNat)
  case atStart => exact ⟨0, Nat.zero_le _, rfl, Below.refl _ _⟩
  case round =>
    obtain ⟨k, hk, rfl, hbw⟩ := hrel
    by_cases hlt : k < n
    · obtain ⟨ba, oa, rfl, hba, hca⟩ := (ha.below hbw).at_ hlt
      obtain ⟨bb, ob, rfl, hbb, hcb⟩ := (hb.below hbw).at_ hlt
      have hkx : k < xs.length := by rw [HL.out]; exact hlt
      have h2 : (xs[k] != xs[k]) = false := by simp
      go_wp2_with (go_quiet (fail))
      go_roundw
      case rel => exact ⟨k + 1, by omega, by go_num, below_drewN hbw _⟩
      case measure => simp [intOf]; omega
    · go_wp2
      go_ret
      exact ⟨rfl, hbw⟩

theorem lwHas_calls {a : Option Addr} {n c : Nat} {xs : List Int} {v : Int} {w : World} (ha : Ints w a n xs) (hx : n ≤ 17592186044416) :
    Calls Try.prog 23 #[.slice a n c, .int .i64 v] w fun e w' => e = .returned (.bool (hasIn xs v)) ∧ w = w' := by
  have HL := Lib.hid ha.1
  go_enter Try.func23, Try.ntmps23
  go_wp2
  go_loop [5] (fun i => ∃ k : Nat, k ≤ n ∧ i = .int .i64 k ∧ Hid (hasIn (xs.take k) v = false)) (fun i => n - (intOf i).toNat)
  case atStart => exact ⟨0, Nat.zero_le _, rfl, rfl⟩
  case round =>
    obtain ⟨k, hk, rfl, HW⟩ := hrel
    by_cases hlt : k < n
    · obtain ⟨ba, oa, rfl, hba, hca⟩ := ha.at_ hlt
      have hkx : k < xs.length := by rw [HL.out]; exact hlt
      rcases hV : (xs[k] == v) with _ | _
      · have HS := Lib.hid (contains_no HW.out hkx hV)
        go_wp2
        go_round
        case rel => exact ⟨k + 1, by omega, by go_num, HS⟩
        case measure => simp [intOf]; omega
      · have HS := Lib.hid (contains_yes hkx hV)
        go_wp2
        go_ret
        exact ⟨ret_bool HS.out.symm, rfl⟩
    · have HH : Hid (hasIn xs v = false) := by have := HW.out; rwa [List.take_of_length_le (by have := HL.out; omega)] at this
      go_wp2
      go_ret
      exact ⟨ret_bool HH.out.symm, rfl⟩

/-- Ten cells, and all that was there, are kept. -/
theorem keep10 {W a b : World} {p1 p2 p3 p4 p5 p6 p7 p8 p9 p0 : Addr} {x1 x2 x3 x4 x5 x6 x7 x8 x9 x0 : Value} (h : a.cell? p1 = some x1 ∧ a.cell? p2 = some x2 ∧ a.cell? p3 = some x3 ∧ a.cell? p4 = some x4 ∧ a.cell? p5 = some x5 ∧ a.cell? p6 = some x6 ∧ a.cell? p7 = some x7 ∧ a.cell? p8 = some x8 ∧ a.cell? p9 = some x9 ∧ a.cell? p0 = some x0 ∧ Below W.heap.size W a) (hb : Below a.heap.size a b) :
    b.cell? p1 = some x1 ∧ b.cell? p2 = some x2 ∧ b.cell? p3 = some x3 ∧ b.cell? p4 = some x4 ∧ b.cell? p5 = some x5 ∧ b.cell? p6 = some x6 ∧ b.cell? p7 = some x7 ∧ b.cell? p8 = some x8 ∧ b.cell? p9 = some x9 ∧ b.cell? p0 = some x0 ∧ Below W.heap.size W b := by
  obtain ⟨h1, h2, h3, h4, h5, h6, h7, h8, h9, h0, h⟩ := h
  have k := fun (p : Addr) (x : Value) (e : a.cell? p = some x) => (hb.cell (World.block_lt_of_cell? _ _ e)).trans e
  exact ⟨k _ _ h1, k _ _ h2, k _ _ h3, k _ _ h4, k _ _ h5, k _ _ h6, k _ _ h7, k _ _ h8, k _ _ h9, k _ _ h0, h.trans (hb.mono h.size)⟩

/-- Five cells, and all that was there, are kept. -/
theorem keep5 {W a b : World} {p1 p2 p3 p4 p5 : Addr} {x1 x2 x3 x4 x5 : Value} (h : a.cell? p1 = some x1 ∧ a.cell? p2 = some x2 ∧ a.cell? p3 = some x3 ∧ a.cell? p4 = some x4 ∧ a.cell? p5 = some x5 ∧ Below W.heap.size W a) (hb : Below a.heap.size a b) :
    b.cell? p1 = some x1 ∧ b.cell? p2 = some x2 ∧ b.cell? p3 = some x3 ∧ b.cell? p4 = some x4 ∧ b.cell? p5 = some x5 ∧ Below W.heap.size W b := by
  obtain ⟨h1, h2, h3, h4, h5, h⟩ := h
  have k := fun (p : Addr) (x : Value) (e : a.cell? p = some x) => (hb.cell (World.block_lt_of_cell? _ _ e)).trans e
  exact ⟨k _ _ h1, k _ _ h2, k _ _ h3, k _ _ h4, k _ _ h5, h.trans (hb.mono h.size)⟩

theorem Short.more {N M : Nat} {ts : List (List Int × Int)} (h : Short N ts) (hNM : N ≤ M) : Short M ts := fun t ht => Nat.le_trans (h t ht) hNM

set_option maxHeartbeats 4000000 in
set_option maxRecDepth 100000 in
theorem lawColours {ao : Option Addr} {n c : Nat} {bs : List Int} {w : World} (hb : Bytes w ao n bs) :
    Calls Try.prog 3 #[.slice ao n c] w fun e w' => e = .returned (.bool true) ∧ Below w.heap.size w w' := by
  by_cases hbig : n ≤ 1048576
  rotate_left
  · go_enter Try.func3, Try.ntmps3
    go_wp2
    go_ret
    exact ⟨rfl, Below.refl _ _⟩
  have hbig' : ¬ (1048576 : Int) < (n : Int) := by omega
  go_enter Try.func3, Try.ntmps3
  go_wp2_with (go_at_call 9; go_in)
  refine (drawFramesFor_calls hb hbig).mono ?_
  rintro e w1 ⟨_, t, rfl, F, C, v, m, _, _, rfl, T1, hm, B1⟩
  obtain ⟨va, vc, ts, rfl, hvc, I1, hS⟩ := T1.tens
  have hS := hS.more (M := 17592186044416) (by omega)
  clear T1
  go_wp2_with fail
  refine (framesFor_calls (I1.alloc _) hS hvc (by omega)).mono ?_
  rintro e w2 ⟨v2, m2, rfl, o2, b2⟩
  obtain ⟨q2, d2, rfl, hd2, _, _⟩ := o2.shape
  have hm2 : m2 ≤ 40 := by have := o2.in_.lohi; have := framesFor_small F C ts t; omega
  have R1 := Row.new b2
  have b2' := below_past b2
  have O2 := (o2.base (B' := w1.heap.size) (by simp)).in_
  have I2 := I1.below b2'
  have B2 := B1.trans (b2'.mono B1.size)
  clear o2 b2 b2' I1 B1
  go_wp2_with fail
  refine (drawOwnerOf_calls (hb.below (B2.alloc B2.size _)) hbig).mono ?_
  rintro e w3 ⟨_, fr, rfl, F', C', v', m', _, _, rfl, T3, hm', b3⟩
  obtain ⟨wa, wc, us, rfl, hwc, J3, hU⟩ := T3.tens
  have hU := hU.more (M := 17592186044416) (by omega)
  have R2 := Row.new b3
  have b3' := below_past b3
  have R1 := R1.below b3'
  have I3 := I2.below b3'
  have O2 := O2.below b3'
  have B3 := B2.trans (b3'.mono B2.size)
  clear b3 b3' I2 B2 T3
  go_wp2_with fail
  refine (ownerOf_calls (J3.alloc _) hU hwc (by omega)).mono ?_
  rintro e w4 ⟨rfl, b4⟩
  have R3 := Row.new b4
  have b4' := below_past b4
  have R1 := R1.below b4'
  have R2 := R2.below b4'
  have I4 := I3.below b4'
  have J4 := J3.below b4'
  have O2 := O2.below b4'
  have B4 := B3.trans (b4'.mono B3.size)
  clear b4 b4' I3 J3 B3
  go_wp2_with fail
  obtain ⟨W, hW⟩ : ∃ W, W = w4.alloc (.cells #[.int .i64 (ownerOf F' C' us fr).1, .int .i64 (ownerOf F' C' us fr).2] 34) := ⟨_, rfl⟩
  have bW : Below w4.heap.size w4 W := by rw [hW]; exact (Below.refl _ _).alloc (Nat.le_refl _) _
  have R4 : Row W w4.heap.size 34 #[.int .i64 (ownerOf F' C' us fr).1, .int .i64 (ownerOf F' C' us fr).2] := by rw [hW]; exact heap_alloc_new _ _
  have I := I4.below bW
  have J := J4.below bW
  have O := O2.below bW
  have R1 := R1.below bW
  have R2 := R2.below bW
  have R3 := R3.below bW
  have B := B4.trans (bW.mono B4.size)
  rw [← hW]
  clear hW bW B4 I4 J4 O2
  have k1 := R1.cell 0
  have k2 := R1.cell 1
  have k3 := R1.cell 2
  have k4 := R2.cell 0
  have k5 := R2.cell 1
  have k6 := R3.cell 0
  have k7 := R3.cell 1
  have k8 := R3.cell 2
  have k9 := R4.cell 0
  have k0 := R4.cell 1
  simp at k1 k2 k3 k4 k5 k6 k7 k8 k9 k0
  have kB := Below.refl W.heap.size W
  have g0 : ((framesFor F C ts t).1 != (framesFor F C ts t).1) = false := by simp
  have g1 : (configFault F C ts != configFault F C ts) = false := by simp
  have hq := run_neqPair
  have heg : Try.prog.eqGuardType Try.prog.depth 34 = false := by kernel_rfl
  have fl0 := run_field_R
  have fl1 := run_field_R1
  go_region_held3 (fun w' => w'.cell? ⟨w1.heap.size, 0, none⟩ = some (.int .i64 F) ∧ w'.cell? ⟨w1.heap.size, 1, none⟩ = some (.int .i64 C) ∧ w'.cell? ⟨w1.heap.size, 2, none⟩ = some (.slice va m vc) ∧ w'.cell? ⟨w2.heap.size, 0, none⟩ = some (.int .i64 (framesFor F C ts t).1) ∧ w'.cell? ⟨w2.heap.size, 1, none⟩ = some (.slice q2 m2 d2) ∧ w'.cell? ⟨w3.heap.size, 0, none⟩ = some (.int .i64 F') ∧ w'.cell? ⟨w3.heap.size, 1, none⟩ = some (.int .i64 C') ∧ w'.cell? ⟨w3.heap.size, 2, none⟩ = some (.slice wa m' wc) ∧ w'.cell? ⟨w4.heap.size, 0, none⟩ = some (.int .i64 (ownerOf F' C' us fr).1) ∧ w'.cell? ⟨w4.heap.size, 1, none⟩ = some (.int .i64 (ownerOf F' C' us fr).2) ∧ Below W.heap.size W w') (first | assumption | exact ⟨k1, k2, k3, k4, k5, k6, k7, k8, k9, k0, kB.drew⟩)
    (first
      | (go_at_call 14; obtain ⟨y1, y2, y3, y4, y5, y6, y7, y8, y9, y0, kb⟩ := ‹_ ∧ _ ∧ _ ∧ _ ∧ _ ∧ _ ∧ _ ∧ _ ∧ _ ∧ _ ∧ Below _ _ _›; refine (sFramesFor_calls (I.below kb) hS hvc (by omega)).mono ?_; rintro e w' ⟨v, nn, rfl, o, b⟩; obtain ⟨qq, dd, rfl, _, _, i1⟩ := o.shape; have hS' := keep10 ⟨y1, y2, y3, y4, y5, y6, y7, y8, y9, y0, kb⟩ b)
      | (go_at_call 15; obtain ⟨y1, y2, y3, y4, y5, y6, y7, y8, y9, y0, kb⟩ := ‹_ ∧ _ ∧ _ ∧ _ ∧ _ ∧ _ ∧ _ ∧ _ ∧ _ ∧ _ ∧ Below _ _ _›; refine (lwNums_calls (O.below kb).ints i1 (by omega)).mono ?_; rintro e w' ⟨rfl, b⟩; have hS' := keep10 ⟨y1, y2, y3, y4, y5, y6, y7, y8, y9, y0, kb⟩ b)
      | (go_at_call 16; obtain ⟨y1, y2, y3, y4, y5, y6, y7, y8, y9, y0, kb⟩ := ‹_ ∧ _ ∧ _ ∧ _ ∧ _ ∧ _ ∧ _ ∧ _ ∧ _ ∧ _ ∧ Below _ _ _›; refine (sOwnerOf_calls (J.below kb) hU hwc (by omega)).mono ?_; rintro e w' ⟨rfl, b⟩; have hS' := keep10 ⟨y1, y2, y3, y4, y5, y6, y7, y8, y9, y0, kb⟩ b)
      | (go_at_call 17; obtain ⟨y1, y2, y3, y4, y5, y6, y7, y8, y9, y0, kb⟩ := ‹_ ∧ _ ∧ _ ∧ _ ∧ _ ∧ _ ∧ _ ∧ _ ∧ _ ∧ _ ∧ Below _ _ _›; refine (colourOf_calls (J.below kb) hU hwc (by omega)).mono ?_; rintro e w' ⟨rfl, b⟩; have hS' := keep10 ⟨y1, y2, y3, y4, y5, y6, y7, y8, y9, y0, kb⟩ b)
      | (go_at_call 18; obtain ⟨y1, y2, y3, y4, y5, y6, y7, y8, y9, y0, kb⟩ := ‹_ ∧ _ ∧ _ ∧ _ ∧ _ ∧ _ ∧ _ ∧ _ ∧ _ ∧ _ ∧ Below _ _ _›; refine (sColourOf_calls (J.below kb) hU hwc (by omega)).mono ?_; rintro e w' ⟨rfl, b⟩; have hS' := keep10 ⟨y1, y2, y3, y4, y5, y6, y7, y8, y9, y0, kb⟩ b)
      | (go_at_call 19; obtain ⟨y1, y2, y3, y4, y5, y6, y7, y8, y9, y0, kb⟩ := ‹_ ∧ _ ∧ _ ∧ _ ∧ _ ∧ _ ∧ _ ∧ _ ∧ _ ∧ _ ∧ Below _ _ _›; refine (roomFor_calls (I.below kb) hS hvc (by omega)).mono ?_; rintro e w' ⟨rfl, b⟩; have hS' := keep10 ⟨y1, y2, y3, y4, y5, y6, y7, y8, y9, y0, kb⟩ b)
      | (go_at_call 20; obtain ⟨y1, y2, y3, y4, y5, y6, y7, y8, y9, y0, kb⟩ := ‹_ ∧ _ ∧ _ ∧ _ ∧ _ ∧ _ ∧ _ ∧ _ ∧ _ ∧ _ ∧ Below _ _ _›; refine (sRoomFor_calls (I.below kb) hS hvc (by omega)).mono ?_; rintro e w' ⟨rfl, b⟩; have hS' := keep10 ⟨y1, y2, y3, y4, y5, y6, y7, y8, y9, y0, kb⟩ b)
      | (go_at_call 21; obtain ⟨y1, y2, y3, y4, y5, y6, y7, y8, y9, y0, kb⟩ := ‹_ ∧ _ ∧ _ ∧ _ ∧ _ ∧ _ ∧ _ ∧ _ ∧ _ ∧ _ ∧ Below _ _ _›; refine (configFault_calls (I.below kb) hS hvc (by omega)).mono ?_; rintro e w' ⟨rfl, b⟩; have hS' := keep10 ⟨y1, y2, y3, y4, y5, y6, y7, y8, y9, y0, kb⟩ b)
      | (go_at_call 22; obtain ⟨y1, y2, y3, y4, y5, y6, y7, y8, y9, y0, kb⟩ := ‹_ ∧ _ ∧ _ ∧ _ ∧ _ ∧ _ ∧ _ ∧ _ ∧ _ ∧ _ ∧ Below _ _ _›; refine (sConfigFault_calls (I.below kb) hS hvc (by omega)).mono ?_; rintro e w' ⟨rfl, b⟩; have hS' := keep10 ⟨y1, y2, y3, y4, y5, y6, y7, y8, y9, y0, kb⟩ b))
  obtain ⟨_, _, _, _, _, _, _, _, _, _, kb⟩ := ‹_ ∧ _ ∧ _ ∧ _ ∧ _ ∧ _ ∧ _ ∧ _ ∧ _ ∧ _ ∧ Below W.heap.size W _›
  obtain ⟨V, hV⟩ : ∃ V, V = w' := ⟨_, rfl⟩
  rw [← hV] at kb ⊢
  have I := I.below kb
  have J := J.below kb
  have O := O.below kb
  have R1 := R1.below kb
  have R2 := R2.below kb
  have R3 := R3.below kb
  have R4 := R4.below kb
  have BV := B.trans (kb.mono B.size)
  clear hV k1 k2 k3 k4 k5 k6 k7 k8 k9 k0 kB g0 g1 b hS' kb
  have k4 := R4.cell 0
  have k5 := R4.cell 1
  have k6 := R3.cell 0
  have k7 := R3.cell 1
  have k8 := R3.cell 2
  simp at k4 k5 k6 k7 k8
  have l4 := R4.lt
  have l3 := R3.lt
  by_cases hf : (framesFor F C ts t).1 = 0
  · have HF0 := Lib.hid hf
    have hfb : ((framesFor F C ts t).1 != 0) = false := by simpa using hf
    clear hf
    by_cases ho : (ownerOf F' C' us fr).1 = 0
    · have HOH := Lib.hid (owner_has (F := F') (C := C') (ts := us) (f := fr) (t := (ownerOf F' C' us fr).2) (by rw [← ho]))
      have ho' : ((ownerOf F' C' us fr).1 == 0) = true := by simpa using ho
      clear ho
      go_wp2_with fail
      refine (framesFor_calls J hU hwc (by omega)).mono ?_
      rintro e V1 ⟨v, nn, rfl, o, b⟩
      have hnn : nn ≤ 40 := by have := o.in_.lohi; have := framesFor_small F' C' us (ownerOf F' C' us fr).2; omega
      obtain ⟨qq, dd, rfl, _, _, i1⟩ := o.shape
      have I := I.below b
      have O := O.below b
      have R1 := R1.below b
      have R2 := R2.below b
      have BV := BV.trans (b.mono BV.size)
      clear o b k4 k5 k6 k7 k8 l3 l4 R3 R4 J
      have l2 := R2.lt
      have k0 := R2.cell 0
      have k1 := R2.cell 1
      simp at k0 k1
      go_wp2_with fail
      refine (lwHas_calls i1 (by omega)).mono ?_
      rintro e V2 ⟨rfl, rfl⟩
      rw [HOH.out]
      obtain ⟨V, hV⟩ : ∃ V, V = V1 := ⟨_, rfl⟩
      rw [← hV] at I O R1 R2 BV l2 k0 k1 ⊢
      clear hV i1 HOH ho'
      go_wp2_with fail
      go_loopw [9] (fun i wr => ∃ j : Nat, j ≤ m2 ∧ i = .int .i64 j ∧ Below V.heap.size V wr) (fun i _ => m2 - (intOf i).toNat)
      case atStart => exact ⟨0, Nat.zero_le _, rfl, Below.refl _ _⟩
      case round =>
        obtain ⟨j, hj, rfl, hbw⟩ := hrel
        have Ir := I.below hbw
        have Or := O.below hbw
        have R1r := R1.below hbw
        have R2r := R2.below hbw
        have n1 := R1r.cell 0
        have n2 := R1r.cell 1
        have n3 := R1r.cell 2
        have n5 := R2r.cell 1
        have l2 := R2r.lt
        simp at n1 n2 n3 n5
        have kB := Below.refl wr.heap.size wr
        by_cases hlt : j < m2
        · have hlt' : (j : Int) < (m2 : Int) := by omega
          obtain ⟨bo, oo, rfl, hbo, hco⟩ := Or.ints.at_ hlt
          have hmem : (framesFor F C ts t).2.getD j 0 ∈ (framesFor F C ts t).2 := by
            have hl : j < (framesFor F C ts t).2.length := by have := Or.lohi; omega
            rw [List.getD_eq_getElem?_getD, List.getElem?_eq_getElem hl]; exact List.getElem_mem hl
          have HX := Lib.hid (frames_owned HF0.out _ hmem)
          obtain ⟨x, hx⟩ : ∃ x, x = (framesFor F C ts t).2.getD j 0 := ⟨_, rfl⟩
          rw [← hx] at hco
          have HX : Hid (ownerOf F C ts x = (0, t)) := by rw [hx]; exact HX
          clear hx hmem
          go_wp2_with fail
          go_region_held3 (fun w' => w'.cell? ⟨w1.heap.size, 0, none⟩ = some (.int .i64 F) ∧ w'.cell? ⟨w1.heap.size, 1, none⟩ = some (.int .i64 C) ∧ w'.cell? ⟨w1.heap.size, 2, none⟩ = some (.slice va m vc) ∧ w'.cell? ⟨w2.heap.size, 1, none⟩ = some (.slice (some ⟨bo, oo, none⟩) m2 d2) ∧ w'.cell? ⟨bo, oo + j, none⟩ = some (.int .i64 x) ∧ Below wr.heap.size wr w') (first | assumption | exact ⟨n1, n2, n3, n5, hco, kB.drew⟩)
            ((go_at_call 13; obtain ⟨y1, y2, y3, y5, y6, kb⟩ := ‹_ ∧ _ ∧ _ ∧ _ ∧ _ ∧ Below _ _ _›; refine (ownerOf_calls (Ir.below kb) hS hvc (by omega)).mono ?_; rintro e w' ⟨rfl, b⟩; rw [HX.out]; have hS' := keep5 ⟨y1, y2, y3, y5, y6, kb⟩ b))
          have kb2 := hbw.trans (hS'.2.2.2.2.2.mono hbw.size)
          clear hS'
          go_wp2_with fail
          go_roundw
          case rel => exact ⟨j + 1, by omega, by go_num, kb2⟩
          case measure => simp [intOf]; omega
        · obtain rfl : j = m2 := by omega
          have HR : Hid (roomFor F C ts t = (0, (j : Int))) := by
            have h1 := Or.lohi
            have h2 := HF0.out
            show roomFor F C ts t = _
            unfold roomFor; rw [h2, ← h1]
          have heq := run_eqlPair
          go_wp2_with fail
          go_region_held3 (fun w' => w'.cell? ⟨w1.heap.size, 0, none⟩ = some (.int .i64 F) ∧ w'.cell? ⟨w1.heap.size, 1, none⟩ = some (.int .i64 C) ∧ w'.cell? ⟨w1.heap.size, 2, none⟩ = some (.slice va m vc) ∧ w'.cell? ⟨w2.heap.size, 1, none⟩ = some (.slice q2 j d2) ∧ Below wr.heap.size wr w') (first | assumption | exact ⟨n1, n2, n3, n5, kB.drew⟩)
            ((go_at_call 19; obtain ⟨y1, y2, y3, y5, kb⟩ := ‹_ ∧ _ ∧ _ ∧ _ ∧ Below _ _ _›; refine (roomFor_calls (Ir.below kb) hS hvc (by omega)).mono ?_; rintro e w' ⟨rfl, b⟩; rw [HR.out]; have hS' := keep4 ⟨y1, y2, y3, y5, kb⟩ b))
          have kb2 := BV.trans ((hbw.trans (hS'.2.2.2.2.mono hbw.size)).mono BV.size)
          clear hS'
          go_wp2_with fail
          go_ret
          exact ⟨rfl, kb2⟩
    · have ho' : ((ownerOf F' C' us fr).1 == 0) = false := by simpa using ho
      clear ho k5 k6 k7 k8 l3 R3 J
      have l2 := R2.lt
      have k0 := R2.cell 0
      have k1 := R2.cell 1
      simp at k0 k1
      go_wp2_with fail
      go_loopw [9] (fun i wr => ∃ j : Nat, j ≤ m2 ∧ i = .int .i64 j ∧ Below V.heap.size V wr) (fun i _ => m2 - (intOf i).toNat)
      case atStart => exact ⟨0, Nat.zero_le _, rfl, Below.refl _ _⟩
      case round =>
        obtain ⟨j, hj, rfl, hbw⟩ := hrel
        have Ir := I.below hbw
        have Or := O.below hbw
        have R1r := R1.below hbw
        have R2r := R2.below hbw
        have n1 := R1r.cell 0
        have n2 := R1r.cell 1
        have n3 := R1r.cell 2
        have n5 := R2r.cell 1
        have l2 := R2r.lt
        simp at n1 n2 n3 n5
        have kB := Below.refl wr.heap.size wr
        by_cases hlt : j < m2
        · have hlt' : (j : Int) < (m2 : Int) := by omega
          obtain ⟨bo, oo, rfl, hbo, hco⟩ := Or.ints.at_ hlt
          have hmem : (framesFor F C ts t).2.getD j 0 ∈ (framesFor F C ts t).2 := by
            have hl : j < (framesFor F C ts t).2.length := by have := Or.lohi; omega
            rw [List.getD_eq_getElem?_getD, List.getElem?_eq_getElem hl]; exact List.getElem_mem hl
          have HX := Lib.hid (frames_owned HF0.out _ hmem)
          obtain ⟨x, hx⟩ : ∃ x, x = (framesFor F C ts t).2.getD j 0 := ⟨_, rfl⟩
          rw [← hx] at hco
          have HX : Hid (ownerOf F C ts x = (0, t)) := by rw [hx]; exact HX
          clear hx hmem
          go_wp2_with fail
          go_region_held3 (fun w' => w'.cell? ⟨w1.heap.size, 0, none⟩ = some (.int .i64 F) ∧ w'.cell? ⟨w1.heap.size, 1, none⟩ = some (.int .i64 C) ∧ w'.cell? ⟨w1.heap.size, 2, none⟩ = some (.slice va m vc) ∧ w'.cell? ⟨w2.heap.size, 1, none⟩ = some (.slice (some ⟨bo, oo, none⟩) m2 d2) ∧ w'.cell? ⟨bo, oo + j, none⟩ = some (.int .i64 x) ∧ Below wr.heap.size wr w') (first | assumption | exact ⟨n1, n2, n3, n5, hco, kB.drew⟩)
            ((go_at_call 13; obtain ⟨y1, y2, y3, y5, y6, kb⟩ := ‹_ ∧ _ ∧ _ ∧ _ ∧ _ ∧ Below _ _ _›; refine (ownerOf_calls (Ir.below kb) hS hvc (by omega)).mono ?_; rintro e w' ⟨rfl, b⟩; rw [HX.out]; have hS' := keep5 ⟨y1, y2, y3, y5, y6, kb⟩ b))
          have kb2 := hbw.trans (hS'.2.2.2.2.2.mono hbw.size)
          clear hS'
          go_wp2_with fail
          go_roundw
          case rel => exact ⟨j + 1, by omega, by go_num, kb2⟩
          case measure => simp [intOf]; omega
        · obtain rfl : j = m2 := by omega
          have HR : Hid (roomFor F C ts t = (0, (j : Int))) := by
            have h1 := Or.lohi
            have h2 := HF0.out
            show roomFor F C ts t = _
            unfold roomFor; rw [h2, ← h1]
          have heq := run_eqlPair
          go_wp2_with fail
          go_region_held3 (fun w' => w'.cell? ⟨w1.heap.size, 0, none⟩ = some (.int .i64 F) ∧ w'.cell? ⟨w1.heap.size, 1, none⟩ = some (.int .i64 C) ∧ w'.cell? ⟨w1.heap.size, 2, none⟩ = some (.slice va m vc) ∧ w'.cell? ⟨w2.heap.size, 1, none⟩ = some (.slice q2 j d2) ∧ Below wr.heap.size wr w') (first | assumption | exact ⟨n1, n2, n3, n5, kB.drew⟩)
            ((go_at_call 19; obtain ⟨y1, y2, y3, y5, kb⟩ := ‹_ ∧ _ ∧ _ ∧ _ ∧ Below _ _ _›; refine (roomFor_calls (Ir.below kb) hS hvc (by omega)).mono ?_; rintro e w' ⟨rfl, b⟩; rw [HR.out]; have hS' := keep4 ⟨y1, y2, y3, y5, kb⟩ b))
          have kb2 := BV.trans ((hbw.trans (hS'.2.2.2.2.mono hbw.size)).mono BV.size)
          clear hS'
          go_wp2_with fail
          go_ret
          exact ⟨rfl, kb2⟩
  · have hfb : ((framesFor F C ts t).1 != 0) = true := by simpa [bne_iff_ne] using hf
    clear hf
    by_cases ho : (ownerOf F' C' us fr).1 = 0
    · have HOH := Lib.hid (owner_has (F := F') (C := C') (ts := us) (f := fr) (t := (ownerOf F' C' us fr).2) (by rw [← ho]))
      have ho' : ((ownerOf F' C' us fr).1 == 0) = true := by simpa using ho
      clear ho
      go_wp2_with fail
      refine (framesFor_calls J hU hwc (by omega)).mono ?_
      rintro e V1 ⟨v, nn, rfl, o, b⟩
      have hnn : nn ≤ 40 := by have := o.in_.lohi; have := framesFor_small F' C' us (ownerOf F' C' us fr).2; omega
      obtain ⟨qq, dd, rfl, _, _, i1⟩ := o.shape
      have I := I.below b
      have O := O.below b
      have R1 := R1.below b
      have R2 := R2.below b
      have BV := BV.trans (b.mono BV.size)
      clear o b k4 k5 k6 k7 k8 l3 l4 R3 R4 J
      have l2 := R2.lt
      have k0 := R2.cell 0
      have k1 := R2.cell 1
      simp at k0 k1
      go_wp2_with fail
      refine (lwHas_calls i1 (by omega)).mono ?_
      rintro e V2 ⟨rfl, rfl⟩
      rw [HOH.out]
      obtain ⟨V, hV⟩ : ∃ V, V = V1 := ⟨_, rfl⟩
      rw [← hV] at I O R1 R2 BV l2 k0 k1 ⊢
      clear hV i1 HOH ho'
      go_wp2_with fail
      go_ret
      exact ⟨rfl, BV⟩
    · have ho' : ((ownerOf F' C' us fr).1 == 0) = false := by simpa using ho
      clear ho k5 k6 k7 k8 l3 R3 J
      have l2 := R2.lt
      have k0 := R2.cell 0
      have k1 := R2.cell 1
      simp at k0 k1
      go_wp2_with fail
      go_ret
      exact ⟨rfl, BV⟩
end Go.Proofs.Ytmibekddapnaaaa
