/- The law 'FnPages'. -/
import Derived.Test.YtkikjoalhohlgaaDraw4c
import Derived.Test.YtkikjoalhohlgaaFacts4c
import Derived.Test.YtkikjoalhohlgaaAt
import Derived.Test.YtkikjoalhohlgaaLaw4c
import Derived.Deep.RegionHeld3
import Derived.Deep.DeepCutAuto
import Derived.IntWalk
namespace Go.Proofs.Ytkikjoalhohlgaa
open Go.RowKit

theorem run_field_G (u : World) (x v y : Value) : (Instr.field 28 (.agg #[x, v, y]) 0).run Try.prog u = .ok x u := by
  simp [Instr.field, run_underlying Try.underlying28, part, isAgg, run_underlying Try.underlying2, asAgg]
theorem run_field_G1 (u : World) (x v y : Value) : (Instr.field 28 (.agg #[x, v, y]) 1).run Try.prog u = .ok v u := by
  simp [Instr.field, run_underlying Try.underlying28, part, isAgg, run_underlying Try.underlying24, asAgg]
theorem keepN9 {W a b : World} {p0 p1 p2 p3 p4 p5 p6 p7 p8 : Addr} {x0 x1 x2 x3 x4 x5 x6 x7 x8 : Value} (h : a.cell? p0 = some x0 ∧ a.cell? p1 = some x1 ∧ a.cell? p2 = some x2 ∧ a.cell? p3 = some x3 ∧ a.cell? p4 = some x4 ∧ a.cell? p5 = some x5 ∧ a.cell? p6 = some x6 ∧ a.cell? p7 = some x7 ∧ a.cell? p8 = some x8 ∧ Below W.heap.size W a) (hb : Below a.heap.size a b) : b.cell? p0 = some x0 ∧ b.cell? p1 = some x1 ∧ b.cell? p2 = some x2 ∧ b.cell? p3 = some x3 ∧ b.cell? p4 = some x4 ∧ b.cell? p5 = some x5 ∧ b.cell? p6 = some x6 ∧ b.cell? p7 = some x7 ∧ b.cell? p8 = some x8 ∧ Below W.heap.size W b := by
  obtain ⟨h0, h1, h2, h3, h4, h5, h6, h7, h8, h⟩ := h
  have k := fun (p : Addr) (x : Value) (e : a.cell? p = some x) => (hb.cell (World.block_lt_of_cell? _ _ e)).trans e
  exact ⟨k _ _ h0, k _ _ h1, k _ _ h2, k _ _ h3, k _ _ h4, k _ _ h5, k _ _ h6, k _ _ h7, k _ _ h8, h.trans (hb.mono h.size)⟩
theorem keepN3 {W a b : World} {p0 p1 p2 : Addr} {x0 x1 x2 : Value} (h : a.cell? p0 = some x0 ∧ a.cell? p1 = some x1 ∧ a.cell? p2 = some x2 ∧ Below W.heap.size W a) (hb : Below a.heap.size a b) : b.cell? p0 = some x0 ∧ b.cell? p1 = some x1 ∧ b.cell? p2 = some x2 ∧ Below W.heap.size W b := by
  obtain ⟨h0, h1, h2, h⟩ := h
  have k := fun (p : Addr) (x : Value) (e : a.cell? p = some x) => (hb.cell (World.block_lt_of_cell? _ _ e)).trans e
  exact ⟨k _ _ h0, k _ _ h1, k _ _ h2, h.trans (hb.mono h.size)⟩

/-- What a list of pages that was answered gives the law. -/
theorem RetsPages.open_ {w w' : World} {r : Int × List Pg × Int} {e : Ending} (h : RetsPages w r e w') (hs : r.2.1.length ≤ 51) :
    ∃ a n c, e = .returned (.agg #[.int .i64 r.1, .slice a n c, .int .i64 r.2.2]) ∧ n ≤ 51 ∧ n ≤ c ∧ c ≤ 9223372036854775807 ∧ Hid (Lst KPage w' (fun k => w.heap.size ≤ k) a n r.2.1) ∧ Hid (Below w.heap.size w w') := by
  obtain ⟨v, n, rfl, hO, hb⟩ := h
  obtain ⟨a, c, rfl, h1, h2, h3⟩ := hO.shape
  exact ⟨a, n, c, rfl, by have := h3.1; omega, h1, h2, Lib.hid h3, Lib.hid hb⟩
theorem ShortP.wide {ps : List Pg} (h : ShortP 16 ps) : ShortP 17592186044416 ps := ShortP.mono h (by decide)

set_option maxHeartbeats 16000000 in
set_option maxRecDepth 100000 in
theorem lawPages {ao : Option Addr} {n c : Nat} {bs : List Int} {w : World} (hb : Bytes w ao n bs) :
    Calls Try.prog 3 #[.slice ao n c] w fun e w' => e = .returned (.bool true) ∧ Below w.heap.size w w' := by
  by_cases hbig : n ≤ 1048576
  rotate_left
  · go_enter Try.func3, Try.ntmps3
    go_wp2
    go_ret
    exact ⟨rfl, Below.refl _ _⟩
  have hbig' : ¬ (1048576 : Int) < (n : Int) := by omega
  have HBY := Lib.hid hb
  clear hb
  go_enter Try.func3, Try.ntmps3
  go_wp2_with (go_at_call 15; go_in)
  refine (drawFindSlot_calls HBY.out hbig).mono ?_
  rintro e w1 ⟨v, n1, ps, cl, rfl, ⟨hO, hn1, hQ⟩, m0, m1, B1⟩
  obtain ⟨a1, c1, rfl, hlc1, hcm1, T1⟩ := hO.shape
  have hcm1' : c1 ≤ 9223372036854775807 := hcm1
  have HS1 := Lib.hid (hQ.mono (show 17 ≤ 17592186044416 by decide))
  clear hO hQ hcm1
  go_wp2_with fail
  refine (findSlot_calls T1 HS1.out hlc1 hcm1' (by omega)).mono ?_
  intro e w2 h2
  obtain ⟨x1, y1, z1, rfl, hy1, hyz1, hz1, O1, b⟩ := h2.open_ (Nat.le_trans (findSlot_small ps cl).1 (by omega))
  have O1 := O1.out
  have T1 := T1.below b.out
  have B2 := B1.trans (b.out.mono B1.size)
  clear h2 b B1
  go_wp2_with fail
  refine (drawTakeRun_calls (HBY.out.below (B2.alloc B2.size _)) hbig).mono ?_
  rintro e w3 ⟨v, n2, qs, pa, pm, rfl, ⟨hO, hn2, hQ⟩, r0, r1, r2, r3, b⟩
  obtain ⟨a2, c2, rfl, hlc2, hcm2, T2⟩ := hO.shape
  have hcm2' : c2 ≤ 9223372036854775807 := hcm2
  have HS2 := Lib.hid (hQ.mono (show 17 ≤ 17592186044416 by decide))
  have R1 := Row.new b
  have b := below_past b
  have T1 := T1.below b
  have O1 := O1.below b
  have B3 := B2.trans (b.mono B2.size)
  clear hO hQ hcm2 b B2
  go_wp2_with fail
  refine (takeRun_calls T2 HS2.out hlc2 hcm2' (by omega)).mono ?_
  intro e w4 h4
  obtain ⟨x2, y2, z2, rfl, hy2, hyz2, hz2, O2, b⟩ := h4.open_ (Nat.le_trans (takeRun_small qs pa pm).1 (by omega))
  have O2 := O2.out
  have T1 := T1.below b.out
  have T2 := T2.below b.out
  have O1 := O1.below b.out
  have R1 := R1.below b.out
  have B4 := B3.trans (b.out.mono B3.size)
  clear h4 b B3
  go_wp2_with fail
  refine (drawDropBlock_calls (HBY.out.below (B4.alloc B4.size _)) hbig).mono ?_
  rintro e w5 ⟨v, n3, us, pl, rfl, ⟨hO, hn3, hQ⟩, s0, s1, b⟩
  obtain ⟨a3, c3, rfl, hlc3, hcm3, T3⟩ := hO.shape
  have hcm3' : c3 ≤ 9223372036854775807 := hcm3
  have HS3 := Lib.hid (hQ.mono (show 17 ≤ 17592186044416 by decide))
  have R2 := Row.new b
  have b := below_past b
  have T1 := T1.below b
  have T2 := T2.below b
  have O1 := O1.below b
  have O2 := O2.below b
  have R1 := R1.below b
  have B5 := B4.trans (b.mono B4.size)
  clear hO hQ hcm3 b B4
  go_wp2_with fail
  refine (dropBlock_calls T3 HS3.out hlc3 hcm3' (by omega)).mono ?_
  intro e w6 h6
  obtain ⟨x3, y3, z3, rfl, hy3, hyz3, hz3, O3, b⟩ := h6.open_ (Nat.le_trans (dropBlock_small us pl).1 (by omega))
  have O3 := O3.out
  have T1 := T1.below b.out
  have T2 := T2.below b.out
  have T3 := T3.below b.out
  have O1 := O1.below b.out
  have O2 := O2.below b.out
  have R1 := R1.below b.out
  have R2 := R2.below b.out
  have B6 := B5.trans (b.out.mono B5.size)
  clear h6 b B5
  go_wp2_with fail
  refine (drawSamePages_calls (HBY.out.below (B6.alloc B6.size _)) hbig).mono ?_
  rintro e w7 ⟨v, n4, us4, v5, n5, us5, rfl, ⟨hO, hn4, hQ⟩, ⟨hP, hn5, hV⟩, b⟩
  obtain ⟨a4, c4, rfl, hlc4, hcm4, T4⟩ := hO.shape
  obtain ⟨a5, c5, rfl, hlc5, hcm5, T5⟩ := hP.shape
  have HS4 := Lib.hid (hQ.mono (show 17 ≤ 17592186044416 by decide))
  have HS5 := Lib.hid (hV.mono (show 17 ≤ 17592186044416 by decide))
  have R3 := Row.new b
  have b := below_past b
  have T1 := T1.below b
  have T2 := T2.below b
  have T3 := T3.below b
  have O1 := O1.below b
  have O2 := O2.below b
  have O3 := O3.below b
  have R1 := R1.below b
  have R2 := R2.below b
  have B7 := B6.trans (b.mono B6.size)
  clear hO hQ hcm4 hcm5 hP hV b B6
  have P1 := Lib.hid (findSlot_small ps cl)
  have P2 := Lib.hid (takeRun_small qs pa pm)
  have P3 := Lib.hid (dropBlock_small us pl)
  have K1 := Lib.hid (find_ok (ps := ps) (c := cl))
  have K2 := Lib.hid (take_ok (ps := qs) (a := pa) (m := pm))
  have K3 := Lib.hid (drop_ok (ps := us) (a := pl))
  obtain ⟨f, hf⟩ : ∃ f, findSlot ps cl = f := ⟨_, rfl⟩
  obtain ⟨t, ht⟩ : ∃ t, takeRun qs pa pm = t := ⟨_, rfl⟩
  obtain ⟨d, hd⟩ : ∃ d, dropBlock us pl = d := ⟨_, rfl⟩
  rw [hf] at R1 O1 P1 K1
  rw [ht] at R2 O2 P2 K2
  rw [hd] at R3 O3 P3 K3
  have HF := Lib.hid hf
  have HT := Lib.hid ht
  have HD := Lib.hid hd
  clear hf ht hd
  obtain ⟨f0, f1, f2⟩ := f
  obtain ⟨t0, t1, t2⟩ := t
  obtain ⟨d0, d1, d2⟩ := d
  simp only at R1 R2 R3 O1 O2 O3
  have k0 := R1.cell 0
  have k1 := R1.cell 1
  have k2 := R1.cell 2
  have k3 := R2.cell 0
  have k4 := R2.cell 1
  have k5 := R2.cell 2
  have k6 := R3.cell 0
  have k7 := R3.cell 1
  have k8 := R3.cell 2
  simp at k0 k1 k2 k3 k4 k5 k6 k7 k8
  have l1 := R1.lt
  have l2 := R2.lt
  have l3 := R3.lt
  have kB := Below.refl w7.heap.size w7
  have g1 : (f0 != f0) = false := by simp
  have g2 : (t0 != t0) = false := by simp
  have g3 : (d0 != d0) = false := by simp
  have g4 : (decide (us4 = us5) != decide (us4 = us5)) = false := by simp
  have g5 : (pagesFault ps != pagesFault ps) = false := by simp
  have hG0 := run_field_G
  have hG1 := run_field_G1
  go_upto_region 10 with (fail)
  go_cut [99] (fun s wx => s = .bool false ∧ Below w7.heap.size w7 wx)
  case first =>
    as_aux_lemma =>
      go_region_held3 (fun w' => w'.cell? ⟨w2.heap.size, 0, none⟩ = some (.int .i64 f0) ∧ w'.cell? ⟨w2.heap.size, 1, none⟩ = some (.slice x1 y1 z1) ∧ w'.cell? ⟨w2.heap.size, 2, none⟩ = some (.int .i64 f2) ∧ w'.cell? ⟨w4.heap.size, 0, none⟩ = some (.int .i64 t0) ∧ w'.cell? ⟨w4.heap.size, 1, none⟩ = some (.slice x2 y2 z2) ∧ w'.cell? ⟨w4.heap.size, 2, none⟩ = some (.int .i64 t2) ∧ w'.cell? ⟨w6.heap.size, 0, none⟩ = some (.int .i64 d0) ∧ w'.cell? ⟨w6.heap.size, 1, none⟩ = some (.slice x3 y3 z3) ∧ w'.cell? ⟨w6.heap.size, 2, none⟩ = some (.int .i64 d2) ∧ Below w7.heap.size w7 w') (first | with_reducible assumption | with_reducible exact ⟨k0, k1, k2, k3, k4, k5, k6, k7, k8, kB.drew⟩ | exact ⟨k0, k1, k2, k3, k4, k5, k6, k7, k8, kB.drew⟩)
        (first
          | (go_at_call 23; obtain ⟨y0_, y1_, y2_, y3_, y4_, y5_, y6_, y7_, y8_, kb⟩ := ‹_ ∧ _ ∧ _ ∧ _ ∧ _ ∧ _ ∧ _ ∧ _ ∧ _ ∧ Below _ _ _›; first | ((with_reducible refine (sFindSlot_calls (T1.below kb) HS1.out (by omega)).mono ?_); intro e w' hh; rw [HF.out] at hh; obtain ⟨xz, yz, zz, rfl, hyz, hyzz, hzz, Oz, b⟩ := hh.open_ (Nat.le_trans P1.out.1 (by decide)); have Oz := Oz.out; have hS' := keepN9 ⟨y0_, y1_, y2_, y3_, y4_, y5_, y6_, y7_, y8_, kb⟩ b.out; clear hh))
          | (go_at_call 25; obtain ⟨y0_, y1_, y2_, y3_, y4_, y5_, y6_, y7_, y8_, kb⟩ := ‹_ ∧ _ ∧ _ ∧ _ ∧ _ ∧ _ ∧ _ ∧ _ ∧ _ ∧ Below _ _ _›; first | ((with_reducible refine (sTakeRun_calls (T2.below kb) HS2.out (by omega)).mono ?_); intro e w' hh; rw [HT.out] at hh; obtain ⟨xz, yz, zz, rfl, hyz, hyzz, hzz, Oz, b⟩ := hh.open_ (Nat.le_trans P2.out.1 (by decide)); have Oz := Oz.out; have hS' := keepN9 ⟨y0_, y1_, y2_, y3_, y4_, y5_, y6_, y7_, y8_, kb⟩ b.out; clear hh))
          | (go_at_call 26; obtain ⟨y0_, y1_, y2_, y3_, y4_, y5_, y6_, y7_, y8_, kb⟩ := ‹_ ∧ _ ∧ _ ∧ _ ∧ _ ∧ _ ∧ _ ∧ _ ∧ _ ∧ Below _ _ _›; first | ((with_reducible refine (sDropBlock_calls (T3.below kb) HS3.out (by omega)).mono ?_); intro e w' hh; rw [HD.out] at hh; obtain ⟨xz, yz, zz, rfl, hyz, hyzz, hzz, Oz, b⟩ := hh.open_ (Nat.le_trans P3.out.1 (by decide)); have Oz := Oz.out; have hS' := keepN9 ⟨y0_, y1_, y2_, y3_, y4_, y5_, y6_, y7_, y8_, kb⟩ b.out; clear hh))
          | (go_at_call 24; obtain ⟨y0_, y1_, y2_, y3_, y4_, y5_, y6_, y7_, y8_, kb⟩ := ‹_ ∧ _ ∧ _ ∧ _ ∧ _ ∧ _ ∧ _ ∧ _ ∧ _ ∧ Below _ _ _›; first | ((with_reducible refine (samePages_calls (O1.below kb) Oz P1.out.2.wide P1.out.2.wide (by omega) (by omega)).mono ?_); rw [decide_eq_true (rfl : f1 = f1)]; rintro e w' ⟨rfl, b⟩; have hS' := keepN9 ⟨y0_, y1_, y2_, y3_, y4_, y5_, y6_, y7_, y8_, kb⟩ b) | ((with_reducible refine (samePages_calls (T4.below kb) (T5.below kb) HS4.out HS5.out (by omega) (by omega)).mono ?_); rintro e w' ⟨rfl, b⟩; have hS' := keepN9 ⟨y0_, y1_, y2_, y3_, y4_, y5_, y6_, y7_, y8_, kb⟩ b))
          | (go_at_call 27; obtain ⟨y0_, y1_, y2_, y3_, y4_, y5_, y6_, y7_, y8_, kb⟩ := ‹_ ∧ _ ∧ _ ∧ _ ∧ _ ∧ _ ∧ _ ∧ _ ∧ _ ∧ Below _ _ _›; first | ((with_reducible refine (sSamePages_calls (T4.below kb) (T5.below kb) HS4.out HS5.out (by omega) (by omega)).mono ?_); rintro e w' ⟨rfl, b⟩; have hS' := keepN9 ⟨y0_, y1_, y2_, y3_, y4_, y5_, y6_, y7_, y8_, kb⟩ b))
          | (go_at_call 28; obtain ⟨y0_, y1_, y2_, y3_, y4_, y5_, y6_, y7_, y8_, kb⟩ := ‹_ ∧ _ ∧ _ ∧ _ ∧ _ ∧ _ ∧ _ ∧ _ ∧ _ ∧ Below _ _ _›; first | ((with_reducible refine (pagesFault_calls (T1.below kb) HS1.out (by omega)).mono ?_); rintro e w' ⟨rfl, b⟩; have hS' := keepN9 ⟨y0_, y1_, y2_, y3_, y4_, y5_, y6_, y7_, y8_, kb⟩ b))
          | (go_at_call 29; obtain ⟨y0_, y1_, y2_, y3_, y4_, y5_, y6_, y7_, y8_, kb⟩ := ‹_ ∧ _ ∧ _ ∧ _ ∧ _ ∧ _ ∧ _ ∧ _ ∧ _ ∧ Below _ _ _›; first | ((with_reducible refine (sPagesFault_calls (T1.below kb) HS1.out (by omega)).mono ?_); rintro e w' ⟨rfl, b⟩; have hS' := keepN9 ⟨y0_, y1_, y2_, y3_, y4_, y5_, y6_, y7_, y8_, kb⟩ b)))
      obtain ⟨_, _, _, _, _, _, _, _, _, kb⟩ := hS'
      have HK := Lib.hid kb
      clear hS' kb k0 k1 k2 k3 k4 k5 k6 k7 k8 kB b
      go_wp2_with fail
      go_meet
      exact ⟨by first | rfl | simp, HK.out⟩
  case rest =>
  obtain ⟨rfl, hcut⟩ := hcut
  obtain ⟨V, hV⟩ : ∃ V, V = wc := ⟨_, rfl⟩
  rw [← hV] at hcut ⊢
  have kb := hcut
  have T1 := T1.below kb
  have T2 := T2.below kb
  have T3 := T3.below kb
  have O1 := O1.below kb
  have O2 := O2.below kb
  have O3 := O3.below kb
  have R1 := R1.below kb
  have R2 := R2.below kb
  have R3 := R3.below kb
  have BV := B7.trans (kb.mono B7.size)
  clear hV hcut k0 k1 k2 k3 k4 k5 k6 k7 k8 kB g1 g2 g3 g4 g5 kb T4 T5 B7 l1 l2 l3 HS4 HS5 hn4 hn5 hlc4 hlc5
  have HT1 := Lib.hid T1
  have HT2 := Lib.hid T2
  have HT3 := Lib.hid T3
  have HO1 := Lib.hid O1
  have HO2 := Lib.hid O2
  have HO3 := Lib.hid O3
  have HR1 := Lib.hid R1
  have HR2 := Lib.hid R2
  have HR3 := Lib.hid R3
  have HBV := Lib.hid BV
  clear T1 T2 T3 O1 O2 O3 R1 R2 R3 BV
  have k0 := HR1.out.cell 0
  simp at k0
  have l1 := HR1.out.lt
  go_upto_if 102 with (fail)
  go_cut [] (fun wx => Below V.heap.size V wx)
  case first =>
    as_aux_lemma =>
      by_cases e0 : f0 = 0
      · obtain ⟨qs1, at1, hfe, a0, a1_, hb4, hbs, hpf, hdr, hsz⟩ := K1.out e0
        simp only [Prod.mk.injEq] at hfe
        obtain ⟨rfl, rfl, rfl⟩ := hfe
        have HB4 : Hid (blockStart ps f2 = (4, (blockStart ps f2).2)) := Lib.hid (Prod.ext hb4 rfl)
        generalize (blockStart ps f2).2 = s4 at HB4
        have HBS := Lib.hid hbs
        have HPF := Lib.hid hpf
        have HDR := Lib.hid hdr
        have HSZ := Lib.hid hsz
        clear hb4 hbs hpf hdr hsz e0
        have k1 := HR1.out.cell 1
        have k2 := HR1.out.cell 2
        simp at k1 k2
        have kB := Below.refl V.heap.size V
        have heg : Try.prog.eqGuardType Try.prog.depth 38 = false := by kernel_rfl
        have hq := run_neqPair
        have hp0 := run_field_P
        have hp1 := run_field_P1
        go_wp2_with fail
        go_region_held3 (fun w' => w'.cell? ⟨w2.heap.size, 0, none⟩ = some (.int .i64 0) ∧ w'.cell? ⟨w2.heap.size, 1, none⟩ = some (.slice x1 y1 z1) ∧ w'.cell? ⟨w2.heap.size, 2, none⟩ = some (.int .i64 f2) ∧ Below V.heap.size V w') (first | with_reducible assumption | with_reducible exact ⟨k0, k1, k2, kB.drew⟩ | exact ⟨k0, k1, k2, kB.drew⟩)
          (first
            | (go_at_call 30; obtain ⟨y0_, y1_, y2_, kb⟩ := ‹_ ∧ _ ∧ _ ∧ Below _ _ _›; first | ((with_reducible refine (blockStart_calls (HT1.out.below kb) HS1.out hlc1 hcm1' (by omega)).mono ?_); rw [HB4.out]; rintro e w' ⟨rfl, b⟩; have hS' := keepN3 ⟨y0_, y1_, y2_, kb⟩ b) | ((with_reducible refine (blockStart_calls (HO1.out.below kb) P1.out.2.wide hyz1 hz1 (by omega)).mono ?_); rw [HBS.out]; rintro e w' ⟨rfl, b⟩; have hS' := keepN3 ⟨y0_, y1_, y2_, kb⟩ b))
            | (go_at_call 28; obtain ⟨y0_, y1_, y2_, kb⟩ := ‹_ ∧ _ ∧ _ ∧ Below _ _ _›; first | ((with_reducible refine (pagesFault_calls (HO1.out.below kb) P1.out.2.wide (by omega)).mono ?_); rw [HPF.out]; rintro e w' ⟨rfl, b⟩; have hS' := keepN3 ⟨y0_, y1_, y2_, kb⟩ b))
            | (go_at_call 21; obtain ⟨y0_, y1_, y2_, kb⟩ := ‹_ ∧ _ ∧ _ ∧ Below _ _ _›; first | ((with_reducible refine (dropBlock_calls (HO1.out.below kb) P1.out.2.wide hyz1 hz1 (by omega)).mono ?_); intro e w' hh; rw [HDR.out] at hh; obtain ⟨xz, yz, zz, rfl, hyz, hyzz, hzz, Oz, b⟩ := hh.open_ (by have := HT1.out.1; simp only; omega); have Oz := Oz.out; have hS' := keepN3 ⟨y0_, y1_, y2_, kb⟩ b.out; clear hh))
            | (go_at_call 24; obtain ⟨y0_, y1_, y2_, kb⟩ := ‹_ ∧ _ ∧ _ ∧ Below _ _ _›; first | ((with_reducible refine (samePages_calls Oz (HT1.out.below kb) HS1.out HS1.out (by omega) (by omega)).mono ?_); rw [decide_eq_true (rfl : ps = ps)]; rintro e w' ⟨rfl, b⟩; have hS' := keepN3 ⟨y0_, y1_, y2_, kb⟩ b))
            | (go_at_call 31; obtain ⟨y0_, y1_, y2_, kb⟩ := ‹_ ∧ _ ∧ _ ∧ Below _ _ _›; first | ((with_reducible refine (blockSize_calls (HO1.out.below kb) P1.out.2.wide hyz1 hz1 (by omega)).mono ?_); rw [HSZ.out]; rintro e w' ⟨rfl, b⟩; have hS' := keepN3 ⟨y0_, y1_, y2_, kb⟩ b))
            | (go_at_call 32; obtain ⟨y0_, y1_, y2_, kb⟩ := ‹_ ∧ _ ∧ _ ∧ Below _ _ _›; first | ((with_reducible refine (sizeOf3_calls).mono ?_); rintro e w' ⟨rfl, b⟩; have hS' := keepN3 ⟨y0_, y1_, y2_, kb⟩ b)))
        obtain ⟨_, _, _, kb⟩ := hS'
        have HK := Lib.hid kb
        clear hS' kb k0 k1 k2 kB b
        go_wp2_with fail
        go_meet
        exact HK.out
      · have e0' : (f0 == 0) = false := by simpa using e0
        clear e0
        go_wp2_with fail
        go_meet
        exact Below.refl _ _
  case rest =>
  obtain ⟨U, hU⟩ : ∃ U, U = wc := ⟨_, rfl⟩
  rw [← hU] at hcut ⊢
  have HCV := Lib.hid hcut
  clear hU hcut k0
  have k3 := (HR2.out.below HCV.out).cell 0
  simp at k3
  have l2 := (HR2.out.below HCV.out).lt
  go_upto_if 149 with (fail)
  go_cut [] (fun wx => Below U.heap.size U wx)
  case first =>
    as_aux_lemma =>
      by_cases e0 : t0 = 0
      · obtain ⟨us1, km, rfl, hte, a0, a1_, km1, km4, hsz, hpf, hdr⟩ := K2.out e0
        simp only [Prod.mk.injEq] at hte
        obtain ⟨rfl, rfl, rfl⟩ := hte
        have HPF := Lib.hid hpf
        have HDR := Lib.hid hdr
        have HSZ := Lib.hid hsz
        have HT2 := Lib.hid (HT2.out.below HCV.out)
        have HO2 := Lib.hid (HO2.out.below HCV.out)
        have HBY2 := Lib.hid (HBY.out.below (HBV.out.trans (HCV.out.mono HBV.out.size)))
        have k4 := (HR2.out.below HCV.out).cell 1
        have k5 := (HR2.out.below HCV.out).cell 2
        simp at k4 k5
        clear hpf hdr hsz e0
        have kB := Below.refl U.heap.size U
        have heg : Try.prog.eqGuardType Try.prog.depth 38 = false := by kernel_rfl
        have hq := run_neqPair
        have hp0 := run_field_P
        have hp1 := run_field_P1
        have q1 : IntKind.i64.wrap (pa * 16) = pa * 16 := IntWalk.i64_in _ (by omega)
        have q2 : IntKind.i64.wrap ((km : Int) * 16) = (km : Int) * 16 := IntWalk.i64_in _ (by omega)
        have q3 : (pa * 16 != pa * 16) = false := by simp
        go_wp2_with fail
        go_region_held3 (fun w' => w'.cell? ⟨w4.heap.size, 0, none⟩ = some (.int .i64 0) ∧ w'.cell? ⟨w4.heap.size, 1, none⟩ = some (.slice x2 y2 z2) ∧ w'.cell? ⟨w4.heap.size, 2, none⟩ = some (.int .i64 (pa * 16)) ∧ Below U.heap.size U w') (first | with_reducible assumption | with_reducible exact ⟨k3, k4, k5, kB.drew⟩ | exact ⟨k3, k4, k5, kB.drew⟩)
          (first
            | (go_at_call 33; obtain ⟨y0_, y1_, y2_, kb⟩ := ‹_ ∧ _ ∧ _ ∧ Below _ _ _›; first | ((with_reducible refine (lwAt2_calls (HBY2.out.below kb) hbig).mono ?_); rintro e w' ⟨rr, rfl, rr0, rr1, _, b⟩; have rr2 := rr1 (by omega); have HSR := Lib.hid (HSZ.out rr rr0 rr2); have qr : IntKind.i64.wrap (pa * 16 + rr) = pa * 16 + rr := IntWalk.i64_in _ (by omega); clear rr1; have hS' := keepN3 ⟨y0_, y1_, y2_, kb⟩ b))
            | (go_at_call 31; obtain ⟨y0_, y1_, y2_, kb⟩ := ‹_ ∧ _ ∧ _ ∧ Below _ _ _›; first | ((with_reducible refine (blockSize_calls (HO2.out.below kb) P2.out.2.wide hyz2 hz2 (by omega)).mono ?_); rw [HSR.out]; rintro e w' ⟨rfl, b⟩; have hS' := keepN3 ⟨y0_, y1_, y2_, kb⟩ b))
            | (go_at_call 28; obtain ⟨y0_, y1_, y2_, kb⟩ := ‹_ ∧ _ ∧ _ ∧ Below _ _ _›; first | ((with_reducible refine (pagesFault_calls (HO2.out.below kb) P2.out.2.wide (by omega)).mono ?_); rw [HPF.out]; rintro e w' ⟨rfl, b⟩; have hS' := keepN3 ⟨y0_, y1_, y2_, kb⟩ b))
            | (go_at_call 21; obtain ⟨y0_, y1_, y2_, kb⟩ := ‹_ ∧ _ ∧ _ ∧ Below _ _ _›; first | ((with_reducible refine (dropBlock_calls (HO2.out.below kb) P2.out.2.wide hyz2 hz2 (by omega)).mono ?_); intro e w' hh; rw [HDR.out] at hh; obtain ⟨xz, yz, zz, rfl, hyz, hyzz, hzz, Oz, b⟩ := hh.open_ (by have := HT2.out.1; simp only; omega); have Oz := Oz.out; have hS' := keepN3 ⟨y0_, y1_, y2_, kb⟩ b.out; clear hh))
            | (go_at_call 24; obtain ⟨y0_, y1_, y2_, kb⟩ := ‹_ ∧ _ ∧ _ ∧ Below _ _ _›; first | ((with_reducible refine (samePages_calls Oz (HT2.out.below kb) HS2.out HS2.out (by omega) (by omega)).mono ?_); rw [decide_eq_true (rfl : qs = qs)]; rintro e w' ⟨rfl, b⟩; have hS' := keepN3 ⟨y0_, y1_, y2_, kb⟩ b)))
        obtain ⟨_, _, _, kb⟩ := hS'
        have HK := Lib.hid kb
        clear hS' kb k3 k4 k5 kB b
        go_wp2_with fail
        go_meet
        exact HK.out
      · have e0' : (t0 == 0) = false := by simpa using e0
        clear e0
        go_wp2_with fail
        go_meet
        exact Below.refl _ _
  case rest =>
  obtain ⟨X, hX⟩ : ∃ X, X = wc := ⟨_, rfl⟩
  rw [← hX] at hcut ⊢
  have HCX := Lib.hid (HCV.out.trans (hcut.mono HCV.out.size))
  clear hX hcut k3
  have R3 := HR3.out.below HCX.out
  have k6 := R3.cell 0
  simp at k6
  have l3 := R3.lt
  by_cases e0 : d0 = 0
  · obtain ⟨vs1, hde, hpf, hb4, x, y, hu1, hu2, hxy⟩ := K3.out e0
    simp only [Prod.mk.injEq] at hde
    obtain ⟨rfl, rfl, rfl⟩ := hde
    have HB4 : Hid (blockStart d1 d2 = (4, (blockStart d1 d2).2)) := Lib.hid (Prod.ext hb4 rfl)
    generalize (blockStart d1 d2).2 = s4 at HB4
    have HPF := Lib.hid hpf
    have HU1 := Lib.hid hu1
    have HU2 := Lib.hid hu2
    have HT3 := Lib.hid (HT3.out.below HCX.out)
    have HO3 := Lib.hid (HO3.out.below HCX.out)
    have HBX := Lib.hid (HBV.out.trans (HCX.out.mono HBV.out.size))
    have k7 := R3.cell 1
    have k8 := R3.cell 2
    simp at k7 k8
    clear hpf hb4 hu1 hu2 e0 R3
    have kB := Below.refl X.heap.size X
    have hp0 := run_field_P
    have hp1 := run_field_P1
    have hxy1 : (x : Int) ≤ (y : Int) := by omega
    go_wp2_with fail
    go_region_held3 (fun w' => w'.cell? ⟨w6.heap.size, 0, none⟩ = some (.int .i64 0) ∧ w'.cell? ⟨w6.heap.size, 1, none⟩ = some (.slice x3 y3 z3) ∧ w'.cell? ⟨w6.heap.size, 2, none⟩ = some (.int .i64 d2) ∧ Below X.heap.size X w') (first | with_reducible assumption | with_reducible exact ⟨k6, k7, k8, kB.drew⟩ | exact ⟨k6, k7, k8, kB.drew⟩)
      (first
        | (go_at_call 28; obtain ⟨y0_, y1_, y2_, kb⟩ := ‹_ ∧ _ ∧ _ ∧ Below _ _ _›; first | ((with_reducible refine (pagesFault_calls (HO3.out.below kb) P3.out.2.wide (by omega)).mono ?_); rw [HPF.out]; rintro e w' ⟨rfl, b⟩; have hS' := keepN3 ⟨y0_, y1_, y2_, kb⟩ b))
        | (go_at_call 30; obtain ⟨y0_, y1_, y2_, kb⟩ := ‹_ ∧ _ ∧ _ ∧ Below _ _ _›; first | ((with_reducible refine (blockStart_calls (HO3.out.below kb) P3.out.2.wide hyz3 hz3 (by omega)).mono ?_); rw [HB4.out]; rintro e w' ⟨rfl, b⟩; have hS' := keepN3 ⟨y0_, y1_, y2_, kb⟩ b))
        | (go_at_call 34; obtain ⟨y0_, y1_, y2_, kb⟩ := ‹_ ∧ _ ∧ _ ∧ Below _ _ _›; first | ((with_reducible refine (usedIn_calls (HO3.out.below kb) P3.out.2.wide hyz3 hz3 (by omega)).mono ?_); rw [HU1.out]; rintro e w' ⟨rfl, b⟩; have hS' := keepN3 ⟨y0_, y1_, y2_, kb⟩ b) | ((with_reducible refine (usedIn_calls (HT3.out.below kb) HS3.out hlc3 hcm3' (by omega)).mono ?_); rw [HU2.out]; rintro e w' ⟨rfl, b⟩; have hS' := keepN3 ⟨y0_, y1_, y2_, kb⟩ b))
        | (go_at_call 26; obtain ⟨y0_, y1_, y2_, kb⟩ := ‹_ ∧ _ ∧ _ ∧ Below _ _ _›; first | ((with_reducible refine (sDropBlock_calls (HT3.out.below kb) HS3.out (by omega)).mono ?_); intro e w' hh; rw [HD.out] at hh; obtain ⟨xz, yz, zz, rfl, hyz, hyzz, hzz, Oz, b⟩ := hh.open_ (Nat.le_trans P3.out.1 (by decide)); have Oz := Oz.out; have hS' := keepN3 ⟨y0_, y1_, y2_, kb⟩ b.out; clear hh))
        | (go_at_call 24; obtain ⟨y0_, y1_, y2_, kb⟩ := ‹_ ∧ _ ∧ _ ∧ Below _ _ _›; first | ((with_reducible refine (samePages_calls (HO3.out.below kb) Oz P3.out.2.wide P3.out.2.wide (by omega) (by omega)).mono ?_); rw [decide_eq_true (rfl : d1 = d1)]; rintro e w' ⟨rfl, b⟩; have hS' := keepN3 ⟨y0_, y1_, y2_, kb⟩ b)))
    obtain ⟨_, _, _, kb⟩ := hS'
    have HK := Lib.hid (HBX.out.trans (kb.mono HBX.out.size))
    clear hS' kb k6 k7 k8 kB b
    go_wp2_with fail
    go_ret
    exact ⟨by first | rfl | simp, HK.out⟩
  · have e0' : (d0 != 0) = true := by simpa using e0
    clear e0 R3
    go_wp2_with fail
    go_ret
    exact ⟨rfl, HBV.out.trans (HCX.out.mono HBV.out.size)⟩
end Go.Proofs.Ytkikjoalhohlgaa
