/- Chapter 2 as the program has it: colours, frames, room and owners. -/
import Derived.Test.YtmibekddapnaaaaImpl2c
import Derived.Test.YtmibekddapnaaaaSpec2c
import Derived.Deep.RegionHeld3
namespace Go.Proofs.Ytmibekddapnaaaa
open Go.RowKit

set_option maxHeartbeats 1000000 in
theorem colourOf_calls {ao : Option Addr} {n cc : Nat} {F C f : Int} {ts : List (List Int × Int)} {w : World} (hT : Tens w ao n ts) (hS : Short 17592186044416 ts) (hcc : n ≤ cc) (hn : n ≤ 17592186044416) :
    Calls Try.prog 17 #[.agg #[.int .i64 F, .int .i64 C, .slice ao n cc], .int .i64 f] w (Pair w (colourOf F C ts f)) := by
  by_cases h0 : configFault F C ts = 0
  rotate_left
  · have HF := Lib.hid (show colourOf F C ts f = (configFault F C ts, 0) by unfold colourOf; rw [if_neg h0])
    have h1 : (configFault F C ts != 0) = true := by simpa [bne_iff_ne] using h0
    clear h0
    go_enter Try.func17, Try.ntmps17
    go_wp2_with fail
    refine (configFault_calls ((hT.alloc _).alloc _) hS hcc hn).mono ?_
    rintro e w1 ⟨rfl, hb1⟩
    obtain ⟨hc, hres, hb, hs⟩ := two_new hb1
    clear hb1
    go_wp2_with (refine wpList_store_row rfl 34 _ _ rfl (w.heap.size + 1) _ rfl rfl _ _ hres (by kernel_rfl) (by rfl) (by simp [Value.oneCell']) ?_)
    refine bodyPost_ret (results_cell_row rfl _ _ (w.heap.size + 1) _ _ _ _ rfl (setRow_heap w1 _ _ _ _ _ hres) Try.underlying34 rfl (by kernel_rfl)) rfl ?_
    exact pair_done hb (by omega) _ HF.out
  have hcf := configFault_ok h0
  have HA := Lib.hid (show colourOf F C ts f = (if within 0 (F - 1) [f] = true then (0, f % C) else (3, 0)) by unfold colourOf; rw [if_pos h0])
  have H0 := Lib.hid h0
  clear h0
  rcases hW : within 0 (F - 1) [f] with _ | _
  · have HF := Lib.hid (show colourOf F C ts f = (3, 0) by rw [HA.out, hW]; rfl)
    go_enter Try.func17, Try.ntmps17
    go_wp2_with fail
    refine (configFault_calls ((hT.alloc _).alloc _) hS hcc hn).mono ?_
    rintro e w1 ⟨rfl, hb1⟩
    rw [H0.out]
    obtain ⟨hc, hres, hb, hs⟩ := two_new hb1
    obtain ⟨c0, c1, c2, c3⟩ := CfgAt.cells hc
    have hres2 := (heap_alloc_old w1 (.cells #[.int .i64 f] 2) (show w.heap.size + 1 < w1.heap.size by omega)).trans hres
    clear hb1
    go_wp2_with (first
      | (go_at_call 35; go_must (refine (allWithin_calls (Ints.one rfl) (by omega)).mono ?_); rintro e w' ⟨rfl, rfl⟩)
      | (refine wpList_store_row rfl 34 _ _ rfl (w.heap.size + 1) _ rfl rfl _ _ hres2 (by kernel_rfl) (by rfl) (by simp [Value.oneCell']) ?_))
    refine bodyPost_ret (results_cell_row rfl _ _ (w.heap.size + 1) _ _ _ _ rfl (setRow_heap _ _ _ _ _ _ hres2) Try.underlying34 rfl (by kernel_rfl)) rfl ?_
    exact pair_done (hb.alloc hb.size _) (by omega) _ HF.out
  · have HF := Lib.hid (show colourOf F C ts f = (0, f % C) by rw [HA.out, hW]; rfl)
    have hf : 0 ≤ f ∧ f ≤ F - 1 := by rw [within_one] at hW; simpa using hW
    go_enter Try.func17, Try.ntmps17
    go_wp2_with fail
    refine (configFault_calls ((hT.alloc _).alloc _) hS hcc hn).mono ?_
    rintro e w1 ⟨rfl, hb1⟩
    rw [H0.out]
    obtain ⟨hc, hres, hb, hs⟩ := two_new hb1
    obtain ⟨c0, c1, c2, c3⟩ := CfgAt.cells hc
    have hres2 := (heap_alloc_old w1 (.cells #[.int .i64 f] 2) (show w.heap.size + 1 < w1.heap.size by omega)).trans hres
    have hs2 : w.heap.size + 1 < (w1.alloc (.cells #[.int .i64 f] 2)).heap.size := by simp; omega
    have HB := Lib.hid (hb.alloc hb.size (.cells #[.int .i64 f] 2))
    clear hb1 hb
    go_wp2_with (go_at_call 35; go_must (refine (allWithin_calls (Ints.one rfl) (by omega)).mono ?_); rintro e w' ⟨rfl, rfl⟩)
    refine (colourAt_calls (by omega) hf.1).mono ?_
    rintro e w2 ⟨rfl, hb2⟩
    have hres3 := (hb2.block (w.heap.size + 1) hs2).trans hres2
    have HB2 := Lib.hid (HB.out.trans (hb2.mono HB.out.size))
    clear hb2
    go_wp2_with (refine wpList_store_row rfl 34 _ _ rfl (w.heap.size + 1) _ rfl rfl _ _ hres3 (by kernel_rfl) (by rfl) (by simp [Value.oneCell']) ?_)
    refine bodyPost_ret (results_cell_row rfl _ _ (w.heap.size + 1) _ _ _ _ rfl (setRow_heap _ _ _ _ _ _ hres3) Try.underlying34 rfl (by kernel_rfl)) rfl ?_
    exact pair_done HB2.out (by omega) _ HF.out

set_option maxHeartbeats 2000000 in
theorem framesFor_calls {ao : Option Addr} {n cc : Nat} {F C t : Int} {ts : List (List Int × Int)} {w : World} (hT : Tens w ao n ts) (hS : Short 17592186044416 ts) (hcc : n ≤ cc) (hn : n ≤ 17592186044416) :
    Calls Try.prog 11 #[.agg #[.int .i64 F, .int .i64 C, .slice ao n cc], .int .i64 t] w (RetsInts w (framesFor F C ts t)) := by
  have HL := Lib.hid hT.1
  by_cases h0 : configFault F C ts = 0
  rotate_left
  · have HF := Lib.hid (show framesFor F C ts t = (configFault F C ts, []) by unfold framesFor; rw [if_neg h0])
    have h1 : (configFault F C ts != 0) = true := by simpa [bne_iff_ne] using h0
    clear h0
    go_enter Try.func11, Try.ntmps11
    go_wp2_with fail
    refine (configFault_calls ((hT.alloc _).alloc _) hS hcc hn).mono ?_
    rintro e w1 ⟨rfl, hb1⟩
    obtain ⟨hc, hres, hb, hs⟩ := two_new hb1
    clear hb1
    go_wp2_with (refine wpList_store_row rfl 31 _ _ rfl (w.heap.size + 1) _ rfl rfl _ _ hres (by kernel_rfl) (by rfl) (by simp [Value.oneCell']) ?_)
    refine bodyPost_ret (results_cell_row rfl _ _ (w.heap.size + 1) _ _ _ _ rfl (setRow_heap w1 _ _ _ _ _ hres) Try.underlying31 rfl (by kernel_rfl)) rfl ?_
    exact rets_done hb (by omega) (OwnI.nil _ (w.heap.size + 2)) (by omega) _ HF.out
  have hcf := configFault_ok h0
  have HA := Lib.hid (show framesFor F C ts t = (if within 0 ((n : Int) - 1) [t] = true then (0, framesTo C (tenAt ts t.toNat) F.toNat) else (4, [])) by unfold framesFor; rw [if_pos h0, HL.out])
  have H0 := Lib.hid h0
  clear h0
  rcases hW : within 0 ((n : Int) - 1) [t] with _ | _
  · have HF := Lib.hid (show framesFor F C ts t = (4, []) by rw [HA.out, hW]; rfl)
    go_enter Try.func11, Try.ntmps11
    go_wp2_with fail
    refine (configFault_calls ((hT.alloc _).alloc _) hS hcc hn).mono ?_
    rintro e w1 ⟨rfl, hb1⟩
    rw [H0.out]
    obtain ⟨hc, hres, hb, hs⟩ := two_new hb1
    obtain ⟨c0, c1, c2, c3⟩ := CfgAt.cells hc
    have hres2 := (heap_alloc_old w1 (.cells #[.int .i64 t] 2) (show w.heap.size + 1 < w1.heap.size by omega)).trans hres
    clear hb1
    go_wp2_with (first
      | (go_at_call 35; go_must (refine (allWithin_calls (Ints.one rfl) (by omega)).mono ?_); rintro e w' ⟨rfl, rfl⟩)
      | (refine wpList_store_row rfl 31 _ _ rfl (w.heap.size + 1) _ rfl rfl _ _ hres2 (by kernel_rfl) (by rfl) (by simp [Value.oneCell']) ?_))
    refine bodyPost_ret (results_cell_row rfl _ _ (w.heap.size + 1) _ _ _ _ rfl (setRow_heap _ _ _ _ _ _ hres2) Try.underlying31 rfl (by kernel_rfl)) rfl ?_
    exact rets_done (hb.alloc hb.size _) (by omega) (OwnI.nil _ (w.heap.size + 2)) (by omega) _ HF.out
  · have ht : 0 ≤ t ∧ t ≤ (n : Int) - 1 := by rw [within_one] at hW; simpa using hW
    obtain ⟨k, rfl⟩ : ∃ k : Nat, t = k := ⟨t.toNat, by omega⟩
    obtain ⟨m, rfl⟩ : ∃ m : Nat, F = m := ⟨F.toNat, by omega⟩
    have HF := Lib.hid (show framesFor (m : Int) C ts (k : Int) = (0, framesTo C (tenAt ts k) m) by rw [HA.out, hW]; rfl)
    have hn3 : n ≤ 3 := by have := HL.out; omega
    have hk : k < n := by omega
    go_enter Try.func11, Try.ntmps11
    go_wp2_with fail
    refine (configFault_calls ((hT.alloc _).alloc _) hS hcc hn).mono ?_
    rintro e w1 ⟨rfl, hb1⟩
    rw [H0.out]
    have hT1 := ((hT.alloc _).alloc _).below hb1
    obtain ⟨hc, hres, hb, hs⟩ := two_new hb1
    obtain ⟨c0, c1, c2, c3⟩ := CfgAt.cells hc
    obtain ⟨W, hWW⟩ : ∃ W, W = w1.alloc (.cells #[.int .i64 (k : Int)] 2) := ⟨_, rfl⟩
    have hbW1 : Below w1.heap.size w1 W := by rw [hWW]; exact (Below.refl _ _).alloc (Nat.le_refl _) _
    have hT2 := hT1.below hbW1
    have hr2 := Row.below hres hbW1
    have hc2 := Row.below hc hbW1
    have hB2 := hb.trans (hbW1.mono hb.size)
    have hs2 := hbW1.size
    clear hb1 hb
    go_wp2_with (go_at_call 35; go_must (refine (allWithin_calls (Ints.one rfl) (by omega)).mono ?_); rintro e w' ⟨rfl, rfl⟩)
    rw [← hWW]
    refine (claimsOf_calls hT2 hcc hn3 (fun j hj => short_of_fault (by omega) (firstFault_all hcf.2.2.2.2.2.2.1 j (by rw [HL.out]; exact hj)))).mono ?_
    rintro e w2 ⟨b, sm, rfl, hbs, hset, hb2⟩
    have hr3 := Row.below hr2 hb2
    have hc3 : CfgAt w2 w.heap.size (m : Int) C ao n cc := Row.below hc2 hb2
    have hB3 := hB2.trans (hb2.mono hB2.size)
    have hs3 := hb2.size
    clear hT1 hT2 hres hc c0 c1 c2 c3 hWW hbW1 hr2 hc2 hB2 hb2
    obtain ⟨c0, c1, c2, c3⟩ := hc3.cells
    go_wp2_with fail
    go_loopw [7, 28] (fun v i wr => ∃ j : Nat, j ≤ m ∧ i = .int .i64 j ∧ OwnE wr w2.heap.size v (framesTo C (tenAt ts k) j).length (framesTo C (tenAt ts k) j) ∧ Below w2.heap.size w2 wr) (fun _ i _ => m - (intOf i).toNat)
    case atStart => exact ⟨0, Nat.zero_le _, rfl, OwnE.nil _ _, Below.refl _ _⟩
    case round =>
      obtain ⟨j, hj, rfl, HO, hbw⟩ := hrel
      by_cases hlt : j < m
      · have hlt' : (j : Int) < (m : Int) := by omega
        have hcw : CfgAt _ _ _ _ _ _ _ := Row.below hc3 hbw
        obtain ⟨c0, c1, c2, c3⟩ := hcw.cells
        have hL := length_framesTo C (tenAt ts k) j
        have hset1 := hset.below hbw
        have hall := claimed_all (ts := ts) (c := (j : Int) % C) hk
        have hq0 : 0 ≤ (j : Int) % C := Int.emod_nonneg _ (by omega)
        have hq1 : (j : Int) % C < C := Int.emod_lt_of_pos _ (by omega)
        go_wp2_with fail
        refine (colourAt_calls (by omega) (by omega)).mono ?_
        rintro e w3 ⟨rfl, hb3⟩
        have hset2 := hset1.below hb3
        have hO3 := HO.below hb3
        have hbw3 := hbw.trans (hb3.mono hbw.size)
        have hs4 := hbw3.size
        clear HO hb3 hset1 c0 c1 c2 c3 hcw
        obtain ⟨q, hq⟩ : ∃ q, q = (j : Int) % C := ⟨_, rfl⟩
        rw [← hq] at hall hq0 hq1 ⊢
        rcases hV : hasColour (tenAt ts k) q with _ | _
        · have HE := Lib.hid (framesTo_no (C := C) (t := tenAt ts k) (n := j) (by rw [← hq]; exact hV))
          have hO1 := HE.out.symm ▸ hO3
          have F := Lib.hid hO1
          rw [hV] at hall
          clear hO1 hV hq
          go_wp2_with (at_lookup; go_must (refine wpList_lookup_set (t := (k : Int)) (c := q) rfl _ _ rfl hset2 rfl rfl (by omega) (by omega) (by omega) (by omega) ?_); rw [hall])
          go_roundw
          case rel => exact ⟨j + 1, by omega, by go_num, F.out, hbw3⟩
          case measure => simp [intOf]; omega
        · have HE := Lib.hid (framesTo_yes (C := C) (t := tenAt ts k) (n := j) (by rw [← hq]; exact hV))
          rw [hV] at hall
          clear hV hq
          go_wp2_with (first
            | (at_lookup; go_must (refine wpList_lookup_set (t := (k : Int)) (c := q) rfl _ _ rfl hset2 rfl rfl (by omega) (by omega) (by omega) (by omega) ?_); rw [hall])
            | (at_builtin; go_must (refine wpList_append_one rfl _ _ rfl rfl (hO3.below ((Below.refl _ _).alloc (Nat.le_refl _) _)) rfl (u := (j : Int)) (cell_one rfl) (by omega) (by simp; omega) ?_); intro v' w4 hO4 hB4 hg4))
          have F : Hid (OwnE w4 w2.heap.size v' (framesTo C (tenAt ts k) (j + 1)).length (framesTo C (tenAt ts k) (j + 1)) ∧ Below w2.heap.size w2 w4) := by
            refine ⟨?_, hB4 w2 (hbw3.alloc hbw3.size _)⟩
            rw [HE.out, List.length_append]; exact hO4
          clear hO4 hB4 hg4
          go_wp2
          go_roundw
          case rel => exact ⟨j + 1, by omega, by go_num, F.out.1, F.out.2⟩
          case measure => simp [intOf]; omega
      · obtain rfl : j = m := by omega
        have hr4 := Row.below hr3 hbw
        have hB4 := hB3.trans (hbw.mono hB3.size)
        obtain ⟨vo, vc, rfl, _, _, _⟩ := HO.own.shape
        have F2 := Lib.hid (And.intro HO.own hB4)
        clear HO hB4
        go_wp2_with (refine wpList_store_row rfl 31 _ _ rfl (w.heap.size + 1) _ rfl rfl _ _ hr4 (by kernel_rfl) (by rfl) (by simp [Value.oneCell']) ?_)
        refine bodyPost_ret (results_cell_row rfl _ _ (w.heap.size + 1) _ _ _ _ rfl (setRow_heap _ _ _ _ _ _ hr4) Try.underlying31 rfl (by kernel_rfl)) rfl ?_
        exact rets_done F2.out.2 (by omega) F2.out.1 (by omega) _ HF.out

theorem roomFor_calls {ao : Option Addr} {n cc : Nat} {F C t : Int} {ts : List (List Int × Int)} {w : World} (hT : Tens w ao n ts) (hS : Short 17592186044416 ts) (hcc : n ≤ cc) (hn : n ≤ 17592186044416) :
    Calls Try.prog 19 #[.agg #[.int .i64 F, .int .i64 C, .slice ao n cc], .int .i64 t] w (Pair w (roomFor F C ts t)) := by
  by_cases h0 : (framesFor F C ts t).1 = 0
  · go_enter Try.func19, Try.ntmps19
    go_wp2_with fail
    refine (framesFor_calls ((hT.alloc _).alloc _) hS hcc hn).mono ?_
    rintro e w1 ⟨v, m, rfl, hown, hb1⟩
    obtain ⟨hc, hres, hb, hs⟩ := two_new hb1
    have hm : m = (framesFor F C ts t).2.length := hown.in_.lohi
    have hm2 := framesFor_small F C ts t
    have HF := Lib.hid (show roomFor F C ts t = (0, (m : Int)) by rw [hm]; unfold roomFor; rw [h0])
    rw [h0]
    obtain ⟨vo, vc, rfl, _, _, _⟩ := hown.shape
    have hm3 : m ≤ 40 := by omega
    clear hown hb1 hm hm2 h0
    have hres2 := (heap_alloc_old w1 (.cells #[.int .i64 0, .slice vo m vc] 31) (show w.heap.size + 1 < w1.heap.size by omega)).trans hres
    go_wp2_with (refine wpList_store_row rfl 34 _ _ rfl (w.heap.size + 1) _ rfl rfl _ _ hres2 (by kernel_rfl) (by rfl) (by simp [Value.oneCell']) ?_)
    refine bodyPost_ret (results_cell_row rfl _ _ (w.heap.size + 1) _ _ _ _ rfl (setRow_heap _ _ _ _ _ _ hres2) Try.underlying34 rfl (by kernel_rfl)) rfl ?_
    exact pair_done (hb.alloc hb.size _) (by omega) _ HF.out
  · have hz : (framesFor F C ts t).2 = [] := by
      unfold framesFor at *
      split
      · split
        · rename_i h1 h2; rw [if_pos h1, if_pos h2] at h0; exact absurd rfl h0
        · rfl
      · rfl
    have HF := Lib.hid (show roomFor F C ts t = ((framesFor F C ts t).1, 0) by unfold roomFor; rw [hz]; rfl)
    have h1 : ((framesFor F C ts t).1 != 0) = true := by simpa [bne_iff_ne] using h0
    clear h0
    go_enter Try.func19, Try.ntmps19
    go_wp2_with fail
    refine (framesFor_calls ((hT.alloc _).alloc _) hS hcc hn).mono ?_
    rintro e w1 ⟨v, m, rfl, hown, hb1⟩
    obtain ⟨hc, hres, hb, hs⟩ := two_new hb1
    obtain ⟨vo, vc, rfl, _, _, _⟩ := hown.shape
    clear hown hb1 hz
    have hres2 := (heap_alloc_old w1 (.cells #[.int .i64 (framesFor F C ts t).1, .slice vo m vc] 31) (show w.heap.size + 1 < w1.heap.size by omega)).trans hres
    go_wp2_with (refine wpList_store_row rfl 34 _ _ rfl (w.heap.size + 1) _ rfl rfl _ _ hres2 (by kernel_rfl) (by rfl) (by simp [Value.oneCell']) ?_)
    refine bodyPost_ret (results_cell_row rfl _ _ (w.heap.size + 1) _ _ _ _ rfl (setRow_heap _ _ _ _ _ _ hres2) Try.underlying34 rfl (by kernel_rfl)) rfl ?_
    exact pair_done (hb.alloc hb.size _) (by omega) _ HF.out

set_option maxHeartbeats 1000000 in
theorem ownerOf_calls {ao : Option Addr} {n cc : Nat} {F C f : Int} {ts : List (List Int × Int)} {w : World} (hT : Tens w ao n ts) (hS : Short 17592186044416 ts) (hcc : n ≤ cc) (hn : n ≤ 17592186044416) :
    Calls Try.prog 13 #[.agg #[.int .i64 F, .int .i64 C, .slice ao n cc], .int .i64 f] w (Pair w (ownerOf F C ts f)) := by
  have HL := Lib.hid hT.1
  by_cases h0 : (colourOf F C ts f).1 = 0
  rotate_left
  · have HF := Lib.hid (show ownerOf F C ts f = ((colourOf F C ts f).1, 0) by unfold ownerOf; rw [if_neg h0])
    have h1 : ((colourOf F C ts f).1 != 0) = true := by simpa [bne_iff_ne] using h0
    clear h0
    go_enter Try.func13, Try.ntmps13
    go_wp2_with fail
    refine (colourOf_calls ((hT.alloc _).alloc _) hS hcc hn).mono ?_
    rintro e w1 ⟨rfl, hb1⟩
    obtain ⟨hc, hres, hb, hs⟩ := two_new hb1
    clear hb1
    have hres2 := (heap_alloc_old w1 (.cells #[.int .i64 (colourOf F C ts f).1, .int .i64 (colourOf F C ts f).2] 34) (show w.heap.size + 1 < w1.heap.size by omega)).trans hres
    go_wp2_with (refine wpList_store_row rfl 34 _ _ rfl (w.heap.size + 1) _ rfl rfl _ _ hres2 (by kernel_rfl) (by rfl) (by simp [Value.oneCell']) ?_)
    refine bodyPost_ret (results_cell_row rfl _ _ (w.heap.size + 1) _ _ _ _ rfl (setRow_heap _ _ _ _ _ _ hres2) Try.underlying34 rfl (by kernel_rfl)) rfl ?_
    exact pair_done (hb.alloc hb.size _) (by omega) _ HF.out
  obtain ⟨hcol, hcf0, hf0, hf1⟩ := colourOf_ok h0
  have hcf := configFault_ok hcf0
  have HC := Lib.hid hcol
  clear h0 hcol hcf0
  have hn3 : n ≤ 3 := by have := HL.out; omega
  obtain ⟨cl, hcl⟩ : ∃ cl, cl = f % C := ⟨_, rfl⟩
  have HC : Hid (colourOf F C ts f = (0, cl)) := by rw [hcl]; exact HC
  have hcl0 : 0 ≤ cl := by rw [hcl]; exact Int.emod_nonneg _ (by omega)
  have hcl1 : cl < C := by rw [hcl]; exact Int.emod_lt_of_pos _ (by omega)
  clear hcl
  go_enter Try.func13, Try.ntmps13
  go_wp2_with fail
  refine (colourOf_calls ((hT.alloc _).alloc _) hS hcc hn).mono ?_
  rintro e w1 ⟨rfl, hb1⟩
  rw [HC.out]
  have hT1 := ((hT.alloc _).alloc _).below hb1
  obtain ⟨hc, hres, hb, hs⟩ := two_new hb1
  clear hb1
  have hres2 := (heap_alloc_old w1 (.cells #[.int .i64 0, .int .i64 cl] 34) (show w.heap.size + 1 < w1.heap.size by omega)).trans hres
  have hc2 : CfgAt (w1.alloc (.cells #[.int .i64 0, .int .i64 cl] 34)) w.heap.size F C ao n cc := (heap_alloc_old w1 (.cells #[.int .i64 0, .int .i64 cl] 34) (show w.heap.size < w1.heap.size by omega)).trans hc
  have hk2 := heap_alloc_new w1 (.cells #[.int .i64 0, .int .i64 cl] 34)
  have hT2 := hT1.alloc (.cells #[.int .i64 0, .int .i64 cl] 34)
  obtain ⟨W, hW⟩ : ∃ W, W = w1.alloc (.cells #[.int .i64 0, .int .i64 cl] 34) := ⟨_, rfl⟩
  have hbW : Below w.heap.size w W := by rw [hW]; exact hb.alloc hb.size _
  rw [← hW] at hres2 hc2 hk2 hT2
  obtain ⟨c0, c1, c2, c3⟩ := hc2.cells
  have c4 : W.cell? ⟨w1.heap.size, 1, none⟩ = some (.int .i64 cl) := by rw [Row.cell hk2 1]; rfl
  obtain ⟨g, hg⟩ : ∃ g, g = w1.heap.size := ⟨_, rfl⟩
  have hgs : w.heap.size + 2 ≤ g := by rw [hg]; exact hs
  have kB := Below.refl W.heap.size W
  have hlf := fun j (hj : j < n) => short_of_fault (t := tenAt ts j) hcf.2.2.2.1 (firstFault_all hcf.2.2.2.2.2.2.1 j (by rw [HL.out]; exact hj))
  have HLF := Lib.hid hlf
  clear hlf
  go_wp2_with fail
  rw [← hW]
  rw [← hg] at c4 ⊢
  clear hW hres hc hb hs hk2 hg
  go_region_held3 (fun w' => w'.cell? ⟨w.heap.size, 0, none⟩ = some (.int .i64 F) ∧ w'.cell? ⟨w.heap.size, 1, none⟩ = some (.int .i64 C) ∧ w'.cell? ⟨w.heap.size, 2, none⟩ = some (.slice ao n cc) ∧ w'.cell? ⟨g, 1, none⟩ = some (.int .i64 cl) ∧ Below W.heap.size W w') (first | assumption | exact ⟨c1, c2, c3, c4, kB.drew⟩)
    (first
      | (go_at_call 36; obtain ⟨x0, x1, x2, x3, kb⟩ := ‹_ ∧ _ ∧ _ ∧ _ ∧ Below _ _ _›; refine (claimsOf_calls (hT2.below kb) hcc hn3 HLF.out).mono ?_; rintro e w' ⟨b, sm, rfl, hbs, hset, b1⟩; have hS' := keep4 ⟨x0, x1, x2, x3, kb⟩ b1)
      | (go_at_call 39; obtain ⟨x0, x1, x2, x3, kb⟩ := ‹_ ∧ _ ∧ _ ∧ _ ∧ Below _ _ _›; refine (holdersOf_calls hn3 hset hcl0 (by omega)).mono ?_; rintro e w'' ⟨v, rfl, hown, b2⟩; obtain ⟨vo, vc, rfl, _, _, hIn⟩ := hown.shape; have hS'' := keep4 ⟨x0, x1, x2, x3, kb⟩ b2))
  obtain ⟨x0, x1, x2, x3, kb⟩ := hS''
  have hB := hbW.trans (kb.mono hbW.size)
  have hr3 : Row w'' (w.heap.size + 1) _ _ := Row.below hres2 kb
  have hL := length_holdersTo ts cl n
  have HO := Lib.hid (show ownerOf F C ts f = (match (holdersTo ts cl n).head? with | some t => (0, t) | none => (4, 0)) by unfold ownerOf; simp only [HC.out]; rw [if_pos trivial, HL.out]; rfl)
  obtain ⟨xs, hxs⟩ : ∃ xs, holdersTo ts cl n = xs := ⟨_, rfl⟩
  obtain ⟨m, hm⟩ : ∃ m, m = xs.length := ⟨_, rfl⟩
  rw [hxs] at hIn hL
  have HO : Hid (ownerOf F C ts f = (match xs.head? with | some t => (0, t) | none => (4, 0))) := by rw [← hxs]; exact HO
  rw [hxs, ← hm]
  rw [← hm] at hIn hL
  clear hxs hown hset b1 b2 hS' x0 x1 x2 x3 kb
  by_cases hm0 : m = 0
  · have hx : xs = [] := List.eq_nil_of_length_eq_zero (by omega)
    subst hx
    have HF : Hid (ownerOf F C ts f = (4, 0)) := HO.out
    subst hm0
    clear hm
    go_wp2_with (refine wpList_store_row rfl 34 _ _ rfl (w.heap.size + 1) _ rfl rfl _ _ hr3 (by kernel_rfl) (by rfl) (by simp [Value.oneCell']) ?_)
    refine bodyPost_ret (results_cell_row rfl _ _ (w.heap.size + 1) _ _ _ _ rfl (setRow_heap _ _ _ _ _ _ hr3) Try.underlying34 rfl (by kernel_rfl)) rfl ?_
    exact pair_done hB (by omega) _ HF.out
  · rcases xs with _ | ⟨x, r⟩
    · simp at hm; exact absurd hm hm0
    · obtain ⟨bo, oo, rfl, hbo, hco⟩ := hIn.at_ (show 0 < m by omega)
      have HF : Hid (ownerOf F C ts f = (0, x)) := HO.out
      have hm1 : ((m : Int) == 0) = false := by simp; omega
      have hm2 : (0 : Int) < (m : Int) := by omega
      simp at hco
      clear hm hIn HO
      go_wp2_with (refine wpList_store_row rfl 34 _ _ rfl (w.heap.size + 1) _ rfl rfl _ _ hr3 (by kernel_rfl) (by rfl) (by simp [Value.oneCell']) ?_)
      refine bodyPost_ret (results_cell_row rfl _ _ (w.heap.size + 1) _ _ _ _ rfl (setRow_heap _ _ _ _ _ _ hr3) Try.underlying34 rfl (by kernel_rfl)) rfl ?_
      exact pair_done hB (by omega) _ HF.out
end Go.Proofs.Ytmibekddapnaaaa
