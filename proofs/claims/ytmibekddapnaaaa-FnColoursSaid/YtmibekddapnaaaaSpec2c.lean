/- Chapter 2 as the model has it, the third part. -/
import Derived.Test.YtmibekddapnaaaaSpec2b
namespace Go.Proofs.Ytmibekddapnaaaa
open Go.RowKit

set_option maxHeartbeats 1000000 in
theorem sFramesFor_calls {ao : Option Addr} {n cc : Nat} {F C t : Int} {ts : List (List Int × Int)} {w : World} (hT : Tens w ao n ts) (hS : Short 17592186044416 ts) (hcc : n ≤ cc) (hn : n ≤ 17592186044416) :
    Calls Try.prog 14 #[.agg #[.int .i64 F, .int .i64 C, .slice ao n cc], .int .i64 t] w (RetsInts w (framesFor F C ts t)) := by
  have HL := Lib.hid hT.1
  by_cases h0 : configFault F C ts = 0
  rotate_left
  · have HF := Lib.hid (show framesFor F C ts t = (configFault F C ts, []) by unfold framesFor; rw [if_neg h0])
    have h1 : (configFault F C ts != 0) = true := by simpa [bne_iff_ne] using h0
    clear h0
    go_enter Try.func14, Try.ntmps14
    go_wp2_with fail
    refine (sConfigFault_calls ((hT.alloc _).alloc _) hS hcc hn).mono ?_
    rintro e w1 ⟨rfl, hb1⟩
    obtain ⟨hc, hres, hb, hs⟩ := two_new hb1
    clear hb1
    go_wp2_with (refine wpList_store_row rfl 31 _ _ rfl (w.heap.size + 1) _ rfl rfl _ _ hres (by kernel_rfl) (by rfl) (by simp [Value.oneCell']) ?_)
    refine bodyPost_ret (results_cell_row rfl _ _ (w.heap.size + 1) _ _ _ _ rfl (setRow_heap w1 _ _ _ _ _ hres) Try.underlying31 rfl (by kernel_rfl)) rfl ?_
    exact rets_done hb (by omega) (OwnI.nil _ (w.heap.size + 2)) (by omega) _ HF.out
  have hcf := configFault_ok h0
  have HA := Lib.hid (show framesFor F C ts t = (if within 0 ((n : Int) - 1) [t] = true then (0, framesTo C (tenAt ts t.toNat) F.toNat) else (4, [])) by unfold framesFor; rw [if_pos h0, HL.out])
  have H0 := Lib.hid h0
  clear h0
  rcases hW : within 0 ((n : Int) - 1) [t] with _ | _
  · have HF := Lib.hid (show framesFor F C ts t = (4, []) by rw [HA.out, hW]; rfl)
    go_enter Try.func14, Try.ntmps14
    go_wp2_with fail
    refine (sConfigFault_calls ((hT.alloc _).alloc _) hS hcc hn).mono ?_
    rintro e w1 ⟨rfl, hb1⟩
    rw [H0.out]
    obtain ⟨hc, hres, hb, hs⟩ := two_new hb1
    clear hb1
    go_wp2_with (first
      | (go_at_call 40; refine (l2There_calls hc hn).mono ?_; rintro e w' ⟨rfl, rfl⟩)
      | (refine wpList_store_row rfl 31 _ _ rfl (w.heap.size + 1) _ rfl rfl _ _ hres (by kernel_rfl) (by rfl) (by simp [Value.oneCell']) ?_))
    refine bodyPost_ret (results_cell_row rfl _ _ (w.heap.size + 1) _ _ _ _ rfl (setRow_heap _ _ _ _ _ _ hres) Try.underlying31 rfl (by kernel_rfl)) rfl ?_
    exact rets_done hb (by omega) (OwnI.nil _ (w.heap.size + 2)) (by omega) _ HF.out
  · have ht : 0 ≤ t ∧ t ≤ (n : Int) - 1 := by rw [within_one] at hW; simpa using hW
    obtain ⟨k, rfl⟩ : ∃ k : Nat, t = k := ⟨t.toNat, by omega⟩
    obtain ⟨m, rfl⟩ : ∃ m : Nat, F = m := ⟨F.toNat, by omega⟩
    have HF := Lib.hid (show framesFor (m : Int) C ts (k : Int) = (0, framesTo C (tenAt ts k) m) by rw [HA.out, hW]; rfl)
    go_enter Try.func14, Try.ntmps14
    go_wp2_with fail
    refine (sConfigFault_calls ((hT.alloc _).alloc _) hS hcc hn).mono ?_
    rintro e w1 ⟨rfl, hb1⟩
    rw [H0.out]
    have hT1 := ((hT.alloc _).alloc _).below hb1
    obtain ⟨hc, hres, hb, hs⟩ := two_new hb1
    clear hb1
    go_wp2_with (go_at_call 40; refine (l2There_calls hc hn).mono ?_; rintro e w' ⟨rfl, rfl⟩)
    refine (l2Frames_calls (k := k) hc hT1 hS hcc hn (by omega) (by omega) (by omega) (by omega)).mono ?_
    rintro e w2 ⟨v, rfl, hown, hb2⟩
    have hres2 := (hb2.block (w.heap.size + 1) (by omega)).trans hres
    obtain ⟨vo, vc, rfl, _, _, _⟩ := hown.shape
    have F2 := Lib.hid (And.intro hown (hb.trans (hb2.mono hb.size)))
    clear hown hb2 hT1
    go_wp2_with (refine wpList_store_row rfl 31 _ _ rfl (w.heap.size + 1) _ rfl rfl _ _ hres2 (by kernel_rfl) (by rfl) (by simp [Value.oneCell']) ?_)
    refine bodyPost_ret (results_cell_row rfl _ _ (w.heap.size + 1) _ _ _ _ rfl (setRow_heap _ _ _ _ _ _ hres2) Try.underlying31 rfl (by kernel_rfl)) rfl ?_
    exact rets_done F2.out.2 (by omega) F2.out.1 (by omega) _ HF.out

theorem sRoomFor_calls {ao : Option Addr} {n cc : Nat} {F C t : Int} {ts : List (List Int × Int)} {w : World} (hT : Tens w ao n ts) (hS : Short 17592186044416 ts) (hcc : n ≤ cc) (hn : n ≤ 17592186044416) :
    Calls Try.prog 20 #[.agg #[.int .i64 F, .int .i64 C, .slice ao n cc], .int .i64 t] w (Pair w (roomFor F C ts t)) := by
  go_enter Try.func20, Try.ntmps20
  go_wp2_with fail
  refine (sFramesFor_calls ((hT.alloc _).alloc _) hS hcc hn).mono ?_
  rintro e w1 ⟨v, m, rfl, hown, hb1⟩
  obtain ⟨hc, hres, hb, hs⟩ := two_new hb1
  have hm : m = (framesFor F C ts t).2.length := hown.in_.lohi
  have hm2 := framesFor_small F C ts t
  have HF := Lib.hid (show roomFor F C ts t = ((framesFor F C ts t).1, (m : Int)) by rw [hm]; rfl)
  obtain ⟨vo, vc, rfl, _, _, _⟩ := hown.shape
  have hm3 : m ≤ 40 := by omega
  clear hown hb1 hm hm2
  have hres2 := (heap_alloc_old w1 (.cells #[.int .i64 (framesFor F C ts t).1, .slice vo m vc] 31) (show w.heap.size + 1 < w1.heap.size by omega)).trans hres
  go_wp2_with (refine wpList_store_row rfl 34 _ _ rfl (w.heap.size + 1) _ rfl rfl _ _ hres2 (by kernel_rfl) (by rfl) (by simp [Value.oneCell']) ?_)
  refine bodyPost_ret (results_cell_row rfl _ _ (w.heap.size + 1) _ _ _ _ rfl (setRow_heap _ _ _ _ _ _ hres2) Try.underlying34 rfl (by kernel_rfl)) rfl ?_
  exact pair_done (hb.alloc hb.size _) (by omega) _ HF.out

theorem ownerOf_found {F C f c : Int} {ts : List (List Int × Int)} {k : Nat} (h : colourOf F C ts f = (0, c)) (hk : k < ts.length) (h0 : ∀ j, j < k → hasColour (tenAt ts j) c = false) (h1 : hasColour (tenAt ts k) c = true) : ownerOf F C ts f = (0, (k : Int)) := by
  unfold ownerOf
  simp only [h]
  rw [if_pos trivial, holdersTo_head hk h0 h1]
theorem ownerOf_none {F C f c : Int} {ts : List (List Int × Int)} (h : colourOf F C ts f = (0, c)) (h0 : ∀ j, j < ts.length → hasColour (tenAt ts j) c = false) : ownerOf F C ts f = (4, 0) := by
  unfold ownerOf
  simp only [h]
  rw [if_pos trivial, holdersTo_none h0]; rfl
theorem colourOf_zero {F C f : Int} {ts : List (List Int × Int)} (h : (colourOf F C ts f).1 ≠ 0) : (colourOf F C ts f).2 = 0 := by
  unfold colourOf at *
  split
  · split
    · rename_i h1 h2
      rw [if_pos h1, if_pos h2] at h; exact absurd rfl h
    · rfl
  · rfl
theorem colourOf_ok {F C f : Int} {ts : List (List Int × Int)} (h : (colourOf F C ts f).1 = 0) : colourOf F C ts f = (0, f % C) ∧ configFault F C ts = 0 ∧ 0 ≤ f ∧ f < F := by
  unfold colourOf at *
  split at h
  · rename_i h1
    split at h
    · rename_i h2
      rw [if_pos h1, if_pos h2]
      rw [within_one] at h2
      simp at h2
      exact ⟨rfl, h1, h2.1, by omega⟩
    · simp at h
  · rename_i h1; exact absurd h h1

set_option maxHeartbeats 1000000 in
theorem sOwnerOf_calls {ao : Option Addr} {n cc : Nat} {F C f : Int} {ts : List (List Int × Int)} {w : World} (hT : Tens w ao n ts) (hS : Short 17592186044416 ts) (hcc : n ≤ cc) (hn : n ≤ 17592186044416) :
    Calls Try.prog 16 #[.agg #[.int .i64 F, .int .i64 C, .slice ao n cc], .int .i64 f] w (Pair w (ownerOf F C ts f)) := by
  have HL := Lib.hid hT.1
  have HS := Lib.hid hS
  by_cases h0 : (colourOf F C ts f).1 = 0
  rotate_left
  · have HF := Lib.hid (show ownerOf F C ts f = ((colourOf F C ts f).1, (colourOf F C ts f).2) by unfold ownerOf; rw [if_neg h0, colourOf_zero h0])
    have h1 : ((colourOf F C ts f).1 != 0) = true := by simpa [bne_iff_ne] using h0
    clear h0
    go_enter Try.func16, Try.ntmps16
    go_wp2_with fail
    refine (sColourOf_calls ((hT.alloc _).alloc _) hS hcc hn).mono ?_
    rintro e w1 ⟨rfl, hb1⟩
    obtain ⟨hc, hres, hb, hs⟩ := two_new hb1
    clear hb1
    have hres2 := (heap_alloc_old w1 (.cells #[.int .i64 (colourOf F C ts f).1, .int .i64 (colourOf F C ts f).2] 34) (show w.heap.size + 1 < w1.heap.size by omega)).trans hres
    go_wp2_with (refine wpList_store_row rfl 34 _ _ rfl (w.heap.size + 1) _ rfl rfl _ _ hres2 (by kernel_rfl) (by rfl) (by simp [Value.oneCell']) ?_)
    refine bodyPost_ret (results_cell_row rfl _ _ (w.heap.size + 1) _ _ _ _ rfl (setRow_heap _ _ _ _ _ _ hres2) Try.underlying34 rfl (by kernel_rfl)) rfl ?_
    exact pair_done (hb.alloc hb.size _) (by omega) _ HF.out
  obtain ⟨hcol, hcf0, hf0, hf1⟩ := colourOf_ok h0
  have hcf := configFault_ok hcf0
  have HC := Lib.hid hcol
  clear h0 hcol hcf0
  have hn1 : 1 ≤ n := by have := HL.out; omega
  obtain ⟨b, off, rfl, hb0, hten⟩ := hT.2 hn1
  obtain ⟨cl, hcl⟩ : ∃ cl, cl = f % C := ⟨_, rfl⟩
  have HC : Hid (colourOf F C ts f = (0, cl)) := by rw [hcl]; exact HC
  clear hcl
  go_enter Try.func16, Try.ntmps16
  go_wp2_with fail
  refine (sColourOf_calls ((hT.alloc _).alloc _) hS hcc hn).mono ?_
  rintro e w1 ⟨rfl, hb1⟩
  rw [HC.out]
  obtain ⟨hc, hres, hb, hs⟩ := two_new hb1
  clear hb1
  have hres2 := (heap_alloc_old w1 (.cells #[.int .i64 0, .int .i64 cl] 34) (show w.heap.size + 1 < w1.heap.size by omega)).trans hres
  have hc2 := (heap_alloc_old w1 (.cells #[.int .i64 0, .int .i64 cl] 34) (show w.heap.size < w1.heap.size by omega)).trans hc
  have hk2 := heap_alloc_new w1 (.cells #[.int .i64 0, .int .i64 cl] 34)
  obtain ⟨W, hW⟩ : ∃ W, W = w1.alloc (.cells #[.int .i64 0, .int .i64 cl] 34) := ⟨_, rfl⟩
  have hbW : Below w.heap.size w W := by rw [hW]; exact hb.alloc hb.size _
  rw [← hW] at hres2 hc2 hk2
  go_wp2_with fail
  rw [← hW]
  obtain ⟨g, hg⟩ : ∃ g, g = w1.heap.size := ⟨_, rfl⟩
  have hgs : w.heap.size + 2 ≤ g := by rw [hg]; exact hs
  rw [← hg] at hk2 ⊢
  clear hW hres hc hb hs hg
  go_loopw [6] (fun i wr => ∃ k : Nat, k ≤ n ∧ i = .int .i64 k ∧ Hid (∀ j, j < k → hasColour (tenAt ts j) cl = false) ∧ Below W.heap.size W wr) (fun i _ => n - (intOf i).toNat)
  case atStart => exact ⟨0, Nat.zero_le _, rfl, fun j hj => by omega, Below.refl _ _⟩
  case round =>
    obtain ⟨k, hk, rfl, HW, hbw⟩ := hrel
    have hc3 : CfgAt _ _ _ _ _ _ _ := Row.below hc2 hbw
    have hk3 := Row.below hk2 hbw
    have hr3 := Row.below hres2 hbw
    obtain ⟨c0, c1, c2, c3⟩ := hc3.cells
    have d0 := hk3.lt
    have d1 := hk3.cell 1
    simp at d1
    have hbr := hbW.trans (hbw.mono hbW.size)
    by_cases hlt : k < n
    · obtain ⟨e0, a, l, c, hlc, e1, _, hI⟩ := (hten k hlt).below hbr
      have hl : l ≤ 17592186044416 := by have := HS.out.at_ k; have := hI.1; omega
      rcases hV : hasIn (tenAt ts k).1 cl with _ | _
      · have HN : Hid (∀ j, j < k + 1 → hasColour (tenAt ts j) cl = false) := fun j hj => by
          by_cases e : j = k
          · rw [e]; exact hV
          · exact HW.out j (by omega)
        go_wp2_with (go_quiet ((go_at_call 42; exact quiet_left (l1Has_calls hI hl))))
        any_goals (first | (exact absurd ((‹hasIn (tenAt ts k).1 cl = true›).symm.trans hV) (by decide)) | skip)
        go_roundw
        case rel => exact ⟨k + 1, by omega, by go_num, HN, below_drewN hbw _⟩
        case measure => simp [intOf]; omega
      · have HF := Lib.hid (ownerOf_found HC.out (by rw [HL.out]; exact hlt) HW.out hV)
        go_wp2_with (first
          | (refine wpList_store_row rfl 34 _ _ rfl (w.heap.size + 1) _ rfl rfl _ _ hr3 (by kernel_rfl) (by rfl) (by simp [Value.oneCell']) ?_)
          | (go_quiet ((go_at_call 42; exact quiet_left (l1Has_calls hI hl)))))
        any_goals (first | (exact absurd (hV.symm.trans (‹hasIn (tenAt ts k).1 cl = false›)) (by decide)) | skip)
        refine bodyPost_ret (results_cell_row rfl _ _ (w.heap.size + 1) _ _ _ _ rfl (setRow_heap _ _ _ _ _ _ hr3) Try.underlying34 rfl (by kernel_rfl)) rfl ?_
        exact pair_done (below_drewN hbr _) (by omega) _ HF.out
    · have HF := Lib.hid (ownerOf_none HC.out fun j hj => HW.out j (by rw [HL.out] at hj; omega))
      go_wp2_with (refine wpList_store_row rfl 34 _ _ rfl (w.heap.size + 1) _ rfl rfl _ _ hr3 (by kernel_rfl) (by rfl) (by simp [Value.oneCell']) ?_)
      refine bodyPost_ret (results_cell_row rfl _ _ (w.heap.size + 1) _ _ _ _ rfl (setRow_heap _ _ _ _ _ _ hr3) Try.underlying34 rfl (by kernel_rfl)) rfl ?_
      exact pair_done hbr (by omega) _ HF.out
end Go.Proofs.Ytmibekddapnaaaa
