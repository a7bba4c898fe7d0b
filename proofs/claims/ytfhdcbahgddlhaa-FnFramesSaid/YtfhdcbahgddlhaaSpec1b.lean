/- Chapter 1 as the model has it, the second part: what it answers. -/
import Derived.Test.YtfhdcbahgddlhaaSpec1
namespace Go.Proofs.Ytfhdcbahgddlhaa
open Go.RowKit

theorem sNewArena_calls {f : Int} {w : World} :
    Calls Try.prog 19 #[.int .i64 f] w (RetsInts w (newArena f)) := by
  obtain ⟨i0, hi, hz0, hz1, hz2⟩ := info_parts info64
  rcases hW : within 1 40 [f] with _ | _
  · have HF := Lib.hid (show newArena f = (2, []) by simp [newArena, hW])
    go_enter Try.func19, Try.ntmps19
    go_wp2_with (go_at_call 46; refine l1In_calls.mono ?_; rintro e w' ⟨rfl, rfl⟩)
    refine bodyPost_ret (v := .agg #[.int .i64 2, .slice none 0 0]) (by simp [results, Try.results19, go_sem]) rfl ?_
    rw [HF.out]
    exact ⟨_, 0, rfl, OwnI.nil _ _, (Below.refl _ _).alloc (Nat.le_refl _) _⟩
  · obtain ⟨m, rfl⟩ : ∃ m : Nat, f = m := ⟨f.toNat, by simp [within] at hW; omega⟩
    have hm : 1 ≤ m ∧ m ≤ 40 := by simp [within] at hW; omega
    have HF := Lib.hid (show newArena (m : Int) = (0, List.replicate (m * 16) 0) by simp [newArena, hW])
    go_enter Try.func19, Try.ntmps19
    go_wp2_with (first
      | (go_at_call 46; refine l1In_calls.mono ?_; rintro e w' ⟨rfl, rfl⟩)
      | (at_make; go_must (refine wpList_make_full _ rfl _ _ 24 rfl (w.heap.size + 1) 2 i0 (.int .i64 0) 1 Try.underlying24 hi hz0 hz1 _ _ _ _ (m * 16) rfl rfl (by omega) (by omega) (by rw [hz2]; omega) (by unfold maxLen; omega) (by simp) ?_); intro w1 hown hg; have hb3 : Below (w.heap.size + 1) (w.alloc (.cells #[.int .i64 0, .slice none 0 0] 28)) w1 := (Below.refl _ _).grown hg (by simp) (by simp); have hres := res_at hb3)
      | (refine wpList_store_row rfl 28 _ _ rfl w.heap.size _ rfl rfl _ _ hres (by kernel_rfl) (by rfl) (by simp [Value.oneCell']) ?_))
    refine bodyPost_ret (results_cell_row rfl _ _ w.heap.size _ _ _ _ rfl (setRow_heap _ _ _ _ _ _ hres) Try.underlying28 rfl (by kernel_rfl)) rfl ?_
    have HO : OwnI w1 (w.heap.size + 1) (.slice (some ⟨w.heap.size + 1, 0, none⟩) (m * 16) (m * 16)) (m * 16) (List.replicate (m * 16) 0) := ⟨_, by simpa [toList_madeCells_one, Value.cells] using hown⟩
    rw [HF.out]
    exact ret_code _ hb3 HO (by omega)

theorem sFrameWords_calls {a : Option Addr} {n c : Nat} {xs : List Int} {f : Int} {w : World} (ha : Ints w a n xs) (hc : n ≤ c) (hx : n ≤ 17592186044416) :
    Calls Try.prog 26 #[.slice a n c, .int .i64 f] w (RetsInts w (frameWords xs f)) := by
  have HL := Lib.hid ha.1
  by_cases h0 : frameFault xs f = 0
  · have hf := (frameFault_ok h0).2
    obtain ⟨m, rfl⟩ : ∃ m : Nat, f = m := ⟨f.toNat, by omega⟩
    have hf2 : (m + 1) * 16 ≤ n := by have := HL.out; omega
    have HF := Lib.hid (show frameWords xs m = (0, frameOf xs m) by simp [frameWords, h0])
    have H0 := Lib.hid h0
    clear h0 hf
    go_enter Try.func26, Try.ntmps26
    go_wp2_with fail
    refine (l1Asked_calls (ha.alloc _) hx).mono ?_
    rintro e w1 ⟨rfl, rfl⟩
    rw [H0.out]
    go_wp2_with fail
    refine (l1Frame_calls (ha.alloc _) hf2 hc hx).mono ?_
    rintro e w2 ⟨v, rfl, hown, hb2⟩
    have hb3 : Below (w.heap.size + 1) (w.alloc (.cells #[.int .i64 0, .slice none 0 0] 28)) w2 := hb2.mono (by simp)
    have hres := res_at hb3
    have hlt : w.heap.size < (w.alloc (.cells #[.int .i64 0, .slice none 0 0] 28)).heap.size := by simp
    clear hb2
    obtain ⟨ao, cap, rfl, _, _, _⟩ := hown.shape
    have HOW := Lib.hid hown
    clear hown
    go_wp2_with (refine wpList_store_row rfl 28 _ _ rfl w.heap.size _ rfl rfl _ _ hres (by kernel_rfl) (by rfl) (by simp [Value.oneCell']) ?_)
    refine bodyPost_ret (results_cell_row rfl _ _ w.heap.size _ _ _ _ rfl (setRow_heap _ _ _ _ _ _ hres) Try.underlying28 rfl (by kernel_rfl)) rfl ?_
    rw [HF.out]
    exact ret_code _ hb3 HOW.out hlt
  · have HF := Lib.hid (show frameWords xs f = (frameFault xs f, []) by simp [frameWords, h0])
    have h1 : (frameFault xs f != 0) = true := by simpa [bne_iff_ne] using h0
    clear h0
    go_enter Try.func26, Try.ntmps26
    go_wp2_with fail
    refine (l1Asked_calls (ha.alloc _) hx).mono ?_
    rintro e w1 ⟨rfl, rfl⟩
    have hb2 := Below.refl (w.heap.size + 1) (w.alloc (.cells #[.int .i64 0, .slice none 0 0] 28))
    have hres := res_at hb2
    go_wp2_with (refine wpList_store_row rfl 28 _ _ rfl w.heap.size _ rfl rfl _ _ hres (by kernel_rfl) (by rfl) (by simp [Value.oneCell']) ?_)
    refine bodyPost_ret (results_cell_row rfl _ _ w.heap.size _ _ _ _ rfl (setRow_heap _ _ _ _ _ _ hres) Try.underlying28 rfl (by kernel_rfl)) rfl ?_
    rw [HF.out]
    exact ret_code _ hb2 (OwnI.nil _ (w.heap.size + 1)) (by omega)

theorem sZeroFrame_calls {a : Option Addr} {n c : Nat} {xs : List Int} {f : Int} {w : World} (ha : Ints w a n xs) (hx : n ≤ 17592186044416) :
    Calls Try.prog 18 #[.slice a n c, .int .i64 f] w (RetsInts w (zeroFrame xs f)) := by
  have HL := Lib.hid ha.1
  obtain ⟨i0, hi, hz0, hz1, hz2⟩ := info_parts info64
  by_cases h0 : frameFault xs f = 0
  · have hf := (frameFault_ok h0).2
    obtain ⟨m, rfl⟩ : ∃ m : Nat, f = m := ⟨f.toNat, by omega⟩
    have hf2 : (m + 1) * 16 ≤ n := by have := HL.out; omega
    have HF := Lib.hid (show zeroFrame xs m = (0, putFrame xs m (List.replicate 16 0)) by simp [zeroFrame, h0])
    have H0 := Lib.hid h0
    clear h0 hf
    go_enter Try.func18, Try.ntmps18
    go_wp2_with fail
    refine (l1Asked_calls (ha.alloc _) hx).mono ?_
    rintro e w1 ⟨rfl, rfl⟩
    rw [H0.out]
    go_wp2_with fail
    refine (l1Ints_calls (ha.alloc _) (by omega) hx).mono ?_
    rintro e w2 ⟨v, rfl, hown, hb2⟩
    obtain ⟨t, g, cap, cur, rfl, hg, hh, hnc, hcm, hcs, ht⟩ := hown.form (by omega)
    have HOW := Lib.hid hown
    clear hown hh hcs ht
    go_wp2_with (at_make; go_must (refine wpList_make_full _ rfl _ _ 24 rfl (w.heap.size + 1) 2 i0 (.int .i64 0) 1 Try.underlying24 hi hz0 hz1 .i64 .i64 16 16 16 rfl rfl rfl rfl (by rw [hz2]; decide) (by unfold maxLen; decide) (by have := hb2.size; simp at this; omega) ?_); intro w3 hown3 hg3)
    have hb2' : Below (w.heap.size + 1) (w.alloc (.cells #[.int .i64 0, .slice none 0 0] 28)) w2 := hb2.mono (by simp)
    have hlt : w.heap.size + 1 ≤ w2.heap.size := by have := hb2'.size; simp at this; omega
    have hB : w.heap.size + 1 ≤ g ∧ g < w2.heap.size := by have := HOW.out.lt; simp at this; omega
    have hO3 : OwnI w3 (w.heap.size + 1) (.slice (some ⟨g, 0, none⟩) n cap) n xs := (HOW.out.kept hg3 (.inr (by simp [Value.ownBlock]))).base (by simp)
    have hZ : OwnI w3 (w.heap.size + 1) (.slice (some ⟨w2.heap.size, 0, none⟩) 16 16) 16 (List.replicate 16 0) := ⟨_, by simpa [toList_madeCells_one, Value.cells] using hown3⟩
    have hb3 := hb2'.grown hg3 hlt (by simp)
    clear hown3 hb2 HOW
    refine (l1Write_calls hO3 hf2 hZ.ints (by omega) hx).mono ?_
    rintro e w4 ⟨rfl, hown4, hg4⟩
    have hb4 := hb3.grown hg4 (Nat.le_trans hlt hg3.size) (by intro k hk; simp at hk; omega)
    have HOW := Lib.hid hown4
    have hres := res_at hb4
    clear hown4 hO3 hZ hb3 hg3 hg4
    go_wp2_with (refine wpList_store_row rfl 28 _ _ rfl w.heap.size _ rfl rfl _ _ hres (by kernel_rfl) (by rfl) (by simp [Value.oneCell']) ?_)
    refine bodyPost_ret (results_cell_row rfl _ _ w.heap.size _ _ _ _ rfl (setRow_heap _ _ _ _ _ _ hres) Try.underlying28 rfl (by kernel_rfl)) rfl ?_
    rw [HF.out]
    exact ret_code _ hb4 HOW.out (by omega)
  · have HF := Lib.hid (show zeroFrame xs f = (frameFault xs f, []) by simp [zeroFrame, h0])
    have h1 : (frameFault xs f != 0) = true := by simpa [bne_iff_ne] using h0
    clear h0
    go_enter Try.func18, Try.ntmps18
    go_wp2_with fail
    refine (l1Asked_calls (ha.alloc _) hx).mono ?_
    rintro e w1 ⟨rfl, rfl⟩
    have hb2 := Below.refl (w.heap.size + 1) (w.alloc (.cells #[.int .i64 0, .slice none 0 0] 28))
    have hres := res_at hb2
    go_wp2_with (refine wpList_store_row rfl 28 _ _ rfl w.heap.size _ rfl rfl _ _ hres (by kernel_rfl) (by rfl) (by simp [Value.oneCell']) ?_)
    refine bodyPost_ret (results_cell_row rfl _ _ w.heap.size _ _ _ _ rfl (setRow_heap _ _ _ _ _ _ hres) Try.underlying28 rfl (by kernel_rfl)) rfl ?_
    rw [HF.out]
    exact ret_code _ hb2 (OwnI.nil _ (w.heap.size + 1)) (by omega)


/-- One word after the other is asked: what the loop over the page finds. -/
theorem sWriteFrame_calls {a : Option Addr} {n c pn pc : Nat} {pa : Option Addr} {xs page : List Int} {f : Int} {w : World} (ha : Ints w a n xs) (hp : Ints w pa pn page) (hx : n ≤ 17592186044416) (hpx : pn ≤ 17592186044416) :
    Calls Try.prog 17 #[.slice a n c, .int .i64 f, .slice pa pn pc] w (RetsInts w (writeFrame xs f page)) := by
  have HL := Lib.hid ha.1
  have HPL := Lib.hid hp.1
  by_cases h0 : frameFault xs f = 0
  · have hf := (frameFault_ok h0).2
    obtain ⟨m, rfl⟩ : ∃ m : Nat, f = m := ⟨f.toNat, by omega⟩
    have hf2 : (m + 1) * 16 ≤ n := by have := HL.out; omega
    by_cases h16 : pn = 16
    · subst h16
      obtain ⟨pb, po, rfl, hpb, hpcell⟩ := hp.2 (by omega)
      have HF := Lib.hid (show writeFrame xs m page = if within (-1000000000) 1000000000 page = true then (0, putFrame xs m page) else (3, []) by simp [writeFrame, h0, HPL.out])
      have H0 := Lib.hid h0
      clear h0 hf hpcell
      go_enter Try.func17, Try.ntmps17
      go_wp2_with fail
      refine (l1Asked_calls (ha.alloc _) hx).mono ?_
      rintro e w1 ⟨rfl, rfl⟩
      rw [H0.out]
      have hp1 := hp.alloc (.cells #[.int .i64 0, .slice none 0 0] 28)
      have hb1 := Below.refl (w.heap.size + 1) (w.alloc (.cells #[.int .i64 0, .slice none 0 0] 28))
      have hres := res_at hb1
      have ha1 := ha.alloc (.cells #[.int .i64 0, .slice none 0 0] 28)
      have HW1 : Hid ((w.alloc (.cells #[.int .i64 0, .slice none 0 0] 28)).heap.size = w.heap.size + 1) := by simp [Hid]
      go_wp2_with fail
      go_loop [8] (fun i => ∃ k : Nat, k ≤ 16 ∧ i = .int .i64 k ∧ Hid (within (-1000000000) 1000000000 (page.take k) = true)) (fun i => 16 - (intOf i).toNat)
      case atStart => exact ⟨0, Nat.zero_le _, rfl, rfl⟩
      case round =>
        obtain ⟨k, hk, rfl, HW⟩ := hrel
        by_cases hlt : k < 16
        · obtain ⟨pb', po', he, hpb', hca⟩ := hp1.at_ hlt
          simp only [Option.some.injEq, Addr.mk.injEq, and_true] at he
          obtain ⟨rfl, rfl⟩ := he
          have hkx : k < page.length := by rw [HPL.out]; exact hlt
          rcases hV : within (-1000000000) 1000000000 [page[k]] with _ | _
          · have HF3 := Lib.hid (show writeFrame xs m page = (3, []) by rw [HF.out, within_one_no hkx hV]; rfl)
            go_wp2_with (first | (go_at_call 43; refine l1Value_calls.mono ?_; rintro e w' ⟨rfl, rfl⟩) | (refine wpList_store_row rfl 28 _ _ rfl w.heap.size _ rfl rfl _ _ hres (by kernel_rfl) (by rfl) (by simp [Value.oneCell']) ?_))
            refine bodyPost_ret (results_cell_row rfl _ _ w.heap.size _ _ _ _ rfl (setRow_heap _ _ _ _ _ _ hres) Try.underlying28 rfl (by kernel_rfl)) rfl ?_
            rw [HF3.out]
            exact ret_code _ hb1 (OwnI.nil _ (w.heap.size + 1)) (by omega)
          · have HS := Lib.hid (within_one_snoc hkx hV HW.out)
            go_wp2_with (go_at_call 43; refine l1Value_calls.mono ?_; rintro e w' ⟨rfl, rfl⟩)
            go_round
            case rel => exact ⟨k + 1, by omega, by go_num, HS⟩
            case measure => simp [intOf]; omega
        · have HF3 := Lib.hid (show writeFrame xs m page = (0, putFrame xs m page) by
            have := HW.out
            rw [List.take_of_length_le (by have := HPL.out; omega)] at this
            rw [HF.out, if_pos this])
          go_wp2_with fail
          refine (l1Ints_calls ha1 (by omega) hx).mono ?_
          rintro e w2 ⟨v, rfl, hown, hb2⟩
          have hb3 : Below (w.heap.size + 1) (w.alloc (.cells #[.int .i64 0, .slice none 0 0] 28)) w2 := hb2.mono (by simp)
          have hp2 := hp1.below hb2
          obtain ⟨t, g, cap, cur, rfl, hg, hh, hnc, hcm, hcs, ht⟩ := hown.form (by omega)
          have hg' : w.heap.size + 1 ≤ g := by simpa using hg
          have hlt2 : w.heap.size + 1 ≤ w2.heap.size := by have := hb3.size; simp at this; omega
          have hO2 : OwnI w2 (w.heap.size + 1) (.slice (some ⟨g, 0, none⟩) n cap) n xs := hown.base (by simp)
          clear hown hh hcs ht hb2 hg hres
          go_wp2_with fail
          refine (l1Write_calls hO2 hf2 hp2 (by omega) hx).mono ?_
          rintro e w4 ⟨rfl, hown4, hg4⟩
          have hb4 := hb3.grown hg4 hlt2 (by intro k hk; simp at hk; omega)
          have HOW := Lib.hid hown4
          have hres := res_at hb4
          clear hown4 hO2 hb3 hg4 hb1
          go_wp2_with (refine wpList_store_row rfl 28 _ _ rfl w.heap.size _ rfl rfl _ _ hres (by kernel_rfl) (by rfl) (by simp [Value.oneCell']) ?_)
          refine bodyPost_ret (results_cell_row rfl _ _ w.heap.size _ _ _ _ rfl (setRow_heap _ _ _ _ _ _ hres) Try.underlying28 rfl (by kernel_rfl)) rfl ?_
          rw [HF3.out]
          exact ret_code _ hb4 HOW.out (by omega)
    · have HF := Lib.hid (show writeFrame xs m page = (2, []) by simp [writeFrame, h0, HPL.out, h16])
      have h16' : ((pn : Int) != 16) = true := by simp [bne_iff_ne]; omega
      have H0 := Lib.hid h0
      clear h0 hf h16
      go_enter Try.func17, Try.ntmps17
      go_wp2_with fail
      refine (l1Asked_calls (ha.alloc _) hx).mono ?_
      rintro e w1 ⟨rfl, rfl⟩
      rw [H0.out]
      have hb2 := Below.refl (w.heap.size + 1) (w.alloc (.cells #[.int .i64 0, .slice none 0 0] 28))
      have hres := res_at hb2
      go_wp2_with (refine wpList_store_row rfl 28 _ _ rfl w.heap.size _ rfl rfl _ _ hres (by kernel_rfl) (by rfl) (by simp [Value.oneCell']) ?_)
      refine bodyPost_ret (results_cell_row rfl _ _ w.heap.size _ _ _ _ rfl (setRow_heap _ _ _ _ _ _ hres) Try.underlying28 rfl (by kernel_rfl)) rfl ?_
      rw [HF.out]
      exact ret_code _ hb2 (OwnI.nil _ (w.heap.size + 1)) (by omega)
  · have HF := Lib.hid (show writeFrame xs f page = (frameFault xs f, []) by simp [writeFrame, h0])
    have h1 : (frameFault xs f != 0) = true := by simpa [bne_iff_ne] using h0
    clear h0
    go_enter Try.func17, Try.ntmps17
    go_wp2_with fail
    refine (l1Asked_calls (ha.alloc _) hx).mono ?_
    rintro e w1 ⟨rfl, rfl⟩
    have hb2 := Below.refl (w.heap.size + 1) (w.alloc (.cells #[.int .i64 0, .slice none 0 0] 28))
    have hres := res_at hb2
    go_wp2_with (refine wpList_store_row rfl 28 _ _ rfl w.heap.size _ rfl rfl _ _ hres (by kernel_rfl) (by rfl) (by simp [Value.oneCell']) ?_)
    refine bodyPost_ret (results_cell_row rfl _ _ w.heap.size _ _ _ _ rfl (setRow_heap _ _ _ _ _ _ hres) Try.underlying28 rfl (by kernel_rfl)) rfl ?_
    rw [HF.out]
    exact ret_code _ hb2 (OwnI.nil _ (w.heap.size + 1)) (by omega)

end Go.Proofs.Ytfhdcbahgddlhaa
