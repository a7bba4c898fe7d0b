/- Chapter 1 as the program has it, the third part: what it answers. -/
import Derived.Test.YtfhdcbahgddlhaaImpl1b
namespace Go.Proofs.Ytfhdcbahgddlhaa
open Go.RowKit

theorem newArena_calls {f : Int} {w : World} :
    Calls Try.prog 16 #[.int .i64 f] w (RetsInts w (newArena f)) := by
  obtain ⟨i0, hi, hz0, hz1, hz2⟩ := info_parts info64
  rcases hW : within 1 40 [f] with _ | _
  · have HF := Lib.hid (show newArena f = (2, []) by simp [newArena, hW])
    go_enter Try.func16, Try.ntmps16
    go_wp2_with (go_at_call 41; refine (allWithin_calls (Ints.one (by simp)) (by omega)).mono ?_; rintro e w' ⟨rfl, rfl⟩)
    refine bodyPost_ret (v := .agg #[.int .i64 2, .slice none 0 0]) (by simp [results, Try.results16, go_sem]) rfl ?_
    rw [HF.out]
    exact ⟨_, 0, rfl, OwnI.nil _ _, ((Below.refl _ _).alloc (Nat.le_refl _) _).alloc (by simp) _⟩
  · obtain ⟨m, rfl⟩ : ∃ m : Nat, f = m := ⟨f.toNat, by simp [within] at hW; omega⟩
    have hm : 1 ≤ m ∧ m ≤ 40 := by simp [within] at hW; omega
    have HF := Lib.hid (show newArena (m : Int) = (0, List.replicate (m * 16) 0) by simp [newArena, hW])
    go_enter Try.func16, Try.ntmps16
    go_wp2_with (first
      | (go_at_call 41; refine (allWithin_calls (Ints.one (by simp)) (by omega)).mono ?_; rintro e w' ⟨rfl, rfl⟩)
      | (at_make; go_must (refine wpList_make_full _ rfl _ _ 24 rfl (w.heap.size + 1) 2 i0 (.int .i64 0) 1 Try.underlying24 hi hz0 hz1 _ _ _ _ (m * 16) rfl rfl (by omega) (by omega) (by rw [hz2]; omega) (by unfold maxLen; omega) (by simp) ?_); intro w1 hown hg; have hres := res_at (((Below.refl _ _).alloc (by simp) _).grown hg (by simp) (by simp)))
      | (refine wpList_store_row rfl 28 _ _ rfl w.heap.size _ rfl rfl _ _ hres (by kernel_rfl) (by rfl) (by simp [Value.oneCell']) ?_))
    have hb1 : Below w.heap.size w w1 := (((Below.refl _ _).alloc (Nat.le_refl _) _).alloc (by simp) _).grown hg (by simp; omega) (by simp)
    refine bodyPost_ret (results_cell_row rfl _ _ w.heap.size _ _ _ _ rfl (setRow_heap w1 _ _ _ _ _ hres) Try.underlying28 rfl (by kernel_rfl)) rfl ?_
    have HO : OwnI w1 (w.heap.size + 1) (.slice (some ⟨w.heap.size + 1 + 1, 0, none⟩) (m * 16) (m * 16)) (m * 16) (List.replicate (m * 16) 0) := ⟨_, by simpa [toList_madeCells_one, Value.cells] using hown⟩
    rw [HF.out]
    exact ⟨_, _, rfl, (HO.setRow (by omega) _).base (by omega), below_setRow hb1 (Nat.le_refl _) _⟩

theorem frameWords_calls {a : Option Addr} {n c : Nat} {xs : List Int} {f : Int} {w : World} (ha : Ints w a n xs) (hc : n ≤ c) (hx : n ≤ 17592186044416) :
    Calls Try.prog 25 #[.slice a n c, .int .i64 f] w (RetsInts w (frameWords xs f)) := by
  have HL := Lib.hid ha.1
  by_cases h0 : frameFault xs f = 0
  · have hf := (frameFault_ok h0).2
    obtain ⟨m, rfl⟩ : ∃ m : Nat, f = m := ⟨f.toNat, by omega⟩
    have hf2 : (m + 1) * 16 ≤ n := by have := HL.out; omega
    have HF := Lib.hid (show frameWords xs m = (0, frameOf xs m) by simp [frameWords, h0])
    have H0 := Lib.hid h0
    have HLF := Lib.hid (length_frameOf (xs := xs) (f := m) (by rw [HL.out]; exact hf2))
    clear h0 hf
    obtain ⟨cs, hcs⟩ : ∃ cs, cs = (frameOf xs m).map (Value.int .i64) := ⟨_, rfl⟩
    have HCS := Lib.hid hcs
    have HSZ : Hid (cs.toArray.size = 16) := by have := HLF.out; rw [hcs]; simpa [Hid] using this
    have HO : Hid (∀ v ∈ cs, v.oneCell' = true) := by rw [hcs]; exact ints_oneCell _ _
    clear hcs
    go_enter Try.func25, Try.ntmps25
    go_wp2_with fail
    refine (frameFault_calls (ha.alloc _) hx).mono ?_
    rintro e w1 ⟨rfl, hb1⟩
    rw [H0.out]
    have ha1 := (ha.alloc _).below hb1
    go_wp2_with fail
    refine (frameAt_calls ha1 hf2 hc hx).mono ?_
    rintro e w2 ⟨rfl, hb2⟩
    rw [← HCS.out]
    have hb3 : Below (w.heap.size + 1) (w.alloc (.cells #[.int .i64 0, .slice none 0 0] 28)) w2 := (hb1.mono (by simp)).trans (hb2.mono (by have := hb1.size; simp at this; omega))
    have hres := res_at hb3
    have hlt : w.heap.size < w2.heap.size := by have := hb3.size; simp at this; omega
    clear hb1 hb2 ha1
    go_wp2_with (first
      | (refine wpList_store_row rfl 53 (.tmp 6) (.tmp 16) rfl w2.heap.size cs.toArray rfl rfl _ _ (heap_alloc_new _ _) (by rw [HSZ.out]; kernel_rfl) (by exact HSZ.out.symm) (all_oneCell_toArray HO.out) ?_)
      | (refine wpList_store_row rfl 28 _ _ rfl w.heap.size _ rfl rfl _ _ (((setRow_other _ _ _ _ (by omega)).trans (heap_alloc_old _ _ hlt)).trans hres) (by kernel_rfl) (by rfl) (by simp [Value.oneCell']) ?_))
    refine bodyPost_ret (results_cell_row rfl _ _ w.heap.size _ _ _ _ rfl (setRow_heap _ _ _ _ _ _ (((setRow_other _ _ _ _ (by omega)).trans (heap_alloc_old _ _ hlt)).trans hres)) Try.underlying28 rfl (by kernel_rfl)) rfl ?_
    rw [HF.out]
    refine ret_code (n := 16) (B := w.heap.size + 1) _ (below_setRow (hb3.alloc hlt _) hlt _) (OwnI.of_form hlt (setRow_heap _ _ _ _ _ _ (heap_alloc_new _ _)) (Nat.le_refl _) (by simp [maxLen]) HSZ.out ?_ HLF.out) (by omega)
    have hs := HSZ.out
    rw [← HCS.out, List.toList_toArray, List.take_of_length_le (by simp at hs; omega)]
  · have HF := Lib.hid (show frameWords xs f = (frameFault xs f, []) by simp [frameWords, h0])
    have h1 : (frameFault xs f != 0) = true := by simpa [bne_iff_ne] using h0
    clear h0
    go_enter Try.func25, Try.ntmps25
    go_wp2_with fail
    refine (frameFault_calls (ha.alloc _) hx).mono ?_
    rintro e w1 ⟨rfl, hb1⟩
    have hb2 := hb1.mono (B' := w.heap.size + 1) (by simp)
    have hres := res_at hb2
    go_wp2_with (refine wpList_store_row rfl 28 _ _ rfl w.heap.size _ rfl rfl _ _ hres (by kernel_rfl) (by rfl) (by simp [Value.oneCell']) ?_)
    refine bodyPost_ret (results_cell_row rfl _ _ w.heap.size _ _ _ _ rfl (setRow_heap w1 _ _ _ _ _ hres) Try.underlying28 rfl (by kernel_rfl)) rfl ?_
    rw [HF.out]
    exact ret_code _ hb2 (OwnI.nil _ (w.heap.size + 1)) (by omega)

theorem zeroFrame_calls {a : Option Addr} {n c : Nat} {xs : List Int} {f : Int} {w : World} (ha : Ints w a n xs) (hx : n ≤ 17592186044416) :
    Calls Try.prog 14 #[.slice a n c, .int .i64 f] w (RetsInts w (zeroFrame xs f)) := by
  have HL := Lib.hid ha.1
  by_cases h0 : frameFault xs f = 0
  · have hf := (frameFault_ok h0).2
    obtain ⟨m, rfl⟩ : ∃ m : Nat, f = m := ⟨f.toNat, by omega⟩
    have hf2 : (m + 1) * 16 ≤ n := by have := HL.out; omega
    have HF := Lib.hid (show zeroFrame xs m = (0, putFrame xs m (List.replicate 16 0)) by simp [zeroFrame, h0])
    have H0 := Lib.hid h0
    clear h0 hf
    go_enter Try.func14, Try.ntmps14
    go_wp2_with fail
    refine (frameFault_calls (ha.alloc _) hx).mono ?_
    rintro e w1 ⟨rfl, hb1⟩
    rw [H0.out]
    have ha1 := (ha.alloc _).below hb1
    go_wp2_with fail
    refine (withFrame_calls (page := List.replicate 16 0) ha1 hf2 (by simp) hx).mono ?_
    rintro e w2 ⟨v, rfl, hown, hb2⟩
    have hb3 : Below (w.heap.size + 1) (w.alloc (.cells #[.int .i64 0, .slice none 0 0] 28)) w2 := (hb1.mono (by simp)).trans (hb2.mono (by have := hb1.size; simp at this; omega))
    have hres := res_at hb3
    have hlt : w.heap.size < w1.heap.size := by have := hb1.size; simp at this; omega
    clear hb1 hb2 ha1
    obtain ⟨ao, cap, rfl, _, _, _⟩ := hown.shape
    have HOW := Lib.hid hown
    clear hown
    go_wp2_with (refine wpList_store_row rfl 28 _ _ rfl w.heap.size _ rfl rfl _ _ hres (by kernel_rfl) (by rfl) (by simp [Value.oneCell']) ?_)
    refine bodyPost_ret (results_cell_row rfl _ _ w.heap.size _ _ _ _ rfl (setRow_heap _ _ _ _ _ _ hres) Try.underlying28 rfl (by kernel_rfl)) rfl ?_
    rw [HF.out]
    exact ret_code _ hb3 HOW.out hlt
  · have HF := Lib.hid (show zeroFrame xs f = (frameFault xs f, []) by simp [zeroFrame, h0])
    have h1 : (frameFault xs f != 0) = true := by simpa [bne_iff_ne] using h0
    clear h0
    go_enter Try.func14, Try.ntmps14
    go_wp2_with fail
    refine (frameFault_calls (ha.alloc _) hx).mono ?_
    rintro e w1 ⟨rfl, hb1⟩
    have hb2 := hb1.mono (B' := w.heap.size + 1) (by simp)
    have hres := res_at hb2
    go_wp2_with (refine wpList_store_row rfl 28 _ _ rfl w.heap.size _ rfl rfl _ _ hres (by kernel_rfl) (by rfl) (by simp [Value.oneCell']) ?_)
    refine bodyPost_ret (results_cell_row rfl _ _ w.heap.size _ _ _ _ rfl (setRow_heap w1 _ _ _ _ _ hres) Try.underlying28 rfl (by kernel_rfl)) rfl ?_
    rw [HF.out]
    exact ret_code _ hb2 (OwnI.nil _ (w.heap.size + 1)) (by omega)

theorem writeFrame_calls {a pa : Option Addr} {n c pn pc : Nat} {xs page : List Int} {f : Int} {w : World} (ha : Ints w a n xs) (hp : Ints w pa pn page) (hx : n ≤ 17592186044416) (hpx : pn ≤ 17592186044416) :
    Calls Try.prog 12 #[.slice a n c, .int .i64 f, .slice pa pn pc] w (RetsInts w (writeFrame xs f page)) := by
  have HL := Lib.hid ha.1
  have HPL := Lib.hid hp.1
  by_cases h0 : frameFault xs f = 0
  · have hf := (frameFault_ok h0).2
    obtain ⟨m, rfl⟩ : ∃ m : Nat, f = m := ⟨f.toNat, by omega⟩
    have hf2 : (m + 1) * 16 ≤ n := by have := HL.out; omega
    by_cases h16 : pn = 16
    · rcases hW : within (-1000000000) 1000000000 page with _ | _
      · have HF := Lib.hid (show writeFrame xs m page = (3, []) by simp [writeFrame, h0, HPL.out, hW, h16])
        have h16' : ((pn : Int) != 16) = false := by simp; omega
        have H0 := Lib.hid h0
        clear h0 hf h16
        go_enter Try.func12, Try.ntmps12
        go_wp2_with fail
        refine (frameFault_calls (ha.alloc _) hx).mono ?_
        rintro e w1 ⟨rfl, hb1⟩
        rw [H0.out]
        have hp1 := (hp.alloc _).below hb1
        have hb2 := hb1.mono (B' := w.heap.size + 1) (by simp)
        have hres := res_at hb2
        go_wp2_with fail
        refine (areWords_calls hp1 hpx).mono ?_
        rintro e w' ⟨rfl, rfl⟩
        go_wp2_with (refine wpList_store_row rfl 28 _ _ rfl w.heap.size _ rfl rfl _ _ hres (by kernel_rfl) (by rfl) (by simp [Value.oneCell']) ?_)
        refine bodyPost_ret (results_cell_row rfl _ _ w.heap.size _ _ _ _ rfl (setRow_heap _ _ _ _ _ _ hres) Try.underlying28 rfl (by kernel_rfl)) rfl ?_
        rw [HF.out]
        exact ret_code _ hb2 (OwnI.nil _ (w.heap.size + 1)) (by omega)
      · subst h16
        obtain ⟨pb, po, rfl, hpb, hpcell⟩ := hp.2 (by omega)
        have HF := Lib.hid (show writeFrame xs m page = (0, putFrame xs m page) by simp [writeFrame, h0, HPL.out, hW])
        have H0 := Lib.hid h0
        have hsa := fun w => run_arrayAt Try.prog w 53 2 16 Try.underlying53 (some ⟨pb, po, none⟩) 16 pc (Nat.le_refl _)
        have HR : Hid (w.rangeAt pb po (page.map (Value.int .i64))) := by
          intro j v hv
          rw [List.getElem?_map] at hv
          have hj : j < 16 := by
            rcases Nat.lt_or_ge j 16 with h | h
            · exact h
            · rw [List.getElem?_eq_none (by rw [HPL.out]; exact h)] at hv; cases hv
          rw [hpcell j hj, ← hv]
          simp [List.getD, HPL.out.symm ▸ hj]
        clear h0 hf hpcell
        go_enter Try.func12, Try.ntmps12
        go_wp2_with fail
        refine (frameFault_calls (ha.alloc _) hx).mono ?_
        rintro e w1 ⟨rfl, hb1⟩
        rw [H0.out]
        have ha1 := (ha.alloc _).below hb1
        have hp1 := (hp.alloc _).below hb1
        go_wp2_with fail
        refine (areWords_calls hp1 hpx).mono ?_
        rintro e w' ⟨rfl, rfl⟩
        go_wp2_with (with_reducible refine wpList_load_mid rfl 53 _ rfl pb po rfl (page.map (Value.int .i64)) _ (rangeAt_below (World.rangeAt_alloc HR.out _) hb1) Try.underlying53 rfl (by rw [List.length_map, HPL.out]; kernel_rfl) ?_)
        refine (withFrame_calls ha1 hf2 HPL.out hx).mono ?_
        rintro e w2 ⟨v, rfl, hown, hb2⟩
        have hb3 : Below (w.heap.size + 1) (w.alloc (.cells #[.int .i64 0, .slice none 0 0] 28)) w2 := (hb1.mono (by simp)).trans (hb2.mono (by have := hb1.size; simp at this; omega))
        have hres := res_at hb3
        have hlt : w.heap.size < w1.heap.size := by have := hb1.size; simp at this; omega
        clear hb1 hb2 ha1
        obtain ⟨ao, cap, rfl, _, _, _⟩ := hown.shape
        have HOW := Lib.hid hown
        clear hown
        go_wp2_with (refine wpList_store_row rfl 28 _ _ rfl w.heap.size _ rfl rfl _ _ hres (by kernel_rfl) (by rfl) (by simp [Value.oneCell']) ?_)
        refine bodyPost_ret (results_cell_row rfl _ _ w.heap.size _ _ _ _ rfl (setRow_heap _ _ _ _ _ _ hres) Try.underlying28 rfl (by kernel_rfl)) rfl ?_
        rw [HF.out]
        exact ret_code _ hb3 HOW.out hlt
    · have HF := Lib.hid (show writeFrame xs m page = (2, []) by simp [writeFrame, h0, HPL.out, h16])
      have h16' : ((pn : Int) != 16) = true := by simp [bne_iff_ne]; omega
      have H0 := Lib.hid h0
      clear h0 hf h16
      go_enter Try.func12, Try.ntmps12
      go_wp2_with fail
      refine (frameFault_calls (ha.alloc _) hx).mono ?_
      rintro e w1 ⟨rfl, hb1⟩
      rw [H0.out]
      have hb2 := hb1.mono (B' := w.heap.size + 1) (by simp)
      have hres := res_at hb2
      go_wp2_with (refine wpList_store_row rfl 28 _ _ rfl w.heap.size _ rfl rfl _ _ hres (by kernel_rfl) (by rfl) (by simp [Value.oneCell']) ?_)
      refine bodyPost_ret (results_cell_row rfl _ _ w.heap.size _ _ _ _ rfl (setRow_heap _ _ _ _ _ _ hres) Try.underlying28 rfl (by kernel_rfl)) rfl ?_
      rw [HF.out]
      exact ret_code _ hb2 (OwnI.nil _ (w.heap.size + 1)) (by omega)
  · have HF := Lib.hid (show writeFrame xs f page = (frameFault xs f, []) by simp [writeFrame, h0])
    have h1 : (frameFault xs f != 0) = true := by simpa [bne_iff_ne] using h0
    clear h0
    go_enter Try.func12, Try.ntmps12
    go_wp2_with fail
    refine (frameFault_calls (ha.alloc _) hx).mono ?_
    rintro e w1 ⟨rfl, hb1⟩
    have hb2 := hb1.mono (B' := w.heap.size + 1) (by simp)
    have hres := res_at hb2
    go_wp2_with (refine wpList_store_row rfl 28 _ _ rfl w.heap.size _ rfl rfl _ _ hres (by kernel_rfl) (by rfl) (by simp [Value.oneCell']) ?_)
    refine bodyPost_ret (results_cell_row rfl _ _ w.heap.size _ _ _ _ rfl (setRow_heap w1 _ _ _ _ _ hres) Try.underlying28 rfl (by kernel_rfl)) rfl ?_
    rw [HF.out]
    exact ret_code _ hb2 (OwnI.nil _ (w.heap.size + 1)) (by omega)

theorem isZeroFrame_calls {a : Option Addr} {n c : Nat} {xs : List Int} {f : Int} {w : World} (ha : Ints w a n xs) (hc : n ≤ c) (hx : n ≤ 17592186044416) :
    Calls Try.prog 22 #[.slice a n c, .int .i64 f] w fun e w' => e = .returned (.bool (isZeroFrame xs f)) ∧ Below w.heap.size w w' := by
  have HL := Lib.hid ha.1
  obtain ⟨i0, hi, _, _, _⟩ := info_parts info64
  by_cases h0 : frameFault xs f = 0
  · have hf := (frameFault_ok h0).2
    obtain ⟨m, rfl⟩ : ∃ m : Nat, f = m := ⟨f.toNat, by omega⟩
    have hf2 : (m + 1) * 16 ≤ n := by have := HL.out; omega
    have HF := Lib.hid (show isZeroFrame xs m = decide (frameOf xs m = List.replicate 16 0) by simp [isZeroFrame, h0])
    have H0 := Lib.hid h0
    clear h0 hf
    go_enter Try.func22, Try.ntmps22
    go_wp2_with fail
    refine (frameFault_calls ha hx).mono ?_
    rintro e w1 ⟨rfl, hb1⟩
    rw [H0.out]
    have ha1 := ha.below hb1
    go_wp2_with fail
    refine (frameAt_calls ha1 hf2 hc hx).mono ?_
    rintro e w2 ⟨rfl, hb2⟩
    have heq := fun u : World => run_eql_ints (P := Try.prog) (t := 53) Try.underlying53 hi (by kernel_rfl) Try.underlying2 (by kernel_rfl) (frameOf xs m) (List.replicate 16 0) (length_frameOf (by rw [HL.out]; exact hf2)) rfl u
    have heq2 : ∀ u : World, (binOp .eql 53 (.agg (List.map (Value.int .i64) (frameOf xs m)).toArray) (.agg #[.int .i64 0, .int .i64 0, .int .i64 0, .int .i64 0, .int .i64 0, .int .i64 0, .int .i64 0, .int .i64 0, .int .i64 0, .int .i64 0, .int .i64 0, .int .i64 0, .int .i64 0, .int .i64 0, .int .i64 0, .int .i64 0])).run Try.prog u = .ok (.bool (decide (frameOf xs m = List.replicate 16 0))) u := heq
    clear heq
    have hb3 := hb1.trans (hb2.mono hb1.size)
    go_wp2_with fail
    go_ret
    exact ⟨ret_bool HF.out.symm, hb3⟩
  · have HF := Lib.hid (show isZeroFrame xs f = false by simp [isZeroFrame, h0])
    have h1 : (frameFault xs f == 0) = false := by simpa using h0
    clear h0
    go_enter Try.func22, Try.ntmps22
    go_wp2_with fail
    refine (frameFault_calls ha hx).mono ?_
    rintro e w1 ⟨rfl, hb1⟩
    go_wp2_with fail
    go_ret
    exact ⟨ret_bool HF.out.symm, hb1⟩
end Go.Proofs.Ytfhdcbahgddlhaa
