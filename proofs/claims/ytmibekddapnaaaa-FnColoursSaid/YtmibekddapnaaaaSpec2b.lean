/- Chapter 2 as the model has it, the second part. -/
import Derived.Test.YtmibekddapnaaaaSpec2
namespace Go.Proofs.Ytmibekddapnaaaa
open Go.RowKit

set_option maxHeartbeats 1000000 in
theorem sColourOf_calls {ao : Option Addr} {n cc : Nat} {F C f : Int} {ts : List (List Int × Int)} {w : World} (hT : Tens w ao n ts) (hS : Short 17592186044416 ts) (hcc : n ≤ cc) (hn : n ≤ 17592186044416) :
    Calls Try.prog 18 #[.agg #[.int .i64 F, .int .i64 C, .slice ao n cc], .int .i64 f] w (Pair w (colourOf F C ts f)) := by
  by_cases h0 : configFault F C ts = 0
  rotate_left
  · have HF := Lib.hid (show colourOf F C ts f = (configFault F C ts, 0) by unfold colourOf; rw [if_neg h0])
    have h1 : (configFault F C ts != 0) = true := by simpa [bne_iff_ne] using h0
    clear h0
    go_enter Try.func18, Try.ntmps18
    go_wp2_with fail
    refine (sConfigFault_calls ((hT.alloc _).alloc _) hS hcc hn).mono ?_
    rintro e w1 ⟨rfl, hb1⟩
    obtain ⟨hc, hres, hb, hs⟩ := two_new hb1
    clear hb1
    go_wp2_with (refine wpList_store_row rfl 34 _ _ rfl (w.heap.size + 1) _ rfl rfl _ _ hres (by kernel_rfl) (by rfl) (by simp [Value.oneCell']) ?_)
    refine bodyPost_ret (results_cell_row rfl _ _ (w.heap.size + 1) _ _ _ _ rfl (setRow_heap w1 _ _ _ _ _ hres) Try.underlying34 rfl (by kernel_rfl)) rfl ?_
    exact pair_done hb (by omega) _ HF.out
  have hcf := configFault_ok h0
  have HA := Lib.hid (show colourOf F C ts f = (if within 0 (F - 1) [f] = true then (0, f % C) else (3, 0)) by unfold colourOf; rw [if_pos h0])
  have H0 := Lib.hid h0
  clear h0
  rcases hW : within 0 (F - 1) [f] with _ | _
  · have HF := Lib.hid (show colourOf F C ts f = (3, 0) by rw [HA.out, hW]; rfl)
    go_enter Try.func18, Try.ntmps18
    go_wp2_with fail
    refine (sConfigFault_calls ((hT.alloc _).alloc _) hS hcc hn).mono ?_
    rintro e w1 ⟨rfl, hb1⟩
    rw [H0.out]
    obtain ⟨hc, hres, hb, hs⟩ := two_new hb1
    obtain ⟨c0, c1, c2, c3⟩ := CfgAt.cells hc
    clear hb1
    go_wp2_with (first
      | (go_at_call 43; refine l1In_calls.mono ?_; rintro e w' ⟨rfl, rfl⟩)
      | (refine wpList_store_row rfl 34 _ _ rfl (w.heap.size + 1) _ rfl rfl _ _ hres (by kernel_rfl) (by rfl) (by simp [Value.oneCell']) ?_))
    refine bodyPost_ret (results_cell_row rfl _ _ (w.heap.size + 1) _ _ _ _ rfl (setRow_heap _ _ _ _ _ _ hres) Try.underlying34 rfl (by kernel_rfl)) rfl ?_
    exact pair_done hb (by omega) _ HF.out
  · have HF := Lib.hid (show colourOf F C ts f = (0, f % C) by rw [HA.out, hW]; rfl)
    have hf : 0 ≤ f ∧ f ≤ F - 1 := by rw [within_one] at hW; simpa using hW
    go_enter Try.func18, Try.ntmps18
    go_wp2_with fail
    refine (sConfigFault_calls ((hT.alloc _).alloc _) hS hcc hn).mono ?_
    rintro e w1 ⟨rfl, hb1⟩
    rw [H0.out]
    obtain ⟨hc, hres, hb, hs⟩ := two_new hb1
    obtain ⟨c0, c1, c2, c3⟩ := CfgAt.cells hc
    clear hb1
    go_wp2_with (first
      | (go_at_call 43; refine l1In_calls.mono ?_; rintro e w' ⟨rfl, rfl⟩)
      | (refine wpList_store_row rfl 34 _ _ rfl (w.heap.size + 1) _ rfl rfl _ _ hres (by kernel_rfl) (by rfl) (by simp [Value.oneCell']) ?_))
    refine bodyPost_ret (results_cell_row rfl _ _ (w.heap.size + 1) _ _ _ _ rfl (setRow_heap _ _ _ _ _ _ hres) Try.underlying34 rfl (by kernel_rfl)) rfl ?_
    exact pair_done hb (by omega) _ HF.out

theorem l2There_calls {p n cc : Nat} {ao : Option Addr} {F C t : Int} {w : World} (hc : CfgAt w p F C ao n cc) (hn : n ≤ 17592186044416) :
    Calls Try.prog 40 #[.pointer (some ⟨p, 0, none⟩), .int .i64 t] w fun e w' => e = .returned (.bool (within 0 ((n : Int) - 1) [t])) ∧ w = w' := by
  obtain ⟨c0, c1, c2, c3⟩ := hc.cells
  go_enter Try.func40, Try.ntmps40
  go_wp2_with (go_at_call 43; refine l1In_calls.mono ?_; rintro e w' ⟨rfl, rfl⟩)
  go_ret
  exact ⟨rfl, rfl⟩

set_option maxHeartbeats 1000000 in
theorem l2Frames_calls {p n cc k m : Nat} {ao : Option Addr} {C : Int} {ts : List (List Int × Int)} {w : World} (hc : CfgAt w p (m : Int) C ao n cc) (hT : Tens w ao n ts) (hS : Short 17592186044416 ts) (hcc : n ≤ cc) (hn : n ≤ 17592186044416) (hk : k < n) (hm : m ≤ 40) (hC0 : 1 ≤ C) (hC1 : C ≤ 8) :
    Calls Try.prog 41 #[.pointer (some ⟨p, 0, none⟩), .int .i64 (k : Int)] w (Makes w (framesTo C (tenAt ts k) m).length (framesTo C (tenAt ts k) m)) := by
  obtain ⟨c0, c1, c2, c3⟩ := hc.cells
  obtain ⟨b, off, rfl, hb, hten⟩ := hT.2 (by omega)
  have hK := hten k hk
  have HS := Lib.hid (hS.at_ k)
  go_enter Try.func41, Try.ntmps41
  go_wp2
  go_loopw [5, 6] (fun v i wr => ∃ j : Nat, j ≤ m ∧ i = .int .i64 j ∧ OwnE wr w.heap.size v (framesTo C (tenAt ts k) j).length (framesTo C (tenAt ts k) j) ∧ Below w.heap.size w wr) (fun _ i _ => m - (intOf i).toNat)
  case atStart => exact ⟨0, Nat.zero_le _, rfl, OwnE.made (Nat.le_refl _) rfl, (Below.refl _ _).alloc (Nat.le_refl _) _⟩
  case round =>
    rename_i v _
    obtain ⟨j, hj, rfl, HO, hbw⟩ := hrel
    have c1 := (hbw.cell (p := ⟨p, 0, none⟩) c0).trans c1
    have c2 := (hbw.cell (p := ⟨p, 1, none⟩) c0).trans c2
    have c3 := (hbw.cell (p := ⟨p, 2, none⟩) c0).trans c3
    have hp := Nat.lt_of_lt_of_le c0 hbw.size
    by_cases hlt : j < m
    · have hlt' : (j : Int) < (m : Int) := by omega
      obtain ⟨d0, a, l, c, hlc, e0, _, hI⟩ := hK.below hbw
      have hl : l ≤ 17592186044416 := by have := HS.out; have := hI.1; omega
      have hq : Int.tmod (j : Int) C = (j : Int) % C := Int.tmod_eq_emod_of_nonneg (by omega)
      rcases hV : hasIn (tenAt ts k).1 ((j : Int) % C) with _ | _
      · have HE := Lib.hid (framesTo_no (C := C) (t := tenAt ts k) (n := j) hV)
        have hO1 := HE.out.symm ▸ HO
        have F := Lib.hid hO1
        clear hO1
        go_wp2_with (go_quiet ((go_at_call 42; exact quiet_left (l1Has_calls hI hl))))
        any_goals (first | (exact absurd ((‹hasIn (tenAt ts k).1 ((j : Int) % C) = true›).symm.trans hV) (by decide)) | skip)
        go_roundw
        case rel => exact ⟨j + 1, by omega, by go_num, F.out, below_drewN hbw _⟩
        case measure => simp [intOf]; omega
      · have HE := Lib.hid (framesTo_yes (C := C) (t := tenAt ts k) (n := j) hV)
        have hL := length_framesTo C (tenAt ts k) j
        go_wp2_with (first
          | (at_builtin; go_must (refine wpList_append_one rfl _ _ rfl rfl (HO.below ((below_drewN (Below.refl _ _) _).alloc (Nat.le_refl _) _)) rfl (u := (j : Int)) (cell_one rfl) (by omega) ((below_drewN hbw _).alloc hbw.size _).size ?_); intro v' w2 hO2 hB2 hg2)
          | (go_quiet ((go_at_call 42; exact quiet_left (l1Has_calls hI hl)))))
        any_goals (first | (exact absurd (hV.symm.trans (‹hasIn (tenAt ts k).1 ((j : Int) % C) = false›)) (by decide)) | skip)
        have F : Hid (OwnE w2 w.heap.size v' (framesTo C (tenAt ts k) (j + 1)).length (framesTo C (tenAt ts k) (j + 1)) ∧ Below w.heap.size w w2) := by
          refine ⟨?_, hB2 w ((below_drewN hbw _).alloc hbw.size _)⟩
          rw [HE.out, List.length_append]; exact hO2
        clear hO2 hB2 hg2
        go_wp2
        go_roundw
        case rel => exact ⟨j + 1, by omega, by go_num, F.out.1, F.out.2⟩
        case measure => simp [intOf]; omega
    · obtain rfl : j = m := by omega
      have HF := Lib.hid (And.intro HO.own hbw)
      clear HO hbw
      go_wp2
      go_ret
      exact ⟨_, rfl, HF.out.1, HF.out.2⟩
end Go.Proofs.Ytmibekddapnaaaa
