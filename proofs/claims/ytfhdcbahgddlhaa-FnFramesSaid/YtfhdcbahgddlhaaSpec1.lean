/- Chapter 1 as the model has it: the contract of each of its functions. -/
import Derived.Test.YtfhdcbahgddlhaaHelp
namespace Go.Proofs.Ytfhdcbahgddlhaa
open Go.RowKit

theorem l1In_calls {v lo hi : Int} {w : World} :
    Calls Try.prog 46 #[.int .i64 v, .int .i64 lo, .int .i64 hi] w fun e w' => e = .returned (.bool (within lo hi [v])) ∧ w = w' := by
  by_cases h1 : lo ≤ v
  · by_cases h2 : v ≤ hi
    · have HF := Lib.hid (show within lo hi [v] = true by rw [within_one]; simp; omega)
      go_enter Try.func46, Try.ntmps46
      go_wp2
      go_ret
      exact ⟨ret_bool HF.out.symm, rfl⟩
    · have HF := Lib.hid (show within lo hi [v] = false by rw [within_one]; simp; omega)
      go_enter Try.func46, Try.ntmps46
      go_wp2
      go_ret
      exact ⟨ret_bool HF.out.symm, rfl⟩
  · have HF := Lib.hid (show within lo hi [v] = false by rw [within_one]; simp; omega)
    go_enter Try.func46, Try.ntmps46
    go_wp2
    go_ret
    exact ⟨ret_bool HF.out.symm, rfl⟩

theorem l1Value_calls {v : Int} {w : World} :
    Calls Try.prog 43 #[.int .i64 v] w fun e w' => e = .returned (.bool (within (-1000000000) 1000000000 [v])) ∧ w = w' := by
  go_enter Try.func43, Try.ntmps43
  go_wp2_with (go_at_call 46; refine l1In_calls.mono ?_; rintro e w' ⟨rfl, rfl⟩)
  go_ret
  exact ⟨rfl, rfl⟩

set_option maxHeartbeats 400000 in
theorem sArenaFault_calls {a : Option Addr} {n c : Nat} {xs : List Int} {w : World} (ha : Ints w a n xs) (hx : n ≤ 17592186044416) :
    Calls Try.prog 21 #[.slice a n c] w fun e w' => e = .returned (.int .i64 (arenaFault xs)) ∧ w = w' := by
  have HL := Lib.hid ha.1
  by_cases h16 : (n : Int) % 16 = 0
  · by_cases hs : 16 ≤ n
    · by_cases ht : n ≤ 640
      · have HA := Lib.hid (show arenaFault xs = if within (-1000000000) 1000000000 xs = true then 0 else 3 by unfold arenaFault; rw [HL.out, if_neg (by omega)])
        go_enter Try.func21, Try.ntmps21
        go_wp2
        go_loop [4] (fun i => ∃ k : Nat, k ≤ n ∧ i = .int .i64 k ∧ Hid (within (-1000000000) 1000000000 (xs.take k) = true)) (fun i => n - (intOf i).toNat)
        case atStart => exact ⟨0, Nat.zero_le _, rfl, rfl⟩
        case round =>
          obtain ⟨k, hk, rfl, HW⟩ := hrel
          by_cases hlt : k < n
          · obtain ⟨ba, oa, rfl, hba, hca⟩ := ha.at_ hlt
            have hkx : k < xs.length := by rw [HL.out]; exact hlt
            rcases hV : within (-1000000000) 1000000000 [xs[k]] with _ | _
            · have HF := Lib.hid (show arenaFault xs = 3 by rw [HA.out, within_one_no hkx hV]; rfl)
              go_wp2_with (go_at_call 43; refine l1Value_calls.mono ?_; rintro e w' ⟨rfl, rfl⟩)
              go_ret
              exact ⟨ret_int HF.out.symm, rfl⟩
            · have HS := Lib.hid (within_one_snoc hkx hV HW.out)
              go_wp2_with (go_at_call 43; refine l1Value_calls.mono ?_; rintro e w' ⟨rfl, rfl⟩)
              go_round
              case rel => exact ⟨k + 1, by omega, by go_num, HS⟩
              case measure => simp [intOf]; omega
          · have HF := Lib.hid (show arenaFault xs = 0 by
              have := HW.out
              rw [List.take_of_length_le (by have := HL.out; omega)] at this
              rw [HA.out, if_pos this])
            go_wp2
            go_ret
            exact ⟨ret_int HF.out.symm, rfl⟩
      · have HF := Lib.hid (show arenaFault xs = 2 by unfold arenaFault; rw [HL.out]; exact if_pos (by omega))
        go_enter Try.func21, Try.ntmps21
        go_wp2
        go_ret
        exact ⟨ret_int HF.out.symm, rfl⟩
    · have HF := Lib.hid (show arenaFault xs = 2 by unfold arenaFault; rw [HL.out]; exact if_pos (by omega))
      go_enter Try.func21, Try.ntmps21
      go_wp2
      go_ret
      exact ⟨ret_int HF.out.symm, rfl⟩
  · have HF := Lib.hid (show arenaFault xs = 2 by unfold arenaFault; rw [HL.out]; exact if_pos (by omega))
    go_enter Try.func21, Try.ntmps21
    go_wp2
    go_ret
    exact ⟨ret_int HF.out.symm, rfl⟩

theorem l1Asked_calls {a : Option Addr} {n c : Nat} {xs : List Int} {f : Int} {w : World} (ha : Ints w a n xs) (hx : n ≤ 17592186044416) :
    Calls Try.prog 42 #[.slice a n c, .int .i64 f] w fun e w' => e = .returned (.int .i64 (frameFault xs f)) ∧ w = w' := by
  have HL := Lib.hid ha.1
  by_cases h0 : arenaFault xs = 0
  · have hb := arenaFault_ok h0
    rw [HL.out] at hb
    have HF : Hid (frameFault xs f = if within 0 ((n : Int) / 16 - 1) [f] = true then 0 else 3) := by unfold frameFault; rw [if_pos h0, HL.out]; rfl
    have H0 := Lib.hid h0
    clear h0
    rcases hW : within 0 ((n : Int) / 16 - 1) [f] with _ | _
    all_goals
      have HG := HF.out
      rw [hW] at HG
      simp at HG
      have HF2 := Lib.hid HG
      clear HF HG
      go_enter Try.func42, Try.ntmps42
      go_wp2_with fail
      refine (sArenaFault_calls ha hx).mono ?_
      rintro e w1 ⟨rfl, rfl⟩
      rw [H0.out]
      go_wp2_with (go_at_call 46; refine l1In_calls.mono ?_; rintro e w' ⟨rfl, rfl⟩)
      go_ret
      exact ⟨ret_int HF2.out.symm, rfl⟩
  · have HF : Hid (frameFault xs f = arenaFault xs) := by unfold frameFault; rw [if_neg h0]; rfl
    have h1 : (arenaFault xs != 0) = true := by simpa [bne_iff_ne] using h0
    clear h0
    go_enter Try.func42, Try.ntmps42
    go_wp2_with fail
    refine (sArenaFault_calls ha hx).mono ?_
    rintro e w1 ⟨rfl, rfl⟩
    go_wp2_with fail
    go_ret
    exact ⟨ret_int HF.out.symm, rfl⟩

theorem l1Ints_calls {a : Option Addr} {n c : Nat} {xs : List Int} {w : World} (ha : Ints w a n xs) (h0 : 0 < n) (hx : n ≤ 17592186044416) :
    Calls Try.prog 44 #[.slice a n c] w (Makes w n xs) := by
  obtain ⟨i0, hi, hz0, hz1, hz2⟩ := info_parts info64
  obtain ⟨b, off, rfl, hb, hcell⟩ := ha.2 h0
  have HL := Lib.hid ha.1
  have HC := Lib.hid hcell
  clear hcell
  have hlen : (xs.map (Value.int .i64)).length = n * 1 := by rw [List.length_map, HL.out]; omega
  have hnews : ∀ (o : Obj) j u, (xs.map (Value.int .i64))[j]? = some u → (w.alloc o).cell? ((⟨b, off, none⟩ : Addr).add j) = some u := by
    intro o j u hu
    rw [Addr.add_mid]
    have hj : j < n := by
      rcases Nat.lt_or_ge j n with h | h
      · exact h
      · rw [List.getElem?_eq_none (by rw [hlen]; omega)] at hu; cases hu
    rw [World.cell?_alloc_lt _ _ _ (by exact hb), HC.out j hj, ← hu]
    simp [List.getD, HL.out.symm ▸ hj]
  have hone := ints_oneCell .i64 xs
  have HN := Lib.hid hnews
  have HLen := Lib.hid hlen
  have HO := Lib.hid hone
  clear hnews hlen hone
  go_enter Try.func44, Try.ntmps44
  go_wp2_with (at_builtin; go_must (refine wpList_append_own _ rfl _ _ 24 rfl w.heap.size 2 i0 (.int .i64 0) 1 8 Try.underlying24 hi hz0 hz1 hz2 rfl (by decide) (.slice (some ⟨w.heap.size, 0, none⟩) 0 0) 0 [] rfl (World.ownsRow_made w #[] 0 (Nat.le_refl _) (Nat.zero_le _) rfl) ⟨b, off, none⟩ n c (xs.map (Value.int .i64)) rfl HLen.out (HN.out _) HO.out (by unfold maxLen; omega) (by omega) (by simp) ?_))
  intro v' w1 hown hg hnn
  have hb1 : Below w.heap.size w w1 := ((Below.refl _ _).alloc (Nat.le_refl _) _).grown hg (by simp) (by intro k hk; simp [Value.ownBlock] at hk; omega)
  have H1 : Hid (OwnI w1 w.heap.size v' n xs) := ⟨_, hown⟩
  clear hg hown hnn
  go_wp2
  go_ret
  exact ⟨_, rfl, H1.out, hb1⟩

theorem Ints.frame {w : World} {b off n f : Nat} {xs : List Int} (h : Ints w (some ⟨b, off, none⟩) n xs) (hf : (f + 1) * 16 ≤ n) : Ints w (some ⟨b, off + f * 16, none⟩) 16 (frameOf xs f) := by
  refine ⟨length_frameOf (by rw [h.1]; exact hf), fun _ => ?_⟩
  obtain ⟨b', off', he, hb, hc⟩ := h.2 (by omega)
  simp only [Option.some.injEq, Addr.mk.injEq, and_true] at he
  obtain ⟨rfl, rfl⟩ := he
  exact ⟨b, off + f * 16, rfl, hb, fun j hj => by rw [Nat.add_assoc, hc (f * 16 + j) (by omega), getD_frameOf hj]⟩

theorem l1Frame_calls {a : Option Addr} {n c f : Nat} {xs : List Int} {w : World} (ha : Ints w a n xs) (hf : (f + 1) * 16 ≤ n) (hc : n ≤ c) (hx : n ≤ 17592186044416) :
    Calls Try.prog 50 #[.slice a n c, .int .i64 f] w (Makes w 16 (frameOf xs f)) := by
  obtain ⟨b, off, rfl, hb, hcell⟩ := ha.2 (by omega)
  have hfr := Lib.hid (ha.frame hf)
  clear hcell
  go_enter Try.func50, Try.ntmps50
  go_wp2_with fail
  rw [show (f + 1) * 16 - f * 16 = 16 by omega]
  refine (l1Ints_calls hfr.out (by omega) (by omega)).mono ?_
  rintro e w1 ⟨v, rfl, hown, hb1⟩
  have HOW := Lib.hid hown
  clear hown
  go_wp2_with fail
  go_ret
  exact ⟨_, rfl, HOW.out, hb1⟩

set_option maxHeartbeats 400000 in
theorem l1Write_calls {B g cap n f pb po pc : Nat} {xs page : List Int} {w : World} (ho : OwnI w B (.slice (some ⟨g, 0, none⟩) n cap) n xs) (hf : (f + 1) * 16 ≤ n) (hp : Ints w (some ⟨pb, po, none⟩) 16 page) (hne : pb ≠ g) (hx : n ≤ 17592186044416) :
    Calls Try.prog 45 #[.slice (some ⟨g, 0, none⟩) n cap, .int .i64 f, .slice (some ⟨pb, po, none⟩) 16 pc] w fun e w' =>
      e = .returned (.tuple #[]) ∧ OwnI w' B (.slice (some ⟨g, 0, none⟩) n cap) n (putFrame xs f page) ∧ w.grownBy w' (some g) := by
  have HL : Hid (xs.length = n) := by obtain ⟨_, h, _⟩ := ho; simpa [Hid] using h
  have HPL := Lib.hid hp.1
  go_enter Try.func45, Try.ntmps45
  go_wp2
  go_loopw [6] (fun i wr => ∃ k : Nat, k ≤ 16 ∧ i = .int .i64 k ∧ OwnI wr B (.slice (some ⟨g, 0, none⟩) n cap) n (splice xs (f * 16) (page.take k)) ∧ w.grownBy wr (some g)) (fun i _ => 16 - (intOf i).toNat)
  case atStart => exact ⟨0, by omega, rfl, by rw [List.take_zero, splice_nil]; exact ho, World.grownBy.refl _ _⟩
  case round =>
    obtain ⟨k, hk, rfl, HOr, hgr⟩ := hrel
    by_cases hlt : k < 16
    · obtain ⟨pb', po', he, hpb, hpc⟩ := hp.at_ hlt
      simp only [Option.some.injEq, Addr.mk.injEq, and_true] at he
      obtain ⟨rfl, rfl⟩ := he
      have hkp : k < page.length := by rw [HPL.out]; exact hlt
      have hpc2 := hgr.cell hpc (by simpa using hne)
      obtain ⟨hcl, hfr⟩ := HOr.cell (j := f * 16 + k) (by omega)
      have hst := HOr.stored (f * 16 + k) page[k]
      rw [splice_step xs page (f * 16) k hkp (by rw [HL.out, HPL.out]; omega)] at hst
      have HST := Lib.hid hst
      have HG := Lib.hid hgr
      clear hst hgr hpc HOr
      go_wp2
      go_roundw
      case rel => exact ⟨k + 1, by omega, by go_num, HST.out.1, grown_trans HG.out HST.out.2⟩
      case measure => simp [intOf]; omega
    · obtain rfl : k = 16 := by omega
      have HF : Hid (OwnI wr B (.slice (some ⟨g, 0, none⟩) n cap) n (putFrame xs f page)) := by
        have := HOr
        rw [List.take_of_length_le (by rw [HPL.out]; omega)] at this
        exact this
      have HG := Lib.hid hgr
      clear HOr hgr
      go_wp2
      go_end0
      exact ⟨rfl, HF.out, HG.out⟩

theorem l1Zero_calls {a : Option Addr} {n c : Nat} {xs : List Int} {w : World} (ha : Ints w a n xs) (hx : n ≤ 17592186044416) :
    Calls Try.prog 49 #[.slice a n c] w fun e w' => e = .returned (.bool (decide (xs = List.replicate n 0))) ∧ w = w' := by
  have HL := Lib.hid ha.1
  go_enter Try.func49, Try.ntmps49
  go_wp2
  go_loop [3] (fun i => ∃ k : Nat, k ≤ n ∧ i = .int .i64 k ∧ Hid (xs.take k = List.replicate k 0)) (fun i => n - (intOf i).toNat)
  case atStart => exact ⟨0, Nat.zero_le _, rfl, rfl⟩
  case round =>
    obtain ⟨k, hk, rfl, HW⟩ := hrel
    by_cases hlt : k < n
    · obtain ⟨ba, oa, rfl, hba, hca⟩ := ha.at_ hlt
      have hkx : k < xs.length := by rw [HL.out]; exact hlt
      by_cases hz : xs[k] = 0
      · have hz' : (xs[k] != 0) = false := by simp [hz]
        have HS : Hid (xs.take (k + 1) = List.replicate (k + 1) 0) := by
          show _ = _
          rw [List.take_succ_eq_append_getElem hkx, HW.out, hz, List.replicate_succ']
        clear hz
        go_wp2
        go_round
        case rel => exact ⟨k + 1, by omega, by go_num, HS⟩
        case measure => simp [intOf]; omega
      · have hz' : (xs[k] != 0) = true := by simpa [bne_iff_ne] using hz
        have HF := Lib.hid (show decide (xs = List.replicate n 0) = false by
          simp only [decide_eq_false_iff_not]
          intro h
          apply hz
          have : xs[k]? = some 0 := by rw [h, List.getElem?_replicate, if_pos hlt]
          rw [List.getElem?_eq_getElem hkx] at this
          simpa using this)
        clear hz
        go_wp2
        go_ret
        exact ⟨ret_bool HF.out.symm, rfl⟩
    · have HF := Lib.hid (show decide (xs = List.replicate n 0) = true by
        have := HW.out
        rw [List.take_of_length_le (by have := HL.out; omega), show k = n by omega] at this
        simpa using this)
      go_wp2
      go_ret
      exact ⟨ret_bool HF.out.symm, rfl⟩

theorem sIsZeroFrame_calls {a : Option Addr} {n c : Nat} {xs : List Int} {f : Int} {w : World} (ha : Ints w a n xs) (hc : n ≤ c) (hx : n ≤ 17592186044416) :
    Calls Try.prog 23 #[.slice a n c, .int .i64 f] w fun e w' => e = .returned (.bool (isZeroFrame xs f)) ∧ Below w.heap.size w w' := by
  have HL := Lib.hid ha.1
  by_cases h0 : frameFault xs f = 0
  · have hf := (frameFault_ok h0).2
    obtain ⟨m, rfl⟩ : ∃ m : Nat, f = m := ⟨f.toNat, by omega⟩
    have hf2 : (m + 1) * 16 ≤ n := by have := HL.out; omega
    have HF := Lib.hid (show isZeroFrame xs m = decide (frameOf xs m = List.replicate 16 0) by simp [isZeroFrame, h0])
    have H0 := Lib.hid h0
    clear h0 hf
    go_enter Try.func23, Try.ntmps23
    go_wp2_with fail
    refine (l1Asked_calls ha hx).mono ?_
    rintro e w1 ⟨rfl, rfl⟩
    rw [H0.out]
    go_wp2_with fail
    refine (l1Frame_calls ha hf2 hc hx).mono ?_
    rintro e w2 ⟨v, rfl, hown, hb2⟩
    obtain ⟨ao, cap, rfl, _, _, hin⟩ := hown.shape
    have HOW := Lib.hid hown
    clear hown
    go_wp2_with fail
    refine (l1Zero_calls hin (by omega)).mono ?_
    rintro e w3 ⟨rfl, rfl⟩
    go_wp2_with fail
    go_ret
    exact ⟨ret_bool HF.out.symm, hb2⟩
  · have HF := Lib.hid (show isZeroFrame xs f = false by simp [isZeroFrame, h0])
    have h1 : (frameFault xs f == 0) = false := by simpa using h0
    clear h0
    go_enter Try.func23, Try.ntmps23
    go_wp2_with fail
    refine (l1Asked_calls ha hx).mono ?_
    rintro e w1 ⟨rfl, rfl⟩
    go_wp2_with fail
    go_ret
    exact ⟨ret_bool HF.out.symm, Below.refl _ _⟩
end Go.Proofs.Ytfhdcbahgddlhaa
