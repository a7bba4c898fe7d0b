/- Chapter 1 as the program has it: the contract of each of its functions. -/
import Derived.Test.YtfhdcbahgddlhaaHelp
namespace Go.Proofs.Ytfhdcbahgddlhaa
open Go.RowKit

set_option maxHeartbeats 400000 in
theorem allWithin_calls {lo hi : Int} {a : Option Addr} {n c : Nat} {xs : List Int} {w : World} (ha : Ints w a n xs) (hx : n ≤ 17592186044416) :
    Calls Try.prog 41 #[.int .i64 lo, .int .i64 hi, .slice a n c] w fun e w' => e = .returned (.bool (within lo hi xs)) ∧ w = w' := by
  have HL := Lib.hid ha.1
  go_enter Try.func41, Try.ntmps41
  go_wp2
  go_loop [11] (fun i => ∃ k : Nat, k ≤ n ∧ i = .int .i64 k ∧ Hid (within lo hi (xs.take k) = true)) (fun i => n - (intOf i).toNat)
  case atStart => exact ⟨0, Nat.zero_le _, rfl, rfl⟩
  case round =>
    obtain ⟨k, hk, rfl, HW⟩ := hrel
    by_cases hlt : k < n
    · obtain ⟨ba, oa, rfl, hba, hca⟩ := ha.at_ hlt
      have hkx : k < xs.length := by rw [HL.out]; exact hlt
      go_wp2
      · go_ret
        exact ⟨ret_bool (within_no hkx (by assumption)).symm, rfl⟩
      · have h2 : lo ≤ xs[k] ∧ xs[k] ≤ hi := by assumption
        have HS := within_snoc hkx h2.1 h2.2 HW.out
        go_round
        case rel => exact ⟨k + 1, by omega, by go_num, HS⟩
        case measure => simp [intOf]; omega
      · go_ret
        exact ⟨ret_bool (within_no hkx (.inl (by assumption))).symm, rfl⟩
    · have HH : Hid (within lo hi xs = true) := by have := HW.out; rwa [List.take_of_length_le (by have := HL.out; omega)] at this
      go_wp2
      go_ret
      exact ⟨ret_bool HH.out.symm, rfl⟩

theorem areWords_calls {a : Option Addr} {n c : Nat} {xs : List Int} {w : World} (ha : Ints w a n xs) (hx : n ≤ 17592186044416) :
    Calls Try.prog 38 #[.slice a n c] w fun e w' => e = .returned (.bool (within (-1000000000) 1000000000 xs)) ∧ w = w' := by
  have HL := Lib.hid ha.1
  go_enter Try.func38, Try.ntmps38
  go_wp2_with (go_at_call 41; refine (allWithin_calls ha hx).mono ?_; rintro e w' ⟨rfl, rfl⟩)
  go_ret
  exact ⟨rfl, rfl⟩

set_option maxHeartbeats 400000 in
theorem arenaFault_calls {a : Option Addr} {n c : Nat} {xs : List Int} {w : World} (ha : Ints w a n xs) (hx : n ≤ 17592186044416) :
    Calls Try.prog 20 #[.slice a n c] w fun e w' => e = .returned (.int .i64 (arenaFault xs)) ∧ Below w.heap.size w w' := by
  have HL := Lib.hid ha.1
  have HL := Lib.hid ha.1
  by_cases h16 : (n : Int) % 16 = 0
  · by_cases hs : 16 ≤ n ∧ n ≤ 640
    · have hB : within 1 40 [(n : Int) / 16] = true := by simp [within]; omega
      obtain ⟨r, HF⟩ : ∃ r : Int, Hid (arenaFault xs = r) := ⟨_, rfl⟩
      rcases hW : within (-1000000000) 1000000000 xs with _ | _
      all_goals
        have HG := HF.out
        unfold arenaFault at HG
        rw [HL.out, if_neg (by omega), hW] at HG
        simp at HG
        subst HG
        go_enter Try.func20, Try.ntmps20
        go_wp2_with (first
          | (go_at_call 41; refine (allWithin_calls (Ints.one (by simp)) (by omega)).mono ?_; rintro e w' ⟨rfl, rfl⟩)
          | (go_at_call 38; go_must (refine (areWords_calls (ha.below (Below.alloc (Below.refl _ _) (Nat.le_refl _) _)) hx).mono ?_); rintro e w' ⟨rfl, rfl⟩)
          | go_in)
        go_ret
        exact ⟨ret_int HF.out.symm, Below.alloc (Below.refl _ _) (Nat.le_refl _) _⟩
    · have hB : within 1 40 [(n : Int) / 16] = false := by simp [within]; omega
      have HF : Hid (arenaFault xs = 2) := by unfold arenaFault; rw [HL.out]; exact if_pos (by omega)
      go_enter Try.func20, Try.ntmps20
      go_wp2_with (first
        | (go_at_call 41; refine (allWithin_calls (Ints.one (by simp)) (by omega)).mono ?_; rintro e w' ⟨rfl, rfl⟩)
        | go_in)
      go_ret
      exact ⟨ret_int HF.out.symm, Below.alloc (Below.refl _ _) (Nat.le_refl _) _⟩
  · have HF : Hid (arenaFault xs = 2) := by unfold arenaFault; rw [HL.out]; exact if_pos (by omega)
    go_enter Try.func20, Try.ntmps20
    go_wp2_with fail
    go_ret
    exact ⟨ret_int HF.out.symm, Below.refl _ _⟩

/-- 'frameFault': what the arena has, or that there is no such frame. -/
theorem frameFault_calls {a : Option Addr} {n c : Nat} {xs : List Int} {f : Int} {w : World} (ha : Ints w a n xs) (hx : n ≤ 17592186044416) :
    Calls Try.prog 37 #[.slice a n c, .int .i64 f] w fun e w' => e = .returned (.int .i64 (frameFault xs f)) ∧ Below w.heap.size w w' := by
  have HL := Lib.hid ha.1
  by_cases h0 : arenaFault xs = 0
  · have hb := arenaFault_ok h0
    rw [HL.out] at hb
    have HF : Hid (frameFault xs f = if within 0 ((n : Int) / 16 - 1) [f] = true then 0 else 3) := by unfold frameFault; rw [if_pos h0, HL.out]; rfl
    have H0 := Lib.hid h0
    clear h0
    rcases hW : within 0 ((n : Int) / 16 - 1) [f] with _ | _
    all_goals
      have HG := HF.out
      rw [hW] at HG
      simp at HG
      have HF2 := Lib.hid HG
      clear HF HG
      go_enter Try.func37, Try.ntmps37
      go_wp2_with fail
      refine (arenaFault_calls ha hx).mono ?_
      rintro e w1 ⟨rfl, hb1⟩
      rw [H0.out]
      go_wp2_with (first
        | (go_at_call 41; go_must (refine (allWithin_calls (Ints.one (by simp)) (by omega)).mono ?_); rintro e w' ⟨rfl, rfl⟩)
        | go_in)
      go_ret
      exact ⟨ret_int HF2.out.symm, hb1.alloc hb1.size _⟩
  · have HF : Hid (frameFault xs f = arenaFault xs) := by unfold frameFault; rw [if_neg h0]; rfl
    have h1 : (arenaFault xs != 0) = true := by simpa [bne_iff_ne] using h0
    clear h0
    go_enter Try.func37, Try.ntmps37
    go_wp2_with fail
    refine (arenaFault_calls ha hx).mono ?_
    rintro e w1 ⟨rfl, hb1⟩
    go_wp2_with fail
    go_ret
    exact ⟨ret_int HF.out.symm, hb1⟩
end Go.Proofs.Ytfhdcbahgddlhaa
