/- Chapter 4 of the model: its exported functions that answer a code and a number. -/
import Derived.Test.YtkikjoalhohlgaaSpec4f
import Derived.Test.YtkikjoalhohlgaaSpec4e
import Derived.Test.YtkikjoalhohlgaaWhole4
namespace Go.Proofs.Ytkikjoalhohlgaa
open Go.RowKit

theorem findRun_eq (ps : List Pg) (m : Int) (hv : pagesFault ps = 0) (h : within 1 4 [m] = true) : findRun ps m = if runAt m.toNat ps < 0 then (7, 0) else (0, runAt m.toNat ps) := by
  unfold findRun runAt
  rw [if_pos hv, if_pos h]
  cases hr : runFrom m.toNat 0 ps with
  | none => simp
  | some i => simp only; rw [if_neg (by omega)]

set_option maxHeartbeats 400000 in
theorem sUsedIn_calls {ao : Option Addr} {n cc : Nat} {ps : List Pg} {S : Nat → Prop} {w : World} (hT : Lst KPage w S ao n ps) (hS : ShortP 17592186044416 ps) (hn : n ≤ 17592186044416) :
    Calls Try.prog 45 #[.slice ao n cc] w (Pair w (usedInR ps)) := by
  by_cases hv : pagesFault ps = 0
  · have HV := Lib.hid hv
    have HR := Lib.hid (show usedInR ps = (0, (usedIn ps : Int)) by unfold usedInR; rw [if_pos hv])
    clear hv
    go_enter Try.func45, Try.ntmps45
    go_wp2_with fail
    refine (sPagesFault_calls (hT.alloc _) hS hn).mono ?_
    rintro e w1 ⟨rfl, hb1⟩
    rw [HV.out]
    have hres := Row.new hb1
    have hb := below_past hb1
    go_wp2_with fail
    refine (l4Used_calls ((hT.alloc _).below hb1) hn).mono ?_
    rintro e w2 ⟨rfl, rfl⟩
    go_wp2_with (refine wpList_store_row rfl 38 _ _ rfl (w.heap.size) _ rfl rfl _ _ hres (by kernel_rfl) (by rfl) (by simp [Value.oneCell']) ?_)
    refine bodyPost_ret (results_cell_row rfl _ _ (w.heap.size) _ _ _ _ rfl (setRow_heap _ _ _ _ _ _ hres) Try.underlying38 rfl (by kernel_rfl)) rfl ?_
    exact pair_done hb (Nat.le_refl _) _ HR.out

  · have HR := Lib.hid (show usedInR ps = (pagesFault ps, 0) by unfold usedInR; rw [if_neg hv])
    have hq : (pagesFault ps != 0) = true := by simpa using hv
    clear hv
    go_enter Try.func45, Try.ntmps45
    go_wp2_with fail
    refine (sPagesFault_calls (hT.alloc _) hS hn).mono ?_
    rintro e w1 ⟨rfl, hb1⟩
    have hres := Row.new hb1
    have hb := below_past hb1
    go_wp2_with (refine wpList_store_row rfl 38 _ _ rfl (w.heap.size) _ rfl rfl _ _ hres (by kernel_rfl) (by rfl) (by simp [Value.oneCell']) ?_)
    refine bodyPost_ret (results_cell_row rfl _ _ (w.heap.size) _ _ _ _ rfl (setRow_heap _ _ _ _ _ _ hres) Try.underlying38 rfl (by kernel_rfl)) rfl ?_
    exact pair_done hb (Nat.le_refl _) _ HR.out

set_option maxHeartbeats 400000 in
theorem sFindRun_calls {m : Int} {ao : Option Addr} {n cc : Nat} {ps : List Pg} {S : Nat → Prop} {w : World} (hT : Lst KPage w S ao n ps) (hS : ShortP 17592186044416 ps) (hn : n ≤ 17592186044416) :
    Calls Try.prog 40 #[.slice ao n cc, .int .i64 m] w (Pair w (findRun ps m)) := by
  by_cases hv : pagesFault ps = 0
  rotate_left
  · have HR := Lib.hid (show findRun ps m = (pagesFault ps, 0) by unfold findRun; rw [if_neg hv])
    have hq : (pagesFault ps != 0) = true := by simpa using hv
    clear hv
    go_enter Try.func40, Try.ntmps40
    go_wp2_with fail
    refine (sPagesFault_calls (hT.alloc _) hS hn).mono ?_
    rintro e w1 ⟨rfl, hb1⟩
    have hres := Row.new hb1
    have hb := below_past hb1
    go_wp2_with (refine wpList_store_row rfl 38 _ _ rfl (w.heap.size) _ rfl rfl _ _ hres (by kernel_rfl) (by rfl) (by simp [Value.oneCell']) ?_)
    refine bodyPost_ret (results_cell_row rfl _ _ (w.heap.size) _ _ _ _ rfl (setRow_heap _ _ _ _ _ _ hres) Try.underlying38 rfl (by kernel_rfl)) rfl ?_
    exact pair_done hb (Nat.le_refl _) _ HR.out

  have HV := Lib.hid hv
  rcases hw : within 1 4 [m] with _ | _
  · have HR := Lib.hid (show findRun ps m = (3, 0) by unfold findRun; rw [if_pos hv, hw]; rfl)
    have HW := Lib.hid hw
    clear hv hw
    go_enter Try.func40, Try.ntmps40
    go_wp2_with fail
    refine (sPagesFault_calls (hT.alloc _) hS hn).mono ?_
    rintro e w1 ⟨rfl, hb1⟩
    rw [HV.out]
    have hres := Row.new hb1
    have hb := below_past hb1
    go_wp2_with fail
    refine l1In_calls.mono ?_
    rw [HW.out]
    rintro e w2 ⟨rfl, rfl⟩
    go_wp2_with (refine wpList_store_row rfl 38 _ _ rfl (w.heap.size) _ rfl rfl _ _ hres (by kernel_rfl) (by rfl) (by simp [Value.oneCell']) ?_)
    refine bodyPost_ret (results_cell_row rfl _ _ (w.heap.size) _ _ _ _ rfl (setRow_heap _ _ _ _ _ _ hres) Try.underlying38 rfl (by kernel_rfl)) rfl ?_
    exact pair_done hb (Nat.le_refl _) _ HR.out

  obtain ⟨k, hk⟩ : ∃ k : Nat, m = k := ⟨m.toNat, by have := within_range hw; omega⟩
  have hk1 := within_range hw
  subst hk
  have hkk : 0 < k ∧ k ≤ 17592186044416 := by omega
  have HW := Lib.hid hw
  have HR := Lib.hid (findRun_eq ps k hv hw)
  rw [Int.toNat_natCast] at HR
  clear hw hv hk1
  by_cases hneg : runAt k ps < 0
  · have HR2 : Hid (findRun ps k = (7, 0)) := by show _ = _; rw [HR.out, if_pos hneg]
    go_enter Try.func40, Try.ntmps40
    go_wp2_with fail
    refine (sPagesFault_calls (hT.alloc _) hS hn).mono ?_
    rintro e w1 ⟨rfl, hb1⟩
    rw [HV.out]
    have hres := Row.new hb1
    have hb := below_past hb1
    go_wp2_with fail
    refine l1In_calls.mono ?_
    rw [HW.out]
    rintro e w2 ⟨rfl, rfl⟩
    go_wp2_with fail
    refine (l4Run_calls ((hT.alloc _).below hb1) hn hkk.1 hkk.2).mono ?_
    rintro e w2 ⟨rfl, rfl⟩
    go_wp2_with (refine wpList_store_row rfl 38 _ _ rfl (w.heap.size) _ rfl rfl _ _ hres (by kernel_rfl) (by rfl) (by simp [Value.oneCell']) ?_)
    refine bodyPost_ret (results_cell_row rfl _ _ (w.heap.size) _ _ _ _ rfl (setRow_heap _ _ _ _ _ _ hres) Try.underlying38 rfl (by kernel_rfl)) rfl ?_
    exact pair_done hb (Nat.le_refl _) _ HR2.out

  · have HR2 : Hid (findRun ps k = (0, runAt k ps)) := by show _ = _; rw [HR.out, if_neg hneg]
    go_enter Try.func40, Try.ntmps40
    go_wp2_with fail
    refine (sPagesFault_calls (hT.alloc _) hS hn).mono ?_
    rintro e w1 ⟨rfl, hb1⟩
    rw [HV.out]
    have hres := Row.new hb1
    have hb := below_past hb1
    go_wp2_with fail
    refine l1In_calls.mono ?_
    rw [HW.out]
    rintro e w2 ⟨rfl, rfl⟩
    go_wp2_with fail
    refine (l4Run_calls ((hT.alloc _).below hb1) hn hkk.1 hkk.2).mono ?_
    rintro e w2 ⟨rfl, rfl⟩
    go_wp2_with (refine wpList_store_row rfl 38 _ _ rfl (w.heap.size) _ rfl rfl _ _ hres (by kernel_rfl) (by rfl) (by simp [Value.oneCell']) ?_)
    refine bodyPost_ret (results_cell_row rfl _ _ (w.heap.size) _ _ _ _ rfl (setRow_heap _ _ _ _ _ _ hres) Try.underlying38 rfl (by kernel_rfl)) rfl ?_
    exact pair_done hb (Nat.le_refl _) _ HR2.out

end Go.Proofs.Ytkikjoalhohlgaa
