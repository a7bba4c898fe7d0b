/- Chapter 2 as the program has it: the contract of each of its functions. -/
import Derived.Test.YtmibekddapnaaaaTen
import Derived.IntWalk
import Derived.Maps.OwnSet
import Derived.Maps.OwnOps
import Derived.Maps.Views
import Derived.DeepKeys4
namespace Go.Proofs.Ytmibekddapnaaaa
open Go.RowKit

set_option maxHeartbeats 400000 in
theorem isRising_calls {a : Option Addr} {n c : Nat} {xs : List Int} {w : World} (ha : Ints w a n xs) (hx : n ≤ 17592186044416) :
    Calls Try.prog 57 #[.slice a n c] w fun e w' => e = .returned (.bool (rising xs)) ∧ Below w.heap.size w w' := by
  have HL := Lib.hid ha.1
  go_enter Try.func57, Try.ntmps57
  go_wp2
  go_loopw [3] (fun i wr => ∃ k : Nat, 1 ≤ k ∧ (k ≤ n ∨ k = 1) ∧ i = .int .i64 k ∧ Hid (risingTo xs k) ∧ Below w.heap.size w wr) (fun i _ => n - (intOf i).toNat)
  case atStart => exact ⟨1, Nat.le_refl _, .inr rfl, rfl, fun i h1 h2 => by omega, Below.refl _ _⟩
  case round =>
    obtain ⟨k, hk1, hk, rfl, HW, hbw⟩ := hrel
    by_cases hlt : k < n
    · obtain ⟨ba, oa, rfl, hba, hca⟩ := (ha.below hbw).at_ hlt
      obtain ⟨ba', oa', he, _, hcb⟩ := (ha.below hbw).at_ (show k - 1 < n by omega)
      simp only [Option.some.injEq, Addr.mk.injEq, and_true] at he
      obtain ⟨rfl, rfl⟩ := he
      have hkx : k < xs.length := by rw [HL.out]; exact hlt
      have hkx' : k - 1 < xs.length := by omega
      have e1 : xs.getD k 0 = xs[k] := by simp [List.getD, hkx]
      have e2 : xs.getD (k - 1) 0 = xs[k - 1] := by simp [List.getD, hkx']
      have q1 : IntKind.i64.wrap ((k : Int) - 1) = (k : Int) - 1 := IntWalk.i64_in _ (by omega)
      have q2 : (0 : Int) ≤ (k : Int) - 1 := by omega
      have q3 : ((k : Int) - 1).toNat = k - 1 := by omega
      have q4 : (k : Int) - 1 < (n : Int) := by omega
      by_cases hlv : xs[k] ≤ xs[k - 1]
      · have HF := Lib.hid (rising_no hk1 hkx (by rw [e1, e2]; omega))
        clear e1 e2
        go_wp2_with (go_quiet (fail))
        go_ret
        exact ⟨ret_bool HF.out.symm, below_drewN hbw _⟩
      · have HS := Lib.hid (risingTo_succ HW.out (by rw [e1, e2]; omega))
        clear e1 e2
        go_wp2_with (go_quiet (fail))
        go_roundw
        case rel => exact ⟨k + 1, by omega, by omega, by go_num, HS, below_drewN hbw _⟩
        case measure => simp [intOf]; omega
    · have HF := Lib.hid (show rising xs = true by
        rw [rising_iff]
        intro i i1 i2
        exact HW.out i i1 (by have := HL.out; omega))
      go_wp2
      go_ret
      exact ⟨ret_bool HF.out.symm, hbw⟩

set_option maxHeartbeats 400000 in
theorem tenantFault_calls {a : Option Addr} {m c : Nat} {C cpus : Int} {xs : List Int} {w : World} (hC0 : 1 ≤ C) (hC1 : C ≤ 8) (hi : Ints w a m xs) (hm : m ≤ 17592186044416) :
    Calls Try.prog 44 #[.agg #[.slice a m c, .int .i64 cpus], .int .i64 C] w fun e w' => e = .returned (.int .i64 (tenantFault C (xs, cpus))) ∧ Below w.heap.size w w' := by
  rcases hW : within 1 2 [cpus] with _ | _
  · have HF := Lib.hid (show tenantFault C (xs, cpus) = 3 by simp [tenantFault, hW])
    go_enter Try.func44, Try.ntmps44
    go_wp2_with (go_at_call 35; refine (allWithin_calls (Ints.one (by simp)) (by omega)).mono ?_; rintro e w' ⟨rfl, rfl⟩)
    go_ret
    exact ⟨ret_int HF.out.symm, ((Below.refl _ _).alloc (Nat.le_refl _) _).alloc (by simp) _⟩
  rcases hV : within 0 (C - 1) xs with _ | _
  · have HF := Lib.hid (show tenantFault C (xs, cpus) = 3 by simp [tenantFault, hW, hV])
    go_enter Try.func44, Try.ntmps44
    go_wp2_with fail
    refine (allWithin_calls (Ints.one (by simp)) (by omega)).mono ?_
    rintro e w' ⟨rfl, rfl⟩
    go_wp2_with fail
    refine (allWithin_calls ((hi.alloc _).alloc _) hm).mono ?_
    rintro e w' ⟨rfl, rfl⟩
    go_wp2_with fail
    go_ret
    exact ⟨ret_int HF.out.symm, ((Below.refl _ _).alloc (Nat.le_refl _) _).alloc (by simp) _⟩
  have HA := Lib.hid (show tenantFault C (xs, cpus) = (if rising xs = true then 0 else 1) by simp [tenantFault, hW, hV])
  rcases hR : rising xs with _ | _
  all_goals
    have HG := HA.out
    rw [hR] at HG
    simp at HG
    have HF := Lib.hid HG
    clear HG HA
    go_enter Try.func44, Try.ntmps44
    go_wp2_with fail
    refine (allWithin_calls (Ints.one (by simp)) (by omega)).mono ?_
    rintro e w' ⟨rfl, rfl⟩
    go_wp2_with fail
    refine (allWithin_calls ((hi.alloc _).alloc _) hm).mono ?_
    rintro e w' ⟨rfl, rfl⟩
    go_wp2_with fail
    refine (isRising_calls ((hi.alloc _).alloc _) hm).mono ?_
    rintro e w1 ⟨rfl, hb1⟩
    go_wp2_with fail
    go_ret
    exact ⟨ret_int HF.out.symm, below_past (below_past (hb1.mono (by simp)) |>.mono (by simp)) |>.mono (by simp)⟩

theorem colourAt_calls {ao : Option Addr} {n cc : Nat} {F C f : Int} {w : World} (hC0 : 1 ≤ C) (hf : 0 ≤ f) :
    Calls Try.prog 37 #[.agg #[.int .i64 F, .int .i64 C, .slice ao n cc], .int .i64 f] w fun e w' => e = .returned (.int .i64 (f % C)) ∧ Below w.heap.size w w' := by
  go_enter Try.func37, Try.ntmps37
  go_wp2_with fail
  go_ret
  exact ⟨rfl, (Below.refl _ _).alloc (Nat.le_refl _) _⟩

/-- The key of a claim. -/
def claimKey (t c : Int) : Value := .agg #[.int .i64 t, .int .i64 c]
theorem claim_law : Maps.Keyed Try.prog 61 :=
  Maps.Keyed.of_law (deep_law_laid (by kernel_rfl) (m := 2) (by omega) (of_decide_eq_true (by kernel_rfl)) (by kernel_rfl) (by rw [Try.underlying61]))
theorem claim_cells : Try.prog.cellsOf 61 = 2 := by kernel_rfl
theorem claim_key : Try.prog.keyType 61 = true := by kernel_rfl
theorem i64_wf {x : Int} (h0 : -9223372036854775808 ≤ x) (h1 : x ≤ 9223372036854775807) : (Lit.int .i64 x).wf = true := by
  simp [Lit.wf, IntKind.min, IntKind.max, IntKind.signed, IntKind.bits]; omega
theorem claim_reads {t c : Int} (h0 : -9223372036854775808 ≤ t) (h1 : t ≤ 9223372036854775807) (h2 : -9223372036854775808 ≤ c) (h3 : c ≤ 9223372036854775807) :
    ∃ l, keyOf Try.prog 61 (claimKey t c) = some l := by
  have w0 := i64_wf h0 h1
  have w1 := i64_wf h2 h3
  obtain ⟨d, hd⟩ : ∃ d, Try.prog.types.size + 1 = d + 1 + 1 := ⟨Try.prog.types.size - 1, by
    have : 0 < Try.prog.types.size := of_decide_eq_true (by kernel_rfl)
    omega⟩
  have k0 : ∀ x : Int, (Lit.int .i64 x).wf = true → Try.prog.keyLits (d + 1) 2 [.int .i64 x] = some [.int .i64 x] := fun x hx => by
    simp [Program.keyLits, Try.underlying2, hx]
  have ci : Try.prog.cellsOf 2 = 1 := by kernel_rfl
  have hf : (claimKey t c).formed Try.prog 61 = true := by simp [Value.formed, claimKey, Try.underlying61, claim_cells]
  unfold keyOf
  rw [Try.underlying61]
  simp only [claim_key, hf, Bool.and_self, if_true]
  rw [hd]
  have hl : Try.prog.keyLits (d + 1 + 1) 61 (claimKey t c).cells.toList = some [.int .i64 t, .int .i64 c] := by
    have : (claimKey t c).cells.toList = [.int .i64 t, .int .i64 c] := rfl
    rw [this]
    unfold Program.keyLits
    rw [Try.underlying61]
    simp [claim_cells, ci, k0 t w0, k0 c w1]
  rw [hl]
  exact ⟨_, rfl⟩
end Go.Proofs.Ytmibekddapnaaaa
