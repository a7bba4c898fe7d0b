/- Chapter 2 as the model has it: the contract of each of its functions. -/
import Derived.Test.YtmibekddapnaaaaTen
import Derived.IntWalk
namespace Go.Proofs.Ytmibekddapnaaaa
open Go.RowKit

theorem quiet_left {P : Program} {f : FuncId} {args : Array Value} {w : World} {n : Nat} {v : Value}
    (h : Calls P f args (w.drewN n) fun e w' => e = .returned v ∧ w.drewN n = w') : Calls P f args (w.drewN n) fun e w'' => e = .returned v ∧ ∃ m, w'' = w.drewN m :=
  h.mono fun _ _ ⟨he, hm⟩ => ⟨he, n, hm.symm⟩

set_option maxHeartbeats 1000000 in
theorem l2Tenant_calls {p b o : Nat} {C : Int} {t : List Int × Int} {w : World} (hC0 : 1 ≤ C) (hC1 : C ≤ 8) (hp : w.cell? ⟨p, 1, none⟩ = some (.int .i64 C)) (ht : Ten w b o t) (hx : t.1.length ≤ 17592186044416) :
    Calls Try.prog 46 #[.pointer (some ⟨p, 0, none⟩), .pointer (some ⟨b, o, none⟩)] w fun e w' => e = .returned (.int .i64 (tenantFault C t)) ∧ Below w.heap.size w w' := by
  have hpl := World.block_lt_of_cell? _ _ hp
  obtain ⟨xs, cpus⟩ := t
  obtain ⟨hb, a, m, c, hmc, h0, h1, hi⟩ := ht
  have hx : xs.length ≤ 17592186044416 := hx
  have hi : Ints w a m xs := hi
  have h1 : w.cell? ⟨b, o + 1, none⟩ = some (.int .i64 cpus) := h1
  have HL := Lib.hid hi.1
  have hm : m ≤ 17592186044416 := by have := hi.1; omega
  rcases hW : within 1 2 [cpus] with _ | _
  · have HF := Lib.hid (show tenantFault C (xs, cpus) = 3 by simp [tenantFault, hW])
    go_enter Try.func46, Try.ntmps46
    go_wp2_with (go_at_call 43; refine l1In_calls.mono ?_; rintro e w' ⟨rfl, rfl⟩)
    go_ret
    exact ⟨ret_int HF.out.symm, Below.refl _ _⟩
  · have HA := Lib.hid (show tenantFault C (xs, cpus) = if within 0 (C - 1) xs = true then (if rising xs = true then 0 else 1) else 3 by simp [tenantFault, hW])
    go_enter Try.func46, Try.ntmps46
    go_wp2_with (go_at_call 43; refine l1In_calls.mono ?_; rintro e w' ⟨rfl, rfl⟩)
    go_loopw [5] (fun i wr => ∃ k : Nat, k ≤ m ∧ i = .int .i64 k ∧ Hid (within 0 (C - 1) (xs.take k) = true) ∧ Below w.heap.size w wr) (fun i _ => m - (intOf i).toNat)
    case atStart => exact ⟨0, Nat.zero_le _, rfl, rfl, Below.refl _ _⟩
    case round =>
      obtain ⟨k, hk, rfl, HW, hbw⟩ := hrel
      have h0 := (hbw.cell (p := ⟨b, o, none⟩) hb).trans h0
      have hp := (hbw.cell (p := ⟨p, 1, none⟩) hpl).trans hp
      by_cases hlt : k < m
      · obtain ⟨ba, oa, rfl, hba, hca⟩ := (hi.below hbw).at_ hlt
        have hkx : k < xs.length := by rw [HL.out]; exact hlt
        rcases hV : within 0 (C - 1) [xs[k]] with _ | _
        · have HF := Lib.hid (show tenantFault C (xs, cpus) = 3 by rw [HA.out, within_one_no hkx hV]; rfl)
          go_wp2_with (go_quiet ((go_at_call 43; exact quiet_left l1In_calls)))
          go_ret
          exact ⟨ret_int HF.out.symm, below_drewN hbw _⟩
        · have HS := Lib.hid (within_one_snoc hkx hV HW.out)
          go_wp2_with (go_quiet ((go_at_call 43; exact quiet_left l1In_calls)))
          go_roundw
          case rel => exact ⟨k + 1, by omega, by go_num, HS, below_drewN hbw _⟩
          case measure => simp [intOf]; omega
      · have HB := Lib.hid (show tenantFault C (xs, cpus) = if rising xs = true then 0 else 1 by
          have := HW.out
          rw [List.take_of_length_le (by have := HL.out; omega)] at this
          rw [HA.out, if_pos this])
        go_wp2
        go_loopw [6] (fun i wr => ∃ k : Nat, 1 ≤ k ∧ (k ≤ m ∨ k = 1) ∧ i = .int .i64 k ∧ Hid (risingTo xs k) ∧ Below w.heap.size w wr) (fun i _ => m - (intOf i).toNat)
        case atStart => exact ⟨1, Nat.le_refl _, .inr rfl, rfl, fun i h1 h2 => by omega, hbw⟩
        case round =>
          obtain ⟨k, hk1, hk, rfl, HW, hbw⟩ := hrel
          have h0 := (hbw.cell (p := ⟨b, o, none⟩) hb).trans ‹w.cell? ⟨b, o, none⟩ = _›
          by_cases hlt : k < m
          · obtain ⟨ba, oa, rfl, hba, hca⟩ := (hi.below hbw).at_ hlt
            obtain ⟨ba', oa', he, _, hcb⟩ := (hi.below hbw).at_ (show k - 1 < m by omega)
            simp only [Option.some.injEq, Addr.mk.injEq, and_true] at he
            obtain ⟨rfl, rfl⟩ := he
            have hkx : k < xs.length := by rw [HL.out]; exact hlt
            have hkx' : k - 1 < xs.length := by omega
            have e1 : xs.getD k 0 = xs[k] := by simp [List.getD, hkx]
            have e2 : xs.getD (k - 1) 0 = xs[k - 1] := by simp [List.getD, hkx']
            have q1 : IntKind.i64.wrap ((k : Int) - 1) = (k : Int) - 1 := IntWalk.i64_in _ (by omega)
            have q2 : (0 : Int) ≤ (k : Int) - 1 := by omega
            have q3 : ((k : Int) - 1).toNat = k - 1 := by omega
            have q4 : (k : Int) - 1 < (m : Int) := by omega
            by_cases hlv : xs[k] ≤ xs[k - 1]
            · have HF := Lib.hid (show tenantFault C (xs, cpus) = 1 by rw [HB.out, rising_no hk1 hkx (by rw [e1, e2]; omega)]; rfl)
              clear e1 e2
              go_wp2_with (go_quiet (fail))
              go_ret
              exact ⟨ret_int HF.out.symm, below_drewN hbw _⟩
            · have HS := Lib.hid (risingTo_succ HW.out (by rw [e1, e2]; omega))
              clear e1 e2
              go_wp2_with (go_quiet (fail))
              go_roundw
              case rel => exact ⟨k + 1, by omega, by omega, by go_num, HS, below_drewN hbw _⟩
              case measure => simp [intOf]; omega
          · have HF := Lib.hid (show tenantFault C (xs, cpus) = 0 by
              rw [HB.out, if_pos]
              rw [rising_iff]
              intro i i1 i2
              exact HW.out i i1 (by have := HL.out; omega))
            go_wp2
            go_ret
            exact ⟨ret_int HF.out.symm, hbw⟩

set_option maxHeartbeats 2000000 in
theorem sConfigFault_calls {ao : Option Addr} {n cc : Nat} {F C : Int} {ts : List (List Int × Int)} {w : World} (hT : Tens w ao n ts) (hS : Short 17592186044416 ts) (hcc : n ≤ cc) (hn : n ≤ 17592186044416) :
    Calls Try.prog 22 #[.agg #[.int .i64 F, .int .i64 C, .slice ao n cc]] w fun e w' => e = .returned (.int .i64 (configFault F C ts)) ∧ Below w.heap.size w w' := by
  have HL := Lib.hid hT.1
  have HS := Lib.hid hS
  rcases hWF : within 1 40 [F] with _ | _
  · have HF := Lib.hid (show configFault F C ts = 3 by simp [configFault, hWF])
    go_enter Try.func22, Try.ntmps22
    go_wp2_with (go_at_call 43; refine l1In_calls.mono ?_; rintro e w' ⟨rfl, rfl⟩)
    go_ret
    exact ⟨ret_int HF.out.symm, (Below.refl _ _).alloc (Nat.le_refl _) _⟩
  rcases hWC : within 1 8 [C] with _ | _
  · have HF := Lib.hid (show configFault F C ts = 3 by simp [configFault, hWC])
    go_enter Try.func22, Try.ntmps22
    go_wp2_with (go_at_call 43; refine l1In_calls.mono ?_; rintro e w' ⟨rfl, rfl⟩)
    go_ret
    exact ⟨ret_int HF.out.symm, (Below.refl _ _).alloc (Nat.le_refl _) _⟩
  have hC : 1 ≤ C ∧ C ≤ 8 := by rw [within_one] at hWC; simpa using hWC
  by_cases hn1 : 1 ≤ n
  rotate_left
  · have HF := Lib.hid (show configFault F C ts = 2 by unfold configFault; rw [if_pos ⟨hWF, hWC⟩, if_neg (by rw [HL.out]; omega)])
    go_enter Try.func22, Try.ntmps22
    go_wp2_with (go_at_call 43; refine l1In_calls.mono ?_; rintro e w' ⟨rfl, rfl⟩)
    go_ret
    exact ⟨ret_int HF.out.symm, (Below.refl _ _).alloc (Nat.le_refl _) _⟩
  by_cases hn3 : n ≤ 3
  rotate_left
  · have HF := Lib.hid (show configFault F C ts = 2 by unfold configFault; rw [if_pos ⟨hWF, hWC⟩, if_neg (by rw [HL.out]; omega)])
    go_enter Try.func22, Try.ntmps22
    go_wp2_with (go_at_call 43; refine l1In_calls.mono ?_; rintro e w' ⟨rfl, rfl⟩)
    go_ret
    exact ⟨ret_int HF.out.symm, (Below.refl _ _).alloc (Nat.le_refl _) _⟩
  have HA := Lib.hid (show configFault F C ts = (if firstFault C ts = 0 then (if shared ts = true then 6 else 0) else firstFault C ts) by unfold configFault; rw [if_pos ⟨hWF, hWC⟩, if_pos (by rw [HL.out]; omega)])
  obtain ⟨b, off, rfl, hb, hten⟩ := hT.2 hn1
  go_enter Try.func22, Try.ntmps22
  go_wp2_with (go_at_call 43; refine l1In_calls.mono ?_; rintro e w' ⟨rfl, rfl⟩)
  go_loopw [3] (fun i wr => ∃ k : Nat, k ≤ n ∧ i = .int .i64 k ∧ Hid (∀ j, j < k → tenantFault C (tenAt ts j) = 0) ∧ CfgAt wr w.heap.size F C (some ⟨b, off, none⟩) n cc ∧ Below w.heap.size w wr) (fun i _ => n - (intOf i).toNat)
  case atStart => exact ⟨0, Nat.zero_le _, rfl, fun j hj => by omega, heap_alloc_new _ _, (Below.refl _ _).alloc (Nat.le_refl _) _⟩
  case round =>
    obtain ⟨k, hk, rfl, HW, hcf, hbw⟩ := hrel
    obtain ⟨c0, c1, c2, c3⟩ := hcf.cells
    by_cases hlt : k < n
    · have hTk := (hten k hlt).below hbw
      by_cases h0 : tenantFault C (tenAt ts k) = 0
      · have HH : Hid (∀ j, j < k + 1 → tenantFault C (tenAt ts j) = 0) := fun j hj => by
          by_cases e : j = k
          · rw [e]; exact h0
          · exact HW.out j (by omega)
        have H0 := Lib.hid h0
        clear h0
        go_wp2_with fail
        refine (l2Tenant_calls hC.1 hC.2 c2 hTk (HS.out.at_ k)).mono ?_
        rintro e w1 ⟨rfl, hb1⟩
        rw [H0.out]
        have R1 : CfgAt w1 w.heap.size F C (some ⟨b, off, none⟩) n cc := Row.below hcf hb1
        go_wp2_with fail
        go_roundw
        case rel => exact ⟨k + 1, by omega, by go_num, HH, R1, hbw.trans (hb1.mono hbw.size)⟩
        case measure => simp [intOf]; omega
      · have HF := Lib.hid (show configFault F C ts = tenantFault C (tenAt ts k) by
          have e := firstFault_at (by rw [HL.out]; exact hlt) HW.out h0
          rw [HA.out, if_neg (by rw [e]; exact h0), e])
        have h0' : (tenantFault C (tenAt ts k) != 0) = true := by simpa [bne_iff_ne] using h0
        clear h0
        go_wp2_with fail
        refine (l2Tenant_calls hC.1 hC.2 c2 hTk (HS.out.at_ k)).mono ?_
        rintro e w1 ⟨rfl, hb1⟩
        go_wp2_with fail
        go_ret
        exact ⟨ret_int HF.out.symm, hbw.trans (hb1.mono hbw.size)⟩
    · have HB := Lib.hid (show configFault F C ts = (if shared ts = true then 6 else 0) by
        rw [HA.out, if_pos (firstFault_ok fun j hj => HW.out j (by rw [HL.out] at hj; omega))])
      go_wp2
      go_loopw [5] (fun i wr => ∃ k : Nat, k ≤ n ∧ i = .int .i64 k ∧ Hid (NoShare ts k) ∧ CfgAt wr w.heap.size F C (some ⟨b, off, none⟩) n cc ∧ Below w.heap.size w wr) (fun i _ => n - (intOf i).toNat)
      case atStart => exact ⟨0, Nat.zero_le _, rfl, NoShare.zero _, hcf, hbw⟩
      case round =>
        obtain ⟨i, hi, rfl, HW, hcf, hbw⟩ := hrel
        obtain ⟨c0, c1, c2, c3⟩ := hcf.cells
        by_cases hlt : i < n
        · have hTi := hten i hlt
          have HI := Lib.hid (HS.out.at_ i)
          go_wp2
          go_loopw [6] (fun t wr => ∃ k : Nat, k ≤ i ∧ t = .int .i64 k ∧ Hid (NoShare2 ts i k) ∧ CfgAt wr w.heap.size F C (some ⟨b, off, none⟩) n cc ∧ Below w.heap.size w wr) (fun t _ => i - (intOf t).toNat)
          case atStart => exact ⟨0, Nat.zero_le _, rfl, NoShare2.zero _ _, hcf, hbw⟩
          case round =>
            obtain ⟨k, hk, rfl, HW2, hcf, hbw⟩ := hrel
            obtain ⟨c0, c1, c2, c3⟩ := hcf.cells
            by_cases hlk : k < i
            · have hTk := hten k (by omega)
              have HK := Lib.hid (HS.out.at_ k)
              obtain ⟨xs, hxs⟩ : ∃ xs, (tenAt ts i).1 = xs := ⟨_, rfl⟩
              obtain ⟨ys, hys⟩ : ∃ ys, (tenAt ts k).1 = ys := ⟨_, rfl⟩
              have HXS := Lib.hid hxs
              have HYS := Lib.hid hys
              go_wp2
              go_loopw [7] (fun t wr => ∃ m : Nat, m ≤ xs.length ∧ t = .int .i64 m ∧ Hid (NoShare3 ts i k m) ∧ CfgAt wr w.heap.size F C (some ⟨b, off, none⟩) n cc ∧ Below w.heap.size w wr) (fun t _ => xs.length - (intOf t).toNat)
              case atStart => exact ⟨0, Nat.zero_le _, rfl, NoShare3.zero _ _ _, hcf, hbw⟩
              case round =>
                obtain ⟨m, hm, rfl, HW3, hcf, hbw⟩ := hrel
                obtain ⟨c0, c1, c2, c3⟩ := hcf.cells
                obtain ⟨d0, ai, mi, ci, hci, e0, _, hIi⟩ := hTi.below hbw
                obtain ⟨d1, ak, mk, ck, hck, f0, _, hIk⟩ := hTk.below hbw
                rw [hxs] at hIi
                rw [hys] at hIk
                have hmi : xs.length = mi := hIi.1
                have hmk : mk ≤ 17592186044416 := by have := HK.out; rw [HYS.out] at this; have := hIk.1; omega
                have hmi' : xs.length ≤ 17592186044416 := by have := HI.out; rw [HXS.out] at this; exact this
                subst hmi
                clear hxs hys
                by_cases hlm : m < xs.length
                · obtain ⟨ba, oa, rfl, hba, hca⟩ := hIi.at_ hlm
                  rcases hV : hasIn ys xs[m] with _ | _
                  · have HN := Lib.hid (HW3.out.succ (by rw [HXS.out]; exact hlm) (by unfold hasColour; simp only [HXS.out, HYS.out]; exact hV))
                    go_wp2_with (go_quiet ((go_at_call 42; exact quiet_left (l1Has_calls hIk hmk))))
                    any_goals (first | (exact absurd ((‹hasIn ys xs[m] = true›).symm.trans hV) (by decide)) | skip)
                    go_roundw
                    case rel => exact ⟨m + 1, by omega, by go_num, HN, hcf, below_drewN hbw _⟩
                    case measure => simp [intOf]; omega
                  · have HF := Lib.hid (show configFault F C ts = 6 by
                      rw [HB.out, if_pos]
                      exact shared_yes (by rw [HL.out]; exact hlt) hlk (by rw [HXS.out]; exact hlm) (by unfold hasColour; simp only [HXS.out, HYS.out]; exact hV))
                    go_wp2_with (go_quiet ((go_at_call 42; exact quiet_left (l1Has_calls hIk hmk))))
                    any_goals (first | (exact absurd (hV.symm.trans (‹hasIn ys xs[m] = false›)) (by decide)) | skip)
                    go_ret
                    exact ⟨ret_int HF.out.symm, below_drewN hbw _⟩
                · have HN := Lib.hid (HW2.out.succ (by have := HW3.out; rw [show m = (tenAt ts i).1.length by rw [HXS.out]; omega] at this; exact this))
                  go_wp2
                  go_roundw
                  case rel => exact ⟨k + 1, by omega, by go_num, HN, hcf, hbw⟩
                  case measure => simp [intOf]; omega
            · have HN := Lib.hid (HW.out.succ (by have := HW2.out; rw [show k = i by omega] at this; exact this))
              go_wp2
              go_roundw
              case rel => exact ⟨i + 1, by omega, by go_num, HN, hcf, hbw⟩
              case measure => simp [intOf]; omega
        · have HF := Lib.hid (show configFault F C ts = 0 by
            rw [HB.out, if_neg]
            rw [shared_no (by have := HW.out; rw [show i = ts.length by rw [HL.out]; omega] at this; exact this)]
            simp)
          go_wp2
          go_ret
          exact ⟨ret_int HF.out.symm, hbw⟩
end Go.Proofs.Ytmibekddapnaaaa
