/- Joined texts (Impl2c, Spec2, Spec2b, Spec2c, Impl2d, Help2, Help2b, Help2c, Pair): steps of the proofs of chapter 5's laws. -/
import Derived.IntWalk
import Derived.Deep.RegionHeld3
import Derived.Laws.StructEq
import Derived.Test.YtoaeglhjaandmaaM1
set_option linter.unusedVariables false
set_option linter.unusedSimpArgs false
/- Chapter 2 as the program has it: holders, faults and answers. -/
namespace Go.Proofs.Ytoaeglhjaandmaa
set_option maxRecDepth 100000
open Go.RowKit

set_option maxHeartbeats 400000 in
theorem holdersOf_calls {ao : Option Addr} {n cc b m : Nat} {F C c : Int} {ts : List (List Int × Int)} {w : World} (hn : n ≤ 3) (hs : SetIs w b m (claimed ts n 0)) (hc0 : 0 ≤ c) (hc1 : c ≤ 100) :
    Calls Try.prog 70 #[.agg #[.int .i64 F, .int .i64 C, .slice ao n cc], .map (some b), .int .i64 c] w (Makes w (holdersTo ts c n).length (holdersTo ts c n)) := by
  go_enter Try.func70, Try.ntmps70
  go_wp2
  go_loopw [7, 12] (fun v i wr => ∃ k : Nat, k ≤ n ∧ i = .int .i64 k ∧ OwnE wr w.heap.size v (holdersTo ts c k).length (holdersTo ts c k) ∧ Below w.heap.size w wr) (fun _ i _ => n - (intOf i).toNat)
  case atStart => exact ⟨0, Nat.zero_le _, rfl, OwnE.nil _ _, (Below.refl _ _).alloc (Nat.le_refl _) _⟩
  case round =>
    obtain ⟨k, hk, rfl, HO, hbw⟩ := hrel
    by_cases hlt : k < n
    · have hlt' : (k : Int) < (n : Int) := by omega
      have hset := hs.below hbw
      have hall := claimed_all (ts := ts) (c := c) hlt
      have hL := length_holdersTo ts c k
      rcases hV : hasColour (tenAt ts k) c with _ | _
      · have HE := Lib.hid (holdersTo_no (n := k) hV)
        have hO1 := HE.out.symm ▸ HO
        have F := Lib.hid hO1
        rw [hV] at hall
        clear hO1 hV
        go_wp2_with (at_lookup; go_must (refine wpList_lookup_set (t := (k : Int)) (c := c) rfl _ _ rfl hset rfl rfl (by omega) (by omega) (by omega) (by omega) ?_); rw [hall])
        go_roundw
        case rel => exact ⟨k + 1, by omega, by go_num, F.out, hbw⟩
        case measure => simp [intOf]; omega
      · have HE := Lib.hid (holdersTo_yes (n := k) hV)
        rw [hV] at hall
        clear hV
        go_wp2_with (first
          | (at_lookup; go_must (refine wpList_lookup_set (t := (k : Int)) (c := c) rfl _ _ rfl hset rfl rfl (by omega) (by omega) (by omega) (by omega) ?_); rw [hall])
          | (at_builtin; go_must (refine wpList_append_one rfl _ _ rfl rfl (HO.below ((Below.refl _ _).alloc (Nat.le_refl _) _)) rfl (u := (k : Int)) (cell_one rfl) (by omega) (hbw.alloc hbw.size _).size ?_); intro v' w2 hO2 hB2 hg2))
        have F : Hid (OwnE w2 w.heap.size v' (holdersTo ts c (k + 1)).length (holdersTo ts c (k + 1)) ∧ Below w.heap.size w w2) := by
          refine ⟨?_, hB2 w (hbw.alloc hbw.size _)⟩
          rw [HE.out, List.length_append]; exact hO2
        clear hO2 hB2 hg2
        go_wp2
        go_roundw
        case rel => exact ⟨k + 1, by omega, by go_num, F.out.1, F.out.2⟩
        case measure => simp [intOf]; omega
    · obtain rfl : k = n := by omega
      have F := Lib.hid (And.intro HO.own hbw)
      clear HO hbw
      go_wp2
      go_ret
      exact ⟨_, rfl, F.out.1, F.out.2⟩

/-- No two of the tenants have this colour. -/
theorem holders_one {ts : List (List Int × Int)} {c : Int} {n : Nat} : (holdersTo ts c n).length ≤ 1 ↔ ∀ i k, i < n → k < i → hasColour (tenAt ts i) c = true → hasColour (tenAt ts k) c = true → False := by
  induction n with
  | zero => simp [holdersTo]
  | succ n ih =>
    rcases hb : hasColour (tenAt ts n) c with _ | _
    · rw [holdersTo_no hb, ih]
      constructor
      · intro h i k hi hk h1 h2
        by_cases e : i = n
        · subst e; rw [hb] at h1; cases h1
        · exact h i k (by omega) hk h1 h2
      · intro h i k hi hk h1 h2; exact h i k (by omega) hk h1 h2
    · rw [holdersTo_yes hb, List.length_append]
      constructor
      · intro h i k hi hk h1 h2
        have h0 : (holdersTo ts c n) = [] := List.eq_nil_of_length_eq_zero (by have h3 := h; simp only [List.length_singleton] at h3; omega)
        have hm : ∀ j, j < n → hasColour (tenAt ts j) c = true → (j : Int) ∈ holdersTo ts c n := fun j hj h => by
          unfold holdersTo; simp only [List.mem_map, List.mem_filter, List.mem_range]; exact ⟨j, ⟨hj, h⟩, rfl⟩
        have := hm k (by omega) h2
        rw [h0] at this; cases this
      · intro h
        have h0 : holdersTo ts c n = [] := holdersTo_none fun j hj => by
          rcases hj1 : hasColour (tenAt ts j) c with _ | _
          · rfl
          · exact (h n j (by omega) hj hb hj1).elim
        simp [h0]
theorem shared_of_holders {ts : List (List Int × Int)} {c : Int} (h : 1 < (holdersTo ts c ts.length).length) : shared ts = true := by
  rcases hb : shared ts with _ | _
  · refine absurd (holders_one.2 fun i k hi hk h1 h2 => ?_) (Nat.not_le.2 h)
    have : shared ts = true := (shared_iff ts).2 ⟨i, k, c, hi, hk, by unfold hasColour hasIn at h1; rwa [List.contains_iff_mem] at h1, h2⟩
    rw [hb] at this; cases this
  · rfl
theorem shared_not {ts : List (List Int × Int)} {C : Int} (hw : ∀ j, j < ts.length → within 0 (C - 1) (tenAt ts j).1 = true) (h : ∀ c : Int, 0 ≤ c → c < C → (holdersTo ts c ts.length).length ≤ 1) : shared ts = false := by
  rw [Bool.eq_false_iff]
  intro hs
  obtain ⟨i, k, c, hi, hk, hc, h1⟩ := (shared_iff ts).1 hs
  have hb : 0 ≤ c ∧ c ≤ C - 1 := by have := List.all_eq_true.1 (hw i hi) c hc; simpa using this
  exact holders_one.1 (h c hb.1 (by omega)) i k hi hk (by unfold hasColour hasIn; rw [List.contains_iff_mem]; exact hc) h1

set_option maxHeartbeats 400000 in
theorem isColourShared_calls {ao : Option Addr} {n cc : Nat} {F C : Int} {ts : List (List Int × Int)} {w : World} (hT : Tens w ao n ts) (hcc : n ≤ cc) (hn : n ≤ 3) (hf : ∀ j, j < n → tenantFault C (tenAt ts j) = 0) (hC0 : 1 ≤ C) (hC1 : C ≤ 8) :
    Calls Try.prog 110 #[.agg #[.int .i64 F, .int .i64 C, .slice ao n cc]] w fun e w' => e = .returned (.bool (shared ts)) ∧ Below w.heap.size w w' := by
  have HL := Lib.hid hT.1
  have HF := Lib.hid hf
  clear hf
  go_enter Try.func110, Try.ntmps110
  go_wp2_with fail
  refine (claimsOf_calls (hT.alloc _) hcc hn (fun j hj => short_of_fault hC1 (HF.out j hj))).mono ?_
  rintro e w1 ⟨b, m, rfl, hbs, hset, hb1⟩
  have hcf : CfgAt w1 w.heap.size F C ao n cc := Row.new hb1
  have hbw := below_past hb1
  clear hb1
  obtain ⟨c0, c1, c2, c3⟩ := hcf.cells
  go_wp2_with fail
  go_loopw [9] (fun i wr => ∃ k : Nat, (k : Int) ≤ C ∧ i = .int .i64 k ∧ Hid (∀ c : Int, 0 ≤ c → c < k → (holdersTo ts c n).length ≤ 1) ∧ SetIs wr b m (claimed ts n 0) ∧ CfgAt wr w.heap.size F C ao n cc ∧ Below w.heap.size w wr) (fun i _ => C.toNat - (intOf i).toNat)
  case atStart => exact ⟨0, by omega, rfl, fun c h0 h1 => by omega, hset, hcf, hbw⟩
  case round =>
    obtain ⟨k, hk, rfl, HW, hset, hcf, hbw⟩ := hrel
    obtain ⟨c0, c1, c2, c3⟩ := hcf.cells
    by_cases hlt : (k : Int) < C
    · by_cases h1 : 1 < (holdersTo ts (k : Int) n).length
      · have HR := Lib.hid (shared_of_holders (ts := ts) (c := (k : Int)) (by rw [HL.out]; exact h1))
        have hL := length_holdersTo ts (k : Int) n
        go_wp2_with fail
        refine (holdersOf_calls hn hset (by omega) (by omega)).mono ?_
        rintro e w2 ⟨v, rfl, hown, hb2⟩
        obtain ⟨vo, vc, rfl, _, _, _⟩ := hown.shape
        clear hown
        go_wp2_with fail
        go_ret
        exact ⟨ret_bool HR.out.symm, hbw.trans (hb2.mono hbw.size)⟩
      · have hL := length_holdersTo ts (k : Int) n
        have HN : Hid (∀ c : Int, 0 ≤ c → c < ((k + 1 : Nat) : Int) → (holdersTo ts c n).length ≤ 1) := fun c h0 h2 => by
          by_cases e : c = k
          · rw [e]; omega
          · exact HW.out c h0 (by omega)
        go_wp2_with fail
        refine (holdersOf_calls hn hset (by omega) (by omega)).mono ?_
        rintro e w2 ⟨v, rfl, hown, hb2⟩
        obtain ⟨vo, vc, rfl, _, _, _⟩ := hown.shape
        have hset2 := hset.below hb2
        have hcf2 : CfgAt w2 w.heap.size F C ao n cc := Row.below hcf hb2
        have hbw2 := hbw.trans (hb2.mono hbw.size)
        clear hown hb2
        go_wp2_with fail
        go_roundw
        case rel => exact ⟨k + 1, by omega, by go_num, HN, hset2, hcf2, hbw2⟩
        case measure => simp [intOf]; omega
    · have HR := Lib.hid (show shared ts = false from shared_not (C := C) (fun j hj => (tenantFault_ok (HF.out j (by rw [HL.out] at hj; exact hj))).2.2.1) (fun c h0 h1 => by rw [HL.out]; exact HW.out c h0 (by omega)))
      go_wp2_with fail
      go_ret
      exact ⟨ret_bool HR.out.symm, hbw⟩

set_option maxHeartbeats 1000000 in
theorem configFault_calls {ao : Option Addr} {n cc : Nat} {F C : Int} {ts : List (List Int × Int)} {w : World} (hT : Tens w ao n ts) (hS : Short 17592186044416 ts) (hcc : n ≤ cc) (hn : n ≤ 17592186044416) :
    Calls Try.prog 92 #[.agg #[.int .i64 F, .int .i64 C, .slice ao n cc]] w fun e w' => e = .returned (.int .i64 (configFault F C ts)) ∧ Below w.heap.size w w' := by
  have HL := Lib.hid hT.1
  have HS := Lib.hid hS
  rcases hWF : within 1 40 [F] with _ | _
  · have HF := Lib.hid (show configFault F C ts = 3 by simp [configFault, hWF])
    go_enter Try.func92, Try.ntmps92
    go_wp2_with (go_at_call 54; go_must (refine (allWithin_calls (Ints.one (by simp)) (by omega)).mono ?_); rintro e w' ⟨rfl, rfl⟩)
    go_ret
    exact ⟨ret_int HF.out.symm, ((Below.refl _ _).alloc (Nat.le_refl _) _).alloc (by simp) _⟩
  rcases hWC : within 1 8 [C] with _ | _
  · have HF := Lib.hid (show configFault F C ts = 3 by simp [configFault, hWC])
    go_enter Try.func92, Try.ntmps92
    go_wp2_with (go_at_call 54; go_must (refine (allWithin_calls (Ints.one (by simp)) (by omega)).mono ?_); rintro e w' ⟨rfl, rfl⟩)
    go_ret
    exact ⟨ret_int HF.out.symm, (((Below.refl _ _).alloc (Nat.le_refl _) _).alloc (by simp) _).alloc (by simp; omega) _⟩
  have hC : 1 ≤ C ∧ C ≤ 8 := by rw [within_one] at hWC; simpa using hWC
  rcases hWN : within 1 3 [(n : Int)] with _ | _
  · have HF := Lib.hid (show configFault F C ts = 2 by unfold configFault; rw [if_pos ⟨hWF, hWC⟩, if_neg (by rw [HL.out]; rw [within_one] at hWN; simp at hWN; omega)])
    go_enter Try.func92, Try.ntmps92
    go_wp2_with (go_at_call 54; go_must (refine (allWithin_calls (Ints.one (by simp)) (by omega)).mono ?_); rintro e w' ⟨rfl, rfl⟩)
    go_ret
    exact ⟨ret_int HF.out.symm, ((((Below.refl _ _).alloc (Nat.le_refl _) _).alloc (by simp) _).alloc (by simp; omega) _).alloc (by simp; omega) _⟩
  have hn13 : 1 ≤ n ∧ n ≤ 3 := by rw [within_one] at hWN; simp at hWN; omega
  have HA := Lib.hid (show configFault F C ts = (if firstFault C ts = 0 then (if shared ts = true then 6 else 0) else firstFault C ts) by unfold configFault; rw [if_pos ⟨hWF, hWC⟩, if_pos (by rw [HL.out]; omega)])
  obtain ⟨b, off, rfl, hb, hten⟩ := hT.2 (by omega)
  go_enter Try.func92, Try.ntmps92
  go_wp2_with (go_at_call 54; go_must (refine (allWithin_calls (Ints.one (by simp)) (by omega)).mono ?_); rintro e w' ⟨rfl, rfl⟩)
  go_loopw [27] (fun i wr => ∃ k : Nat, k ≤ n ∧ i = .int .i64 k ∧ Hid (∀ j, j < k → tenantFault C (tenAt ts j) = 0) ∧ CfgAt wr w.heap.size F C (some ⟨b, off, none⟩) n cc ∧ Below w.heap.size w wr) (fun i _ => n - (intOf i).toNat)
  case atStart => exact ⟨0, Nat.zero_le _, rfl, fun j hj => by omega, four_new.1, four_new.2⟩
  case round =>
    obtain ⟨k, hk, rfl, HW, hcf, hbw⟩ := hrel
    obtain ⟨c0, c1, c2, c3⟩ := hcf.cells
    by_cases hlt : k < n
    · obtain ⟨d0, a, l, c, hlc, e0, e1, hI⟩ := (hten k hlt).below hbw
      have hl : l ≤ 17592186044416 := by have := HS.out.at_ k; have := hI.1; omega
      have h4 : tenAt ts k = ((tenAt ts k).1, (tenAt ts k).2) := rfl
      by_cases h0 : tenantFault C (tenAt ts k) = 0
      · have HH : Hid (∀ j, j < k + 1 → tenantFault C (tenAt ts j) = 0) := fun j hj => by
          by_cases e : j = k
          · rw [e]; exact h0
          · exact HW.out j (by omega)
        have H0 := Lib.hid h0
        clear h0 h4
        go_wp2_with fail
        refine (tenantFault_calls hC.1 hC.2 (hI.alloc _) hl).mono ?_
        rintro e w1 ⟨rfl, hb1⟩
        rw [H0.out]
        have R1 : CfgAt w1 w.heap.size F C (some ⟨b, off, none⟩) n cc := Row.below hcf (below_past hb1)
        have hbw1 := hbw.trans ((below_past hb1).mono hbw.size)
        clear hb1
        go_wp2_with fail
        go_roundw
        case rel => exact ⟨k + 1, by omega, by go_num, HH, R1, hbw1⟩
        case measure => simp [intOf]; omega
      · have HF := Lib.hid (show configFault F C ts = tenantFault C (tenAt ts k) by
          have e := firstFault_at (by rw [HL.out]; exact hlt) HW.out h0
          rw [HA.out, if_neg (by rw [e]; exact h0), e])
        have h0' : (tenantFault C (tenAt ts k) != 0) = true := by simpa [bne_iff_ne] using h0
        clear h0 h4
        go_wp2_with fail
        refine (tenantFault_calls hC.1 hC.2 (hI.alloc _) hl).mono ?_
        rintro e w1 ⟨rfl, hb1⟩
        have hbw1 := hbw.trans ((below_past hb1).mono hbw.size)
        clear hb1
        go_wp2_with fail
        go_ret
        exact ⟨ret_int HF.out.symm, hbw1⟩
    · have HB := Lib.hid (show configFault F C ts = (if shared ts = true then 6 else 0) by
        rw [HA.out, if_pos (firstFault_ok fun j hj => HW.out j (by rw [HL.out] at hj; omega))])
      go_wp2_with fail
      refine (isColourShared_calls (hT.below hbw) hcc hn13.2 (fun j hj => HW.out j (by omega)) hC.1 hC.2).mono ?_
      rintro e w1 ⟨rfl, hb1⟩
      have hbw1 := hbw.trans (hb1.mono hbw.size)
      clear hb1
      rcases hS : shared ts with _ | _
      all_goals
        have HG := HB.out
        rw [hS] at HG
        simp at HG
        have HF := Lib.hid HG
        clear HG
        go_wp2_with fail
        go_ret
        exact ⟨ret_int HF.out.symm, hbw1⟩
end Go.Proofs.Ytoaeglhjaandmaa

/- Chapter 2 as the model has it: the contract of each of its functions. -/
namespace Go.Proofs.Ytoaeglhjaandmaa
set_option maxRecDepth 100000
open Go.RowKit

theorem quiet_left {P : Program} {f : FuncId} {args : Array Value} {w : World} {n : Nat} {v : Value}
    (h : Calls P f args (w.drewN n) fun e w' => e = .returned v ∧ w.drewN n = w') : Calls P f args (w.drewN n) fun e w'' => e = .returned v ∧ ∃ m, w'' = w.drewN m :=
  h.mono fun _ _ ⟨he, hm⟩ => ⟨he, n, hm.symm⟩

set_option maxHeartbeats 1000000 in
theorem l2Tenant_calls {p b o : Nat} {C : Int} {t : List Int × Int} {w : World} (hC0 : 1 ≤ C) (hC1 : C ≤ 8) (hp : w.cell? ⟨p, 1, none⟩ = some (.int .i64 C)) (ht : Ten w b o t) (hx : t.1.length ≤ 17592186044416) :
    Calls Try.prog 113 #[.pointer (some ⟨p, 0, none⟩), .pointer (some ⟨b, o, none⟩)] w fun e w' => e = .returned (.int .i64 (tenantFault C t)) ∧ Below w.heap.size w w' := by
  have hpl := World.block_lt_of_cell? _ _ hp
  obtain ⟨xs, cpus⟩ := t
  obtain ⟨hb, a, m, c, hmc, h0, h1, hi⟩ := ht
  have hx : xs.length ≤ 17592186044416 := hx
  have hi : Ints w a m xs := hi
  have h1 : w.cell? ⟨b, o + 1, none⟩ = some (.int .i64 cpus) := h1
  have HL := Lib.hid hi.1
  have hm : m ≤ 17592186044416 := by have := hi.1; omega
  rcases hW : within 1 2 [cpus] with _ | _
  · have HF := Lib.hid (show tenantFault C (xs, cpus) = 3 by simp [tenantFault, hW])
    go_enter Try.func113, Try.ntmps113
    go_wp2_with (go_at_call 59; refine l1In_calls.mono ?_; rintro e w' ⟨rfl, rfl⟩)
    go_ret
    exact ⟨ret_int HF.out.symm, Below.refl _ _⟩
  · have HA := Lib.hid (show tenantFault C (xs, cpus) = if within 0 (C - 1) xs = true then (if rising xs = true then 0 else 1) else 3 by simp [tenantFault, hW])
    go_enter Try.func113, Try.ntmps113
    go_wp2_with (go_at_call 59; refine l1In_calls.mono ?_; rintro e w' ⟨rfl, rfl⟩)
    go_loopw [5] (fun i wr => ∃ k : Nat, k ≤ m ∧ i = .int .i64 k ∧ Hid (within 0 (C - 1) (xs.take k) = true) ∧ Below w.heap.size w wr) (fun i _ => m - (intOf i).toNat)
    case atStart => exact ⟨0, Nat.zero_le _, rfl, rfl, Below.refl _ _⟩
    case round =>
      obtain ⟨k, hk, rfl, HW, hbw⟩ := hrel
      have h0 := (hbw.cell (p := ⟨b, o, none⟩) hb).trans h0
      have hp := (hbw.cell (p := ⟨p, 1, none⟩) hpl).trans hp
      by_cases hlt : k < m
      · obtain ⟨ba, oa, rfl, hba, hca⟩ := (hi.below hbw).at_ hlt
        have hkx : k < xs.length := by rw [HL.out]; exact hlt
        rcases hV : within 0 (C - 1) [xs[k]] with _ | _
        · have HF := Lib.hid (show tenantFault C (xs, cpus) = 3 by rw [HA.out, within_one_no hkx hV]; rfl)
          go_wp2_with (go_quiet ((go_at_call 59; exact quiet_left l1In_calls)))
          go_ret
          exact ⟨ret_int HF.out.symm, below_drewN hbw _⟩
        · have HS := Lib.hid (within_one_snoc hkx hV HW.out)
          go_wp2_with (go_quiet ((go_at_call 59; exact quiet_left l1In_calls)))
          go_roundw
          case rel => exact ⟨k + 1, by omega, by go_num, HS, below_drewN hbw _⟩
          case measure => simp [intOf]; omega
      · have HB := Lib.hid (show tenantFault C (xs, cpus) = if rising xs = true then 0 else 1 by
          have := HW.out
          rw [List.take_of_length_le (by have := HL.out; omega)] at this
          rw [HA.out, if_pos this])
        go_wp2
        go_loopw [6] (fun i wr => ∃ k : Nat, 1 ≤ k ∧ (k ≤ m ∨ k = 1) ∧ i = .int .i64 k ∧ Hid (risingTo xs k) ∧ Below w.heap.size w wr) (fun i _ => m - (intOf i).toNat)
        case atStart => exact ⟨1, Nat.le_refl _, .inr rfl, rfl, fun i h1 h2 => by omega, hbw⟩
        case round =>
          obtain ⟨k, hk1, hk, rfl, HW, hbw⟩ := hrel
          have h0 := (hbw.cell (p := ⟨b, o, none⟩) hb).trans ‹w.cell? ⟨b, o, none⟩ = _›
          by_cases hlt : k < m
          · obtain ⟨ba, oa, rfl, hba, hca⟩ := (hi.below hbw).at_ hlt
            obtain ⟨ba', oa', he, _, hcb⟩ := (hi.below hbw).at_ (show k - 1 < m by omega)
            simp only [Option.some.injEq, Addr.mk.injEq, and_true] at he
            obtain ⟨rfl, rfl⟩ := he
            have hkx : k < xs.length := by rw [HL.out]; exact hlt
            have hkx' : k - 1 < xs.length := by omega
            have e1 : xs.getD k 0 = xs[k] := by simp [List.getD, hkx]
            have e2 : xs.getD (k - 1) 0 = xs[k - 1] := by simp [List.getD, hkx']
            have q1 : IntKind.i64.wrap ((k : Int) - 1) = (k : Int) - 1 := IntWalk.i64_in _ (by omega)
            have q2 : (0 : Int) ≤ (k : Int) - 1 := by omega
            have q3 : ((k : Int) - 1).toNat = k - 1 := by omega
            have q4 : (k : Int) - 1 < (m : Int) := by omega
            by_cases hlv : xs[k] ≤ xs[k - 1]
            · have HF := Lib.hid (show tenantFault C (xs, cpus) = 1 by rw [HB.out, rising_no hk1 hkx (by rw [e1, e2]; omega)]; rfl)
              clear e1 e2
              go_wp2_with (go_quiet (fail))
              go_ret
              exact ⟨ret_int HF.out.symm, below_drewN hbw _⟩
            · have HS := Lib.hid (risingTo_succ HW.out (by rw [e1, e2]; omega))
              clear e1 e2
              go_wp2_with (go_quiet (fail))
              go_roundw
              case rel => exact ⟨k + 1, by omega, by omega, by go_num, HS, below_drewN hbw _⟩
              case measure => simp [intOf]; omega
          · have HF := Lib.hid (show tenantFault C (xs, cpus) = 0 by
              rw [HB.out, if_pos]
              rw [rising_iff]
              intro i i1 i2
              exact HW.out i i1 (by have := HL.out; omega))
            go_wp2
            go_ret
            exact ⟨ret_int HF.out.symm, hbw⟩

set_option maxHeartbeats 2000000 in
theorem sConfigFault_calls {ao : Option Addr} {n cc : Nat} {F C : Int} {ts : List (List Int × Int)} {w : World} (hT : Tens w ao n ts) (hS : Short 17592186044416 ts) (hcc : n ≤ cc) (hn : n ≤ 17592186044416) :
    Calls Try.prog 98 #[.agg #[.int .i64 F, .int .i64 C, .slice ao n cc]] w fun e w' => e = .returned (.int .i64 (configFault F C ts)) ∧ Below w.heap.size w w' := by
  have HL := Lib.hid hT.1
  have HS := Lib.hid hS
  rcases hWF : within 1 40 [F] with _ | _
  · have HF := Lib.hid (show configFault F C ts = 3 by simp [configFault, hWF])
    go_enter Try.func98, Try.ntmps98
    go_wp2_with (go_at_call 59; refine l1In_calls.mono ?_; rintro e w' ⟨rfl, rfl⟩)
    go_ret
    exact ⟨ret_int HF.out.symm, (Below.refl _ _).alloc (Nat.le_refl _) _⟩
  rcases hWC : within 1 8 [C] with _ | _
  · have HF := Lib.hid (show configFault F C ts = 3 by simp [configFault, hWC])
    go_enter Try.func98, Try.ntmps98
    go_wp2_with (go_at_call 59; refine l1In_calls.mono ?_; rintro e w' ⟨rfl, rfl⟩)
    go_ret
    exact ⟨ret_int HF.out.symm, (Below.refl _ _).alloc (Nat.le_refl _) _⟩
  have hC : 1 ≤ C ∧ C ≤ 8 := by rw [within_one] at hWC; simpa using hWC
  by_cases hn1 : 1 ≤ n
  rotate_left
  · have HF := Lib.hid (show configFault F C ts = 2 by unfold configFault; rw [if_pos ⟨hWF, hWC⟩, if_neg (by rw [HL.out]; omega)])
    go_enter Try.func98, Try.ntmps98
    go_wp2_with (go_at_call 59; refine l1In_calls.mono ?_; rintro e w' ⟨rfl, rfl⟩)
    go_ret
    exact ⟨ret_int HF.out.symm, (Below.refl _ _).alloc (Nat.le_refl _) _⟩
  by_cases hn3 : n ≤ 3
  rotate_left
  · have HF := Lib.hid (show configFault F C ts = 2 by unfold configFault; rw [if_pos ⟨hWF, hWC⟩, if_neg (by rw [HL.out]; omega)])
    go_enter Try.func98, Try.ntmps98
    go_wp2_with (go_at_call 59; refine l1In_calls.mono ?_; rintro e w' ⟨rfl, rfl⟩)
    go_ret
    exact ⟨ret_int HF.out.symm, (Below.refl _ _).alloc (Nat.le_refl _) _⟩
  have HA := Lib.hid (show configFault F C ts = (if firstFault C ts = 0 then (if shared ts = true then 6 else 0) else firstFault C ts) by unfold configFault; rw [if_pos ⟨hWF, hWC⟩, if_pos (by rw [HL.out]; omega)])
  obtain ⟨b, off, rfl, hb, hten⟩ := hT.2 hn1
  go_enter Try.func98, Try.ntmps98
  go_wp2_with (go_at_call 59; refine l1In_calls.mono ?_; rintro e w' ⟨rfl, rfl⟩)
  go_loopw [3] (fun i wr => ∃ k : Nat, k ≤ n ∧ i = .int .i64 k ∧ Hid (∀ j, j < k → tenantFault C (tenAt ts j) = 0) ∧ CfgAt wr w.heap.size F C (some ⟨b, off, none⟩) n cc ∧ Below w.heap.size w wr) (fun i _ => n - (intOf i).toNat)
  case atStart => exact ⟨0, Nat.zero_le _, rfl, fun j hj => by omega, heap_alloc_new _ _, (Below.refl _ _).alloc (Nat.le_refl _) _⟩
  case round =>
    obtain ⟨k, hk, rfl, HW, hcf, hbw⟩ := hrel
    obtain ⟨c0, c1, c2, c3⟩ := hcf.cells
    by_cases hlt : k < n
    · have hTk := (hten k hlt).below hbw
      by_cases h0 : tenantFault C (tenAt ts k) = 0
      · have HH : Hid (∀ j, j < k + 1 → tenantFault C (tenAt ts j) = 0) := fun j hj => by
          by_cases e : j = k
          · rw [e]; exact h0
          · exact HW.out j (by omega)
        have H0 := Lib.hid h0
        clear h0
        go_wp2_with fail
        refine (l2Tenant_calls hC.1 hC.2 c2 hTk (HS.out.at_ k)).mono ?_
        rintro e w1 ⟨rfl, hb1⟩
        rw [H0.out]
        have R1 : CfgAt w1 w.heap.size F C (some ⟨b, off, none⟩) n cc := Row.below hcf hb1
        go_wp2_with fail
        go_roundw
        case rel => exact ⟨k + 1, by omega, by go_num, HH, R1, hbw.trans (hb1.mono hbw.size)⟩
        case measure => simp [intOf]; omega
      · have HF := Lib.hid (show configFault F C ts = tenantFault C (tenAt ts k) by
          have e := firstFault_at (by rw [HL.out]; exact hlt) HW.out h0
          rw [HA.out, if_neg (by rw [e]; exact h0), e])
        have h0' : (tenantFault C (tenAt ts k) != 0) = true := by simpa [bne_iff_ne] using h0
        clear h0
        go_wp2_with fail
        refine (l2Tenant_calls hC.1 hC.2 c2 hTk (HS.out.at_ k)).mono ?_
        rintro e w1 ⟨rfl, hb1⟩
        go_wp2_with fail
        go_ret
        exact ⟨ret_int HF.out.symm, hbw.trans (hb1.mono hbw.size)⟩
    · have HB := Lib.hid (show configFault F C ts = (if shared ts = true then 6 else 0) by
        rw [HA.out, if_pos (firstFault_ok fun j hj => HW.out j (by rw [HL.out] at hj; omega))])
      go_wp2
      go_loopw [5] (fun i wr => ∃ k : Nat, k ≤ n ∧ i = .int .i64 k ∧ Hid (NoShare ts k) ∧ CfgAt wr w.heap.size F C (some ⟨b, off, none⟩) n cc ∧ Below w.heap.size w wr) (fun i _ => n - (intOf i).toNat)
      case atStart => exact ⟨0, Nat.zero_le _, rfl, NoShare.zero _, hcf, hbw⟩
      case round =>
        obtain ⟨i, hi, rfl, HW, hcf, hbw⟩ := hrel
        obtain ⟨c0, c1, c2, c3⟩ := hcf.cells
        by_cases hlt : i < n
        · have hTi := hten i hlt
          have HI := Lib.hid (HS.out.at_ i)
          go_wp2
          go_loopw [6] (fun t wr => ∃ k : Nat, k ≤ i ∧ t = .int .i64 k ∧ Hid (NoShare2 ts i k) ∧ CfgAt wr w.heap.size F C (some ⟨b, off, none⟩) n cc ∧ Below w.heap.size w wr) (fun t _ => i - (intOf t).toNat)
          case atStart => exact ⟨0, Nat.zero_le _, rfl, NoShare2.zero _ _, hcf, hbw⟩
          case round =>
            obtain ⟨k, hk, rfl, HW2, hcf, hbw⟩ := hrel
            obtain ⟨c0, c1, c2, c3⟩ := hcf.cells
            by_cases hlk : k < i
            · have hTk := hten k (by omega)
              have HK := Lib.hid (HS.out.at_ k)
              obtain ⟨xs, hxs⟩ : ∃ xs, (tenAt ts i).1 = xs := ⟨_, rfl⟩
              obtain ⟨ys, hys⟩ : ∃ ys, (tenAt ts k).1 = ys := ⟨_, rfl⟩
              have HXS := Lib.hid hxs
              have HYS := Lib.hid hys
              go_wp2
              go_loopw [7] (fun t wr => ∃ m : Nat, m ≤ xs.length ∧ t = .int .i64 m ∧ Hid (NoShare3 ts i k m) ∧ CfgAt wr w.heap.size F C (some ⟨b, off, none⟩) n cc ∧ Below w.heap.size w wr) (fun t _ => xs.length - (intOf t).toNat)
              case atStart => exact ⟨0, Nat.zero_le _, rfl, NoShare3.zero _ _ _, hcf, hbw⟩
              case round =>
                obtain ⟨m, hm, rfl, HW3, hcf, hbw⟩ := hrel
                obtain ⟨c0, c1, c2, c3⟩ := hcf.cells
                obtain ⟨d0, ai, mi, ci, hci, e0, _, hIi⟩ := hTi.below hbw
                obtain ⟨d1, ak, mk, ck, hck, f0, _, hIk⟩ := hTk.below hbw
                rw [hxs] at hIi
                rw [hys] at hIk
                have hmi : xs.length = mi := hIi.1
                have hmk : mk ≤ 17592186044416 := by have := HK.out; rw [HYS.out] at this; have := hIk.1; omega
                have hmi' : xs.length ≤ 17592186044416 := by have := HI.out; rw [HXS.out] at this; exact this
                subst hmi
                clear hxs hys
                by_cases hlm : m < xs.length
                · obtain ⟨ba, oa, rfl, hba, hca⟩ := hIi.at_ hlm
                  rcases hV : hasIn ys xs[m] with _ | _
                  · have HN := Lib.hid (HW3.out.succ (by rw [HXS.out]; exact hlm) (by unfold hasColour; simp only [HXS.out, HYS.out]; exact hV))
                    go_wp2_with (go_quiet ((go_at_call 68; exact quiet_left (l1Has_calls hIk hmk))))
                    any_goals (first | (exact absurd ((‹hasIn ys xs[m] = true›).symm.trans hV) (by decide)) | skip)
                    go_roundw
                    case rel => exact ⟨m + 1, by omega, by go_num, HN, hcf, below_drewN hbw _⟩
                    case measure => simp [intOf]; omega
                  · have HF := Lib.hid (show configFault F C ts = 6 by
                      rw [HB.out, if_pos]
                      exact shared_yes (by rw [HL.out]; exact hlt) hlk (by rw [HXS.out]; exact hlm) (by unfold hasColour; simp only [HXS.out, HYS.out]; exact hV))
                    go_wp2_with (go_quiet ((go_at_call 68; exact quiet_left (l1Has_calls hIk hmk))))
                    any_goals (first | (exact absurd (hV.symm.trans (‹hasIn ys xs[m] = false›)) (by decide)) | skip)
                    go_ret
                    exact ⟨ret_int HF.out.symm, below_drewN hbw _⟩
                · have HN := Lib.hid (HW2.out.succ (by have := HW3.out; rw [show m = (tenAt ts i).1.length by rw [HXS.out]; omega] at this; exact this))
                  go_wp2
                  go_roundw
                  case rel => exact ⟨k + 1, by omega, by go_num, HN, hcf, hbw⟩
                  case measure => simp [intOf]; omega
            · have HN := Lib.hid (HW.out.succ (by have := HW2.out; rw [show k = i by omega] at this; exact this))
              go_wp2
              go_roundw
              case rel => exact ⟨i + 1, by omega, by go_num, HN, hcf, hbw⟩
              case measure => simp [intOf]; omega
        · have HF := Lib.hid (show configFault F C ts = 0 by
            rw [HB.out, if_neg]
            rw [shared_no (by have := HW.out; rw [show i = ts.length by rw [HL.out]; omega] at this; exact this)]
            simp)
          go_wp2
          go_ret
          exact ⟨ret_int HF.out.symm, hbw⟩
end Go.Proofs.Ytoaeglhjaandmaa

/- Chapter 2 as the model has it, the second part. -/
namespace Go.Proofs.Ytoaeglhjaandmaa
set_option maxRecDepth 100000
open Go.RowKit

theorem l2There_calls {p n cc : Nat} {ao : Option Addr} {F C t : Int} {w : World} (hc : CfgAt w p F C ao n cc) (hn : n ≤ 17592186044416) :
    Calls Try.prog 99 #[.pointer (some ⟨p, 0, none⟩), .int .i64 t] w fun e w' => e = .returned (.bool (within 0 ((n : Int) - 1) [t])) ∧ w = w' := by
  obtain ⟨c0, c1, c2, c3⟩ := hc.cells
  go_enter Try.func99, Try.ntmps99
  go_wp2_with (go_at_call 59; refine l1In_calls.mono ?_; rintro e w' ⟨rfl, rfl⟩)
  go_ret
  exact ⟨rfl, rfl⟩

set_option maxHeartbeats 1000000 in
theorem l2Frames_calls {p n cc k m : Nat} {ao : Option Addr} {C : Int} {ts : List (List Int × Int)} {w : World} (hc : CfgAt w p (m : Int) C ao n cc) (hT : Tens w ao n ts) (hS : Short 17592186044416 ts) (hcc : n ≤ cc) (hn : n ≤ 17592186044416) (hk : k < n) (hm : m ≤ 40) (hC0 : 1 ≤ C) (hC1 : C ≤ 8) :
    Calls Try.prog 91 #[.pointer (some ⟨p, 0, none⟩), .int .i64 (k : Int)] w (Makes w (framesTo C (tenAt ts k) m).length (framesTo C (tenAt ts k) m)) := by
  obtain ⟨c0, c1, c2, c3⟩ := hc.cells
  obtain ⟨b, off, rfl, hb, hten⟩ := hT.2 (by omega)
  have hK := hten k hk
  have HS := Lib.hid (hS.at_ k)
  go_enter Try.func91, Try.ntmps91
  go_wp2
  go_loopw [5, 6] (fun v i wr => ∃ j : Nat, j ≤ m ∧ i = .int .i64 j ∧ OwnE wr w.heap.size v (framesTo C (tenAt ts k) j).length (framesTo C (tenAt ts k) j) ∧ Below w.heap.size w wr) (fun _ i _ => m - (intOf i).toNat)
  case atStart => exact ⟨0, Nat.zero_le _, rfl, OwnE.made (Nat.le_refl _) rfl, (Below.refl _ _).alloc (Nat.le_refl _) _⟩
  case round =>
    rename_i v _
    obtain ⟨j, hj, rfl, HO, hbw⟩ := hrel
    have c1 := (hbw.cell (p := ⟨p, 0, none⟩) c0).trans c1
    have c2 := (hbw.cell (p := ⟨p, 1, none⟩) c0).trans c2
    have c3 := (hbw.cell (p := ⟨p, 2, none⟩) c0).trans c3
    have hp := Nat.lt_of_lt_of_le c0 hbw.size
    by_cases hlt : j < m
    · have hlt' : (j : Int) < (m : Int) := by omega
      obtain ⟨d0, a, l, c, hlc, e0, _, hI⟩ := hK.below hbw
      have hl : l ≤ 17592186044416 := by have := HS.out; have := hI.1; omega
      have hq : Int.tmod (j : Int) C = (j : Int) % C := Int.tmod_eq_emod_of_nonneg (by omega)
      rcases hV : hasIn (tenAt ts k).1 ((j : Int) % C) with _ | _
      · have HE := Lib.hid (framesTo_no (C := C) (t := tenAt ts k) (n := j) hV)
        have hO1 := HE.out.symm ▸ HO
        have F := Lib.hid hO1
        clear hO1
        go_wp2_with (go_quiet ((go_at_call 68; exact quiet_left (l1Has_calls hI hl))))
        any_goals (first | (exact absurd ((‹hasIn (tenAt ts k).1 ((j : Int) % C) = true›).symm.trans hV) (by decide)) | skip)
        go_roundw
        case rel => exact ⟨j + 1, by omega, by go_num, F.out, below_drewN hbw _⟩
        case measure => simp [intOf]; omega
      · have HE := Lib.hid (framesTo_yes (C := C) (t := tenAt ts k) (n := j) hV)
        have hL := length_framesTo C (tenAt ts k) j
        go_wp2_with (first
          | (at_builtin; go_must (refine wpList_append_one rfl _ _ rfl rfl (HO.below ((below_drewN (Below.refl _ _) _).alloc (Nat.le_refl _) _)) rfl (u := (j : Int)) (cell_one rfl) (by omega) ((below_drewN hbw _).alloc hbw.size _).size ?_); intro v' w2 hO2 hB2 hg2)
          | (go_quiet ((go_at_call 68; exact quiet_left (l1Has_calls hI hl)))))
        any_goals (first | (exact absurd (hV.symm.trans (‹hasIn (tenAt ts k).1 ((j : Int) % C) = false›)) (by decide)) | skip)
        have F : Hid (OwnE w2 w.heap.size v' (framesTo C (tenAt ts k) (j + 1)).length (framesTo C (tenAt ts k) (j + 1)) ∧ Below w.heap.size w w2) := by
          refine ⟨?_, hB2 w ((below_drewN hbw _).alloc hbw.size _)⟩
          rw [HE.out, List.length_append]; exact hO2
        clear hO2 hB2 hg2
        go_wp2
        go_roundw
        case rel => exact ⟨j + 1, by omega, by go_num, F.out.1, F.out.2⟩
        case measure => simp [intOf]; omega
    · obtain rfl : j = m := by omega
      have HF := Lib.hid (And.intro HO.own hbw)
      clear HO hbw
      go_wp2
      go_ret
      exact ⟨_, rfl, HF.out.1, HF.out.2⟩
end Go.Proofs.Ytoaeglhjaandmaa

/- Chapter 2 as the model has it, the third part. -/
namespace Go.Proofs.Ytoaeglhjaandmaa
set_option maxRecDepth 100000
open Go.RowKit

set_option maxHeartbeats 1000000 in
theorem sFramesFor_calls {ao : Option Addr} {n cc : Nat} {F C t : Int} {ts : List (List Int × Int)} {w : World} (hT : Tens w ao n ts) (hS : Short 17592186044416 ts) (hcc : n ≤ cc) (hn : n ≤ 17592186044416) :
    Calls Try.prog 67 #[.agg #[.int .i64 F, .int .i64 C, .slice ao n cc], .int .i64 t] w (RetsInts w (framesFor F C ts t)) := by
  have HL := Lib.hid hT.1
  by_cases h0 : configFault F C ts = 0
  rotate_left
  · have HF := Lib.hid (show framesFor F C ts t = (configFault F C ts, []) by unfold framesFor; rw [if_neg h0])
    have h1 : (configFault F C ts != 0) = true := by simpa [bne_iff_ne] using h0
    clear h0
    go_enter Try.func67, Try.ntmps67
    go_wp2_with fail
    refine (sConfigFault_calls ((hT.alloc _).alloc _) hS hcc hn).mono ?_
    rintro e w1 ⟨rfl, hb1⟩
    obtain ⟨hc, hres, hb, hs⟩ := two_new hb1
    clear hb1
    go_wp2_with (refine wpList_store_row rfl 60 _ _ rfl (w.heap.size + 1) _ rfl rfl _ _ hres (by kernel_rfl) (by rfl) (by simp [Value.oneCell']) ?_)
    refine bodyPost_ret (results_cell_row rfl _ _ (w.heap.size + 1) _ _ _ _ rfl (setRow_heap w1 _ _ _ _ _ hres) Try.underlying60 rfl (by kernel_rfl)) rfl ?_
    exact rets_done hb (by omega) (OwnI.nil _ (w.heap.size + 2)) (by omega) _ HF.out
  have hcf := configFault_ok h0
  have HA := Lib.hid (show framesFor F C ts t = (if within 0 ((n : Int) - 1) [t] = true then (0, framesTo C (tenAt ts t.toNat) F.toNat) else (4, [])) by unfold framesFor; rw [if_pos h0, HL.out])
  have H0 := Lib.hid h0
  clear h0
  rcases hW : within 0 ((n : Int) - 1) [t] with _ | _
  · have HF := Lib.hid (show framesFor F C ts t = (4, []) by rw [HA.out, hW]; rfl)
    go_enter Try.func67, Try.ntmps67
    go_wp2_with fail
    refine (sConfigFault_calls ((hT.alloc _).alloc _) hS hcc hn).mono ?_
    rintro e w1 ⟨rfl, hb1⟩
    rw [H0.out]
    obtain ⟨hc, hres, hb, hs⟩ := two_new hb1
    clear hb1
    go_wp2_with (first
      | (go_at_call 99; refine (l2There_calls hc hn).mono ?_; rintro e w' ⟨rfl, rfl⟩)
      | (refine wpList_store_row rfl 60 _ _ rfl (w.heap.size + 1) _ rfl rfl _ _ hres (by kernel_rfl) (by rfl) (by simp [Value.oneCell']) ?_))
    refine bodyPost_ret (results_cell_row rfl _ _ (w.heap.size + 1) _ _ _ _ rfl (setRow_heap _ _ _ _ _ _ hres) Try.underlying60 rfl (by kernel_rfl)) rfl ?_
    exact rets_done hb (by omega) (OwnI.nil _ (w.heap.size + 2)) (by omega) _ HF.out
  · have ht : 0 ≤ t ∧ t ≤ (n : Int) - 1 := by rw [within_one] at hW; simpa using hW
    obtain ⟨k, rfl⟩ : ∃ k : Nat, t = k := ⟨t.toNat, by omega⟩
    obtain ⟨m, rfl⟩ : ∃ m : Nat, F = m := ⟨F.toNat, by omega⟩
    have HF := Lib.hid (show framesFor (m : Int) C ts (k : Int) = (0, framesTo C (tenAt ts k) m) by rw [HA.out, hW]; rfl)
    go_enter Try.func67, Try.ntmps67
    go_wp2_with fail
    refine (sConfigFault_calls ((hT.alloc _).alloc _) hS hcc hn).mono ?_
    rintro e w1 ⟨rfl, hb1⟩
    rw [H0.out]
    have hT1 := ((hT.alloc _).alloc _).below hb1
    obtain ⟨hc, hres, hb, hs⟩ := two_new hb1
    clear hb1
    go_wp2_with (go_at_call 99; refine (l2There_calls hc hn).mono ?_; rintro e w' ⟨rfl, rfl⟩)
    refine (l2Frames_calls (k := k) hc hT1 hS hcc hn (by omega) (by omega) (by omega) (by omega)).mono ?_
    rintro e w2 ⟨v, rfl, hown, hb2⟩
    have hres2 := (hb2.block (w.heap.size + 1) (by omega)).trans hres
    obtain ⟨vo, vc, rfl, _, _, _⟩ := hown.shape
    have F2 := Lib.hid (And.intro hown (hb.trans (hb2.mono hb.size)))
    clear hown hb2 hT1
    go_wp2_with (refine wpList_store_row rfl 60 _ _ rfl (w.heap.size + 1) _ rfl rfl _ _ hres2 (by kernel_rfl) (by rfl) (by simp [Value.oneCell']) ?_)
    refine bodyPost_ret (results_cell_row rfl _ _ (w.heap.size + 1) _ _ _ _ rfl (setRow_heap _ _ _ _ _ _ hres2) Try.underlying60 rfl (by kernel_rfl)) rfl ?_
    exact rets_done F2.out.2 (by omega) F2.out.1 (by omega) _ HF.out

theorem ownerOf_found {F C f c : Int} {ts : List (List Int × Int)} {k : Nat} (h : colourOf F C ts f = (0, c)) (hk : k < ts.length) (h0 : ∀ j, j < k → hasColour (tenAt ts j) c = false) (h1 : hasColour (tenAt ts k) c = true) : ownerOf F C ts f = (0, (k : Int)) := by
  unfold ownerOf
  simp only [h]
  rw [if_pos trivial, holdersTo_head hk h0 h1]
theorem ownerOf_none {F C f c : Int} {ts : List (List Int × Int)} (h : colourOf F C ts f = (0, c)) (h0 : ∀ j, j < ts.length → hasColour (tenAt ts j) c = false) : ownerOf F C ts f = (4, 0) := by
  unfold ownerOf
  simp only [h]
  rw [if_pos trivial, holdersTo_none h0]; rfl
theorem colourOf_zero {F C f : Int} {ts : List (List Int × Int)} (h : (colourOf F C ts f).1 ≠ 0) : (colourOf F C ts f).2 = 0 := by
  unfold colourOf at *
  split
  · split
    · rename_i h1 h2
      rw [if_pos h1, if_pos h2] at h; exact absurd rfl h
    · rfl
  · rfl
theorem colourOf_ok {F C f : Int} {ts : List (List Int × Int)} (h : (colourOf F C ts f).1 = 0) : colourOf F C ts f = (0, f % C) ∧ configFault F C ts = 0 ∧ 0 ≤ f ∧ f < F := by
  unfold colourOf at *
  split at h
  · rename_i h1
    split at h
    · rename_i h2
      rw [if_pos h1, if_pos h2]
      rw [within_one] at h2
      simp at h2
      exact ⟨rfl, h1, h2.1, by omega⟩
    · simp at h
  · rename_i h1; exact absurd h h1

end Go.Proofs.Ytoaeglhjaandmaa

/- Chapter 2 as the program has it: colours, frames, room and owners. -/
namespace Go.Proofs.Ytoaeglhjaandmaa
set_option maxRecDepth 100000
open Go.RowKit

set_option maxHeartbeats 1000000 in
theorem colourOf_calls {ao : Option Addr} {n cc : Nat} {F C f : Int} {ts : List (List Int × Int)} {w : World} (hT : Tens w ao n ts) (hS : Short 17592186044416 ts) (hcc : n ≤ cc) (hn : n ≤ 17592186044416) :
    Calls Try.prog 69 #[.agg #[.int .i64 F, .int .i64 C, .slice ao n cc], .int .i64 f] w (Pair w (colourOf F C ts f)) := by
  by_cases h0 : configFault F C ts = 0
  rotate_left
  · have HF := Lib.hid (show colourOf F C ts f = (configFault F C ts, 0) by unfold colourOf; rw [if_neg h0])
    have h1 : (configFault F C ts != 0) = true := by simpa [bne_iff_ne] using h0
    clear h0
    go_enter Try.func69, Try.ntmps69
    go_wp2_with fail
    refine (configFault_calls ((hT.alloc _).alloc _) hS hcc hn).mono ?_
    rintro e w1 ⟨rfl, hb1⟩
    obtain ⟨hc, hres, hb, hs⟩ := two_new hb1
    clear hb1
    go_wp2_with (refine wpList_store_row rfl 36 _ _ rfl (w.heap.size + 1) _ rfl rfl _ _ hres (by kernel_rfl) (by rfl) (by simp [Value.oneCell']) ?_)
    refine bodyPost_ret (results_cell_row rfl _ _ (w.heap.size + 1) _ _ _ _ rfl (setRow_heap w1 _ _ _ _ _ hres) Try.underlying36 rfl (by kernel_rfl)) rfl ?_
    exact pair_done hb (by omega) _ HF.out
  have hcf := configFault_ok h0
  have HA := Lib.hid (show colourOf F C ts f = (if within 0 (F - 1) [f] = true then (0, f % C) else (3, 0)) by unfold colourOf; rw [if_pos h0])
  have H0 := Lib.hid h0
  clear h0
  rcases hW : within 0 (F - 1) [f] with _ | _
  · have HF := Lib.hid (show colourOf F C ts f = (3, 0) by rw [HA.out, hW]; rfl)
    go_enter Try.func69, Try.ntmps69
    go_wp2_with fail
    refine (configFault_calls ((hT.alloc _).alloc _) hS hcc hn).mono ?_
    rintro e w1 ⟨rfl, hb1⟩
    rw [H0.out]
    obtain ⟨hc, hres, hb, hs⟩ := two_new hb1
    obtain ⟨c0, c1, c2, c3⟩ := CfgAt.cells hc
    have hres2 := (heap_alloc_old w1 (.cells #[.int .i64 f] 2) (show w.heap.size + 1 < w1.heap.size by omega)).trans hres
    clear hb1
    go_wp2_with (first
      | (go_at_call 54; go_must (refine (allWithin_calls (Ints.one rfl) (by omega)).mono ?_); rintro e w' ⟨rfl, rfl⟩)
      | (refine wpList_store_row rfl 36 _ _ rfl (w.heap.size + 1) _ rfl rfl _ _ hres2 (by kernel_rfl) (by rfl) (by simp [Value.oneCell']) ?_))
    refine bodyPost_ret (results_cell_row rfl _ _ (w.heap.size + 1) _ _ _ _ rfl (setRow_heap _ _ _ _ _ _ hres2) Try.underlying36 rfl (by kernel_rfl)) rfl ?_
    exact pair_done (hb.alloc hb.size _) (by omega) _ HF.out
  · have HF := Lib.hid (show colourOf F C ts f = (0, f % C) by rw [HA.out, hW]; rfl)
    have hf : 0 ≤ f ∧ f ≤ F - 1 := by rw [within_one] at hW; simpa using hW
    go_enter Try.func69, Try.ntmps69
    go_wp2_with fail
    refine (configFault_calls ((hT.alloc _).alloc _) hS hcc hn).mono ?_
    rintro e w1 ⟨rfl, hb1⟩
    rw [H0.out]
    obtain ⟨hc, hres, hb, hs⟩ := two_new hb1
    obtain ⟨c0, c1, c2, c3⟩ := CfgAt.cells hc
    have hres2 := (heap_alloc_old w1 (.cells #[.int .i64 f] 2) (show w.heap.size + 1 < w1.heap.size by omega)).trans hres
    have hs2 : w.heap.size + 1 < (w1.alloc (.cells #[.int .i64 f] 2)).heap.size := by simp; omega
    have HB := Lib.hid (hb.alloc hb.size (.cells #[.int .i64 f] 2))
    clear hb1 hb
    go_wp2_with (go_at_call 54; go_must (refine (allWithin_calls (Ints.one rfl) (by omega)).mono ?_); rintro e w' ⟨rfl, rfl⟩)
    refine (colourAt_calls (by omega) hf.1).mono ?_
    rintro e w2 ⟨rfl, hb2⟩
    have hres3 := (hb2.block (w.heap.size + 1) hs2).trans hres2
    have HB2 := Lib.hid (HB.out.trans (hb2.mono HB.out.size))
    clear hb2
    go_wp2_with (refine wpList_store_row rfl 36 _ _ rfl (w.heap.size + 1) _ rfl rfl _ _ hres3 (by kernel_rfl) (by rfl) (by simp [Value.oneCell']) ?_)
    refine bodyPost_ret (results_cell_row rfl _ _ (w.heap.size + 1) _ _ _ _ rfl (setRow_heap _ _ _ _ _ _ hres3) Try.underlying36 rfl (by kernel_rfl)) rfl ?_
    exact pair_done HB2.out (by omega) _ HF.out

set_option maxHeartbeats 2000000 in
theorem framesFor_calls {ao : Option Addr} {n cc : Nat} {F C t : Int} {ts : List (List Int × Int)} {w : World} (hT : Tens w ao n ts) (hS : Short 17592186044416 ts) (hcc : n ≤ cc) (hn : n ≤ 17592186044416) :
    Calls Try.prog 63 #[.agg #[.int .i64 F, .int .i64 C, .slice ao n cc], .int .i64 t] w (RetsInts w (framesFor F C ts t)) := by
  have HL := Lib.hid hT.1
  by_cases h0 : configFault F C ts = 0
  rotate_left
  · have HF := Lib.hid (show framesFor F C ts t = (configFault F C ts, []) by unfold framesFor; rw [if_neg h0])
    have h1 : (configFault F C ts != 0) = true := by simpa [bne_iff_ne] using h0
    clear h0
    go_enter Try.func63, Try.ntmps63
    go_wp2_with fail
    refine (configFault_calls ((hT.alloc _).alloc _) hS hcc hn).mono ?_
    rintro e w1 ⟨rfl, hb1⟩
    obtain ⟨hc, hres, hb, hs⟩ := two_new hb1
    clear hb1
    go_wp2_with (refine wpList_store_row rfl 60 _ _ rfl (w.heap.size + 1) _ rfl rfl _ _ hres (by kernel_rfl) (by rfl) (by simp [Value.oneCell']) ?_)
    refine bodyPost_ret (results_cell_row rfl _ _ (w.heap.size + 1) _ _ _ _ rfl (setRow_heap w1 _ _ _ _ _ hres) Try.underlying60 rfl (by kernel_rfl)) rfl ?_
    exact rets_done hb (by omega) (OwnI.nil _ (w.heap.size + 2)) (by omega) _ HF.out
  have hcf := configFault_ok h0
  have HA := Lib.hid (show framesFor F C ts t = (if within 0 ((n : Int) - 1) [t] = true then (0, framesTo C (tenAt ts t.toNat) F.toNat) else (4, [])) by unfold framesFor; rw [if_pos h0, HL.out])
  have H0 := Lib.hid h0
  clear h0
  rcases hW : within 0 ((n : Int) - 1) [t] with _ | _
  · have HF := Lib.hid (show framesFor F C ts t = (4, []) by rw [HA.out, hW]; rfl)
    go_enter Try.func63, Try.ntmps63
    go_wp2_with fail
    refine (configFault_calls ((hT.alloc _).alloc _) hS hcc hn).mono ?_
    rintro e w1 ⟨rfl, hb1⟩
    rw [H0.out]
    obtain ⟨hc, hres, hb, hs⟩ := two_new hb1
    obtain ⟨c0, c1, c2, c3⟩ := CfgAt.cells hc
    have hres2 := (heap_alloc_old w1 (.cells #[.int .i64 t] 2) (show w.heap.size + 1 < w1.heap.size by omega)).trans hres
    clear hb1
    go_wp2_with (first
      | (go_at_call 54; go_must (refine (allWithin_calls (Ints.one rfl) (by omega)).mono ?_); rintro e w' ⟨rfl, rfl⟩)
      | (refine wpList_store_row rfl 60 _ _ rfl (w.heap.size + 1) _ rfl rfl _ _ hres2 (by kernel_rfl) (by rfl) (by simp [Value.oneCell']) ?_))
    refine bodyPost_ret (results_cell_row rfl _ _ (w.heap.size + 1) _ _ _ _ rfl (setRow_heap _ _ _ _ _ _ hres2) Try.underlying60 rfl (by kernel_rfl)) rfl ?_
    exact rets_done (hb.alloc hb.size _) (by omega) (OwnI.nil _ (w.heap.size + 2)) (by omega) _ HF.out
  · have ht : 0 ≤ t ∧ t ≤ (n : Int) - 1 := by rw [within_one] at hW; simpa using hW
    obtain ⟨k, rfl⟩ : ∃ k : Nat, t = k := ⟨t.toNat, by omega⟩
    obtain ⟨m, rfl⟩ : ∃ m : Nat, F = m := ⟨F.toNat, by omega⟩
    have HF := Lib.hid (show framesFor (m : Int) C ts (k : Int) = (0, framesTo C (tenAt ts k) m) by rw [HA.out, hW]; rfl)
    have hn3 : n ≤ 3 := by have := HL.out; omega
    have hk : k < n := by omega
    go_enter Try.func63, Try.ntmps63
    go_wp2_with fail
    refine (configFault_calls ((hT.alloc _).alloc _) hS hcc hn).mono ?_
    rintro e w1 ⟨rfl, hb1⟩
    rw [H0.out]
    have hT1 := ((hT.alloc _).alloc _).below hb1
    obtain ⟨hc, hres, hb, hs⟩ := two_new hb1
    obtain ⟨c0, c1, c2, c3⟩ := CfgAt.cells hc
    obtain ⟨W, hWW⟩ : ∃ W, W = w1.alloc (.cells #[.int .i64 (k : Int)] 2) := ⟨_, rfl⟩
    have hbW1 : Below w1.heap.size w1 W := by rw [hWW]; exact (Below.refl _ _).alloc (Nat.le_refl _) _
    have hT2 := hT1.below hbW1
    have hr2 := Row.below hres hbW1
    have hc2 := Row.below hc hbW1
    have hB2 := hb.trans (hbW1.mono hb.size)
    have hs2 := hbW1.size
    clear hb1 hb
    go_wp2_with (go_at_call 54; go_must (refine (allWithin_calls (Ints.one rfl) (by omega)).mono ?_); rintro e w' ⟨rfl, rfl⟩)
    rw [← hWW]
    refine (claimsOf_calls hT2 hcc hn3 (fun j hj => short_of_fault (by omega) (firstFault_all hcf.2.2.2.2.2.2.1 j (by rw [HL.out]; exact hj)))).mono ?_
    rintro e w2 ⟨b, sm, rfl, hbs, hset, hb2⟩
    have hr3 := Row.below hr2 hb2
    have hc3 : CfgAt w2 w.heap.size (m : Int) C ao n cc := Row.below hc2 hb2
    have hB3 := hB2.trans (hb2.mono hB2.size)
    have hs3 := hb2.size
    clear hT1 hT2 hres hc c0 c1 c2 c3 hWW hbW1 hr2 hc2 hB2 hb2
    obtain ⟨c0, c1, c2, c3⟩ := hc3.cells
    go_wp2_with fail
    go_loopw [7, 28] (fun v i wr => ∃ j : Nat, j ≤ m ∧ i = .int .i64 j ∧ OwnE wr w2.heap.size v (framesTo C (tenAt ts k) j).length (framesTo C (tenAt ts k) j) ∧ Below w2.heap.size w2 wr) (fun _ i _ => m - (intOf i).toNat)
    case atStart => exact ⟨0, Nat.zero_le _, rfl, OwnE.nil _ _, Below.refl _ _⟩
    case round =>
      obtain ⟨j, hj, rfl, HO, hbw⟩ := hrel
      by_cases hlt : j < m
      · have hlt' : (j : Int) < (m : Int) := by omega
        have hcw : CfgAt _ _ _ _ _ _ _ := Row.below hc3 hbw
        obtain ⟨c0, c1, c2, c3⟩ := hcw.cells
        have hL := length_framesTo C (tenAt ts k) j
        have hset1 := hset.below hbw
        have hall := claimed_all (ts := ts) (c := (j : Int) % C) hk
        have hq0 : 0 ≤ (j : Int) % C := Int.emod_nonneg _ (by omega)
        have hq1 : (j : Int) % C < C := Int.emod_lt_of_pos _ (by omega)
        go_wp2_with fail
        refine (colourAt_calls (by omega) (by omega)).mono ?_
        rintro e w3 ⟨rfl, hb3⟩
        have hset2 := hset1.below hb3
        have hO3 := HO.below hb3
        have hbw3 := hbw.trans (hb3.mono hbw.size)
        have hs4 := hbw3.size
        clear HO hb3 hset1 c0 c1 c2 c3 hcw
        obtain ⟨q, hq⟩ : ∃ q, q = (j : Int) % C := ⟨_, rfl⟩
        rw [← hq] at hall hq0 hq1 ⊢
        rcases hV : hasColour (tenAt ts k) q with _ | _
        · have HE := Lib.hid (framesTo_no (C := C) (t := tenAt ts k) (n := j) (by rw [← hq]; exact hV))
          have hO1 := HE.out.symm ▸ hO3
          have F := Lib.hid hO1
          rw [hV] at hall
          clear hO1 hV hq
          go_wp2_with (at_lookup; go_must (refine wpList_lookup_set (t := (k : Int)) (c := q) rfl _ _ rfl hset2 rfl rfl (by omega) (by omega) (by omega) (by omega) ?_); rw [hall])
          go_roundw
          case rel => exact ⟨j + 1, by omega, by go_num, F.out, hbw3⟩
          case measure => simp [intOf]; omega
        · have HE := Lib.hid (framesTo_yes (C := C) (t := tenAt ts k) (n := j) (by rw [← hq]; exact hV))
          rw [hV] at hall
          clear hV hq
          go_wp2_with (first
            | (at_lookup; go_must (refine wpList_lookup_set (t := (k : Int)) (c := q) rfl _ _ rfl hset2 rfl rfl (by omega) (by omega) (by omega) (by omega) ?_); rw [hall])
            | (at_builtin; go_must (refine wpList_append_one rfl _ _ rfl rfl (hO3.below ((Below.refl _ _).alloc (Nat.le_refl _) _)) rfl (u := (j : Int)) (cell_one rfl) (by omega) (by simp; omega) ?_); intro v' w4 hO4 hB4 hg4))
          have F : Hid (OwnE w4 w2.heap.size v' (framesTo C (tenAt ts k) (j + 1)).length (framesTo C (tenAt ts k) (j + 1)) ∧ Below w2.heap.size w2 w4) := by
            refine ⟨?_, hB4 w2 (hbw3.alloc hbw3.size _)⟩
            rw [HE.out, List.length_append]; exact hO4
          clear hO4 hB4 hg4
          go_wp2
          go_roundw
          case rel => exact ⟨j + 1, by omega, by go_num, F.out.1, F.out.2⟩
          case measure => simp [intOf]; omega
      · obtain rfl : j = m := by omega
        have hr4 := Row.below hr3 hbw
        have hB4 := hB3.trans (hbw.mono hB3.size)
        obtain ⟨vo, vc, rfl, _, _, _⟩ := HO.own.shape
        have F2 := Lib.hid (And.intro HO.own hB4)
        clear HO hB4
        go_wp2_with (refine wpList_store_row rfl 60 _ _ rfl (w.heap.size + 1) _ rfl rfl _ _ hr4 (by kernel_rfl) (by rfl) (by simp [Value.oneCell']) ?_)
        refine bodyPost_ret (results_cell_row rfl _ _ (w.heap.size + 1) _ _ _ _ rfl (setRow_heap _ _ _ _ _ _ hr4) Try.underlying60 rfl (by kernel_rfl)) rfl ?_
        exact rets_done F2.out.2 (by omega) F2.out.1 (by omega) _ HF.out

set_option maxHeartbeats 1000000 in
theorem ownerOf_calls {ao : Option Addr} {n cc : Nat} {F C f : Int} {ts : List (List Int × Int)} {w : World} (hT : Tens w ao n ts) (hS : Short 17592186044416 ts) (hcc : n ≤ cc) (hn : n ≤ 17592186044416) :
    Calls Try.prog 25 #[.agg #[.int .i64 F, .int .i64 C, .slice ao n cc], .int .i64 f] w (Pair w (ownerOf F C ts f)) := by
  have HL := Lib.hid hT.1
  by_cases h0 : (colourOf F C ts f).1 = 0
  rotate_left
  · have HF := Lib.hid (show ownerOf F C ts f = ((colourOf F C ts f).1, 0) by unfold ownerOf; rw [if_neg h0])
    have h1 : ((colourOf F C ts f).1 != 0) = true := by simpa [bne_iff_ne] using h0
    clear h0
    go_enter Try.func25, Try.ntmps25
    go_wp2_with fail
    refine (colourOf_calls ((hT.alloc _).alloc _) hS hcc hn).mono ?_
    rintro e w1 ⟨rfl, hb1⟩
    obtain ⟨hc, hres, hb, hs⟩ := two_new hb1
    clear hb1
    have hres2 := (heap_alloc_old w1 (.cells #[.int .i64 (colourOf F C ts f).1, .int .i64 (colourOf F C ts f).2] 36) (show w.heap.size + 1 < w1.heap.size by omega)).trans hres
    go_wp2_with (refine wpList_store_row rfl 36 _ _ rfl (w.heap.size + 1) _ rfl rfl _ _ hres2 (by kernel_rfl) (by rfl) (by simp [Value.oneCell']) ?_)
    refine bodyPost_ret (results_cell_row rfl _ _ (w.heap.size + 1) _ _ _ _ rfl (setRow_heap _ _ _ _ _ _ hres2) Try.underlying36 rfl (by kernel_rfl)) rfl ?_
    exact pair_done (hb.alloc hb.size _) (by omega) _ HF.out
  obtain ⟨hcol, hcf0, hf0, hf1⟩ := colourOf_ok h0
  have hcf := configFault_ok hcf0
  have HC := Lib.hid hcol
  clear h0 hcol hcf0
  have hn3 : n ≤ 3 := by have := HL.out; omega
  obtain ⟨cl, hcl⟩ : ∃ cl, cl = f % C := ⟨_, rfl⟩
  have HC : Hid (colourOf F C ts f = (0, cl)) := by rw [hcl]; exact HC
  have hcl0 : 0 ≤ cl := by rw [hcl]; exact Int.emod_nonneg _ (by omega)
  have hcl1 : cl < C := by rw [hcl]; exact Int.emod_lt_of_pos _ (by omega)
  clear hcl
  go_enter Try.func25, Try.ntmps25
  go_wp2_with fail
  refine (colourOf_calls ((hT.alloc _).alloc _) hS hcc hn).mono ?_
  rintro e w1 ⟨rfl, hb1⟩
  rw [HC.out]
  have hT1 := ((hT.alloc _).alloc _).below hb1
  obtain ⟨hc, hres, hb, hs⟩ := two_new hb1
  clear hb1
  have hres2 := (heap_alloc_old w1 (.cells #[.int .i64 0, .int .i64 cl] 36) (show w.heap.size + 1 < w1.heap.size by omega)).trans hres
  have hc2 : CfgAt (w1.alloc (.cells #[.int .i64 0, .int .i64 cl] 36)) w.heap.size F C ao n cc := (heap_alloc_old w1 (.cells #[.int .i64 0, .int .i64 cl] 36) (show w.heap.size < w1.heap.size by omega)).trans hc
  have hk2 := heap_alloc_new w1 (.cells #[.int .i64 0, .int .i64 cl] 36)
  have hT2 := hT1.alloc (.cells #[.int .i64 0, .int .i64 cl] 36)
  obtain ⟨W, hW⟩ : ∃ W, W = w1.alloc (.cells #[.int .i64 0, .int .i64 cl] 36) := ⟨_, rfl⟩
  have hbW : Below w.heap.size w W := by rw [hW]; exact hb.alloc hb.size _
  rw [← hW] at hres2 hc2 hk2 hT2
  obtain ⟨c0, c1, c2, c3⟩ := hc2.cells
  have c4 : W.cell? ⟨w1.heap.size, 1, none⟩ = some (.int .i64 cl) := by rw [Row.cell hk2 1]; rfl
  obtain ⟨g, hg⟩ : ∃ g, g = w1.heap.size := ⟨_, rfl⟩
  have hgs : w.heap.size + 2 ≤ g := by rw [hg]; exact hs
  have kB := Below.refl W.heap.size W
  have hlf := fun j (hj : j < n) => short_of_fault (t := tenAt ts j) hcf.2.2.2.1 (firstFault_all hcf.2.2.2.2.2.2.1 j (by rw [HL.out]; exact hj))
  have HLF := Lib.hid hlf
  clear hlf
  go_wp2_with fail
  rw [← hW]
  rw [← hg] at c4 ⊢
  clear hW hres hc hb hs hk2 hg
  go_region_held3 (fun w' => w'.cell? ⟨w.heap.size, 0, none⟩ = some (.int .i64 F) ∧ w'.cell? ⟨w.heap.size, 1, none⟩ = some (.int .i64 C) ∧ w'.cell? ⟨w.heap.size, 2, none⟩ = some (.slice ao n cc) ∧ w'.cell? ⟨g, 1, none⟩ = some (.int .i64 cl) ∧ Below W.heap.size W w') (first | assumption | exact ⟨c1, c2, c3, c4, kB.drew⟩)
    (first
      | (go_at_call 71; obtain ⟨x0, x1, x2, x3, kb⟩ := ‹_ ∧ _ ∧ _ ∧ _ ∧ Below _ _ _›; refine (claimsOf_calls (hT2.below kb) hcc hn3 HLF.out).mono ?_; rintro e w' ⟨b, sm, rfl, hbs, hset, b1⟩; have hS' := keep4 ⟨x0, x1, x2, x3, kb⟩ b1)
      | (go_at_call 70; obtain ⟨x0, x1, x2, x3, kb⟩ := ‹_ ∧ _ ∧ _ ∧ _ ∧ Below _ _ _›; refine (holdersOf_calls hn3 hset hcl0 (by omega)).mono ?_; rintro e w'' ⟨v, rfl, hown, b2⟩; obtain ⟨vo, vc, rfl, _, _, hIn⟩ := hown.shape; have hS'' := keep4 ⟨x0, x1, x2, x3, kb⟩ b2))
  obtain ⟨x0, x1, x2, x3, kb⟩ := hS''
  have hB := hbW.trans (kb.mono hbW.size)
  have hr3 : Row w'' (w.heap.size + 1) _ _ := Row.below hres2 kb
  have hL := length_holdersTo ts cl n
  have HO := Lib.hid (show ownerOf F C ts f = (match (holdersTo ts cl n).head? with | some t => (0, t) | none => (4, 0)) by unfold ownerOf; simp only [HC.out]; rw [if_pos trivial, HL.out]; rfl)
  obtain ⟨xs, hxs⟩ : ∃ xs, holdersTo ts cl n = xs := ⟨_, rfl⟩
  obtain ⟨m, hm⟩ : ∃ m, m = xs.length := ⟨_, rfl⟩
  rw [hxs] at hIn hL
  have HO : Hid (ownerOf F C ts f = (match xs.head? with | some t => (0, t) | none => (4, 0))) := by rw [← hxs]; exact HO
  rw [hxs, ← hm]
  rw [← hm] at hIn hL
  clear hxs hown hset b1 b2 hS' x0 x1 x2 x3 kb
  by_cases hm0 : m = 0
  · have hx : xs = [] := List.eq_nil_of_length_eq_zero (by omega)
    subst hx
    have HF : Hid (ownerOf F C ts f = (4, 0)) := HO.out
    subst hm0
    clear hm
    go_wp2_with (refine wpList_store_row rfl 36 _ _ rfl (w.heap.size + 1) _ rfl rfl _ _ hr3 (by kernel_rfl) (by rfl) (by simp [Value.oneCell']) ?_)
    refine bodyPost_ret (results_cell_row rfl _ _ (w.heap.size + 1) _ _ _ _ rfl (setRow_heap _ _ _ _ _ _ hr3) Try.underlying36 rfl (by kernel_rfl)) rfl ?_
    exact pair_done hB (by omega) _ HF.out
  · rcases xs with _ | ⟨x, r⟩
    · simp at hm; exact absurd hm hm0
    · obtain ⟨bo, oo, rfl, hbo, hco⟩ := hIn.at_ (show 0 < m by omega)
      have HF : Hid (ownerOf F C ts f = (0, x)) := HO.out
      have hm1 : ((m : Int) == 0) = false := by simp; omega
      have hm2 : (0 : Int) < (m : Int) := by omega
      simp at hco
      clear hm hIn HO
      go_wp2_with (refine wpList_store_row rfl 36 _ _ rfl (w.heap.size + 1) _ rfl rfl _ _ hr3 (by kernel_rfl) (by rfl) (by simp [Value.oneCell']) ?_)
      refine bodyPost_ret (results_cell_row rfl _ _ (w.heap.size + 1) _ _ _ _ rfl (setRow_heap _ _ _ _ _ _ hr3) Try.underlying36 rfl (by kernel_rfl)) rfl ?_
      exact pair_done hB (by omega) _ HF.out
end Go.Proofs.Ytoaeglhjaandmaa

/- The laws' helpers over configs: how great one is, its copy, and whether two are the same. -/
namespace Go.Proofs.Ytoaeglhjaandmaa
set_option maxRecDepth 100000
open Go.RowKit

theorem szInts_calls {a : Option Addr} {n c : Nat} {r : Int} {w : World} (hn : n ≤ 9223372036854775807) (h0 : 0 ≤ r) (h1 : r ≤ 1048576) :
    Calls Try.prog 73 #[.slice a n c, .int .i64 r] w fun e w' => e = .returned (.int .i64 (if r - n < 0 then -1 else r - n)) ∧ w = w' := by
  by_cases h : r - (n : Int) < 0
  · rw [if_pos h]
    go_enter Try.func73, Try.ntmps73
    go_wp2
    go_ret
    exact ⟨rfl, rfl⟩
  · rw [if_neg h]
    go_enter Try.func73, Try.ntmps73
    go_wp2
    go_ret
    exact ⟨rfl, rfl⟩

theorem szTen_calls {a : Option Addr} {n c : Nat} {r cpus : Int} {w : World} (hn : n ≤ 9223372036854775807) (h0 : 0 ≤ r) (h1 : r ≤ 1048576) :
    Calls Try.prog 100 #[.agg #[.slice a n c, .int .i64 cpus], .int .i64 r] w fun e w' => e = .returned (.int .i64 (if r - n < 0 then -1 else r - n)) ∧ Below w.heap.size w w' := by
  by_cases h : r - (n : Int) < 0
  · have HE := Lib.hid (show (if r - (n : Int) < 0 then (-1 : Int) else r - n) = -1 from if_pos h)
    go_enter Try.func100, Try.ntmps100
    go_wp2_with fail
    refine (szInts_calls hn h0 h1).mono ?_
    rintro e w' ⟨rfl, rfl⟩
    rw [HE.out]
    go_wp2_with fail
    go_ret
    exact ⟨rfl, (Below.refl _ _).alloc (Nat.le_refl _) _⟩
  · have HE := Lib.hid (show (if r - (n : Int) < 0 then (-1 : Int) else r - n) = r - n from if_neg h)
    have hge : ¬ (r - (n : Int) < 0) := h
    go_enter Try.func100, Try.ntmps100
    go_wp2_with fail
    refine (szInts_calls hn h0 h1).mono ?_
    rintro e w' ⟨rfl, rfl⟩
    rw [HE.out]
    go_wp2_with fail
    go_ret
    exact ⟨rfl, (Below.refl _ _).alloc (Nat.le_refl _) _⟩

/-- What the sizes tell: where they are not too great, no list is. -/
def Sized (n : Nat) (ts : List (List Int × Int)) (w : World) (e : Ending) (w' : World) : Prop :=
  (e = .returned (.int .i64 (-1)) ∨ ∃ r : Int, e = .returned (.int .i64 r) ∧ 0 ≤ r ∧ r ≤ 1048576 ∧ n ≤ 1048576 ∧ Short 1048576 ts) ∧ Below w.heap.size w w'

set_option maxHeartbeats 400000 in
theorem szTens_calls {ao : Option Addr} {n cc : Nat} {ts : List (List Int × Int)} {w : World} (hT : Tens w ao n ts) (hS : Short 9223372036854775807 ts) (hn : n ≤ 9223372036854775807) :
    Calls Try.prog 72 #[.slice ao n cc, .int .i64 1048576] w (Sized n ts w) := by
  have HL := Lib.hid hT.1
  have HS := Lib.hid hS
  by_cases hbig : n ≤ 1048576
  rotate_left
  · have h : (1048576 : Int) - (n : Int) < 0 := by omega
    go_enter Try.func72, Try.ntmps72
    go_wp2_with fail
    go_ret
    exact ⟨.inl rfl, Below.refl _ _⟩
  have h : ¬ ((1048576 : Int) - (n : Int) < 0) := by omega
  go_enter Try.func72, Try.ntmps72
  go_wp2_with fail
  go_loopw [1, 5] (fun q i wr => ∃ k r : Nat, k ≤ n ∧ i = .int .i64 k ∧ r ≤ 1048576 ∧ q = .int .i64 r ∧ Hid (∀ j, j < k → (tenAt ts j).1.length ≤ 1048576) ∧ Below w.heap.size w wr) (fun _ i _ => n - (intOf i).toNat)
  case atStart => exact ⟨0, 1048576 - n, Nat.zero_le _, rfl, by omega, by rw [Int.ofNat_sub hbig]; rfl, fun j hj => by omega, Below.refl _ _⟩
  case round =>
    obtain ⟨k, r, hk, rfl, hr, rfl, HW, hbw⟩ := hrel
    by_cases hlt : k < n
    · obtain ⟨b, off, rfl, hten⟩ := hT.at_ hlt
      obtain ⟨d0, a, l, c, hlc, e0, e1, hI⟩ := hten.below hbw
      have hlx := hI.1
      have hl : l ≤ 9223372036854775807 := by have := HS.out.at_ k; omega
      by_cases hneg : (r : Int) - (l : Int) < 0
      · have HE := Lib.hid (show (if (r : Int) - (l : Int) < 0 then (-1 : Int) else r - l) = -1 from if_pos hneg)
        clear hlx
        go_wp2_with fail
        refine (szTen_calls hl (by omega) (by omega)).mono ?_
        rintro e w1 ⟨rfl, hb1⟩
        rw [HE.out]
        go_wp2_with fail
        go_ret
        exact ⟨.inl rfl, hbw.trans (hb1.mono hbw.size)⟩
      · have HE := Lib.hid (show (if (r : Int) - (l : Int) < 0 then (-1 : Int) else r - l) = ((r - l : Nat) : Int) by rw [if_neg hneg]; omega)
        have HH : Hid (∀ j, j < k + 1 → (tenAt ts j).1.length ≤ 1048576) := fun j hj => by
          by_cases e : j = k
          · rw [e]; omega
          · exact HW.out j (by omega)
        have hge : ¬ (((r - l : Nat) : Int) < 0) := by omega
        clear hlx
        go_wp2_with fail
        refine (szTen_calls hl (by omega) (by omega)).mono ?_
        rintro e w1 ⟨rfl, hb1⟩
        rw [HE.out]
        go_wp2_with fail
        go_roundw
        case rel => exact ⟨k + 1, r - l, by omega, by go_num, by omega, rfl, HH, hbw.trans (hb1.mono hbw.size)⟩
        case measure => simp [intOf]; omega
    · have HF : Hid (Short 1048576 ts) := by
        intro t ht
        obtain ⟨j, hj, rfl⟩ := List.getElem_of_mem ht
        have := HW.out j (by have := HL.out; omega)
        simpa [tenAt, List.getD, hj] using this
      go_wp2_with fail
      go_ret
      exact ⟨.inr ⟨_, rfl, by omega, by omega, hbig, HF.out⟩, hbw⟩

theorem szConfig_calls {ao : Option Addr} {n cc : Nat} {F C : Int} {ts : List (List Int × Int)} {w : World} (hT : Tens w ao n ts) (hS : Short 9223372036854775807 ts) (hn : n ≤ 9223372036854775807) :
    Calls Try.prog 26 #[.agg #[.int .i64 F, .int .i64 C, .slice ao n cc], .int .i64 1048576] w (Sized n ts w) := by
  go_enter Try.func26, Try.ntmps26
  go_wp2_with fail
  refine (szTens_calls (hT.alloc _) hS hn).mono ?_
  rintro e w1 ⟨rfl | ⟨r, rfl, h0, h1, h2, h3⟩, hb1⟩
  · go_wp2_with fail
    go_ret
    exact ⟨.inl rfl, below_past hb1⟩
  · have hge : ¬ (r < 0) := by omega
    have H3 := Lib.hid h3
    go_wp2_with fail
    go_ret
    exact ⟨.inr ⟨_, rfl, h0, h1, h2, H3.out⟩, below_past hb1⟩
end Go.Proofs.Ytoaeglhjaandmaa

/- The laws' helpers over configs: the copy. -/
namespace Go.Proofs.Ytoaeglhjaandmaa
set_option maxRecDepth 100000
open Go.RowKit

theorem grown_set (w : World) (a : Addr) (v : Value) : w.grownBy (w.setCell a v) (some a.block) :=
  ⟨rfl, rfl, rfl, by simp [World.setCell], fun i _ hne => heap_setCell_other w a i _ (fun e => hne (by simp [e]))⟩
theorem OwnI.set_ {w : World} {B n : Nat} {v : Value} {xs : List Int} (h : OwnI w B v n xs) {a : Addr} (ha : a.block < B) (u : Value) : OwnI (w.setCell a u) B v n xs := by
  obtain ⟨t, h⟩ := h
  refine ⟨t, h.kept (grown_set w a u) ?_⟩
  rcases hv : v.ownBlock with _ | k
  · exact .inl rfl
  · right
    have := (h.lt k hv).1
    intro e; injection e with e; omega

set_option maxHeartbeats 400000 in
theorem toTen_calls {a : Option Addr} {n c : Nat} {xs : List Int} {cpus : Int} {w : World} (ha : Ints w a n xs) (hx : n ≤ 17592186044416) :
    Calls Try.prog 101 #[.agg #[.slice a n c, .int .i64 cpus]] w fun e w' => ∃ v, e = .returned (.agg #[v, .int .i64 cpus]) ∧ OwnI w' w.heap.size v n xs ∧ Below w.heap.size w w' := by
  go_enter Try.func101, Try.ntmps101
  go_wp2_with fail
  refine (to_calls (((ha.alloc _).alloc _).alloc _) hx).mono ?_
  rintro e w1 ⟨v, rfl, hown, hb1⟩
  obtain ⟨h0, h1, h2, hb, hs⟩ := three_new hb1
  obtain ⟨vo, vc, rfl, hvc, _, _⟩ := hown.shape
  have r0 := Row.cell (w := w1) h0 0
  have r1 := Row.cell (w := w1) h0 1
  have q0 := Row.cell (w := w1) h2 0
  have q1 := Row.cell (w := w1) h2 1
  have f0 := frozen_of_row w1 (w.heap.size + 2) 0 _ _ h2
  have f1 := frozen_of_row w1 (w.heap.size + 2) 1 _ _ h2
  simp at r0 r1 q0 q1
  have HO := Lib.hid hown
  clear hb1 hown
  have hres := ((heap_setCell_other (w1.setCell ⟨w.heap.size + 1 + 1, 0, none⟩ (.slice vo n vc)) ⟨w.heap.size + 1 + 1, 1, none⟩ (w.heap.size + 1) (.int .i64 cpus) (by simp)).trans (heap_setCell_other w1 ⟨w.heap.size + 1 + 1, 0, none⟩ (w.heap.size + 1) (.slice vo n vc) (by simp))).trans h1
  go_wp2_with (refine wpList_store_row rfl 117 _ _ rfl (w.heap.size + 1) _ rfl rfl _ _ hres (by kernel_rfl) (by rfl) (by simp [Value.oneCell']) ?_)
  refine bodyPost_ret (results_cell_row rfl _ _ (w.heap.size + 1) _ _ _ _ rfl (setRow_heap _ _ _ _ _ _ hres) Try.underlying117 rfl (by kernel_rfl)) rfl ?_
  refine ⟨_, rfl, (((HO.out.base (B' := w.heap.size + 3) (by simp)).set_ (by simp) _).set_ (by simp) _).setRow (by omega) _ |>.base (by omega), ?_⟩
  exact below_setRow ((hb.setCell (by simp; omega) _).setCell (by simp; omega) _) (by omega) _

/-- Block g is a row of n tenants; the first k of them own their colours, each in blocks of its own. -/
def OwnTo (w : World) (g n k : Nat) (ts : List (List Int × Int)) : Prop :=
  ∃ (cur : Array Value) (Bs : Nat → Nat), w.heap[g]? = some (.cells cur 117 (0, 0)) ∧ cur.size = n * 2 ∧ g < Bs 0 ∧ (∀ j, j < k → Bs j ≤ Bs (j + 1)) ∧ Bs k ≤ w.heap.size ∧
    ∀ j, j < k → ∃ a m c, m ≤ c ∧ cur[j * 2]? = some (.slice a m c) ∧ cur[j * 2 + 1]? = some (.int .i64 (tenAt ts j).2) ∧ OwnIn w (Bs j) (Bs (j + 1)) (.slice a m c) m (tenAt ts j).1

theorem OwnTo.lt {w : World} {g n k : Nat} {ts : List (List Int × Int)} (h : OwnTo w g n k ts) : g < w.heap.size := by
  obtain ⟨cur, Bs, h, _⟩ := h
  exact (Array.getElem?_eq_some_iff.1 h).1
theorem OwnTo.below {w w' : World} {g n k : Nat} {ts : List (List Int × Int)} (h : OwnTo w g n k ts) (hb : Below w.heap.size w w') : OwnTo w' g n k ts := by
  obtain ⟨cur, Bs, h1, h2, h3, h4, h5, h6⟩ := h
  refine ⟨cur, Bs, (hb.block g (Array.getElem?_eq_some_iff.1 h1).1).trans h1, h2, h3, h4, Nat.le_trans h5 hb.size, fun j hj => ?_⟩
  obtain ⟨a, m, c, e0, e1, e2, e3⟩ := h6 j hj
  exact ⟨a, m, c, e0, e1, e2, e3.below hb⟩
theorem OwnTo.tens {w : World} {g n : Nat} {ts : List (List Int × Int)} (h : OwnTo w g n n ts) (hl : ts.length = n) : Tens w (some ⟨g, 0, none⟩) n ts := by
  obtain ⟨cur, Bs, h1, h2, h3, h4, h5, h6⟩ := h
  have hg := (Array.getElem?_eq_some_iff.1 h1).1
  refine ⟨hl, fun _ => ⟨g, 0, rfl, hg, fun j hj => ?_⟩⟩
  obtain ⟨a, m, c, e0, e1, e2, e3⟩ := h6 j hj
  refine ⟨hg, a, m, c, e0, ?_, ?_, e3.ints⟩
  · rw [Nat.zero_add, cell_of_row w g _ _ _ _ h1]; exact e1
  · rw [Nat.zero_add, cell_of_row w g _ _ _ _ h1]; exact e2

/-- Which cells of the row the next element has. -/
theorem OwnTo.cells {w : World} {g n k : Nat} {ts : List (List Int × Int)} (h : OwnTo w g n k ts) {i : Nat} (hi : i < n * 2) : (∃ u, w.cell? ⟨g, i, none⟩ = some u) ∧ w.frozen? ⟨g, i, none⟩ = false := by
  obtain ⟨cur, Bs, h1, h2, _⟩ := h
  refine ⟨⟨_, by rw [cell_of_row w g i _ _ _ h1]; exact Array.getElem?_eq_getElem (by omega)⟩, frozen_of_row w g i _ _ h1⟩

theorem OwnTo.step {wr w1 : World} {g n k m c : Nat} {a : Option Addr} {ts : List (List Int × Int)} (h : OwnTo wr g n k ts) (hk : k < n) (hb : Below wr.heap.size wr w1) (hv : OwnI w1 wr.heap.size (.slice a m c) m (tenAt ts k).1) (hm : m ≤ c) :
    OwnTo ((w1.setCell ⟨g, k * 2, none⟩ (.slice a m c)).setCell ⟨g, k * 2 + 1, none⟩ (.int .i64 (tenAt ts k).2)) g n (k + 1) ts := by
  have hlt := h.lt
  obtain ⟨cur, Bs, h1, h2, h3, h4, h5, h6⟩ := h.below hb
  have h5' : Bs k ≤ w1.heap.size := h5
  obtain ⟨cur0, Bs0, g1, g2, g3, g4, g5, g6⟩ := h
  have hs := hb.size
  refine ⟨(cur0.setIfInBounds (k * 2) (.slice a m c)).setIfInBounds (k * 2 + 1) (.int .i64 (tenAt ts k).2), fun j => if j ≤ k then Bs0 j else w1.heap.size, ?_, by simpa using g2, by simpa using g3, ?_, ?_, ?_⟩
  · have e1 := heap_setCell_same w1 g (k * 2) _ _ (.slice a m c) ((hb.block g hlt).trans g1)
    exact heap_setCell_same _ g (k * 2 + 1) _ _ (.int .i64 (tenAt ts k).2) e1
  · intro j hj
    dsimp only
    by_cases e : j = k
    · subst e; rw [if_pos (Nat.le_refl _), if_neg (by omega)]; omega
    · rw [if_pos (by omega), if_pos (by omega)]; exact g4 j (by omega)
  · dsimp only; rw [if_neg (by omega)]; simp
  · intro j hj
    by_cases e : j = k
    · subst e
      refine ⟨a, m, c, hm, ?_, ?_, ?_⟩
      · rw [Array.getElem?_setIfInBounds_ne (by omega), Array.getElem?_setIfInBounds_self_of_lt (by omega)]
      · rw [Array.getElem?_setIfInBounds_self_of_lt (by simp; omega)]
      · dsimp only
        rw [if_pos (Nat.le_refl _), if_neg (by omega)]
        have hB : g < Bs0 j := by
          clear h6 g6
          have : ∀ i, i ≤ j → g < Bs0 i := fun i => by
            induction i with
            | zero => intro _; exact g3
            | succ i ih => intro hi; exact Nat.lt_of_lt_of_le (ih (by omega)) (g4 i (by omega))
          exact this j (Nat.le_refl _)
        have h7 := hv.base (B' := Bs0 j) g5
        refine ⟨(h7.set_ hB _).set_ hB _, fun b hb' => ?_⟩
        obtain ⟨t, hv⟩ := hv
        have := (hv.lt b hb').2
        simpa using this
    · obtain ⟨a', m', c', e0, e1, e2, e3⟩ := g6 j (by omega)
      refine ⟨a', m', c', e0, ?_, ?_, ?_⟩
      · rw [Array.getElem?_setIfInBounds_ne (by omega), Array.getElem?_setIfInBounds_ne (by omega)]; exact e1
      · rw [Array.getElem?_setIfInBounds_ne (by omega), Array.getElem?_setIfInBounds_ne (by omega)]; exact e2
      · dsimp only
        rw [if_pos (by omega), if_pos (by omega)]
        have hB : g < Bs0 j := by
          have : ∀ i, i ≤ j → g < Bs0 i := fun i => by
            induction i with
            | zero => intro _; exact g3
            | succ i ih => intro hi; exact Nat.lt_of_lt_of_le (ih (by omega)) (g4 i (by omega))
          exact this j (Nat.le_refl _)
        have e4 := e3.below hb
        exact ⟨(e4.1.set_ hB _).set_ hB _, e4.2⟩

set_option maxHeartbeats 400000 in
theorem toTens_calls {ao : Option Addr} {n cc : Nat} {ts : List (List Int × Int)} {w : World} (hT : Tens w ao n ts) (hS : Short 17592186044416 ts) (hn : n ≤ 1048576) :
    Calls Try.prog 74 #[.slice ao n cc] w fun e w' => e = .returned (.slice (some ⟨w.heap.size, 0, none⟩) n n) ∧ OwnTo w' w.heap.size n n ts ∧ Below w.heap.size w w' := by
  have hinfo : (Try.prog.info? 117).map (fun i => (i.zero, i.size, i.bytes)) = some (some (.agg #[.slice none 0 0, .int .i64 0]), 2, 32) := by kernel_rfl
  obtain ⟨i0, hi, hz0, hz1, hz2⟩ := info_parts hinfo
  have HL := Lib.hid hT.1
  have HS := Lib.hid hS
  go_enter Try.func74, Try.ntmps74
  go_wp2_with (at_make; go_must (refine wpList_make_full _ rfl _ _ 24 rfl w.heap.size 117 i0 (.agg #[.slice none 0 0, .int .i64 0]) 2 Try.underlying24 hi hz0 hz1 _ _ _ _ n rfl rfl rfl rfl (by rw [hz2]; omega) (by unfold maxLen; omega) (Nat.le_refl _) ?_); intro w1 hown hg)
  have hb1 : Below w.heap.size w w1 := (Below.refl _ _).grown hg (Nat.le_refl _) (by simp)
  have hO : OwnTo w1 w.heap.size n 0 ts := by
    obtain ⟨_, ⟨h, _⟩ | ⟨g, cap, cur, hv, _, hh, _, _, hcs, _⟩⟩ := hown
    · cases h
    · injection hv with hv hv2 hv3
      injection hv with hv
      injection hv with hv
      subst hv; subst hv3
      exact ⟨cur, fun _ => w1.heap.size, hh, hcs, (Array.getElem?_eq_some_iff.1 hh).1, fun j hj => by omega, Nat.le_refl _, fun j hj => by omega⟩
  clear hown hg
  go_loopw [4] (fun i wr => ∃ k : Nat, k ≤ n ∧ i = .int .i64 k ∧ OwnTo wr w.heap.size n k ts ∧ Below w.heap.size w wr) (fun i _ => n - (intOf i).toNat)
  case atStart => exact ⟨0, Nat.zero_le _, rfl, hO, hb1⟩
  case round =>
    obtain ⟨k, hk, rfl, hO, hbw⟩ := hrel
    by_cases hlt : k < n
    · obtain ⟨b, off, rfl, hten⟩ := hT.at_ hlt
      obtain ⟨d0, a, l, c, hlc, e0, e1, hI⟩ := hten.below hbw
      have hl : l ≤ 17592186044416 := by have := HS.out.at_ k; have := hI.1; omega
      go_wp2_with fail
      refine (toTen_calls hI hl).mono ?_
      rintro e w2 ⟨v, rfl, hown, hb2⟩
      obtain ⟨vo, vc, rfl, hvc, _, _⟩ := hown.shape
      have hst := hO.step hlt hb2 hown hvc
      obtain ⟨⟨u0, q0⟩, f0⟩ := (hO.below hb2).cells (i := k * 2) (by omega)
      obtain ⟨⟨u1, q1⟩, f1⟩ := (hO.below hb2).cells (i := k * 2 + 1) (by omega)
      have F := Lib.hid (And.intro hst (((hbw.trans (hb2.mono hbw.size)).setCell (p := ⟨w.heap.size, k * 2, none⟩) (Nat.le_refl _) (.slice vo l vc)).setCell (p := ⟨w.heap.size, k * 2 + 1, none⟩) (Nat.le_refl _) (.int .i64 (tenAt ts k).2)))
      clear hst hown hb2 hO
      go_wp2_with fail
      go_roundw
      case rel => exact ⟨k + 1, by omega, by go_num, F.out.1, F.out.2⟩
      case measure => simp [intOf]; omega
    · obtain rfl : k = n := by omega
      have F := Lib.hid (And.intro hO hbw)
      clear hO hbw
      go_wp2_with fail
      go_ret
      exact ⟨rfl, F.out.1, F.out.2⟩
end Go.Proofs.Ytoaeglhjaandmaa

/- The laws' helpers over configs: copies whole, compared, and marked. -/
namespace Go.Proofs.Ytoaeglhjaandmaa
set_option maxRecDepth 100000
open Go.RowKit

/-- A row of n tenants in block g, all that it leads to in blocks behind g and below H. -/
def TenIn (w : World) (g H n : Nat) (ts : List (List Int × Int)) : Prop :=
  H ≤ w.heap.size ∧ g < H ∧ ts.length = n ∧ ∃ (cur : Array Value) (Bs : Nat → Nat), w.heap[g]? = some (.cells cur 117 (0, 0)) ∧ cur.size = n * 2 ∧ g < Bs 0 ∧ (∀ j, j < n → Bs j ≤ Bs (j + 1)) ∧ Bs n ≤ H ∧
    ∀ j, j < n → ∃ a m c, m ≤ c ∧ cur[j * 2]? = some (.slice a m c) ∧ cur[j * 2 + 1]? = some (.int .i64 (tenAt ts j).2) ∧ OwnIn w (Bs j) (Bs (j + 1)) (.slice a m c) m (tenAt ts j).1
theorem OwnTo.in_ {w : World} {g n : Nat} {ts : List (List Int × Int)} (h : OwnTo w g n n ts) (hl : ts.length = n) : TenIn w g w.heap.size n ts := by
  have hlt := h.lt
  obtain ⟨cur, Bs, h1, h2, h3, h4, h5, h6⟩ := h
  exact ⟨Nat.le_refl _, hlt, hl, cur, Bs, h1, h2, h3, h4, h5, h6⟩
theorem mono_up {Bs : Nat → Nat} {n : Nat} (h : ∀ j, j < n → Bs j ≤ Bs (j + 1)) {i j : Nat} (hij : i ≤ j) (hj : j ≤ n) : Bs i ≤ Bs j := by
  induction j with
  | zero => obtain rfl : i = 0 := by omega
            exact Nat.le_refl _
  | succ j ih =>
    by_cases e : i = j + 1
    · rw [e]; exact Nat.le_refl _
    · exact Nat.le_trans (ih (by omega) (by omega)) (h j (by omega))
theorem TenIn.touch {w w' : World} {g H n lo hi : Nat} {ts : List (List Int × Int)} (h : TenIn w g H n ts) (ht : Touch lo hi w w') (hd : hi ≤ g ∨ H ≤ lo) : TenIn w' g H n ts := by
  obtain ⟨h0, hgH, hl, cur, Bs, h1, h2, h3, h4, h5, h6⟩ := h
  refine ⟨Nat.le_trans h0 ht.size, hgH, hl, cur, Bs, (ht.block g (by omega) (by omega)).trans h1, h2, h3, h4, h5, fun j hj => ?_⟩
  obtain ⟨a, m, c, e0, e1, e2, e3⟩ := h6 j hj
  have b0 := mono_up h4 (Nat.zero_le j) (by omega)
  have b1 := mono_up h4 (i := j + 1) (j := n) (by omega) (by omega)
  exact ⟨a, m, c, e0, e1, e2, e3.touch ht (by omega)⟩
theorem TenIn.below {w w' : World} {g H n : Nat} {ts : List (List Int × Int)} (h : TenIn w g H n ts) (hb : Below w.heap.size w w') : TenIn w' g H n ts :=
  h.touch (Touch.of_below (lo := H) (hi := H) hb) (.inr (Nat.le_refl _))
theorem TenIn.tens {w : World} {g H n : Nat} {ts : List (List Int × Int)} (h : TenIn w g H n ts) : Tens w (some ⟨g, 0, none⟩) n ts := by
  obtain ⟨h0, hgH, hl, cur, Bs, h1, h2, h3, h4, h5, h6⟩ := h
  refine ⟨hl, fun _ => ⟨g, 0, rfl, by omega, fun j hj => ?_⟩⟩
  obtain ⟨a, m, c, e0, e1, e2, e3⟩ := h6 j hj
  refine ⟨by omega, a, m, c, e0, ?_, ?_, e3.ints⟩
  · rw [Nat.zero_add, cell_of_row w g _ _ _ _ h1]; exact e1
  · rw [Nat.zero_add, cell_of_row w g _ _ _ _ h1]; exact e2
theorem touch_set (w : World) (a : Addr) (v : Value) : Touch a.block (a.block + 1) w (w.setCell a v) := Touch.of_grown (grown_set w a v) (by intro k hk; injection hk with hk; omega)
theorem touch_setRow (w : World) (g : Nat) (cs : Array Value) : Touch g (g + 1) w (w.setRow g cs) :=
  ⟨rfl, rfl, rfl, (below_setRow (B := 0) (Below.refl 0 w) (Nat.zero_le _) cs).size, fun k _ hd => setRow_other w g k cs (by omega)⟩

set_option maxHeartbeats 400000 in
theorem toConfig_calls {ao : Option Addr} {n cc : Nat} {F C : Int} {ts : List (List Int × Int)} {w : World} (hT : Tens w ao n ts) (hS : Short 17592186044416 ts) (hn : n ≤ 1048576) :
    Calls Try.prog 28 #[.agg #[.int .i64 F, .int .i64 C, .slice ao n cc]] w fun e w' => ∃ g, e = .returned (.agg #[.int .i64 F, .int .i64 C, .slice (some ⟨g, 0, none⟩) n n]) ∧ w.heap.size ≤ g ∧ TenIn w' g w'.heap.size n ts ∧ Below w.heap.size w w' := by
  have HL := Lib.hid hT.1
  have hT3 := ((hT.alloc (.cells #[.int .i64 F, .int .i64 C, .slice ao n cc] 45)).alloc (.cells #[.int .i64 0, .int .i64 0, .slice none 0 0] 26)).alloc (.cells #[.int .i64 0, .int .i64 0, .slice none 0 0] 26)
  go_enter Try.func28, Try.ntmps28
  go_wp2_with fail
  refine (toTens_calls (((hT.alloc _).alloc _).alloc _) hS hn).mono ?_
  rintro e w1 ⟨rfl, hown, hb1⟩
  obtain ⟨h0, h1, h2, hb, hs⟩ := three_new hb1
  obtain ⟨g, hg⟩ : ∃ g, g = (((w.alloc (.cells #[.int .i64 F, .int .i64 C, .slice ao n cc] 45)).alloc (.cells #[.int .i64 0, .int .i64 0, .slice none 0 0] 26)).alloc (.cells #[.int .i64 F, .int .i64 C, .slice none 0 0] 26)).heap.size := ⟨_, rfl⟩
  have hg3 : g = w.heap.size + 3 := by rw [hg]; simp
  rw [← hg] at hown ⊢
  have hown2 := hown.in_ HL.out
  have q0 := Row.cell (w := w1) h2 0
  have q1 := Row.cell (w := w1) h2 1
  have q2 := Row.cell (w := w1) h2 2
  have f2 := frozen_of_row w1 (w.heap.size + 2) 2 _ _ h2
  simp at q0 q1 q2
  have HO := Lib.hid hown2
  have HG := Lib.hid hg3
  clear hb1 hown hown2 hg hg3
  have hres := (heap_setCell_other w1 ⟨w.heap.size + 1 + 1, 2, none⟩ (w.heap.size + 1) (.slice (some ⟨g, 0, none⟩) n n) (by simp)).trans h1
  go_wp2_with (refine wpList_store_row rfl 26 _ _ rfl (w.heap.size + 1) _ rfl rfl _ _ hres (by kernel_rfl) (by rfl) (by simp [Value.oneCell']) ?_)
  refine bodyPost_ret (results_cell_row rfl _ _ (w.heap.size + 1) _ _ _ _ rfl (setRow_heap _ _ _ _ _ _ hres) Try.underlying26 rfl (by kernel_rfl)) rfl ?_
  refine ⟨g, rfl, by have := HG.out; omega, ?_, below_setRow (hb.setCell (by simp; omega) _) (by omega) _⟩
  have t1 := HO.out.touch (touch_set w1 ⟨w.heap.size + 1 + 1, 2, none⟩ (.slice (some ⟨g, 0, none⟩) n n)) (.inl (by have := HG.out; simp; omega))
  have t2 := t1.touch (touch_setRow _ (w.heap.size + 1) #[.int .i64 F, .int .i64 C, .slice (some ⟨g, 0, none⟩) n n]) (.inl (by have := HG.out; omega))
  simpa using t2

set_option maxHeartbeats 400000 in
theorem eqTen_calls {a b : Option Addr} {n m c d : Nat} {xs : List Int} {cpus : Int} {w : World} (ha : Ints w a n xs) (hb : Ints w b m xs) (hx : n ≤ 17592186044416) :
    Calls Try.prog 102 #[.agg #[.slice a n c, .int .i64 cpus], .agg #[.slice b m d, .int .i64 cpus]] w fun e w' => e = .returned (.bool true) ∧ Below w.heap.size w w' := by
  have hq : (cpus != cpus) = false := by simp
  go_enter Try.func102, Try.ntmps102
  go_wp2_with fail
  refine (eq_calls ((ha.alloc _).alloc _) ((hb.alloc _).alloc _) hx).mono ?_
  rintro e w1 ⟨rfl, hb1⟩
  obtain ⟨h0, h1, hbw, hs⟩ := two_new hb1
  have r0 := Row.cell (w := w1) h0 1
  have r1 := Row.cell (w := w1) h1 1
  simp at r0 r1
  clear hb1
  go_wp2_with (go_quiet (fail))
  go_ret
  exact ⟨rfl, hbw⟩

set_option maxHeartbeats 800000 in
theorem eqTens_calls {a b : Option Addr} {n m c d : Nat} {ts : List (List Int × Int)} {w : World} (ha : Tens w a n ts) (hb : Tens w b m ts) (hS : Short 17592186044416 ts) (hn : n ≤ 1048576) :
    Calls Try.prog 75 #[.slice a n c, .slice b m d] w fun e w' => e = .returned (.bool true) ∧ Below w.heap.size w w' := by
  obtain rfl : n = m := ha.1.symm.trans hb.1
  have h1 : ((n : Int) != (n : Int)) = false := by simp
  have HL := Lib.hid ha.1
  have HS := Lib.hid hS
  go_enter Try.func75, Try.ntmps75
  go_wp2
  go_loopw [5] (fun i wr => ∃ k : Nat, k ≤ n ∧ i = .int .i64 k ∧ Below w.heap.size w wr) (fun i _ => n - (intOf i).toNat)
  case atStart => exact ⟨0, Nat.zero_le _, rfl, Below.refl _ _⟩
  case round =>
    obtain ⟨k, hk, rfl, hbw⟩ := hrel
    by_cases hlt : k < n
    · obtain ⟨ba, oa, rfl, hta⟩ := ha.at_ hlt
      obtain ⟨bb, ob, rfl, htb⟩ := hb.at_ hlt
      obtain ⟨d0, aa, l, ca, hla, e0, e1, hI⟩ := hta.below hbw
      obtain ⟨d1, ab, l2, cb, hlb, f0, f1, hJ⟩ := htb.below hbw
      have hl : l ≤ 17592186044416 := by have := HS.out.at_ k; have := hI.1; omega
      have kB := Below.refl wr.heap.size wr
      go_wp2_with fail
      go_region_held3 (fun w' => w'.cell? ⟨ba, oa + k * 2, none⟩ = some (.slice aa l ca) ∧ w'.cell? ⟨ba, oa + k * 2 + 1, none⟩ = some (.int .i64 (tenAt ts k).2) ∧ w'.cell? ⟨bb, ob + k * 2, none⟩ = some (.slice ab l2 cb) ∧ w'.cell? ⟨bb, ob + k * 2 + 1, none⟩ = some (.int .i64 (tenAt ts k).2) ∧ Below wr.heap.size wr w') (first | assumption | exact ⟨e0, e1, f0, f1, kB.drew⟩)
        ((go_at_call 102; obtain ⟨x0, x1, x2, x3, kb⟩ := ‹_ ∧ _ ∧ _ ∧ _ ∧ Below _ _ _›; refine (eqTen_calls (hI.below kb) (hJ.below kb) hl).mono ?_; rintro e w' ⟨rfl, b1⟩; have hS' := keep4 ⟨x0, x1, x2, x3, kb⟩ b1))
      have kb2 := hbw.trans (hS'.2.2.2.2.mono hbw.size)
      clear hS'
      go_wp2_with fail
      go_roundw
      case rel => exact ⟨k + 1, by omega, by go_num, kb2⟩
      case measure => simp [intOf]; omega
    · go_wp2
      go_ret
      exact ⟨rfl, hbw⟩
end Go.Proofs.Ytoaeglhjaandmaa

/- Results of two numbers, compared. -/
namespace Go.Proofs.Ytoaeglhjaandmaa
open Go.RowKit

theorem eqPair_calls {x y : Int} {w : World} :
    Calls Try.prog 37 #[.agg #[.int .i64 x, .int .i64 y], .agg #[.int .i64 x, .int .i64 y]] w fun e w' => e = .returned (.bool true) ∧ Below w.heap.size w w' := by
  have h1 : (x != x) = false := by simp
  have h2 : (y != y) = false := by simp
  go_enter Try.func37, Try.ntmps37
  go_wp2_with (go_quiet (fail))
  go_ret
  exact ⟨rfl, ((Below.refl _ _).alloc (Nat.le_refl _) _).alloc (by simp) _⟩

theorem run_eqPair (x y : Int) (d : Nat) (u : World) : (Op.equalIn (d + 2) 36 (.agg #[.int .i64 x, .int .i64 y]) (.agg #[.int .i64 x, .int .i64 y])).run Try.prog u = .ok true u := by
  rw [run_equalIn_struct u (d + 1) _ _ _ (by kernel_rfl) (by kernel_rfl)]
  have hf : Try.prog.fieldsOf 36 = #[{ name := "Code", type := 2, offset := 0, embedded := false, tag := "", pkgPath := "", byteOffset := 0 }, { name := "Value", type := 2, offset := 1, embedded := false, tag := "", pkgPath := "", byteOffset := 8 }] := by kernel_rfl
  rw [hf]
  have p0 := run_part_plain (P := Try.prog) u (e := 2) (by kernel_rfl) (xs := #[.int .i64 x, .int .i64 y]) (off := 0) (v := .int .i64 x) (by simp)
  have p1 := run_part_plain (P := Try.prog) u (e := 2) (by kernel_rfl) (xs := #[.int .i64 x, .int .i64 y]) (off := 1) (v := .int .i64 y) (by simp)
  simp [Op.eqFields, p0, p1, run_equalIn_int u d 2 .i64 .i64 _ _ Try.underlying2]
theorem run_neqPair (x y : Int) (u : World) : (binOp .neq 36 (.agg #[.int .i64 x, .int .i64 y]) (.agg #[.int .i64 x, .int .i64 y])).run Try.prog u = .ok (.bool false) u := by
  rw [run_neq_struct, run_eqPair]; rfl
theorem run_eqlPair (x y : Int) (u : World) : (binOp .eql 36 (.agg #[.int .i64 x, .int .i64 y]) (.agg #[.int .i64 x, .int .i64 y])).run Try.prog u = .ok (.bool true) u := by
  rw [run_eql_struct, run_eqPair]; rfl
theorem run_field_P (u : World) (x v : Value) : (Instr.field 36 (.agg #[x, v]) 0).run Try.prog u = .ok x u := by
  simp [Instr.field, run_underlying Try.underlying36, part, isAgg, run_underlying Try.underlying2, asAgg]
theorem run_field_P1 (u : World) (x v : Value) : (Instr.field 36 (.agg #[x, v]) 1).run Try.prog u = .ok v u := by
  simp [Instr.field, run_underlying Try.underlying36, part, isAgg, run_underlying Try.underlying2, asAgg]
end Go.Proofs.Ytoaeglhjaandmaa
