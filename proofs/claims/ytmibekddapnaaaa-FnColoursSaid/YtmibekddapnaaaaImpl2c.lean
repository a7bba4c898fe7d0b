/- Chapter 2 as the program has it: holders, faults and answers. -/
import Derived.Test.YtmibekddapnaaaaImpl2b
namespace Go.Proofs.Ytmibekddapnaaaa
open Go.RowKit

set_option maxHeartbeats 400000 in
theorem holdersOf_calls {ao : Option Addr} {n cc b m : Nat} {F C c : Int} {ts : List (List Int × Int)} {w : World} (hn : n ≤ 3) (hs : SetIs w b m (claimed ts n 0)) (hc0 : 0 ≤ c) (hc1 : c ≤ 100) :
    Calls Try.prog 39 #[.agg #[.int .i64 F, .int .i64 C, .slice ao n cc], .map (some b), .int .i64 c] w (Makes w (holdersTo ts c n).length (holdersTo ts c n)) := by
  go_enter Try.func39, Try.ntmps39
  go_wp2
  go_loopw [7, 12] (fun v i wr => ∃ k : Nat, k ≤ n ∧ i = .int .i64 k ∧ OwnE wr w.heap.size v (holdersTo ts c k).length (holdersTo ts c k) ∧ Below w.heap.size w wr) (fun _ i _ => n - (intOf i).toNat)
  case atStart => exact ⟨0, Nat.zero_le _, rfl, OwnE.nil _ _, (Below.refl _ _).alloc (Nat.le_refl _) _⟩
  case round =>
    obtain ⟨k, hk, rfl, HO, hbw⟩ := hrel
    by_cases hlt : k < n
    · have hlt' : (k : Int) < (n : Int) := by omega
      have hset := hs.below hbw
      have hall := claimed_all (ts := ts) (c := c) hlt
      have hL := length_holdersTo ts c k
      rcases hV : hasColour (tenAt ts k) c with _ | _
      · have HE := Lib.hid (holdersTo_no (n := k) hV)
        have hO1 := HE.out.symm ▸ HO
        have F := Lib.hid hO1
        rw [hV] at hall
        clear hO1 hV
        go_wp2_with (at_lookup; go_must (refine wpList_lookup_set (t := (k : Int)) (c := c) rfl _ _ rfl hset rfl rfl (by omega) (by omega) (by omega) (by omega) ?_); rw [hall])
        go_roundw
        case rel => exact ⟨k + 1, by omega, by go_num, F.out, hbw⟩
        case measure => simp [intOf]; omega
      · have HE := Lib.hid (holdersTo_yes (n := k) hV)
        rw [hV] at hall
        clear hV
        go_wp2_with (first
          | (at_lookup; go_must (refine wpList_lookup_set (t := (k : Int)) (c := c) rfl _ _ rfl hset rfl rfl (by omega) (by omega) (by omega) (by omega) ?_); rw [hall])
          | (at_builtin; go_must (refine wpList_append_one rfl _ _ rfl rfl (HO.below ((Below.refl _ _).alloc (Nat.le_refl _) _)) rfl (u := (k : Int)) (cell_one rfl) (by omega) (hbw.alloc hbw.size _).size ?_); intro v' w2 hO2 hB2 hg2))
        have F : Hid (OwnE w2 w.heap.size v' (holdersTo ts c (k + 1)).length (holdersTo ts c (k + 1)) ∧ Below w.heap.size w w2) := by
          refine ⟨?_, hB2 w (hbw.alloc hbw.size _)⟩
          rw [HE.out, List.length_append]; exact hO2
        clear hO2 hB2 hg2
        go_wp2
        go_roundw
        case rel => exact ⟨k + 1, by omega, by go_num, F.out.1, F.out.2⟩
        case measure => simp [intOf]; omega
    · obtain rfl : k = n := by omega
      have F := Lib.hid (And.intro HO.own hbw)
      clear HO hbw
      go_wp2
      go_ret
      exact ⟨_, rfl, F.out.1, F.out.2⟩

/-- No two of the tenants have this colour. -/
theorem holders_one {ts : List (List Int × Int)} {c : Int} {n : Nat} : (holdersTo ts c n).length ≤ 1 ↔ ∀ i k, i < n → k < i → hasColour (tenAt ts i) c = true → hasColour (tenAt ts k) c = true → False := by
  induction n with
  | zero => simp [holdersTo]
  | succ n ih =>
    rcases hb : hasColour (tenAt ts n) c with _ | _
    · rw [holdersTo_no hb, ih]
      constructor
      · intro h i k hi hk h1 h2
        by_cases e : i = n
        · subst e; rw [hb] at h1; cases h1
        · exact h i k (by omega) hk h1 h2
      · intro h i k hi hk h1 h2; exact h i k (by omega) hk h1 h2
    · rw [holdersTo_yes hb, List.length_append]
      constructor
      · intro h i k hi hk h1 h2
        have h0 : (holdersTo ts c n) = [] := List.eq_nil_of_length_eq_zero (by have h3 := h; simp only [List.length_singleton] at h3; omega)
        have hm : ∀ j, j < n → hasColour (tenAt ts j) c = true → (j : Int) ∈ holdersTo ts c n := fun j hj h => by
          unfold holdersTo; simp only [List.mem_map, List.mem_filter, List.mem_range]; exact ⟨j, ⟨hj, h⟩, rfl⟩
        have := hm k (by omega) h2
        rw [h0] at this; cases this
      · intro h
        have h0 : holdersTo ts c n = [] := holdersTo_none fun j hj => by
          rcases hj1 : hasColour (tenAt ts j) c with _ | _
          · rfl
          · exact (h n j (by omega) hj hb hj1).elim
        simp [h0]
theorem shared_of_holders {ts : List (List Int × Int)} {c : Int} (h : 1 < (holdersTo ts c ts.length).length) : shared ts = true := by
  rcases hb : shared ts with _ | _
  · refine absurd (holders_one.2 fun i k hi hk h1 h2 => ?_) (Nat.not_le.2 h)
    have : shared ts = true := (shared_iff ts).2 ⟨i, k, c, hi, hk, by unfold hasColour hasIn at h1; rwa [List.contains_iff_mem] at h1, h2⟩
    rw [hb] at this; cases this
  · rfl
theorem shared_not {ts : List (List Int × Int)} {C : Int} (hw : ∀ j, j < ts.length → within 0 (C - 1) (tenAt ts j).1 = true) (h : ∀ c : Int, 0 ≤ c → c < C → (holdersTo ts c ts.length).length ≤ 1) : shared ts = false := by
  rw [Bool.eq_false_iff]
  intro hs
  obtain ⟨i, k, c, hi, hk, hc, h1⟩ := (shared_iff ts).1 hs
  have hb : 0 ≤ c ∧ c ≤ C - 1 := by have := List.all_eq_true.1 (hw i hi) c hc; simpa using this
  exact holders_one.1 (h c hb.1 (by omega)) i k hi hk (by unfold hasColour hasIn; rw [List.contains_iff_mem]; exact hc) h1

set_option maxHeartbeats 400000 in
theorem isColourShared_calls {ao : Option Addr} {n cc : Nat} {F C : Int} {ts : List (List Int × Int)} {w : World} (hT : Tens w ao n ts) (hcc : n ≤ cc) (hn : n ≤ 3) (hf : ∀ j, j < n → tenantFault C (tenAt ts j) = 0) (hC0 : 1 ≤ C) (hC1 : C ≤ 8) :
    Calls Try.prog 45 #[.agg #[.int .i64 F, .int .i64 C, .slice ao n cc]] w fun e w' => e = .returned (.bool (shared ts)) ∧ Below w.heap.size w w' := by
  have HL := Lib.hid hT.1
  have HF := Lib.hid hf
  clear hf
  go_enter Try.func45, Try.ntmps45
  go_wp2_with fail
  refine (claimsOf_calls (hT.alloc _) hcc hn (fun j hj => short_of_fault hC1 (HF.out j hj))).mono ?_
  rintro e w1 ⟨b, m, rfl, hbs, hset, hb1⟩
  have hcf : CfgAt w1 w.heap.size F C ao n cc := Row.new hb1
  have hbw := below_past hb1
  clear hb1
  obtain ⟨c0, c1, c2, c3⟩ := hcf.cells
  go_wp2_with fail
  go_loopw [9] (fun i wr => ∃ k : Nat, (k : Int) ≤ C ∧ i = .int .i64 k ∧ Hid (∀ c : Int, 0 ≤ c → c < k → (holdersTo ts c n).length ≤ 1) ∧ SetIs wr b m (claimed ts n 0) ∧ CfgAt wr w.heap.size F C ao n cc ∧ Below w.heap.size w wr) (fun i _ => C.toNat - (intOf i).toNat)
  case atStart => exact ⟨0, by omega, rfl, fun c h0 h1 => by omega, hset, hcf, hbw⟩
  case round =>
    obtain ⟨k, hk, rfl, HW, hset, hcf, hbw⟩ := hrel
    obtain ⟨c0, c1, c2, c3⟩ := hcf.cells
    by_cases hlt : (k : Int) < C
    · by_cases h1 : 1 < (holdersTo ts (k : Int) n).length
      · have HR := Lib.hid (shared_of_holders (ts := ts) (c := (k : Int)) (by rw [HL.out]; exact h1))
        have hL := length_holdersTo ts (k : Int) n
        go_wp2_with fail
        refine (holdersOf_calls hn hset (by omega) (by omega)).mono ?_
        rintro e w2 ⟨v, rfl, hown, hb2⟩
        obtain ⟨vo, vc, rfl, _, _, _⟩ := hown.shape
        clear hown
        go_wp2_with fail
        go_ret
        exact ⟨ret_bool HR.out.symm, hbw.trans (hb2.mono hbw.size)⟩
      · have hL := length_holdersTo ts (k : Int) n
        have HN : Hid (∀ c : Int, 0 ≤ c → c < ((k + 1 : Nat) : Int) → (holdersTo ts c n).length ≤ 1) := fun c h0 h2 => by
          by_cases e : c = k
          · rw [e]; omega
          · exact HW.out c h0 (by omega)
        go_wp2_with fail
        refine (holdersOf_calls hn hset (by omega) (by omega)).mono ?_
        rintro e w2 ⟨v, rfl, hown, hb2⟩
        obtain ⟨vo, vc, rfl, _, _, _⟩ := hown.shape
        have hset2 := hset.below hb2
        have hcf2 : CfgAt w2 w.heap.size F C ao n cc := Row.below hcf hb2
        have hbw2 := hbw.trans (hb2.mono hbw.size)
        clear hown hb2
        go_wp2_with fail
        go_roundw
        case rel => exact ⟨k + 1, by omega, by go_num, HN, hset2, hcf2, hbw2⟩
        case measure => simp [intOf]; omega
    · have HR := Lib.hid (show shared ts = false from shared_not (C := C) (fun j hj => (tenantFault_ok (HF.out j (by rw [HL.out] at hj; exact hj))).2.2.1) (fun c h0 h1 => by rw [HL.out]; exact HW.out c h0 (by omega)))
      go_wp2_with fail
      go_ret
      exact ⟨ret_bool HR.out.symm, hbw⟩

set_option maxHeartbeats 1000000 in
theorem configFault_calls {ao : Option Addr} {n cc : Nat} {F C : Int} {ts : List (List Int × Int)} {w : World} (hT : Tens w ao n ts) (hS : Short 17592186044416 ts) (hcc : n ≤ cc) (hn : n ≤ 17592186044416) :
    Calls Try.prog 21 #[.agg #[.int .i64 F, .int .i64 C, .slice ao n cc]] w fun e w' => e = .returned (.int .i64 (configFault F C ts)) ∧ Below w.heap.size w w' := by
  have HL := Lib.hid hT.1
  have HS := Lib.hid hS
  rcases hWF : within 1 40 [F] with _ | _
  · have HF := Lib.hid (show configFault F C ts = 3 by simp [configFault, hWF])
    go_enter Try.func21, Try.ntmps21
    go_wp2_with (go_at_call 35; go_must (refine (allWithin_calls (Ints.one (by simp)) (by omega)).mono ?_); rintro e w' ⟨rfl, rfl⟩)
    go_ret
    exact ⟨ret_int HF.out.symm, ((Below.refl _ _).alloc (Nat.le_refl _) _).alloc (by simp) _⟩
  rcases hWC : within 1 8 [C] with _ | _
  · have HF := Lib.hid (show configFault F C ts = 3 by simp [configFault, hWC])
    go_enter Try.func21, Try.ntmps21
    go_wp2_with (go_at_call 35; go_must (refine (allWithin_calls (Ints.one (by simp)) (by omega)).mono ?_); rintro e w' ⟨rfl, rfl⟩)
    go_ret
    exact ⟨ret_int HF.out.symm, (((Below.refl _ _).alloc (Nat.le_refl _) _).alloc (by simp) _).alloc (by simp; omega) _⟩
  have hC : 1 ≤ C ∧ C ≤ 8 := by rw [within_one] at hWC; simpa using hWC
  rcases hWN : within 1 3 [(n : Int)] with _ | _
  · have HF := Lib.hid (show configFault F C ts = 2 by unfold configFault; rw [if_pos ⟨hWF, hWC⟩, if_neg (by rw [HL.out]; rw [within_one] at hWN; simp at hWN; omega)])
    go_enter Try.func21, Try.ntmps21
    go_wp2_with (go_at_call 35; go_must (refine (allWithin_calls (Ints.one (by simp)) (by omega)).mono ?_); rintro e w' ⟨rfl, rfl⟩)
    go_ret
    exact ⟨ret_int HF.out.symm, ((((Below.refl _ _).alloc (Nat.le_refl _) _).alloc (by simp) _).alloc (by simp; omega) _).alloc (by simp; omega) _⟩
  have hn13 : 1 ≤ n ∧ n ≤ 3 := by rw [within_one] at hWN; simp at hWN; omega
  have HA := Lib.hid (show configFault F C ts = (if firstFault C ts = 0 then (if shared ts = true then 6 else 0) else firstFault C ts) by unfold configFault; rw [if_pos ⟨hWF, hWC⟩, if_pos (by rw [HL.out]; omega)])
  obtain ⟨b, off, rfl, hb, hten⟩ := hT.2 (by omega)
  go_enter Try.func21, Try.ntmps21
  go_wp2_with (go_at_call 35; go_must (refine (allWithin_calls (Ints.one (by simp)) (by omega)).mono ?_); rintro e w' ⟨rfl, rfl⟩)
  go_loopw [27] (fun i wr => ∃ k : Nat, k ≤ n ∧ i = .int .i64 k ∧ Hid (∀ j, j < k → tenantFault C (tenAt ts j) = 0) ∧ CfgAt wr w.heap.size F C (some ⟨b, off, none⟩) n cc ∧ Below w.heap.size w wr) (fun i _ => n - (intOf i).toNat)
  case atStart => exact ⟨0, Nat.zero_le _, rfl, fun j hj => by omega, four_new.1, four_new.2⟩
  case round =>
    obtain ⟨k, hk, rfl, HW, hcf, hbw⟩ := hrel
    obtain ⟨c0, c1, c2, c3⟩ := hcf.cells
    by_cases hlt : k < n
    · obtain ⟨d0, a, l, c, hlc, e0, e1, hI⟩ := (hten k hlt).below hbw
      have hl : l ≤ 17592186044416 := by have := HS.out.at_ k; have := hI.1; omega
      have h4 : tenAt ts k = ((tenAt ts k).1, (tenAt ts k).2) := rfl
      by_cases h0 : tenantFault C (tenAt ts k) = 0
      · have HH : Hid (∀ j, j < k + 1 → tenantFault C (tenAt ts j) = 0) := fun j hj => by
          by_cases e : j = k
          · rw [e]; exact h0
          · exact HW.out j (by omega)
        have H0 := Lib.hid h0
        clear h0 h4
        go_wp2_with fail
        refine (tenantFault_calls hC.1 hC.2 (hI.alloc _) hl).mono ?_
        rintro e w1 ⟨rfl, hb1⟩
        rw [H0.out]
        have R1 : CfgAt w1 w.heap.size F C (some ⟨b, off, none⟩) n cc := Row.below hcf (below_past hb1)
        have hbw1 := hbw.trans ((below_past hb1).mono hbw.size)
        clear hb1
        go_wp2_with fail
        go_roundw
        case rel => exact ⟨k + 1, by omega, by go_num, HH, R1, hbw1⟩
        case measure => simp [intOf]; omega
      · have HF := Lib.hid (show configFault F C ts = tenantFault C (tenAt ts k) by
          have e := firstFault_at (by rw [HL.out]; exact hlt) HW.out h0
          rw [HA.out, if_neg (by rw [e]; exact h0), e])
        have h0' : (tenantFault C (tenAt ts k) != 0) = true := by simpa [bne_iff_ne] using h0
        clear h0 h4
        go_wp2_with fail
        refine (tenantFault_calls hC.1 hC.2 (hI.alloc _) hl).mono ?_
        rintro e w1 ⟨rfl, hb1⟩
        have hbw1 := hbw.trans ((below_past hb1).mono hbw.size)
        clear hb1
        go_wp2_with fail
        go_ret
        exact ⟨ret_int HF.out.symm, hbw1⟩
    · have HB := Lib.hid (show configFault F C ts = (if shared ts = true then 6 else 0) by
        rw [HA.out, if_pos (firstFault_ok fun j hj => HW.out j (by rw [HL.out] at hj; omega))])
      go_wp2_with fail
      refine (isColourShared_calls (hT.below hbw) hcc hn13.2 (fun j hj => HW.out j (by omega)) hC.1 hC.2).mono ?_
      rintro e w1 ⟨rfl, hb1⟩
      have hbw1 := hbw.trans (hb1.mono hbw.size)
      clear hb1
      rcases hS : shared ts with _ | _
      all_goals
        have HG := HB.out
        rw [hS] at HG
        simp at HG
        have HF := Lib.hid HG
        clear HG
        go_wp2_with fail
        go_ret
        exact ⟨ret_int HF.out.symm, hbw1⟩
end Go.Proofs.Ytmibekddapnaaaa
