/- Joined texts (Impl5b, Impl5c, Impl5d, Impl5e, Impl5f, Impl5g, App4, Impl5h): steps of the proofs of chapter 5's laws. -/
import Derived.Deep.DeepCutAuto
import Derived.Deep.CutRange
import Derived.BigRegion
import Derived.Laws.CopyRow
import Derived.Test.YthpamclljdcjpaaGreatDoorM5
import Derived.Test.YthpamclljdcjpaaGreatDoorM7
import Derived.Test.YthpamclljdcjpaaGreatDoorM8
set_option linter.unusedVariables false
set_option linter.unusedSimpArgs false
/- Chapter 5 of the program: why a heap is none. -/
namespace Go.Proofs.YthpamclljdcjpaaGreatDoor
open Go.RowKit

theorem hasIn_flatten_snoc {ms : List (List Int)} {k : Nat} {m : List Int} {v : Int} (h : ms[k]? = some m) : hasIn (ms.take (k + 1)).flatten v = (hasIn (ms.take k).flatten v || hasIn m v) := by
  rw [flatten_snoc h]; unfold hasIn; rw [List.contains_eq_any_beq, List.any_append, ← List.contains_eq_any_beq, ← List.contains_eq_any_beq]
theorem hasIn_flatten_yes {ms : List (List Int)} {k : Nat} {m : List Int} {v : Int} (h : ms[k]? = some m) (hv : hasIn m v = true) : hasIn ms.flatten v = true := by
  unfold hasIn at *
  rw [List.contains_iff_mem] at *
  exact List.mem_flatten.2 ⟨m, List.mem_of_getElem? h, hv⟩
theorem flatten_len_at {ms : List (List Int)} {k : Nat} {m : List Int} (h : ms[k]? = some m) : m.length ≤ ms.flatten.length := by
  have h1 := flatten_snoc h
  have h2 := flatten_take_le ms (k + 1)
  rw [h1, List.length_append] at h2; omega

set_option maxRecDepth 100000 in
set_option maxHeartbeats 1000000 in
theorem isKept_calls {pa wa ma : Option Addr} {pn pc wn wc mn mc : Nat} {v : Int} {ms : List (List Int)} {S : Nat → Prop} {w : World} (hM : Lst KMag w S ma mn ms) (hS : ShortM 17592186044416 ms) (hn : mn ≤ 17592186044416) :
    Calls Tryz.prog 84 #[.agg #[.slice pa pn pc, .slice wa wn wc, .slice ma mn mc], .int .i64 v] w fun e w' => e = .returned (.bool (hasIn ms.flatten v)) ∧ Below w.heap.size w w' := by
  have HL := Lib.hid hM.1
  have HS := Lib.hid hS
  go_enter Tryz.func84, Tryz.ntmps84
  go_wp2_with fail
  have hB0 : Below w.heap.size w (w.alloc (.cells #[.slice pa pn pc, .slice wa wn wc, .slice ma mn mc] 28)) := (Below.refl _ _).alloc (Nat.le_refl _) _
  go_loopw [6, 10] (fun _ i wr => ∃ k : Nat, k ≤ mn ∧ i = .int .i64 k ∧ Hid (hasIn (ms.take k).flatten v = false) ∧ Below w.heap.size w wr) (fun _ i _ => mn - (intOf i).toNat)
  case atStart => exact ⟨0, Nat.zero_le _, rfl, rfl, hB0⟩
  case round =>
    clear hB0
    obtain ⟨k, hk, rfl, HK, hbw⟩ := hrel
    by_cases hlt : k < mn
    · obtain ⟨b0, o0, m, a0, l0, c0, rfl, d0, hp, e0, hlc0, hcm0, hu0⟩ := (hM.below hbw).mag_at hlt
      have hl : l0 ≤ 17592186044416 := by have := HS.out.at_ hp; have := hu0.1; omega
      have HP := Lib.hid hp
      clear hp hcm0
      rcases hx : hasIn m v with _ | _
      · have HN : Hid (hasIn (ms.take (k + 1)).flatten v = false) := by show _ = _; rw [hasIn_flatten_snoc HP.out, HK.out, hx]; rfl
        go_wp2_with fail
        refine (containsI_calls hu0.ints hl).mono ?_
        rw [hx]
        rintro e w1 ⟨rfl, rfl⟩
        go_wp2_with fail
        go_roundw
        case rel => exact ⟨k + 1, by omega, by go_num, HN, hbw⟩
        case measure => simp [intOf]; omega
      · have HN : Hid (hasIn ms.flatten v = true) := hasIn_flatten_yes HP.out hx
        go_wp2_with fail
        refine (containsI_calls hu0.ints hl).mono ?_
        rw [hx]
        rintro e w1 ⟨rfl, rfl⟩
        go_wp2_with fail
        go_ret
        exact ⟨ret_bool HN.out.symm, hbw⟩
    · have HN : Hid (hasIn ms.flatten v = false) := by have := HK.out; rwa [List.take_of_length_le (by have := HL.out; omega)] at this
      go_wp2_with fail
      go_ret
      exact ⟨ret_bool HN.out.symm, hbw⟩

set_option maxRecDepth 100000 in
set_option maxHeartbeats 1000000 in
theorem magFault_calls {ao a : Option Addr} {n cc g l c : Nat} {cls : Int} {ps : List Pg} {m : List Int} {S S' : Nat → Prop} {w : World} (hT : Lst KPage w S ao n ps) (hv : pagesFault ps = 0) (hn : n ≤ cc) (hc : cc ≤ 9223372036854775807)
    (hr : Row w g 196 #[.slice a l c]) (hm : Lst KInt w S' a l m) :
    Calls Tryz.prog 79 #[.slice ao n cc, .pointer (some ⟨g, 0, none⟩), .int .i64 cls] w fun e w' => e = .returned (.int .i64 (magFault ps cls m)) ∧ Below w.heap.size w w' := by
  have HL := Lib.hid hm.1
  by_cases h2 : 2 < l
  · have hd : decide ((2 : Int) < (l : Int)) = true := by simp; omega
    have HF : Hid (magFault ps cls m = 2) := by show _ = _; unfold magFault; rw [if_pos (by rw [HL.out]; exact h2)]
    go_enter Tryz.func79, Tryz.ntmps79
    go_wp2_with fail
    refine (isTooFull_calls hr).mono ?_
    rw [hd]
    rintro e w1 ⟨rfl, rfl⟩
    go_wp2_with fail
    go_ret
    exact ⟨ret_int HF.out.symm, Below.refl _ _⟩
  have hd : decide ((2 : Int) < (l : Int)) = false := by simp; omega
  have HM : Hid (magFault ps cls m = if m.all (isSlotAt ps cls) = true then 0 else 1) := by show _ = _; unfold magFault; rw [if_neg (by rw [HL.out]; exact h2)]
  have h0 := hr.lt
  have h1 := hr.cell 0
  simp at h1
  go_enter Tryz.func79, Tryz.ntmps79
  go_wp2_with fail
  refine (isTooFull_calls hr).mono ?_
  rw [hd]
  rintro e w1 ⟨rfl, rfl⟩
  go_wp2_with fail
  go_loopw [8, 16] (fun _ i wr => ∃ k : Nat, k ≤ l ∧ i = .int .i64 k ∧ Hid ((m.take k).all (isSlotAt ps cls) = true) ∧ Below w.heap.size w wr) (fun _ i _ => l - (intOf i).toNat)
  case atStart => exact ⟨0, Nat.zero_le _, rfl, rfl, Below.refl _ _⟩
  case round =>
    clear h0 h1
    obtain ⟨k, hk, rfl, HK, hbw⟩ := hrel
    by_cases hlt : k < l
    · obtain ⟨b0, o0, rfl, d0, e0⟩ := (hm.ints.below hbw).at_ hlt
      have hx : m[k]? = some (m.getD k 0) := by rw [List.getD_eq_getElem?_getD, List.getElem?_eq_getElem (by rw [HL.out]; exact hlt)]; rfl
      have HX := Lib.hid hx
      generalize m.getD k 0 = x at e0 HX
      clear hx
      rcases hs : isSlotAt ps cls x with _ | _
      · have HF : Hid (magFault ps cls m = 1) := by
          show _ = _; rw [HM.out, if_neg]
          intro hall
          have := List.all_eq_true.1 hall x (List.mem_of_getElem? HX.out)
          rw [hs] at this; cases this
        go_wp2_with fail
        refine (isSlotStart_calls (hT.below hbw) hv hn hc).mono ?_
        rw [hs]
        rintro e w2 ⟨rfl, hb2⟩
        have hB2 := hbw.trans (hb2.mono hbw.size)
        clear hb2
        go_wp2_with fail
        go_ret
        exact ⟨ret_int HF.out.symm, hB2⟩
      · have HN : Hid ((m.take (k + 1)).all (isSlotAt ps cls) = true) := by
          show _ = _
          rw [List.take_add_one, HX.out, List.all_append, HK.out]; simp [hs]
        go_wp2_with fail
        refine (isSlotStart_calls (hT.below hbw) hv hn hc).mono ?_
        rw [hs]
        rintro e w2 ⟨rfl, hb2⟩
        have hB2 := hbw.trans (hb2.mono hbw.size)
        clear hb2
        go_wp2_with fail
        go_roundw
        case rel => exact ⟨k + 1, by omega, by go_num, HN, hB2⟩
        case measure => simp [intOf]; omega
    · have HF : Hid (magFault ps cls m = 0) := by
        show _ = _; rw [HM.out, if_pos]
        have := HK.out; rwa [List.take_of_length_le (by have := HL.out; omega)] at this
      go_wp2_with fail
      go_ret
      exact ⟨ret_int HF.out.symm, hbw⟩

theorem run_neq_ints {P : Program} {t e : TypeId} {n : Nat} {i : TypeInfo} (hu : P.underlying t = some (.array n e)) (hi : P.info? e = some i) (hc : P.cellsOf e = 1) (he : P.underlying e = some (.int .i64)) (hk : P.plainKey e = true)
    (A B : List Int) (hA : A.length = n) (hB : B.length = n) (w : World) :
    (binOp .neq t (.agg (A.map (Value.int .i64)).toArray) (.agg (B.map (Value.int .i64)).toArray)).run P w = .ok (.bool (!decide (A = B))) w := by
  rw [run_neq_struct, run_equalIn_array w 9999 _ _ hu hi, hc, run_eqInts he hk A B 9998 w _ (fun j hj => by simp at hj; omega)]
  simp only [Result.andThen_ok]
  congr 3
  rw [Bool.eq_iff_iff, List.all_eq_true, decide_eq_true_iff]
  constructor
  · intro h
    apply List.ext_getElem (by omega)
    intro j h1 h2
    have := h j (by simp; omega)
    simpa [List.getD, h1, h2] using this
  · rintro rfl j _
    simp
theorem freeZero_no {ws : List Int} : ∀ {ps : List Pg} {j k : Nat} {p : Pg}, ps[k]? = some p → p.kind = 0 → frameOf ws (j + k) ≠ List.replicate 16 0 → freeZero ws j ps = false
  | [], _, _, _, h, _, _ => by simp at h
  | q :: r, j, 0, p, h, h0, hf => by
    simp at h; subst h
    unfold freeZero
    rw [decide_eq_false (show ¬ (q.kind ≠ 0) from fun h => h h0), decide_eq_false (show ¬ (frameOf ws j = List.replicate 16 0) from hf)]; rfl
  | q :: r, j, k + 1, p, h, h0, hf => by
    have := freeZero_no (ws := ws) (ps := r) (j := j + 1) (k := k) (p := p) (by simpa using h) h0 (by rw [show j + 1 + k = j + (k + 1) by omega]; exact hf)
    simp [freeZero, this]
theorem freeZero_yes {ws : List Int} : ∀ {ps : List Pg} {j : Nat}, (∀ (k : Nat) (p : Pg), ps[k]? = some p → p.kind = 0 → frameOf ws (j + k) = List.replicate 16 0) → freeZero ws j ps = true
  | [], _, _ => rfl
  | q :: r, j, h => by
    unfold freeZero
    rw [freeZero_yes (ps := r) (j := j + 1) (fun k p hk h0 => by rw [show j + 1 + k = j + (k + 1) by omega]; exact h (k + 1) p (by simpa using hk) h0), Bool.and_true]
    by_cases h0 : q.kind = 0
    · have := h 0 q (by simp) h0
      rw [decide_eq_true (show frameOf ws j = List.replicate 16 0 from this), Bool.or_true]
    · simp [h0]
theorem freeZero_at {ws : List Int} {ps : List Pg} (h : freeZero ws 0 ps = true) {k : Nat} {p : Pg} (hp : ps[k]? = some p) (h0 : p.kind = 0) : frameOf ws k = List.replicate 16 0 := by
  by_cases hf : frameOf ws k = List.replicate 16 0
  · exact hf
  · rw [freeZero_no (ws := ws) (j := 0) hp h0 (by rw [Nat.zero_add]; exact hf)] at h; cases h
end Go.Proofs.YthpamclljdcjpaaGreatDoor

/- Chapter 5 of the program: free pages are of zeros; magazines made; why a heap is none. -/
namespace Go.Proofs.YthpamclljdcjpaaGreatDoor
open Go.RowKit

set_option maxRecDepth 100000 in
set_option maxHeartbeats 2000000 in
theorem areFreePagesZero_calls {pa wa ma : Option Addr} {pn pc wn wc mn mc : Nat} {h : Hp} {S : Nat → Prop} {w : World} (hr : HpR w S pa pn pc wa wn wc ma mn mc h) (hl : h.words.length = h.pages.length * 16) (hp40 : h.pages.length ≤ 40) :
    Calls Tryz.prog 82 #[.agg #[.slice pa pn pc, .slice wa wn wc, .slice ma mn mc]] w fun e w' => e = .returned (.bool (freeZero h.words 0 h.pages)) ∧ Below w.heap.size w w' := by
  obtain ⟨i0, hi, _, _, _⟩ := info_parts info64
  have HL := Lib.hid hr.pg.1
  have HW := Lib.hid hr.wd.1
  have hT := hr.pg
  have hwd := hr.wd.ints
  have hwc := hr.w1
  have HWn := Lib.hid (show wn = pn * 16 by have := HL.out; have := HW.out; omega)
  have hpn : pn ≤ 40 := by have := HL.out; omega
  clear hr hl
  go_enter Tryz.func82, Tryz.ntmps82
  go_wp2_with fail
  have hB0 : Below w.heap.size w (w.alloc (.cells #[.slice pa pn pc, .slice wa wn wc, .slice ma mn mc] 28)) := (Below.refl _ _).alloc (Nat.le_refl _) _
  have hR0 : Row (w.alloc (.cells #[.slice pa pn pc, .slice wa wn wc, .slice ma mn mc] 28)) w.heap.size 28 #[.slice pa pn pc, .slice wa wn wc, .slice ma mn mc] := heap_alloc_new w _
  go_loopw [3, 4, 8] (fun _ _ i wr => ∃ k : Nat, k ≤ pn ∧ i = .int .i64 k ∧ Hid (∀ (j : Nat) (p : Pg), j < k → h.pages[j]? = some p → p.kind = 0 → frameOf h.words (0 + j) = List.replicate 16 0) ∧ Row wr w.heap.size 28 #[.slice pa pn pc, .slice wa wn wc, .slice ma mn mc] ∧ Below w.heap.size w wr) (fun _ _ i _ => pn - (intOf i).toNat)
  case atStart => exact ⟨0, Nat.zero_le _, rfl, fun j p hj => by omega, hR0, hB0⟩
  case round =>
    clear hB0 hR0
    obtain ⟨k, hk, rfl, HK, hR, hbw⟩ := hrel
    by_cases hlt : k < pn
    · obtain ⟨b0, o0, p, a0, l0, c0, rfl, d0, hp, e0, e1, e2, e3, hlc0, hcm0, hu0⟩ := (hT.below hbw).pg_at hlt
      have HP := Lib.hid hp
      have r1 := hR.cell 1
      have rlt := hR.lt
      simp at r1
      clear hp hcm0 hu0
      by_cases h0 : p.kind = 0
      · have hf2 : (k + 1) * 16 ≤ wn := by rw [HWn.out]; omega
        have hwn4 : wn ≤ 17592186044416 := by rw [HWn.out]; omega
        have hai := (hwd.below hbw).alloc (.cells #[.int .i64 p.kind, .int .i64 p.cls, .slice a0 l0 c0, .int .i64 p.run] 137)
        have hneq := fun u : World => run_neq_ints (P := Tryz.prog) (t := 201) Tryz.underlying201 hi (by kernel_rfl) Tryz.underlying2 (by kernel_rfl) (frameOf h.words k) (List.replicate 16 0) (length_frameOf (by rw [HW.out]; exact hf2)) rfl u
        have heq2 : ∀ u : World, (binOp .neq 201 (.agg (List.map (Value.int .i64) (frameOf h.words k)).toArray) (.agg #[.int .i64 0, .int .i64 0, .int .i64 0, .int .i64 0, .int .i64 0, .int .i64 0, .int .i64 0, .int .i64 0, .int .i64 0, .int .i64 0, .int .i64 0, .int .i64 0, .int .i64 0, .int .i64 0, .int .i64 0, .int .i64 0])).run Tryz.prog u = .ok (.bool (!decide (frameOf h.words k = List.replicate 16 0))) u := hneq
        clear hneq
        have hRB := Lib.hid (And.intro hR hbw)
        rw [h0] at e0 hai
        rcases hz : decide (frameOf h.words k = List.replicate 16 0) with _ | _
        · have HF : Hid (freeZero h.words 0 h.pages = false) := freeZero_no (j := 0) HP.out h0 (by rw [Nat.zero_add]; simpa using hz)
          rw [hz] at heq2
          clear hz h0 hR hbw
          go_wp2_with fail
          refine (frameAt_calls hai hf2 hwc hwn4).mono ?_
          rintro e w2 ⟨rfl, hb2⟩
          have HB2 := Lib.hid (hRB.out.2.trans ((below_past hb2).mono hRB.out.2.size))
          clear hb2
          go_wp2_with fail
          go_ret
          exact ⟨ret_bool HF.out.symm, HB2.out⟩
        · have HN : Hid (∀ (j : Nat) (q : Pg), j < k + 1 → h.pages[j]? = some q → q.kind = 0 → frameOf h.words (0 + j) = List.replicate 16 0) := fun j q hj hq hq0 => by
            by_cases e : j = k
            · subst e; rw [Nat.zero_add]; simpa using hz
            · exact HK.out j q (by omega) hq hq0
          rw [hz] at heq2
          clear hz h0 hR hbw
          go_wp2_with fail
          refine (frameAt_calls hai hf2 hwc hwn4).mono ?_
          rintro e w2 ⟨rfl, hb2⟩
          have HB2 := Lib.hid (hRB.out.2.trans ((below_past hb2).mono hRB.out.2.size))
          have HR2 := Lib.hid (hRB.out.1.below (below_past hb2))
          clear hb2
          go_wp2_with fail
          go_roundw
          case rel => exact ⟨k + 1, by omega, by go_num, HN, HR2.out, HB2.out⟩
          case measure => simp [intOf]; omega
      · have HN : Hid (∀ (j : Nat) (q : Pg), j < k + 1 → h.pages[j]? = some q → q.kind = 0 → frameOf h.words (0 + j) = List.replicate 16 0) := fun j q hj hq hq0 => by
          by_cases e : j = k
          · subst e; have := HP.out.symm.trans hq; injection this with this; subst this; exact absurd hq0 h0
          · exact HK.out j q (by omega) hq hq0
        have hq : (p.kind == 0) = false := by simpa using h0
        have HRB := Lib.hid (And.intro (hR.below ((Below.refl _ _).alloc (Nat.le_refl wr.heap.size) (.cells #[.int .i64 p.kind, .int .i64 p.cls, .slice a0 l0 c0, .int .i64 p.run] 137))) (hbw.alloc hbw.size (.cells #[.int .i64 p.kind, .int .i64 p.cls, .slice a0 l0 c0, .int .i64 p.run] 137)))
        clear h0 hR hbw
        go_wp2_with fail
        go_roundw
        case rel => exact ⟨k + 1, by omega, by go_num, HN, HRB.out.1, HRB.out.2⟩
        case measure => simp [intOf]; omega
    · have HF : Hid (freeZero h.words 0 h.pages = true) := freeZero_yes fun j p hj hj0 => HK.out j p (by have := (List.getElem?_eq_some_iff.1 hj).1; have := HL.out; omega) hj hj0
      go_wp2_with fail
      go_ret
      exact ⟨ret_bool HF.out.symm, hbw⟩

set_option maxRecDepth 100000 in
set_option maxHeartbeats 2000000 in
theorem magazinesOf_calls {pa wa ma : Option Addr} {pn pc wn wc mn mc : Nat} {ms : List (List Int)} {S : Nat → Prop} {w : World} (hM : Lst KMag w S ma mn ms) (hS : ShortM 1048576 ms) (hn : mn ≤ 1048576) :
    Calls Tryz.prog 78 #[.agg #[.slice pa pn pc, .slice wa wn wc, .slice ma mn mc]] w fun e w' => ∃ v, e = .returned v ∧ Own KPM 124 w' (fun k => w.heap.size ≤ k) v mn ms ∧ Below w.heap.size w w' := by
  obtain ⟨ip, hip, hp0, hp1, hp2⟩ := info_parts infoPM
  have HL := Lib.hid hM.1
  have HS := Lib.hid hS
  go_enter Tryz.func78, Tryz.ntmps78
  go_wp2_with (
    at_make
    go_must (refine wpList_make_own _ rfl _ _ 122 rfl (w.heap.size + 1) 124 ip (.pointer none) 1 Tryz.underlying122 hip hp0 hp1 _ _ _ mn rfl rfl rfl (by rw [hp2]; omega) (by unfold maxLen; omega) (by simp) ?_)
    intro w1 hown hg1
    obtain ⟨g, hgB⟩ : ∃ g, g = (w.alloc (.cells #[.slice pa pn pc, .slice wa wn wc, .slice ma mn mc] 28)).heap.size := ⟨_, rfl⟩
    rw [← hgB] at hown ⊢
    have hO0 : Own KPM 124 w1 (fun q => w.heap.size ≤ q) (.slice (some ⟨g, 0, none⟩) 0 mn) 0 [] := by
      refine Own.of_row (cells := []) (F := fun _ _ => False) (K := KPM) ?_ rfl (fun g' h => ?_) (fun _ _ h => h.elim) (fun _ _ _ h => h.elim) (fun j x hj => by simp at hj)
      · obtain ⟨h1, h2⟩ := hown
        refine ⟨h1, ?_⟩
        rcases h2 with h2 | ⟨g', cap', cur, hv, _, r⟩
        · exact .inl h2
        · exact .inr ⟨g', cap', cur, hv, Nat.zero_le _, r⟩
      · simp [Value.ownBlock] at h; simp at hgB; omega
    have hB0 : Below w.heap.size w w1 := ((Below.refl _ _).alloc (Nat.le_refl _) _).grown hg1 (by simp) (by simp)
    have hR0 : Row w1 w.heap.size 28 #[.slice pa pn pc, .slice wa wn wc, .slice ma mn mc] := (hg1.block w.heap.size (by simp) (by simp)).trans (heap_alloc_new w _)
    have r2 := hR0.cell 2
    have rlt := hR0.lt
    simp at r2
    clear hown hg1 hgB)
  clear hR0 r2 rlt
  go_loopw [3, 5, 13] (fun v _ i wr => ∃ k : Nat, k ≤ mn ∧ i = .int .i64 k ∧ Own KPM 124 wr (fun q => w.heap.size ≤ q) v k (ms.take k) ∧ Below w.heap.size w wr) (fun _ _ i _ => mn - (intOf i).toNat)
  case atStart => exact ⟨0, Nat.zero_le _, rfl, by simpa using hO0, hB0⟩
  case round =>
    clear hO0 hB0
    obtain ⟨k, hk, rfl, hO, hbw⟩ := hrel
    obtain ⟨vo, vc, rfl, hvc1, hvc2, _⟩ := hO.shape
    by_cases hlt : k < mn
    · obtain ⟨b0, o0, m, a0, l0, c0, rfl, d0, hp, e0, hlc0, hcm0, hu0⟩ := (hM.below hbw).mag_at hlt
      have hl : l0 ≤ 1099511627776 := by have := HS.out.at_ hp; have := hu0.1; omega
      have HP := Lib.hid hp
      have HO := Lib.hid hO
      have HB := Lib.hid hbw
      have hu := hu0
      clear hp hcm0 hO hu0
      go_wp2_with fail
      refine (cloneI_calls hu hl).mono ?_
      rintro e w2 ⟨v2, rfl, hown2, hb2⟩
      obtain ⟨vo2, vc2, rfl, _, _, _⟩ := hown2.shape
      have hO2 : Own KPM 124 ((w2.alloc (.cells #[.slice vo2 l0 vc2] 196)).alloc (.cells #[.pointer (some ⟨w2.heap.size, 0, none⟩)] 124)) (fun q => w.heap.size ≤ q ∧ q < wr.heap.size) (.slice vo k vc) k (ms.take k) := ((HO.out.here.below hb2).alloc _).alloc _
      have hY : KPM.own ((w2.alloc (.cells #[.slice vo2 l0 vc2] 196)).alloc (.cells #[.pointer (some ⟨w2.heap.size, 0, none⟩)] 124)) (fun q => wr.heap.size ≤ q) [.pointer (some ⟨w2.heap.size, 0, none⟩)] m := by
        refine ⟨w2.heap.size, #[.slice vo2 l0 vc2], fun q => wr.heap.size ≤ q ∧ q < w2.heap.size, rfl, hb2.size, ?_, KMag_own_mk ((hown2.here.alloc _).alloc _), fun q hq => ⟨hq.1, by omega⟩⟩
        exact (Row.below (heap_alloc_new w2 _) ((Below.refl _ _).alloc (Nat.le_refl _) _))
      have hc3 : ((w2.alloc (.cells #[.slice vo2 l0 vc2] 196)).alloc (.cells #[.pointer (some ⟨w2.heap.size, 0, none⟩)] 124)).cell? ⟨w2.heap.size + 1, 0, none⟩ = some (.pointer (some ⟨w2.heap.size, 0, none⟩)) := by
        simp
      have H2 := Lib.hid (And.intro hO2 (And.intro hY hc3))
      have HB2 := Lib.hid (((HB.out.trans (hb2.mono HB.out.size)).alloc (by have := hb2.size; have := HB.out.size; omega) (.cells #[.slice vo2 l0 vc2] 196)).alloc (by have := hb2.size; have := HB.out.size; simp; omega) (.cells #[.pointer (some ⟨w2.heap.size, 0, none⟩)] 124))
      have hs12 := hb2.size
      clear hown2 hb2 hO2 hY hc3 hu
      go_wp2_with (
        at_builtin
        go_must (refine wpList_append_elem (K := KPM) rfl (.tmp 17) (.tmp 22) 122 rfl 124 ip (.pointer none) 8 Tryz.underlying122 hip hp0 hp1 hp2 rfl (by decide) (one_ptr _ _) (b := w2.heap.size + 1) (c := 1) (y := m) (cs := [.pointer (some ⟨w2.heap.size, 0, none⟩)]) rfl H2.out.1 rfl (fun j u hu => ?_) H2.out.2.1 (fun q hq _ hq2 => by omega) (by unfold maxLen; omega) (by omega) ?_)
        · cases j with
          | zero => simp at hu; subst hu; exact H2.out.2.2
          | succ j => simp at hu
        intro v3 w3 ho3 ht3
        have H3 : Hid (Own KPM 124 w3 (fun q => w.heap.size ≤ q) v3 (k + 1) (ms.take (k + 1)) ∧ Below w.heap.size w w3) := by
          refine ⟨?_, ht3.below HB2.out (by have := HB.out.size; simp; omega) (fun q hq => hq.1)⟩
          rw [List.take_add_one, HP.out]
          refine ho3.mono (fun q hq _ => ?_)
          have := HB.out.size
          simp at hq
          omega
        clear ho3 ht3)
      go_roundw
      case rel => exact ⟨k + 1, by omega, by go_num, H3.out.1, H3.out.2⟩
      case measure => simp [intOf]; omega
    · have HF : Hid (Own KPM 124 wr (fun q => w.heap.size ≤ q) (.slice vo k vc) mn ms ∧ Below w.heap.size w wr) := by
        have e : k = mn := by omega
        rw [List.take_of_length_le (by have := HL.out; omega)] at hO
        rw [← e]
        exact ⟨hO, hbw⟩
      clear hO hbw
      go_wp2_with fail
      go_ret
      exact ⟨_, rfl, HF.out.1, HF.out.2⟩
end Go.Proofs.YthpamclljdcjpaaGreatDoor

/- Chapter 5 of the program: why a heap is none. -/
namespace Go.Proofs.YthpamclljdcjpaaGreatDoor
open Go.RowKit

theorem magsFault_first {ps : List Pg} : ∀ {ms : List (List Int)} {j k : Nat} {m : List Int}, (∀ (i : Nat) (x : List Int), i < k → ms[i]? = some x → magFault ps (((j + i) % 4 : Nat) : Int) x = 0) → ms[k]? = some m → magFault ps (((j + k) % 4 : Nat) : Int) m ≠ 0 → magsFault ps j ms = magFault ps (((j + k) % 4 : Nat) : Int) m
  | [], _, _, _, _, h, _ => by simp at h
  | q :: r, j, 0, m, _, h, hne => by
    simp at h; subst h
    unfold magsFault
    rw [if_neg (by simpa using hne)]; simp
  | q :: r, j, k + 1, m, hall, h, hne => by
    unfold magsFault
    rw [if_pos (by simpa using hall 0 q (by omega) (by simp))]
    rw [show j + (k + 1) = j + 1 + k by omega] at hne ⊢
    exact magsFault_first (fun i x hi hx => by rw [show j + 1 + i = j + (i + 1) by omega]; exact hall (i + 1) x (by omega) (by simpa using hx)) (by simpa using h) hne
theorem magsFault_none {ps : List Pg} : ∀ {ms : List (List Int)} {j : Nat}, (∀ (i : Nat) (x : List Int), ms[i]? = some x → magFault ps (((j + i) % 4 : Nat) : Int) x = 0) → magsFault ps j ms = 0
  | [], _, _ => rfl
  | q :: r, j, hall => by
    unfold magsFault
    rw [if_pos (by simpa using hall 0 q (by simp))]
    exact magsFault_none (fun i x hx => by rw [show j + 1 + i = j + (i + 1) by omega]; exact hall (i + 1) x (by simpa using hx))

set_option maxRecDepth 100000 in
set_option maxHeartbeats 4000000 in
theorem heapFault_calls {pa wa ma : Option Addr} {pn pc wn wc mn mc : Nat} {h : Hp} {S : Nat → Prop} {w : World} (hr : HpR w S pa pn pc wa wn wc ma mn mc h) (hs : HpS 1048576 h) :
    Calls Tryz.prog 17 #[.agg #[.slice pa pn pc, .slice wa wn wc, .slice ma mn mc]] w fun e w' => e = .returned (.int .i64 (heapFault h)) ∧ Below w.heap.size w w' := by
  have HP := Lib.hid hr.pg.1
  have HW := Lib.hid hr.wd.1
  have HM := Lib.hid hr.mg.1
  have HS := Lib.hid hs
  have hpn : pn ≤ 1048576 := by have := HP.out; have := hs.p; omega
  have hwn : wn ≤ 1048576 := by have := HW.out; have := hs.w; omega
  have hmn : mn ≤ 1048576 := by have := HM.out; have := hs.m; omega
  have HR := Lib.hid hr
  have hp2 : pc ≤ 9223372036854775807 := Nat.le_trans hr.p2 (by decide)
  have hp1 := hr.p1
  have hT := hr.pg
  have HSP : Hid (ShortP 17592186044416 h.pages) := fun p hp => Nat.le_trans (hs.u p hp) (by decide)
  clear hr hs
  go_enter Tryz.func17, Tryz.ntmps17
  go_wp2_with fail
  refine (pagesFault_calls (hT.alloc _) HSP.out (by omega)).mono ?_
  rintro e w1 ⟨rfl, hb1⟩
  have R1 := Row.new hb1
  have B1 := Lib.hid (below_past hb1)
  clear hb1
  have q0 := R1.cell 0
  have q1 := R1.cell 1
  have q2 := R1.cell 2
  have ql := R1.lt
  simp at q0 q1 q2
  by_cases hv : pagesFault h.pages = 0
  rotate_left
  · have HF : Hid (heapFault h = pagesFault h.pages) := by show _ = _; unfold heapFault; rw [if_neg hv]
    have hq : (pagesFault h.pages != 0) = true := by simpa using hv
    clear hv
    go_wp2_with fail
    go_ret
    exact ⟨ret_int HF.out.symm, B1.out⟩
  have HV := Lib.hid hv
  have hq : (pagesFault h.pages != 0) = false := by simp [hv]
  rw [hv]
  clear hv hq
  by_cases hlen : (wn : Int) = (pn : Int) * 16
  rotate_left
  · have HF : Hid (heapFault h = 2) := by show _ = _; unfold heapFault; rw [if_pos HV.out, if_neg]; rintro ⟨h1, _⟩; have := HW.out; have := HP.out; omega
    have hq : ((wn : Int) != (pn : Int) * 16) = true := by simpa using hlen
    clear hlen
    go_wp2_with fail
    go_ret
    exact ⟨ret_int HF.out.symm, B1.out⟩
  have HLen := Lib.hid (show h.words.length = h.pages.length * 16 by have := HW.out; have := HP.out; omega)
  have hq : ((wn : Int) != (pn : Int) * 16) = false := by simpa using hlen
  clear hlen
  go_wp2_with fail
  refine (isMagCount_calls (by omega)).mono ?_
  rintro e w2 ⟨rfl, hb2⟩
  have R2 := R1.below hb2
  have B2 := Lib.hid (B1.out.trans (hb2.mono B1.out.size))
  clear hb2 R1 q0 q1 q2 ql hq
  have q0 := R2.cell 0
  have q1 := R2.cell 1
  have q2 := R2.cell 2
  have ql := R2.lt
  simp at q0 q1 q2
  rcases hmc : magCount mn with _ | _
  · have HF : Hid (heapFault h = 2) := by show _ = _; unfold heapFault; rw [if_pos HV.out, if_neg]; rintro ⟨_, h2⟩; rw [HM.out, hmc] at h2; cases h2
    go_wp2_with fail
    go_ret
    exact ⟨ret_int HF.out.symm, B2.out⟩
  have HMC : Hid (h.words.length = h.pages.length * 16 ∧ magCount h.mags.length = true) := ⟨HLen.out, by rw [HM.out]; exact hmc⟩
  clear hmc
  go_wp2_with fail
  refine (areWords_calls ((HR.out.wd.below B2.out).ints) (by omega)).mono ?_
  rintro e w3 ⟨rfl, rfl⟩
  rcases hwi : within (-1000000000) 1000000000 h.words with _ | _
  · have HF : Hid (heapFault h = 3) := by show _ = _; unfold heapFault; rw [if_pos HV.out, if_pos HMC.out, if_neg (by rw [hwi]; decide)]
    clear hwi
    go_wp2_with fail
    go_ret
    exact ⟨ret_int HF.out.symm, B2.out⟩
  have HWi := Lib.hid hwi
  clear hwi
  go_wp2_with fail
  refine (magazinesOf_calls (HR.out.mg.below B2.out) HS.out.k hmn).mono ?_
  rintro e w4 ⟨v4, rfl, hO4, hb4⟩
  obtain ⟨vo, vc, rfl, hv1, hv2, hL4⟩ := hO4.shape
  have R4 := R2.below hb4
  have B4 := Lib.hid (B2.out.trans (hb4.mono B2.out.size))
  clear hb4 hO4 R2 q0 q1 q2 ql
  go_wp2_with fail
  go_loopw [4, 5, 6, 35] (fun _ _ _ i wr => ∃ k : Nat, k ≤ mn ∧ i = .int .i64 k ∧ Hid (∀ (j : Nat) (x : List Int), j < k → h.mags[j]? = some x → magFault h.pages (((0 + j) % 4 : Nat) : Int) x = 0) ∧ Row wr w.heap.size 28 #[.slice pa pn pc, .slice wa wn wc, .slice ma mn mc] ∧ Below w4.heap.size w4 wr) (fun _ _ _ i _ => mn - (intOf i).toNat)
  case atStart => exact ⟨0, Nat.zero_le _, rfl, fun j x hj => by omega, R4, Below.refl _ _⟩
  case round =>
    clear R4
    obtain ⟨k, hk, rfl, HK, R5, hb5⟩ := hrel
    have B5 := Lib.hid (B4.out.trans (hb5.mono B4.out.size))
    by_cases hlt : k < mn
    · obtain ⟨b0, o0, g, m, a0, l0, c0, rfl, d0, hm, e0, hrow, hlc0, hcm0, hu0⟩ := (hL4.below hb5).pm_at hlt
      have HMm := Lib.hid hm
      obtain ⟨q4, hmod⟩ : ∃ q4 : Int, (k : Int) % 4 = q4 := ⟨_, rfl⟩
      have HQ := Lib.hid (show q4 = ((k % 4 : Nat) : Int) by omega)
      clear hm hcm0
      have q0 := R5.cell 0
      have q1 := R5.cell 1
      have q2 := R5.cell 2
      have ql := R5.lt
      simp at q0 q1 q2
      obtain ⟨f, hf⟩ : ∃ f, magFault h.pages q4 m = f := ⟨_, rfl⟩
      have HFm := Lib.hid hf
      clear hf
      have HFn : Hid (magFault h.pages ((k % 4 : Nat) : Int) m = f) := by show _ = _; rw [← HQ.out]; exact HFm.out
      by_cases hf0 : f = 0
      · have HN : Hid (∀ (j : Nat) (x : List Int), j < k + 1 → h.mags[j]? = some x → magFault h.pages (((0 + j) % 4 : Nat) : Int) x = 0) := fun j x hj hx => by
          by_cases e : j = k
          · subst e; have := HMm.out.symm.trans hx; injection this with this; subst this; rw [Nat.zero_add]; exact HFn.out.trans hf0
          · exact HK.out j x (by omega) hx
        have hq : (f != 0) = false := by simp [hf0]
        go_wp2_with fail
        refine (magFault_calls (hT.below B5.out) HV.out hp1 hp2 hrow hu0).mono ?_
        rw [HFm.out, hf0]
        rintro e w6 ⟨rfl, hb6⟩
        have R6 := R5.below hb6
        have HB6 := Lib.hid (hb5.trans (hb6.mono hb5.size))
        clear hb6 hrow R5 q0 q1 q2 ql hb5
        go_wp2_with fail
        go_roundw
        case rel => exact ⟨k + 1, by omega, by go_num, HN, R6, HB6.out⟩
        case measure => simp [intOf]; omega
      · have HF : Hid (heapFault h = f) := by
          have e1 := magsFault_first (j := 0) HK.out HMm.out (by rw [Nat.zero_add, HFn.out]; exact hf0)
          rw [Nat.zero_add, HFn.out] at e1
          show _ = _; unfold heapFault; rw [if_pos HV.out, if_pos HMC.out, if_pos HWi.out, e1, if_neg hf0]
        have hq : (f != 0) = true := by simpa using hf0
        clear hf0
        go_wp2_with fail
        refine (magFault_calls (hT.below B5.out) HV.out hp1 hp2 hrow hu0).mono ?_
        rw [HFm.out]
        rintro e w6 ⟨rfl, hb6⟩
        have HB6 := Lib.hid (B5.out.trans (hb6.mono B5.out.size))
        clear hb6 hrow
        go_wp2_with fail
        go_ret
        exact ⟨ret_int HF.out.symm, HB6.out⟩
    · have HM0 : Hid (magsFault h.pages 0 h.mags = 0) := magsFault_none (fun i x hx => HK.out i x (by have := (List.getElem?_eq_some_iff.1 hx).1; have := HM.out; omega) hx)
      have HShort : Hid (h.mags.flatten.length ≤ 1048576) := by
        have h8 : h.mags.length ≤ 8 := by
          have := HMC.out.2; simp [magCount] at this; omega
        have key : ∀ ms : List (List Int), ShortM 2 ms → ms.flatten.length ≤ 2 * ms.length := by
          intro ms
          induction ms with
          | nil => simp
          | cons m r ih =>
            intro hm
            have := ih (fun x hx => hm x (by simp [hx]))
            have := hm m (by simp)
            simp only [List.flatten_cons, List.length_append, List.length_cons]; omega
        have := key h.mags (fun m hm => by
          obtain ⟨j, hj, rfl⟩ := List.getElem_of_mem hm
          exact (magFault_ok (magsFault_at _ HM0.out (List.getElem?_eq_getElem hj))).1)
        show _ ≤ _; omega
      have q0 := R5.cell 0
      have q1 := R5.cell 1
      have q2 := R5.cell 2
      have ql := R5.lt
      simp at q0 q1 q2
      clear hL4 HK
      go_wp2_with fail
      refine (concat_calls (HR.out.mg.below B5.out) (by omega) HShort.out).mono ?_
      rintro e w6 ⟨v6, t6, rfl, hO6, hb6⟩
      have R6 := R5.below hb6
      have B6 := Lib.hid (B5.out.trans (hb6.mono B5.out.size))
      have hlen6 : t6 ≤ 17592186044416 := by have := hO6.1; have := HShort.out; omega
      obtain ⟨vo6, vc6, rfl, _, _, _⟩ := hO6.shape
      have rl5 := R5.lt
      clear R5 q0 q1 q2 ql
      go_wp2_with fail
      refine (hasTwoAlike_calls hO6 hlen6).mono ?_
      rintro e w7 ⟨rfl, ht7⟩
      have R7 := ht7.row R6 (fun h => by omega)
      have B7 := Lib.hid (ht7.below B6.out B6.out.size (fun q hq => Nat.le_trans B5.out.size hq))
      clear ht7 hO6 hb6 R6
      have q0 := R7.cell 0
      have q1 := R7.cell 1
      have q2 := R7.cell 2
      have ql := R7.lt
      simp at q0 q1 q2
      rcases hal : alike h.mags.flatten with _ | _
      rotate_left
      · have HF : Hid (heapFault h = 6) := by
          show _ = _; unfold heapFault; rw [if_pos HV.out, if_pos HMC.out, if_pos HWi.out, if_pos HM0.out, if_neg (by unfold Hp.kept; rw [hal]; decide)]
        clear hal
        go_wp2_with fail
        go_ret
        exact ⟨ret_int HF.out.symm, B7.out⟩
      have HAl : Hid (alike h.kept = false) := hal
      clear hal
      go_wp2_with fail
      refine (areFreePagesZero_calls (HR.out.below B7.out) HLen.out (pagesFault_ok HV.out).1).mono ?_
      rintro e w8 ⟨rfl, hb8⟩
      have B8 := Lib.hid (B7.out.trans (hb8.mono B7.out.size))
      clear hb8
      rcases hz : freeZero h.words 0 h.pages with _ | _
      · have HF : Hid (heapFault h = 8) := by
          show _ = _; unfold heapFault; rw [if_pos HV.out, if_pos HMC.out, if_pos HWi.out, if_pos HM0.out, if_pos HAl.out, if_neg (by rw [hz]; decide)]
        clear hz
        go_wp2_with fail
        go_ret
        exact ⟨ret_int HF.out.symm, B8.out⟩
      · have HF : Hid (heapFault h = 0) := heapFault_of HV.out HMC.out.1 HMC.out.2 HWi.out HM0.out HAl.out hz
        clear hz
        go_wp2_with fail
        go_ret
        exact ⟨ret_int HF.out.symm, B8.out⟩
end Go.Proofs.YthpamclljdcjpaaGreatDoor

/- Chapter 5 of the program: heaps with so many pages. -/
namespace Go.Proofs.YthpamclljdcjpaaGreatDoor
open Go.RowKit

theorem infoPg : (Tryz.prog.info? 137).map (fun i => (i.zero, i.size, i.bytes)) = some (some (.agg #[.int .i64 0, .int .i64 0, .slice none 0 0, .int .i64 0]), 4, 48) := by kernel_rfl
theorem infoMg : (Tryz.prog.info? 25).map (fun i => (i.zero, i.size, i.bytes)) = some (some (.slice none 0 0), 1, 24) := by kernel_rfl
/-- Two slices, newly made, of pages and of words. -/
def Made2 (W : World) (p q : Nat) (CP CW : Array Value) (vp vw : Value) (wx : World) : Prop :=
  ∃ a b, vp = .slice (some ⟨a, 0, none⟩) p p ∧ vw = .slice (some ⟨b, 0, none⟩) q q ∧ a ≠ b ∧ W.heap.size ≤ a ∧ W.heap.size ≤ b ∧ Row wx a 137 CP ∧ Row wx b 2 CW ∧ Below W.heap.size W wx

theorem Row.drew {w : World} {b : Nat} {t : TypeId} {cs : Array Value} (h : Row w b t cs) : Row w.drew b t cs := h
theorem made2_pw (V : World) (p q : Nat) (CP CW : Array Value) : Made2 V p q CP CW (.slice (some ⟨V.heap.size, 0, none⟩) p p) (.slice (some ⟨V.heap.size + 1, 0, none⟩) q q) ((V.alloc (.cells CP 137)).alloc (.cells CW 2)).drew := by
  refine ⟨_, _, rfl, rfl, by omega, Nat.le_refl _, by omega, ?_, ?_, ?_⟩
  · exact Row.drew (Row.below (heap_alloc_new V _) ((Below.refl _ _).alloc (Nat.le_refl _) _))
  · have := heap_alloc_new (V.alloc (.cells CP 137)) (.cells CW 2)
    exact Row.drew (by simpa [Row] using this)
  · exact ((((Below.refl _ _).alloc (Nat.le_refl _) _).alloc (by simp) _)).drew
theorem made2_wp (V : World) (p q : Nat) (CP CW : Array Value) : Made2 V p q CP CW (.slice (some ⟨V.heap.size + 1, 0, none⟩) p p) (.slice (some ⟨V.heap.size, 0, none⟩) q q) ((V.alloc (.cells CW 2)).alloc (.cells CP 137)).drew := by
  refine ⟨_, _, rfl, rfl, by omega, by omega, Nat.le_refl _, ?_, ?_, ?_⟩
  · have := heap_alloc_new (V.alloc (.cells CW 2)) (.cells CP 137)
    exact Row.drew (by simpa [Row] using this)
  · exact Row.drew (Row.below (heap_alloc_new V _) ((Below.refl _ _).alloc (Nat.le_refl _) _))
  · exact ((((Below.refl _ _).alloc (Nat.le_refl _) _).alloc (by simp) _)).drew

theorem fit_new (p c : Nat) : fitHp ⟨[], [], List.replicate (4 * c) []⟩ p = newHp p c := by simp [fitHp, newHp, fitTo]
end Go.Proofs.YthpamclljdcjpaaGreatDoor

/- Chapter 5 of the program: where a block lives; how many are kept; heaps compared. -/
namespace Go.Proofs.YthpamclljdcjpaaGreatDoor
open Go.RowKit

/-- What is known of a heap ahead of a walk. -/
structure HpK (w : World) (S : Nat → Prop) (pa : Option Addr) (pn pc : Nat) (wa : Option Addr) (wn wk : Nat) (ma : Option Addr) (mn mc : Nat) (h : Hp) : Prop where
  r : HpR w S pa pn pc wa wn wk ma mn mc h
  s : HpS 1048576 h
theorem HpK.below {w w' : World} {S : Nat → Prop} {pa wa ma : Option Addr} {pn pc wn wk mn mc : Nat} {h : Hp} (hk : HpK w S pa pn pc wa wn wk ma mn mc h) (hb : Below w.heap.size w w') : HpK w' S pa pn pc wa wn wk ma mn mc h := ⟨hk.r.below hb, hk.s⟩
theorem HpK.short {w : World} {S : Nat → Prop} {pa wa ma : Option Addr} {pn pc wn wk mn mc : Nat} {h : Hp} (hk : HpK w S pa pn pc wa wn wk ma mn mc h) : ShortP 17592186044416 h.pages := fun p hp => Nat.le_trans (hk.s.u p hp) (by decide)
theorem HpK.small {w : World} {S : Nat → Prop} {pa wa ma : Option Addr} {pn pc wn wk mn mc : Nat} {h : Hp} (hk : HpK w S pa pn pc wa wn wk ma mn mc h) : pn ≤ 1048576 ∧ wn ≤ 1048576 ∧ mn ≤ 1048576 ∧ pn ≤ pc ∧ pc ≤ 9223372036854775807 := by
  have h1 := hk.r.pg.1; have h2 := hk.r.wd.1; have h3 := hk.r.mg.1
  have := hk.s.p; have := hk.s.w; have := hk.s.m
  exact ⟨by omega, by omega, by omega, hk.r.p1, Nat.le_trans hk.r.p2 (by decide)⟩

set_option maxRecDepth 100000 in
set_option maxHeartbeats 4000000 in
theorem liveAt_calls {pa wa ma : Option Addr} {pn pc wn wk mn mc : Nat} {h : Hp} {at_ : Int} {S : Nat → Prop} {w : World} (hk : HpK w S pa pn pc wa wn wk ma mn mc h) :
    Calls Tryz.prog 21 #[.agg #[.slice pa pn pc, .slice wa wn wk, .slice ma mn mc], .int .i64 at_] w (Pair w (liveAt h at_)) := by
  have HK := Lib.hid hk
  obtain ⟨n1, n2, n3, n4, n5⟩ := hk.small
  clear hk
  have hB0 : Below w.heap.size w ((w.alloc (.cells #[.slice pa pn pc, .slice wa wn wk, .slice ma mn mc] 28)).alloc (.cells #[.int .i64 0, .int .i64 0] 45)) := ((Below.refl _ _).alloc (Nat.le_refl _) _).alloc (by simp) _
  have HB0 := Lib.hid hB0
  clear hB0
  go_enter Tryz.func21, Tryz.ntmps21
  go_wp2_with fail
  refine (heapFault_calls (HK.out.r.below HB0.out) HK.out.s).mono ?_
  rintro e w1 ⟨rfl, hb1⟩
  obtain ⟨R0, R1, B1, _⟩ := two_new hb1
  have R0 : Row w1 w.heap.size 28 #[.slice pa pn pc, .slice wa wn wk, .slice ma mn mc] := R0
  have HR1 : Hid (Row w1 (w.heap.size + 1) 45 #[.int .i64 0, .int .i64 0]) := R1
  have HB1 := Lib.hid B1
  clear hb1 R1 B1
  have q0 := R0.cell 0
  have q1 := R0.cell 1
  have q2 := R0.cell 2
  have ql := R0.lt
  simp at q0 q1 q2
  by_cases hf : heapFault h = 0
  rotate_left
  · have HF : Hid (liveAt h at_ = (heapFault h, 0)) := by show _ = _; unfold liveAt; rw [if_neg hf]
    have hq : (heapFault h != 0) = true := by simpa using hf
    clear hf
    have hres := HR1.out
    go_wp2_with (refine wpList_store_row rfl 45 _ _ rfl (w.heap.size + 1) _ rfl rfl _ _ hres (by kernel_rfl) (by rfl) (by simp [Value.oneCell']) ?_)
    refine bodyPost_ret (results_cell_row rfl _ _ (w.heap.size + 1) _ _ _ _ rfl (setRow_heap _ _ _ _ _ _ hres) Tryz.underlying45 rfl (by kernel_rfl)) rfl ?_
    exact pair_done HB1.out (by omega) _ HF.out
  have HF0 : Hid (liveAt h at_ = liveIn h at_) := by show _ = _; unfold liveAt; rw [if_pos hf]
  have HFk := Lib.hid hf
  rw [hf]
  clear hf
  go_wp2_with fail
  refine (blockStart_calls (HK.out.below HB1.out).r.pg HK.out.short n4 n5 (by omega)).mono ?_
  rintro e w2 ⟨rfl, hb2⟩
  obtain ⟨⟨c, s⟩, hcs⟩ : ∃ p, blockStart h.pages at_ = p := ⟨_, rfl⟩
  have R2 := R0.below hb2
  have HB2 := Lib.hid (HB1.out.trans (hb2.mono HB1.out.size))
  have HR2 := Lib.hid (HR1.out.below hb2)
  have HCS := Lib.hid hcs
  rw [hcs]
  clear hb2 R0 q0 q1 q2 ql hcs HR1
  have q0 := R2.cell 0
  have q1 := R2.cell 1
  have q2 := R2.cell 2
  have ql := R2.lt
  simp at q0 q1 q2
  have hx : w.heap.size + 1 < w2.heap.size := HR2.out.lt
  by_cases hc : c = 0
  rotate_left
  · have HF : Hid (liveAt h at_ = (c, s)) := by
      show _ = _; rw [HF0.out]; unfold liveIn; rw [HCS.out]; simp only; rw [if_neg hc]
      have := HCS.out
      unfold blockStart at this
      split at this
      · rename_i hh; injection this with h1 h2; exact absurd h1.symm hc
      · injection this with h1 h2; rw [h2]
    have hq : (c == 0) = false := by simpa using hc
    have hres := (@heap_alloc_old w2 (.cells #[.int .i64 c, .int .i64 s] 45) _ hx).trans HR2.out
    have hB3 := HB2.out.alloc HB2.out.size (.cells #[.int .i64 c, .int .i64 s] 45)
    clear hc
    go_wp2_with (refine wpList_store_row rfl 45 _ _ rfl (w.heap.size + 1) _ rfl rfl _ _ hres (by kernel_rfl) (by rfl) (by simp [Value.oneCell']) ?_)
    refine bodyPost_ret (results_cell_row rfl _ _ (w.heap.size + 1) _ _ _ _ rfl (setRow_heap _ _ _ _ _ _ hres) Tryz.underlying45 rfl (by kernel_rfl)) rfl ?_
    exact pair_done hB3 (by omega) _ HF.out
  subst hc
  go_wp2_with fail
  refine (isKept_calls ((HK.out.below HB2.out).r.mg.alloc _) (fun m hm => Nat.le_trans (HK.out.s.k m hm) (by decide)) (by omega)).mono ?_
  rintro e w3 ⟨rfl, hb3⟩
  have R3 := (Row.below (w := w2.alloc (.cells #[.int .i64 0, .int .i64 s] 45)) (Row.below R2 ((Below.refl _ _).alloc (Nat.le_refl _) _)) hb3)
  have RS := Row.new hb3
  have hres := (Row.below (HR2.out) (below_past hb3))
  have hB3 := HB2.out.trans ((below_past hb3).mono HB2.out.size)
  clear hb3 R2 q0 q1 q2 ql
  have s0 := RS.cell 0
  have s1 := RS.cell 1
  have sl := RS.lt
  simp at s0 s1
  rcases hkp : hasIn h.mags.flatten s with _ | _
  · have HF : Hid (liveAt h at_ = (0, s)) := by
      show _ = _; rw [HF0.out]; unfold liveIn Hp.kept; rw [HCS.out]; simp only; rw [if_pos trivial, if_neg (by rw [hkp]; decide)]
    clear hkp
    go_wp2_with (refine wpList_store_row rfl 45 _ _ rfl (w.heap.size + 1) _ rfl rfl _ _ hres (by kernel_rfl) (by rfl) (by simp [Value.oneCell']) ?_)
    refine bodyPost_ret (results_cell_row rfl _ _ (w.heap.size + 1) _ _ _ _ rfl (setRow_heap _ _ _ _ _ _ hres) Tryz.underlying45 rfl (by kernel_rfl)) rfl ?_
    exact pair_done hB3 (by omega) _ HF.out
  · have HF : Hid (liveAt h at_ = (4, 0)) := by
      show _ = _; rw [HF0.out]; unfold liveIn Hp.kept; rw [HCS.out]; simp only; rw [if_pos trivial, if_pos hkp]
    clear hkp
    go_wp2_with (refine wpList_store_row rfl 45 _ _ rfl (w.heap.size + 1) _ rfl rfl _ _ hres (by kernel_rfl) (by rfl) (by simp [Value.oneCell']) ?_)
    refine bodyPost_ret (results_cell_row rfl _ _ (w.heap.size + 1) _ _ _ _ rfl (setRow_heap _ _ _ _ _ _ hres) Tryz.underlying45 rfl (by kernel_rfl)) rfl ?_
    exact pair_done hB3 (by omega) _ HF.out

set_option maxRecDepth 100000 in
set_option maxHeartbeats 4000000 in
theorem sameHeaps_calls {pa wa ma pa' wa' ma' : Option Addr} {pn pc wn wk mn mc pn' pc' wn' wk' mn' mc' : Nat} {g h : Hp} {S S' : Nat → Prop} {w : World} (hg : HpK w S pa pn pc wa wn wk ma mn mc g) (hh : HpK w S' pa' pn' pc' wa' wn' wk' ma' mn' mc' h) :
    Calls Tryz.prog 14 #[.agg #[.slice pa pn pc, .slice wa wn wk, .slice ma mn mc], .agg #[.slice pa' pn' pc', .slice wa' wn' wk', .slice ma' mn' mc']] w fun e w' => e = .returned (.bool (decide (g = h))) ∧ Below w.heap.size w w' := by
  have HG := Lib.hid hg
  have HH := Lib.hid hh
  obtain ⟨n1, n2, n3, _, _⟩ := hg.small
  obtain ⟨m1, m2, m3, _, _⟩ := hh.small
  clear hg hh
  have hB0 : Below w.heap.size w ((w.alloc (.cells #[.slice pa pn pc, .slice wa wn wk, .slice ma mn mc] 28)).alloc (.cells #[.slice pa' pn' pc', .slice wa' wn' wk', .slice ma' mn' mc'] 28)) := ((Below.refl _ _).alloc (Nat.le_refl _) _).alloc (by simp) _
  have HB0 := Lib.hid hB0
  clear hB0
  go_enter Tryz.func14, Tryz.ntmps14
  go_wp2_with fail
  refine (samePages_calls (HG.out.below HB0.out).r.pg (HH.out.below HB0.out).r.pg HG.out.short HH.out.short (by omega) (by omega)).mono ?_
  rintro e w1 ⟨rfl, hb1⟩
  obtain ⟨R0, R1, B1, _⟩ := two_new hb1
  have R0 : Row w1 w.heap.size 28 #[.slice pa pn pc, .slice wa wn wk, .slice ma mn mc] := R0
  have R1 : Row w1 (w.heap.size + 1) 28 #[.slice pa' pn' pc', .slice wa' wn' wk', .slice ma' mn' mc'] := R1
  have HB1 := Lib.hid B1
  clear hb1 B1
  rcases hp : decide (g.pages = h.pages) with _ | _
  · have HF : Hid (decide (g = h) = false) := by show _ = _; rw [decide_eq_false_iff_not]; rintro rfl; simp at hp
    clear hp
    go_wp2_with fail
    go_ret
    exact ⟨ret_bool HF.out.symm, HB1.out⟩
  have HP := Lib.hid hp
  clear hp
  have a1 := R0.cell 1
  have b1 := R1.cell 1
  have al := R0.lt
  have bl := R1.lt
  simp at a1 b1
  go_wp2_with fail
  refine (equalI_calls ((HG.out.below HB1.out).r.wd.ints) ((HH.out.below HB1.out).r.wd.ints) (by omega) (by omega)).mono ?_
  rintro e w2 ⟨rfl, hb2⟩
  have R2 := R0.below hb2
  have R3 := R1.below hb2
  have HB2 := Lib.hid (HB1.out.trans (hb2.mono HB1.out.size))
  clear hb2 R0 R1 a1 b1 al bl
  rcases hw : decide (g.words = h.words) with _ | _
  · have HF : Hid (decide (g = h) = false) := by show _ = _; rw [decide_eq_false_iff_not]; rintro rfl; simp at hw
    clear hw
    go_wp2_with fail
    go_ret
    exact ⟨ret_bool HF.out.symm, HB2.out⟩
  have HW := Lib.hid hw
  clear hw
  have a1 := R2.cell 2
  have b1 := R3.cell 2
  have al := R2.lt
  have bl := R3.lt
  simp at a1 b1
  go_wp2_with fail
  refine (equalMags_calls (HG.out.below HB2.out).r.mg (HH.out.below HB2.out).r.mg (fun m hm => Nat.le_trans (HG.out.s.k m hm) (by decide)) (fun m hm => Nat.le_trans (HH.out.s.k m hm) (by decide)) (by omega) (by omega)).mono ?_
  rintro e w3 ⟨rfl, hb3⟩
  have HB3 := Lib.hid (HB2.out.trans (hb3.mono HB2.out.size))
  have HF : Hid (decide (g = h) = decide (g.mags = h.mags)) := by
    have h1 : g.pages = h.pages := by have := HP.out; simpa using this
    have h2 : g.words = h.words := by have := HW.out; simpa using this
    apply decide_eq_decide.2
    exact ⟨fun e => by rw [e], fun e => Hp.ext_ h1 h2 e⟩
  clear hb3
  go_wp2_with fail
  go_ret
  exact ⟨ret_bool HF.out.symm, HB3.out⟩
end Go.Proofs.YthpamclljdcjpaaGreatDoor

/- Chapter 5 of the program: the blocks that live. -/
namespace Go.Proofs.YthpamclljdcjpaaGreatDoor
open Go.RowKit

theorem Own.toI {t : TypeId} {w : World} {B n : Nat} {v : Value} {xs : List Int} (h : Own KInt t w (fun k => B ≤ k) v n xs) : OwnI w B v n xs := by
  have hl := h.1
  rcases h.2 with ⟨rfl, rfl⟩ | ⟨g, cap, cur, F, rfl, hg, hr, _⟩
  · obtain rfl := List.eq_nil_of_length_eq_zero hl
    exact OwnI.nil _ _
  · obtain ⟨hg, cur, hr, h1, h2, h3, h4⟩ := h.rowI
    exact OwnI.of_form hg hr h1 h2 (by omega) h4 hl
/-- What a list of places owns while it is made, above two blocks. -/
structure OwnB (w w' : World) (v : Value) (n k : Nat) (xs : List Int) : Prop where
  own : Own KInt 2 w' (fun q => w.heap.size + 2 ≤ q) v n xs
  le : n ≤ k
theorem OwnB.below {w w' w2 : World} {v : Value} {n k : Nat} {xs : List Int} (h : OwnB w w' v n k xs) (hb : Below w'.heap.size w' w2) : OwnB w w2 v n k xs := ⟨h.own.below hb, h.le⟩
theorem OwnB.next {w w' : World} {v : Value} {n k : Nat} {h : Hp} (ho : OwnB w w' v n k (blocksTo h k)) (hn : blocksTo h (k + 1) = blocksTo h k) : OwnB w w' v n (k + 1) (blocksTo h (k + 1)) := ⟨by rw [hn]; exact ho.own, by have := ho.le; omega⟩
theorem OwnB.shape {w w' : World} {v : Value} {n k : Nat} {xs : List Int} (h : OwnB w w' v n k xs) : ∃ a c, v = .slice a n c ∧ n ≤ k := by
  obtain ⟨a, c, e, _⟩ := h.own.shape
  exact ⟨a, c, e, h.le⟩
/-- A place at which a block begins that lives. -/
theorem live_at {h : Hp} (hv : pagesFault h.pages = 0) {a : Nat} (ha : a < h.pages.length * 16) : liveIn h (a : Int) = (0, (a : Int)) ↔ ∃ b, blockAt h.pages a = some b ∧ b.start = (a : Int) ∧ hasIn h.mags.flatten (a : Int) = false := by
  have hh : heldAt h.pages (a : Int) = match blockAt h.pages a with | some b => (0, some b) | none => (4, none) := by
    unfold heldAt; rw [if_pos hv, if_pos (within_yes1 (by omega) (by omega)), Int.toNat_natCast]; cases blockAt h.pages a <;> rfl
  unfold liveIn blockStart Hp.kept
  rw [hh]
  cases hb : blockAt h.pages a with
  | none => simp
  | some b =>
    simp only
    rw [if_pos trivial]
    cases hk : hasIn h.mags.flatten b.start with
    | true =>
      rw [if_pos rfl]
      constructor
      · intro e; injection e with e; simp at e
      · rintro ⟨b', e1, e2, e3⟩
        injection e1 with e1; subst e1
        rw [e2] at hk; rw [hk] at e3; cases e3
    | false =>
      rw [if_neg (by decide)]
      constructor
      · intro e
        injection e with _ e
        exact ⟨b, rfl, e, by rw [← e]; exact hk⟩
      · rintro ⟨b', e1, e2, e3⟩
        injection e1 with e1; subst e1
        rw [e2]

set_option maxRecDepth 100000 in
set_option maxHeartbeats 8000000 in
theorem liveBlocks_calls {pa wa ma : Option Addr} {pn pc wn wk mn mc : Nat} {h : Hp} {S : Nat → Prop} {w : World} (hk : HpK w S pa pn pc wa wn wk ma mn mc h) :
    Calls Tryz.prog 19 #[.agg #[.slice pa pn pc, .slice wa wn wk, .slice ma mn mc]] w (RetsInts w (liveBlocks h)) := by
  obtain ⟨ib, hib, hb0, hb1, hb2⟩ := info_parts info64
  have HK := Lib.hid hk
  obtain ⟨n1, n2, n3, n4, n5⟩ := hk.small
  have HP := Lib.hid hk.r.pg.1
  have HW := Lib.hid hk.r.wd.1
  clear hk
  have hB0 : Below w.heap.size w ((w.alloc (.cells #[.slice pa pn pc, .slice wa wn wk, .slice ma mn mc] 28)).alloc (.cells #[.int .i64 0, .slice none 0 0] 43)) := ((Below.refl _ _).alloc (Nat.le_refl _) _).alloc (by simp) _
  have HB0 := Lib.hid hB0
  clear hB0
  go_enter Tryz.func19, Tryz.ntmps19
  go_wp2_with fail
  refine (heapFault_calls (HK.out.r.below HB0.out) HK.out.s).mono ?_
  rintro e w1 ⟨rfl, hb1'⟩
  obtain ⟨R0, R1, B1, hs1⟩ := two_new hb1'
  have R0 : Row w1 w.heap.size 28 #[.slice pa pn pc, .slice wa wn wk, .slice ma mn mc] := R0
  have HR1 : Hid (Row w1 (w.heap.size + 1) 43 #[.int .i64 0, .slice none 0 0]) := R1
  have HB1 := Lib.hid B1
  clear hb1' R1 B1
  have q0 := R0.cell 0
  have q1 := R0.cell 1
  have q2 := R0.cell 2
  have ql := R0.lt
  simp at q0 q1 q2
  by_cases hf : heapFault h = 0
  rotate_left
  · have HF : Hid (liveBlocks h = (heapFault h, [])) := by show _ = _; unfold liveBlocks; rw [if_neg hf]
    have hq : (heapFault h != 0) = true := by simpa using hf
    clear hf
    have hres := HR1.out
    go_wp2_with (refine wpList_store_row rfl 43 _ _ rfl (w.heap.size + 1) _ rfl rfl _ _ hres (by kernel_rfl) (by rfl) (by simp [Value.oneCell']) ?_)
    refine bodyPost_ret (results_cell_row rfl _ _ (w.heap.size + 1) _ _ _ _ rfl (setRow_heap _ _ _ _ _ _ hres) Tryz.underlying43 rfl (by kernel_rfl)) rfl ?_
    exact rets_done HB1.out (by omega) (OwnI.nil _ (w.heap.size + 2)) (by omega) _ HF.out
  have HF0 : Hid (liveBlocks h = (0, blocksTo h h.words.length)) := by show _ = _; unfold liveBlocks blocksIn; rw [if_pos hf]
  have HV := Lib.hid (heapFault_ok hf).1
  have HLen := Lib.hid (heapFault_ok hf).2.1
  rw [hf]
  have hpn : pn ≤ 40 := by have := (pagesFault_ok HV.out).1; have := HP.out; omega
  have hwn : wn ≤ 640 := by have := HLen.out; have := HP.out; have := HW.out; omega
  clear hf
  go_wp2_with fail
  go_loopw [4, 5, 6, 16] (fun v _ _ i wr => ∃ k s : Nat, k ≤ wn ∧ i = .int .i64 k ∧ OwnB w wr v s k (blocksTo h k) ∧ Row wr w.heap.size 28 #[.slice pa pn pc, .slice wa wn wk, .slice ma mn mc] ∧ Row wr (w.heap.size + 1) 43 #[.int .i64 0, .slice none 0 0] ∧ Below w.heap.size w wr) (fun _ _ _ i _ => wn - (intOf i).toNat)
  case atStart => exact ⟨0, 0, Nat.zero_le _, rfl, ⟨Own.nil, Nat.le_refl _⟩, R0, HR1.out, HB1.out⟩
  case round =>
    clear R0 q0 q1 q2 ql hs1
    obtain ⟨k, t, hk, rfl, hO, hR, hR1, hbw⟩ := hrel
    by_cases hlt : k < wn
    · have hk16 : k < h.pages.length * 16 := by have := HLen.out; have := HW.out; omega
      have hk16b : k < pn * 16 := by have := HLen.out; have := HP.out; have := HW.out; omega
      have q0 := hR.cell 0
      have q1 := hR.cell 1
      have q2 := hR.cell 2
      have ql := hR.lt
      simp at q0 q1 q2
      rcases hbk : blockAt h.pages k with _ | b
      · have HBk := Lib.hid hbk
        have HN : Hid (blocksTo h (k + 1) = blocksTo h k) := by
          show _ = _; rw [blocksTo, if_neg, List.append_nil]
          intro hl
          obtain ⟨b, hb', _⟩ := (live_at HV.out hk16).1 hl
          rw [hbk] at hb'; cases hb'
        clear hbk
        go_wp2_with fail
        refine (blockAt_calls (HK.out.r.pg.below hbw) HV.out hk16b).mono ?_
        rw [HBk.out]
        rintro e w2 ⟨rfl, hb2⟩
        simp only [blkO]
        have HB2 := Lib.hid (hbw.trans (hb2.mono hbw.size))
        have HO2 := Lib.hid ((hO.below hb2).next HN.out)
        have R2 := hR.below hb2
        have HR2 := Lib.hid (hR1.below hb2)
        clear hb2 hO hR hR1 hbw q0 q1 q2 ql
        go_wp2_with fail
        go_roundw
        case rel => exact ⟨k + 1, _, by omega, by go_num, HO2.out, R2, HR2.out, HB2.out⟩
        case measure => simp [intOf]; omega
      · have HBk := Lib.hid hbk
        have hh : heldAt h.pages (k : Int) = (0, some b) := by
          unfold heldAt; rw [if_pos HV.out, if_pos (within_yes1 (by omega) (by omega)), Int.toNat_natCast, hbk]
        rcases b with ⟨i, c, s⟩ | ⟨i, m⟩
        · obtain ⟨_, _, _, hi, hs, c0, c3, p, hp, _⟩ := held_slot_info HV.out hh
          have hi40 : (i : Int) ≤ 40 := by have := (List.getElem?_eq_some_iff.1 hp).1; have := (pagesFault_ok HV.out).1; omega
          have hs15 : (s : Int) ≤ 15 := by have := Nat.div_le_self ((k : Int).toNat % 16) (sizeW c).toNat; omega
          clear hbk hh hi hs hp
          have hB := HBk.out
          by_cases hst : ((i : Int) * 16 + s * sizeW c) = (k : Int)
          · have hq : (((i : Int) * 16 + s * sizeW c) == (k : Int)) = true := by simp [hst]
            rcases hkp : hasIn h.mags.flatten (k : Int) with _ | _
            · have HL : Hid (liveIn h (k : Int) = (0, (k : Int))) := (live_at HV.out hk16).2 ⟨_, hB, hst, hkp⟩
              have HN : Hid (blocksTo h (k + 1) = blocksTo h k ++ [(k : Int)]) := by show _ = _; rw [blocksTo, if_pos HL.out]
              clear hst hB
              go_wp2_with fail
              refine (blockAt_calls (HK.out.r.pg.below hbw) HV.out hk16b).mono ?_
              rw [HBk.out]
              rintro e w2 ⟨rfl, hb2⟩
              simp only [blkO, blkV]
              have HB2 := Lib.hid (hbw.trans (hb2.mono hbw.size))
              have HO2 := Lib.hid (hO.below hb2)
              have R2 := hR.below hb2
              have HR2 := Lib.hid (hR1.below hb2)
              clear hb2 hO hR hR1 hbw q0 q1 q2 ql
              have q0 := R2.cell 0
              have q1 := R2.cell 1
              have q2 := R2.cell 2
              have ql := R2.lt
              simp at q0 q1 q2
              go_wp2_with fail
              refine (slotStart_calls c0 c3 (by omega) hi40 (by omega) hs15).mono ?_
              rintro e w3 ⟨rfl, hb3⟩
              have HB3 := Lib.hid (HB2.out.trans (hb3.mono HB2.out.size))
              have HO3 := Lib.hid (HO2.out.below hb3)
              have R3 := R2.below hb3
              have HR3 := Lib.hid (HR2.out.below hb3)
              clear hb3 R2 q0 q1 q2 ql
              have q0 := R3.cell 0
              have q1 := R3.cell 1
              have q2 := R3.cell 2
              have ql := R3.lt
              simp at q0 q1 q2
              go_wp2_with fail
              refine (isKept_calls (HK.out.below HB3.out).r.mg (fun m hm => Nat.le_trans (HK.out.s.k m hm) (by decide)) (by omega)).mono ?_
              rw [hkp]
              rintro e w4 ⟨rfl, hb4⟩
              have HB4 := Lib.hid (HB3.out.trans (hb4.mono HB3.out.size))
              have HO4 := Lib.hid (HO3.out.below hb4)
              have R4 := R3.below hb4
              have HR4 := Lib.hid (HR3.out.below hb4)
              obtain ⟨vo, vc, rfl, hsk⟩ := HO4.out.shape
              clear hb4 R3 q0 q1 q2 ql hkp hq
              have hc4 : (w4.alloc (.cells #[.int .i64 k] 2)).cell? ⟨w4.heap.size, 0, none⟩ = some (.int .i64 k) := cell_one rfl
              have HC4 := Lib.hid hc4
              clear hc4
              go_wp2_with (
                at_builtin
                go_must (refine wpList_append_elem (K := KInt) (G := fun _ => False) rfl (.tmp 37) (.tmp 39) 25 rfl 2 ib (.int .i64 0) 8 Tryz.underlying25 hib hb0 hb1 hb2 rfl (by decide) one_int (b := w4.heap.size) (c := 1) (y := (k : Int)) (cs := [.int .i64 (k : Int)]) rfl (HO4.out.own.alloc _) rfl (fun j u hu => ?_) rfl (fun _ h => h.elim) (by unfold maxLen; omega) (by omega) ?_)
                · cases j with
                  | zero => simp at hu; subst hu; exact HC4.out
                  | succ j => simp at hu
                intro v5 w5 ho5 ht5
                have H5 : Hid (OwnB w w5 v5 (t + 1) (k + 1) (blocksTo h (k + 1)) ∧ Below w.heap.size w w5 ∧ Row w5 w.heap.size 28 #[.slice pa pn pc, .slice wa wn wk, .slice ma mn mc] ∧ Row w5 (w.heap.size + 1) 43 #[.int .i64 0, .slice none 0 0]) := by
                  have hB5 := (HB4.out.alloc HB4.out.size (.cells #[.int .i64 k] 2))
                  refine ⟨⟨?_, by omega⟩, ht5.below hB5 (by have := HB4.out.size; simp; omega) (fun q hq => by omega), ht5.row (R4.below ((Below.refl _ _).alloc (Nat.le_refl _) _)) (fun hq => by omega), ht5.row (HR4.out.below ((Below.refl _ _).alloc (Nat.le_refl _) _)) (fun hq => by omega)⟩
                  rw [HN.out]
                  refine ho5.mono (fun q hq _ => ?_)
                  have := HR4.out.lt
                  rcases hq with hq | hq | hq
                  · exact hq
                  · exact hq.elim
                  · simp at hq; omega
                clear ho5 ht5)
              go_roundw
              case rel => exact ⟨k + 1, _, by omega, by go_num, H5.out.1, H5.out.2.2.1, H5.out.2.2.2, H5.out.2.1⟩
              case measure => simp [intOf]; omega
            · have HN : Hid (blocksTo h (k + 1) = blocksTo h k) := by
                show _ = _; rw [blocksTo, if_neg, List.append_nil]
                intro hl
                obtain ⟨b, _, _, hx⟩ := (live_at HV.out hk16).1 hl
                rw [hkp] at hx; cases hx
              clear hst hB
              go_wp2_with fail
              refine (blockAt_calls (HK.out.r.pg.below hbw) HV.out hk16b).mono ?_
              rw [HBk.out]
              rintro e w2 ⟨rfl, hb2⟩
              simp only [blkO, blkV]
              have HB2 := Lib.hid (hbw.trans (hb2.mono hbw.size))
              have HO2 := Lib.hid (hO.below hb2)
              have R2 := hR.below hb2
              have HR2 := Lib.hid (hR1.below hb2)
              clear hb2 hO hR hR1 hbw q0 q1 q2 ql
              have q0 := R2.cell 0
              have q1 := R2.cell 1
              have q2 := R2.cell 2
              have ql := R2.lt
              simp at q0 q1 q2
              go_wp2_with fail
              refine (slotStart_calls c0 c3 (by omega) hi40 (by omega) hs15).mono ?_
              rintro e w3 ⟨rfl, hb3⟩
              have HB3 := Lib.hid (HB2.out.trans (hb3.mono HB2.out.size))
              have HO3 := Lib.hid (HO2.out.below hb3)
              have R3 := R2.below hb3
              have HR3 := Lib.hid (HR2.out.below hb3)
              clear hb3 R2 q0 q1 q2 ql
              have q0 := R3.cell 0
              have q1 := R3.cell 1
              have q2 := R3.cell 2
              have ql := R3.lt
              simp at q0 q1 q2
              go_wp2_with fail
              refine (isKept_calls (HK.out.below HB3.out).r.mg (fun m hm => Nat.le_trans (HK.out.s.k m hm) (by decide)) (by omega)).mono ?_
              rw [hkp]
              rintro e w4 ⟨rfl, hb4⟩
              have HB4 := Lib.hid (HB3.out.trans (hb4.mono HB3.out.size))
              have HO4 := Lib.hid ((HO3.out.below hb4).next HN.out)
              have R4 := R3.below hb4
              have HR4 := Lib.hid (HR3.out.below hb4)
              clear hb4 R3 q0 q1 q2 ql hkp hq
              go_wp2_with fail
              go_roundw
              case rel => exact ⟨k + 1, _, by omega, by go_num, HO4.out, R4, HR4.out, HB4.out⟩
              case measure => simp [intOf]; omega
          · have HN : Hid (blocksTo h (k + 1) = blocksTo h k) := by
              show _ = _; rw [blocksTo, if_neg, List.append_nil]
              intro hl
              obtain ⟨b, hb', hx, _⟩ := (live_at HV.out hk16).1 hl
              rw [hB] at hb'; injection hb' with hb'; subst hb'
              exact hst hx
            have hq : (((i : Int) * 16 + s * sizeW c) == (k : Int)) = false := by simpa using hst
            clear hst hB
            go_wp2_with fail
            refine (blockAt_calls (HK.out.r.pg.below hbw) HV.out hk16b).mono ?_
            rw [HBk.out]
            rintro e w2 ⟨rfl, hb2⟩
            simp only [blkO, blkV]
            have HB2 := Lib.hid (hbw.trans (hb2.mono hbw.size))
            have HO2 := Lib.hid (hO.below hb2)
            have R2 := hR.below hb2
            have HR2 := Lib.hid (hR1.below hb2)
            clear hb2 hO hR hR1 hbw q0 q1 q2 ql
            go_wp2_with fail
            refine (slotStart_calls c0 c3 (by omega) hi40 (by omega) hs15).mono ?_
            rintro e w3 ⟨rfl, hb3⟩
            have HB3 := Lib.hid (HB2.out.trans (hb3.mono HB2.out.size))
            have HO3 := Lib.hid ((HO2.out.below hb3).next HN.out)
            have R3 := R2.below hb3
            have HR3 := Lib.hid (HR2.out.below hb3)
            clear hb3 R2
            go_wp2_with fail
            go_roundw
            case rel => exact ⟨k + 1, _, by omega, by go_num, HO3.out, R3, HR3.out, HB3.out⟩
            case measure => simp [intOf]; omega
        · obtain ⟨_, _, _, hx⟩ := held_info HV.out hh
          have hi40 : (i : Int) ≤ 40 := by
            rcases hx with ⟨i', k', s', p, e1, _⟩ | ⟨i', p, e1, hp, _⟩
            · cases e1
            · cases e1; have := (List.getElem?_eq_some_iff.1 hp).1; have := (pagesFault_ok HV.out).1; omega
          clear hbk hh hx
          have hB := HBk.out
          by_cases hst : ((i : Int) * 16) = (k : Int)
          · have hq : (((i : Int) * 16) == (k : Int)) = true := by simp [hst]
            rcases hkp : hasIn h.mags.flatten (k : Int) with _ | _
            · have HL : Hid (liveIn h (k : Int) = (0, (k : Int))) := (live_at HV.out hk16).2 ⟨_, hB, hst, hkp⟩
              have HN : Hid (blocksTo h (k + 1) = blocksTo h k ++ [(k : Int)]) := by show _ = _; rw [blocksTo, if_pos HL.out]
              clear hst hB
              go_wp2_with fail
              refine (blockAt_calls (HK.out.r.pg.below hbw) HV.out hk16b).mono ?_
              rw [HBk.out]
              rintro e w2 ⟨rfl, hb2⟩
              simp only [blkO, blkV]
              have HB2 := Lib.hid (hbw.trans (hb2.mono hbw.size))
              have HO2 := Lib.hid (hO.below hb2)
              have R2 := hR.below hb2
              have HR2 := Lib.hid (hR1.below hb2)
              clear hb2 hO hR hR1 hbw q0 q1 q2 ql
              have q0 := R2.cell 0
              have q1 := R2.cell 1
              have q2 := R2.cell 2
              have ql := R2.lt
              simp at q0 q1 q2
              go_wp2_with fail
              refine (runStart_calls (by omega) hi40).mono ?_
              rintro e w3 ⟨rfl, hb3⟩
              have HB3 := Lib.hid (HB2.out.trans (hb3.mono HB2.out.size))
              have HO3 := Lib.hid (HO2.out.below hb3)
              have R3 := R2.below hb3
              have HR3 := Lib.hid (HR2.out.below hb3)
              clear hb3 R2 q0 q1 q2 ql
              have q0 := R3.cell 0
              have q1 := R3.cell 1
              have q2 := R3.cell 2
              have ql := R3.lt
              simp at q0 q1 q2
              go_wp2_with fail
              refine (isKept_calls (HK.out.below HB3.out).r.mg (fun m hm => Nat.le_trans (HK.out.s.k m hm) (by decide)) (by omega)).mono ?_
              rw [hkp]
              rintro e w4 ⟨rfl, hb4⟩
              have HB4 := Lib.hid (HB3.out.trans (hb4.mono HB3.out.size))
              have HO4 := Lib.hid (HO3.out.below hb4)
              have R4 := R3.below hb4
              have HR4 := Lib.hid (HR3.out.below hb4)
              obtain ⟨vo, vc, rfl, hsk⟩ := HO4.out.shape
              clear hb4 R3 q0 q1 q2 ql hkp hq
              have hc4 : (w4.alloc (.cells #[.int .i64 k] 2)).cell? ⟨w4.heap.size, 0, none⟩ = some (.int .i64 k) := cell_one rfl
              have HC4 := Lib.hid hc4
              clear hc4
              go_wp2_with (
                at_builtin
                go_must (refine wpList_append_elem (K := KInt) (G := fun _ => False) rfl (.tmp 37) (.tmp 39) 25 rfl 2 ib (.int .i64 0) 8 Tryz.underlying25 hib hb0 hb1 hb2 rfl (by decide) one_int (b := w4.heap.size) (c := 1) (y := (k : Int)) (cs := [.int .i64 (k : Int)]) rfl (HO4.out.own.alloc _) rfl (fun j u hu => ?_) rfl (fun _ h => h.elim) (by unfold maxLen; omega) (by omega) ?_)
                · cases j with
                  | zero => simp at hu; subst hu; exact HC4.out
                  | succ j => simp at hu
                intro v5 w5 ho5 ht5
                have H5 : Hid (OwnB w w5 v5 (t + 1) (k + 1) (blocksTo h (k + 1)) ∧ Below w.heap.size w w5 ∧ Row w5 w.heap.size 28 #[.slice pa pn pc, .slice wa wn wk, .slice ma mn mc] ∧ Row w5 (w.heap.size + 1) 43 #[.int .i64 0, .slice none 0 0]) := by
                  have hB5 := (HB4.out.alloc HB4.out.size (.cells #[.int .i64 k] 2))
                  refine ⟨⟨?_, by omega⟩, ht5.below hB5 (by have := HB4.out.size; simp; omega) (fun q hq => by omega), ht5.row (R4.below ((Below.refl _ _).alloc (Nat.le_refl _) _)) (fun hq => by omega), ht5.row (HR4.out.below ((Below.refl _ _).alloc (Nat.le_refl _) _)) (fun hq => by omega)⟩
                  rw [HN.out]
                  refine ho5.mono (fun q hq _ => ?_)
                  have := HR4.out.lt
                  rcases hq with hq | hq | hq
                  · exact hq
                  · exact hq.elim
                  · simp at hq; omega
                clear ho5 ht5)
              go_roundw
              case rel => exact ⟨k + 1, _, by omega, by go_num, H5.out.1, H5.out.2.2.1, H5.out.2.2.2, H5.out.2.1⟩
              case measure => simp [intOf]; omega
            · have HN : Hid (blocksTo h (k + 1) = blocksTo h k) := by
                show _ = _; rw [blocksTo, if_neg, List.append_nil]
                intro hl
                obtain ⟨b, _, _, hx⟩ := (live_at HV.out hk16).1 hl
                rw [hkp] at hx; cases hx
              clear hst hB
              go_wp2_with fail
              refine (blockAt_calls (HK.out.r.pg.below hbw) HV.out hk16b).mono ?_
              rw [HBk.out]
              rintro e w2 ⟨rfl, hb2⟩
              simp only [blkO, blkV]
              have HB2 := Lib.hid (hbw.trans (hb2.mono hbw.size))
              have HO2 := Lib.hid (hO.below hb2)
              have R2 := hR.below hb2
              have HR2 := Lib.hid (hR1.below hb2)
              clear hb2 hO hR hR1 hbw q0 q1 q2 ql
              have q0 := R2.cell 0
              have q1 := R2.cell 1
              have q2 := R2.cell 2
              have ql := R2.lt
              simp at q0 q1 q2
              go_wp2_with fail
              refine (runStart_calls (by omega) hi40).mono ?_
              rintro e w3 ⟨rfl, hb3⟩
              have HB3 := Lib.hid (HB2.out.trans (hb3.mono HB2.out.size))
              have HO3 := Lib.hid (HO2.out.below hb3)
              have R3 := R2.below hb3
              have HR3 := Lib.hid (HR2.out.below hb3)
              clear hb3 R2 q0 q1 q2 ql
              have q0 := R3.cell 0
              have q1 := R3.cell 1
              have q2 := R3.cell 2
              have ql := R3.lt
              simp at q0 q1 q2
              go_wp2_with fail
              refine (isKept_calls (HK.out.below HB3.out).r.mg (fun m hm => Nat.le_trans (HK.out.s.k m hm) (by decide)) (by omega)).mono ?_
              rw [hkp]
              rintro e w4 ⟨rfl, hb4⟩
              have HB4 := Lib.hid (HB3.out.trans (hb4.mono HB3.out.size))
              have HO4 := Lib.hid ((HO3.out.below hb4).next HN.out)
              have R4 := R3.below hb4
              have HR4 := Lib.hid (HR3.out.below hb4)
              clear hb4 R3 q0 q1 q2 ql hkp hq
              go_wp2_with fail
              go_roundw
              case rel => exact ⟨k + 1, _, by omega, by go_num, HO4.out, R4, HR4.out, HB4.out⟩
              case measure => simp [intOf]; omega
          · have HN : Hid (blocksTo h (k + 1) = blocksTo h k) := by
              show _ = _; rw [blocksTo, if_neg, List.append_nil]
              intro hl
              obtain ⟨b, hb', hx, _⟩ := (live_at HV.out hk16).1 hl
              rw [hB] at hb'; injection hb' with hb'; subst hb'
              exact hst hx
            have hq : (((i : Int) * 16) == (k : Int)) = false := by simpa using hst
            clear hst hB
            go_wp2_with fail
            refine (blockAt_calls (HK.out.r.pg.below hbw) HV.out hk16b).mono ?_
            rw [HBk.out]
            rintro e w2 ⟨rfl, hb2⟩
            simp only [blkO, blkV]
            have HB2 := Lib.hid (hbw.trans (hb2.mono hbw.size))
            have HO2 := Lib.hid (hO.below hb2)
            have R2 := hR.below hb2
            have HR2 := Lib.hid (hR1.below hb2)
            clear hb2 hO hR hR1 hbw q0 q1 q2 ql
            go_wp2_with fail
            refine (runStart_calls (by omega) hi40).mono ?_
            rintro e w3 ⟨rfl, hb3⟩
            have HB3 := Lib.hid (HB2.out.trans (hb3.mono HB2.out.size))
            have HO3 := Lib.hid ((HO2.out.below hb3).next HN.out)
            have R3 := R2.below hb3
            have HR3 := Lib.hid (HR2.out.below hb3)
            clear hb3 R2
            go_wp2_with fail
            go_roundw
            case rel => exact ⟨k + 1, _, by omega, by go_num, HO3.out, R3, HR3.out, HB3.out⟩
            case measure => simp [intOf]; omega
    · have HF : Hid (liveBlocks h = (0, blocksTo h k)) := by
        show _ = _; rw [HF0.out, show h.words.length = k by have := HW.out; omega]
      have HOI := Lib.hid hO.own.toI
      obtain ⟨vo, vc, rfl, _⟩ := hO.shape
      clear hO
      go_wp2_with (refine wpList_store_row rfl 43 _ _ rfl (w.heap.size + 1) _ rfl rfl _ _ hR1 (by kernel_rfl) (by rfl) (by simp [Value.oneCell']) ?_)
      refine bodyPost_ret (results_cell_row rfl _ _ (w.heap.size + 1) _ _ _ _ rfl (setRow_heap _ _ _ _ _ _ hR1) Tryz.underlying43 rfl (by kernel_rfl)) rfl ?_
      exact rets_done hbw (by omega) HOI.out (by omega) _ HF.out
end Go.Proofs.YthpamclljdcjpaaGreatDoor

/- clear(xs[i:j]) of numbers that are owned. -/
namespace Go.Proofs.YthpamclljdcjpaaGreatDoor
open Go.RowKit

section
variable {P : Program} {w : World} {S : Nat → Prop} {ops : Array Oper} {rest : List Oper} {o : Oper} {a : Act} {Q : Exit → Act → World → Prop}
theorem wpList_clear_ints (hgd : o.guard = none) (x : Operand) (t : TypeId) (ho : o.op = .call { callee := .builtin .clear, args := #[x], argTypes := #[t] })
    (e : TypeId) (ht : P.underlying t = some (.slice e)) (hz : ∀ w, (Go.zeroValue e).run P w = .ok (.int .i64 0) w)
    {n cap m M off g c : Nat} {xs : List Int} (hx : a.eval x = .slice (some ⟨g, off, none⟩) M c) (hM : M = m + 1) (hown : Own KInt e w S (.slice (some ⟨g, 0, none⟩) n cap) n xs) (hm : off + (m + 1) ≤ n)
    (h : ∀ w', Own KInt e w' S (.slice (some ⟨g, 0, none⟩) n cap) n (splice xs off (List.replicate (m + 1) 0)) → Turn S w w' → wpList P ops Q rest (a.put o.dst (.tuple #[])) w') : wpList P ops Q (o :: rest) a w := by
  subst hM
  have hxl := hown.1
  obtain ⟨hg, cur, hr, h1, h2, h3, h4⟩ := hown.rowI
  obtain ⟨zs, hzs⟩ : ∃ zs : List Value, zs = List.replicate (m + 1) (.int .i64 0) := ⟨_, rfl⟩
  have hzc : (Builtin.zeroCells (Value.int .i64 0).cells (m + 1)).toList = zs := by
    apply List.ext_getElem?
    intro j
    rw [hzs, List.getElem?_replicate]
    by_cases hj : j < m + 1
    · rw [if_pos hj]; simp [Builtin.zeroCells, Value.cells, hj, Nat.mod_one]
    · rw [if_neg hj]; simp [Builtin.zeroCells, Value.cells, hj]
  have hstore := run_storeCells_at (P := P) g off e zs 0 cur w hr (by rw [hzs, List.length_replicate]; omega) (fun u hu => by rw [hzs] at hu; rw [List.eq_of_mem_replicate hu]; rfl)
  rw [Nat.add_zero] at hstore
  have hrun : (Builtin.clear_ #[t] o.type #[.slice (some ⟨g, off, none⟩) (m + 1) c]).run P w = .ok (.tuple #[]) (w.setRow g (cur.toList.take off ++ zs ++ cur.toList.drop (off + zs.length)).toArray) := by
    simp only [Builtin.clear_, List.getElem?_toArray, List.getElem?_cons_zero, Sem.run_bind, run_underlying ht, Result.andThen_ok, hz, hzc, hstore, Sem.run_pure]
  refine wpList_plain hgd fun K' hK' => ?_
  unfold Oper.wp execOp
  simp only [ho, resolve, invoke, builtin, Sem.run_bind, Sem.run_pure, Result.andThen_ok, List.map_toArray, List.map_cons, List.map_nil, hx, hrun]
  have hrow := setRow_heap w g cur (cur.toList.take off ++ zs ++ cur.toList.drop (off + zs.length)).toArray e _ hr
  have hzl : zs.length = m + 1 := by rw [hzs, List.length_replicate]
  have hcl : cur.toList.length = cap := by rw [Array.length_toList, h3, Nat.mul_one]
  refine hK' _ _ (h _ (Own.of_rowI (B := 0) ⟨?_, .inr ⟨g, cap, _, rfl, Nat.zero_le _, hrow, h1, h2, ?_, ?_⟩⟩ hg) ((Turn.setRow w g _).mono (fun k hk _ => by rw [show k = g from hk]; exact hg)))
  · rw [List.length_map, length_splice _ _ _ (by rw [List.length_replicate]; omega)]; omega
  · simp only [List.size_toArray, List.length_append, List.length_take, List.length_drop, hzl, hcl]; omega
  · rw [Nat.mul_one, List.toList_toArray]
    apply List.ext_getElem?
    intro j
    by_cases hj : j < n
    · rw [List.getElem?_take_of_lt hj, List.getElem?_map]
      have hcj : ∀ q, q < n → cur.toList[q]? = (xs.map (Value.int .i64))[q]? := fun q hq => by rw [← h4, List.getElem?_take_of_lt hq]
      unfold splice
      by_cases j1 : j < off
      · rw [List.append_assoc, List.getElem?_append_left (by rw [List.length_take, hcl]; omega), List.getElem?_take_of_lt j1, hcj j hj, List.getElem?_map, List.getElem?_append_left (by rw [List.length_take]; omega), List.getElem?_take_of_lt j1]
      · by_cases j2 : j < off + (m + 1)
        · rw [List.append_assoc, List.getElem?_append_right (by rw [List.length_take, hcl]; omega), List.getElem?_append_left (by rw [hzl, List.length_take, hcl]; omega), List.getElem?_append_right (by rw [List.length_take]; omega), List.getElem?_append_left (by rw [List.length_replicate, List.length_take]; omega), hzs, List.getElem?_replicate, List.getElem?_replicate]
          rw [if_pos (by rw [List.length_take, hcl]; omega), if_pos (by rw [List.length_take]; omega)]; rfl
        · rw [List.append_assoc, List.getElem?_append_right (by rw [List.length_take, hcl]; omega), List.getElem?_append_right (by rw [hzl, List.length_take, hcl]; omega), List.getElem?_append_right (by rw [List.length_take]; omega), List.getElem?_append_right (by rw [List.length_replicate, List.length_take]; omega), List.getElem?_drop, List.getElem?_drop, ← List.getElem?_map]
          rw [show off + zs.length + (j - (cur.toList.take off).length - zs.length) = j by rw [List.length_take, hcl, hzl]; omega, hcj j hj, List.length_replicate]
          congr 1
          rw [List.length_take]; omega
    · rw [List.getElem?_take_eq_none (by omega), List.getElem?_eq_none (by rw [List.length_map, length_splice _ _ _ (by rw [List.length_replicate]; omega)]; omega)]
end
end Go.Proofs.YthpamclljdcjpaaGreatDoor

/- Chapter 5 of the program: magazines emptied; words of free pages. -/
namespace Go.Proofs.YthpamclljdcjpaaGreatDoor
open Go.RowKit

theorem takeAll_calls {g : Nat} {a : Option Addr} {l c : Nat} {w : World} (hr : Row w g 196 #[.slice a l c]) :
    Calls Tryz.prog 206 #[.pointer (some ⟨g, 0, none⟩)] w fun e w' => e = .returned (.slice a l c) ∧ Row w' g 196 #[.slice none 0 0] ∧ Turn (fun k => k = g) w w' := by
  have h0 := hr.lt
  have h1 := hr.cell 0
  have h2 := frozen_of_row w g 0 _ _ hr
  simp at h1
  have HR := Lib.hid (show Row (w.setCell ⟨g, 0, none⟩ (.slice none 0 0)) g 196 #[.slice none 0 0] by
    have := heap_setCell_same w g 0 _ _ (.slice none 0 0) hr
    simpa [Row] using this)
  clear hr
  go_enter Tryz.func206, Tryz.ntmps206
  go_wp2_with fail
  go_ret
  exact ⟨rfl, HR.out, Turn.set w ⟨g, 0, none⟩ _⟩

set_option maxRecDepth 100000 in
set_option maxHeartbeats 2000000 in
theorem wordsFor_calls {ao wa : Option Addr} {n cc wn wk : Nat} {ps : List Pg} {ws : List Int} {S S' : Nat → Prop} {w : World} (hT : Lst KPage w S ao n ps) (hW : Lst KInt w S' wa wn ws) (hl : ws.length = ps.length * 16) (hp40 : ps.length ≤ 40) :
    Calls Tryz.prog 208 #[.slice ao n cc, .slice wa wn wk] w fun e w' => ∃ v, e = .returned v ∧ Own KInt 2 w' (fun k => w.heap.size ≤ k) v wn (sweepW ws 0 ps) ∧ Below w.heap.size w w' := by
  have HL := Lib.hid hT.1
  have HW := Lib.hid hW.1
  have HWn := Lib.hid (show wn = n * 16 by have := hT.1; have := hW.1; omega)
  have hn : n ≤ 40 := by have := hT.1; omega
  have hwn : wn ≤ 640 := by rw [HWn.out]; omega
  have hz : ∀ w, (Go.zeroValue 2).run Tryz.prog w = .ok (.int .i64 0) w := fun w => Tryz.zeroValue2 w
  have HZ := Lib.hid hz
  clear hl hz
  go_enter Tryz.func208, Tryz.ntmps208
  go_wp2_with fail
  refine (cloneI_calls hW (by omega)).mono ?_
  rintro e w1 ⟨v, rfl, hO, hb1⟩
  obtain ⟨vo, vc, rfl, hv1, hv2, _⟩ := hO.shape
  have hO0 : Own KInt 2 w1 (fun k => w.heap.size ≤ k) (.slice vo wn vc) wn (sweepW ws 0 (ps.take 0)) := by simpa [sweepW] using hO
  clear hO
  go_wp2_with fail
  go_loopw [6, 7, 12] (fun _ _ i wr => ∃ k : Nat, k ≤ n ∧ i = .int .i64 k ∧ Own KInt 2 wr (fun k => w.heap.size ≤ k) (.slice vo wn vc) wn (sweepW ws 0 (ps.take k)) ∧ Below w.heap.size w wr) (fun _ _ i _ => n - (intOf i).toNat)
  case atStart => exact ⟨0, Nat.zero_le _, rfl, hO0, hb1⟩
  case round =>
    clear hO0 hb1
    obtain ⟨k, hk, rfl, hO, hbw⟩ := hrel
    by_cases hlt : k < n
    · obtain ⟨b0, o0, p, a0, l0, c0, rfl, d0, hp, e0, e1, e2, e3, hlc0, hcm0, hu0⟩ := (hT.below hbw).pg_at hlt
      have HP := Lib.hid hp
      clear hp hcm0 hu0
      have HO := Lib.hid (hO.alloc (.cells #[.int .i64 p.kind, .int .i64 p.cls, .slice a0 l0 c0, .int .i64 p.run] 137))
      have HB := Lib.hid (hbw.alloc hbw.size (.cells #[.int .i64 p.kind, .int .i64 p.cls, .slice a0 l0 c0, .int .i64 p.run] 137))
      by_cases h0 : p.kind = 0
      · obtain ⟨g, rfl⟩ : ∃ g, vo = some ⟨g, 0, none⟩ := by
          rcases hO.2 with ⟨hx, _⟩ | ⟨g, _, _, _, hv, _⟩
          · injection hx with e1 e2 e3; exfalso; have := HWn.out; omega
          · cases hv; exact ⟨g, rfl⟩
        have hf2 : (k + 1) * 16 ≤ wn := by rw [HWn.out]; omega
        have hf3 : k * 16 < vc := by omega
        have HN : Hid (sweepW ws 0 (ps.take (k + 1)) = splice (sweepW ws 0 (ps.take k)) (k * 16) (List.replicate (15 + 1) 0)) := by
          show _ = _; rw [sweepW_take HP.out, if_pos h0]; rfl
        rw [h0] at e0 HO HB
        clear h0 hO hbw
        go_wp2_with (
          with_reducible show wpList _ _ _ (Go.Oper.mk none (Go.Op.call _) _ _ _ _ :: _) _ _
          go_must (refine wpList_clear_ints rfl (.tmp 26) 25 rfl 2 Tryz.underlying25 HZ.out (m := 15) (off := k * 16) (g := g) rfl (by omega) HO.out (by omega) ?_)
          intro w3 ho3 ht3
          have H3 : Hid (Own KInt 2 w3 (fun k => w.heap.size ≤ k) (.slice (some ⟨g, 0, none⟩) wn vc) wn (sweepW ws 0 (ps.take (k + 1))) ∧ Below w.heap.size w w3) := by
            refine ⟨?_, ht3.below HB.out HB.out.size (fun q hq => hq)⟩
            rw [HN.out]; exact ho3
          clear ho3 ht3)
        go_roundw
        case rel => exact ⟨k + 1, by omega, by go_num, H3.out.1, H3.out.2⟩
        case measure => simp [intOf]; omega
      · have HN : Hid (sweepW ws 0 (ps.take (k + 1)) = sweepW ws 0 (ps.take k)) := by
          show _ = _; rw [sweepW_take HP.out, if_neg h0]
        have hq : (p.kind == 0) = false := by simpa using h0
        have H3 : Hid (Own KInt 2 (wr.alloc (.cells #[.int .i64 p.kind, .int .i64 p.cls, .slice a0 l0 c0, .int .i64 p.run] 137)) (fun k => w.heap.size ≤ k) (.slice vo wn vc) wn (sweepW ws 0 (ps.take (k + 1)))) := by
          show Own _ _ _ _ _ _ _; rw [HN.out]; exact HO.out
        clear h0 hO hbw
        go_wp2_with fail
        go_roundw
        case rel => exact ⟨k + 1, by omega, by go_num, H3.out, HB.out⟩
        case measure => simp [intOf]; omega
    · have HF : Hid (Own KInt 2 wr (fun k => w.heap.size ≤ k) (.slice vo wn vc) wn (sweepW ws 0 ps) ∧ Below w.heap.size w wr) := by
        rw [List.take_of_length_le (by have := HL.out; omega)] at hO
        exact ⟨hO, hbw⟩
      clear hO hbw
      go_wp2_with fail
      go_ret
      exact ⟨_, rfl, HF.out.1, HF.out.2⟩

/-- Magazines all of which are nil, in a list of pointers. -/
theorem Lst.pmo_at {w : World} {S : Nat → Prop} {ao : Option Addr} {n : Nat} (h : Lst KPMO w S ao n (List.replicate n none)) {j : Nat} (hj : j < n) :
    ∃ b off g, ao = some ⟨b, off, none⟩ ∧ b < w.heap.size ∧ w.cell? ⟨b, off + j, none⟩ = some (.pointer (some ⟨g, 0, none⟩)) ∧ Row w g 196 #[.slice none 0 0] := by
  obtain ⟨b, off, cs, x, rfl, hb, hs, hx, hl, hcs, ⟨g, row, rfl, hg, hr, hrow⟩⟩ := h.at_ hj
  have h0 := hcs 0 (show 0 < 1 by omega)
  rw [show KPMO.sz = 1 from rfl, Nat.mul_one] at h0
  rw [List.getElem?_replicate, if_pos hj] at hx
  injection hx with hx; subst hx
  obtain ⟨row⟩ := row
  have : row = [.slice none 0 0] := hrow
  subst this
  exact ⟨b, off, g, rfl, hb, h0, hr⟩

set_option maxRecDepth 100000 in
set_option maxHeartbeats 2000000 in
theorem listsOf_calls {ao : Option Addr} {n cc : Nat} {S : Nat → Prop} {w : World} (hT : Lst KPMO w S ao n (List.replicate n none)) (hn : n ≤ 1048576) :
    Calls Tryz.prog 139 #[.slice ao n cc] w fun e w' => ∃ v, e = .returned v ∧ Own KMag 25 w' (fun k => w.heap.size ≤ k) v n (List.replicate n []) ∧ Below w.heap.size w w' := by
  obtain ⟨im, him, hm0, hm1, hm2⟩ := info_parts infoMg
  go_enter Tryz.func139, Tryz.ntmps139
  go_wp2_with (
    at_make
    go_must (refine wpList_make_own _ rfl _ _ 26 rfl w.heap.size 25 im (.slice none 0 0) 1 Tryz.underlying26 him hm0 hm1 _ _ _ n rfl rfl rfl (by rw [hm2]; omega) (by unfold maxLen; omega) (Nat.le_refl _) ?_)
    intro w1 hown hg1
    have hO0 : Own KMag 25 w1 (fun q => w.heap.size ≤ q) (.slice (some ⟨w.heap.size, 0, none⟩) 0 n) 0 (List.replicate 0 []) := by
      refine Own.of_row (cells := []) (F := fun _ _ => False) (K := KMag) ?_ rfl (fun g' h => ?_) (fun _ _ h => h.elim) (fun _ _ _ h => h.elim) (fun j x hj => by simp at hj)
      · obtain ⟨h1, h2⟩ := hown
        refine ⟨h1, ?_⟩
        rcases h2 with h2 | ⟨g', cap', cur, hv, _, r⟩
        · exact .inl h2
        · exact .inr ⟨g', cap', cur, hv, Nat.zero_le _, r⟩
      · simp [Value.ownBlock] at h; omega
    have hB0 : Below w.heap.size w w1 := (Below.refl _ _).grown hg1 (Nat.le_refl _) (by simp)
    clear hown hg1)
  go_loopw [3, 5, 11] (fun v _ i wr => ∃ k : Nat, k ≤ n ∧ i = .int .i64 k ∧ Own KMag 25 wr (fun q => w.heap.size ≤ q) v k (List.replicate k []) ∧ Below w.heap.size w wr) (fun _ _ i _ => n - (intOf i).toNat)
  case atStart => exact ⟨0, Nat.zero_le _, rfl, hO0, hB0⟩
  case round =>
    clear hO0 hB0
    obtain ⟨k, hk, rfl, hO, hbw⟩ := hrel
    obtain ⟨vo, vc, rfl, hvc1, hvc2, _⟩ := hO.shape
    by_cases hlt : k < n
    · obtain ⟨b0, o0, g, rfl, d0, e0, hr⟩ := (hT.below hbw).pmo_at hlt
      have r0 := hr.cell 0
      have rl := hr.lt
      simp at r0
      have HO := Lib.hid (hO.alloc (.cells #[.slice none 0 0] 25))
      have HB := Lib.hid (hbw.alloc hbw.size (.cells #[.slice none 0 0] 25))
      have hc3 : (wr.alloc (.cells #[.slice none 0 0] 25)).cell? ⟨wr.heap.size, 0, none⟩ = some (.slice none 0 0) := by
        simp
      have HC := Lib.hid hc3
      have hsz := hbw.size
      clear hr hO hbw hc3
      go_wp2_with (
        at_builtin
        go_must (refine wpList_append_elem (K := KMag) (G := fun _ => False) rfl (.tmp 15) (.tmp 20) 26 rfl 25 im (.slice none 0 0) 24 Tryz.underlying26 him hm0 hm1 hm2 rfl (by decide) one_mag (b := wr.heap.size) (c := 1) (y := ([] : List Int)) (cs := [.slice none 0 0]) rfl HO.out rfl (fun j u hu => ?_) (KMag_own_mk Own.nil) (fun _ h => h.elim) (by unfold maxLen; omega) (by omega) ?_)
        · cases j with
          | zero => simp at hu; subst hu; exact HC.out
          | succ j => simp at hu
        intro v3 w3 ho3 ht3
        have H3 : Hid (Own KMag 25 w3 (fun q => w.heap.size ≤ q) v3 (k + 1) (List.replicate (k + 1) []) ∧ Below w.heap.size w w3) := by
          refine ⟨?_, ht3.below HB.out HB.out.size (fun q hq => hq)⟩
          rw [List.replicate_succ']
          refine ho3.mono (fun q hq _ => ?_)
          rcases hq with hq | hq | hq
          · exact hq
          · exact hq.elim
          · simp at hq; omega
        clear ho3 ht3)
      go_roundw
      case rel => exact ⟨k + 1, by omega, by go_num, H3.out.1, H3.out.2⟩
      case measure => simp [intOf]; omega
    · obtain rfl : k = n := by omega
      have HF := Lib.hid (And.intro hO hbw)
      clear hO hbw
      go_wp2_with fail
      go_ret
      exact ⟨_, rfl, HF.out.1, HF.out.2⟩
end Go.Proofs.YthpamclljdcjpaaGreatDoor
