/- The law 'FnRuns'. -/
import Derived.Test.YtkikjoalhohlgaaDraw4c
import Derived.Test.YtkikjoalhohlgaaFacts4b
import Derived.Test.YtkikjoalhohlgaaLaw4c
import Derived.Deep.RegionHeld3
import Derived.IntWalk
namespace Go.Proofs.Ytkikjoalhohlgaa
open Go.RowKit

theorem runFrom_first {m : Nat} : ∀ {ps : List Pg} {k i : Nat}, runFrom m k ps = some i → ∀ j, k + j < i → freeN m (ps.drop j) = false
  | [], k, i, h, j, hj => by simp [runFrom] at h
  | p :: r, k, i, h, j, hj => by
    unfold runFrom at h
    split at h
    · injection h with h; omega
    · rename_i hf
      cases j with
      | zero => simpa using hf
      | succ j => exact runFrom_first h j (by omega)
theorem runFrom_never {m : Nat} : ∀ {ps : List Pg} {k : Nat}, runFrom m k ps = none → ∀ j, j < ps.length → freeN m (ps.drop j) = false
  | [], k, h, j, hj => by simp at hj
  | p :: r, k, h, j, hj => by
    unfold runFrom at h
    split at h
    · cases h
    · rename_i hf
      cases j with
      | zero => simpa using hf
      | succ j => exact runFrom_never h j (by simpa using hj)
theorem pagesFault_codes (ps : List Pg) : pagesFault ps = 0 ∨ pagesFault ps = 1 ∨ pagesFault ps = 2 ∨ pagesFault ps = 3 ∨ pagesFault ps = 4 ∨ pagesFault ps = 8 := by
  have h1 : ∀ p, pageFault p = 0 ∨ pageFault p = 1 ∨ pageFault p = 2 ∨ pageFault p = 3 ∨ pageFault p = 4 := fun p => by
    unfold pageFault
    repeat' split
    all_goals omega
  have h2 : ∀ qs : List Pg, firstPF qs = 0 ∨ firstPF qs = 1 ∨ firstPF qs = 2 ∨ firstPF qs = 3 ∨ firstPF qs = 4 := fun qs => by
    induction qs with
    | nil => exact .inl rfl
    | cons p r ih =>
      unfold firstPF
      split
      · exact ih
      · exact h1 p
  have h3 := h2 ps
  unfold pagesFault
  repeat' split
  all_goals omega
theorem findRun_cases (ps : List Pg) (m : Int) : (∃ i k : Nat, m = k ∧ 1 ≤ k ∧ k ≤ 4 ∧ findRun ps m = (0, (i : Int)) ∧ i + k ≤ ps.length ∧ freeN k (ps.drop i) = true ∧ pagesFault ps = 0 ∧ ∀ j, j < i → freeN k (ps.drop j) = false) ∨
    (∃ k : Nat, m = k ∧ 1 ≤ k ∧ k ≤ 4 ∧ findRun ps m = (7, 0) ∧ pagesFault ps = 0 ∧ ∀ j, j < ps.length → freeN k (ps.drop j) = false) ∨ ((findRun ps m).1 ≠ 0 ∧ (findRun ps m).1 ≠ 7) := by
  by_cases hv : pagesFault ps = 0
  · by_cases hm : 1 ≤ m ∧ m ≤ 4
    · obtain ⟨k, rfl⟩ := Int.eq_ofNat_of_zero_le (show 0 ≤ m by omega)
      have hf := findRun_by (ps := ps) (m := (k : Int)) hv (within_yes1 hm.1 hm.2) rfl
      cases hr : runFrom k 0 ps with
      | some i =>
        rw [hr] at hf
        refine .inl ⟨i, k, rfl, by omega, by omega, hf, ?_, by simpa using (runFrom_in hr).2, hv, fun j hj => runFrom_first hr j (by omega)⟩
        have := freeN_len (runFrom_in hr).2
        rw [List.length_drop] at this
        omega
      | none =>
        rw [hr] at hf
        exact .inr (.inl ⟨k, rfl, by omega, by omega, hf, hv, fun j hj => runFrom_never hr j hj⟩)
    · right; right
      unfold findRun
      rw [if_pos hv, within_no1 (by omega)]
      simp
  · right; right
    have := pagesFault_codes ps
    unfold findRun
    rw [if_neg hv]
    constructor
    · exact hv
    · show pagesFault ps ≠ 7; omega
theorem takeRun_at {ps : List Pg} {i k : Nat} (hv : pagesFault ps = 0) (h1 : 1 ≤ k) (h4 : k ≤ 4) (hl : i + k ≤ ps.length) : takeRun ps i k = if freeN k (ps.drop i) = true then (0, putRun ps i k, (i : Int) * 16) else (8, [], 0) := by
  unfold takeRun
  rw [if_pos hv, if_pos ⟨within_yes1 (by omega) (by omega), within_yes1 (by omega) (by omega)⟩]
  simp

theorem keepB {W a b : World} {p q : Addr} {x y : Value} (h : a.cell? p = some x ∧ a.cell? q = some y ∧ Below W.heap.size W a) (hb : Below a.heap.size a b) : b.cell? p = some x ∧ b.cell? q = some y ∧ Below W.heap.size W b := by
  obtain ⟨h1, h2, h⟩ := h
  have k := fun (p : Addr) (x : Value) (e : a.cell? p = some x) => (hb.cell (World.block_lt_of_cell? _ _ e)).trans e
  exact ⟨k _ _ h1, k _ _ h2, h.trans (hb.mono h.size)⟩

set_option maxHeartbeats 8000000 in
set_option maxRecDepth 100000 in
theorem lawRuns {ao : Option Addr} {n c : Nat} {bs : List Int} {w : World} (hb : Bytes w ao n bs) :
    Calls Try.prog 4 #[.slice ao n c] w fun e w' => e = .returned (.bool true) ∧ Below w.heap.size w w' := by
  by_cases hbig : n ≤ 1048576
  rotate_left
  · go_enter Try.func4, Try.ntmps4
    go_wp2
    go_ret
    exact ⟨rfl, Below.refl _ _⟩
  have hbig' : ¬ (1048576 : Int) < (n : Int) := by omega
  go_enter Try.func4, Try.ntmps4
  go_wp2_with (go_at_call 15; go_in)
  refine (drawFindRun_calls hb hbig).mono ?_
  rintro e w1 ⟨v, n1, ps, m, rfl, ⟨hO, hn51, hQ⟩, m0, m1, B1⟩
  obtain ⟨a1, c1, rfl, hlc1, hcm1, T1⟩ := hO.shape
  have hcm1' : c1 ≤ 9223372036854775807 := hcm1
  have HS1 := Lib.hid (hQ.mono (show 17 ≤ 17592186044416 by decide))
  clear hO hQ hcm1
  go_wp2_with fail
  refine (findRun_calls T1 HS1.out hlc1 hcm1' (by omega)).mono ?_
  rintro e w2 ⟨rfl, b⟩
  have T1 := T1.below b
  have B2 := B1.trans (b.mono B1.size)
  clear b B1
  go_wp2_with fail
  refine (drawBlockStart_calls (hb.below (B2.alloc B2.size _)) hbig).mono ?_
  rintro e w3 ⟨v, n2, qs, t, rfl, ⟨hO, hm51, hQ⟩, t0, t1, b⟩
  obtain ⟨a2, c2, rfl, hlc2, hcm2, T2⟩ := hO.shape
  have hcm2' : c2 ≤ 9223372036854775807 := hcm2
  have HS2 := Lib.hid (hQ.mono (show 17 ≤ 17592186044416 by decide))
  have R1 := Row.new b
  have b := below_past b
  have T1 := T1.below b
  have B3 := B2.trans (b.mono B2.size)
  clear hO hQ hcm2 b B2
  go_wp2_with fail
  refine (blockStart_calls T2 HS2.out hlc2 hcm2' (by omega)).mono ?_
  rintro e w4 ⟨rfl, b⟩
  have T1 := T1.below b
  have T2 := T2.below b
  have R1 := R1.below b
  have B4 := B3.trans (b.mono B3.size)
  clear b B3
  go_wp2_with fail
  refine (drawPageFault_calls (hb.below (B4.alloc B4.size _)) hbig).mono ?_
  rintro e w5 ⟨a3, n3, c3, p, rfl, T3, hp17, hlc3, hcm3, b⟩
  have R2 := Row.new b
  have b := below_past b
  have T1 := T1.below b
  have T2 := T2.below b
  have R1 := R1.below b
  have B5 := B4.trans (b.mono B4.size)
  clear hcm3 b B4
  go_wp2_with fail
  refine (drawUsedIn_calls (hb.below (B5.alloc B5.size _)) hbig).mono ?_
  rintro e w6 ⟨v, n4, us, rfl, ⟨hO, hu51, hQ⟩, b⟩
  obtain ⟨a4, c4, rfl, hlc4, hcm4, T4⟩ := hO.shape
  have hcm4' : c4 ≤ 9223372036854775807 := hcm4
  have HS4 := Lib.hid (hQ.mono (show 17 ≤ 17592186044416 by decide))
  have R3 := Row.new b
  have b := below_past b
  have T1 := T1.below b
  have T2 := T2.below b
  have T3 := T3.below b
  have R1 := R1.below b
  have R2 := R2.below b
  have B6 := B5.trans (b.mono B5.size)
  clear hO hQ hcm4 b B5
  have k0 := R1.cell 0
  have k1 := R1.cell 1
  have k2 := R2.cell 0
  have k3 := R2.cell 1
  have k4 := R3.cell 0
  have k5 := R3.cell 1
  have k6 := R3.cell 2
  have k7 := R3.cell 3
  simp at k0 k1 k2 k3 k4 k5 k6 k7
  have kB := Below.refl w6.heap.size w6
  have g1 : (pageFault p != pageFault p) = false := by simp
  have hq := run_neqPair
  have heg : Try.prog.eqGuardType Try.prog.depth 38 = false := by kernel_rfl
  go_wp2_with fail
  go_region_held3 (fun w' => w'.cell? ⟨w2.heap.size, 0, none⟩ = some (.int .i64 (findRun ps m).1) ∧ w'.cell? ⟨w2.heap.size, 1, none⟩ = some (.int .i64 (findRun ps m).2) ∧ w'.cell? ⟨w4.heap.size, 0, none⟩ = some (.int .i64 (blockStart qs t).1) ∧ w'.cell? ⟨w4.heap.size, 1, none⟩ = some (.int .i64 (blockStart qs t).2) ∧ w'.cell? ⟨w5.heap.size, 0, none⟩ = some (.int .i64 p.kind) ∧ w'.cell? ⟨w5.heap.size, 1, none⟩ = some (.int .i64 p.cls) ∧ w'.cell? ⟨w5.heap.size, 2, none⟩ = some (.slice a3 n3 c3) ∧ w'.cell? ⟨w5.heap.size, 3, none⟩ = some (.int .i64 p.run) ∧ Below w6.heap.size w6 w') (first | with_reducible assumption | with_reducible exact ⟨k0, k1, k2, k3, k4, k5, k6, k7, kB.drew⟩ | exact ⟨k0, k1, k2, k3, k4, k5, k6, k7, kB.drew⟩)
    (first
      | (go_at_call 40; obtain ⟨y0, y1, y2, y3, y4, y5, y6, y7, kb⟩ := ‹_ ∧ _ ∧ _ ∧ _ ∧ _ ∧ _ ∧ _ ∧ _ ∧ Below _ _ _›; refine (sFindRun_calls (T1.below kb) HS1.out (by omega)).mono ?_; rintro e w' ⟨rfl, b⟩; have hS' := keep8 ⟨y0, y1, y2, y3, y4, y5, y6, y7, kb⟩ b)
      | (go_at_call 41; obtain ⟨y0, y1, y2, y3, y4, y5, y6, y7, kb⟩ := ‹_ ∧ _ ∧ _ ∧ _ ∧ _ ∧ _ ∧ _ ∧ _ ∧ Below _ _ _›; refine (sBlockStart_calls (T2.below kb) HS2.out (by omega)).mono ?_; rintro e w' ⟨rfl, b⟩; have hS' := keep8 ⟨y0, y1, y2, y3, y4, y5, y6, y7, kb⟩ b)
      | (go_at_call 31; obtain ⟨y0, y1, y2, y3, y4, y5, y6, y7, kb⟩ := ‹_ ∧ _ ∧ _ ∧ _ ∧ _ ∧ _ ∧ _ ∧ _ ∧ Below _ _ _›; refine (blockSize_calls (T2.below kb) HS2.out hlc2 hcm2' (by omega)).mono ?_; rintro e w' ⟨rfl, b⟩; have hS' := keep8 ⟨y0, y1, y2, y3, y4, y5, y6, y7, kb⟩ b)
      | (go_at_call 42; obtain ⟨y0, y1, y2, y3, y4, y5, y6, y7, kb⟩ := ‹_ ∧ _ ∧ _ ∧ _ ∧ _ ∧ _ ∧ _ ∧ _ ∧ Below _ _ _›; refine (sBlockSize_calls (T2.below kb) HS2.out (by omega)).mono ?_; rintro e w' ⟨rfl, b⟩; have hS' := keep8 ⟨y0, y1, y2, y3, y4, y5, y6, y7, kb⟩ b)
      | (go_at_call 43; obtain ⟨y0, y1, y2, y3, y4, y5, y6, y7, kb⟩ := ‹_ ∧ _ ∧ _ ∧ _ ∧ _ ∧ _ ∧ _ ∧ _ ∧ Below _ _ _›; refine (pageFault_calls (T3.below kb) (by omega)).mono ?_; rintro e w' ⟨rfl, b⟩; have hS' := keep8 ⟨y0, y1, y2, y3, y4, y5, y6, y7, kb⟩ b)
      | (go_at_call 44; obtain ⟨y0, y1, y2, y3, y4, y5, y6, y7, kb⟩ := ‹_ ∧ _ ∧ _ ∧ _ ∧ _ ∧ _ ∧ _ ∧ _ ∧ Below _ _ _›; refine (sPageFault_calls (T3.below kb) (by omega)).mono ?_; rintro e w' ⟨rfl, b⟩; have hS' := keep8 ⟨y0, y1, y2, y3, y4, y5, y6, y7, kb⟩ b)
      | (go_at_call 34; obtain ⟨y0, y1, y2, y3, y4, y5, y6, y7, kb⟩ := ‹_ ∧ _ ∧ _ ∧ _ ∧ _ ∧ _ ∧ _ ∧ _ ∧ Below _ _ _›; refine (usedIn_calls (T4.below kb) HS4.out hlc4 hcm4' (by omega)).mono ?_; rintro e w' ⟨rfl, b⟩; have hS' := keep8 ⟨y0, y1, y2, y3, y4, y5, y6, y7, kb⟩ b)
      | (go_at_call 45; obtain ⟨y0, y1, y2, y3, y4, y5, y6, y7, kb⟩ := ‹_ ∧ _ ∧ _ ∧ _ ∧ _ ∧ _ ∧ _ ∧ _ ∧ Below _ _ _›; refine (sUsedIn_calls (T4.below kb) HS4.out (by omega)).mono ?_; rintro e w' ⟨rfl, b⟩; have hS' := keep8 ⟨y0, y1, y2, y3, y4, y5, y6, y7, kb⟩ b))
  obtain ⟨_, _, _, _, _, _, _, _, kb⟩ := hS'
  obtain ⟨V, hV⟩ : ∃ V, V = w' := ⟨_, rfl⟩
  rw [← hV] at kb ⊢
  have T1 := T1.below kb
  have T2 := T2.below kb
  have R1 := R1.below kb
  have R2 := R2.below kb
  have BV := B6.trans (kb.mono B6.size)
  clear hV k0 k1 k2 k3 k4 k5 k6 k7 kB g1 b kb T3 T4 R3 B6
  have k0 := R1.cell 0
  have k1 := R1.cell 1
  have k2 := R2.cell 0
  have k3 := R2.cell 1
  simp at k0 k1 k2 k3
  have l1 := R1.lt
  have l2 := R2.lt
  have hX : ∃ U, Below V.heap.size V U ∧ True := ⟨V, Below.refl _ _, trivial⟩
  clear hX
  by_cases hc : (blockStart qs t).1 = 0
  · obtain ⟨bk, hbk, hv, he⟩ := blockStart_held hc
    have hr := block_range hv hbk
    have hst : blockStart qs bk.start = (0, bk.start) := by unfold blockStart; rw [hr.2.2.2.2]
    have hbs : blockStart qs t = (0, bk.start) := by rw [← he, ← hc]
    have hsz : blockSize qs t = (0, bk.size) := by unfold blockSize; rw [hbk]
    have HST := Lib.hid hst
    have HSZ := Lib.hid hsz
    have hlen := T2.1
    obtain ⟨s0, s1, s2, s3, _⟩ := hr
    rw [hbs] at k2 k3
    simp only at k2 k3
    generalize bk.start = st at *
    generalize bk.size = sz at *
    have q1 : IntKind.i64.wrap (st + sz) = st + sz := IntWalk.i64_in _ (by omega)
    have d1 : decide (t < st) = false := by simp; omega
    have d2 : decide (st + sz ≤ t) = false := by simp; omega
    clear hc hbk hv he hst hbs hsz R2
    have kB := Below.refl V.heap.size V
    have hq1 := run_field_P1
    go_wp2_with fail
    go_region_held3 (fun w' => w'.cell? ⟨w4.heap.size, 0, none⟩ = some (.int .i64 0) ∧ w'.cell? ⟨w4.heap.size, 1, none⟩ = some (.int .i64 st) ∧ Below V.heap.size V w') (first | with_reducible assumption | with_reducible exact ⟨k2, k3, kB.drew⟩ | exact ⟨k2, k3, kB.drew⟩)
      (first
        | (go_at_call 31; obtain ⟨y0, y1, kb⟩ := ‹_ ∧ _ ∧ Below _ _ _›; refine (blockSize_calls (T2.below kb) HS2.out hlc2 hcm2' (by omega)).mono ?_; rw [HSZ.out]; rintro e w' ⟨rfl, b⟩; have hS' := keepB ⟨y0, y1, kb⟩ b)
        | (go_at_call 30; obtain ⟨y0, y1, kb⟩ := ‹_ ∧ _ ∧ Below _ _ _›; refine (blockStart_calls (T2.below kb) HS2.out hlc2 hcm2' (by omega)).mono ?_; rw [HST.out]; rintro e w' ⟨rfl, b⟩; have hS' := keepB ⟨y0, y1, kb⟩ b))
    obtain ⟨_, _, kb⟩ := hS'
    obtain ⟨U, hU⟩ : ∃ U, U = w' := ⟨_, rfl⟩
    rw [← hU] at kb ⊢
    clear hU k2 k3 kB b d1 d2 q1 HST HSZ s0 s1 s2 s3 hlen T2
    have T1 := T1.below kb
    have R1 := R1.below kb
    have BU := BV.trans (kb.mono BV.size)
    clear k0 k1 kb BV l1 l2
    have k0 := R1.cell 0
    have k1 := R1.cell 1
    simp at k0 k1
    have l1 := R1.lt
    have hl1 := T1.1
    rcases findRun_cases ps m with ⟨i0, q, rfl, hq1, hq4, hf, hlen, hfree, hv1, hfirst⟩ | ⟨q, rfl, hq1, hq4, hf, hv1, hnever⟩ | ⟨hf0, hf7⟩
    · rw [hf] at R1 k0 k1
      simp only at R1 k0 k1
      have HFR := Lib.hid hfree
      have HFI := Lib.hid hfirst
      have HV1 := Lib.hid hv1
      have HT := Lib.hid T1
      have HR := Lib.hid R1
      have HB := Lib.hid BU
      clear hf hfree hfirst hv1 T1 R1 BU
      go_wp2_with fail
      go_loopw [11] (fun t wr => ∃ j : Nat, j ≤ i0 ∧ t = .int .i64 j ∧ Below U.heap.size U wr) (fun t _ => i0 + 1 - (intOf t).toNat)
      case atStart => exact ⟨0, by omega, rfl, Below.refl _ _⟩
      case round =>
        obtain ⟨j, hj, rfl, hbw⟩ := hrel
        have HTK := Lib.hid (takeRun_at (ps := ps) (i := j) (k := q) HV1.out hq1 hq4 (by omega))
        have hle : (j : Int) + (q : Int) ≤ (n1 : Int) := by omega
        have HBW := Lib.hid hbw
        have HRw := Lib.hid (HR.out.below hbw)
        have l1w := HRw.out.lt
        clear k0 k1 l1 hbw
        go_wp2_with fail
        refine (takeRun_calls (HT.out.below HBW.out) HS1.out hlc1 hcm1' (by omega)).mono ?_
        rw [HTK.out]
        rintro e w8 ⟨v8, n8, rfl, hO8, b8⟩
        obtain ⟨va8, vc8, rfl, _, _, _⟩ := hO8.shape
        have HR8 := Lib.hid (HRw.out.below b8)
        have k0 := HR8.out.cell 0
        have k1 := HR8.out.cell 1
        simp at k0 k1
        have l18 := HR8.out.lt
        have HB8 := Lib.hid (HBW.out.trans (b8.mono HBW.out.size))
        clear hO8 b8 HRw HBW
        by_cases e : j = i0
        · subst e
          rw [if_pos HFR.out]
          have hq := run_eqlPair
          have heg : Try.prog.eqGuardType Try.prog.depth 38 = false := by kernel_rfl
          go_wp2_with fail
          go_ret
          exact ⟨by first | rfl | simp, HB.out.trans ((HB8.out.alloc HB8.out.size _).mono HB.out.size)⟩
        · rw [if_neg (by rw [HFI.out j (by omega)]; simp)]
          go_wp2_with fail
          go_roundw
          case rel => exact ⟨j + 1, by omega, by go_num, HB8.out.alloc HB8.out.size _⟩
          case measure => simp [intOf]; omega
    · rw [hf] at R1 k0 k1
      simp only at R1 k0 k1
      have HFI := Lib.hid hnever
      have HV1 := Lib.hid hv1
      have HT := Lib.hid T1
      have HR := Lib.hid R1
      have HB := Lib.hid BU
      clear hf hnever hv1 T1 R1 BU
      go_wp2_with fail
      go_loopw [11] (fun t wr => ∃ j : Nat, j ≤ n1 + 1 ∧ t = .int .i64 j ∧ Below U.heap.size U wr) (fun t _ => n1 + 2 - (intOf t).toNat)
      case atStart => exact ⟨0, by omega, rfl, Below.refl _ _⟩
      case round =>
        obtain ⟨j, hj, rfl, hbw⟩ := hrel
        have HBW := Lib.hid hbw
        have HRw := Lib.hid (HR.out.below hbw)
        have l1w := HRw.out.lt
        clear k0 k1 l1 hbw
        by_cases hle : (j : Int) + (q : Int) ≤ (n1 : Int)
        · have HTK := Lib.hid (takeRun_at (ps := ps) (i := j) (k := q) HV1.out hq1 hq4 (by omega))
          go_wp2_with fail
          refine (takeRun_calls (HT.out.below HBW.out) HS1.out hlc1 hcm1' (by omega)).mono ?_
          rw [HTK.out, if_neg (by rw [HFI.out j (by omega)]; simp)]
          rintro e w8 ⟨v8, n8, rfl, hO8, b8⟩
          obtain ⟨va8, vc8, rfl, _, _, _⟩ := hO8.shape
          have HB8 := Lib.hid (HBW.out.trans (b8.mono HBW.out.size))
          clear hO8 b8 HRw HBW
          go_wp2_with fail
          go_roundw
          case rel => exact ⟨j + 1, by omega, by go_num, HB8.out.alloc HB8.out.size _⟩
          case measure => simp [intOf]; omega
        · have k0 := HRw.out.cell 0
          simp at k0
          go_wp2_with fail
          go_ret
          exact ⟨by first | rfl | simp, HB.out.trans (HBW.out.mono HB.out.size)⟩
    · have f0 : ((findRun ps m).1 != 0) = true := by simpa using hf0
      have f7 : ((findRun ps m).1 != 7) = true := by simpa using hf7
      generalize (findRun ps m).1 = g at *
      clear hf0 hf7
      go_wp2_with fail
      go_ret
      exact ⟨rfl, BU⟩
  · have hc' : ((blockStart qs t).1 == 0) = false := by simpa using hc
    clear hc
    go_wp2_with fail
    go_quiet (fail)
    have kb : Below V.heap.size V (V.drewN nq) := Turn.none_ ((Turn.refl _ V).drewN nq)
    obtain ⟨U, hU⟩ : ∃ U, U = V.drewN nq := ⟨_, rfl⟩
    rw [← hU] at kb ⊢
    clear hU k2 k3 hc' T2 R2
    have T1 := T1.below kb
    have R1 := R1.below kb
    have BU := BV.trans (kb.mono BV.size)
    clear k0 k1 kb BV l1 l2
    have k0 := R1.cell 0
    have k1 := R1.cell 1
    simp at k0 k1
    have l1 := R1.lt
    have hl1 := T1.1
    rcases findRun_cases ps m with ⟨i0, q, rfl, hq1, hq4, hf, hlen, hfree, hv1, hfirst⟩ | ⟨q, rfl, hq1, hq4, hf, hv1, hnever⟩ | ⟨hf0, hf7⟩
    · rw [hf] at R1 k0 k1
      simp only at R1 k0 k1
      have HFR := Lib.hid hfree
      have HFI := Lib.hid hfirst
      have HV1 := Lib.hid hv1
      have HT := Lib.hid T1
      have HR := Lib.hid R1
      have HB := Lib.hid BU
      clear hf hfree hfirst hv1 T1 R1 BU
      go_wp2_with fail
      go_loopw [11] (fun t wr => ∃ j : Nat, j ≤ i0 ∧ t = .int .i64 j ∧ Below U.heap.size U wr) (fun t _ => i0 + 1 - (intOf t).toNat)
      case atStart => exact ⟨0, by omega, rfl, Below.refl _ _⟩
      case round =>
        obtain ⟨j, hj, rfl, hbw⟩ := hrel
        have HTK := Lib.hid (takeRun_at (ps := ps) (i := j) (k := q) HV1.out hq1 hq4 (by omega))
        have hle : (j : Int) + (q : Int) ≤ (n1 : Int) := by omega
        have HBW := Lib.hid hbw
        have HRw := Lib.hid (HR.out.below hbw)
        have l1w := HRw.out.lt
        clear k0 k1 l1 hbw
        go_wp2_with fail
        refine (takeRun_calls (HT.out.below HBW.out) HS1.out hlc1 hcm1' (by omega)).mono ?_
        rw [HTK.out]
        rintro e w8 ⟨v8, n8, rfl, hO8, b8⟩
        obtain ⟨va8, vc8, rfl, _, _, _⟩ := hO8.shape
        have HR8 := Lib.hid (HRw.out.below b8)
        have k0 := HR8.out.cell 0
        have k1 := HR8.out.cell 1
        simp at k0 k1
        have l18 := HR8.out.lt
        have HB8 := Lib.hid (HBW.out.trans (b8.mono HBW.out.size))
        clear hO8 b8 HRw HBW
        by_cases e : j = i0
        · subst e
          rw [if_pos HFR.out]
          have hq := run_eqlPair
          have heg : Try.prog.eqGuardType Try.prog.depth 38 = false := by kernel_rfl
          go_wp2_with fail
          go_ret
          exact ⟨by first | rfl | simp, HB.out.trans ((HB8.out.alloc HB8.out.size _).mono HB.out.size)⟩
        · rw [if_neg (by rw [HFI.out j (by omega)]; simp)]
          go_wp2_with fail
          go_roundw
          case rel => exact ⟨j + 1, by omega, by go_num, HB8.out.alloc HB8.out.size _⟩
          case measure => simp [intOf]; omega
    · rw [hf] at R1 k0 k1
      simp only at R1 k0 k1
      have HFI := Lib.hid hnever
      have HV1 := Lib.hid hv1
      have HT := Lib.hid T1
      have HR := Lib.hid R1
      have HB := Lib.hid BU
      clear hf hnever hv1 T1 R1 BU
      go_wp2_with fail
      go_loopw [11] (fun t wr => ∃ j : Nat, j ≤ n1 + 1 ∧ t = .int .i64 j ∧ Below U.heap.size U wr) (fun t _ => n1 + 2 - (intOf t).toNat)
      case atStart => exact ⟨0, by omega, rfl, Below.refl _ _⟩
      case round =>
        obtain ⟨j, hj, rfl, hbw⟩ := hrel
        have HBW := Lib.hid hbw
        have HRw := Lib.hid (HR.out.below hbw)
        have l1w := HRw.out.lt
        clear k0 k1 l1 hbw
        by_cases hle : (j : Int) + (q : Int) ≤ (n1 : Int)
        · have HTK := Lib.hid (takeRun_at (ps := ps) (i := j) (k := q) HV1.out hq1 hq4 (by omega))
          go_wp2_with fail
          refine (takeRun_calls (HT.out.below HBW.out) HS1.out hlc1 hcm1' (by omega)).mono ?_
          rw [HTK.out, if_neg (by rw [HFI.out j (by omega)]; simp)]
          rintro e w8 ⟨v8, n8, rfl, hO8, b8⟩
          obtain ⟨va8, vc8, rfl, _, _, _⟩ := hO8.shape
          have HB8 := Lib.hid (HBW.out.trans (b8.mono HBW.out.size))
          clear hO8 b8 HRw HBW
          go_wp2_with fail
          go_roundw
          case rel => exact ⟨j + 1, by omega, by go_num, HB8.out.alloc HB8.out.size _⟩
          case measure => simp [intOf]; omega
        · have k0 := HRw.out.cell 0
          simp at k0
          go_wp2_with fail
          go_ret
          exact ⟨by first | rfl | simp, HB.out.trans (HBW.out.mono HB.out.size)⟩
    · have f0 : ((findRun ps m).1 != 0) = true := by simpa using hf0
      have f7 : ((findRun ps m).1 != 7) = true := by simpa using hf7
      generalize (findRun ps m).1 = g at *
      clear hf0 hf7
      go_wp2_with fail
      go_ret
      exact ⟨rfl, BU⟩
end Go.Proofs.Ytkikjoalhohlgaa
