/- Joined texts (Impl6, Impl5, Impl5b, Spec5, Spec5b, Impl5c, Impl5d, Spec5c, Impl5e, Impl5f, Impl5g, Spec5d, Spec5e, Spec5f, App5, Spec5g, Src, Src2, Draw4, Spec5h, Spec5i, Spec5j): steps of the proofs of chapter 5's laws. -/
import Derived.Deep.RegionHeld3
import Derived.IntWalk
import Derived.Deep.DeepCutAuto
import Derived.Deep.CutRange
import Derived.BigRegion
import Derived.Deep.RegionLaw
import Derived.Test.YthpamclljdcjpaaM1
import Derived.Test.YthpamclljdcjpaaM2
import Derived.Test.YthpamclljdcjpaaM3
import Derived.Test.YthpamclljdcjpaaM4
set_option linter.unusedVariables false
set_option linter.unusedSimpArgs false
/- Chapter 6 of the program: what is wrong with an op. -/
namespace Go.Proofs.Ythpamclljdcjpaa
open Go.RowKit

/-- What an op of a kind has. -/
def nAt (k : Int) : Bool := decide (k = 3) || decide (k = 4) || decide (k = 5) || decide (k = 6) || decide (k = 7)
def nNn (k : Int) : Bool := decide (k = 1) || decide (k = 2) || decide (k = 4)
def nVal (k : Int) : Bool := decide (k = 6)
theorem opFault_eq (o : Opn) : opFault o = if within 1 8 [o.kind] = false ∨ (nAt o.kind = false ∧ o.at_ ≠ 0) ∨ (nNn o.kind = false ∧ o.n ≠ 0) ∨ (nVal o.kind = false ∧ o.value ≠ 0) then 1 else if (nNn o.kind = true ∧ within 1 64 [o.n] = false) ∨ within (-1000000000) 1000000000 [o.value] = false then 3 else 0 := by
  obtain ⟨k, a, n, v⟩ := o
  have hkinds : k = 1 ∨ k = 2 ∨ k = 3 ∨ k = 4 ∨ k = 5 ∨ k = 6 ∨ k = 7 ∨ k = 8 ∨ (k ≠ 1 ∧ k ≠ 2 ∧ k ≠ 3 ∧ k ≠ 4 ∧ k ≠ 5 ∧ k ≠ 6 ∧ k ≠ 7 ∧ k ≠ 8) := by omega
  rcases hkinds with rfl | rfl | rfl | rfl | rfl | rfl | rfl | rfl | ⟨k1, k2, k3, k4, k5, k6, k7, k8⟩
  iterate 8
    · dsimp only
      rw [within_yes1 (by omega) (by omega)]
      by_cases h1 : a = 0 <;> by_cases h2 : n = 0 <;> by_cases h3 : v = 0 <;> simp [opFault, Opn.form, Opn.needs, Opn.sized, nAt, nNn, nVal, h1, h2, h3]
  · dsimp only
    rw [within_no1 (by omega)]
    simp [opFault, Opn.form, k1, k2, k3, k4, k5, k6, k7, k8]

set_option maxRecDepth 100000 in
set_option maxHeartbeats 2000000 in
theorem needsOf_calls {k : Int} {w : World} :
    Calls Try.prog 16 #[.int .i64 k] w fun e w' => e = .returned (.agg #[.bool (nAt k), .bool (nNn k), .bool (nVal k)]) ∧ Below w.heap.size w w' := by
  have hres := heap_alloc_new w (.cells #[.bool false, .bool false, .bool false] 39)
  have HB : Hid (Below w.heap.size w (w.alloc (.cells #[.bool false, .bool false, .bool false] 39))) := (Below.refl _ _).alloc (Nat.le_refl _) _
  have hkinds : k = 1 ∨ k = 2 ∨ k = 3 ∨ k = 4 ∨ k = 5 ∨ k = 6 ∨ k = 7 ∨ (k ≠ 1 ∧ k ≠ 2 ∧ k ≠ 3 ∧ k ≠ 4 ∧ k ≠ 5 ∧ k ≠ 6 ∧ k ≠ 7) := by omega
  rcases hkinds with rfl | rfl | rfl | rfl | rfl | rfl | rfl | ⟨k1, k2, k3, k4, k5, k6, k7⟩
  iterate 7
    · go_enter Try.func16, Try.ntmps16
      go_wp2_with (refine wpList_store_row rfl 39 _ _ rfl w.heap.size _ rfl rfl _ _ hres (by kernel_rfl) (by rfl) (by simp [Value.oneCell']) ?_)
      refine bodyPost_ret (results_cell_row rfl _ _ w.heap.size _ _ _ _ rfl (setRow_heap _ _ _ _ _ _ hres) Try.underlying39 rfl (by kernel_rfl)) rfl ?_
      exact ⟨rfl, below_setRow HB.out (Nat.le_refl _) _⟩
  · have HN := Lib.hid (show nAt k = false ∧ nNn k = false ∧ nVal k = false by simp [nAt, nNn, nVal, k1, k2, k3, k4, k5, k6, k7])
    have j1 : (k == 1) = false := by simpa using k1
    have j2 : (k == 2) = false := by simpa using k2
    have j3 : (k == 3) = false := by simpa using k3
    have j4 : (k == 4) = false := by simpa using k4
    have j5 : (k == 5) = false := by simpa using k5
    have j6 : (k == 6) = false := by simpa using k6
    have j7 : (k == 7) = false := by simpa using k7
    clear k1 k2 k3 k4 k5 k6 k7
    go_enter Try.func16, Try.ntmps16
    go_wp2_with (refine wpList_store_row rfl 39 _ _ rfl w.heap.size _ rfl rfl _ _ hres (by kernel_rfl) (by rfl) (by simp [Value.oneCell']) ?_)
    refine bodyPost_ret (results_cell_row rfl _ _ w.heap.size _ _ _ _ rfl (setRow_heap _ _ _ _ _ _ hres) Try.underlying39 rfl (by kernel_rfl)) rfl ?_
    rw [HN.out.1, HN.out.2.1, HN.out.2.2]
    exact ⟨rfl, below_setRow HB.out (Nat.le_refl _) _⟩

theorem cell3 {w : World} {o1 o2 o3 : Obj} {p : Addr} {u : Value} (h : w.cell? p = some u) : (((w.alloc o1).alloc o2).alloc o3).cell? p = some u := by
  have hl := World.block_lt_of_cell? _ _ h
  rw [World.cell?_alloc_lt _ _ _ (by simp; omega), World.cell?_alloc_lt _ _ _ (by simp; omega), World.cell?_alloc_lt _ _ _ hl]; exact h

set_option maxRecDepth 100000 in
set_option maxHeartbeats 8000000 in
theorem opFault_calls {o : Opn} {w : World} :
    Calls Try.prog 7 #[.agg #[.int .i64 o.kind, .int .i64 o.at_, .int .i64 o.n, .int .i64 o.value]] w fun e w' => e = .returned (.int .i64 (opFault o)) ∧ Below w.heap.size w w' := by
  have HF := Lib.hid (opFault_eq o)
  obtain ⟨k, a, n, v⟩ := o
  have HR : Hid (Row (w.alloc (.cells #[.int .i64 k, .int .i64 a, .int .i64 n, .int .i64 v] 25)) w.heap.size 25 #[.int .i64 k, .int .i64 a, .int .i64 n, .int .i64 v]) := heap_alloc_new _ _
  have HB : Hid (Below w.heap.size w (w.alloc (.cells #[.int .i64 k, .int .i64 a, .int .i64 n, .int .i64 v] 25))) := (Below.refl _ _).alloc (Nat.le_refl _) _
  rcases hk : within 1 8 [k] with _ | _
  · have HK := Lib.hid hk
    obtain ⟨x, hx⟩ : ∃ x, x = nAt k := ⟨_, rfl⟩
    obtain ⟨y, hy⟩ : ∃ y, y = nNn k := ⟨_, rfl⟩
    obtain ⟨z, hz'⟩ : ∃ z, z = nVal k := ⟨_, rfl⟩
    clear hk
    go_enter Try.func7, Try.ntmps7
    go_wp2_with fail
    refine needsOf_calls.mono ?_
    rw [← hx, ← hy, ← hz']
    rintro e w1 ⟨rfl, hb1⟩
    have HB1 := Lib.hid (show Below w.heap.size w w1 from HB.out.trans (hb1.mono (by simp)))
    have R1 := HR.out.below hb1
    have q0 := R1.cell 0
    have q1 := R1.cell 1
    have q2 := R1.cell 2
    have q3 := R1.cell 3
    have ql := R1.lt
    simp at q0 q1 q2 q3
    clear hb1 R1
    go_wp2_with fail
    refine (allWithin_calls (Ints.one (by simp)) (by omega)).mono ?_
    rw [HK.out]
    rintro e w2 ⟨rfl, rfl⟩
    go_wp2_with fail
    go_ret
    rw [HF.out]
    refine ⟨by first | fail | simp [HK.out], ?_⟩
    repeat' first | exact HB1.out | (refine Below.alloc ?_ ?_ _) | (have := HB1.out.size; first | omega | (simp; omega))
  · have HK := Lib.hid hk
    clear hk
    rcases h0 : nAt k with _ | _
    · have H0 := Lib.hid h0
      clear h0
      by_cases z0 : a = 0
      · have j0 : (a == 0) = true := by simp [z0]
        have Z0 := Lib.hid z0
        clear z0
        rcases h1 : nNn k with _ | _
        · have H1 := Lib.hid h1
          clear h1
          by_cases z1 : n = 0
          · have j1 : (n == 0) = true := by simp [z1]
            have Z1 := Lib.hid z1
            clear z1
            rcases h2 : nVal k with _ | _
            · have H2 := Lib.hid h2
              clear h2
              by_cases z2 : v = 0
              · have j2 : (v == 0) = true := by simp [z2]
                have Z2 := Lib.hid z2
                clear z2
                rcases hv : within (-1000000000) 1000000000 [v] with _ | _
                · have HV := Lib.hid hv
                  clear hv
                  go_enter Try.func7, Try.ntmps7
                  go_wp2_with fail
                  refine needsOf_calls.mono ?_
                  rw [H0.out, H1.out, H2.out]
                  rintro e w1 ⟨rfl, hb1⟩
                  have HB1 := Lib.hid (show Below w.heap.size w w1 from HB.out.trans (hb1.mono (by simp)))
                  have R1 := HR.out.below hb1
                  have q0 := R1.cell 0
                  have q1 := R1.cell 1
                  have q2 := R1.cell 2
                  have q3 := R1.cell 3
                  have ql := R1.lt
                  simp at q0 q1 q2 q3
                  clear hb1 R1
                  go_wp2_with fail
                  refine (allWithin_calls (Ints.one (by simp)) (by omega)).mono ?_
                  rw [HK.out]
                  rintro e w2 ⟨rfl, rfl⟩
                  go_wp2_with fail
                  refine (allWithin_calls (Ints.one (by simp)) (by omega)).mono ?_
                  rw [HV.out]
                  rintro e w2 ⟨rfl, rfl⟩
                  go_wp2_with fail
                  go_ret
                  rw [HF.out]
                  refine ⟨by first | (have hv := HV.out; rw [Z2.out] at hv; simp [HK.out, H0.out, Z0.out, H1.out, Z1.out, H2.out, Z2.out, HV.out, hv]) | simp [HK.out, H0.out, Z0.out, H1.out, Z1.out, H2.out, Z2.out, HV.out], ?_⟩
                  repeat' first | exact HB1.out | (refine Below.alloc ?_ ?_ _) | (have := HB1.out.size; first | omega | (simp; omega))
                · have HV := Lib.hid hv
                  clear hv
                  go_enter Try.func7, Try.ntmps7
                  go_wp2_with fail
                  refine needsOf_calls.mono ?_
                  rw [H0.out, H1.out, H2.out]
                  rintro e w1 ⟨rfl, hb1⟩
                  have HB1 := Lib.hid (show Below w.heap.size w w1 from HB.out.trans (hb1.mono (by simp)))
                  have R1 := HR.out.below hb1
                  have q0 := R1.cell 0
                  have q1 := R1.cell 1
                  have q2 := R1.cell 2
                  have q3 := R1.cell 3
                  have ql := R1.lt
                  simp at q0 q1 q2 q3
                  clear hb1 R1
                  go_wp2_with fail
                  refine (allWithin_calls (Ints.one (by simp)) (by omega)).mono ?_
                  rw [HK.out]
                  rintro e w2 ⟨rfl, rfl⟩
                  go_wp2_with fail
                  refine (allWithin_calls (Ints.one (by simp)) (by omega)).mono ?_
                  rw [HV.out]
                  rintro e w2 ⟨rfl, rfl⟩
                  go_wp2_with fail
                  go_ret
                  rw [HF.out]
                  refine ⟨by first | (have hv := HV.out; rw [Z2.out] at hv; simp [HK.out, H0.out, Z0.out, H1.out, Z1.out, H2.out, Z2.out, HV.out, hv]) | simp [HK.out, H0.out, Z0.out, H1.out, Z1.out, H2.out, Z2.out, HV.out], ?_⟩
                  repeat' first | exact HB1.out | (refine Below.alloc ?_ ?_ _) | (have := HB1.out.size; first | omega | (simp; omega))
              · have j2 : (v == 0) = false := by simp [z2]
                have Z2 := Lib.hid z2
                clear z2
                go_enter Try.func7, Try.ntmps7
                go_wp2_with fail
                refine needsOf_calls.mono ?_
                rw [H0.out, H1.out, H2.out]
                rintro e w1 ⟨rfl, hb1⟩
                have HB1 := Lib.hid (show Below w.heap.size w w1 from HB.out.trans (hb1.mono (by simp)))
                have R1 := HR.out.below hb1
                have q0 := R1.cell 0
                have q1 := R1.cell 1
                have q2 := R1.cell 2
                have q3 := R1.cell 3
                have ql := R1.lt
                simp at q0 q1 q2 q3
                clear hb1 R1
                go_wp2_with fail
                refine (allWithin_calls (Ints.one (by simp)) (by omega)).mono ?_
                rw [HK.out]
                rintro e w2 ⟨rfl, rfl⟩
                go_wp2_with fail
                go_ret
                rw [HF.out]
                refine ⟨by first | fail | simp [HK.out, H0.out, Z0.out, H1.out, Z1.out, H2.out, Z2.out], ?_⟩
                repeat' first | exact HB1.out | (refine Below.alloc ?_ ?_ _) | (have := HB1.out.size; first | omega | (simp; omega))
            · have H2 := Lib.hid h2
              clear h2
              rcases hv : within (-1000000000) 1000000000 [v] with _ | _
              · have HV := Lib.hid hv
                clear hv
                go_enter Try.func7, Try.ntmps7
                go_wp2_with fail
                refine needsOf_calls.mono ?_
                rw [H0.out, H1.out, H2.out]
                rintro e w1 ⟨rfl, hb1⟩
                have HB1 := Lib.hid (show Below w.heap.size w w1 from HB.out.trans (hb1.mono (by simp)))
                have R1 := HR.out.below hb1
                have q0 := R1.cell 0
                have q1 := R1.cell 1
                have q2 := R1.cell 2
                have q3 := R1.cell 3
                have ql := R1.lt
                simp at q0 q1 q2 q3
                clear hb1 R1
                go_wp2_with fail
                refine (allWithin_calls (Ints.one (by simp)) (by omega)).mono ?_
                rw [HK.out]
                rintro e w2 ⟨rfl, rfl⟩
                go_wp2_with fail
                refine (allWithin_calls (Ints.one (by simp)) (by omega)).mono ?_
                rw [HV.out]
                rintro e w2 ⟨rfl, rfl⟩
                go_wp2_with fail
                go_ret
                rw [HF.out]
                refine ⟨by first | fail | simp [HK.out, H0.out, Z0.out, H1.out, Z1.out, H2.out, HV.out], ?_⟩
                repeat' first | exact HB1.out | (refine Below.alloc ?_ ?_ _) | (have := HB1.out.size; first | omega | (simp; omega))
              · have HV := Lib.hid hv
                clear hv
                go_enter Try.func7, Try.ntmps7
                go_wp2_with fail
                refine needsOf_calls.mono ?_
                rw [H0.out, H1.out, H2.out]
                rintro e w1 ⟨rfl, hb1⟩
                have HB1 := Lib.hid (show Below w.heap.size w w1 from HB.out.trans (hb1.mono (by simp)))
                have R1 := HR.out.below hb1
                have q0 := R1.cell 0
                have q1 := R1.cell 1
                have q2 := R1.cell 2
                have q3 := R1.cell 3
                have ql := R1.lt
                simp at q0 q1 q2 q3
                clear hb1 R1
                go_wp2_with fail
                refine (allWithin_calls (Ints.one (by simp)) (by omega)).mono ?_
                rw [HK.out]
                rintro e w2 ⟨rfl, rfl⟩
                go_wp2_with fail
                refine (allWithin_calls (Ints.one (by simp)) (by omega)).mono ?_
                rw [HV.out]
                rintro e w2 ⟨rfl, rfl⟩
                go_wp2_with fail
                go_ret
                rw [HF.out]
                refine ⟨by first | fail | simp [HK.out, H0.out, Z0.out, H1.out, Z1.out, H2.out, HV.out], ?_⟩
                repeat' first | exact HB1.out | (refine Below.alloc ?_ ?_ _) | (have := HB1.out.size; first | omega | (simp; omega))
          · have j1 : (n == 0) = false := by simp [z1]
            have Z1 := Lib.hid z1
            clear z1
            obtain ⟨x2, hx2⟩ : ∃ x, x = nVal k := ⟨_, rfl⟩
            go_enter Try.func7, Try.ntmps7
            go_wp2_with fail
            refine needsOf_calls.mono ?_
            rw [H0.out, H1.out, ← hx2]
            rintro e w1 ⟨rfl, hb1⟩
            have HB1 := Lib.hid (show Below w.heap.size w w1 from HB.out.trans (hb1.mono (by simp)))
            have R1 := HR.out.below hb1
            have q0 := R1.cell 0
            have q1 := R1.cell 1
            have q2 := R1.cell 2
            have q3 := R1.cell 3
            have ql := R1.lt
            simp at q0 q1 q2 q3
            clear hb1 R1
            go_wp2_with fail
            refine (allWithin_calls (Ints.one (by simp)) (by omega)).mono ?_
            rw [HK.out]
            rintro e w2 ⟨rfl, rfl⟩
            go_wp2_with fail
            go_ret
            rw [HF.out]
            refine ⟨by first | fail | simp [HK.out, H0.out, Z0.out, H1.out, Z1.out], ?_⟩
            repeat' first | exact HB1.out | (refine Below.alloc ?_ ?_ _) | (have := HB1.out.size; first | omega | (simp; omega))
        · have H1 := Lib.hid h1
          clear h1
          rcases h2 : nVal k with _ | _
          · have H2 := Lib.hid h2
            clear h2
            by_cases z2 : v = 0
            · have j2 : (v == 0) = true := by simp [z2]
              have Z2 := Lib.hid z2
              clear z2
              rcases hv : within (-1000000000) 1000000000 [v] with _ | _
              · have HV := Lib.hid hv
                clear hv
                rcases hn : within 1 64 [n] with _ | _
                · have HN := Lib.hid hn
                  clear hn
                  go_enter Try.func7, Try.ntmps7
                  go_wp2_with fail
                  refine needsOf_calls.mono ?_
                  rw [H0.out, H1.out, H2.out]
                  rintro e w1 ⟨rfl, hb1⟩
                  have HB1 := Lib.hid (show Below w.heap.size w w1 from HB.out.trans (hb1.mono (by simp)))
                  have R1 := HR.out.below hb1
                  have q0 := R1.cell 0
                  have q1 := R1.cell 1
                  have q2 := R1.cell 2
                  have q3 := R1.cell 3
                  have ql := R1.lt
                  simp at q0 q1 q2 q3
                  clear hb1 R1
                  go_wp2_with fail
                  refine (allWithin_calls (Ints.one (by simp)) (by omega)).mono ?_
                  rw [HK.out]
                  rintro e w2 ⟨rfl, rfl⟩
                  go_wp2_with fail
                  refine (allWithin_calls (Ints.one (by simp)) (by omega)).mono ?_
                  rw [HN.out]
                  rintro e w2 ⟨rfl, rfl⟩
                  go_wp2_with fail
                  go_ret
                  rw [HF.out]
                  refine ⟨by first | fail | simp [HK.out, H0.out, Z0.out, H1.out, H2.out, Z2.out, HN.out], ?_⟩
                  repeat' first | exact HB1.out | (refine Below.alloc ?_ ?_ _) | (have := HB1.out.size; first | omega | (simp; omega))
                · have HN := Lib.hid hn
                  clear hn
                  go_enter Try.func7, Try.ntmps7
                  go_wp2_with fail
                  refine needsOf_calls.mono ?_
                  rw [H0.out, H1.out, H2.out]
                  rintro e w1 ⟨rfl, hb1⟩
                  have HB1 := Lib.hid (show Below w.heap.size w w1 from HB.out.trans (hb1.mono (by simp)))
                  have R1 := HR.out.below hb1
                  have q0 := R1.cell 0
                  have q1 := R1.cell 1
                  have q2 := R1.cell 2
                  have q3 := R1.cell 3
                  have ql := R1.lt
                  simp at q0 q1 q2 q3
                  clear hb1 R1
                  go_wp2_with fail
                  refine (allWithin_calls (Ints.one (by simp)) (by omega)).mono ?_
                  rw [HK.out]
                  rintro e w2 ⟨rfl, rfl⟩
                  go_wp2_with fail
                  refine (allWithin_calls (Ints.one (by simp)) (by omega)).mono ?_
                  rw [HN.out]
                  rintro e w2 ⟨rfl, rfl⟩
                  have q3' := fun o1 o2 o3 => cell3 (o1 := o1) (o2 := o2) (o3 := o3) q3
                  go_wp2_with fail
                  refine (allWithin_calls (Ints.one (by simp)) (by omega)).mono ?_
                  rw [HV.out]
                  rintro e w2 ⟨rfl, rfl⟩
                  go_wp2_with fail
                  go_ret
                  rw [HF.out]
                  refine ⟨by first | (have hv := HV.out; rw [Z2.out] at hv; simp [HK.out, H0.out, Z0.out, H1.out, H2.out, Z2.out, HN.out, HV.out, hv]) | simp [HK.out, H0.out, Z0.out, H1.out, H2.out, Z2.out, HN.out, HV.out], ?_⟩
                  repeat' first | exact HB1.out | (refine Below.alloc ?_ ?_ _) | (have := HB1.out.size; first | omega | (simp; omega))
              · have HV := Lib.hid hv
                clear hv
                rcases hn : within 1 64 [n] with _ | _
                · have HN := Lib.hid hn
                  clear hn
                  go_enter Try.func7, Try.ntmps7
                  go_wp2_with fail
                  refine needsOf_calls.mono ?_
                  rw [H0.out, H1.out, H2.out]
                  rintro e w1 ⟨rfl, hb1⟩
                  have HB1 := Lib.hid (show Below w.heap.size w w1 from HB.out.trans (hb1.mono (by simp)))
                  have R1 := HR.out.below hb1
                  have q0 := R1.cell 0
                  have q1 := R1.cell 1
                  have q2 := R1.cell 2
                  have q3 := R1.cell 3
                  have ql := R1.lt
                  simp at q0 q1 q2 q3
                  clear hb1 R1
                  go_wp2_with fail
                  refine (allWithin_calls (Ints.one (by simp)) (by omega)).mono ?_
                  rw [HK.out]
                  rintro e w2 ⟨rfl, rfl⟩
                  go_wp2_with fail
                  refine (allWithin_calls (Ints.one (by simp)) (by omega)).mono ?_
                  rw [HN.out]
                  rintro e w2 ⟨rfl, rfl⟩
                  go_wp2_with fail
                  go_ret
                  rw [HF.out]
                  refine ⟨by first | fail | simp [HK.out, H0.out, Z0.out, H1.out, H2.out, Z2.out, HN.out], ?_⟩
                  repeat' first | exact HB1.out | (refine Below.alloc ?_ ?_ _) | (have := HB1.out.size; first | omega | (simp; omega))
                · have HN := Lib.hid hn
                  clear hn
                  go_enter Try.func7, Try.ntmps7
                  go_wp2_with fail
                  refine needsOf_calls.mono ?_
                  rw [H0.out, H1.out, H2.out]
                  rintro e w1 ⟨rfl, hb1⟩
                  have HB1 := Lib.hid (show Below w.heap.size w w1 from HB.out.trans (hb1.mono (by simp)))
                  have R1 := HR.out.below hb1
                  have q0 := R1.cell 0
                  have q1 := R1.cell 1
                  have q2 := R1.cell 2
                  have q3 := R1.cell 3
                  have ql := R1.lt
                  simp at q0 q1 q2 q3
                  clear hb1 R1
                  go_wp2_with fail
                  refine (allWithin_calls (Ints.one (by simp)) (by omega)).mono ?_
                  rw [HK.out]
                  rintro e w2 ⟨rfl, rfl⟩
                  go_wp2_with fail
                  refine (allWithin_calls (Ints.one (by simp)) (by omega)).mono ?_
                  rw [HN.out]
                  rintro e w2 ⟨rfl, rfl⟩
                  have q3' := fun o1 o2 o3 => cell3 (o1 := o1) (o2 := o2) (o3 := o3) q3
                  go_wp2_with fail
                  refine (allWithin_calls (Ints.one (by simp)) (by omega)).mono ?_
                  rw [HV.out]
                  rintro e w2 ⟨rfl, rfl⟩
                  go_wp2_with fail
                  go_ret
                  rw [HF.out]
                  refine ⟨by first | (have hv := HV.out; rw [Z2.out] at hv; simp [HK.out, H0.out, Z0.out, H1.out, H2.out, Z2.out, HN.out, HV.out, hv]) | simp [HK.out, H0.out, Z0.out, H1.out, H2.out, Z2.out, HN.out, HV.out], ?_⟩
                  repeat' first | exact HB1.out | (refine Below.alloc ?_ ?_ _) | (have := HB1.out.size; first | omega | (simp; omega))
            · have j2 : (v == 0) = false := by simp [z2]
              have Z2 := Lib.hid z2
              clear z2
              go_enter Try.func7, Try.ntmps7
              go_wp2_with fail
              refine needsOf_calls.mono ?_
              rw [H0.out, H1.out, H2.out]
              rintro e w1 ⟨rfl, hb1⟩
              have HB1 := Lib.hid (show Below w.heap.size w w1 from HB.out.trans (hb1.mono (by simp)))
              have R1 := HR.out.below hb1
              have q0 := R1.cell 0
              have q1 := R1.cell 1
              have q2 := R1.cell 2
              have q3 := R1.cell 3
              have ql := R1.lt
              simp at q0 q1 q2 q3
              clear hb1 R1
              go_wp2_with fail
              refine (allWithin_calls (Ints.one (by simp)) (by omega)).mono ?_
              rw [HK.out]
              rintro e w2 ⟨rfl, rfl⟩
              go_wp2_with fail
              go_ret
              rw [HF.out]
              refine ⟨by first | fail | simp [HK.out, H0.out, Z0.out, H1.out, H2.out, Z2.out], ?_⟩
              repeat' first | exact HB1.out | (refine Below.alloc ?_ ?_ _) | (have := HB1.out.size; first | omega | (simp; omega))
          · have H2 := Lib.hid h2
            clear h2
            rcases hv : within (-1000000000) 1000000000 [v] with _ | _
            · have HV := Lib.hid hv
              clear hv
              rcases hn : within 1 64 [n] with _ | _
              · have HN := Lib.hid hn
                clear hn
                go_enter Try.func7, Try.ntmps7
                go_wp2_with fail
                refine needsOf_calls.mono ?_
                rw [H0.out, H1.out, H2.out]
                rintro e w1 ⟨rfl, hb1⟩
                have HB1 := Lib.hid (show Below w.heap.size w w1 from HB.out.trans (hb1.mono (by simp)))
                have R1 := HR.out.below hb1
                have q0 := R1.cell 0
                have q1 := R1.cell 1
                have q2 := R1.cell 2
                have q3 := R1.cell 3
                have ql := R1.lt
                simp at q0 q1 q2 q3
                clear hb1 R1
                go_wp2_with fail
                refine (allWithin_calls (Ints.one (by simp)) (by omega)).mono ?_
                rw [HK.out]
                rintro e w2 ⟨rfl, rfl⟩
                go_wp2_with fail
                refine (allWithin_calls (Ints.one (by simp)) (by omega)).mono ?_
                rw [HN.out]
                rintro e w2 ⟨rfl, rfl⟩
                go_wp2_with fail
                go_ret
                rw [HF.out]
                refine ⟨by first | fail | simp [HK.out, H0.out, Z0.out, H1.out, H2.out, HN.out], ?_⟩
                repeat' first | exact HB1.out | (refine Below.alloc ?_ ?_ _) | (have := HB1.out.size; first | omega | (simp; omega))
              · have HN := Lib.hid hn
                clear hn
                go_enter Try.func7, Try.ntmps7
                go_wp2_with fail
                refine needsOf_calls.mono ?_
                rw [H0.out, H1.out, H2.out]
                rintro e w1 ⟨rfl, hb1⟩
                have HB1 := Lib.hid (show Below w.heap.size w w1 from HB.out.trans (hb1.mono (by simp)))
                have R1 := HR.out.below hb1
                have q0 := R1.cell 0
                have q1 := R1.cell 1
                have q2 := R1.cell 2
                have q3 := R1.cell 3
                have ql := R1.lt
                simp at q0 q1 q2 q3
                clear hb1 R1
                go_wp2_with fail
                refine (allWithin_calls (Ints.one (by simp)) (by omega)).mono ?_
                rw [HK.out]
                rintro e w2 ⟨rfl, rfl⟩
                go_wp2_with fail
                refine (allWithin_calls (Ints.one (by simp)) (by omega)).mono ?_
                rw [HN.out]
                rintro e w2 ⟨rfl, rfl⟩
                have q3' := fun o1 o2 o3 => cell3 (o1 := o1) (o2 := o2) (o3 := o3) q3
                go_wp2_with fail
                refine (allWithin_calls (Ints.one (by simp)) (by omega)).mono ?_
                rw [HV.out]
                rintro e w2 ⟨rfl, rfl⟩
                go_wp2_with fail
                go_ret
                rw [HF.out]
                refine ⟨by first | fail | simp [HK.out, H0.out, Z0.out, H1.out, H2.out, HN.out, HV.out], ?_⟩
                repeat' first | exact HB1.out | (refine Below.alloc ?_ ?_ _) | (have := HB1.out.size; first | omega | (simp; omega))
            · have HV := Lib.hid hv
              clear hv
              rcases hn : within 1 64 [n] with _ | _
              · have HN := Lib.hid hn
                clear hn
                go_enter Try.func7, Try.ntmps7
                go_wp2_with fail
                refine needsOf_calls.mono ?_
                rw [H0.out, H1.out, H2.out]
                rintro e w1 ⟨rfl, hb1⟩
                have HB1 := Lib.hid (show Below w.heap.size w w1 from HB.out.trans (hb1.mono (by simp)))
                have R1 := HR.out.below hb1
                have q0 := R1.cell 0
                have q1 := R1.cell 1
                have q2 := R1.cell 2
                have q3 := R1.cell 3
                have ql := R1.lt
                simp at q0 q1 q2 q3
                clear hb1 R1
                go_wp2_with fail
                refine (allWithin_calls (Ints.one (by simp)) (by omega)).mono ?_
                rw [HK.out]
                rintro e w2 ⟨rfl, rfl⟩
                go_wp2_with fail
                refine (allWithin_calls (Ints.one (by simp)) (by omega)).mono ?_
                rw [HN.out]
                rintro e w2 ⟨rfl, rfl⟩
                go_wp2_with fail
                go_ret
                rw [HF.out]
                refine ⟨by first | fail | simp [HK.out, H0.out, Z0.out, H1.out, H2.out, HN.out], ?_⟩
                repeat' first | exact HB1.out | (refine Below.alloc ?_ ?_ _) | (have := HB1.out.size; first | omega | (simp; omega))
              · have HN := Lib.hid hn
                clear hn
                go_enter Try.func7, Try.ntmps7
                go_wp2_with fail
                refine needsOf_calls.mono ?_
                rw [H0.out, H1.out, H2.out]
                rintro e w1 ⟨rfl, hb1⟩
                have HB1 := Lib.hid (show Below w.heap.size w w1 from HB.out.trans (hb1.mono (by simp)))
                have R1 := HR.out.below hb1
                have q0 := R1.cell 0
                have q1 := R1.cell 1
                have q2 := R1.cell 2
                have q3 := R1.cell 3
                have ql := R1.lt
                simp at q0 q1 q2 q3
                clear hb1 R1
                go_wp2_with fail
                refine (allWithin_calls (Ints.one (by simp)) (by omega)).mono ?_
                rw [HK.out]
                rintro e w2 ⟨rfl, rfl⟩
                go_wp2_with fail
                refine (allWithin_calls (Ints.one (by simp)) (by omega)).mono ?_
                rw [HN.out]
                rintro e w2 ⟨rfl, rfl⟩
                have q3' := fun o1 o2 o3 => cell3 (o1 := o1) (o2 := o2) (o3 := o3) q3
                go_wp2_with fail
                refine (allWithin_calls (Ints.one (by simp)) (by omega)).mono ?_
                rw [HV.out]
                rintro e w2 ⟨rfl, rfl⟩
                go_wp2_with fail
                go_ret
                rw [HF.out]
                refine ⟨by first | fail | simp [HK.out, H0.out, Z0.out, H1.out, H2.out, HN.out, HV.out], ?_⟩
                repeat' first | exact HB1.out | (refine Below.alloc ?_ ?_ _) | (have := HB1.out.size; first | omega | (simp; omega))
      · have j0 : (a == 0) = false := by simp [z0]
        have Z0 := Lib.hid z0
        clear z0
        obtain ⟨x1, hx1⟩ : ∃ x, x = nNn k := ⟨_, rfl⟩
        obtain ⟨x2, hx2⟩ : ∃ x, x = nVal k := ⟨_, rfl⟩
        go_enter Try.func7, Try.ntmps7
        go_wp2_with fail
        refine needsOf_calls.mono ?_
        rw [H0.out, ← hx1, ← hx2]
        rintro e w1 ⟨rfl, hb1⟩
        have HB1 := Lib.hid (show Below w.heap.size w w1 from HB.out.trans (hb1.mono (by simp)))
        have R1 := HR.out.below hb1
        have q0 := R1.cell 0
        have q1 := R1.cell 1
        have q2 := R1.cell 2
        have q3 := R1.cell 3
        have ql := R1.lt
        simp at q0 q1 q2 q3
        clear hb1 R1
        go_wp2_with fail
        refine (allWithin_calls (Ints.one (by simp)) (by omega)).mono ?_
        rw [HK.out]
        rintro e w2 ⟨rfl, rfl⟩
        go_wp2_with fail
        go_ret
        rw [HF.out]
        refine ⟨by first | fail | simp [HK.out, H0.out, Z0.out], ?_⟩
        repeat' first | exact HB1.out | (refine Below.alloc ?_ ?_ _) | (have := HB1.out.size; first | omega | (simp; omega))
    · have H0 := Lib.hid h0
      clear h0
      rcases h1 : nNn k with _ | _
      · have H1 := Lib.hid h1
        clear h1
        by_cases z1 : n = 0
        · have j1 : (n == 0) = true := by simp [z1]
          have Z1 := Lib.hid z1
          clear z1
          rcases h2 : nVal k with _ | _
          · have H2 := Lib.hid h2
            clear h2
            by_cases z2 : v = 0
            · have j2 : (v == 0) = true := by simp [z2]
              have Z2 := Lib.hid z2
              clear z2
              rcases hv : within (-1000000000) 1000000000 [v] with _ | _
              · have HV := Lib.hid hv
                clear hv
                go_enter Try.func7, Try.ntmps7
                go_wp2_with fail
                refine needsOf_calls.mono ?_
                rw [H0.out, H1.out, H2.out]
                rintro e w1 ⟨rfl, hb1⟩
                have HB1 := Lib.hid (show Below w.heap.size w w1 from HB.out.trans (hb1.mono (by simp)))
                have R1 := HR.out.below hb1
                have q0 := R1.cell 0
                have q1 := R1.cell 1
                have q2 := R1.cell 2
                have q3 := R1.cell 3
                have ql := R1.lt
                simp at q0 q1 q2 q3
                clear hb1 R1
                go_wp2_with fail
                refine (allWithin_calls (Ints.one (by simp)) (by omega)).mono ?_
                rw [HK.out]
                rintro e w2 ⟨rfl, rfl⟩
                go_wp2_with fail
                refine (allWithin_calls (Ints.one (by simp)) (by omega)).mono ?_
                rw [HV.out]
                rintro e w2 ⟨rfl, rfl⟩
                go_wp2_with fail
                go_ret
                rw [HF.out]
                refine ⟨by first | (have hv := HV.out; rw [Z2.out] at hv; simp [HK.out, H0.out, H1.out, Z1.out, H2.out, Z2.out, HV.out, hv]) | simp [HK.out, H0.out, H1.out, Z1.out, H2.out, Z2.out, HV.out], ?_⟩
                repeat' first | exact HB1.out | (refine Below.alloc ?_ ?_ _) | (have := HB1.out.size; first | omega | (simp; omega))
              · have HV := Lib.hid hv
                clear hv
                go_enter Try.func7, Try.ntmps7
                go_wp2_with fail
                refine needsOf_calls.mono ?_
                rw [H0.out, H1.out, H2.out]
                rintro e w1 ⟨rfl, hb1⟩
                have HB1 := Lib.hid (show Below w.heap.size w w1 from HB.out.trans (hb1.mono (by simp)))
                have R1 := HR.out.below hb1
                have q0 := R1.cell 0
                have q1 := R1.cell 1
                have q2 := R1.cell 2
                have q3 := R1.cell 3
                have ql := R1.lt
                simp at q0 q1 q2 q3
                clear hb1 R1
                go_wp2_with fail
                refine (allWithin_calls (Ints.one (by simp)) (by omega)).mono ?_
                rw [HK.out]
                rintro e w2 ⟨rfl, rfl⟩
                go_wp2_with fail
                refine (allWithin_calls (Ints.one (by simp)) (by omega)).mono ?_
                rw [HV.out]
                rintro e w2 ⟨rfl, rfl⟩
                go_wp2_with fail
                go_ret
                rw [HF.out]
                refine ⟨by first | (have hv := HV.out; rw [Z2.out] at hv; simp [HK.out, H0.out, H1.out, Z1.out, H2.out, Z2.out, HV.out, hv]) | simp [HK.out, H0.out, H1.out, Z1.out, H2.out, Z2.out, HV.out], ?_⟩
                repeat' first | exact HB1.out | (refine Below.alloc ?_ ?_ _) | (have := HB1.out.size; first | omega | (simp; omega))
            · have j2 : (v == 0) = false := by simp [z2]
              have Z2 := Lib.hid z2
              clear z2
              go_enter Try.func7, Try.ntmps7
              go_wp2_with fail
              refine needsOf_calls.mono ?_
              rw [H0.out, H1.out, H2.out]
              rintro e w1 ⟨rfl, hb1⟩
              have HB1 := Lib.hid (show Below w.heap.size w w1 from HB.out.trans (hb1.mono (by simp)))
              have R1 := HR.out.below hb1
              have q0 := R1.cell 0
              have q1 := R1.cell 1
              have q2 := R1.cell 2
              have q3 := R1.cell 3
              have ql := R1.lt
              simp at q0 q1 q2 q3
              clear hb1 R1
              go_wp2_with fail
              refine (allWithin_calls (Ints.one (by simp)) (by omega)).mono ?_
              rw [HK.out]
              rintro e w2 ⟨rfl, rfl⟩
              go_wp2_with fail
              go_ret
              rw [HF.out]
              refine ⟨by first | fail | simp [HK.out, H0.out, H1.out, Z1.out, H2.out, Z2.out], ?_⟩
              repeat' first | exact HB1.out | (refine Below.alloc ?_ ?_ _) | (have := HB1.out.size; first | omega | (simp; omega))
          · have H2 := Lib.hid h2
            clear h2
            rcases hv : within (-1000000000) 1000000000 [v] with _ | _
            · have HV := Lib.hid hv
              clear hv
              go_enter Try.func7, Try.ntmps7
              go_wp2_with fail
              refine needsOf_calls.mono ?_
              rw [H0.out, H1.out, H2.out]
              rintro e w1 ⟨rfl, hb1⟩
              have HB1 := Lib.hid (show Below w.heap.size w w1 from HB.out.trans (hb1.mono (by simp)))
              have R1 := HR.out.below hb1
              have q0 := R1.cell 0
              have q1 := R1.cell 1
              have q2 := R1.cell 2
              have q3 := R1.cell 3
              have ql := R1.lt
              simp at q0 q1 q2 q3
              clear hb1 R1
              go_wp2_with fail
              refine (allWithin_calls (Ints.one (by simp)) (by omega)).mono ?_
              rw [HK.out]
              rintro e w2 ⟨rfl, rfl⟩
              go_wp2_with fail
              refine (allWithin_calls (Ints.one (by simp)) (by omega)).mono ?_
              rw [HV.out]
              rintro e w2 ⟨rfl, rfl⟩
              go_wp2_with fail
              go_ret
              rw [HF.out]
              refine ⟨by first | fail | simp [HK.out, H0.out, H1.out, Z1.out, H2.out, HV.out], ?_⟩
              repeat' first | exact HB1.out | (refine Below.alloc ?_ ?_ _) | (have := HB1.out.size; first | omega | (simp; omega))
            · have HV := Lib.hid hv
              clear hv
              go_enter Try.func7, Try.ntmps7
              go_wp2_with fail
              refine needsOf_calls.mono ?_
              rw [H0.out, H1.out, H2.out]
              rintro e w1 ⟨rfl, hb1⟩
              have HB1 := Lib.hid (show Below w.heap.size w w1 from HB.out.trans (hb1.mono (by simp)))
              have R1 := HR.out.below hb1
              have q0 := R1.cell 0
              have q1 := R1.cell 1
              have q2 := R1.cell 2
              have q3 := R1.cell 3
              have ql := R1.lt
              simp at q0 q1 q2 q3
              clear hb1 R1
              go_wp2_with fail
              refine (allWithin_calls (Ints.one (by simp)) (by omega)).mono ?_
              rw [HK.out]
              rintro e w2 ⟨rfl, rfl⟩
              go_wp2_with fail
              refine (allWithin_calls (Ints.one (by simp)) (by omega)).mono ?_
              rw [HV.out]
              rintro e w2 ⟨rfl, rfl⟩
              go_wp2_with fail
              go_ret
              rw [HF.out]
              refine ⟨by first | fail | simp [HK.out, H0.out, H1.out, Z1.out, H2.out, HV.out], ?_⟩
              repeat' first | exact HB1.out | (refine Below.alloc ?_ ?_ _) | (have := HB1.out.size; first | omega | (simp; omega))
        · have j1 : (n == 0) = false := by simp [z1]
          have Z1 := Lib.hid z1
          clear z1
          obtain ⟨x2, hx2⟩ : ∃ x, x = nVal k := ⟨_, rfl⟩
          go_enter Try.func7, Try.ntmps7
          go_wp2_with fail
          refine needsOf_calls.mono ?_
          rw [H0.out, H1.out, ← hx2]
          rintro e w1 ⟨rfl, hb1⟩
          have HB1 := Lib.hid (show Below w.heap.size w w1 from HB.out.trans (hb1.mono (by simp)))
          have R1 := HR.out.below hb1
          have q0 := R1.cell 0
          have q1 := R1.cell 1
          have q2 := R1.cell 2
          have q3 := R1.cell 3
          have ql := R1.lt
          simp at q0 q1 q2 q3
          clear hb1 R1
          go_wp2_with fail
          refine (allWithin_calls (Ints.one (by simp)) (by omega)).mono ?_
          rw [HK.out]
          rintro e w2 ⟨rfl, rfl⟩
          go_wp2_with fail
          go_ret
          rw [HF.out]
          refine ⟨by first | fail | simp [HK.out, H0.out, H1.out, Z1.out], ?_⟩
          repeat' first | exact HB1.out | (refine Below.alloc ?_ ?_ _) | (have := HB1.out.size; first | omega | (simp; omega))
      · have H1 := Lib.hid h1
        clear h1
        rcases h2 : nVal k with _ | _
        · have H2 := Lib.hid h2
          clear h2
          by_cases z2 : v = 0
          · have j2 : (v == 0) = true := by simp [z2]
            have Z2 := Lib.hid z2
            clear z2
            rcases hv : within (-1000000000) 1000000000 [v] with _ | _
            · have HV := Lib.hid hv
              clear hv
              rcases hn : within 1 64 [n] with _ | _
              · have HN := Lib.hid hn
                clear hn
                go_enter Try.func7, Try.ntmps7
                go_wp2_with fail
                refine needsOf_calls.mono ?_
                rw [H0.out, H1.out, H2.out]
                rintro e w1 ⟨rfl, hb1⟩
                have HB1 := Lib.hid (show Below w.heap.size w w1 from HB.out.trans (hb1.mono (by simp)))
                have R1 := HR.out.below hb1
                have q0 := R1.cell 0
                have q1 := R1.cell 1
                have q2 := R1.cell 2
                have q3 := R1.cell 3
                have ql := R1.lt
                simp at q0 q1 q2 q3
                clear hb1 R1
                go_wp2_with fail
                refine (allWithin_calls (Ints.one (by simp)) (by omega)).mono ?_
                rw [HK.out]
                rintro e w2 ⟨rfl, rfl⟩
                go_wp2_with fail
                refine (allWithin_calls (Ints.one (by simp)) (by omega)).mono ?_
                rw [HN.out]
                rintro e w2 ⟨rfl, rfl⟩
                go_wp2_with fail
                go_ret
                rw [HF.out]
                refine ⟨by first | fail | simp [HK.out, H0.out, H1.out, H2.out, Z2.out, HN.out], ?_⟩
                repeat' first | exact HB1.out | (refine Below.alloc ?_ ?_ _) | (have := HB1.out.size; first | omega | (simp; omega))
              · have HN := Lib.hid hn
                clear hn
                go_enter Try.func7, Try.ntmps7
                go_wp2_with fail
                refine needsOf_calls.mono ?_
                rw [H0.out, H1.out, H2.out]
                rintro e w1 ⟨rfl, hb1⟩
                have HB1 := Lib.hid (show Below w.heap.size w w1 from HB.out.trans (hb1.mono (by simp)))
                have R1 := HR.out.below hb1
                have q0 := R1.cell 0
                have q1 := R1.cell 1
                have q2 := R1.cell 2
                have q3 := R1.cell 3
                have ql := R1.lt
                simp at q0 q1 q2 q3
                clear hb1 R1
                go_wp2_with fail
                refine (allWithin_calls (Ints.one (by simp)) (by omega)).mono ?_
                rw [HK.out]
                rintro e w2 ⟨rfl, rfl⟩
                go_wp2_with fail
                refine (allWithin_calls (Ints.one (by simp)) (by omega)).mono ?_
                rw [HN.out]
                rintro e w2 ⟨rfl, rfl⟩
                have q3' := fun o1 o2 o3 => cell3 (o1 := o1) (o2 := o2) (o3 := o3) q3
                go_wp2_with fail
                refine (allWithin_calls (Ints.one (by simp)) (by omega)).mono ?_
                rw [HV.out]
                rintro e w2 ⟨rfl, rfl⟩
                go_wp2_with fail
                go_ret
                rw [HF.out]
                refine ⟨by first | (have hv := HV.out; rw [Z2.out] at hv; simp [HK.out, H0.out, H1.out, H2.out, Z2.out, HN.out, HV.out, hv]) | simp [HK.out, H0.out, H1.out, H2.out, Z2.out, HN.out, HV.out], ?_⟩
                repeat' first | exact HB1.out | (refine Below.alloc ?_ ?_ _) | (have := HB1.out.size; first | omega | (simp; omega))
            · have HV := Lib.hid hv
              clear hv
              rcases hn : within 1 64 [n] with _ | _
              · have HN := Lib.hid hn
                clear hn
                go_enter Try.func7, Try.ntmps7
                go_wp2_with fail
                refine needsOf_calls.mono ?_
                rw [H0.out, H1.out, H2.out]
                rintro e w1 ⟨rfl, hb1⟩
                have HB1 := Lib.hid (show Below w.heap.size w w1 from HB.out.trans (hb1.mono (by simp)))
                have R1 := HR.out.below hb1
                have q0 := R1.cell 0
                have q1 := R1.cell 1
                have q2 := R1.cell 2
                have q3 := R1.cell 3
                have ql := R1.lt
                simp at q0 q1 q2 q3
                clear hb1 R1
                go_wp2_with fail
                refine (allWithin_calls (Ints.one (by simp)) (by omega)).mono ?_
                rw [HK.out]
                rintro e w2 ⟨rfl, rfl⟩
                go_wp2_with fail
                refine (allWithin_calls (Ints.one (by simp)) (by omega)).mono ?_
                rw [HN.out]
                rintro e w2 ⟨rfl, rfl⟩
                go_wp2_with fail
                go_ret
                rw [HF.out]
                refine ⟨by first | fail | simp [HK.out, H0.out, H1.out, H2.out, Z2.out, HN.out], ?_⟩
                repeat' first | exact HB1.out | (refine Below.alloc ?_ ?_ _) | (have := HB1.out.size; first | omega | (simp; omega))
              · have HN := Lib.hid hn
                clear hn
                go_enter Try.func7, Try.ntmps7
                go_wp2_with fail
                refine needsOf_calls.mono ?_
                rw [H0.out, H1.out, H2.out]
                rintro e w1 ⟨rfl, hb1⟩
                have HB1 := Lib.hid (show Below w.heap.size w w1 from HB.out.trans (hb1.mono (by simp)))
                have R1 := HR.out.below hb1
                have q0 := R1.cell 0
                have q1 := R1.cell 1
                have q2 := R1.cell 2
                have q3 := R1.cell 3
                have ql := R1.lt
                simp at q0 q1 q2 q3
                clear hb1 R1
                go_wp2_with fail
                refine (allWithin_calls (Ints.one (by simp)) (by omega)).mono ?_
                rw [HK.out]
                rintro e w2 ⟨rfl, rfl⟩
                go_wp2_with fail
                refine (allWithin_calls (Ints.one (by simp)) (by omega)).mono ?_
                rw [HN.out]
                rintro e w2 ⟨rfl, rfl⟩
                have q3' := fun o1 o2 o3 => cell3 (o1 := o1) (o2 := o2) (o3 := o3) q3
                go_wp2_with fail
                refine (allWithin_calls (Ints.one (by simp)) (by omega)).mono ?_
                rw [HV.out]
                rintro e w2 ⟨rfl, rfl⟩
                go_wp2_with fail
                go_ret
                rw [HF.out]
                refine ⟨by first | (have hv := HV.out; rw [Z2.out] at hv; simp [HK.out, H0.out, H1.out, H2.out, Z2.out, HN.out, HV.out, hv]) | simp [HK.out, H0.out, H1.out, H2.out, Z2.out, HN.out, HV.out], ?_⟩
                repeat' first | exact HB1.out | (refine Below.alloc ?_ ?_ _) | (have := HB1.out.size; first | omega | (simp; omega))
          · have j2 : (v == 0) = false := by simp [z2]
            have Z2 := Lib.hid z2
            clear z2
            go_enter Try.func7, Try.ntmps7
            go_wp2_with fail
            refine needsOf_calls.mono ?_
            rw [H0.out, H1.out, H2.out]
            rintro e w1 ⟨rfl, hb1⟩
            have HB1 := Lib.hid (show Below w.heap.size w w1 from HB.out.trans (hb1.mono (by simp)))
            have R1 := HR.out.below hb1
            have q0 := R1.cell 0
            have q1 := R1.cell 1
            have q2 := R1.cell 2
            have q3 := R1.cell 3
            have ql := R1.lt
            simp at q0 q1 q2 q3
            clear hb1 R1
            go_wp2_with fail
            refine (allWithin_calls (Ints.one (by simp)) (by omega)).mono ?_
            rw [HK.out]
            rintro e w2 ⟨rfl, rfl⟩
            go_wp2_with fail
            go_ret
            rw [HF.out]
            refine ⟨by first | fail | simp [HK.out, H0.out, H1.out, H2.out, Z2.out], ?_⟩
            repeat' first | exact HB1.out | (refine Below.alloc ?_ ?_ _) | (have := HB1.out.size; first | omega | (simp; omega))
        · have H2 := Lib.hid h2
          clear h2
          rcases hv : within (-1000000000) 1000000000 [v] with _ | _
          · have HV := Lib.hid hv
            clear hv
            rcases hn : within 1 64 [n] with _ | _
            · have HN := Lib.hid hn
              clear hn
              go_enter Try.func7, Try.ntmps7
              go_wp2_with fail
              refine needsOf_calls.mono ?_
              rw [H0.out, H1.out, H2.out]
              rintro e w1 ⟨rfl, hb1⟩
              have HB1 := Lib.hid (show Below w.heap.size w w1 from HB.out.trans (hb1.mono (by simp)))
              have R1 := HR.out.below hb1
              have q0 := R1.cell 0
              have q1 := R1.cell 1
              have q2 := R1.cell 2
              have q3 := R1.cell 3
              have ql := R1.lt
              simp at q0 q1 q2 q3
              clear hb1 R1
              go_wp2_with fail
              refine (allWithin_calls (Ints.one (by simp)) (by omega)).mono ?_
              rw [HK.out]
              rintro e w2 ⟨rfl, rfl⟩
              go_wp2_with fail
              refine (allWithin_calls (Ints.one (by simp)) (by omega)).mono ?_
              rw [HN.out]
              rintro e w2 ⟨rfl, rfl⟩
              go_wp2_with fail
              go_ret
              rw [HF.out]
              refine ⟨by first | fail | simp [HK.out, H0.out, H1.out, H2.out, HN.out], ?_⟩
              repeat' first | exact HB1.out | (refine Below.alloc ?_ ?_ _) | (have := HB1.out.size; first | omega | (simp; omega))
            · have HN := Lib.hid hn
              clear hn
              go_enter Try.func7, Try.ntmps7
              go_wp2_with fail
              refine needsOf_calls.mono ?_
              rw [H0.out, H1.out, H2.out]
              rintro e w1 ⟨rfl, hb1⟩
              have HB1 := Lib.hid (show Below w.heap.size w w1 from HB.out.trans (hb1.mono (by simp)))
              have R1 := HR.out.below hb1
              have q0 := R1.cell 0
              have q1 := R1.cell 1
              have q2 := R1.cell 2
              have q3 := R1.cell 3
              have ql := R1.lt
              simp at q0 q1 q2 q3
              clear hb1 R1
              go_wp2_with fail
              refine (allWithin_calls (Ints.one (by simp)) (by omega)).mono ?_
              rw [HK.out]
              rintro e w2 ⟨rfl, rfl⟩
              go_wp2_with fail
              refine (allWithin_calls (Ints.one (by simp)) (by omega)).mono ?_
              rw [HN.out]
              rintro e w2 ⟨rfl, rfl⟩
              have q3' := fun o1 o2 o3 => cell3 (o1 := o1) (o2 := o2) (o3 := o3) q3
              go_wp2_with fail
              refine (allWithin_calls (Ints.one (by simp)) (by omega)).mono ?_
              rw [HV.out]
              rintro e w2 ⟨rfl, rfl⟩
              go_wp2_with fail
              go_ret
              rw [HF.out]
              refine ⟨by first | fail | simp [HK.out, H0.out, H1.out, H2.out, HN.out, HV.out], ?_⟩
              repeat' first | exact HB1.out | (refine Below.alloc ?_ ?_ _) | (have := HB1.out.size; first | omega | (simp; omega))
          · have HV := Lib.hid hv
            clear hv
            rcases hn : within 1 64 [n] with _ | _
            · have HN := Lib.hid hn
              clear hn
              go_enter Try.func7, Try.ntmps7
              go_wp2_with fail
              refine needsOf_calls.mono ?_
              rw [H0.out, H1.out, H2.out]
              rintro e w1 ⟨rfl, hb1⟩
              have HB1 := Lib.hid (show Below w.heap.size w w1 from HB.out.trans (hb1.mono (by simp)))
              have R1 := HR.out.below hb1
              have q0 := R1.cell 0
              have q1 := R1.cell 1
              have q2 := R1.cell 2
              have q3 := R1.cell 3
              have ql := R1.lt
              simp at q0 q1 q2 q3
              clear hb1 R1
              go_wp2_with fail
              refine (allWithin_calls (Ints.one (by simp)) (by omega)).mono ?_
              rw [HK.out]
              rintro e w2 ⟨rfl, rfl⟩
              go_wp2_with fail
              refine (allWithin_calls (Ints.one (by simp)) (by omega)).mono ?_
              rw [HN.out]
              rintro e w2 ⟨rfl, rfl⟩
              go_wp2_with fail
              go_ret
              rw [HF.out]
              refine ⟨by first | fail | simp [HK.out, H0.out, H1.out, H2.out, HN.out], ?_⟩
              repeat' first | exact HB1.out | (refine Below.alloc ?_ ?_ _) | (have := HB1.out.size; first | omega | (simp; omega))
            · have HN := Lib.hid hn
              clear hn
              go_enter Try.func7, Try.ntmps7
              go_wp2_with fail
              refine needsOf_calls.mono ?_
              rw [H0.out, H1.out, H2.out]
              rintro e w1 ⟨rfl, hb1⟩
              have HB1 := Lib.hid (show Below w.heap.size w w1 from HB.out.trans (hb1.mono (by simp)))
              have R1 := HR.out.below hb1
              have q0 := R1.cell 0
              have q1 := R1.cell 1
              have q2 := R1.cell 2
              have q3 := R1.cell 3
              have ql := R1.lt
              simp at q0 q1 q2 q3
              clear hb1 R1
              go_wp2_with fail
              refine (allWithin_calls (Ints.one (by simp)) (by omega)).mono ?_
              rw [HK.out]
              rintro e w2 ⟨rfl, rfl⟩
              go_wp2_with fail
              refine (allWithin_calls (Ints.one (by simp)) (by omega)).mono ?_
              rw [HN.out]
              rintro e w2 ⟨rfl, rfl⟩
              have q3' := fun o1 o2 o3 => cell3 (o1 := o1) (o2 := o2) (o3 := o3) q3
              go_wp2_with fail
              refine (allWithin_calls (Ints.one (by simp)) (by omega)).mono ?_
              rw [HV.out]
              rintro e w2 ⟨rfl, rfl⟩
              go_wp2_with fail
              go_ret
              rw [HF.out]
              refine ⟨by first | fail | simp [HK.out, H0.out, H1.out, H2.out, HN.out, HV.out], ?_⟩
              repeat' first | exact HB1.out | (refine Below.alloc ?_ ?_ _) | (have := HB1.out.size; first | omega | (simp; omega))
end Go.Proofs.Ythpamclljdcjpaa

/- Chapter 5 of the program: magazines that are pointed at. -/
namespace Go.Proofs.Ythpamclljdcjpaa
open Go.RowKit

/-- A pointer to a block of its own in which a datum lies. -/
def KPtr {α : Type} (K : Lay α) (T : TypeId) : Lay α where
  sz := 1
  rd w S cs x := ∃ b row, cs = [.pointer (some ⟨b, 0, none⟩)] ∧ S b ∧ Row w b T row ∧ K.rd w S row.toList x
  own w S cs x := ∃ b row S', cs = [.pointer (some ⟨b, 0, none⟩)] ∧ S b ∧ Row w b T row ∧ K.own w S' row.toList x ∧ ∀ k, S' k → S k ∧ k ≠ b
  rd_len := by rintro w S cs x ⟨_, _, rfl, _⟩; rfl
  rd_turn := by rintro w w' S T' cs x ⟨b, row, rfl, hb, hr, hx⟩ ht hd; exact ⟨b, row, rfl, hb, ht.row hr (hd b hb hr.lt), K.rd_turn hx ht hd⟩
  rd_mono := by rintro w S S' cs x ⟨b, row, rfl, hb, hr, hx⟩ hd; exact ⟨b, row, rfl, hd b hb hr.lt, hr, K.rd_mono hx hd⟩
  own_turn := by rintro w w' S T' cs x ⟨b, row, S', rfl, hb, hr, hx, hk⟩ ht hd; exact ⟨b, row, S', rfl, hb, ht.row hr (hd b hb hr.lt), K.own_turn hx ht (fun k h => hd k (hk k h).1), hk⟩
  own_mono := by rintro w S S' cs x ⟨b, row, T', rfl, hb, hr, hx, hk⟩ hd; exact ⟨b, row, fun k => T' k ∧ k < w.heap.size, rfl, hd b hb hr.lt, hr, K.own_mono hx (fun k h hl => ⟨h, hl⟩), fun k h => ⟨hd k (hk k h.1).1 h.2, (hk k h.1).2⟩⟩
  own_rd := by rintro w S cs x ⟨b, row, S', rfl, hb, hr, hx, hk⟩; exact ⟨b, row, rfl, hb, hr, K.rd_mono (K.own_rd hx) (fun k h _ => (hk k h).1)⟩
theorem one_ptr {α : Type} (K : Lay α) (T : TypeId) : OneC (KPtr K T) := fun w S cs x ⟨_, _, h, _⟩ c hc => by rw [h] at hc; simp at hc; subst hc; rfl
/-- A magazine, or one whose slice is nil. -/
def KMagO : Lay (Option (List Int)) where
  sz := 1
  rd w S cs x := match x with | some m => KMag.rd w S cs m | none => cs = [.slice none 0 0]
  own w S cs x := match x with | some m => KMag.own w S cs m | none => cs = [.slice none 0 0]
  rd_len := by
    rintro w S cs (_ | m) h
    · subst h; rfl
    · exact KMag.rd_len h
  rd_turn := by
    rintro w w' S T cs (_ | m) h ht hd
    · exact h
    · exact KMag.rd_turn h ht hd
  rd_mono := by
    rintro w S S' cs (_ | m) h hd
    · exact h
    · exact KMag.rd_mono h hd
  own_turn := by
    rintro w w' S T cs (_ | m) h ht hd
    · exact h
    · exact KMag.own_turn h ht hd
  own_mono := by
    rintro w S S' cs (_ | m) h hd
    · exact h
    · exact KMag.own_mono h hd
  own_rd := by
    rintro w S cs (_ | m) h
    · exact h
    · exact KMag.own_rd h
end Go.Proofs.Ythpamclljdcjpaa

/- Chapter 5 of the program: why a heap is none. -/
namespace Go.Proofs.Ythpamclljdcjpaa
open Go.RowKit

theorem hasIn_flatten_snoc {ms : List (List Int)} {k : Nat} {m : List Int} {v : Int} (h : ms[k]? = some m) : hasIn (ms.take (k + 1)).flatten v = (hasIn (ms.take k).flatten v || hasIn m v) := by
  rw [flatten_snoc h]; unfold hasIn; rw [List.contains_eq_any_beq, List.any_append, ← List.contains_eq_any_beq, ← List.contains_eq_any_beq]
theorem hasIn_flatten_yes {ms : List (List Int)} {k : Nat} {m : List Int} {v : Int} (h : ms[k]? = some m) (hv : hasIn m v = true) : hasIn ms.flatten v = true := by
  unfold hasIn at *
  rw [List.contains_iff_mem] at *
  exact List.mem_flatten.2 ⟨m, List.mem_of_getElem? h, hv⟩
theorem flatten_len_at {ms : List (List Int)} {k : Nat} {m : List Int} (h : ms[k]? = some m) : m.length ≤ ms.flatten.length := by
  have h1 := flatten_snoc h
  have h2 := flatten_take_le ms (k + 1)
  rw [h1, List.length_append] at h2; omega

theorem run_neq_ints {P : Program} {t e : TypeId} {n : Nat} {i : TypeInfo} (hu : P.underlying t = some (.array n e)) (hi : P.info? e = some i) (hc : P.cellsOf e = 1) (he : P.underlying e = some (.int .i64)) (hk : P.plainKey e = true)
    (A B : List Int) (hA : A.length = n) (hB : B.length = n) (w : World) :
    (binOp .neq t (.agg (A.map (Value.int .i64)).toArray) (.agg (B.map (Value.int .i64)).toArray)).run P w = .ok (.bool (!decide (A = B))) w := by
  rw [run_neq_struct, run_equalIn_array w 9999 _ _ hu hi, hc, run_eqInts he hk A B 9998 w _ (fun j hj => by simp at hj; omega)]
  simp only [Result.andThen_ok]
  congr 3
  rw [Bool.eq_iff_iff, List.all_eq_true, decide_eq_true_iff]
  constructor
  · intro h
    apply List.ext_getElem (by omega)
    intro j h1 h2
    have := h j (by simp; omega)
    simpa [List.getD, h1, h2] using this
  · rintro rfl j _
    simp
theorem freeZero_no {ws : List Int} : ∀ {ps : List Pg} {j k : Nat} {p : Pg}, ps[k]? = some p → p.kind = 0 → frameOf ws (j + k) ≠ List.replicate 16 0 → freeZero ws j ps = false
  | [], _, _, _, h, _, _ => by simp at h
  | q :: r, j, 0, p, h, h0, hf => by
    simp at h; subst h
    unfold freeZero
    rw [decide_eq_false (show ¬ (q.kind ≠ 0) from fun h => h h0), decide_eq_false (show ¬ (frameOf ws j = List.replicate 16 0) from hf)]; rfl
  | q :: r, j, k + 1, p, h, h0, hf => by
    have := freeZero_no (ws := ws) (ps := r) (j := j + 1) (k := k) (p := p) (by simpa using h) h0 (by rw [show j + 1 + k = j + (k + 1) by omega]; exact hf)
    simp [freeZero, this]
theorem freeZero_yes {ws : List Int} : ∀ {ps : List Pg} {j : Nat}, (∀ (k : Nat) (p : Pg), ps[k]? = some p → p.kind = 0 → frameOf ws (j + k) = List.replicate 16 0) → freeZero ws j ps = true
  | [], _, _ => rfl
  | q :: r, j, h => by
    unfold freeZero
    rw [freeZero_yes (ps := r) (j := j + 1) (fun k p hk h0 => by rw [show j + 1 + k = j + (k + 1) by omega]; exact h (k + 1) p (by simpa using hk) h0), Bool.and_true]
    by_cases h0 : q.kind = 0
    · have := h 0 q (by simp) h0
      rw [decide_eq_true (show frameOf ws j = List.replicate 16 0 from this), Bool.or_true]
    · simp [h0]
theorem freeZero_at {ws : List Int} {ps : List Pg} (h : freeZero ws 0 ps = true) {k : Nat} {p : Pg} (hp : ps[k]? = some p) (h0 : p.kind = 0) : frameOf ws k = List.replicate 16 0 := by
  by_cases hf : frameOf ws k = List.replicate 16 0
  · exact hf
  · rw [freeZero_no (ws := ws) (j := 0) hp h0 (by rw [Nat.zero_add]; exact hf)] at h; cases h
end Go.Proofs.Ythpamclljdcjpaa

/- Chapter 1 and 5 of the model: frames of words; what is kept; what is wrong with a magazine. -/
namespace Go.Proofs.Ythpamclljdcjpaa
open Go.RowKit

theorem quiet_same {P : Program} {f : FuncId} {args : Array Value} {w : World} {R : Ending → World → Prop} {v : Value} (h : Calls P f args w R) (hR : ∀ e w', R e w' → e = .returned v ∧ w = w') : Calls P f args w fun e w' => e = .returned v ∧ w' = w :=
  h.mono fun e w' h => ⟨(hR e w' h).1, (hR e w' h).2.symm⟩

theorem l1Value_calls {v : Int} {w : World} :
    Calls Try.prog 15 #[.int .i64 v] w fun e w' => e = .returned (.bool (within (-1000000000) 1000000000 [v])) ∧ w = w' := by
  go_enter Try.func15, Try.ntmps15
  go_wp2_with (go_at_call 14; refine l1In_calls.mono ?_; rintro e w' ⟨rfl, rfl⟩)
  go_ret
  exact ⟨rfl, rfl⟩

theorem Lst.frame {w : World} {S : Nat → Prop} {b off n f : Nat} {xs : List Int} (h : Lst KInt w S (some ⟨b, off, none⟩) n xs) (hf : (f + 1) * 16 ≤ n) : Lst KInt w S (some ⟨b, off + f * 16, none⟩) 16 (frameOf xs f) := by
  have := h.part (i := f * 16) (m := 16) (by omega)
  rw [show KInt.sz = 1 from rfl, Nat.mul_one] at this
  exact this
end Go.Proofs.Ythpamclljdcjpaa

/- Chapter 5 of the model: what is wrong with a magazine. -/
namespace Go.Proofs.Ythpamclljdcjpaa
open Go.RowKit

theorem Lst.drewN {α : Type} {K : Lay α} {w : World} {S : Nat → Prop} {a : Option Addr} {n : Nat} {xs : List α} (h : Lst K w S a n xs) (m : Nat) : Lst K (w.drewN m) S a n xs := h.turn (T := fun _ => False) ((Turn.refl _ w).drewN m) (fun _ _ _ h => h)
theorem quiet_left {P : Program} {f : FuncId} {args : Array Value} {w : World} {n : Nat} {v : Value}
    (h : Calls P f args (w.drewN n) fun e w' => e = .returned v ∧ w.drewN n = w') : Calls P f args (w.drewN n) fun e w'' => e = .returned v ∧ ∃ m, w'' = w.drewN m :=
  h.mono fun _ _ ⟨he, hm⟩ => ⟨he, n, hm.symm⟩
theorem isSlot_start {ps : List Pg} (hv : pagesFault ps = 0) {c a cc s : Int} (h : blockStart ps a = (cc, s)) :
    (cc ≠ 0 → isSlotAt ps c a = false) ∧ (s ≠ a → isSlotAt ps c a = false) ∧ (cc = 0 → s = a → ∃ (n : Nat) (p : Pg), a = (n : Int) ∧ n / 16 < ps.length ∧ ps[n / 16]? = some p ∧ isSlotAt ps c a = (decide (p.kind = 1) && decide (p.cls = c))) := by
  unfold blockStart at h
  unfold isSlotAt
  rcases hh : heldAt ps a with ⟨q, b⟩
  rw [hh] at h
  cases b with
  | none =>
    simp only at h ⊢
    refine ⟨fun _ => trivial, fun _ => trivial, fun h0 => ?_⟩
    injection h with h1 h2
    have := held_code hv hh
    omega
  | some b =>
    simp only at h
    injection h with h1 h2
    subst h1 h2
    cases b with
    | run i m =>
      refine ⟨fun _ => rfl, fun _ => rfl, fun _ hs => ?_⟩
      obtain ⟨_, h0, h1, hx⟩ := held_info hv hh
      rcases hx with ⟨_, _, _, _, e, _⟩ | ⟨i', p, e, hp, hk, hi⟩
      · cases e
      · injection e with e1 e2
        subst e1
        obtain ⟨n, rfl⟩ := Int.eq_ofNat_of_zero_le h0
        have hn : n / 16 = i := by simp only [Blk.start] at hs; omega
        have hil := (List.getElem?_eq_some_iff.1 hp).1
        exact ⟨n, p, rfl, by omega, by rw [hn]; exact hp, by simp [hk]⟩
    | slot i k s =>
      obtain ⟨_, h0, h1, hi, hs', c0, c3, p, hp, p1, p2, _⟩ := held_slot_info hv hh
      refine ⟨fun h => absurd rfl h, fun hs => by simp only; rw [decide_eq_false hs, Bool.and_false], fun _ hs => ?_⟩
      obtain ⟨n, rfl⟩ := Int.eq_ofNat_of_zero_le h0
      have hil := (List.getElem?_eq_some_iff.1 hp).1
      have hn : n / 16 = i := by simpa using hi.symm
      refine ⟨n, p, rfl, by omega, by rw [hn]; exact hp, ?_⟩
      simp only
      rw [decide_eq_true hs, Bool.and_true, p1, p2]; simp

end Go.Proofs.Ythpamclljdcjpaa

/- Chapter 5 of the program: free pages are of zeros; magazines made; why a heap is none. -/
namespace Go.Proofs.Ythpamclljdcjpaa
open Go.RowKit

end Go.Proofs.Ythpamclljdcjpaa

/- Chapter 5 of the program: why a heap is none. -/
namespace Go.Proofs.Ythpamclljdcjpaa
open Go.RowKit

theorem magsFault_first {ps : List Pg} : ∀ {ms : List (List Int)} {j k : Nat} {m : List Int}, (∀ (i : Nat) (x : List Int), i < k → ms[i]? = some x → magFault ps (((j + i) % 4 : Nat) : Int) x = 0) → ms[k]? = some m → magFault ps (((j + k) % 4 : Nat) : Int) m ≠ 0 → magsFault ps j ms = magFault ps (((j + k) % 4 : Nat) : Int) m
  | [], _, _, _, _, h, _ => by simp at h
  | q :: r, j, 0, m, _, h, hne => by
    simp at h; subst h
    unfold magsFault
    rw [if_neg (by simpa using hne)]; simp
  | q :: r, j, k + 1, m, hall, h, hne => by
    unfold magsFault
    rw [if_pos (by simpa using hall 0 q (by omega) (by simp))]
    rw [show j + (k + 1) = j + 1 + k by omega] at hne ⊢
    exact magsFault_first (fun i x hi hx => by rw [show j + 1 + i = j + (i + 1) by omega]; exact hall (i + 1) x (by omega) (by simpa using hx)) (by simpa using h) hne
theorem magsFault_none {ps : List Pg} : ∀ {ms : List (List Int)} {j : Nat}, (∀ (i : Nat) (x : List Int), ms[i]? = some x → magFault ps (((j + i) % 4 : Nat) : Int) x = 0) → magsFault ps j ms = 0
  | [], _, _ => rfl
  | q :: r, j, hall => by
    unfold magsFault
    rw [if_pos (by simpa using hall 0 q (by simp))]
    exact magsFault_none (fun i x hx => by rw [show j + 1 + i = j + (i + 1) by omega]; exact hall (i + 1) x (by simpa using hx))

end Go.Proofs.Ythpamclljdcjpaa

/- Chapter 5 of the model: why a heap is none. -/
namespace Go.Proofs.Ythpamclljdcjpaa
open Go.RowKit

theorem alike_yes {xs : List Int} {k : Nat} (hk : k < xs.length) (h : hasIn (xs.take k) xs[k] = true) : alike xs = true := by
  unfold alike
  rw [Bool.not_eq_true', decide_eq_false_iff_not]
  intro hn
  unfold hasIn at h
  rw [List.contains_iff_mem, List.mem_take_iff_getElem] at h
  obtain ⟨i, hi, he⟩ := h
  exact List.pairwise_iff_getElem.1 hn i k (by omega) hk (by omega) he
theorem nodup_step {xs : List Int} {k : Nat} (hk : k < xs.length) (hn : (xs.take k).Nodup) (h : hasIn (xs.take k) xs[k] = false) : (xs.take (k + 1)).Nodup := by
  rw [List.take_succ_eq_append_getElem hk, List.nodup_append]
  refine ⟨hn, by simp, fun a ha b hb e => ?_⟩
  simp at hb
  subst hb
  subst e
  unfold hasIn at h
  rw [Bool.eq_false_iff] at h
  exact h (List.contains_iff_mem.2 ha)

end Go.Proofs.Ythpamclljdcjpaa

/- Chapter 5 of the program: heaps with so many pages. -/
namespace Go.Proofs.Ythpamclljdcjpaa
open Go.RowKit

theorem infoMg : (Try.prog.info? 47).map (fun i => (i.zero, i.size, i.bytes)) = some (some (.slice none 0 0), 1, 24) := by kernel_rfl
theorem Row.drew {w : World} {b : Nat} {t : TypeId} {cs : Array Value} (h : Row w b t cs) : Row w.drew b t cs := h
theorem fit_new (p c : Nat) : fitHp ⟨[], [], List.replicate (4 * c) []⟩ p = newHp p c := by simp [fitHp, newHp, fitTo]
end Go.Proofs.Ythpamclljdcjpaa

/- Chapter 5 of the program: where a block lives; how many are kept; heaps compared. -/
namespace Go.Proofs.Ythpamclljdcjpaa
open Go.RowKit

/-- What is known of a heap ahead of a walk. -/
structure HpK (w : World) (S : Nat → Prop) (pa : Option Addr) (pn pc : Nat) (wa : Option Addr) (wn wk : Nat) (ma : Option Addr) (mn mc : Nat) (h : Hp) : Prop where
  r : HpR w S pa pn pc wa wn wk ma mn mc h
  s : HpS 1048576 h
theorem HpK.below {w w' : World} {S : Nat → Prop} {pa wa ma : Option Addr} {pn pc wn wk mn mc : Nat} {h : Hp} (hk : HpK w S pa pn pc wa wn wk ma mn mc h) (hb : Below w.heap.size w w') : HpK w' S pa pn pc wa wn wk ma mn mc h := ⟨hk.r.below hb, hk.s⟩
theorem HpK.short {w : World} {S : Nat → Prop} {pa wa ma : Option Addr} {pn pc wn wk mn mc : Nat} {h : Hp} (hk : HpK w S pa pn pc wa wn wk ma mn mc h) : ShortP 17592186044416 h.pages := fun p hp => Nat.le_trans (hk.s.u p hp) (by decide)
theorem HpK.small {w : World} {S : Nat → Prop} {pa wa ma : Option Addr} {pn pc wn wk mn mc : Nat} {h : Hp} (hk : HpK w S pa pn pc wa wn wk ma mn mc h) : pn ≤ 1048576 ∧ wn ≤ 1048576 ∧ mn ≤ 1048576 ∧ pn ≤ pc ∧ pc ≤ 9223372036854775807 := by
  have h1 := hk.r.pg.1; have h2 := hk.r.wd.1; have h3 := hk.r.mg.1
  have := hk.s.p; have := hk.s.w; have := hk.s.m
  exact ⟨by omega, by omega, by omega, hk.r.p1, Nat.le_trans hk.r.p2 (by decide)⟩

end Go.Proofs.Ythpamclljdcjpaa

/- Chapter 5 of the program: the blocks that live. -/
namespace Go.Proofs.Ythpamclljdcjpaa
open Go.RowKit

theorem Own.toI {t : TypeId} {w : World} {B n : Nat} {v : Value} {xs : List Int} (h : Own KInt t w (fun k => B ≤ k) v n xs) : OwnI w B v n xs := by
  have hl := h.1
  rcases h.2 with ⟨rfl, rfl⟩ | ⟨g, cap, cur, F, rfl, hg, hr, _⟩
  · obtain rfl := List.eq_nil_of_length_eq_zero hl
    exact OwnI.nil _ _
  · obtain ⟨hg, cur, hr, h1, h2, h3, h4⟩ := h.rowI
    exact OwnI.of_form hg hr h1 h2 (by omega) h4 hl
/-- What a list of places owns while it is made, above two blocks. -/
structure OwnB (w w' : World) (v : Value) (n k : Nat) (xs : List Int) : Prop where
  own : Own KInt 2 w' (fun q => w.heap.size + 2 ≤ q) v n xs
  le : n ≤ k
theorem OwnB.below {w w' w2 : World} {v : Value} {n k : Nat} {xs : List Int} (h : OwnB w w' v n k xs) (hb : Below w'.heap.size w' w2) : OwnB w w2 v n k xs := ⟨h.own.below hb, h.le⟩
theorem OwnB.next {w w' : World} {v : Value} {n k : Nat} {h : Hp} (ho : OwnB w w' v n k (blocksTo h k)) (hn : blocksTo h (k + 1) = blocksTo h k) : OwnB w w' v n (k + 1) (blocksTo h (k + 1)) := ⟨by rw [hn]; exact ho.own, by have := ho.le; omega⟩
theorem OwnB.shape {w w' : World} {v : Value} {n k : Nat} {xs : List Int} (h : OwnB w w' v n k xs) : ∃ a c, v = .slice a n c ∧ n ≤ k := by
  obtain ⟨a, c, e, _⟩ := h.own.shape
  exact ⟨a, c, e, h.le⟩
/-- A place at which a block begins that lives. -/
theorem live_at {h : Hp} (hv : pagesFault h.pages = 0) {a : Nat} (ha : a < h.pages.length * 16) : liveIn h (a : Int) = (0, (a : Int)) ↔ ∃ b, blockAt h.pages a = some b ∧ b.start = (a : Int) ∧ hasIn h.mags.flatten (a : Int) = false := by
  have hh : heldAt h.pages (a : Int) = match blockAt h.pages a with | some b => (0, some b) | none => (4, none) := by
    unfold heldAt; rw [if_pos hv, if_pos (within_yes1 (by omega) (by omega)), Int.toNat_natCast]; cases blockAt h.pages a <;> rfl
  unfold liveIn blockStart Hp.kept
  rw [hh]
  cases hb : blockAt h.pages a with
  | none => simp
  | some b =>
    simp only
    rw [if_pos trivial]
    cases hk : hasIn h.mags.flatten b.start with
    | true =>
      rw [if_pos rfl]
      constructor
      · intro e; injection e with e; simp at e
      · rintro ⟨b', e1, e2, e3⟩
        injection e1 with e1; subst e1
        rw [e2] at hk; rw [hk] at e3; cases e3
    | false =>
      rw [if_neg (by decide)]
      constructor
      · intro e
        injection e with _ e
        exact ⟨b, rfl, e, by rw [← e]; exact hk⟩
      · rintro ⟨b', e1, e2, e3⟩
        injection e1 with e1; subst e1
        rw [e2]

end Go.Proofs.Ythpamclljdcjpaa

/- Chapter 5 of the model: where a block lives; the blocks that live; how many are kept; heaps compared. -/
namespace Go.Proofs.Ythpamclljdcjpaa
open Go.RowKit

/-- What a list of places owns while it is made. -/
structure OwnC (w w' : World) (v : Value) (n k : Nat) (xs : List Int) : Prop where
  own : Own KInt 2 w' (fun q => w.heap.size ≤ q) v n xs
  le : n ≤ k
theorem OwnC.below {w w' w2 : World} {v : Value} {n k : Nat} {xs : List Int} (h : OwnC w w' v n k xs) (hb : Below w'.heap.size w' w2) : OwnC w w2 v n k xs := ⟨h.own.below hb, h.le⟩
theorem OwnC.next {w w' : World} {v : Value} {n k : Nat} {h : Hp} (ho : OwnC w w' v n k (blocksTo h k)) (hn : blocksTo h (k + 1) = blocksTo h k) : OwnC w w' v n (k + 1) (blocksTo h (k + 1)) := ⟨by rw [hn]; exact ho.own, by have := ho.le; omega⟩
theorem OwnC.shape {w w' : World} {v : Value} {n k : Nat} {xs : List Int} (h : OwnC w w' v n k xs) : ∃ a c, v = .slice a n c ∧ n ≤ k := by
  obtain ⟨a, c, e, _⟩ := h.own.shape
  exact ⟨a, c, e, h.le⟩

end Go.Proofs.Ythpamclljdcjpaa

/- Chapter 5 of the model: heaps compared. -/
namespace Go.Proofs.Ythpamclljdcjpaa
open Go.RowKit

theorem drewN_drewN (w : World) (a b : Nat) : ∃ c, (w.drewN a).drewN b = w.drewN c := by
  obtain ⟨k, hk⟩ : ∃ k, k = b := ⟨_, rfl⟩
  exact ⟨b + a, by simp [World.drewN, Nat.add_comm, Nat.add_left_comm, Nat.add_assoc]⟩

end Go.Proofs.Ythpamclljdcjpaa

/- Chapter 5 of the model: new heaps. -/
namespace Go.Proofs.Ythpamclljdcjpaa
open Go.RowKit

section
variable {w : World} {o b c : Obj} {t : TypeId} {cs : Array Value}
theorem fourB : Below w.heap.size w ((((w.alloc o).alloc (.cells cs t)).alloc b).alloc c).drew := (((((Below.refl _ _).alloc (Nat.le_refl _) _).alloc (by simp) _).alloc (by simp <;> omega) _).alloc (by simp <;> omega) _).drew
theorem four0 {a : Obj} : Row ((((w.alloc (.cells cs t)).alloc a).alloc b).alloc c).drew w.heap.size t cs := by
  refine Row.drew ?_
  unfold Row
  rw [heap_alloc_old _ _ (by simp <;> omega), heap_alloc_old _ _ (by simp <;> omega), heap_alloc_old _ _ (by simp)]
  exact heap_alloc_new _ _
theorem four1 : Row ((((w.alloc o).alloc (.cells cs t)).alloc b).alloc c).drew (w.heap.size + 1) t cs := by
  refine Row.drew ?_
  unfold Row
  rw [heap_alloc_old _ _ (by simp <;> omega), heap_alloc_old _ _ (by simp)]
  have := heap_alloc_new (w.alloc o) (.cells cs t)
  simpa using this
theorem four2 : Row ((((w.alloc o).alloc b).alloc (.cells cs t)).alloc c).drew (w.heap.size + 1 + 1) t cs := by
  refine Row.drew ?_
  unfold Row
  rw [heap_alloc_old _ _ (by simp)]
  have := heap_alloc_new ((w.alloc o).alloc b) (.cells cs t)
  simpa using this
theorem four3 : Row ((((w.alloc o).alloc b).alloc c).alloc (.cells cs t)).drew (w.heap.size + 1 + 1 + 1) t cs := by
  refine Row.drew ?_
  unfold Row
  have := heap_alloc_new (((w.alloc o).alloc b).alloc c) (.cells cs t)
  simpa using this
end
end Go.Proofs.Ythpamclljdcjpaa

/- append(out, x), one element, at a step of a region that draws its order. -/
namespace Go.Proofs.Ythpamclljdcjpaa
open Go.RowKit

section
variable {P : Program} {α : Type} {K : Lay α} {w : World} {S : Nat → Prop} {ops : Array Oper} {o : Oper} {a : Act} {Q : Exit → Act → World → Prop} {K' : Act → World → Prop} {E : Prop}
theorem step_append_elem (hgd : o.guard = none) (s x : Operand) (t : TypeId) (ho : o.op = .call { callee := .builtin .append, args := #[s, x], argTypes := #[t, t] })
    (e : TypeId) (i : TypeInfo) (z : Value) (bytes : Nat) (ht : P.underlying t = some (.slice e)) (hi : P.info? e = some i) (hz : i.zero = some z)
    (hsize : i.size = K.sz) (hby : i.bytes = bytes) (hzs : z.cells.size = K.sz) (hsz : 0 < K.sz) (hone : OneC K)
    {v : Value} {n b c : Nat} {xs : List α} {y : α} {G : Nat → Prop} {cs : List Value} (hs : a.eval s = v) (hown : Own K e w S v n xs) (hx : a.eval x = .slice (some ⟨b, 0, none⟩) 1 c)
    (hcs : ∀ j u, cs[j]? = some u → w.cell? ⟨b, j, none⟩ = some u) (hy : K.own w G cs y) (hG : ∀ k, G k → k < w.heap.size → ¬ S k)
    (h63 : n + 1 ≤ maxLen) (hbytes : (n + 1) * bytes ≤ 140737488355328)
    (h : ∀ v' w', Own K e w' (fun k => S k ∨ G k ∨ w.heap.size ≤ k) v' (n + 1) (xs ++ [y]) → Turn S w w' → K' (a.put o.dst v') w') :
    if Region.wanted o (yielded ops a.tmps) = true then Oper.wp P o a w K' Q else E := by
  have hw : Region.wanted o (yielded ops a.tmps) = true := by simp [Region.wanted, hgd]
  rw [if_pos hw]
  obtain ⟨cells, hrow, hS, F, hF, hD, hc⟩ := hown.row
  have hcl : cs.length = K.sz := K.rd_len (K.own_rd hy)
  obtain ⟨v', w', h1, h2, h3, _, h5⟩ := run_append_own_at (P := P) w 0 t o.type e i z K.sz bytes ht hi hz hsize hby hzs hsz v n cells hrow ⟨b, 0, none⟩ 1 c cs (by omega) (fun j u hu => by rw [add_plain', Nat.zero_add]; exact hcs j u hu) (hone _ _ _ _ (K.own_rd hy)) h63 hbytes (Nat.zero_le _)
  unfold Oper.wp execOp
  simp only [ho, resolve, invoke, builtin, Sem.run_bind, Sem.run_pure, Result.andThen_ok, List.map_toArray, List.map_cons, List.map_nil, hs, hx, h1]
  refine h v' w' ?_ ((Turn.of_grown h3).mono (fun k hk _ => hS k hk))
  refine Own.snoc hown.1 hS hF hD hc hrow.1 hcl hy hG h2 h3 (fun g hg => ?_)
  rcases h5 with h6 | h6
  · exact .inl (by rw [← h6]; exact hg)
  · rw [hg] at h6; injection h6 with h6; exact .inr (by omega)
end
end Go.Proofs.Ythpamclljdcjpaa

/- Chapter 5 of the model: a heap copied. -/
namespace Go.Proofs.Ythpamclljdcjpaa
open Go.RowKit

theorem keepH2 {W a b : World} {p q : Addr} {x y : Value} (h : a.cell? p = some x ∧ a.cell? q = some y ∧ Below W.heap.size W a) (hb : Below a.heap.size a b) :
    b.cell? p = some x ∧ b.cell? q = some y ∧ Below W.heap.size W b := by
  obtain ⟨h1, h2, h4⟩ := h
  exact ⟨(hb.cell (World.block_lt_of_cell? _ _ h1)).trans h1, (hb.cell (World.block_lt_of_cell? _ _ h2)).trans h2, h4.trans (hb.mono h4.size)⟩
theorem keepD2 {W a : World} {p q : Addr} {x y : Value} (h : a.cell? p = some x ∧ a.cell? q = some y ∧ Below W.heap.size W a) : a.drew.cell? p = some x ∧ a.drew.cell? q = some y ∧ Below W.heap.size W a.drew := ⟨h.1, h.2.1, h.2.2.drew⟩
theorem keepS2 {W a : World} {p q : Addr} {x y u v t : Value} {g : Nat} (h : a.cell? p = some x ∧ a.cell? q = some y ∧ Below W.heap.size W a) (hp : W.cell? p = some x) (hq : W.cell? q = some y) (hg : W.heap.size ≤ g) :
    (((a.setCell ⟨g, 0, none⟩ u).setCell ⟨g, 1, none⟩ v).setCell ⟨g, 2, none⟩ t).cell? p = some x ∧ (((a.setCell ⟨g, 0, none⟩ u).setCell ⟨g, 1, none⟩ v).setCell ⟨g, 2, none⟩ t).cell? q = some y ∧ Below W.heap.size W (((a.setCell ⟨g, 0, none⟩ u).setCell ⟨g, 1, none⟩ v).setCell ⟨g, 2, none⟩ t) := by
  have hb : Below W.heap.size W (((a.setCell ⟨g, 0, none⟩ u).setCell ⟨g, 1, none⟩ v).setCell ⟨g, 2, none⟩ t) := ((h.2.2.setCell hg _).setCell hg _).setCell hg _
  exact ⟨(hb.cell (World.block_lt_of_cell? _ _ hp)).trans hp, (hb.cell (World.block_lt_of_cell? _ _ hq)).trans hq, hb⟩
theorem Row.set {w : World} {g i : Nat} {t : TypeId} {cs : Array Value} (h : Row w g t cs) (u : Value) : Row (w.setCell ⟨g, i, none⟩ u) g t (cs.setIfInBounds i u) := heap_setCell_same w g i _ _ u h
theorem Row.set3 {w : World} {g : Nat} {t : TypeId} {a b c x y z : Value} (h : Row w g t #[a, b, c]) : Row (((w.setCell ⟨g, 0, none⟩ x).setCell ⟨g, 1, none⟩ y).setCell ⟨g, 2, none⟩ z) g t #[x, y, z] := by
  have := ((h.set (i := 0) x).set (i := 1) y).set (i := 2) z
  simpa using this
theorem Turn.set3 {w : World} {g : Nat} {x y z : Value} : Turn (fun k => k = g) w (((w.setCell ⟨g, 0, none⟩ x).setCell ⟨g, 1, none⟩ y).setCell ⟨g, 2, none⟩ z) :=
  ((Turn.set w ⟨g, 0, none⟩ x).trans (Turn.set _ ⟨g, 1, none⟩ y) (fun _ h _ => h)).trans (Turn.set _ ⟨g, 2, none⟩ z) (fun _ h _ => h)
theorem Row.alloc {w : World} {g : Nat} {t : TypeId} {cs : Array Value} (h : Row w g t cs) (o : Obj) : Row (w.alloc o) g t cs := Row.below h ((Below.refl _ _).alloc (Nat.le_refl _) _)
end Go.Proofs.Ythpamclljdcjpaa

/- The source of draws, which every chapter's draws read: its bytes, one draw, one pick. -/
namespace Go.Proofs.Ythpamclljdcjpaa
open Go.RowKit

/-- The slice of n bytes at 'ao' reads as bs. -/
def Bytes (w : World) (ao : Option Addr) (n : Nat) (bs : List Int) : Prop :=
  bs.length = n ∧ (0 < n → ∃ b off, ao = some ⟨b, off, none⟩ ∧ b < w.heap.size ∧ ∀ j, j < n → w.cell? ⟨b, off + j, none⟩ = some (.int .u8 (bs.getD j 0)) ∧ 0 ≤ bs.getD j 0 ∧ bs.getD j 0 ≤ 255)

theorem Bytes.below {w w' : World} {ao : Option Addr} {n : Nat} {bs : List Int} (h : Bytes w ao n bs) (hb : Below w.heap.size w w') : Bytes w' ao n bs := by
  refine ⟨h.1, fun hi => ?_⟩
  obtain ⟨b, off, rfl, hlt, hc⟩ := h.2 hi
  exact ⟨b, off, rfl, Nat.lt_of_lt_of_le hlt hb.size, fun j hj => by rw [hb.cell (p := ⟨b, off + j, none⟩) hlt]; exact hc j hj⟩
theorem Bytes.none_ (w : World) : Bytes w none 0 [] := ⟨rfl, fun h => absurd h (by omega)⟩
theorem Bytes.of_row {w : World} {x : Addr} {len cap : Nat} {zs : List Int} (hl : len ≤ cap) (hz : zs.length = cap) (hc : ∀ i, i < zs.length → w.cell? (x.add i) = some (.int .u8 (zs.getD i 0))) (hw : ∀ n ∈ zs, (Lit.int .u8 n).wf = true) : Bytes w (some x) len (zs.take len) := by
  refine ⟨by simp; omega, fun h0 => ?_⟩
  obtain ⟨b, off, rfl, hcell⟩ := ints_at hc (by omega)
  refine ⟨b, off, rfl, ?_, fun j hj => ?_⟩
  · exact World.block_lt_of_cell? w _ (hcell 0 (by omega))
  · have hr := byte_range (hw _ (List.getElem_mem (show j < zs.length by omega)))
    rw [hcell j (by omega)]
    have e1 : zs.getD j 0 = zs[j] := by simp [List.getD, show j < zs.length by omega]
    have e2 : (zs.take len).getD j 0 = zs[j] := by simp [List.getD, hj, show j < zs.length by omega]
    rw [e1, e2]
    exact ⟨rfl, hr⟩

theorem grown_drewN {a b : World} {row : Option Nat} (h : a.grownBy b row) (n : Nat) : a.grownBy (b.drewN n) row := ⟨h.os, h.tape, h.output, h.size, h.block⟩
theorem grown_new {w0 w w' : World} {p g : Nat} (h : w0.grownBy w (some p)) (hg : w.grownBy w' (some g)) (hb : w0.heap.size ≤ g) : w0.grownBy w' (some p) :=
  ⟨hg.os.trans h.os, hg.tape.trans h.tape, hg.output.trans h.output, Nat.le_trans h.size hg.size, fun i hi hne => (hg.block i (Nat.lt_of_lt_of_le hi h.size) (by simp; omega)).trans (h.block i hi hne)⟩

theorem Ints.lit {w : World} {t : TypeId} {b n : Nat} {xs : List Int} (hb : b = w.heap.size) (hn : xs.length = n) : Ints (w.alloc (.cells (xs.map (Value.int .i64)).toArray t)) (some ⟨b, 0, none⟩) n xs := by
  subst hb
  refine ⟨hn, fun _ => ⟨w.heap.size, 0, rfl, by simp, fun j hj => ?_⟩⟩
  rw [Nat.zero_add, cell_of_row _ _ _ _ _ _ (heap_alloc_new w _)]
  simp [List.getD, hn.symm ▸ hj]

theorem below_of_grown {w w1 w2 : World} (h : Below w.heap.size w w1) (hg : w1.grownBy w2 (some w.heap.size)) : Below w.heap.size w w2 := h.grown hg h.size (by intro k hk; simp at hk; omega)
end Go.Proofs.Ythpamclljdcjpaa

/- The source of draws, further: one that begins later, and a chance. -/
namespace Go.Proofs.Ythpamclljdcjpaa
open Go.RowKit

end Go.Proofs.Ythpamclljdcjpaa

/- The draws of chapter 4: pages in which some was taken and dropped. -/
namespace Go.Proofs.Ythpamclljdcjpaa
open Go.RowKit

theorem Turn.of_some {w w' : World} {p : Nat} (h : w.grownBy w' (some p)) : Turn (fun j => j = p) w w' := ⟨h.os, h.tape, h.output, h.size, fun k hk hn => h.block k hk (by simp; omega)⟩
theorem grown_turn {w w1 w2 : World} {p : Nat} {T : Nat → Prop} (h : w.grownBy w1 (some p)) (ht : Turn T w1 w2) (hd : ∀ j, T j → w.heap.size ≤ j) : w.grownBy w2 (some p) :=
  ⟨ht.os.trans h.os, ht.tape.trans h.tape, ht.output.trans h.output, Nat.le_trans h.size ht.size, fun i hi hne => (ht.block i (Nat.lt_of_lt_of_le hi h.size) (fun hx => by have := hd _ hx; omega)).trans (h.block i hi hne)⟩

section
variable {w W W' : World} {p n m k : Nat} {v vs : Value}
end

theorem sub_places {xs : List Int} {n : Nat} (h : ∀ x ∈ xs, ∃ st : Nat, x = st ∧ st < 16 * n) (y : Nat) : ∀ x ∈ ([] : List Int) ++ xs.take y ++ xs.drop (y + 1), ∃ st : Nat, x = st ∧ st < 16 * n := fun x hx => by
  rcases List.mem_append.1 hx with hx | hx
  · exact h x (List.mem_of_mem_take (by simpa using hx))
  · exact h x (List.mem_of_mem_drop hx)

end Go.Proofs.Ythpamclljdcjpaa

/- Chapter 5 of the model: what is kept at hand is dropped, free pages are swept. -/
namespace Go.Proofs.Ythpamclljdcjpaa
open Go.RowKit

theorem rough_of {ps : List Pg} (hv : pagesFault ps = 0) : Rough ps := fun k p hp => by
  have hk := (List.getElem?_eq_some_iff.1 hp).1
  have hpf := ok_page hv hp
  refine ⟨pageFault_slots hpf, fun h1 => ?_, fun h1 => ?_⟩
  · rcases pageFault_ok hpf with h | h | h
    · exact ⟨h.2.1, h.2.2.1, h.2.2.2.2.1⟩
    · omega
    · omega
  · rcases pageFault_ok hpf with h | h | h
    · exact absurd h.1 h1
    · refine ⟨p.run.toNat, by omega, ?_⟩
      have := run_fits hv hp h.1
      omega
    · exact ⟨0, by omega, by omega⟩

theorem length_sweepW' : ∀ (ps : List Pg) (ws : List Int) (k : Nat), (k + ps.length) * 16 ≤ ws.length → (sweepW ws k ps).length = ws.length
  | [], _, _, _ => rfl
  | p :: r, ws, k, h => by
    simp only [List.length_cons] at h
    have hp : (if p.kind = 0 then putFrame ws k (List.replicate 16 0) else ws).length = ws.length := by
      split
      · exact length_putFrame (by rw [List.length_replicate]; omega)
      · rfl
    rw [sweepW, length_sweepW' r _ _ (by rw [hp]; omega), hp]
/-- Sixteen zeros, newly made. -/
theorem Ints.zeros16 {w : World} {g : Nat} {CW : Array Value} (hr : Row w g 2 CW) (hz : ZeroRow (Value.int .i64 0).cells.toList 16 CW) : Ints w (some ⟨g, 0, none⟩) 16 (List.replicate 16 0) :=
  (Own.of_zero (K := KInt) hr hz rfl rfl (by unfold maxLen; omega)).ints
end Go.Proofs.Ythpamclljdcjpaa

/- Chapter 5 of the model: a heap drained. -/
namespace Go.Proofs.Ythpamclljdcjpaa
open Go.RowKit

theorem Lst.drew' {α : Type} {K : Lay α} {w : World} {S : Nat → Prop} {ao : Option Addr} {n : Nat} {xs : List α} (h : Lst K w S ao n xs) : Lst K w.drew S ao n xs := h.turn (T := fun _ => False) ((Turn.refl _ w).drewN 1) (fun _ _ _ h => h)
end Go.Proofs.Ythpamclljdcjpaa

/- Chapter 5 of the model: heaps drained and resized. -/
namespace Go.Proofs.Ythpamclljdcjpaa
open Go.RowKit

theorem used_at {ps : List Pg} {n k : Nat} {p : Pg} (hk : n ≤ k) (hp : ps[k]? = some p) (h : p.kind ≠ 0) : anyUsed (ps.drop n) = true := by
  unfold anyUsed
  rw [List.any_eq_true]
  exact ⟨p, List.mem_of_getElem? (i := k - n) (by rw [List.getElem?_drop, show n + (k - n) = k by omega]; exact hp), by simpa using h⟩
theorem used_none {ps : List Pg} {n : Nat} (h : ∀ (k : Nat) (p : Pg), n ≤ k → ps[k]? = some p → p.kind = 0) : anyUsed (ps.drop n) = false := by
  unfold anyUsed
  rw [List.any_eq_false]
  intro p hp
  obtain ⟨j, hj⟩ := List.getElem?_of_mem hp
  rw [List.getElem?_drop] at hj
  simpa using h (n + j) p (by omega) hj
/-- Two of a heap's fields set. -/
theorem Row.set2 {w : World} {g : Nat} {t : TypeId} {a b c x y : Value} (h : Row w g t #[a, b, c]) : Row ((w.setCell ⟨g, 0, none⟩ x).setCell ⟨g, 1, none⟩ y) g t #[x, y, c] := by
  have := (h.set (i := 0) x).set (i := 1) y
  simpa using this
theorem Turn.set2 {w : World} {g : Nat} {x y : Value} : Turn (fun k => k = g) w ((w.setCell ⟨g, 0, none⟩ x).setCell ⟨g, 1, none⟩ y) :=
  (Turn.set w ⟨g, 0, none⟩ x).trans (Turn.set _ ⟨g, 1, none⟩ y) (fun _ h _ => h)

end Go.Proofs.Ythpamclljdcjpaa
