/- Joined texts (Reps6, Reps6b, Law6b, Args4, One5c, Spec4d, Spec4e, Whole4, App3, Plain5, Args5, Blk4, Run4, Spec4f, Spec4g, Spec4h, Impl4d, Impl4e, Spec4i, With4, Without4, Impl4f, Impl4g, Spec4j, Law4): steps of the proofs of chapter 5's laws. -/
import Derived.Lib.SmallJoins
import Derived.Deep.Slices
import Derived.Deep.Fields
import Derived.ChangeSame
import Derived.OpenShut
import Derived.Sort.OwnSortedInts
import Derived.Deep.RegionHeld3
import Derived.Laws.CopyRow
import Derived.Deep.Strs
import Derived.Handy
import Derived.Deep.LoopGhost
import Derived.Test.YthpamclljdcjpaaM1
import Derived.Test.YthpamclljdcjpaaM2
set_option linter.unusedVariables false
set_option linter.unusedSimpArgs false
/- Replies in memory; whether two lists of them are the same. -/
namespace Go.Proofs.Ythpamclljdcjpaa
open Go.RowKit

/-- A reply: a code, a value. -/
def KRep : Lay (Int × Int) := KPair KInt KInt
theorem KRep_sz : KRep.sz = 2 := rfl
theorem Lst.rep_at {w : World} {S : Nat → Prop} {ao : Option Addr} {n : Nat} {rs : List (Int × Int)} (h : Lst KRep w S ao n rs) {j : Nat} (hj : j < n) :
    ∃ b off x, ao = some ⟨b, off, none⟩ ∧ b < w.heap.size ∧ rs[j]? = some x ∧ w.cell? ⟨b, off + j * 2, none⟩ = some (.int .i64 x.1) ∧ w.cell? ⟨b, off + j * 2 + 1, none⟩ = some (.int .i64 x.2) := by
  obtain ⟨b, off, cs, x, rfl, hb, hs, hx, hl, hcs, ⟨c1, c2, rfl, h1, h2⟩⟩ := h.at_ hj
  have e1 : c1 = [.int .i64 x.1] := h1
  have e2 : c2 = [.int .i64 x.2] := h2
  subst e1 e2
  exact ⟨b, off, x, rfl, hb, hx, by simpa [KRep_sz] using hcs 0 (by rw [KRep_sz]; omega), by simpa [KRep_sz] using hcs 1 (by rw [KRep_sz]; omega)⟩
theorem run_equalRep (x y x' y' : Int) (d : Nat) (u : World) : (Op.equalIn (d + 2) 43 (.agg #[.int .i64 x, .int .i64 y]) (.agg #[.int .i64 x', .int .i64 y'])).run Try.prog u = .ok (x == x' && y == y') u := by
  rw [run_equalIn_struct u (d + 1) _ _ _ (by kernel_rfl) (by kernel_rfl)]
  have hf : Try.prog.fieldsOf 43 = #[{ name := "Code", type := 2, offset := 0, embedded := false, tag := "", pkgPath := "", byteOffset := 0 }, { name := "Value", type := 2, offset := 1, embedded := false, tag := "", pkgPath := "", byteOffset := 8 }] := by kernel_rfl
  rw [hf]
  have p0 := run_part_plain (P := Try.prog) u (e := 2) (by kernel_rfl) (xs := #[.int .i64 x, .int .i64 y]) (off := 0) (v := .int .i64 x) (by simp)
  have p1 := run_part_plain (P := Try.prog) u (e := 2) (by kernel_rfl) (xs := #[.int .i64 x, .int .i64 y]) (off := 1) (v := .int .i64 y) (by simp)
  have p2 := run_part_plain (P := Try.prog) u (e := 2) (by kernel_rfl) (xs := #[.int .i64 x', .int .i64 y']) (off := 0) (v := .int .i64 x') (by simp)
  have p3 := run_part_plain (P := Try.prog) u (e := 2) (by kernel_rfl) (xs := #[.int .i64 x', .int .i64 y']) (off := 1) (v := .int .i64 y') (by simp)
  by_cases h : x = x'
  · subst h
    by_cases h2 : y = y'
    · subst h2
      simp [Op.eqFields, p0, p1, p2, p3, run_equalIn_int u d 2 .i64 .i64 _ _ Try.underlying2]
    · simp [Op.eqFields, p0, p1, p2, p3, run_equalIn_int u d 2 .i64 .i64 _ _ Try.underlying2, h2]
  · have e : (x == x') = false := by simpa using h
    simp [Op.eqFields, p0, p1, p2, p3, run_equalIn_int u d 2 .i64 .i64 _ _ Try.underlying2, h]
theorem run_neqRep (x y x' y' : Int) (u : World) : (binOp .neq 43 (.agg #[.int .i64 x, .int .i64 y]) (.agg #[.int .i64 x', .int .i64 y'])).run Try.prog u = .ok (.bool (!(x == x' && y == y'))) u := by
  rw [run_neq_struct, run_equalRep]; rfl
theorem eqReply_calls6 {x y x' y' : Int} {w : World} :
    Calls Try.prog 20 #[.agg #[.int .i64 x, .int .i64 y], .agg #[.int .i64 x', .int .i64 y']] w fun e w' => e = .returned (.bool (x == x' && y == y')) ∧ Below w.heap.size w w' := by
  by_cases h1 : x = x'
  · have e1 : (x == x') = true := by simp [h1]
    have e1' : (x != x') = false := by simp [h1]
    by_cases h2 : y = y'
    · have e2 : (y == y') = true := by simp [h2]
      have e2' : (y != y') = false := by simp [h2]
      have HF := Lib.hid (show (x == x' && y == y') = true by rw [e1, e2]; rfl)
      go_enter Try.func20, Try.ntmps20
      go_wp2_with fail
      go_ret
      rw [HF.out]
      exact ⟨rfl, ((Below.refl _ _).alloc (Nat.le_refl _) _).alloc (by simp) _⟩
    · have e2 : (y == y') = false := by simp [h2]
      have e2' : (y != y') = true := by simp [h2]
      have HF := Lib.hid (show (x == x' && y == y') = false by rw [e1, e2]; rfl)
      clear h2
      go_enter Try.func20, Try.ntmps20
      go_wp2_with fail
      go_ret
      rw [HF.out]
      exact ⟨rfl, ((Below.refl _ _).alloc (Nat.le_refl _) _).alloc (by simp) _⟩
  · have e1 : (x == x') = false := by simp [h1]
    have e1' : (x != x') = true := by simp [h1]
    have HF := Lib.hid (show (x == x' && y == y') = false by rw [e1]; rfl)
    clear h1
    go_enter Try.func20, Try.ntmps20
    go_wp2_with fail
    go_ret
    rw [HF.out]
    exact ⟨rfl, ((Below.refl _ _).alloc (Nat.le_refl _) _).alloc (by simp) _⟩

set_option maxRecDepth 100000 in
set_option maxHeartbeats 4000000 in
theorem equalR_calls {a b : Option Addr} {n m c d : Nat} {us vs : List (Int × Int)} {S S' : Nat → Prop} {w : World} (ha : Lst KRep w S a n us) (hb : Lst KRep w S' b m vs) (hn : n ≤ 17592186044416) (hm : m ≤ 17592186044416) :
    Calls Try.prog 19 #[.slice a n c, .slice b m d] w fun e w' => e = .returned (.bool (decide (us = vs))) ∧ Below w.heap.size w w' := by
  have HL := Lib.hid ha.1
  have HL2 := Lib.hid hb.1
  by_cases hnm : n = m
  rotate_left
  · have HF : Hid (decide (us = vs) = false) := by show _ = _; rw [decide_eq_false_iff_not]; rintro rfl; exact hnm (HL.out.symm.trans HL2.out)
    have hq : ((n : Int) != (m : Int)) = true := by simp; omega
    go_enter Try.func19, Try.ntmps19
    go_wp2_with fail
    go_ret
    exact ⟨ret_bool HF.out.symm, Below.refl _ _⟩
  subst hnm
  have hq : ((n : Int) != (n : Int)) = false := by simp
  go_enter Try.func19, Try.ntmps19
  go_wp2_with fail
  go_loopw [5, 13] (fun _ i wr => ∃ k : Nat, k ≤ n ∧ i = .int .i64 k ∧ Hid (SameUpto us vs k) ∧ Below w.heap.size w wr) (fun _ i _ => n - (intOf i).toNat)
  case atStart => exact ⟨0, Nat.zero_le _, rfl, fun j hj => by omega, Below.refl _ _⟩
  case round =>
    obtain ⟨k, hk, rfl, HJ, hbw⟩ := hrel
    by_cases hlt : k < n
    · obtain ⟨g0, s0, x, rfl, hg0, hx, hc0, hd0⟩ := (ha.below hbw).rep_at hlt
      obtain ⟨g1, s1, y, rfl, hg1, hy, hc1, hd1⟩ := (hb.below hbw).rep_at hlt
      have HX := Lib.hid (And.intro hx hy)
      have hneq := run_neqRep x.1 x.2 y.1 y.2
      clear hx hy
      by_cases hu : x = y
      · have HN := Lib.hid (HJ.out.succ (HX.out.1.trans (by rw [hu]; exact HX.out.2.symm)))
        have HT := Lib.hid (show (x.1 == y.1 && x.2 == y.2) = true by rw [hu]; simp)
        rw [HT.out] at hneq
        clear hu
        simp only [Bool.not_true] at hneq
        go_wp2_with (go_quiet (fail))
        go_roundw
        case rel => exact ⟨k + 1, by omega, by go_num, HN, below_drewN hbw _⟩
        case measure => simp [intOf]; omega
      · have HF : Hid (decide (us = vs) = false) := by
          show _ = _; rw [decide_eq_false_iff_not]; exact differ_at HX.out.1 HX.out.2 hu
        have HT := Lib.hid (show (x.1 == y.1 && x.2 == y.2) = false by
          rw [Bool.eq_false_iff]; intro h; simp at h; exact hu (Prod.ext h.1 h.2))
        rw [HT.out] at hneq
        simp only [Bool.not_false] at hneq
        clear hu
        go_wp2_with (go_quiet (fail))
        go_ret
        exact ⟨ret_bool HF.out.symm, below_drewN hbw _⟩
    · have HF : Hid (decide (us = vs) = true) := by show _ = _; rw [decide_eq_true_iff]; exact HJ.out.all (by rw [HL.out]; omega) (by rw [HL2.out]; omega)
      go_wp2_with fail
      go_ret
      exact ⟨ret_bool HF.out.symm, hbw⟩

set_option maxRecDepth 100000 in
set_option maxHeartbeats 4000000 in
theorem sSameReplies_calls {a b : Option Addr} {n m c d : Nat} {us vs : List (Int × Int)} {S S' : Nat → Prop} {w : World} (ha : Lst KRep w S a n us) (hb : Lst KRep w S' b m vs) (hn : n ≤ 17592186044416) (hm : m ≤ 17592186044416) :
    Calls Try.prog 9 #[.slice a n c, .slice b m d] w fun e w' => e = .returned (.bool (decide (us = vs))) ∧ Below w.heap.size w w' := by
  have HL := Lib.hid ha.1
  have HL2 := Lib.hid hb.1
  by_cases hnm : n = m
  rotate_left
  · have HF : Hid (decide (us = vs) = false) := by show _ = _; rw [decide_eq_false_iff_not]; rintro rfl; exact hnm (HL.out.symm.trans HL2.out)
    have hq : ((n : Int) != (m : Int)) = true := by simp; omega
    go_enter Try.func9, Try.ntmps9
    go_wp2_with fail
    go_ret
    exact ⟨ret_bool HF.out.symm, Below.refl _ _⟩
  subst hnm
  have hq : ((n : Int) != (n : Int)) = false := by simp
  go_enter Try.func9, Try.ntmps9
  go_wp2_with fail
  go_loopw [5] (fun i wr => ∃ k : Nat, k ≤ n ∧ i = .int .i64 k ∧ Hid (SameUpto us vs k) ∧ Below w.heap.size w wr) (fun i _ => n - (intOf i).toNat)
  case atStart => exact ⟨0, Nat.zero_le _, rfl, fun j hj => by omega, Below.refl _ _⟩
  case round =>
    obtain ⟨k, hk, rfl, HJ, hbw⟩ := hrel
    by_cases hlt : k < n
    · obtain ⟨g0, s0, x, rfl, hg0, hx, hc0, hd0⟩ := (ha.below hbw).rep_at hlt
      obtain ⟨g1, s1, y, rfl, hg1, hy, hc1, hd1⟩ := (hb.below hbw).rep_at hlt
      have HX := Lib.hid (And.intro hx hy)
      have hneq := run_neqRep x.1 x.2 y.1 y.2
      clear hx hy
      by_cases hu : x = y
      · have HN := Lib.hid (HJ.out.succ (HX.out.1.trans (by rw [hu]; exact HX.out.2.symm)))
        have HT := Lib.hid (show (x.1 == y.1 && x.2 == y.2) = true by rw [hu]; simp)
        rw [HT.out] at hneq
        clear hu
        simp only [Bool.not_true] at hneq
        go_wp2_with (go_quiet (fail))
        go_roundw
        case rel => exact ⟨k + 1, by omega, by go_num, HN, below_drewN hbw _⟩
        case measure => simp [intOf]; omega
      · have HF : Hid (decide (us = vs) = false) := by
          show _ = _; rw [decide_eq_false_iff_not]; exact differ_at HX.out.1 HX.out.2 hu
        have HT := Lib.hid (show (x.1 == y.1 && x.2 == y.2) = false by
          rw [Bool.eq_false_iff]; intro h; simp at h; exact hu (Prod.ext h.1 h.2))
        rw [HT.out] at hneq
        simp only [Bool.not_false] at hneq
        clear hu
        go_wp2_with (go_quiet (fail))
        go_ret
        exact ⟨ret_bool HF.out.symm, below_drewN hbw _⟩
    · have HF : Hid (decide (us = vs) = true) := by show _ = _; rw [decide_eq_true_iff]; exact HJ.out.all (by rw [HL.out]; omega) (by rw [HL2.out]; omega)
      go_wp2_with fail
      go_ret
      exact ⟨ret_bool HF.out.symm, hbw⟩

set_option maxRecDepth 100000 in
set_option maxHeartbeats 4000000 in
theorem eqReps_calls {a b : Option Addr} {n m c d : Nat} {us vs : List (Int × Int)} {S S' : Nat → Prop} {w : World} (ha : Lst KRep w S a n us) (hb : Lst KRep w S' b m vs) (hn : n ≤ 17592186044416) (hm : m ≤ 17592186044416) :
    Calls Try.prog 12 #[.slice a n c, .slice b m d] w fun e w' => e = .returned (.bool (decide (us = vs))) ∧ Below w.heap.size w w' := by
  have HL := Lib.hid ha.1
  have HL2 := Lib.hid hb.1
  by_cases hnm : n = m
  rotate_left
  · have HF : Hid (decide (us = vs) = false) := by show _ = _; rw [decide_eq_false_iff_not]; rintro rfl; exact hnm (HL.out.symm.trans HL2.out)
    have hq : ((n : Int) != (m : Int)) = true := by simp; omega
    go_enter Try.func12, Try.ntmps12
    go_wp2_with fail
    go_ret
    exact ⟨ret_bool HF.out.symm, Below.refl _ _⟩
  subst hnm
  have hq : ((n : Int) != (n : Int)) = false := by simp
  go_enter Try.func12, Try.ntmps12
  go_wp2_with fail
  go_loopw [5] (fun i wr => ∃ k : Nat, k ≤ n ∧ i = .int .i64 k ∧ Hid (SameUpto us vs k) ∧ Below w.heap.size w wr) (fun i _ => n - (intOf i).toNat)
  case atStart => exact ⟨0, Nat.zero_le _, rfl, fun j hj => by omega, Below.refl _ _⟩
  case round =>
    obtain ⟨k, hk, rfl, HJ, hbw⟩ := hrel
    by_cases hlt : k < n
    · obtain ⟨g0, s0, x, rfl, hg0, hx, hc0, hd0⟩ := (ha.below hbw).rep_at hlt
      obtain ⟨g1, s1, y, rfl, hg1, hy, hc1, hd1⟩ := (hb.below hbw).rep_at hlt
      have HX := Lib.hid (And.intro hx hy)
      have hneq := run_neqRep x.1 x.2 y.1 y.2
      clear hx hy
      by_cases hu : x = y
      · have HN := Lib.hid (HJ.out.succ (HX.out.1.trans (by rw [hu]; exact HX.out.2.symm)))
        have HT := Lib.hid (show (x.1 == y.1 && x.2 == y.2) = true by rw [hu]; simp)
        rw [HT.out] at hneq
        clear hu
        simp only [Bool.not_true] at hneq
        have kB : Below wr.heap.size wr wr.drew := (Below.refl wr.heap.size wr).drew
        go_wp2_with fail
        go_region_law (go_simp; go_at_call 20; refine eqReply_calls6.mono ?_; rw [HT.out]; rintro e w2 ⟨rfl, b2⟩)
        all_goals
          have hB2 := hbw.trans ((kB.trans b2).mono hbw.size)
          go_wp2_with fail
          go_roundw
          case rel => exact ⟨k + 1, by omega, by go_num, HN, hB2⟩
          case measure => simp [intOf]; omega
      · have HF : Hid (decide (us = vs) = false) := by
          show _ = _; rw [decide_eq_false_iff_not]; exact differ_at HX.out.1 HX.out.2 hu
        have HT := Lib.hid (show (x.1 == y.1 && x.2 == y.2) = false by
          rw [Bool.eq_false_iff]; intro h; simp at h; exact hu (Prod.ext h.1 h.2))
        rw [HT.out] at hneq
        simp only [Bool.not_false] at hneq
        clear hu
        have kB : Below wr.heap.size wr wr.drew := (Below.refl wr.heap.size wr).drew
        go_wp2_with fail
        go_region_law (go_simp; go_at_call 20; refine eqReply_calls6.mono ?_; rw [HT.out]; rintro e w2 ⟨rfl, b2⟩)
        all_goals
          have hB2 := hbw.trans ((kB.trans b2).mono hbw.size)
          go_wp2_with fail
          go_ret
          exact ⟨ret_bool HF.out.symm, hB2⟩
    · have HF : Hid (decide (us = vs) = true) := by show _ = _; rw [decide_eq_true_iff]; exact HJ.out.all (by rw [HL.out]; omega) (by rw [HL2.out]; omega)
      go_wp2_with fail
      go_ret
      exact ⟨ret_bool HF.out.symm, hbw⟩

set_option maxRecDepth 100000 in
set_option maxHeartbeats 4000000 in
theorem sameReplies_calls {a b : Option Addr} {n m c d : Nat} {us vs : List (Int × Int)} {S S' : Nat → Prop} {w : World} (ha : Lst KRep w S a n us) (hb : Lst KRep w S' b m vs) (hn : n ≤ 17592186044416) (hm : m ≤ 17592186044416) :
    Calls Try.prog 11 #[.slice a n c, .slice b m d] w fun e w' => e = .returned (.bool (decide (us = vs))) ∧ Below w.heap.size w w' := by
  obtain ⟨q, hq⟩ : ∃ q, decide (us = vs) = q := ⟨_, rfl⟩
  have HQ := Lib.hid hq
  go_enter Try.func11, Try.ntmps11
  go_wp2_with fail
  refine (equalR_calls ha hb hn hm).mono ?_
  rw [hq]
  clear hq ha hb
  rintro e w1 ⟨rfl, b1⟩
  go_wp2_with fail
  go_ret
  exact ⟨ret_bool HQ.out.symm, b1⟩

theorem szReps_calls {a : Option Addr} {n c : Nat} {r : Int} {w : World} (hn : n ≤ 9223372036854775807) (h0 : 0 ≤ r) (h1 : r ≤ 1048576) :
    Calls Try.prog 8 #[.slice a n c, .int .i64 r] w fun e w' => e = .returned (.int .i64 (if r - n < 0 then -1 else r - n)) ∧ w = w' := by
  by_cases h : r - (n : Int) < 0
  · rw [if_pos h]
    go_enter Try.func8, Try.ntmps8
    go_wp2
    go_ret
    exact ⟨rfl, rfl⟩
  · rw [if_neg h]
    go_enter Try.func8, Try.ntmps8
    go_wp2
    go_ret
    exact ⟨rfl, rfl⟩

set_option maxRecDepth 100000 in
set_option maxHeartbeats 2000000 in
theorem toReply_calls {k a : Int} {w : World} :
    Calls Try.prog 18 #[.agg #[.int .i64 k, .int .i64 a]] w fun e w' => e = .returned (.agg #[.int .i64 k, .int .i64 a]) ∧ Below w.heap.size w w' := by
  obtain ⟨V, hV⟩ : ∃ V, V = (w.alloc (.cells #[.int .i64 k, .int .i64 a] 45)).alloc (.cells #[.int .i64 0, .int .i64 0] 43) := ⟨_, rfl⟩
  have hB : Below w.heap.size w V := by rw [hV]; exact ((Below.refl _ _).alloc (Nat.le_refl _) _).alloc (by simp) _
  have hz : V.heap.size = w.heap.size + 2 := by rw [hV]; simp
  have R0 : Row V w.heap.size 45 #[.int .i64 k, .int .i64 a] := by
    rw [hV]; exact (heap_alloc_old _ _ (by simp)).trans (heap_alloc_new w _)
  have R1 : Row V (w.heap.size + 1) 43 #[.int .i64 0, .int .i64 0] := by
    rw [hV]
    have := heap_alloc_new (w.alloc (.cells #[.int .i64 k, .int .i64 a] 45)) (.cells #[.int .i64 0, .int .i64 0] 43)
    simpa [Row] using this
  have HB := Lib.hid hB
  have HR1 := Lib.hid R1
  have q0 := R0.cell 0
  have q1 := R0.cell 1
  have ql := R0.lt
  simp at q0 q1
  go_enter Try.func18, Try.ntmps18
  go_upto_region 1 with (fail)
  rw [← hV]
  have HZ := Lib.hid hz
  clear hV hB R0 R1
  have hres : Row (V.alloc (.cells #[.int .i64 k, .int .i64 a] 43)) (w.heap.size + 1) 43 #[.int .i64 0, .int .i64 0] := Row.below HR1.out ((Below.refl _ _).alloc (Nat.le_refl _) _)
  have HBc := Lib.hid (HB.out.alloc HB.out.size (.cells #[.int .i64 k, .int .i64 a] 43))
  go_wp2_with (refine wpList_store_row rfl 43 _ _ rfl (w.heap.size + 1) _ rfl rfl _ _ hres (by kernel_rfl) (by rfl) (by simp [Value.oneCell']) ?_)
  refine bodyPost_ret (results_cell_row rfl _ _ (w.heap.size + 1) _ _ _ _ rfl (setRow_heap _ _ _ _ _ _ hres) Try.underlying43 rfl (by kernel_rfl)) rfl ?_
  exact ⟨rfl, below_setRow HBc.out (by omega) _⟩

end Go.Proofs.Ythpamclljdcjpaa

/- A copy of a list of replies. -/
namespace Go.Proofs.Ythpamclljdcjpaa
open Go.RowKit

set_option maxRecDepth 100000 in
set_option maxHeartbeats 4000000 in
theorem toReps_calls {ao : Option Addr} {n cc : Nat} {rs : List (Int × Int)} {S : Nat → Prop} {w : World} (hT : Lst KRep w S ao n rs) (hn : n ≤ 1048576) :
    Calls Try.prog 10 #[.slice ao n cc] w fun e w' => ∃ a, e = .returned (.slice a n n) ∧ Own KRep 43 w' (fun k => w.heap.size ≤ k) (.slice a n n) n rs ∧ Below w.heap.size w w' := by
  have hinfo : (Try.prog.info? 43).map (fun i => (i.zero, i.size, i.bytes)) = some (some (.agg #[.int .i64 0, .int .i64 0]), 2, 16) := by kernel_rfl
  obtain ⟨i0, hi, hz0, hz1, hz2⟩ := info_parts hinfo
  have HL := Lib.hid hT.1
  go_enter Try.func10, Try.ntmps10
  go_wp2_with (at_make; go_must (refine wpList_make_full _ rfl _ _ 31 rfl w.heap.size 43 i0 (.agg #[.int .i64 0, .int .i64 0]) 2 Try.underlying31 hi hz0 hz1 _ _ _ _ n rfl rfl rfl rfl (by rw [hz2]; omega) (by unfold maxLen; omega) (Nat.le_refl _) ?_); intro w1 hown hg)
  have hb1 : Below w.heap.size w w1 := (Below.refl _ _).grown hg (Nat.le_refl _) (by simp)
  have hO : Own KRep 43 w1 (fun k => w.heap.size ≤ k) (.slice (some ⟨w.heap.size, 0, none⟩) n n) n (fillD ((0 : Int), (0 : Int)) rs 0) := by
    rw [fillD_zero, HL.out]
    exact Own.of_made (K := KRep) (z := .agg #[.int .i64 0, .int .i64 0]) hown (Nat.le_refl _) rfl ⟨[.int .i64 0], [.int .i64 0], fun _ => False, fun _ => False, rfl, rfl, rfl, fun _ h => h, fun _ h => h, fun _ h => h.elim⟩
  clear hown hg
  go_loopw [4] (fun i wr => ∃ k : Nat, k ≤ n ∧ i = .int .i64 k ∧ Own KRep 43 wr (fun k => w.heap.size ≤ k) (.slice (some ⟨w.heap.size, 0, none⟩) n n) n (fillD ((0 : Int), (0 : Int)) rs k) ∧ Below w.heap.size w wr) (fun i _ => n - (intOf i).toNat)
  case atStart => exact ⟨0, Nat.zero_le _, rfl, hO, hb1⟩
  case round =>
    obtain ⟨k, hk, rfl, hO, hbw⟩ := hrel
    by_cases hlt : k < n
    · obtain ⟨b, off, p, rfl, d0, hp, e0, e1⟩ := (hT.below hbw).rep_at hlt
      have HP := Lib.hid hp
      clear hp
      go_wp2_with fail
      refine toReply_calls.mono ?_
      rintro e w2 ⟨rfl, hb2⟩
      obtain ⟨g, cap, cs, F, p0, he, hgS, hp0, hcl, hu0, ho0, hF, hst⟩ := (hO.here.below hb2).focus hlt
      obtain rfl : w.heap.size = g := by simpa [Value.ownBlock] using congrArg Value.ownBlock he
      clear he
      rw [KRep_sz] at hcl hu0 hst
      obtain ⟨g0, hcs, hfz⟩ := hu0.cell
      obtain ⟨c0, c1, rfl⟩ : ∃ c0 c1, cs = [c0, c1] := by
        match cs, hcl with
        | [a, b], _ => exact ⟨a, b, rfl⟩
      have q0 := hcs 0 (by simp)
      have q1 := hcs 1 (by simp)
      simp only [Nat.add_zero, List.getElem?_cons_zero, List.getElem?_cons_succ] at q0 q1
      have f0 := hfz (k * 2)
      have f1 := hfz (k * 2 + 1)
      have hT2 := (Turn.set w2 ⟨w.heap.size, k * 2, none⟩ (.int .i64 p.1)).trans (Turn.set _ ⟨w.heap.size, k * 2 + 1, none⟩ (.int .i64 p.2)) (fun _ h _ => h)
      have hU2 := (hu0.set (i := 0) (u := .int .i64 p.1) (by simp)).set (i := 1) (u := .int .i64 p.2) (by simp)
      simp only [Nat.add_zero, List.set_cons_zero, List.set_cons_succ] at hU2
      have hO2 := hst _ (fun _ => False) [.int .i64 p.1, .int .i64 p.2] p rfl (hT2.mono (fun k hk _ => .inr hk)) hU2 ⟨[.int .i64 p.1], [.int .i64 p.2], fun _ => False, fun _ => False, rfl, rfl, rfl, fun _ h => h, fun _ h => h, fun _ h => h.elim⟩ (fun k hk => hk.elim)
      rw [fillD_step HP.out] at hO2
      have H2 := Lib.hid (And.intro (hO2.mono (S' := fun k => w.heap.size ≤ k) (fun k hk _ => hk.elim (fun h => h.1) (fun h => h.elim))) (hT2.below (hbw.trans (hb2.mono hbw.size)) (by have := hbw.size; have := hb2.size; omega) (fun k hk => by have e : k = w.heap.size := hk; omega)))
      clear hO2 hU2 hT2 hst hu0 ho0 hO hF hp0 hgS hcs hfz
      go_wp2_with fail
      go_roundw
      case rel => exact ⟨k + 1, by omega, by go_num, H2.out.1, H2.out.2⟩
      case measure => simp [intOf]; omega
    · obtain rfl : k = n := by omega
      have F : Hid (Own KRep 43 wr (fun k => w.heap.size ≤ k) (.slice (some ⟨w.heap.size, 0, none⟩) k k) k rs ∧ Below w.heap.size w wr) := by
        have := hO; rw [← HL.out, fillD_full, HL.out] at this; exact ⟨this, hbw⟩
      clear hO hbw
      go_wp2_with fail
      go_ret
      exact ⟨_, rfl, F.out.1, F.out.2⟩
end Go.Proofs.Ythpamclljdcjpaa

/- The exact law of SameReplies. -/
namespace Go.Proofs.Ythpamclljdcjpaa
open Go.RowKit

set_option maxHeartbeats 4000000 in
set_option maxRecDepth 100000 in
theorem lawSameReplies {a b : Option Addr} {n m c d : Nat} {us vs : List (Int × Int)} {w : World} (ha : Lst KRep w (fun _ => True) a n us) (hn : n ≤ 9223372036854775807) (hb : Lst KRep w (fun _ => True) b m vs) (hm : m ≤ 9223372036854775807) :
    Calls Try.prog 4 #[.slice a n c, .slice b m d] w fun e w' => e = .returned (.bool true) ∧ Below w.heap.size w w' := by
  have HA := Lib.hid ha
  have HB := Lib.hid hb
  clear ha hb
  by_cases h1 : (1048576 : Int) - (n : Int) < 0
  · go_enter Try.func4, Try.ntmps4
    go_wp2_with fail
    refine (szReps_calls hn (by omega) (by omega)).mono ?_
    rw [if_pos h1]
    rintro e w1 ⟨rfl, rfl⟩
    go_wp2_with fail
    go_ret
    exact ⟨rfl, Below.refl _ _⟩
  have hn2 : n ≤ 1048576 := by omega
  obtain ⟨r, hr⟩ : ∃ r : Int, r = (1048576 : Int) - (n : Int) := ⟨_, rfl⟩
  have HE1 := Lib.hid (show (if (1048576 : Int) - (n : Int) < 0 then (-1 : Int) else 1048576 - n) = r by rw [if_neg h1, hr])
  have hr0 : ¬ (r < 0) := by omega
  have hr1 : r ≤ 1048576 := by omega
  have HRr := Lib.hid hr
  clear hr h1
  by_cases h2 : r - (m : Int) < 0
  · go_enter Try.func4, Try.ntmps4
    go_wp2_with fail
    refine (szReps_calls hn (by omega) (by omega)).mono ?_
    rw [HE1.out]
    rintro e w1 ⟨rfl, rfl⟩
    go_wp2_with fail
    refine (szReps_calls hm (by omega) (by omega)).mono ?_
    rw [if_pos h2]
    rintro e w1 ⟨rfl, rfl⟩
    go_wp2_with fail
    go_ret
    exact ⟨rfl, Below.refl _ _⟩
  have hm2 : m ≤ 1048576 := by have := HRr.out; omega
  obtain ⟨s, hs⟩ : ∃ s : Int, s = r - (m : Int) := ⟨_, rfl⟩
  have HE2 := Lib.hid (show (if r - (m : Int) < 0 then (-1 : Int) else r - m) = s by rw [if_neg h2, hs])
  have hs0 : ¬ (s < 0) := by omega
  obtain ⟨p, hp⟩ : ∃ p, decide (us = vs) = p := ⟨_, rfl⟩
  have HP := Lib.hid hp
  have hpp : (p != p) = false := by simp
  clear hs h2 hp
  go_enter Try.func4, Try.ntmps4
  go_wp2_with fail
  refine (szReps_calls hn (by omega) (by omega)).mono ?_
  rw [HE1.out]
  rintro e w1 ⟨rfl, rfl⟩
  go_wp2_with fail
  refine (szReps_calls hm (by omega) (by omega)).mono ?_
  rw [HE2.out]
  rintro e w1 ⟨rfl, rfl⟩
  go_wp2_with fail
  refine (toReps_calls HA.out hn2).mono ?_
  rintro e w1 ⟨a1, rfl, o1, b1⟩
  have O1 := Lib.hid o1.lst.2.2.2
  have B1 := Lib.hid b1
  clear o1 b1
  go_wp2_with fail
  refine (toReps_calls (HB.out.below B1.out) hm2).mono ?_
  rintro e w2 ⟨a2, rfl, o2, b2⟩
  have O2 := Lib.hid o2.lst.2.2.2
  have O1 := Lib.hid (O1.out.below b2)
  have B2 := Lib.hid (B1.out.trans (b2.mono B1.out.size))
  clear o2 b2 B1
  go_wp2_with fail
  refine (sSameReplies_calls O1.out O2.out (by omega) (by omega)).mono ?_
  rw [HP.out]
  rintro e w3 ⟨rfl, b3⟩
  have B3 := Lib.hid (B2.out.trans (b3.mono B2.out.size))
  clear b3 B2 O1 O2
  go_wp2_with fail
  refine (toReps_calls (HA.out.below B3.out) hn2).mono ?_
  rintro e w4 ⟨a4, rfl, o4, b4⟩
  have O4 := Lib.hid o4.lst.2.2.2
  have B4 := Lib.hid (B3.out.trans (b4.mono B3.out.size))
  clear o4 b4 B3
  go_wp2_with fail
  refine (toReps_calls (HB.out.below B4.out) hm2).mono ?_
  rintro e w5 ⟨a5, rfl, o5, b5⟩
  have O5 := Lib.hid o5.lst.2.2.2
  have O4 := Lib.hid (O4.out.below b5)
  have B5 := Lib.hid (B4.out.trans (b5.mono B4.out.size))
  clear o5 b5 B4
  go_wp2_with fail
  refine (sameReplies_calls O4.out O5.out (by omega) (by omega)).mono ?_
  rw [HP.out]
  rintro e w6 ⟨rfl, b6⟩
  have O5 := Lib.hid (O5.out.below b6)
  have O4 := Lib.hid (O4.out.below b6)
  have B6 := Lib.hid (B5.out.trans (b6.mono B5.out.size))
  clear b6 B5
  go_wp2_with fail
  refine (toReps_calls (HA.out.below B6.out) hn2).mono ?_
  rintro e w7 ⟨a7, rfl, o7, b7⟩
  have O7 := Lib.hid o7.lst.2.2.2
  have O5 := Lib.hid (O5.out.below b7)
  have O4 := Lib.hid (O4.out.below b7)
  have B7 := Lib.hid (B6.out.trans (b7.mono B6.out.size))
  clear o7 b7 B6
  go_wp2_with fail
  refine (eqReps_calls O4.out O7.out (by omega) (by omega)).mono ?_
  rw [show decide (us = us) = true by simp]
  rintro e w8 ⟨rfl, b8⟩
  have O5 := Lib.hid (O5.out.below b8)
  have B8 := Lib.hid (B7.out.trans (b8.mono B7.out.size))
  clear b8 B7 O4 O7
  go_wp2_with fail
  refine (toReps_calls (HB.out.below B8.out) hm2).mono ?_
  rintro e w9 ⟨a9, rfl, o9, b9⟩
  have O9 := Lib.hid o9.lst.2.2.2
  have O5 := Lib.hid (O5.out.below b9)
  have B9 := Lib.hid (B8.out.trans (b9.mono B8.out.size))
  clear o9 b9 B8
  go_wp2_with fail
  refine (eqReps_calls O5.out O9.out (by omega) (by omega)).mono ?_
  rw [show decide (vs = vs) = true by simp]
  rintro e w10 ⟨rfl, b10⟩
  have B10 := Lib.hid (B9.out.trans (b10.mono B9.out.size))
  clear b10 B9
  go_wp2_with fail
  go_ret
  exact ⟨rfl, B10.out⟩
end Go.Proofs.Ythpamclljdcjpaa

/- Pages that came in, opened to what is known of them in memory. -/
namespace Go.Proofs.Ythpamclljdcjpaa
open Go.Joins Go.ChangeShapes Go.WideShapes Go.RowKit Go.Deep
set_option linter.unusedVariables false

theorem maxLen_le : maxLen ≤ 9223372036854775807 := by decide
section
variable {H : Type} {enc : TypeId × Value → H} {P : Program} {w : World} {base : Nat} {spare : Nat → Bool} {held : Bool}
/-- A slice that came in reads as a list, where each of its elements reads. -/
theorem lst_of_trod {α : Type} {K : Lay α} {t e : TypeId} {fuel : Nat} {cs : List Value} {x : DataW H × List MemPlace} (ht : P.underlying t = some (.slice e)) (hC : P.cellsOf e = K.sz) (hz : 0 < K.sz)
    (hK : ∀ (fuel : Nat) (cs : List Value) (x : DataW H × List MemPlace), cs.length = K.sz → DataW.trod enc P w base spare held fuel e cs = some x → ∃ d, K.rd w (fun _ => True) cs d)
    (h : DataW.trod enc P w base spare held fuel t cs = some x) : ∃ a n c xs, cs = [.slice a n c] ∧ n ≤ c ∧ c ≤ maxLen ∧ Lst K w (fun _ => True) a n xs := by
  rcases open_slice ht h with h0 | ⟨a, len, cap, m, n, D, Pl, hcs, hb, hl, hm, hmm, hx, hi⟩
  · exact ⟨none, 0, 0, [], h0.1, Nat.le_refl _, Nat.zero_le _, Lst.nil⟩
  · have hel : ∀ i, i < len → ∃ cs' d, cs'.length = K.sz ∧ (∀ j, j < K.sz → w.cell? ((a.add (i * K.sz)).add j) = cs'[j]?) ∧ K.rd w (fun _ => True) cs' d := by
      intro i hi'
      have him : i < m := by rw [hmm]; split <;> omega
      obtain ⟨cs', hc, ht'⟩ := hi i him
      rw [hC] at hc
      obtain ⟨_, hcl, hat⟩ := World.cells?_some hc
      obtain ⟨d, hd⟩ := hK _ _ _ hcl ht'
      exact ⟨cs', d, hcl, fun j hj => hat j hj, hd⟩
    have hlist : ∀ k, k ≤ len → ∃ xs : List α, xs.length = k ∧ ∀ (i : Nat) (d : α), xs[i]? = some d → ∃ cs', cs'.length = K.sz ∧ (∀ j, j < K.sz → w.cell? ((a.add (i * K.sz)).add j) = cs'[j]?) ∧ K.rd w (fun _ => True) cs' d := by
      intro k
      induction k with
      | zero => exact fun _ => ⟨[], rfl, fun i d hd => by simp at hd⟩
      | succ k ih =>
        intro hk
        obtain ⟨xs, hxl, hxs⟩ := ih (by omega)
        obtain ⟨cs', d, h1, h2, h3⟩ := hel k (by omega)
        refine ⟨xs ++ [d], by simp [hxl], fun i d' hd => ?_⟩
        by_cases e : i < k
        · rw [List.getElem?_append_left (by omega)] at hd; exact hxs i d' hd
        · have hi' : i = k := by have := (List.getElem?_eq_some_iff.1 hd).1; simp at this; omega
          subst hi'
          rw [List.getElem?_append_right (by omega), hxl, Nat.sub_self] at hd
          simp at hd; subst hd
          exact ⟨cs', h1, h2, h3⟩
    obtain ⟨xs, hxl, hxs⟩ := hlist len (Nat.le_refl _)
    refine ⟨some a, len, cap, xs, hcs, hl, hm, hxl, fun h0 => ?_⟩
    obtain ⟨b, off, spot⟩ := a
    obtain ⟨cs0, d0, hl0, hc0, _⟩ := hel 0 h0
    have e0 : w.cell? (((⟨b, off, spot⟩ : Addr).add (0 * K.sz)).add 0) = some (cs0[0]'(by omega)) := by rw [hc0 0 hz]; exact List.getElem?_eq_getElem _
    have hspot : spot = none := by simpa [Addr.add] using World.cell?_spot e0
    subst hspot
    have hb' : b < w.heap.size := by
      have := World.block_lt_of_cell? w _ e0
      rwa [add_block, add_block] at this
    refine ⟨b, off, rfl, hb', trivial, fun j d hd => ?_⟩
    obtain ⟨cs', h1, h2, h3⟩ := hxs j d hd
    refine ⟨cs', h1, fun i hi' => ?_, h3⟩
    rw [← h2 i hi', Go.WideShapes.add_plain, Go.WideShapes.add_plain]
end

section
variable {H : Type} {enc : TypeId × Value → H} {P : Program} {w : World} {base : Nat} {spare : Nat → Bool} {held : Bool}
theorem four_fields {t : TypeId} {f0 f1 f2 f3 : Field} {fuel : Nat} {c0 c1 c2 c3 : Value} {x : DataW H × List MemPlace} (hs : P.underlying t = some (.struct #[f0, f1, f2, f3])) (hone : oneCellFields P #[f0, f1, f2, f3] = true)
    (h : DataW.trod enc P w base spare held fuel t [c0, c1, c2, c3] = some x) :
    ∃ (n : Nat) (y0 y1 y2 y3 : DataW H × List MemPlace), DataW.trod enc P w base spare held n f0.type [c0] = some y0 ∧ DataW.trod enc P w base spare held n f1.type [c1] = some y1 ∧ DataW.trod enc P w base spare held n f2.type [c2] = some y2 ∧ DataW.trod enc P w base spare held n f3.type [c3] = some y3 := by
  obtain ⟨y0, y1, y2, y3, n, _, _, h0, h1, h2, h3⟩ := trod_struct4 hs h
  obtain ⟨o0, k0⟩ := hone_of hone 0 f0 rfl
  obtain ⟨o1, k1⟩ := hone_of hone 1 f1 rfl
  obtain ⟨o2, k2⟩ := hone_of hone 2 f2 rfl
  obtain ⟨o3, k3⟩ := hone_of hone 3 f3 rfl
  exact ⟨n, y0, y1, y2, y3, by simpa [o0, k0] using h0, by simpa [o1, k1] using h1, by simpa [o2, k2] using h2, by simpa [o3, k3] using h3⟩
end

section
variable {H : Type} {enc : TypeId × Value → H} {w : World} {base : Nat} {spare : Nat → Bool} {held : Bool}
theorem bool_of_trod {fuel : Nat} {cs : List Value} {x : DataW H × List MemPlace} (h : DataW.trod enc Try.prog w base spare held fuel 4 cs = some x) : ∃ d, KBool.rd w (fun _ => True) cs d := by
  obtain ⟨b, rfl, _⟩ := DataW.trod_bool Try.underlying4 h
  exact ⟨b, rfl⟩
end
end Go.Proofs.Ythpamclljdcjpaa

/- Slices of whole numbers joined; two that are alike, as the program looks for them: it sorts. -/
namespace Go.Proofs.Ythpamclljdcjpaa
open Go.RowKit Go.Sort

/-- A slice of numbers that is owned, as a row of cells. -/
theorem Own.rowI {t : TypeId} {w : World} {S : Nat → Prop} {g n cap : Nat} {xs : List Int} (h : Own KInt t w S (.slice (some ⟨g, 0, none⟩) n cap) n xs) :
    S g ∧ ∃ cur, Row w g t cur ∧ n ≤ cap ∧ cap ≤ maxLen ∧ cur.size = cap * 1 ∧ cur.toList.take n = xs.map (Value.int .i64) := by
  have hl := h.1
  rcases h.2 with ⟨h2, _⟩ | ⟨g', cap', cur, F, hv, hg, hr, h1, h2, h3, hF, hD, hc⟩
  · cases h2
  · cases hv
    refine ⟨hg, cur, hr, h1, h2, h3, ?_⟩
    apply List.ext_getElem?
    intro j
    by_cases hj : j < n
    · rw [List.getElem?_take_of_lt hj]
      obtain ⟨x, hx⟩ : ∃ x, xs[j]? = some x := ⟨_, List.getElem?_eq_getElem (by omega)⟩
      obtain ⟨cs, hcl, hcs, ho⟩ := hc j x hx
      obtain rfl : cs = [.int .i64 x] := ho
      have := hcs 0 (show 0 < 1 by omega)
      rw [show KInt.sz = 1 from rfl, Nat.mul_one, Nat.add_zero] at this
      rw [Array.getElem?_toList, this, List.getElem?_map, hx]; rfl
    · rw [List.getElem?_take_eq_none (by omega), List.getElem?_eq_none (by simp; omega)]
theorem Own.of_rowI {t : TypeId} {w : World} {S : Nat → Prop} {g n cap B : Nat} {xs : List Int} (h : w.ownsRow B t 1 (.slice (some ⟨g, 0, none⟩) n cap) n (xs.map (Value.int .i64))) (hg : S g) : Own KInt t w S (.slice (some ⟨g, 0, none⟩) n cap) n xs := by
  obtain ⟨h1, h2⟩ := h
  refine Own.of_row (cells := xs.map (Value.int .i64)) (F := fun _ _ => False) (K := KInt) ⟨h1, ?_⟩ (by simpa using h1) (fun g' h => by simp [Value.ownBlock] at h; exact h ▸ hg) (fun _ _ h => h.elim) (fun _ _ _ h => h.elim) (fun j x hj => ⟨[.int .i64 x], rfl, fun i hi => ?_, rfl⟩)
  · rcases h2 with h2 | ⟨g', cap', cur, hv, _, r⟩
    · exact .inl h2
    · exact .inr ⟨g', cap', cur, hv, Nat.zero_le _, r⟩
  · obtain rfl : i = 0 := by have : i < 1 := hi; omega
    rw [show KInt.sz = 1 from rfl, Nat.mul_one, Nat.add_zero, List.getElem?_map, hj]; rfl

end Go.Proofs.Ythpamclljdcjpaa

namespace Go.Proofs.Ythpamclljdcjpaa
open Go.RowKit
section
variable {P : Program} {α : Type} {K : Lay α} {w : World} {ops : Array Oper} {rest : List Oper} {o : Oper} {a : Act} {Q : Exit → Act → World → Prop}
/-- append(nil, make([]E, k)...): a new slice of k zeros. -/
theorem wpList_append_zeros_nil (hgd : o.guard = none) (s x : Operand) (t tn : TypeId) (ho : o.op = .call { callee := .builtin .append, args := #[s, x], argTypes := #[t, tn] })
    (e : TypeId) (i : TypeInfo) (z : Value) (bytes : Nat) (kn kq : IntKind) (ht : P.underlying t = some (.slice e)) (htn : P.underlying tn = some (.int kn)) (hi : P.info? e = some i) (hz : i.zero = some z)
    (hsize : i.size = K.sz) (hby : i.bytes = bytes) (hzs : z.cells.size = K.sz) (hsz : 0 < K.sz)
    {k : Nat} {y : α} (hs : a.eval s = .slice none 0 0) (hx : a.eval x = .int kq k) (hy : ∀ w, K.own w (fun _ => False) z.cells.toList y)
    (h0 : 0 < k) (h63 : k ≤ maxLen) (hbytes : k * bytes ≤ 140737488355328)
    (h : ∀ v' w', Own K e w' (fun j => w.heap.size ≤ j) v' k (List.replicate k y) → Below w.heap.size w w' → wpList P ops Q rest (a.put o.dst v') w') : wpList P ops Q (o :: rest) a w := by
  subst hby
  have hsmall : k ≤ 9223372036854775807 := by simp only [maxLen] at h63; omega
  have hrun := Lib.run_append_grow_zeros w t tn o.type e i z kq kn ht htn hi hz none 0 0 []
    (by simpa using Go.run_firstCells_none (P := P) (w := w.drew) i.size 0 0 0) k h0 (by omega) (by omega) (by omega) (by omega) (growslice_fits (by omega) (by rw [Nat.zero_add]; exact hbytes))
  refine wpList_plain hgd fun K' hK' => ?_
  unfold Oper.wp execOp
  simp only [ho, resolve, invoke, builtin, Sem.run_bind, Sem.run_pure, Result.andThen_ok, List.map_toArray, List.map_cons, List.map_nil, hs, hx, hrun]
  have hge := grownCap_ge w (0 + k) 0 e
  have hle := grownCap_le_maxLen w (0 + k) 0 e (by omega)
  have hb : Below w.heap.size w (w.drew.alloc (.cells (([] : List Value).toArray ++ Builtin.zeroCells z.cells k ++ Builtin.zeroCells z.cells (grownCap w (0 + k) 0 e - (0 + k))) e)) := Turn.none_ ((Turn.drew_ _ w).trans (Turn.alloc _ w.drew _) (fun _ h _ => h))
  refine hK' _ _ (h _ _ ?_ hb)
  have hzl : (Builtin.zeroCells z.cells k).size = k * K.sz := by rw [size_zeroCells, hzs]
  have hzt : (Builtin.zeroCells z.cells k).toList.length = k * K.sz := hzl
  rw [Nat.zero_add] at hge hle ⊢
  refine Own.of_row (F := fun _ _ => False) (cells := (Builtin.zeroCells z.cells k).toList) ⟨by rw [hzt], .inr ⟨w.heap.size, _, _, rfl, Nat.zero_le _, heap_alloc_new w.drew _, hge, hle, ?_, ?_⟩⟩ (by simp) (fun g' hg' => ?_) (fun j q hq => hq.elim) (fun i j q hi hj => hi.elim) (fun j y' hj => ?_)
  · simp only [Array.size_append, List.size_toArray, List.length_nil, size_zeroCells, hzs, Nat.zero_add, ← Nat.add_mul]; congr 1; omega
  · have e1 : k * K.sz = (Builtin.zeroCells z.cells k).toList.length := hzt.symm
    simp only [Array.toList_append, List.nil_append]
    rw [e1]; exact List.take_left
  · simp [Value.ownBlock] at hg'; omega
  · rw [List.getElem?_replicate] at hj
    split at hj
    · rename_i hjk
      injection hj with hj; subst hj
      refine ⟨z.cells.toList, by simpa using hzs, fun i hi => ?_, K.own_mono (hy _) (fun _ h _ => h.elim)⟩
      have h2 := Nat.mul_le_mul_right K.sz (show j + 1 ≤ k by omega)
      rw [Nat.add_mul] at h2
      have h3 : (j * K.sz + i) % z.cells.size = i := by rw [hzs, Nat.mul_comm, Nat.mul_add_mod, Nat.mod_eq_of_lt hi]
      have h4 : j * K.sz + i < k * z.cells.size := by rw [hzs]; omega
      simp only [hzs] at h3 h4
      simp [Builtin.zeroCells, hzs, hi, h3, h4]
    · cases hj
end
/-- The first elements of what is owned. -/
theorem Own.first {α : Type} {K : Lay α} {t : TypeId} {w : World} {S : Nat → Prop} {g n cap m : Nat} {xs : List α} (h : Own K t w S (.slice (some ⟨g, 0, none⟩) n cap) n xs) (hm : m ≤ n) : Own K t w S (.slice (some ⟨g, 0, none⟩) m cap) m (xs.take m) := by
  have hl := h.1
  rcases h.2 with ⟨h2, _⟩ | ⟨g', cap', cur, F, hv, hg, hr, h1, h2, h3, hF, hD, hc⟩
  · cases h2
  · cases hv
    refine ⟨by simp; omega, .inr ⟨g, cap, cur, F, rfl, hg, hr, by omega, h2, h3, hF, hD, fun j x hj => hc j x ?_⟩⟩
    rw [List.getElem?_take] at hj
    split at hj
    · exact hj
    · cases hj

end Go.Proofs.Ythpamclljdcjpaa

namespace Go.Proofs.Ythpamclljdcjpaa
open Go.RowKit
theorem flatten_snoc {α : Type} {ms : List (List α)} {k : Nat} {m : List α} (h : ms[k]? = some m) : (ms.take (k + 1)).flatten = (ms.take k).flatten ++ m := by
  obtain ⟨hk, rfl⟩ := List.getElem?_eq_some_iff.1 h
  rw [List.take_succ_eq_append_getElem hk, List.flatten_append]; simp [List.flatten]
theorem flatten_take_le {α : Type} (ms : List (List α)) (k : Nat) : (ms.take k).flatten.length ≤ ms.flatten.length := by
  have h : ms.flatten = (ms.take k).flatten ++ (ms.drop k).flatten := by rw [← List.flatten_append, List.take_append_drop]
  rw [h, List.length_append]; omega

end Go.Proofs.Ythpamclljdcjpaa

/- Chapter 4 of the model: runs that are found and taken; pages that are counted; how great a block is. -/
namespace Go.Proofs.Ythpamclljdcjpaa
open Go.RowKit

/-- The first run of n free pages, or -1. -/
def runAt (n : Nat) (ps : List Pg) : Int := match runFrom n 0 ps with
  | some i => (i : Int)
  | none => -1
theorem freeN_snoc : ∀ {f : Nat} {ps : List Pg} {p : Pg}, freeN f ps = true → ps[f]? = some p → p.kind = 0 → freeN (f + 1) ps = true
  | 0, [], p, _, h, _ => by simp at h
  | 0, q :: r, p, _, h, h0 => by simp at h; subst h; simp [freeN, h0]
  | f + 1, [], p, _, h, _ => by simp at h
  | f + 1, q :: r, p, h1, h, h0 => by
    rw [freeN] at h1 ⊢
    simp only [Bool.and_eq_true] at h1 ⊢
    exact ⟨h1.1, freeN_snoc h1.2 (by simpa using h) h0⟩
theorem freeN_no : ∀ {n f : Nat} {ps : List Pg} {p : Pg}, f < n → ps[f]? = some p → p.kind ≠ 0 → freeN n ps = false
  | 0, f, ps, p, h, _, _ => by omega
  | n + 1, f, [], p, _, h, _ => by simp at h
  | n + 1, 0, q :: r, p, _, h, h0 => by simp at h; subst h; simp [freeN, h0]
  | n + 1, f + 1, q :: r, p, hf, h, h0 => by
    rw [freeN, freeN_no (n := n) (f := f) (by omega) (by simpa using h) h0]; simp
theorem freeN_short : ∀ {n : Nat} {ps : List Pg}, ps.length < n → freeN n ps = false
  | 0, ps, h => by omega
  | n + 1, [], _ => rfl
  | n + 1, q :: r, h => by rw [freeN, freeN_short (n := n) (by simpa using h)]; simp
theorem runFrom_skip {n : Nat} : ∀ {f k : Nat} {ps : List Pg} {p : Pg}, f < n → ps[f]? = some p → p.kind ≠ 0 → runFrom n k ps = runFrom n (k + f + 1) (ps.drop (f + 1))
  | f, k, [], p, _, h, _ => by simp at h
  | 0, k, q :: r, p, hf, h, h0 => by
    rw [runFrom, freeN_no hf h h0]; simp
  | f + 1, k, q :: r, p, hf, h, h0 => by
    rw [runFrom, freeN_no hf h h0]
    simp only [Bool.false_eq_true, if_false, List.drop_succ_cons]
    rw [runFrom_skip (f := f) (by omega) (by simpa using h) h0]
    congr 1; omega
theorem runFrom_short {n : Nat} : ∀ {k : Nat} {ps : List Pg}, ps.length < n → runFrom n k ps = none
  | k, [], _ => rfl
  | k, q :: r, h => by
    rw [runFrom, freeN_short h]
    simp only [Bool.false_eq_true, if_false]
    exact runFrom_short (by simp at h; omega)

end Go.Proofs.Ythpamclljdcjpaa

/- Chapter 4 of the model: blocks that are dropped. -/
namespace Go.Proofs.Ythpamclljdcjpaa
open Go.RowKit

/-- What is dropped at a place: the slot, or the run of the page. -/
def dropAt (ps : List Pg) (st : Nat) : List Pg := match ps[st / 16]? with
  | none => ps
  | some p => if p.kind = 1 then ps.set (st / 16) (freeSlot p (st % 16 / (sizeW p.cls).toNat)) else setMany ps (st / 16) Pg.free p.run.toNat

end Go.Proofs.Ythpamclljdcjpaa

/- Chapter 4: runs of pages are whole; what is held at a place. -/
namespace Go.Proofs.Ythpamclljdcjpaa
open Go.RowKit

/-- How many pages a run lacks behind the first k. -/
def leftFrom (l : Int) : List Pg → Nat → Int
  | _, 0 => l
  | [], _ + 1 => l
  | p :: r, k + 1 => leftFrom (nextLeft l p) r k
theorem leftFrom_zero (l : Int) (ps : List Pg) : leftFrom l ps 0 = l := by cases ps <;> rfl
theorem leftFrom_succ : ∀ {ps : List Pg} {l : Int} {k : Nat} {p : Pg}, ps[k]? = some p → leftFrom l ps (k + 1) = nextLeft (leftFrom l ps k) p
  | [], l, k, p, h => by simp at h
  | q :: r, l, 0, p, h => by simp at h; subst h; simp [leftFrom, leftFrom_zero]
  | q :: r, l, k + 1, p, h => by
    have := leftFrom_succ (ps := r) (l := nextLeft l q) (k := k) (p := p) (by simpa using h)
    simpa [leftFrom] using this
theorem whole_iff : ∀ (ps : List Pg) (l : Int), whole l ps = true ↔ (∀ k p, ps[k]? = some p → decide (p.kind = 3) = decide (0 < leftFrom l ps k)) ∧ leftFrom l ps ps.length = 0
  | [], l => by simp [whole, leftFrom]
  | q :: r, l => by
    unfold whole
    constructor
    · intro h
      split at h
      · rename_i h1
        obtain ⟨h2, h3⟩ := (whole_iff r _).1 h
        refine ⟨fun k p hk => ?_, by simpa [leftFrom] using h3⟩
        cases k with
        | zero => simp at hk; subst hk; exact h1
        | succ k => exact h2 k p (by simpa using hk)
      · cases h
    · rintro ⟨h1, h2⟩
      have h3 := h1 0 q (by simp)
      rw [leftFrom_zero] at h3
      rw [if_pos h3]
      exact (whole_iff r _).2 ⟨fun k p hk => h1 (k + 1) p (by simpa using hk), by simpa [leftFrom] using h2⟩
def leftN (ps : List Pg) (k : Nat) : Int := leftFrom 0 ps k
theorem leftN_succ {ps : List Pg} {k : Nat} {p : Pg} (h : ps[k]? = some p) : leftN ps (k + 1) = nextLeft (leftN ps k) p := leftFrom_succ h
theorem leftN_zero (ps : List Pg) : leftN ps 0 = 0 := leftFrom_zero 0 ps
/-- It is the one function that goes so. -/
theorem leftN_of {ps : List Pg} {L : Nat → Int} (h0 : L 0 = 0) (h : ∀ k p, ps[k]? = some p → L (k + 1) = nextLeft (L k) p) : ∀ k, k ≤ ps.length → leftN ps k = L k
  | 0, _ => by rw [leftN_zero, h0]
  | k + 1, hk => by
    have hx := List.getElem?_eq_getElem (l := ps) (i := k) (by omega)
    rw [leftN_succ hx, leftN_of h0 h k (by omega), ← h k _ hx]

section
variable {ps : List Pg} (hv : pagesFault ps = 0)
include hv
theorem ok_page {k : Nat} {p : Pg} (h : ps[k]? = some p) : pageFault p = 0 := (pagesFault_ok hv).2.1 p (List.mem_of_getElem? h)
theorem ok_rest {k : Nat} {p : Pg} (h : ps[k]? = some p) : p.kind = 3 ↔ 0 < leftN ps k := by
  have := ((whole_iff ps 0).1 (pagesFault_ok hv).2.2).1 k p h
  simpa [leftN] using this
theorem ok_end : leftN ps ps.length = 0 := ((whole_iff ps 0).1 (pagesFault_ok hv).2.2).2
theorem ok_run {k : Nat} {p : Pg} (h : ps[k]? = some p) (h2 : p.kind = 2) : 1 ≤ p.run ∧ p.run ≤ 4 := by
  rcases pageFault_ok (ok_page hv h) with h | h | h <;> omega
/-- Where a run lacks pages, one begins it. -/
theorem run_head : ∀ k, k ≤ ps.length → 0 < leftN ps k → ∃ h q, h < k ∧ ps[h]? = some q ∧ q.kind = 2 ∧ leftN ps k = q.run - ((k : Int) - h) ∧ ∀ j p, h < j → j < k → ps[j]? = some p → p.kind = 3
  | 0, _, h => by rw [leftN_zero] at h; omega
  | k + 1, hk, h => by
    have hx := List.getElem?_eq_getElem (l := ps) (i := k) (by omega)
    have hs := leftN_succ hx
    have hr := ok_rest hv hx
    by_cases h2 : (ps[k]).kind = 2
    · refine ⟨k, _, by omega, hx, h2, ?_, fun j p h1 h2 => by omega⟩
      rw [hs, nextLeft, if_pos h2]; omega
    · by_cases h3 : (ps[k]).kind = 3
      · have hl := hr.1 h3
        obtain ⟨g, q, h4, h5, h6, h7, h8⟩ := run_head k (by omega) hl
        refine ⟨g, q, by omega, h5, h6, ?_, fun j p h9 h10 hj => ?_⟩
        · rw [hs, nextLeft, if_neg h2, if_pos h3, h7]; omega
        · by_cases e : j = k
          · subst e; rw [hx] at hj; injection hj with hj; rw [← hj]; exact h3
          · exact h8 j p h9 (by omega) hj
      · rw [hs, nextLeft, if_neg h2, if_neg h3] at h
        exact absurd (hr.2 h) h3
theorem head_of_rest {k : Nat} {p : Pg} (h : ps[k]? = some p) (h3 : p.kind = 3) : ∃ g q, g < k ∧ ps[g]? = some q ∧ q.kind = 2 ∧ (k : Int) - g < q.run ∧ headOf ps k = g := by
  have hk := (List.getElem?_eq_some_iff.1 h).1
  have hl := (ok_rest hv h).1 h3
  obtain ⟨g, q, h4, h5, h6, h7, h8⟩ := run_head hv k (by omega) hl
  refine ⟨g, q, h4, h5, h6, by omega, ?_⟩
  have : ∀ j, g ≤ j → j ≤ k → headOf ps j = g := by
    intro j
    induction j with
    | zero => intro h1 _; have : g = 0 := by omega
              subst this; rfl
    | succ j ih =>
      intro h1 h2
      unfold headOf
      by_cases e : g = j + 1
      · subst e; rw [h5]; simp [h6]
      · have hx := List.getElem?_eq_getElem (l := ps) (i := j + 1) (by omega)
        have hk3 : (ps[j + 1]).kind = 3 := by
          by_cases e2 : j + 1 = k
          · subst e2; rw [hx] at h; injection h with h; rw [h]; exact h3
          · exact h8 _ _ (by omega) (by omega) hx
        rw [hx]; simp only [Option.map_some, hk3, if_true]
        exact ih (by omega) (by omega)
  exact this k (by omega) (Nat.le_refl _)
/-- A run has all its pages. -/
theorem run_whole {g : Nat} {q : Pg} (h : ps[g]? = some q) (h2 : q.kind = 2) : ∀ j : Nat, (j : Int) ≤ q.run - 1 → g + 1 + j ≤ ps.length ∧ leftN ps (g + 1 + j) = q.run - 1 - j ∧ ∀ i p, g < i → i < g + 1 + j → ps[i]? = some p → p.kind = 3
  | 0, _ => by
    have hk := (List.getElem?_eq_some_iff.1 h).1
    refine ⟨by omega, ?_, fun i p h1 h2 => by omega⟩
    rw [Nat.add_zero, leftN_succ h, nextLeft, if_pos h2]; simp
  | j + 1, hj => by
    obtain ⟨h3, h4, h5⟩ := run_whole h h2 j (by omega)
    have hlt : g + 1 + j < ps.length := by
      rcases Nat.lt_or_ge (g + 1 + j) ps.length with h6 | h6
      · exact h6
      · have e : g + 1 + j = ps.length := by omega
        rw [e, ok_end hv] at h4; omega
    have hx := List.getElem?_eq_getElem (l := ps) (i := g + 1 + j) hlt
    have hk3 := (ok_rest hv hx).2 (by omega)
    refine ⟨by omega, ?_, fun i p h6 h7 hi => ?_⟩
    · rw [show g + 1 + (j + 1) = g + 1 + j + 1 by omega, leftN_succ hx, nextLeft, if_neg (by omega), if_pos hk3, h4]; omega
    · by_cases e : i = g + 1 + j
      · subst e; rw [hx] at hi; injection hi with hi; rw [← hi]; exact hk3
      · exact h5 i p h6 (by omega) hi
theorem run_fits {g : Nat} {q : Pg} (h : ps[g]? = some q) (h2 : q.kind = 2) : (g : Int) + q.run ≤ ps.length := by
  have hr := ok_run hv h h2
  obtain ⟨h1, _, _⟩ := run_whole hv h h2 (q.run - 1).toNat (by omega)
  omega

/-- What is held at a place, by the kind of its page. -/
theorem held_no {a : Int} (h : within 0 ((ps.length : Int) * 16 - 1) [a] = false) : heldAt ps a = (3, none) := by unfold heldAt; rw [if_pos hv, h]; rfl
theorem held_free {a : Nat} {p : Pg} (ha : a < ps.length * 16) (h : ps[a / 16]? = some p) (h0 : p.kind = 0) : heldAt ps a = (4, none) := by
  have hh : headOf ps (a / 16) = a / 16 := by
    cases hk : a / 16 with
    | zero => rfl
    | succ k => unfold headOf; rw [← hk, h]; simp [h0]
  unfold heldAt
  rw [if_pos hv, if_pos (within_yes1 (by omega) (by omega)), Int.toNat_natCast]
  unfold blockAt
  rw [hh, h]; simp [h0]
theorem held_slot {a : Nat} {p : Pg} (ha : a < ps.length * 16) (h : ps[a / 16]? = some p) (h1 : p.kind = 1) :
    heldAt ps a = if p.used[a % 16 / (sizeW p.cls).toNat]? = some true then (0, some (.slot (a / 16) p.cls (a % 16 / (sizeW p.cls).toNat))) else (4, none) := by
  have hh : headOf ps (a / 16) = a / 16 := by
    cases hk : a / 16 with
    | zero => rfl
    | succ k => unfold headOf; rw [← hk, h]; simp [h1]
  unfold heldAt
  rw [if_pos hv, if_pos (within_yes1 (by omega) (by omega)), Int.toNat_natCast]
  unfold blockAt
  rw [hh, h]
  simp only [h1]
  by_cases hu : p.used[a % 16 / (sizeW p.cls).toNat]? = some true
  · rw [if_pos hu]; simp [hu]
  · rw [if_neg hu]; simp [hu]
theorem held_run {a : Nat} {p : Pg} (ha : a < ps.length * 16) (h : ps[a / 16]? = some p) (h2 : p.kind = 2 ∨ p.kind = 3) :
    ∃ q, ps[headOf ps (a / 16)]? = some q ∧ q.kind = 2 ∧ heldAt ps a = (0, some (.run (headOf ps (a / 16)) q.run)) := by
  have key : ∃ q, ps[headOf ps (a / 16)]? = some q ∧ q.kind = 2 := by
    rcases h2 with h2 | h3
    · have hh : headOf ps (a / 16) = a / 16 := by
        cases hk : a / 16 with
        | zero => rfl
        | succ k => unfold headOf; rw [← hk, h]; simp [h2]
      exact ⟨p, by rw [hh]; exact h, h2⟩
    · obtain ⟨g, q, _, h5, h6, _, h7⟩ := head_of_rest hv h h3
      exact ⟨q, by rw [h7]; exact h5, h6⟩
  obtain ⟨q, h5, h6⟩ := key
  refine ⟨q, h5, h6, ?_⟩
  unfold heldAt
  rw [if_pos hv, if_pos (within_yes1 (by omega) (by omega)), Int.toNat_natCast]
  unfold blockAt
  rw [h5]; simp [h6]
/-- What is known of what is held. -/
theorem held_info {a : Int} {c : Int} {b : Blk} (h : heldAt ps a = (c, some b)) : c = 0 ∧ 0 ≤ a ∧ a < ps.length * 16 ∧ ((∃ i k s p, b = .slot i k s ∧ ps[i]? = some p ∧ p.kind = 1 ∧ p.cls = k ∧ 0 ≤ k ∧ k ≤ 3 ∧ p.used[s]? = some true ∧ (p.used.length : Int) = 16 / sizeW k ∧ p.run = 0 ∧ i = a.toNat / 16 ∧ s = a.toNat % 16 / (sizeW k).toNat) ∨
    ∃ i p, b = .run i p.run ∧ ps[i]? = some p ∧ p.kind = 2 ∧ i = headOf ps (a.toNat / 16)) := by
  unfold heldAt at h
  rw [if_pos hv] at h
  split at h
  · rename_i hw
    have hw := within_range hw
    cases hb : blockAt ps a.toNat with
    | none => rw [hb] at h; simp at h
    | some b' =>
      rw [hb] at h
      simp at h
      obtain ⟨rfl, rfl⟩ := h
      refine ⟨rfl, hw.1, by omega, ?_⟩
      unfold blockAt at hb
      cases hp : ps[headOf ps (a.toNat / 16)]? with
      | none => rw [hp] at hb; simp at hb
      | some p =>
        rw [hp] at hb
        simp only at hb
        split at hb
        · rename_i h2
          simp at hb
          exact .inr ⟨_, p, hb.symm, hp, h2, rfl⟩
        · split at hb
          · rename_i h1
            split at hb
            · rename_i hu
              simp at hb
              have hf := ok_page hv hp
              rcases pageFault_ok hf with h | h | h
              · have he : headOf ps (a.toNat / 16) = a.toNat / 16 := by
                  have hx := List.getElem?_eq_getElem (l := ps) (i := a.toNat / 16) (by omega)
                  by_cases h3 : (ps[a.toNat / 16]).kind = 3
                  · obtain ⟨g, q, _, hg, hg2, _, hg3⟩ := head_of_rest hv hx h3
                    rw [hg3, hg] at hp; injection hp with hp; rw [hp] at hg2; omega
                  · cases hk : a.toNat / 16 with
                    | zero => rfl
                    | succ k => unfold headOf; rw [← hk, hx]; simp [h3]
                exact .inl ⟨_, _, _, p, hb.symm, hp, h1, rfl, h.2.1, h.2.2.1, hu, h.2.2.2.2.1, h.2.2.2.1, he, rfl⟩
              · omega
              · omega
            · simp at hb
          · simp at hb
  · simp at h
theorem held_code {a : Int} {c : Int} (h : heldAt ps a = (c, none)) : c = 3 ∨ c = 4 := by
  unfold heldAt at h
  rw [if_pos hv] at h
  split at h
  · split at h
    · simp at h
    · simp at h; omega
  · simp at h; omega
end
end Go.Proofs.Ythpamclljdcjpaa

/- copy(new, old), the elements of any number of cells: what the old ones own goes over to the new slice. A make as an equation. -/
namespace Go.Proofs.Ythpamclljdcjpaa
open Go.RowKit

/-- Of a list the first n; where it has not so many, others behind it. -/
def fitTo {α : Type} (d : α) (xs : List α) (n : Nat) : List α := xs.take n ++ List.replicate (n - xs.length) d
theorem length_fitTo {α : Type} (d : α) (xs : List α) (n : Nat) : (fitTo d xs n).length = n := by simp [fitTo]; omega
theorem fitTo_at {α : Type} {d : α} {xs : List α} {n j : Nat} (hj : j < n) : (fitTo d xs n)[j]? = if j < xs.length then xs[j]? else some d := by
  unfold fitTo
  by_cases h : j < xs.length
  · rw [if_pos h, List.getElem?_append_left (by simp; omega), List.getElem?_take, if_pos hj]
  · rw [if_neg h, List.getElem?_append_right (by simp; omega), List.getElem?_replicate, if_pos (by simp; omega)]

/-- Cells of a row that was made: n times the same. -/
def ZeroRow (zs : List Value) (m : Nat) (cur : Array Value) : Prop := cur.size = m * zs.length ∧ ∀ j i, j < m → i < zs.length → cur[j * zs.length + i]? = zs[i]?
theorem zero_made (z : Array Value) (m : Nat) : ZeroRow z.toList m (madeCells z (m * z.size)) := by
  refine ⟨by simp [size_madeCells], fun j i hj hi => ?_⟩
  have hi' : i < z.size := by simpa using hi
  have h1 := Nat.mul_le_mul_right z.size (show j + 1 ≤ m by omega)
  rw [Nat.add_mul] at h1
  have h2 : (j * z.size + i) % z.size = i := by rw [Nat.mul_comm, Nat.mul_add_mod, Nat.mod_eq_of_lt hi']
  simp only [Array.length_toList]
  simp [madeCells, h2, show j * z.size + i < m * z.size by omega, hi']

section
variable {P : Program} {α : Type} {K : Lay α} {w : World} {S : Nat → Prop} {ops : Array Oper} {rest : List Oper} {o : Oper} {a : Act} {Q : Exit → Act → World → Prop}
theorem wpList_copy_fit (hgd : o.guard = none) (s x : Operand) (t : TypeId) (ho : o.op = .call { callee := .builtin .copy, args := #[s, x], argTypes := #[t, t] })
    (e : TypeId) (ht : P.underlying t = some (.slice e)) (hi : (P.info? e).map (·.size) = some K.sz) (hone : OneC K)
    {n c m g : Nat} {xs : List α} {ao : Option Addr} {cur : Array Value} {zs : List Value} {d : α} (hs : a.eval s = .slice (some ⟨g, 0, none⟩) m m) (hx : a.eval x = .slice ao n c) (hown : Own K e w S (.slice ao n c) n xs)
    (hr : Row w g e cur) (hz : ZeroRow zs m cur) (hzl : zs.length = K.sz) (hd : ∀ w, K.own w (fun _ => False) zs d) (hg : ¬ S g) (hm : m ≤ maxLen)
    (h : ∀ w', Own K e w' (fun k => S k ∨ k = g) (.slice (some ⟨g, 0, none⟩) m m) m (fitTo d xs m) → Turn (fun k => k = g) w w' → wpList P ops Q rest (a.put o.dst (goInt (Nat.min n m))) w') : wpList P ops Q (o :: rest) a w := by
  have hxl := hown.1
  obtain ⟨_, _, _, hlst⟩ := hown.lst
  obtain ⟨news, hnl, hnc, hne⟩ := hlst.news
  have hone' : ∀ u ∈ news, u.oneCell' = true := by
    intro u hu
    obtain ⟨q, hq, rfl⟩ := List.getElem_of_mem hu
    have hsz : 0 < K.sz := Nat.pos_of_ne_zero (fun e => by rw [e] at hnl; omega)
    have hqm : q / K.sz < n := Nat.div_lt_of_lt_mul (by rw [Nat.mul_comm]; omega)
    obtain ⟨cs, hcl, hcs, hrd⟩ := hne (q / K.sz) (xs[q / K.sz]'(by omega)) (List.getElem?_eq_getElem _)
    have h1 := hcs (q % K.sz) (Nat.mod_lt _ hsz)
    rw [Nat.mul_comm, Nat.div_add_mod, List.getElem?_eq_getElem hq] at h1
    exact hone _ _ _ _ hrd _ (List.mem_of_getElem? h1.symm)
  obtain ⟨hzs, hzc⟩ := hz
  rw [hzl] at hzs hzc
  obtain ⟨cs, hcs⟩ : ∃ cs, cs = news.take (Nat.min n m * K.sz) := ⟨_, rfl⟩
  have hle : Nat.min n m * K.sz ≤ n * K.sz := Nat.mul_le_mul_right _ (Nat.min_le_left _ _)
  have hle2 : Nat.min n m * K.sz ≤ m * K.sz := Nat.mul_le_mul_right _ (Nat.min_le_right _ _)
  have hcl : cs.length = Nat.min n m * K.sz := by rw [hcs, List.length_take, hnl, Nat.min_eq_left hle]
  have hfirst : (Builtin.firstCells K.sz (Nat.min n m) (.slice ao n c)).run P w = .ok cs.toArray w := by
    cases ao with
    | none =>
      have hn : n = 0 := by
        rcases Nat.eq_zero_or_pos n with h0 | h0
        · exact h0
        · obtain ⟨_, _, h, _⟩ := hnc h0; cases h
      have : cs = [] := List.eq_nil_of_length_eq_zero (by rw [hcl, hn]; simp)
      rw [this]; exact Go.run_firstCells_none (P := P) (w := w) _ _ _ _
    | some ad =>
      refine Go.run_firstCells_some (P := P) (w := w) K.sz (Nat.min n m) ad n c cs hcl (fun j u hu => ?_)
      have hjl : j < cs.length := (List.getElem?_eq_some_iff.1 hu).1
      rcases Nat.eq_zero_or_pos n with h0 | h0
      · exfalso; rw [hcl, h0] at hjl; simp at hjl
      · obtain ⟨b, off, he, hc'⟩ := hnc h0
        injection he with he; subst he
        rw [add_plain']
        refine hc' j u ?_
        rw [hcs, List.getElem?_take, if_pos (by omega)] at hu
        exact hu
  have hstore := run_storeCells_at (P := P) g 0 e cs 0 cur w hr (by omega) (fun u hu => hone' u (by rw [hcs] at hu; exact List.mem_of_mem_take hu))
  simp only [Nat.add_zero, Nat.zero_add, List.take_zero, List.nil_append] at hstore
  obtain ⟨i, hi1, hi2⟩ := Option.map_eq_some_iff.1 hi
  have hsz : (Go.sizeOf e).run P w = .ok K.sz w := by simp [Go.sizeOf, typeInfo, hi1, hi2]
  have hrun : (Builtin.copy_ #[t, t] o.type #[.slice (some ⟨g, 0, none⟩) m m, .slice ao n c]).run P w = .ok (goInt (Nat.min n m)) (w.setRow g (cs ++ cur.toList.drop cs.length).toArray) := by
    simp only [Builtin.copy_, run_underlying ht, Sem.run_bind, Sem.run_pure, Result.andThen_ok, List.getElem?_toArray, List.getElem?_cons_zero, List.getElem?_cons_succ, hsz, Builtin.lenOf, hfirst, hstore]
  refine wpList_plain hgd fun K' hK' => ?_
  unfold Oper.wp execOp
  simp only [ho, resolve, invoke, builtin, Sem.run_bind, Sem.run_pure, Result.andThen_ok, List.map_toArray, List.map_cons, List.map_nil, hs, hx, hrun]
  refine hK' _ _ (h _ ?_ (Turn.setRow w g _))
  have hcur : (cs ++ cur.toList.drop cs.length).length = m * K.sz := by
    have h1 : cur.toList.length = m * K.sz := by rw [Array.length_toList, hzs]
    rw [List.length_append, List.length_drop, h1, hcl]; omega
  have hdrop : ∀ q, cs.length ≤ q → (cs ++ cur.toList.drop cs.length)[q]? = cur[q]? := fun q hq => by
    rw [List.getElem?_append_right hq, List.getElem?_drop, Array.getElem?_toList]; congr 1; omega
  have hrow' : Row (w.setRow g (cs ++ cur.toList.drop cs.length).toArray) g e (cs ++ cur.toList.drop cs.length).toArray := setRow_heap w g cur _ e _ hr
  have key : ∃ F : Nat → Nat → Prop, (∀ j k, F j k → S k) ∧ (∀ i j k, F i k → F j k → i = j) ∧ ∀ j x, xs[j]? = some x → ∃ c1, c1.length = K.sz ∧ (∀ i, i < K.sz → news[j * K.sz + i]? = c1[i]?) ∧ K.own w (F j) c1 x := by
    rcases hown.2 with ⟨h1, h2⟩ | ⟨g', cap, cu, F, hv, hgS, hr', h1, h2, h3, hF, hD, hc⟩
    · refine ⟨fun _ _ => False, fun _ _ h => h.elim, fun _ _ _ h => h.elim, fun j x hj => ?_⟩
      have := (List.getElem?_eq_some_iff.1 hj).1; omega
    · refine ⟨F, fun j k hk => (hF j k hk).1, hD, fun j x hj => ?_⟩
      obtain ⟨c1, hc1, hc2, hc3⟩ := hc j x hj
      refine ⟨c1, hc1, fun i hi => ?_, hc3⟩
      have hjl := (List.getElem?_eq_some_iff.1 hj).1
      obtain ⟨b, off, he, hc'⟩ := hnc (by omega)
      injection hv with hv1 hv2 hv3
      rw [he] at hv1; injection hv1 with hv1; injection hv1 with e1 e2; subst e1 e2
      have hmul := Nat.mul_le_mul_right K.sz (show j + 1 ≤ n by omega)
      rw [Nat.add_mul] at hmul
      obtain ⟨u, hu⟩ : ∃ u, news[j * K.sz + i]? = some u := ⟨_, List.getElem?_eq_getElem (by omega)⟩
      have h5 := hc' _ u hu
      rw [Nat.zero_add, hr'.cell] at h5
      rw [hu, ← h5]; exact hc2 i hi
  obtain ⟨F, hF, hD, hFc⟩ := key
  refine ⟨length_fitTo _ _ _, .inr ⟨g, m, _, fun j k => j < n ∧ F j k, rfl, .inr rfl, hrow', Nat.le_refl _, hm, by simpa using hcur, fun j k hk => ⟨.inl (hF j k hk.2), fun e => hg (e ▸ hF j k hk.2)⟩, fun i j k hi hj => hD i j k hi.2 hj.2, fun j y hj => ?_⟩⟩
  have hjm : j < m := by have := (List.getElem?_eq_some_iff.1 hj).1; rwa [length_fitTo] at this
  rw [fitTo_at hjm] at hj
  have hmulm := Nat.mul_le_mul_right K.sz (show j + 1 ≤ m by omega)
  rw [Nat.add_mul] at hmulm
  by_cases hjn : j < xs.length
  · rw [if_pos hjn] at hj
    obtain ⟨c1, hc1, hc2, hc3⟩ := hFc j y hj
    have hmul := Nat.mul_le_mul_right K.sz (show j + 1 ≤ Nat.min n m from Nat.le_min.2 ⟨by omega, by omega⟩)
    rw [Nat.add_mul] at hmul
    refine ⟨c1, hc1, fun i hi => ?_, K.own_turn (K.own_mono hc3 (S' := fun k => j < n ∧ F j k) (fun k hk _ => ⟨by omega, hk⟩)) (Turn.setRow w g _) (fun k hk _ e => hg (e ▸ hF j k hk.2))⟩
    rw [List.getElem?_toArray, List.getElem?_append_left (by omega), hcs, List.getElem?_take, if_pos (by omega)]
    exact hc2 i hi
  · rw [if_neg hjn] at hj
    injection hj with hj; subst hj
    have hmin : Nat.min n m = n := Nat.min_eq_left (by omega)
    have hmul := Nat.mul_le_mul_right K.sz (show n ≤ j by omega)
    refine ⟨zs, hzl, fun i hi => ?_, K.own_mono (hd _) (fun _ h _ => h.elim)⟩
    rw [List.getElem?_toArray, hdrop _ (by rw [hcl, hmin]; omega)]
    exact hzc j i hjm hi
end

/-- make([]E, n), as an equation: the walk and a region that draws take it. -/
theorem make_eq {P : Program} {t e : TypeId} {i : TypeInfo} {z : Value} {k : Nat} (ht : P.underlying t = some (.slice e)) (hi : P.info? e = some i) (hz : i.zero = some z) (hsize : i.size = k) (hk : z.cells.size = k) (n : Nat) (hb : i.bytes * n ≤ 281474976710656) (h63 : n ≤ 9223372036854775807) :
    ∃ cur, ZeroRow z.cells.toList n cur ∧ ∀ w : World, (Instr.makeSlice t (.int .i64 (n : Int)) (.int .i64 (n : Int))).run P w = .ok (.slice (some ⟨w.heap.size, 0, none⟩) n n) (w.alloc (.cells cur e)) := by
  refine ⟨madeCells z.cells (n * i.size), by rw [hsize, ← hk]; exact zero_made _ _, fun w => ?_⟩
  have := run_make (P := P) (w := w) t e i z ht hi hz .i64 .i64 n n (by omega) (Int.le_refl _) (by rw [← Int.natCast_mul]; omega) (by omega)
  simpa using this
end Go.Proofs.Ythpamclljdcjpaa

/- Chapter 5: what its functions answer, in plain words. -/
namespace Go.Proofs.Ythpamclljdcjpaa
open Go.RowKit

/-- A heap, in plain words. -/
structure Hp where
  pages : List Pg
  words : List Int
  mags : List (List Int)
theorem Hp.ext_ {p q : Hp} (h1 : p.pages = q.pages) (h2 : p.words = q.words) (h3 : p.mags = q.mags) : p = q := by
  cases p; cases q; simp_all
instance : DecidableEq Hp := fun p q => decidable_of_iff (p.pages = q.pages ∧ p.words = q.words ∧ p.mags = q.mags) ⟨fun ⟨h1, h2, h3⟩ => Hp.ext_ h1 h2 h3, fun h => by subst h; exact ⟨rfl, rfl, rfl⟩⟩
def Hp.zero : Hp := ⟨[], [], []⟩
def Hp.kept (h : Hp) : List Int := h.mags.flatten

/-- A slot of this class begins at a place. -/
def isSlotAt (ps : List Pg) (c a : Int) : Bool := match heldAt ps a with
  | (_, some (.slot i k s)) => decide (k = c) && decide ((Blk.slot i k s).start = a)
  | _ => false
def magFault (ps : List Pg) (c : Int) (m : List Int) : Int := if 2 < m.length then 2 else if m.all (isSlotAt ps c) = true then 0 else 1
def magsFault (ps : List Pg) : Nat → List (List Int) → Int
  | _, [] => 0
  | k, m :: r => if magFault ps ((k % 4 : Nat) : Int) m = 0 then magsFault ps (k + 1) r else magFault ps ((k % 4 : Nat) : Int) m
def freeZero (ws : List Int) : Nat → List Pg → Bool
  | _, [] => true
  | k, p :: r => (decide (p.kind ≠ 0) || decide (frameOf ws k = List.replicate 16 0)) && freeZero ws (k + 1) r
def magCount (n : Nat) : Bool := decide (n % 4 = 0 ∧ 4 ≤ n ∧ n ≤ 8)
def heapFault (h : Hp) : Int :=
  if pagesFault h.pages = 0 then
    (if h.words.length = h.pages.length * 16 ∧ magCount h.mags.length = true then
      (if within (-1000000000) 1000000000 h.words = true then
        (if magsFault h.pages 0 h.mags = 0 then (if alike h.kept = false then (if freeZero h.words 0 h.pages = true then 0 else 8) else 6) else magsFault h.pages 0 h.mags)
      else 3)
    else 2)
  else pagesFault h.pages
theorem heapFault_ok {h : Hp} (hf : heapFault h = 0) : pagesFault h.pages = 0 ∧ h.words.length = h.pages.length * 16 ∧ magCount h.mags.length = true ∧ within (-1000000000) 1000000000 h.words = true ∧ magsFault h.pages 0 h.mags = 0 ∧ alike h.kept = false ∧ freeZero h.words 0 h.pages = true := by
  unfold heapFault at hf
  by_cases h1 : pagesFault h.pages = 0
  · rw [if_pos h1] at hf
    by_cases h2 : h.words.length = h.pages.length * 16 ∧ magCount h.mags.length = true
    · rw [if_pos h2] at hf
      by_cases h3 : within (-1000000000) 1000000000 h.words = true
      · rw [if_pos h3] at hf
        by_cases h4 : magsFault h.pages 0 h.mags = 0
        · rw [if_pos h4] at hf
          by_cases h5 : alike h.kept = false
          · rw [if_pos h5] at hf
            by_cases h6 : freeZero h.words 0 h.pages = true
            · exact ⟨h1, h2.1, h2.2, h3, h4, h5, h6⟩
            · rw [if_neg h6] at hf; omega
          · rw [if_neg h5] at hf; omega
        · rw [if_neg h4] at hf; exact absurd hf h4
      · rw [if_neg h3] at hf; omega
    · rw [if_neg h2] at hf; omega
  · rw [if_neg h1] at hf; exact absurd hf h1
theorem heapFault_of {h : Hp} (h1 : pagesFault h.pages = 0) (h2 : h.words.length = h.pages.length * 16) (h3 : magCount h.mags.length = true) (h4 : within (-1000000000) 1000000000 h.words = true) (h5 : magsFault h.pages 0 h.mags = 0) (h6 : alike h.kept = false) (h7 : freeZero h.words 0 h.pages = true) : heapFault h = 0 := by
  unfold heapFault
  rw [if_pos h1, if_pos ⟨h2, h3⟩, if_pos h4, if_pos h5, if_pos h6, if_pos h7]

def newHp (p c : Nat) : Hp := ⟨List.replicate p Pg.free, List.replicate (p * 16) 0, List.replicate (4 * c) []⟩
def newHeap (p c : Int) : Int × Hp := if within 0 40 [p] = true ∧ within 1 2 [c] = true then (0, newHp p.toNat c.toNat) else (3, Hp.zero)
/-- Where the block that lives at a place begins. -/
def liveIn (h : Hp) (a : Int) : Int × Int := match blockStart h.pages a with
  | (c, s) => if c = 0 then (if hasIn h.kept s = true then (4, 0) else (0, s)) else (c, 0)
def liveAt (h : Hp) (a : Int) : Int × Int := if heapFault h = 0 then liveIn h a else (heapFault h, 0)
/-- The places below this one at which blocks begin that live. -/
def blocksTo (h : Hp) : Nat → List Int
  | 0 => []
  | k + 1 => blocksTo h k ++ (if liveIn h (k : Int) = (0, (k : Int)) then [(k : Int)] else [])
def blocksIn (h : Hp) : List Int := blocksTo h h.words.length
def liveBlocks (h : Hp) : Int × List Int := if heapFault h = 0 then (0, blocksIn h) else (heapFault h, [])
def heldIn (h : Hp) : Int × Int := if heapFault h = 0 then (0, (h.kept.length : Int)) else (heapFault h, 0)
/-- The pages when these places are dropped, one behind the other. -/
def dropAll (ps : List Pg) : List Int → List Pg
  | [] => ps
  | a :: r => dropAll (dropAt ps a.toNat) r
/-- Words with zeros in all free pages. -/
def sweepW : List Int → Nat → List Pg → List Int
  | ws, _, [] => ws
  | ws, k, p :: r => sweepW (if p.kind = 0 then putFrame ws k (List.replicate 16 0) else ws) (k + 1) r
def drainHp (h : Hp) : Hp := ⟨dropAll h.pages h.kept, sweepW h.words 0 (dropAll h.pages h.kept), List.replicate h.mags.length []⟩
def drainHeap (h : Hp) : Int × Hp := if heapFault h = 0 then (0, drainHp h) else (heapFault h, Hp.zero)
def fitHp (h : Hp) (p : Nat) : Hp := ⟨fitTo Pg.free h.pages p, fitTo 0 h.words (p * 16), h.mags⟩
def anyUsed (ps : List Pg) : Bool := ps.any fun p => decide (p.kind ≠ 0)
def resizeHeap (h : Hp) (p : Int) : Int × Hp :=
  if heapFault h = 0 then (if within 0 40 [p] = true then (if anyUsed ((drainHp h).pages.drop p.toNat) = true then (8, Hp.zero) else (0, fitHp (drainHp h) p.toNat)) else (3, Hp.zero)) else (heapFault h, Hp.zero)

theorem length_dropAll : ∀ (xs : List Int) (ps : List Pg), (dropAll ps xs).length = ps.length
  | [], _ => rfl
  | a :: r, ps => by
    rw [dropAll, length_dropAll r]
    unfold dropAt
    split
    · rfl
    · split
      · rw [List.length_set]
      · rw [length_setMany]
theorem dropAll_snoc : ∀ (xs : List Int) (ps : List Pg) (a : Int), dropAll ps (xs ++ [a]) = dropAt (dropAll ps xs) a.toNat
  | [], _, _ => rfl
  | x :: r, ps, a => by rw [List.cons_append, dropAll, dropAll, dropAll_snoc r]
theorem dropAll_append : ∀ (xs ys : List Int) (ps : List Pg), dropAll ps (xs ++ ys) = dropAll (dropAll ps xs) ys
  | [], _, _ => rfl
  | x :: r, ys, ps => by rw [List.cons_append, dropAll, dropAll, dropAll_append r]
theorem length_sweepW : ∀ (ps : List Pg) (ws : List Int) (k : Nat), ws.length = (k + ps.length) * 16 → (sweepW ws k ps).length = ws.length
  | [], _, _, _ => rfl
  | p :: r, ws, k, h => by
    simp only [List.length_cons] at h
    have hp : (if p.kind = 0 then putFrame ws k (List.replicate 16 0) else ws).length = ws.length := by
      split
      · exact length_putFrame (by rw [List.length_replicate]; omega)
      · rfl
    rw [sweepW, length_sweepW r _ _ (by rw [hp]; omega), hp]
theorem sweepW_take {ws : List Int} {ps : List Pg} {k : Nat} {p : Pg} (h : ps[k]? = some p) : sweepW ws 0 (ps.take (k + 1)) = if p.kind = 0 then putFrame (sweepW ws 0 (ps.take k)) k (List.replicate 16 0) else sweepW ws 0 (ps.take k) := by
  have key : ∀ (qs : List Pg) (ws : List Int) (j : Nat), sweepW ws j (qs ++ [p]) = if p.kind = 0 then putFrame (sweepW ws j qs) (j + qs.length) (List.replicate 16 0) else sweepW ws j qs := by
    intro qs
    induction qs with
    | nil => intro ws j; simp [sweepW]
    | cons q r ih => intro ws j; rw [List.cons_append, sweepW, ih, sweepW, List.length_cons, show j + 1 + r.length = j + (r.length + 1) by omega]
  have hk := (List.getElem?_eq_some_iff.1 h).1
  have e : ps.take (k + 1) = ps.take k ++ [p] := by rw [List.take_add_one, h]; rfl
  rw [e, key, Nat.zero_add, List.length_take, Nat.min_eq_left (by omega)]

/-- The three slices of a heap read so. -/
structure HpR (w : World) (S : Nat → Prop) (pa : Option Addr) (pn pc : Nat) (wa : Option Addr) (wn wc : Nat) (ma : Option Addr) (mn mc : Nat) (h : Hp) : Prop where
  pg : Lst KPage w S pa pn h.pages
  wd : Lst KInt w S wa wn h.words
  mg : Lst KMag w S ma mn h.mags
  p1 : pn ≤ pc
  p2 : pc ≤ maxLen
  w1 : wn ≤ wc
  w2 : wc ≤ maxLen
  m1 : mn ≤ mc
  m2 : mc ≤ maxLen
theorem HpR.turn {w w' : World} {S T : Nat → Prop} {pa wa ma : Option Addr} {pn pc wn wc mn mc : Nat} {h : Hp} (hr : HpR w S pa pn pc wa wn wc ma mn mc h) (ht : Turn T w w') (hd : ∀ k, S k → k < w.heap.size → ¬ T k) : HpR w' S pa pn pc wa wn wc ma mn mc h :=
  ⟨hr.pg.turn ht hd, hr.wd.turn ht hd, hr.mg.turn ht hd, hr.p1, hr.p2, hr.w1, hr.w2, hr.m1, hr.m2⟩
theorem HpR.below {w w' : World} {S : Nat → Prop} {pa wa ma : Option Addr} {pn pc wn wc mn mc : Nat} {h : Hp} (hr : HpR w S pa pn pc wa wn wc ma mn mc h) (hb : Below w.heap.size w w') : HpR w' S pa pn pc wa wn wc ma mn mc h :=
  hr.turn (T := fun _ => False) (Turn.of_below hb) (fun _ _ _ h => h)
theorem HpR.alloc {w : World} {S : Nat → Prop} {pa wa ma : Option Addr} {pn pc wn wc mn mc : Nat} {h : Hp} (hr : HpR w S pa pn pc wa wn wc ma mn mc h) (o : Obj) : HpR (w.alloc o) S pa pn pc wa wn wc ma mn mc h := hr.below ((Below.refl _ _).alloc (Nat.le_refl _) o)
theorem HpR.mono {w : World} {S S' : Nat → Prop} {pa wa ma : Option Addr} {pn pc wn wc mn mc : Nat} {h : Hp} (hr : HpR w S pa pn pc wa wn wc ma mn mc h) (hS : ∀ k, S k → k < w.heap.size → S' k) : HpR w S' pa pn pc wa wn wc ma mn mc h :=
  ⟨hr.pg.mono hS, hr.wd.mono hS, hr.mg.mono hS, hr.p1, hr.p2, hr.w1, hr.w2, hr.m1, hr.m2⟩
/-- No list in a heap is longer than is good for any walk. -/
structure HpS (N : Nat) (h : Hp) : Prop where
  p : h.pages.length ≤ N
  u : ShortP N h.pages
  w : h.words.length ≤ N
  m : h.mags.length ≤ N
  k : ShortM N h.mags
theorem HpS.more {N M : Nat} {h : Hp} (hs : HpS N h) (hM : N ≤ M) : HpS M h := ⟨Nat.le_trans hs.p hM, fun p hp => Nat.le_trans (hs.u p hp) hM, Nat.le_trans hs.w hM, Nat.le_trans hs.m hM, hs.k.more hM⟩

theorem Own.of_zero {α : Type} {K : Lay α} {t : TypeId} {w : World} {g n : Nat} {cur : Array Value} {zs : List Value} {d : α} (hr : Row w g t cur) (hz : ZeroRow zs n cur) (hzl : zs.length = K.sz) (ho : K.own w (fun _ => False) zs d) (hn : n ≤ maxLen) : Own K t w (fun k => k = g) (.slice (some ⟨g, 0, none⟩) n n) n (List.replicate n d) := by
  obtain ⟨h1, h2⟩ := hz
  rw [hzl] at h1 h2
  exact Own.made hr rfl hn h1 hzl h2 ho
end Go.Proofs.Ythpamclljdcjpaa

/- A heap that came in, opened to what is known of it in memory. -/
namespace Go.Proofs.Ythpamclljdcjpaa
open Go.Joins Go.ChangeShapes Go.WideShapes Go.RowKit Go.Deep
set_option linter.unusedVariables false

section
variable {H : Type} {enc : TypeId × Value → H} {P : Program} {w : World} {base : Nat} {spare : Nat → Bool} {held : Bool}
theorem three_fields {t : TypeId} {f0 f1 f2 : Field} {fuel : Nat} {c0 c1 c2 : Value} {x : DataW H × List MemPlace} (hs : P.underlying t = some (.struct #[f0, f1, f2])) (hone : oneCellFields P #[f0, f1, f2] = true)
    (h : DataW.trod enc P w base spare held fuel t [c0, c1, c2] = some x) :
    ∃ (n : Nat) (y0 y1 y2 : DataW H × List MemPlace), DataW.trod enc P w base spare held n f0.type [c0] = some y0 ∧ DataW.trod enc P w base spare held n f1.type [c1] = some y1 ∧ DataW.trod enc P w base spare held n f2.type [c2] = some y2 := by
  obtain ⟨y0, y1, y2, n, _, _, h0, h1, h2⟩ := trod_struct3 hs h
  obtain ⟨o0, k0⟩ := hone_of hone 0 f0 rfl
  obtain ⟨o1, k1⟩ := hone_of hone 1 f1 rfl
  obtain ⟨o2, k2⟩ := hone_of hone 2 f2 rfl
  exact ⟨n, y0, y1, y2, by simpa [o0, k0] using h0, by simpa [o1, k1] using h1, by simpa [o2, k2] using h2⟩
end

section
variable {H : Type} {enc : TypeId × Value → H} {w : World} {base : Nat} {spare : Nat → Bool} {held : Bool}
theorem int_of_trod {fuel : Nat} {cs : List Value} {x : DataW H × List MemPlace} (h : DataW.trod enc Try.prog w base spare held fuel 2 cs = some x) : ∃ d, KInt.rd w (fun _ => True) cs d := by
  obtain ⟨b, rfl, _⟩ := DataW.trod_int Try.underlying2 h
  exact ⟨b, rfl⟩
theorem mag_of_trod {fuel : Nat} {cs : List Value} {x : DataW H × List MemPlace} (h : DataW.trod enc Try.prog w base spare held fuel 47 cs = some x) : ∃ d, KMag.rd w (fun _ => True) cs d := by
  obtain ⟨a, n, c, xs, rfl, hn, hc, hL⟩ := lst_of_trod (K := KInt) Try.underlying47 (by kernel_rfl) (by decide) (fun _ _ _ _ h => int_of_trod h) h
  exact ⟨xs, KMag_rd_mk hn hc hL⟩
end
end Go.Proofs.Ythpamclljdcjpaa

/- Chapter 4 of the program: what holds a block. -/
namespace Go.Proofs.Ythpamclljdcjpaa
open Go.RowKit

/-- Three cells, and all that was there, are kept. -/
theorem keep3 {W a b : World} {p q r : Addr} {x y z : Value} (h : a.cell? p = some x ∧ a.cell? q = some y ∧ a.cell? r = some z ∧ Below W.heap.size W a) (hb : Below a.heap.size a b) : b.cell? p = some x ∧ b.cell? q = some y ∧ b.cell? r = some z ∧ Below W.heap.size W b :=
  ⟨(hb.cell (World.block_lt_of_cell? _ _ h.1)).trans h.1, (hb.cell (World.block_lt_of_cell? _ _ h.2.1)).trans h.2.1, (hb.cell (World.block_lt_of_cell? _ _ h.2.2.1)).trans h.2.2.1, h.2.2.2.trans (hb.mono h.2.2.2.size)⟩

end Go.Proofs.Ythpamclljdcjpaa

/- Chapter 4 of the program: a slot that is searched for; runs that are free. -/
namespace Go.Proofs.Ythpamclljdcjpaa
open Go.RowKit

theorem ret_val {a b : Value} (h : a = b) : Ending.returned a = .returned b := by rw [h]
theorem freeN_take : ∀ {m : Nat} {ps : List Pg}, freeN m (ps.take m) = freeN m ps
  | 0, ps => rfl
  | m + 1, [] => rfl
  | m + 1, q :: r => by rw [List.take_succ_cons, freeN, freeN, freeN_take]
theorem freeN_all {m : Nat} {ps : List Pg} (h1 : m ≤ ps.length) (h : ∀ i p, i < m → ps[i]? = some p → p.kind = 0) : freeN m ps = true := by
  induction m generalizing ps with
  | zero => rfl
  | succ m ih =>
    cases ps with
    | nil => simp at h1
    | cons q r =>
      rw [freeN, h 0 q (by omega) (by simp), ih (by simpa using h1) (fun i p hi hp => h (i + 1) p (by omega) (by simpa using hp))]; simp
theorem runFrom_skip1 {m k : Nat} {ps : List Pg} (h : freeN m (ps.drop k) = false) (hk : k < ps.length) : runFrom m k (ps.drop k) = runFrom m (k + 1) (ps.drop (k + 1)) := by
  rw [List.drop_eq_getElem_cons hk] at h ⊢
  rw [runFrom, h]; simp
theorem runFrom_hit {m k : Nat} {ps : List Pg} (h : freeN m (ps.drop k) = true) (hk : k < ps.length) : runFrom m k (ps.drop k) = some k := by
  rw [List.drop_eq_getElem_cons hk] at h ⊢
  rw [runFrom, h]; simp
/-- What 'freeRun' answers. -/
def runV (x : Option Nat) : Value := match x with
  | some i => .tuple #[.int .i64 i, .bool true]
  | none => .tuple #[.int .i64 0, .bool false]

end Go.Proofs.Ythpamclljdcjpaa

/- Chapter 4 of the model: a slot that is taken. -/
namespace Go.Proofs.Ythpamclljdcjpaa
open Go.RowKit

/-- The place of the slot that is taken next, or -1; the pages with it. -/
def slotAt (ps : List Pg) (c : Int) : Int := match slotFor ps c with
  | some (i, s) => (i : Int) * 16 + s * sizeW c
  | none => -1
def slotPut (ps : List Pg) (c : Int) : List Pg := match slotFor ps c with
  | some (i, s) => putSlot ps c i s
  | none => ps
theorem slotFor_gap {ps : List Pg} {c : Int} {x : Nat × Nat} (h : gapIn c 0 ps = some x) : slotFor ps c = some x := by unfold slotFor; rw [h]
theorem slotFor_free {ps : List Pg} {c : Int} (h : gapIn c 0 ps = none) : slotFor ps c = (freeIn 0 ps).map fun i => (i, 0) := by unfold slotFor; rw [h]

end Go.Proofs.Ythpamclljdcjpaa

/- Chapter 4 of the model: its exported functions that answer a code and a number. -/
namespace Go.Proofs.Ythpamclljdcjpaa
open Go.RowKit

theorem findRun_eq (ps : List Pg) (m : Int) (hv : pagesFault ps = 0) (h : within 1 4 [m] = true) : findRun ps m = if runAt m.toNat ps < 0 then (7, 0) else (0, runAt m.toNat ps) := by
  unfold findRun runAt
  rw [if_pos hv, if_pos h]
  cases hr : runFrom m.toNat 0 ps with
  | none => simp
  | some i => simp only; rw [if_neg (by omega)]

end Go.Proofs.Ythpamclljdcjpaa

/- Chapter 4 of the model: where a block begins, how great it is. -/
namespace Go.Proofs.Ythpamclljdcjpaa
open Go.RowKit

theorem slot_small {p : Pg} {a : Nat} (h0 : 0 ≤ p.cls) (h3 : p.cls ≤ 3) (hl : (p.used.length : Int) = 16 / sizeW p.cls) : a % 16 / (sizeW p.cls).toNat < p.used.length := by
  rcases (show p.cls = 0 ∨ p.cls = 1 ∨ p.cls = 2 ∨ p.cls = 3 by omega) with e | e | e | e <;> rw [e] at hl ⊢ <;> simp [sizeW] at hl ⊢ <;> omega
theorem slot_int {c : Int} {a : Nat} (h0 : 0 < sizeW c) : (a : Int) % 16 / sizeW c = ((a % 16 / (sizeW c).toNat : Nat) : Int) := by
  obtain ⟨z, hz⟩ : ∃ z : Nat, sizeW c = z := ⟨(sizeW c).toNat, by omega⟩
  rw [hz, Int.toNat_natCast]; push_cast; rfl

theorem ret_two {a b c d : Int} (h1 : a = c) (h2 : b = d) : Ending.returned (.tuple #[.int .i64 a, .int .i64 b]) = .returned (.tuple #[.int .i64 c, .int .i64 d]) := by rw [h1, h2]
theorem headOf_self {ps : List Pg} {k : Nat} {p : Pg} (h : ps[k]? = some p) (h3 : p.kind ≠ 3) : headOf ps k = k := by
  cases k with
  | zero => rfl
  | succ k => unfold headOf; rw [h]; simp [h3]
theorem headOf_back {ps : List Pg} {k : Nat} {p : Pg} (h : ps[k + 1]? = some p) (h3 : p.kind = 3) : headOf ps (k + 1) = headOf ps k := by
  conv => lhs; unfold headOf
  rw [h]; simp [h3]

/-- How many words a block has that begins in this page. -/
def sizeIn (p : Pg) : Int := if p.kind = 1 then sizeW p.cls else p.run * 16
theorem blockStart_fault {ps : List Pg} {a : Int} (h : pagesFault ps ≠ 0) : blockStart ps a = (pagesFault ps, 0) := by unfold blockStart heldAt; rw [if_neg h]
theorem blockSize_fault {ps : List Pg} {a : Int} (h : (blockStart ps a).1 ≠ 0) : blockSize ps a = ((blockStart ps a).1, (blockStart ps a).2) := by
  unfold blockSize blockStart at *
  split <;> simp_all
/-- Where no code is told, something is held. -/
theorem blockStart_held {ps : List Pg} {a : Int} (h : (blockStart ps a).1 = 0) : ∃ b, heldAt ps a = (0, some b) ∧ pagesFault ps = 0 ∧ (blockStart ps a).2 = b.start := by
  have hv : pagesFault ps = 0 := by
    rcases Int.lt_trichotomy (pagesFault ps) 0 with h1 | h1 | h1
    · rw [blockStart_fault (by omega)] at h; exact h
    · exact h1
    · rw [blockStart_fault (by omega)] at h; exact h
  unfold blockStart at *
  rcases hh : heldAt ps a with ⟨c, b⟩
  rw [hh] at h
  cases b with
  | none => have := held_code hv hh; simp at h; omega
  | some b => exact ⟨b, by rw [(held_info hv hh).1], hv, rfl⟩

end Go.Proofs.Ythpamclljdcjpaa

/- Chapter 4 of the program: its exported functions that answer a code and a number. -/
namespace Go.Proofs.Ythpamclljdcjpaa
open Go.RowKit

/-- Where the first run is, or no one. -/
theorem findRun_by {ps : List Pg} {m : Int} (hv : pagesFault ps = 0) (h : within 1 4 [m] = true) {k : Nat} (hk : m = k) : findRun ps m = match runFrom k 0 ps with | some i => (0, (i : Int)) | none => (7, 0) := by
  unfold findRun
  rw [if_pos hv, if_pos h, hk, Int.toNat_natCast]
  cases runFrom k 0 ps <;> rfl
/-- What is held at a place of right pages, by its head. -/
theorem blockAt_head {ps : List Pg} {a : Nat} {p : Pg} (h : ps[headOf ps (a / 16)]? = some p) : blockAt ps a = if p.kind = 2 then some (.run (headOf ps (a / 16)) p.run)
    else if p.kind = 1 then (if p.used[a % 16 / (sizeW p.cls).toNat]? = some true then some (.slot (headOf ps (a / 16)) p.cls (a % 16 / (sizeW p.cls).toNat)) else none) else none := by
  unfold blockAt; rw [h]

end Go.Proofs.Ythpamclljdcjpaa

/- Chapter 4 of the program: where a block begins, how great it is. -/
namespace Go.Proofs.Ythpamclljdcjpaa
open Go.RowKit

/-- What is held has a place and a size of small numbers. -/
theorem held_slot_small {ps : List Pg} {a : Int} {c k : Int} {i s : Nat} (hv : pagesFault ps = 0) (h : heldAt ps a = (c, some (.slot i k s))) : 0 ≤ k ∧ k ≤ 3 ∧ (i : Int) ≤ 40 ∧ (s : Int) ≤ 15 := by
  obtain ⟨_, _, _, hi⟩ := held_info hv h
  rcases hi with ⟨i', k', s', p, he, hp, h1, h2, h0, h3, hu, hl, _, _, rfl⟩ | ⟨i', p, he, _⟩
  · injection he with e1 e2 e3
    subst e1 e2 e3
    have hil := (List.getElem?_eq_some_iff.1 hp).1
    have := (pagesFault_ok hv).1
    have := Nat.div_le_self (a.toNat % 16) (sizeW k).toNat
    exact ⟨h0, h3, by omega, by omega⟩
  · cases he
theorem held_run_small {ps : List Pg} {a : Int} {c m : Int} {i : Nat} (hv : pagesFault ps = 0) (h : heldAt ps a = (c, some (.run i m))) : 1 ≤ m ∧ m ≤ 4 ∧ (i : Int) + m ≤ ps.length ∧ ps.length ≤ 40 ∧ ∃ p, ps[i]? = some p ∧ p.kind = 2 ∧ p.run = m := by
  obtain ⟨_, _, _, hi⟩ := held_info hv h
  rcases hi with ⟨i', k', s', p, he, _⟩ | ⟨i', p, he, hp, h2, _⟩
  · cases he
  · injection he with e1 e2
    subst e1 e2
    have hr := ok_run hv hp h2
    have hf := run_fits hv hp h2
    exact ⟨hr.1, hr.2, hf, (pagesFault_ok hv).1, p, hp, h2, rfl⟩

end Go.Proofs.Ythpamclljdcjpaa

/- Chapter 4 of the model: its exported functions that answer pages; pages compared. -/
namespace Go.Proofs.Ythpamclljdcjpaa
open Go.RowKit

theorem findSlot_eq {ps : List Pg} {c : Int} (hv : pagesFault ps = 0) (h : within 0 3 [c] = true) : findSlot ps c = if slotAt ps c < 0 then (7, [], 0) else (0, slotPut ps c, slotAt ps c) := by
  unfold findSlot slotAt slotPut
  rw [if_pos hv, if_pos h]
  have hs := sizeW_small c
  cases hr : slotFor ps c with
  | none => simp
  | some x =>
    have : 0 ≤ (x.2 : Int) * sizeW c := Int.mul_nonneg (by omega) (by omega)
    simp only; rw [if_neg (by omega)]
theorem freeN_drop : ∀ {m j : Nat} {ps : List Pg}, j ≤ m → (∀ i p, i < j → ps[i]? = some p → p.kind = 0) → j ≤ ps.length → freeN m ps = freeN (m - j) (ps.drop j)
  | m, 0, ps, _, _, _ => by simp
  | 0, j + 1, ps, h, _, _ => by omega
  | m + 1, j + 1, [], _, _, h => by simp at h
  | m + 1, j + 1, q :: r, h1, h2, h3 => by
    have h0 := h2 0 q (by omega) (by simp)
    rw [freeN, h0, List.drop_succ_cons, Nat.add_sub_add_right, ← freeN_drop (m := m) (j := j) (ps := r) (by omega) (fun i p hi hp => h2 (i + 1) p (by omega) (by simpa using hp)) (by simpa using h3)]
    simp
theorem dropBlock_fault {ps : List Pg} {a : Int} (h : (blockStart ps a).1 ≠ 0) : dropBlock ps a = ((blockStart ps a).1, [], 0) := by
  unfold dropBlock blockStart at *
  split <;> simp_all
/-- What is dropped where a block begins. -/
theorem dropAt_blk {ps : List Pg} {a : Nat} {c : Int} {b : Blk} (hv : pagesFault ps = 0) (h : heldAt ps a = (c, some b)) (hs : b.start = a) : dropAt ps a = dropBlk ps b ∧ ∃ p, ps[a / 16]? = some p ∧
    ((p.kind = 1 ∧ 0 ≤ p.cls ∧ p.cls ≤ 3 ∧ (p.used.length : Int) = 16 / sizeW p.cls) ∨ ((p.kind == 1) = false ∧ ∃ m : Nat, p.run = m ∧ a / 16 + m ≤ ps.length)) := by
  obtain ⟨_, _, _, hi⟩ := held_info hv h
  rw [Int.toNat_natCast] at hi
  rcases hi with ⟨i, k, s, p, rfl, hp, h1, h2, h0, h3, hu, hl, _, rfl, rfl⟩ | ⟨i, p, rfl, hp, h2, _⟩
  · subst h2
    refine ⟨?_, p, hp, .inl ⟨h1, h0, h3, hl⟩⟩
    unfold dropAt dropBlk
    simp only [hp, h1, if_true]
  · have hi : a / 16 = i := by simp only [Blk.start] at hs; omega
    have hr := ok_run hv hp h2
    have hf := run_fits hv hp h2
    refine ⟨?_, p, by rw [hi]; exact hp, .inr ⟨by simp [h2], p.run.toNat, by omega, by omega⟩⟩
    unfold dropAt dropBlk
    rw [hi, hp]; simp only; rw [if_neg (by omega)]

end Go.Proofs.Ythpamclljdcjpaa

/- Chapter 4 of the program: a block that is taken. -/
namespace Go.Proofs.Ythpamclljdcjpaa
open Go.RowKit

theorem keep1 {W a b : World} {p : Addr} {x : Value} (h : a.cell? p = some x ∧ Below W.heap.size W a) (hb : Below a.heap.size a b) : b.cell? p = some x ∧ Below W.heap.size W b :=
  ⟨(hb.cell (World.block_lt_of_cell? _ _ h.1)).trans h.1, h.2.trans (hb.mono h.2.size)⟩
theorem keep1_set {W a : World} {p q : Addr} {x v : Value} (h : a.cell? p = some x ∧ Below W.heap.size W a) (hx : q.block ≠ p.block) (hg : W.heap.size ≤ q.block) : (a.setCell q v).cell? p = some x ∧ Below W.heap.size W (a.setCell q v) :=
  ⟨(World.cell?_setCell_other _ _ _ _ (fun e => hx (by rw [e]))).trans h.1, h.2.setCell hg _⟩
theorem keep1_drew {W a : World} {p : Addr} {x : Value} (h : a.cell? p = some x ∧ Below W.heap.size W a) : a.drew.cell? p = some x ∧ Below W.heap.size W a.drew := ⟨h.1, h.2.drew⟩
end Go.Proofs.Ythpamclljdcjpaa

/- Chapter 4 of the program: a block that is given back. -/
namespace Go.Proofs.Ythpamclljdcjpaa
open Go.RowKit

end Go.Proofs.Ythpamclljdcjpaa

/- Chapter 4 of the program: pages compared. -/
namespace Go.Proofs.Ythpamclljdcjpaa
open Go.RowKit

end Go.Proofs.Ythpamclljdcjpaa

/- Chapter 4 of the program: its exported functions that answer pages. -/
namespace Go.Proofs.Ythpamclljdcjpaa
open Go.RowKit

end Go.Proofs.Ythpamclljdcjpaa

/- Chapter 4 of the model: pages compared. -/
namespace Go.Proofs.Ythpamclljdcjpaa
open Go.RowKit

/-- Two lists are the same as far as this. -/
def SameTo {α : Type} (xs ys : List α) (k : Nat) : Prop := ∀ j, j < k → xs[j]? = ys[j]?
theorem SameTo.succ {α : Type} {xs ys : List α} {k : Nat} (h : SameTo xs ys k) (hk : xs[k]? = ys[k]?) : SameTo xs ys (k + 1) := fun j hj => by
  by_cases e : j = k
  · rw [e]; exact hk
  · exact h j (by omega)
theorem SameTo.all {α : Type} {xs ys : List α} {k : Nat} (h : SameTo xs ys k) (h1 : xs.length ≤ k) (h2 : ys.length ≤ k) : xs = ys := by
  apply List.ext_getElem?
  intro j
  rcases Nat.lt_or_ge j k with hj | hj
  · exact h j hj
  · rw [List.getElem?_eq_none (by omega), List.getElem?_eq_none (by omega)]
theorem ne_at {α : Type} {xs ys : List α} {k : Nat} {x y : α} (hx : xs[k]? = some x) (hy : ys[k]? = some y) (h : x ≠ y) : xs ≠ ys := by
  rintro rfl; rw [hx] at hy; injection hy with hy; exact h hy

end Go.Proofs.Ythpamclljdcjpaa

/- The exact laws of chapter 4 answer true at every argument and write nothing that was there: answers that are numbers. -/
namespace Go.Proofs.Ythpamclljdcjpaa
open Go.RowKit

theorem ShortP.more {N M : Nat} {ps : List Pg} (h : ShortP N ps) (hM : N ≤ M) : ShortP M ps := fun p hp => Nat.le_trans (h p hp) hM

end Go.Proofs.Ythpamclljdcjpaa
