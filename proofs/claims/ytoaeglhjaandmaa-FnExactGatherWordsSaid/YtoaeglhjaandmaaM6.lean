/- Joined texts (Free7, Iter7b, Iter7c, Impl7c, Spec7d, Impl7d, Impl7e, Hold7, App4, StepI): steps of the proofs of chapter 5's laws. -/
import Derived.Maps.OwnIn
import Derived.Maps.Own
import Derived.Maps.OwnOps
import Derived.Deep.DeepCutAuto
import Derived.Laws.CopyRow
import Derived.Laws.CopyOwn
import Derived.Deep.MidRow
import Derived.Test.YtoaeglhjaandmaaM1
import Derived.Test.YtoaeglhjaandmaaM2
import Derived.Test.YtoaeglhjaandmaaM4
import Derived.Test.YtoaeglhjaandmaaM5
set_option linter.unusedVariables false
set_option linter.unusedSimpArgs false
/- A set of numbers as the program has it: a map from numbers to yes or no. -/
namespace Go.Proofs.Ytoaeglhjaandmaa
set_option maxRecDepth 100000
open Go.RowKit

/-- Block b is the set of the numbers for which S says yes; n stores at most have been made. -/
def FreeIs (w : World) (b n : Nat) (S : Int → Bool) : Prop :=
  ∃ D : DataW Unit, w.ownsMap Try.prog 2 (plainElem Try.prog 4) b n D ∧ ∀ y : Int, D.atKey (.int .i64 y) (.lit (.bool false)) = .lit (.bool (S y))
theorem FreeIs.made (w : World) {b : Nat} (hb : b = w.heap.size) : FreeIs (w.alloc (.map #[] 0)) b 0 (fun _ => false) := by
  subst hb
  exact ⟨_, World.ownsMap_made w _ _ _, fun y => rfl⟩
theorem FreeIs.lt {w : World} {b n : Nat} {S : Int → Bool} (h : FreeIs w b n S) : b < w.heap.size := by
  obtain ⟨D, h, _⟩ := h; exact h.lt
theorem FreeIs.kept {w w' : World} {b n : Nat} {S : Int → Bool} {row : Option Nat} (h : FreeIs w b n S) (hg : w.grownBy w' row) (hne : some b ≠ row) : FreeIs w' b n S := by
  obtain ⟨D, h, hD⟩ := h; exact ⟨D, h.kept hg hne, hD⟩
theorem FreeIs.below {w w' : World} {b n : Nat} {S : Int → Bool} (h : FreeIs w b n S) (hb : Below w.heap.size w w') : FreeIs w' b n S :=
  h.kept (row := none) ⟨hb.os, hb.tape, hb.output, hb.size, fun k hk _ => hb.block k hk⟩ (by simp)
theorem FreeIs.under {w w' : World} {b n B : Nat} {S : Int → Bool} (h : FreeIs w b n S) (hb : Below B w w') (hB : b < B) : FreeIs w' b n S := by
  obtain ⟨D, ⟨es, ck, hh, hx⟩, hD⟩ := h
  exact ⟨D, ⟨es, ck, (hb.block b hB).trans hh, hx⟩, hD⟩
theorem FreeIs.congr {w : World} {b n : Nat} {S S' : Int → Bool} (h : FreeIs w b n S) (he : ∀ y, S y = S' y) : FreeIs w b n S' := by
  obtain ⟨D, h, hD⟩ := h; exact ⟨D, h, fun y => by rw [hD, he]⟩
/-- It is no cells. -/
theorem FreeIs.obj {w : World} {b n : Nat} {S : Int → Bool} (h : FreeIs w b n S) : ∃ o : Obj, w.heap[b]? = some o ∧ o.isCells = false := by
  obtain ⟨D, ⟨es, ck, hh, _⟩, _⟩ := h; exact ⟨_, hh, rfl⟩

theorem FreeIs.put {w w' : World} {b n : Nat} {S : Int → Bool} {D : DataW Unit} {t : Int} (hw : (Lit.int .i64 t).wf = true) (h0 : w.ownsMap Try.prog 2 (plainElem Try.prog 4) b n D)
    (hD : ∀ y : Int, D.atKey (.int .i64 y) (.lit (.bool false)) = .lit (.bool (S y))) (h : w'.ownsMap Try.prog 2 (plainElem Try.prog 4) b (n + 1) (D.put (.int .i64 t) (.lit (.bool true)))) : FreeIs w' b (n + 1) (fun y => S y || y == t) := by
  refine ⟨_, h, fun y => ?_⟩
  by_cases e : y = t
  · subst e
    rw [Maps.atKey_put_same h0.isMap ((Maps.int_keyed Try.underlying2).key (Maps.keyOf_int_mk Try.underlying2 hw))]
    simp
  · have hne : Lit.int .i64 y ≠ Lit.int .i64 t := fun h => e (by injection h)
    rw [Maps.atKey_put_other hne, hD]
    have : (y == t) = false := by simpa using e
    show DataW.lit (Lit.bool (S y)) = DataW.lit (Lit.bool (S y || y == t))
    rw [this, Bool.or_false]
theorem FreeIs.del {w' : World} {b n : Nat} {S : Int → Bool} {D : DataW Unit} {t : Int}
    (hD : ∀ y : Int, D.atKey (.int .i64 y) (.lit (.bool false)) = .lit (.bool (S y))) (h : w'.ownsMap Try.prog 2 (plainElem Try.prog 4) b n (D.del (.int .i64 t))) : FreeIs w' b n (fun y => S y && !(y == t)) := by
  refine ⟨_, h, fun y => ?_⟩
  by_cases e : y = t
  · subst e
    rw [Maps.atKey_del_same]
    simp
  · have hne : Lit.int .i64 y ≠ Lit.int .i64 t := fun h => e (by injection h)
    rw [Maps.atKey_del_other hne, hD]
    have : (y == t) = false := by simpa using e
    show DataW.lit (Lit.bool (S y)) = DataW.lit (Lit.bool (S y && !(y == t)))
    rw [this]; simp

theorem wpList_put_free {ops : Array Oper} {rest : List Oper} {o : Oper} {a : Act} {w : World} {Q : Exit → Act → World → Prop} (hg : o.guard = none) (m x v : Operand) (hop : o.op = Op.mapUpdate 134 m x v)
    {b n : Nat} {S : Int → Bool} (hs : FreeIs w b n S) (hn : n < maxLen) (hm : a.eval m = .map (some b)) {t : Int} (hx : a.eval x = .int .i64 t) (hv : a.eval v = .bool true) (h0 : -9223372036854775808 ≤ t) (h1 : t ≤ 9223372036854775807)
    (hK : ∀ w', FreeIs w' b (n + 1) (fun y => S y || y == t) → w.grownBy w' (some b) → wpList Try.prog ops Q rest (a.put o.dst undef) w') : wpList Try.prog ops Q (o :: rest) a w := by
  obtain ⟨D, h, hD⟩ := hs
  have hw := i64_wf h0 h1
  refine wpList_mapUpdate_own w hg m x v 134 hop 2 4 (Maps.int_keyed Try.underlying2) Try.underlying134 (plainElem Try.prog 4) b n D hm h hn _ _ (.int .i64 t) hx hv (Maps.keyOf_int_mk Try.underlying2 hw) (.lit (.bool true)) [] (plainElem_bool Try.underlying4 true) ?_
  intro w1 h1 g1
  exact hK w1 (FreeIs.put hw h hD h1) g1

theorem wpListIn_del_free {F : Fence} {nF : Nat} {ops : Array Oper} {rest : List Oper} {o : Oper} {a : Act} {w : World} {Q : Exit → Act → World → Prop} (hg : o.guard = none) (m x : Operand) (hop : o.op = Op.call { callee := Callee.builtin Builtin.delete, args := #[m, x], argTypes := #[134, 2] })
    {b n : Nat} {S : Int → Bool} (hs : FreeIs w b n S) (hm : a.eval m = .map (some b)) {t : Int} (hx : a.eval x = .int .i64 t) (h0 : -9223372036854775808 ≤ t) (h1 : t ≤ 9223372036854775807)
    (hK : ∀ w', FreeIs w' b n (fun y => S y && !(y == t)) → w.grownBy w' (some b) → wpListIn F nF Try.prog ops Q rest (a.put o.dst (.tuple #[])) w') : wpListIn F nF Try.prog ops Q (o :: rest) a w := by
  obtain ⟨D, h, hD⟩ := hs
  have hw := i64_wf h0 h1
  refine wpListIn_delete_own w hg m x 134 2 hop 4 (Maps.int_keyed Try.underlying2) Try.underlying134 (plainElem Try.prog 4) b n D hm h _ (.int .i64 t) hx (Maps.keyOf_int_mk Try.underlying2 hw) ?_
  intro w1 h1 g1
  exact hK w1 (FreeIs.del hD h1) g1.grown

theorem FreeIs.look {w : World} {b n : Nat} {S : Int → Bool} (h : FreeIs w b n S) {t : Int} (h0 : -9223372036854775808 ≤ t) (h1 : t ≤ 9223372036854775807) :
    (Instr.lookup 134 (.map (some b)) (.int .i64 t) false).run Try.prog w = .ok (.bool (S t)) w := by
  obtain ⟨D, h, hD⟩ := h
  obtain ⟨v, ps, hrun, hv⟩ := h.lookup (Maps.int_keyed Try.underlying2) Try.underlying134 (zero_bool w) (plainElem_bool Try.underlying4 false) (Maps.keyOf_int_mk Try.underlying2 (i64_wf h0 h1))
  rw [hD t] at hv
  rw [hrun, bool_of_plain hv]

theorem wpListIn_lookup_free {F : Fence} {nF : Nat} {ops : Array Oper} {rest : List Oper} {o : Oper} {a : Act} {w : World} {Q : Exit → Act → World → Prop} (hg : o.guard = none) (m x : Operand) (hop : o.op = Op.lookup 134 m x false)
    {b n : Nat} {S : Int → Bool} (hs : FreeIs w b n S) (hm : a.eval m = .map (some b)) {t : Int} (hx : a.eval x = .int .i64 t) (h0 : -9223372036854775808 ≤ t) (h1 : t ≤ 9223372036854775807)
    (hK : wpListIn F nF Try.prog ops Q rest (a.put o.dst (.bool (S t))) w) : wpListIn F nF Try.prog ops Q (o :: rest) a w := by
  refine wpListIn_plain hg fun K' hK' => ?_
  have hrun := hs.look h0 h1
  unfold Oper.wpIn
  refine ⟨by simp [Oper.about, hop], ?_⟩
  rw [Oper.semAt_plain F _ _ (by rw [hop]; intro c hc'; cases hc')]
  simp [execOp, hop, hm, hx, hrun, Result.andThen]
  exact hK' _ _ hK
end Go.Proofs.Ytoaeglhjaandmaa

/- Chapter 7 of the program: the frames that are free, one after the other; the lowest one. -/
namespace Go.Proofs.Ytoaeglhjaandmaa
open Go.RowKit Go.Shelf
set_option maxRecDepth 100000

attribute [local go_sem] Oper.semAt_some


theorem filter_no {S : Int → Bool} {own : List Int} {k : Nat} (hk : k < own.length) (h : S (own.getD k 0) = false) : (own.take (k + 1)).filter S = (own.take k).filter S := by
  have hg : own.getD k 0 = own[k] := by simp [List.getD, hk]
  rw [List.take_succ_eq_append_getElem hk, List.filter_append, ← hg]
  rw [List.filter_cons, h]; simp
theorem filter_yes {S : Int → Bool} {own : List Int} {k : Nat} (hk : k < own.length) (h : S (own.getD k 0) = true) : (own.take (k + 1)).filter S = (own.take k).filter S ++ [own.getD k 0] := by
  have hg : own.getD k 0 = own[k] := by simp [List.getD, hk]
  rw [List.take_succ_eq_append_getElem hk, List.filter_append, ← hg]
  rw [List.filter_cons, h]; simp
theorem length_filter_take {S : Int → Bool} {own : List Int} {k : Nat} : ((own.take k).filter S).length ≤ k := Nat.le_trans (List.length_filter_le _ _) (by simp; omega)

set_option maxHeartbeats 2000000 in
/-- The iterator over the free frames, for every loop body that keeps what lay below n₀. -/
theorem free1_in (n : Nat) (hn : 1 ≤ n) (l bo bm mb N n₀ len cap : Nat) (S : Int → Bool) (ao : Option Addr) (own : List Int) (hlen : len ≤ 17592186044416) (hv : ∀ j, j < len → 0 ≤ own.getD j 0 ∧ own.getD j 0 ≤ 1000) (J Jx : List Int → World → Prop)
    (hY : ∀ pre x W, J pre W → pre.length < len → YieldAt Fence.wide (n - 1) Try.prog l #[.int .i64 x] W fun e W' =>
      (e = .returned (.bool true) ∧ J (pre ++ [x]) W' ∧ Below n₀ W W') ∨ (e = .returned (.bool false) ∧ Jx (pre ++ [x]) W'))
    (W : World) (hBo : Row W bo 27 #[.slice ao len cap]) (hbo : bo < n₀) (hBm : Row W bm 134 #[.map (some mb)]) (hbm : bm < n₀) (hF : FreeIs W mb N S) (hmb : mb < n₀)
    (hl : own.length = len) (hc : 0 < len → ∃ b off, ao = some ⟨b, off, none⟩ ∧ b < n₀ ∧ ∀ j, j < len → W.cell? ⟨b, off + j, none⟩ = some (.int .i64 (own.getD j 0))) (h0 : J [] W) :
    CallsIn Fence.wide n Try.prog 108 #[.func (.yield l) #[] #[], .pointer (some ⟨bo, 0, none⟩), .pointer (some ⟨bm, 0, none⟩)] W fun e W' => (∃ v, e = .returned v) ∧
      ((∃ ys, ys = own.filter S ∧ J ys W') ∨ (∃ pre, (∃ k, k ≤ len ∧ pre = (own.take k).filter S) ∧ Jx pre W')) := by
  refine callsIn_of_wp Try.func108 rfl trivial ?_ rfl
  simp only [Try.ntmps108, List.size_toArray, List.length_cons, List.length_nil, Nat.reduceAdd, Nat.reduceSub, Array.replicate_succ, Array.replicate_zero, List.push_toArray, List.append_toArray, List.nil_append, List.cons_append]
  have HL := Lib.hid hl
  have HV := Lib.hid hv
  have c0 := hBo.cell 0
  simp at c0
  clear hl hv
  gi_wp2
  clear c0
  gi_loopw [8] (fun i wr => ∃ k : Nat, k ≤ len ∧ i = .int .i64 k ∧ J ((own.take k).filter S) wr ∧ Below n₀ W wr) (fun i _ => len - (intOf i).toNat)
  case atStart => exact ⟨0, Nat.zero_le _, rfl, h0, Below.refl _ _⟩
  case round =>
    obtain ⟨k, hk, rfl, hJs, hnx⟩ := hrel
    by_cases hlt : k < len
    · obtain ⟨b, off, rfl, hb, hcs⟩ := hc (by omega)
      have hcx : wr.cell? ⟨b, off + k, none⟩ = some (.int .i64 (own.getD k 0)) := (hnx.cell (p := ⟨b, off + k, none⟩) hb).trans (hcs k hlt)
      have hm0 : wr.cell? ⟨bm, 0, none⟩ = some (.map (some mb)) := (hnx.cell (p := ⟨bm, 0, none⟩) hbm).trans (hBm.cell 0)
      have hFw := hF.under hnx hmb
      have hko : k < own.length := by have := HL.out; omega
      obtain ⟨v0, v1⟩ := HV.out k hlt
      clear hc hcs
      rcases hV : S (own.getD k 0) with _ | _
      · have HE := Lib.hid (filter_no hko hV)
        obtain ⟨v, hvv⟩ : ∃ v, v = own.getD k 0 := ⟨_, rfl⟩
        rw [← hvv] at hcx hV v0 v1
        clear hvv
        gi_wp2_with (gi_at_lookup; go_must (refine wpListIn_lookup_free rfl _ _ rfl hFw rfl rfl (by omega) (by omega) ?_); rw [hV])
        refine ⟨fun _ h => (by cases h), ?_⟩
        gi_wp2
        go_roundw
        case rel => exact ⟨k + 1, by omega, by simp, by rw [HE.out]; exact hJs, hnx⟩
        case measure => simp [intOf]; omega
      · have HE := Lib.hid (filter_yes hko hV)
        obtain ⟨fn, tmps, assign, body, hy, hR⟩ := hY _ (own.getD k 0) wr hJs (Nat.lt_of_le_of_lt length_filter_take hlt)
        obtain ⟨v, hvv⟩ : ∃ v, v = own.getD k 0 := ⟨_, rfl⟩
        rw [← hvv] at hcx hV v0 v1 hy hR HE
        clear hvv
        gi_wp2_with (gi_at_lookup; go_must (refine wpListIn_lookup_free rfl _ _ rfl hFw rfl rfl (by omega) (by omega) ?_); rw [hV])
        refine hR.mono ?_
        rintro e W3 (⟨rfl, hJ3, hk3⟩ | ⟨rfl, hJx3⟩)
        · gi_wp2
          go_roundw
          case rel => exact ⟨k + 1, by omega, by simp, by rw [HE.out]; exact hJ3, hnx.trans hk3⟩
          case measure => simp [intOf]; omega
        · gi_wp2
          refine bodyPost_ret (results_none rfl _ _ _) rfl ?_
          exact ⟨⟨_, rfl⟩, .inr ⟨_, ⟨k + 1, by omega, HE.out.symm⟩, hJx3⟩⟩
    · obtain rfl : k = len := by omega
      have HF : Hid (J (own.filter S) wr) := by have := hJs; rw [List.take_of_length_le (by have := HL.out; omega)] at this; exact this
      clear hJs
      gi_wp2
      go_end0
      exact ⟨⟨_, rfl⟩, .inl ⟨_, rfl, HF.out⟩⟩
end Go.Proofs.Ytoaeglhjaandmaa

/- The pages that have a frame, where a round has to know something of what it is handed. -/
namespace Go.Proofs.Ytoaeglhjaandmaa
open Go.RowKit Go.Shelf

attribute [local go_sem] Oper.semAt_some

set_option maxRecDepth 100000 in
set_option maxHeartbeats 2000000 in
/-- The iterator itself, for every loop body that keeps what lay below n₀. -/
theorem heldV1_in {α : Type} (val : α → Nat × Int) (n : Nat) (hn : 1 ≤ n) (l Bt n₀ len cap : Nat) (ao : Option Addr) (fr : List Int) (hlen : len ≤ 17592186044416) (mk : ∀ k, k < len → fr.getD k 0 ≠ -1 → ∃ x, val x = (k, fr.getD k 0)) (J Jx : List α → World → Prop)
    (hY : ∀ pre x W, J pre W → pre.length < len → YieldAt Fence.wide (n - 1) Try.prog l #[.int .i64 ((val x).1 : Int), .int .i64 (val x).2] W fun e W' =>
      (e = .returned (.bool true) ∧ J (pre ++ [x]) W' ∧ Below n₀ W W') ∨ (e = .returned (.bool false) ∧ Jx (pre ++ [x]) W'))
    (W : World) (hBt : W.cell? ⟨Bt, 1, none⟩ = some (.slice ao len cap)) (hl : fr.length = len) (hc : 0 < len → ∃ b off, ao = some ⟨b, off, none⟩ ∧ b < n₀ ∧ ∀ j, j < len → W.cell? ⟨b, off + j, none⟩ = some (.int .i64 (fr.getD j 0))) (h0 : J [] W) :
    CallsIn Fence.wide n Try.prog 94 #[.func (.yield l) #[] #[], .pointer (some ⟨Bt, 0, none⟩)] W fun e W' => (∃ v, e = .returned v) ∧
      ((∃ ys : List α, ys.map val = heldP fr len ∧ J ys W') ∨ (∃ pre : List α, (∃ k, k ≤ len ∧ pre.map val = heldP fr k) ∧ Jx pre W')) := by
  refine callsIn_of_wp Try.func94 rfl trivial ?_ rfl
  simp only [Try.ntmps94, List.size_toArray, List.length_cons, List.length_nil, Nat.reduceAdd, Nat.reduceSub, Array.replicate_succ, Array.replicate_zero, List.push_toArray, List.append_toArray, List.nil_append, List.cons_append]
  have HL := Lib.hid hl
  clear hl
  gi_wp2
  gi_loopw [8] (fun i wr => ∃ k : Nat, k ≤ len ∧ i = .int .i64 k ∧ (∃ pre : List α, pre.map val = heldP fr k ∧ J pre wr) ∧ Below n₀ W wr) (fun i _ => len - (intOf i).toNat)
  case atStart => exact ⟨0, Nat.zero_le _, rfl, ⟨[], rfl, h0⟩, Below.refl _ _⟩
  case round =>
    obtain ⟨k, hk, rfl, ⟨pre, hpre, hJs⟩, hnx⟩ := hrel
    by_cases hlt : k < len
    · obtain ⟨b, off, rfl, hb, hcs⟩ := hc (by omega)
      have hcx : wr.cell? ⟨b, off + k, none⟩ = some (.int .i64 (fr.getD k 0)) := (hnx.cell (p := ⟨b, off + k, none⟩) hb).trans (hcs k hlt)
      clear hc hcs
      by_cases hv : fr.getD k 0 = -1
      · have HE := Lib.hid (heldP_no hv)
        have hcx' : wr.cell? ⟨b, off + k, none⟩ = some (.int .i64 (-1)) := by rw [hcx, hv]
        clear hcx hv
        gi_wp2
        refine ⟨fun _ h => (by cases h), ?_⟩
        gi_wp2
        go_roundw
        case rel => exact ⟨k + 1, by omega, by simp, ⟨pre, by rw [HE.out]; exact hpre, hJs⟩, hnx⟩
        case measure => simp [intOf]; omega
      · have HE := Lib.hid (heldP_yes hv)
        obtain ⟨x, hx⟩ := mk k hlt hv
        have hyx := hY pre x wr hJs (by have := length_heldP fr k; rw [← hpre, List.length_map] at this; omega)
        rw [hx] at hyx
        obtain ⟨fn, tmps, assign, body, hy, hR⟩ := hyx
        dsimp only at hy
        have HX := Lib.hid (show (pre ++ [x]).map val = heldP fr (k + 1) by rw [List.map_append, hpre, HE.out, List.map_cons, List.map_nil, hx])
        clear HE hx
        obtain ⟨v, hvv⟩ : ∃ v, v = fr.getD k 0 := ⟨_, rfl⟩
        rw [← hvv] at hcx hv hy
        have hne : (v != -1) = true := by simpa using hv
        clear hvv hv
        gi_wp2
        refine hR.mono ?_
        rintro e W3 (⟨rfl, hJ3, hk3⟩ | ⟨rfl, hJx3⟩)
        · gi_wp2
          go_roundw
          case rel => exact ⟨k + 1, by omega, by simp, ⟨_, HX.out, hJ3⟩, hnx.trans hk3⟩
          case measure => simp [intOf]; omega
        · gi_wp2
          refine bodyPost_ret (results_none rfl _ _ _) rfl ?_
          exact ⟨⟨_, rfl⟩, .inr ⟨_, ⟨k + 1, by omega, HX.out⟩, hJx3⟩⟩
    · obtain rfl : k = len := by omega
      gi_wp2
      go_end0
      exact ⟨⟨_, rfl⟩, .inl ⟨_, hpre, hJs⟩⟩

/-- heldFrames hands back a value that gives the pages that have a frame, or the first of them. -/
theorem heldV_stops {α : Type} (val : α → Nat × Int) (n : Nat) (hn : 1 ≤ n) (Bt n₀ len cap : Nat) (tn : Int) (ao : Option Addr) (fr : List Int) (hlen : len ≤ 17592186044416) (mk : ∀ k, k < len → fr.getD k 0 ≠ -1 → ∃ x, val x = (k, fr.getD k 0)) (w : World) (_hB : Bt < w.heap.size) (hn₀ : n₀ ≤ w.heap.size)
    (hR : Row w Bt 29 #[.int .i64 tn, .slice ao len cap]) (hl : fr.length = len) (hc : 0 < len → ∃ b off, ao = some ⟨b, off, none⟩ ∧ b < n₀ ∧ ∀ j, j < len → w.cell? ⟨b, off + j, none⟩ = some (.int .i64 (fr.getD j 0))) :
    SeqStopsK Fence.wide n Try.prog 94 #[.pointer (some ⟨Bt, 0, none⟩)] (fun x : α => #[Value.int .i64 ((val x).1 : Int), Value.int .i64 (val x).2]) (Below n₀) (fun ys => ys.map val = heldP fr len) (fun pre => ∃ k, k ≤ len ∧ pre.map val = heldP fr k) len w := fun l J Jx W hW _ _ hY h0 =>
  heldV1_in val n hn l Bt n₀ len cap ao fr hlen mk J Jx hY W (by rw [(hR.below hW).cell 1]; rfl) hl (fun h0' => by
    obtain ⟨b, off, e, hb, hcs⟩ := hc h0'
    exact ⟨b, off, e, hb, fun j hj => (hW.cell (p := ⟨b, off + j, none⟩) (by show b < _; omega)).trans (hcs j hj)⟩) h0
end Go.Proofs.Ytoaeglhjaandmaa

/- Chapter 7 of the program: the frames that are free; the lowest one. -/
namespace Go.Proofs.Ytoaeglhjaandmaa
open Go.RowKit Go.Shelf
set_option maxRecDepth 100000

attribute [local go_sem] Oper.semAt_some

theorem heldP_table {F C : Int} {ts : List (List Int × Int)} {tn : Int} {fr : List Int} (h : tableFault F C ts tn fr = 0) {k : Nat} (hk : k < fr.length) : -1 ≤ fr.getD k 0 ∧ fr.getD k 0 ≤ 40 := by
  by_cases hv : fr.getD k 0 = -1
  · omega
  · have := table_frame h hk hv; omega
theorem own_range {F C : Int} {ts : List (List Int × Int)} {tn : Int} (h : (framesFor F C ts tn).1 = 0) {k : Nat} (hk : k < (framesFor F C ts tn).2.length) : 0 ≤ (framesFor F C ts tn).2.getD k 0 ∧ (framesFor F C ts tn).2.getD k 0 ≤ 40 := by
  obtain ⟨c1, _, _, c2⟩ := framesFor_ok h
  have c3 := configFault_ok c1
  have hm : (framesFor F C ts tn).2.getD k 0 ∈ (framesFor F C ts tn).2 := by
    rw [List.getD_eq_getElem?_getD, List.getElem?_eq_getElem hk]; exact List.getElem_mem hk
  generalize hx : (framesFor F C ts tn).2.getD k 0 = x at hm
  rw [c2, mem_framesTo] at hm
  omega
theorem hasIn_take {own : List Int} {k : Nat} (hk : k < own.length) (y : Int) : (hasIn (own.take k) y || y == own.getD k 0) = hasIn (own.take (k + 1)) y := by
  have hg : own.getD k 0 = own[k] := by simp [List.getD, hk]
  rw [List.take_succ_eq_append_getElem hk, hg, Bool.eq_iff_iff, Bool.or_eq_true, hasIn_mem, hasIn_mem, List.mem_append, List.mem_singleton, beq_iff_eq]
/-- A number of 64 bits, at a page. -/
abbrev PI : Type := { p : Nat × Int // -1 ≤ p.2 ∧ p.2 ≤ 40 }

/-- The free frames' iterator as a value: its two boxes, the list and the set. -/
def FreeOut (w : World) (own fr : List Int) (e : Ending) (w' : World) : Prop :=
  ∃ bo bm mb N ao k c, e = .returned (.func (.func 108) #[] #[.pointer (some ⟨bo, 0, none⟩), .pointer (some ⟨bm, 0, none⟩)]) ∧ Row w' bo 27 #[.slice ao k c] ∧ Ints w' ao k own ∧ Row w' bm 134 #[.map (some mb)] ∧
    FreeIs w' mb N (fun y => hasIn own y && !hasIn fr y) ∧ Below w.heap.size w w'

set_option maxHeartbeats 2000000 in
theorem freeFrames_calls {ao ta : Option Addr} {n cc m tc : Nat} {F C tn : Int} {ts : List (List Int × Int)} {fr own : List Int} {w : World} (hT : Tens w ao n ts) (hS : Short 17592186044416 ts) (hcc : n ≤ cc) (hn : n ≤ 17592186044416) (hf : Ints w ta m fr) (hm : m ≤ 17592186044416) (h0 : tableFault F C ts tn fr = 0) (ho : (framesFor F C ts tn).2 = own) :
    Calls Try.prog 90 #[.agg #[.int .i64 F, .int .i64 C, .slice ao n cc], .agg #[.int .i64 tn, .slice ta m tc]] w (FreeOut w own (heldF fr)) := by
  have HL := Lib.hid hf.1
  have hq := (tableFault_ok h0).1
  have HOR := Lib.hid (fun k hk => ho ▸ own_range (k := k) hq (ho.symm ▸ hk) : ∀ k, k < own.length → 0 ≤ own.getD k 0 ∧ own.getD k 0 ≤ 40)
  have HFR := Lib.hid (fun k hk => heldP_table h0 hk : ∀ k, k < fr.length → -1 ≤ fr.getD k 0 ∧ fr.getD k 0 ≤ 40)
  have hsm := framesFor_small F C ts tn
  rw [ho] at hsm
  have hmm := @run_makeMap Try.prog
  have qR := run_field_R1
  refine calls_of_marks Try.func90 rfl ?_
  simp only [Try.ntmps90, List.size_toArray, List.length_cons, List.length_nil, Nat.reduceAdd, Nat.reduceSub, Array.replicate_succ, Array.replicate_zero, List.push_toArray, List.append_toArray, List.nil_append, List.cons_append]
  go_wp2_with fail
  refine (framesFor_calls ((hT.alloc _).alloc _) hS hcc hn).mono ?_
  rintro e w1 ⟨v, k, rfl, hown, hb1⟩
  rw [ho] at hown
  rw [hq]
  have hfI := ((hf.alloc _).alloc _).below hb1
  have hk : k = own.length := hown.in_.lohi
  obtain ⟨vo, vc, rfl, hvc, _, _⟩ := hown.shape
  obtain ⟨hr0, hr1, hb, hs⟩ := two_new hb1
  have hOI := hown.ints
  have HK := Lib.hid hk
  have hk40 : k ≤ 40 := by omega
  obtain ⟨W, hW⟩ : ∃ W, ((w1.alloc (.cells #[.slice vo k vc] 27)).alloc (.map #[] 0)).alloc (.cells #[.map (some (w1.heap.size + 1))] 134) = W := ⟨_, rfl⟩
  have hbW : Below w1.heap.size w1 W := by rw [← hW]; exact (((Below.refl _ _).alloc (Nat.le_refl _) _).alloc (by simp) _).alloc (by simp; omega) _
  have hWs : W.heap.size = w1.heap.size + 3 := by rw [← hW]; simp
  have ro : Row W w1.heap.size 27 #[.slice vo k vc] := by rw [← hW]; exact Row.below (w := w1.alloc (.cells #[.slice vo k vc] 27)) (heap_alloc_new _ _) (((Below.refl _ _).alloc (Nat.le_refl _) _).alloc (by simp) _)
  have rm : Row W (w1.heap.size + 1 + 1) 134 #[.map (some (w1.heap.size + 1))] := by
    rw [← hW]; have h := heap_alloc_new ((w1.alloc (.cells #[.slice vo k vc] 27)).alloc (.map #[] 0)) (.cells #[.map (some (w1.heap.size + 1))] 134)
    rw [World.size_alloc, World.size_alloc] at h; exact h
  have fm : FreeIs W (w1.heap.size + 1) 0 (fun _ => false) := by rw [← hW]; exact (FreeIs.made (w1.alloc (.cells #[.slice vo k vc] 27)) (by simp)).below ((Below.refl _ _).alloc (Nat.le_refl _) _)
  have o0 := ro.cell 0
  have m0 := rm.cell 0
  simp at o0 m0
  have hOW := hOI.below hbW
  have hfW := hfI.below hbW
  have hOB := hOI.old
  have hFB := hfI.old
  have r1W := Row.below hr1 hbW
  have HB := Lib.hid (hb.trans (hbW.mono hb.size))
  have HR1 := Lib.hid r1W
  have HFm := Lib.hid fm
  clear hb1 hown hr0 hr1 hb hk hOI hfI hbW fm
  go_wp2_with fail
  go_loopw [19] (fun i wr => ∃ j : Nat, j ≤ k ∧ i = .int .i64 j ∧ FreeIs wr (w1.heap.size + 1) j (hasIn (own.take j)) ∧ Turn (fun q => q = w1.heap.size + 1) W wr) (fun i _ => k - (intOf i).toNat)
  case atStart => exact ⟨0, Nat.zero_le _, rfl, HFm.out.congr (fun y => by simp [hasIn]), Turn.refl _ _⟩
  case round =>
    obtain ⟨j, hj, rfl, hfree, ht⟩ := hrel
    have hOr := hOW.turned ht (fun x hx h0 => by have := hOB x hx h0; omega)
    have m0 := (ht.row rm (by omega)).cell 0
    have o0 := (ht.row ro (by omega)).cell 0
    simp at m0 o0
    by_cases hlt : j < k
    · obtain ⟨b, off, rfl, hbb, hc⟩ := hOr.at_ hlt
      have hjo : j < own.length := by have := HK.out; omega
      obtain ⟨v0, v1⟩ := HOR.out j hjo
      have HTk := Lib.hid (hasIn_take hjo)
      obtain ⟨y, hy⟩ : ∃ y, y = own.getD j 0 := ⟨_, rfl⟩
      rw [← hy] at hc v0 v1 HTk
      clear hy
      go_wp2_with (at_mapUpdate; go_must (refine wpList_put_free rfl _ _ _ rfl hfree (by unfold maxLen; omega) rfl rfl rfl (by omega) (by omega) ?_); intro w2 hf2 hg2)
      go_roundw
      case rel => exact ⟨j + 1, by omega, by go_num, hf2.congr HTk.out, ht.trans (U := fun q => q = w1.heap.size + 1) ⟨hg2.os, hg2.tape, hg2.output, hg2.size, fun q hq hn => hg2.block q hq (fun e => hn (by injection e))⟩ (fun i hi _ => hi)⟩
      case measure => simp [intOf]; omega
    · obtain rfl : j = k := by omega
      have rt := ht.row HR1.out (by have := hs; omega)
      have t0 := rt.cell 0
      have t1 := rt.cell 1
      simp at t0 t1
      have HFr := Lib.hid (hfree.congr (S' := hasIn own) (fun y => by rw [List.take_of_length_le (by have := HK.out; omega)]))
      clear hfree o0 m0
      go_wp2_with (go_at_call 64; refine (heldFrames_in _ _ _ _ _).mono ?_; rintro e w' ⟨rfl, rfl⟩)
      have hfn : ∀ h0 : 0 < m, ∃ b off, ta = some ⟨b, off, none⟩ ∧ b < w.heap.size ∧ ∀ j, j < m → w.cell? ⟨b, off + j, none⟩ = some (.int .i64 (fr.getD j 0)) := hf.2
      have hb0 : Below wr.heap.size wr (wr.alloc (.cells #[.int .i64 tn, .slice ta m tc] 29)) := (Below.refl _ _).alloc (Nat.le_refl _) _
      have RT : Row (wr.alloc (.cells #[.int .i64 tn, .slice ta m tc] 29)) wr.heap.size 29 #[.int .i64 tn, .slice ta m tc] := heap_alloc_new _ _
      have hts := ht.size
      have RO := Row.below (ht.row ro (by omega)) hb0
      have RM := Row.below (ht.row rm (by omega)) hb0
      have IO := hOr.below hb0
      have hIB : ∀ x, vo = some x → 0 < j → x.block < w1.heap.size := hOB
      have FM := HFr.out.below hb0
      have BW := (Turn.below HB.out ht HB.out.size (fun q hq => by omega)).trans (hb0.mono (Nat.le_trans HB.out.size hts))
      have s0 : (wr.alloc (.cells #[.int .i64 tn, .slice ta m tc] 29)).heap.size = wr.heap.size + 1 := by simp
      obtain ⟨W0, hW0⟩ : ∃ W0, wr.alloc (.cells #[.int .i64 tn, .slice ta m tc] 29) = W0 := ⟨_, rfl⟩
      rw [hW0] at hb0 RT RO RM IO FM BW s0 ⊢
      clear hW0 hb0 t0 t1 hOr
      have hBW := BW.size
      refine wpIn_wide.1 (wpIn_rangeFunc_ownG (n := 3) rfl (by omega) (gf := 94) (lb := #[.pointer (some ⟨wr.heap.size, 0, none⟩)]) rfl trivial (enters_of Try.func94 (by kernel_rfl) rfl)
        (heldV_stops (fun x : PI => x.1) 2 (by omega) wr.heap.size w.heap.size m tc tn ta fr hm (fun k hk hv => ⟨⟨(k, fr.getD k 0), HFR.out k (by have := HL.out; omega)⟩, rfl⟩) W0 (by omega) hBW RT HL.out (fun h0 => by
          obtain ⟨b, off, e, hb, hc⟩ := hfn h0
          exact ⟨b, off, e, hb, fun j hj => (BW.cell (p := ⟨b, off + j, none⟩) hb).trans (hc j hj)⟩)) belowK_t (belowK_b (by omega)) (Below.refl _ _) (fun _ => rfl)
        (fun pre W' => FreeIs W' (w1.heap.size + 1) j (fun y => hasIn own y && !hasIn (pre.map (fun x : PI => x.1.2)) y) ∧ Turn (fun q => q = w1.heap.size + 1 ∨ W0.heap.size ≤ q) W0 W')
        (fun _ _ _ => False)
        (OwnFrom.and (fun s A B row hs hg hr => hs.kept hg (fun e => by have := (hr _ e.symm).1; omega)) (ownFrom_turn (fun q hq => .inr hq)))
        (fun _ _ _ _ _ hs _ _ => hs)
        ⟨FM.congr (fun y => by simp [hasIn]), Turn.refl _ _⟩
        (fun x => { tmps := #[.agg #[.int .i64 F, .int .i64 C, .slice ao n cc], .agg #[.int .i64 tn, .slice ta m tc], .pointer (some ⟨w.heap.size, 0, none⟩), .pointer (some ⟨w.heap.size + 1, 0, none⟩), .nilFunc, .pointer (some ⟨w1.heap.size, 0, none⟩), .pointer (some ⟨w1.heap.size + 1 + 1, 0, none⟩), undef, u8, undef, .int .i64 x.1.2, .agg #[.int .i64 F, .int .i64 C, .slice ao n cc], .pointer (some ⟨w.heap.size + 1, 0, none⟩), .int .i64 tn, .agg #[.int .i64 0, .slice vo j vc], .slice vo j vc, .map (some (w1.heap.size + 1)), .slice vo j vc, .int .i64 ↑j, .int .i64 ↑j, .bool false, u21, u22, u23, u24, u25, .agg #[.int .i64 tn, .slice ta m tc], .func (Fn.func 94) #[] #[.pointer (some ⟨wr.heap.size, 0, none⟩)], .int .i64 (x.1.1 : Int), .int .i64 x.1.2, undef, undef, undef], defers := [] }) ?assign ?body ?done ?stop)
      case assign =>
        intro l x W K hK
        gi_wp2
        exact hK
      case body =>
        rintro l pre x W' ⟨hfree, ht3⟩ _
        have m0 := (ht3.row RM (by omega)).cell 0
        simp at m0
        obtain ⟨v0, v1⟩ := x.2
        gi_wp2_with (gi_at_delete; go_must (refine wpListIn_del_free rfl _ _ rfl hfree rfl rfl (by omega) (by omega) ?_); intro w4 hf4 hg4)
        have t4 : Turn (fun q => q = w1.heap.size + 1) W' w4 := ⟨hg4.os, hg4.tape, hg4.output, hg4.size, fun q hq hn => hg4.block q hq (fun e => hn (by injection e))⟩
        refine ⟨KeepsFrom.of_grownBy hg4 (fun q e => by cases e; omega), Turn.below (Below.refl w.heap.size W') t4 (by have := ht3.size; omega) (fun q hq => by omega), hf4.congr (fun y => ?_), ht3.trans t4 (fun q hq _ => .inl hq)⟩
        rw [List.map_append, Bool.eq_iff_iff]
        simp only [Bool.and_eq_true, Bool.not_eq_true', List.map_cons, List.map_nil]
        rw [← Bool.not_eq_true, ← Bool.not_eq_true, ← Bool.not_eq_true, hasIn_mem, hasIn_mem, hasIn_mem, beq_iff_eq, List.mem_append, List.mem_singleton]
        constructor
        · rintro ⟨⟨a, b⟩, c⟩; exact ⟨a, fun h => h.elim b c⟩
        · rintro ⟨a, b⟩; exact ⟨⟨a, fun h => b (.inl h)⟩, fun h => b (.inr h)⟩
      case done =>
        rintro D ys W' hD hys ⟨hfree, ht3⟩ hK
        have hys2 : ys.map (fun x : PI => x.1.2) = heldF fr := by
          have h := congrArg (List.map (fun p : Nat × Int => p.2)) hys
          rw [List.map_map, ← HL.out, heldP_held] at h
          exact h
        rw [hys2] at hfree
        have HFR3 := Lib.hid hfree
        clear hfree hys hys2
        go_wp2_with fail
        have hlm := left_mark hK
        refine postM_ret1 hK rfl (results_tmp rfl _ _ _) ⟨_, _, _, _, _, _, _, rfl, (ht3.row RO (by omega)).leftBy hlm.1 hlm.2, (IO.turned ht3 (fun x hx h0 => by have := hIB x hx h0; omega)).leftBy hlm.1 hlm.2, (ht3.row RM (by omega)).leftBy hlm.1 hlm.2, HFR3.out.kept hlm.1 (fun e => by injection e; omega), ?_⟩
        exact (Turn.below BW ht3 hBW (fun q hq => by omega)).trans (belowK_b (w := w) (Nat.le_refl _) _ D _ _ (by omega) hK rfl rfl)
      case stop =>
        rintro D c pre W' _ _ h _
        exact h.elim
end Go.Proofs.Ytoaeglhjaandmaa

/- Chapter 7 of the model: the lowest frame that a table has not; a page is granted it. -/
namespace Go.Proofs.Ytoaeglhjaandmaa
open Go.RowKit
set_option maxRecDepth 100000

set_option maxHeartbeats 2000000 in
theorem l7Lowest_calls {ao ta : Option Addr} {pc pt n cc m tc : Nat} {F C tn : Int} {ts : List (List Int × Int)} {fr own : List Int} {w : World} (hT : Tens w ao n ts) (hS : Short 17592186044416 ts) (hcc : n ≤ cc) (hn : n ≤ 17592186044416) (hf : Ints w ta m fr) (hm : m ≤ 17592186044416)
    (hcf : CfgAt w pc F C ao n cc) (hR : Row w pt 29 #[.int .i64 tn, .slice ta m tc]) (h0 : tableFault F C ts tn fr = 0) (ho : (framesFor F C ts tn).2 = own) :
    Calls Try.prog 60 #[.pointer (some ⟨pc, 0, none⟩), .pointer (some ⟨pt, 0, none⟩)] w fun e w' => e = .returned (.int .i64 (lowestOf own fr)) ∧ Below w.heap.size w w' := by
  have hq := (tableFault_ok h0).1
  obtain ⟨g1, g2, g3, g4⟩ := framesFor_ok hq
  have g5 := configFault_ok g1
  have hsm := framesFor_small F C ts tn
  have hnl := hT.1
  rw [ho] at hsm g4
  obtain ⟨kt, rfl⟩ : ∃ k : Nat, tn = k := ⟨tn.toNat, by omega⟩
  obtain ⟨mF, rfl⟩ : ∃ m : Nat, F = m := ⟨F.toNat, by omega⟩
  rw [show ((kt : Int)).toNat = kt by omega, show ((mF : Int)).toNat = mF by omega] at g4
  have HL := Lib.hid hf.1
  have t0 := hR.cell 0
  have t1 := hR.cell 1
  have tl := hR.lt
  simp at t0 t1
  go_enter Try.func60, Try.ntmps60
  go_wp2_with fail
  refine (l2Frames_calls hcf hT hS hcc hn (k := kt) (by omega) (by omega) g5.2.2.1 g5.2.2.2.1).mono ?_
  rw [← g4]
  rintro e w1 ⟨v, rfl, hown, hb1⟩
  obtain ⟨vo, vc, rfl, hvc, _, _⟩ := hown.shape
  have hOI := hown.ints
  have hfI := hf.below hb1
  have HRw := Lib.hid (Row.below hR hb1)
  have HB := Lib.hid hb1
  obtain ⟨k, hk⟩ : ∃ k, k = own.length := ⟨_, rfl⟩
  have HK := Lib.hid hk
  rw [← hk] at hOI hsm hvc ⊢
  clear hown hb1 g4 g5 g1 g2 g3 hnl hk t0 t1 tl h0 ho hq
  go_wp2_with fail
  go_loopw [6] (fun i wr => ∃ j : Nat, j ≤ k ∧ i = .int .i64 j ∧ Hid (∀ l, l < j → hasIn fr (own.getD l 0) = true) ∧ Below w1.heap.size w1 wr) (fun i _ => k - (intOf i).toNat)
  case atStart => exact ⟨0, Nat.zero_le _, rfl, fun l hl => by omega, Below.refl _ _⟩
  case round =>
    obtain ⟨j, hj, rfl, HA, hbw⟩ := hrel
    have hfw := hfI.below hbw
    have hOw := hOI.below hbw
    have rr := HRw.out.below hbw
    have t0 := rr.cell 0
    have t1 := rr.cell 1
    have tl := rr.lt
    simp at t0 t1
    by_cases hlt : j < k
    · obtain ⟨b, off, rfl, hbb, hc⟩ := hOw.at_ hlt
      have hjo : j < own.length := by have := HK.out; omega
      have hjk : (j : Int) < (k : Int) := by omega
      rcases hV : hasIn fr (own.getD j 0) with _ | _
      · have HF := Lib.hid (lowestOf_at hjo HA.out hV)
        obtain ⟨y, hy⟩ : ∃ y, y = own.getD j 0 := ⟨_, rfl⟩
        rw [← hy] at hc hV HF
        clear hy
        go_wp2_with (go_quiet ((go_at_call 68; go_must (refine (l1Has_calls (hfw.drewN _) (by omega)).mono ?_); rw [hV]; rintro e w' ⟨rfl, rfl⟩; exact ⟨rfl, _, rfl⟩)))
        go_ret
        exact ⟨ret_int HF.out.symm, HB.out.trans ((below_drewN hbw _).mono HB.out.size)⟩
      · have HS := Lib.hid (show ∀ l, l < j + 1 → hasIn fr (own.getD l 0) = true from fun l hl => by
          by_cases e : l = j
          · rw [e]; exact hV
          · exact HA.out l (by omega))
        obtain ⟨y, hy⟩ : ∃ y, y = own.getD j 0 := ⟨_, rfl⟩
        rw [← hy] at hc hV
        clear hy
        go_wp2_with (go_quiet ((go_at_call 68; go_must (refine (l1Has_calls (hfw.drewN _) (by omega)).mono ?_); rw [hV]; rintro e w' ⟨rfl, rfl⟩; exact ⟨rfl, _, rfl⟩)))
        go_roundw
        case rel => exact ⟨j + 1, by omega, by go_num, HS, below_drewN hbw _⟩
        case measure => simp [intOf]; omega
    · obtain rfl : j = k := by omega
      have HF := Lib.hid (show lowestOf own fr = -1 from lowestOf_none (fun l hl => HA.out l (by have := HK.out; omega)))
      go_wp2_with fail
      go_ret
      exact ⟨ret_int HF.out.symm, HB.out.trans (hbw.mono HB.out.size)⟩

set_option maxHeartbeats 1000000 in
theorem sGrantPage_calls {ao ta : Option Addr} {n cc m tc : Nat} {F C tn p : Int} {ts : List (List Int × Int)} {fr : List Int} {w : World} (hT : Tens w ao n ts) (hS : Short 17592186044416 ts) (hcc : n ≤ cc) (hn : n ≤ 17592186044416) (hf : Ints w ta m fr) (hm : m ≤ 1099511627776) (hmc : m ≤ tc) :
    Calls Try.prog 18 #[.agg #[.int .i64 F, .int .i64 C, .slice ao n cc], .agg #[.int .i64 tn, .slice ta m tc], .int .i64 p] w (RetsTab w (grantPage F C ts tn fr p)) := by
  have HL := Lib.hid hf.1
  obtain ⟨q, hq⟩ : ∃ q, tableFault F C ts tn fr = q := ⟨_, rfl⟩
  have HA := Lib.hid (show grantPage F C ts tn fr p = if q = 0 then (if within 0 ((m : Int) - 1) [p] = true then (if fr.getD p.toNat 0 = -1 then (0, tn, fr.set p.toNat (lowestOf (framesFor F C ts tn).2 fr)) else (6, 0, [])) else (3, 0, [])) else (q, 0, []) from tabAsk (f := fun k => (k, 0, [])) hq hf.1 rfl (fun h => by unfold grantPage; rw [if_pos h]) (fun h => by unfold grantPage; rw [if_neg h]))
  have HQ := Lib.hid hq
  go_enter Try.func18, Try.ntmps18
  go_wp2_with fail
  refine (sTableFault_calls (((hT.alloc _).alloc _).alloc _) hS hcc hn (((hf.alloc _).alloc _).alloc _) (by omega) hmc).mono ?_
  rw [hq]
  rintro e w1 ⟨rfl, hb1⟩
  have hf1 := (((hf.alloc _).alloc _).alloc _).below hb1
  have hT1 := (((hT.alloc _).alloc _).alloc _).below hb1
  obtain ⟨h0, h1, h2, hb, hs⟩ := three_new hb1
  have t0 := Row.cell h1 0
  have t1 := Row.cell h1 1
  simp at t0 t1
  have HB := Lib.hid hb
  have HR0 := Lib.hid h0
  have HR1 := Lib.hid h1
  have HR2 := Lib.hid h2
  have HF1 := Lib.hid hf1
  have HT1 := Lib.hid hT1
  clear hb1 hq h0 h1 h2 hb hT1
  by_cases h : q = 0
  rotate_left
  · have HF := HA.out
    rw [if_neg h] at HF
    have HF := Lib.hid HF
    have hqb : (q != 0) = true := by simpa using h
    clear HA h
    have HW := Lib.hid (rfl : (0 : Nat) = 0)
    go_wp2_with (first | (go_at_call 59; go_must (refine l1In_calls.mono ?_); rw [HW.out]; rintro e w' ⟨rfl, rfl⟩) | (refine wpList_store_row rfl 33 _ _ rfl (w.heap.size + 2) _ rfl rfl _ _ HR2.out (by kernel_rfl) (by rfl) (by simp [Value.oneCell']) ?_))
    refine bodyPost_ret (results_cell_row rfl _ _ (w.heap.size + 2) _ _ _ _ rfl (setRow_heap _ _ _ _ _ _ HR2.out) Try.underlying33 rfl (by kernel_rfl)) rfl ?_
    exact tab_done HB.out (by omega) (OwnI.nil _ (w.heap.size + 3)) (by omega) _ HF.out
  subst h
  have HF := HA.out
  simp only [if_true] at HF
  clear HA
  rcases hW : within 0 ((m : Int) - 1) [p] with _ | _
  · rw [hW] at HF
    simp at HF
    have HF := Lib.hid HF
    have HW := Lib.hid hW
    go_wp2_with (first | (go_at_call 59; go_must (refine l1In_calls.mono ?_); rw [HW.out]; rintro e w' ⟨rfl, rfl⟩) | (refine wpList_store_row rfl 33 _ _ rfl (w.heap.size + 2) _ rfl rfl _ _ HR2.out (by kernel_rfl) (by rfl) (by simp [Value.oneCell']) ?_))
    refine bodyPost_ret (results_cell_row rfl _ _ (w.heap.size + 2) _ _ _ _ rfl (setRow_heap _ _ _ _ _ _ HR2.out) Try.underlying33 rfl (by kernel_rfl)) rfl ?_
    exact tab_done HB.out (by omega) (OwnI.nil _ (w.heap.size + 3)) (by omega) _ HF.out
  rw [hW] at HF
  simp only [if_true] at HF
  have hp2 : 0 ≤ p ∧ p ≤ (m : Int) - 1 := by rw [within_one] at hW; simpa using hW
  have HW := Lib.hid hW
  obtain ⟨k, rfl⟩ : ∃ k : Nat, p = k := ⟨p.toNat, by omega⟩
  have hk : k < m := by omega
  obtain ⟨b, off, rfl, hbb, hc⟩ := hf1.at_ hk
  have hkm : (k : Int) < (m : Int) := by omega
  rw [show ((k : Int)).toNat = k by omega] at HF
  clear hp2 hf1 hW
  by_cases hv : fr.getD k 0 = -1
  rotate_left
  · rw [if_neg hv] at HF
    have HF := Lib.hid HF
    obtain ⟨y, hy⟩ : ∃ y, y = fr.getD k 0 := ⟨_, rfl⟩
    have hyn : (y != -1) = true := by rw [hy]; simpa using hv
    rw [← hy] at hc
    clear hv hy
    go_wp2_with (first | (go_at_call 59; go_must (refine l1In_calls.mono ?_); rw [HW.out]; rintro e w' ⟨rfl, rfl⟩) | (refine wpList_store_row rfl 33 _ _ rfl (w.heap.size + 2) _ rfl rfl _ _ HR2.out (by kernel_rfl) (by rfl) (by simp [Value.oneCell']) ?_))
    refine bodyPost_ret (results_cell_row rfl _ _ (w.heap.size + 2) _ _ _ _ rfl (setRow_heap _ _ _ _ _ _ HR2.out) Try.underlying33 rfl (by kernel_rfl)) rfl ?_
    exact tab_done HB.out (by omega) (OwnI.nil _ (w.heap.size + 3)) (by omega) _ HF.out
  rw [if_pos hv] at HF
  obtain ⟨own, hown⟩ : ∃ own, (framesFor F C ts tn).2 = own := ⟨_, rfl⟩
  rw [hown] at HF
  have HF := Lib.hid HF
  have HOw := Lib.hid hown
  rw [hv] at hc
  clear hv hown
  go_wp2_with (go_at_call 59; go_must (refine l1In_calls.mono ?_); rw [HW.out]; rintro e w' ⟨rfl, rfl⟩)
  refine (l7Copy_calls HR1.out HF1.out hm).mono ?_
  rintro e w2 ⟨v, rfl, hown, hb2⟩
  obtain ⟨t, g, cap, cur, rfl, hg, hh, hnc, hcm, hcs, hct⟩ := hown.form (by omega)
  obtain ⟨W, hWd⟩ : ∃ W, w2.alloc (.cells #[.int .i64 tn, .slice (some ⟨g, 0, none⟩) m cap] 29) = W := ⟨_, rfl⟩
  have hbW : Below w2.heap.size w2 W := by rw [← hWd]; exact (Below.refl _ _).alloc (Nat.le_refl _) _
  have hRW : Row W w2.heap.size 29 #[.int .i64 tn, .slice (some ⟨g, 0, none⟩) m cap] := by rw [← hWd]; exact heap_alloc_new _ _
  have hoW := hown.below hbW
  have hgl : g < w2.heap.size := hown.lt.2
  have hg1 : w1.heap.size ≤ g := hown.lt.1
  have hbWW := hb2.trans (hbW.mono hb2.size)
  have RR := Row.below HR2.out hbWW
  have RC : CfgAt W w.heap.size F C ao n cc := Row.below HR0.out hbWW
  have RT := Row.below HR1.out hbWW
  have HFW := Lib.hid (HF1.out.below hbWW)
  have HTW := Lib.hid (HT1.out.below hbWW)
  have HRC := Lib.hid RC
  have HRT := Lib.hid RT
  have HOW := Lib.hid hoW
  have HRR := Lib.hid RR
  have HRW := Lib.hid hRW
  have HBW := Lib.hid (HB.out.trans (hbWW.mono HB.out.size))
  have kB := Below.refl W.heap.size W
  have x1 := hRW.cell 1
  simp at x1
  have hWs : w2.heap.size < W.heap.size := hRW.lt
  clear hown hb2 hbW hbWW hoW hRW RR RC RT hh hcs hct
  go_upto_region 9 with (first | (go_at_call 59; go_must (refine l1In_calls.mono ?_); rw [HW.out]; rintro e w' ⟨rfl, rfl⟩))
  have kD : Below W.heap.size W W.drew := (Below.refl _ W).drew
  have hkc : k < cap := by omega
  go_region_law (go_simp; go_at_call 60; refine (l7Lowest_calls (HTW.out.below kD) hS hcc hn (HFW.out.below kD) (by omega) (Row.below HRC.out kD) (Row.below HRT.out kD) HQ.out HOw.out).mono ?_; rintro e wL ⟨rfl, bL⟩; have bWL : Below W.heap.size W wL := kD.trans bL; have x1' := (Row.below HRW.out bWL).cell 1; simp at x1'; obtain ⟨c1, c2⟩ := (HOW.out.below bWL).cell hk)
  all_goals
    have hst := ((HOW.out.below bWL).stored k (lowestOf own fr)).1
    have rr : Row (wL.setCell ⟨g, k, none⟩ (.int .i64 (lowestOf own fr))) (w.heap.size + 2) 33 #[.int .i64 0, .int .i64 0, .slice none 0 0] := (heap_setCell_other wL ⟨g, k, none⟩ _ _ (by simp; omega)).trans (Row.below HRR.out bWL)
    have ro : Row (wL.setCell ⟨g, k, none⟩ (.int .i64 (lowestOf own fr))) w2.heap.size 29 #[.int .i64 tn, .slice (some ⟨g, 0, none⟩) m cap] := (heap_setCell_other wL ⟨g, k, none⟩ _ _ (by simp; omega)).trans (Row.below HRW.out bWL)
    have u0 := ro.cell 0
    have u1 := ro.cell 1
    simp at u0 u1
    have HO := Lib.hid (And.intro hst ((HBW.out.trans (bWL.mono HBW.out.size)).setCell (p := ⟨g, k, none⟩) (by simp; omega) (.int .i64 (lowestOf own fr))))
    clear hst ro bL bWL x1' c1 c2 kD x1
    go_wp2_with (refine wpList_store_row rfl 33 _ _ rfl (w.heap.size + 2) _ rfl rfl _ _ rr (by kernel_rfl) (by rfl) (by simp [Value.oneCell']) ?_)
    refine bodyPost_ret (results_cell_row rfl _ _ (w.heap.size + 2) _ _ _ _ rfl (setRow_heap _ _ _ _ _ _ rr) Try.underlying33 rfl (by kernel_rfl)) rfl ?_
    exact tab_done HO.out.2 (by omega) HO.out.1 (by omega) _ HF.out
end Go.Proofs.Ytoaeglhjaandmaa

/- Chapter 7 of the program: the lowest frame that is free; a page is granted one. -/
namespace Go.Proofs.Ytoaeglhjaandmaa
open Go.RowKit Go.Shelf
set_option maxRecDepth 100000

attribute [local go_sem] Oper.semAt_some

theorem find_same {S p : Int → Bool} : ∀ {l : List Int}, (∀ y ∈ l, S y = p y) → l.find? S = l.find? p
  | [], _ => rfl
  | x :: l, h => by
    have h1 := h x (by simp)
    have h2 := find_same (l := l) (fun y hy => h y (by simp [hy]))
    simp only [List.find?_cons, h1, h2]
def freeSet (own fr : List Int) (y : Int) : Bool := hasIn own y && !hasIn (heldF fr) y
theorem freeSet_at {own fr : List Int} (h0 : ∀ k, k < own.length → 0 ≤ own.getD k 0 ∧ own.getD k 0 ≤ 40) {y : Int} (hy : y ∈ own) : freeSet own fr y = !hasIn fr y := by
  obtain ⟨k, hk, rfl⟩ := List.getElem_of_mem hy
  have := h0 k hk
  rw [show own.getD k 0 = own[k] by simp [List.getD, hk]] at this
  unfold freeSet
  rw [hasIn_heldF (by omega), hasIn_mem.2 hy, Bool.true_and]
theorem lowest_none {own fr : List Int} (h0 : ∀ k, k < own.length → 0 ≤ own.getD k 0 ∧ own.getD k 0 ≤ 40) (h : own.filter (freeSet own fr) = []) : lowestOf own fr = -1 := by
  unfold lowestOf
  rw [← find_same (S := freeSet own fr) (fun y hy => freeSet_at h0 hy), ← List.head?_filter, h]; rfl
theorem lowest_first {own fr : List Int} {k : Nat} {x : Int} (h0 : ∀ k, k < own.length → 0 ≤ own.getD k 0 ∧ own.getD k 0 ≤ 40) (h : (own.take k).filter (freeSet own fr) = [x]) : lowestOf own fr = x := by
  unfold lowestOf
  rw [← find_same (S := freeSet own fr) (fun y hy => freeSet_at h0 hy)]
  have h1 : (own.take k).find? (freeSet own fr) = some x := by rw [← List.head?_filter, h]; rfl
  have h2 : own.find? (freeSet own fr) = some x := by
    rw [← List.take_append_drop k own, List.find?_append]
    have : (own.take k).find? (freeSet (own.take k ++ own.drop k) fr) = some x := by rw [List.take_append_drop]; exact h1
    rw [this]; rfl
  rw [h2]; rfl

theorem free_stops (n : Nat) (hn : 1 ≤ n) (bo bm mb N n₀ len cap : Nat) (S : Int → Bool) (ao : Option Addr) (own : List Int) (hlen : len ≤ 17592186044416) (hv : ∀ j, j < len → 0 ≤ own.getD j 0 ∧ own.getD j 0 ≤ 1000) (w : World) (hn₀ : n₀ ≤ w.heap.size)
    (hBo : Row w bo 27 #[.slice ao len cap]) (hbo : bo < n₀) (hBm : Row w bm 134 #[.map (some mb)]) (hbm : bm < n₀) (hF : FreeIs w mb N S) (hmb : mb < n₀)
    (hl : own.length = len) (hc : 0 < len → ∃ b off, ao = some ⟨b, off, none⟩ ∧ b < n₀ ∧ ∀ j, j < len → w.cell? ⟨b, off + j, none⟩ = some (.int .i64 (own.getD j 0))) :
    SeqStopsK Fence.wide n Try.prog 108 #[.pointer (some ⟨bo, 0, none⟩), .pointer (some ⟨bm, 0, none⟩)] (fun x : Int => #[Value.int .i64 x]) (Below n₀) (fun ys => ys = own.filter S) (fun pre => ∃ k, k ≤ len ∧ pre = (own.take k).filter S) len w := fun l J Jx W hW _ _ hY h0 =>
  free1_in n hn l bo bm mb N n₀ len cap S ao own hlen hv J Jx hY W (hBo.below hW) hbo (hBm.below hW) hbm (hF.below hW) hmb hl (fun h0' => by
    obtain ⟨b, off, e, hb, hcs⟩ := hc h0'
    exact ⟨b, off, e, hb, fun j hj => (hW.cell (p := ⟨b, off + j, none⟩) (by show b < _; omega)).trans (hcs j hj)⟩) h0

set_option maxHeartbeats 2000000 in
theorem lowestFree_calls {ao ta : Option Addr} {n cc m tc : Nat} {F C tn : Int} {ts : List (List Int × Int)} {fr own : List Int} {w : World} (hT : Tens w ao n ts) (hS : Short 17592186044416 ts) (hcc : n ≤ cc) (hn : n ≤ 17592186044416) (hf : Ints w ta m fr) (hm : m ≤ 17592186044416) (h0 : tableFault F C ts tn fr = 0) (ho : (framesFor F C ts tn).2 = own) :
    Calls Try.prog 53 #[.agg #[.int .i64 F, .int .i64 C, .slice ao n cc], .agg #[.int .i64 tn, .slice ta m tc]] w fun e w' => e = .returned (.int .i64 (lowestOf own fr)) ∧ Below w.heap.size w w' := by
  have hq := (tableFault_ok h0).1
  have HOR := Lib.hid (fun k hk => ho ▸ own_range (k := k) hq (ho.symm ▸ hk) : ∀ k, k < own.length → 0 ≤ own.getD k 0 ∧ own.getD k 0 ≤ 40)
  have hsm := framesFor_small F C ts tn
  rw [ho] at hsm
  refine calls_of_marks Try.func53 rfl ?_
  simp only [Try.ntmps53, List.size_toArray, List.length_cons, List.length_nil, Nat.reduceAdd, Nat.reduceSub, Array.replicate_succ, Array.replicate_zero, List.push_toArray, List.append_toArray, List.nil_append, List.cons_append]
  go_wp2_with fail
  refine (freeFrames_calls (((hT.alloc _).alloc _).alloc _) hS hcc hn (((hf.alloc _).alloc _).alloc _) hm h0 ho).mono ?_
  rintro e w1 ⟨bo, bm, mb, N, vo, k, c, rfl, RO, IO, RM, FM, hb1⟩
  have FM : FreeIs w1 mb N (freeSet own fr) := FM
  obtain ⟨hr0, hr1, hr2, hb, hs⟩ := three_new hb1
  have hr2 : Row w1 (w.heap.size + 2) 2 #[.int .i64 0] := hr2
  have hk : own.length = k := IO.1
  have HK := Lib.hid hk
  have hk40 : k ≤ 40 := by omega
  have hol := RO.lt
  have hml := RM.lt
  have hfl := FM.lt
  clear hb1 hr0 hr1 hk
  go_wp2_with fail
  have hbw := hb.size
  refine wpIn_wide.1 (wpIn_rangeFunc_ownG (n := 3) rfl (by omega) (gf := 108) (lb := #[.pointer (some ⟨bo, 0, none⟩), .pointer (some ⟨bm, 0, none⟩)]) rfl trivial (enters_of Try.func108 (by kernel_rfl) rfl)
    (free_stops 2 (by omega) bo bm mb N w1.heap.size k c (freeSet own fr) vo own (by omega) (fun j hj => by have := HOR.out j (by have := HK.out; omega); omega) w1 (Nat.le_refl _) RO hol RM hml FM hfl HK.out (fun h0 => by
      obtain ⟨b, off, e, hb, hc⟩ := IO.2 h0
      exact ⟨b, off, e, hb, hc⟩)) belowK_t (belowK_b (Nat.le_refl _)) (Below.refl _ _) (fun _ => rfl)
    (fun pre W' => (pre = [] ∧ Row W' (w.heap.size + 2) 2 #[.int .i64 0]) ∧ Below w.heap.size w W')
    (fun c pre W' => (c = .ret ∧ ∃ x, pre = [x] ∧ Row W' (w.heap.size + 2) 2 #[.int .i64 x]) ∧ Below w.heap.size w W')
    (OwnFrom.and (fun s A B row hs hg hr => ⟨hs.1, hs.2.leftBy hg (fun r e => (hr r e).2)⟩) (ownFrom_below (Nat.le_refl _) (by omega)))
    (fun c => OwnFrom.and (fun s A B row hs hg hr => by
      obtain ⟨h1, x, h2, h3⟩ := hs
      exact ⟨h1, x, h2, h3.leftBy hg (fun r e => (hr r e).2)⟩) (ownFrom_below (Nat.le_refl _) (by omega)))
    ⟨⟨rfl, hr2⟩, hb⟩
    (fun x => { tmps := #[.agg #[.int .i64 F, .int .i64 C, .slice ao n cc], .agg #[.int .i64 tn, .slice ta m tc], .pointer (some ⟨w.heap.size, 0, none⟩), .pointer (some ⟨w.heap.size + 1, 0, none⟩), .pointer (some ⟨w.heap.size + 1 + 1, 0, none⟩), .int .i64 x, .agg #[.int .i64 F, .int .i64 C, .slice ao n cc], .agg #[.int .i64 tn, .slice ta m tc], .func (Fn.func 108) #[] #[.pointer (some ⟨bo, 0, none⟩), .pointer (some ⟨bm, 0, none⟩)], .int .i64 x, undef], defers := [] }) ?assign ?body ?done ?stop)
  case assign =>
    intro l x W K hK
    gi_wp2
    exact hK
  case body =>
    rintro l pre x W ⟨⟨rfl, hRZ⟩, hB⟩ _
    have z0 := hRZ.cell 0
    have zf := frozen_of_row _ (w.heap.size + 2) 0 _ _ hRZ
    simp at z0
    gi_wp2
    exact ⟨(KeepsOthers.setCell _ _ _).from _, ⟨rfl, x, rfl, hRZ.upd7 _⟩, hB.setCell (by simp; omega) _⟩
  case done =>
    rintro D ys W hD hys ⟨⟨rfl, hRZ⟩, hB⟩ hK
    have HF := Lib.hid (lowest_none HOR.out hys.symm)
    have z0 := hRZ.cell 0
    have zf := frozen_of_row _ (w.heap.size + 2) 0 _ _ hRZ
    simp at z0
    go_wp2_with fail
    have hK3 : (W.setCell ⟨w.heap.size + 1 + 1, 0, none⟩ (.int .i64 (-1))).heap[D]? = some (.deferred (some [])) := (KeepsOthers.setCell W ⟨w.heap.size + 1 + 1, 0, none⟩ _).same D _ hK rfl
    have hlm := left_mark hK3
    refine postM_ret1 hK3 rfl (results_cell_int rfl _ _ (w.heap.size + 1 + 1) (-1) rfl (((hRZ.upd7 _).leftBy hlm.1 hlm.2).cell 0)) ⟨ret_int HF.out.symm, ?_⟩
    exact (hB.setCell (by simp; omega) _).trans (belowK_b (w := w) (Nat.le_refl _) _ D _ _ (by omega) hK3 rfl rfl)
  case stop =>
    rintro D c pre W hD ⟨k', hk', hpre⟩ ⟨⟨rfl, x, rfl, hRZ⟩, hB⟩ hK
    have HF := Lib.hid (lowest_first HOR.out hpre.symm)
    refine wpIn_wide.2 ?_
    go_wp2_with fail
    have hlm := left_mark hK
    refine postM_ret1 hK rfl (results_cell_int rfl _ _ (w.heap.size + 2) x rfl ((hRZ.leftBy hlm.1 hlm.2).cell 0)) ⟨ret_int HF.out.symm, ?_⟩
    exact hB.trans (belowK_b (w := w) (Nat.le_refl _) _ D _ _ (by omega) hK rfl rfl)
end Go.Proofs.Ytoaeglhjaandmaa

/- Chapter 7 of the program: a page is granted a frame. -/
namespace Go.Proofs.Ytoaeglhjaandmaa
open Go.RowKit
set_option maxRecDepth 100000

/-- The arguments' boxes read, and there is a row for the result. -/
def GSt (w : World) (F C : Int) (ao : Option Addr) (n cc : Nat) (tn : Int) (ta : Option Addr) (m tc : Nat) (a : World) : Prop :=
  a.cell? ⟨w.heap.size, 0, none⟩ = some (.int .i64 F) ∧ a.cell? ⟨w.heap.size, 1, none⟩ = some (.int .i64 C) ∧ a.cell? ⟨w.heap.size, 2, none⟩ = some (.slice ao n cc) ∧ a.cell? ⟨w.heap.size + 1, 0, none⟩ = some (.int .i64 tn) ∧ a.cell? ⟨w.heap.size + 1, 1, none⟩ = some (.slice ta m tc) ∧ Below w.heap.size w a ∧ w.heap.size + 2 < a.heap.size ∧ ∃ x y z, Row a (w.heap.size + 2) 33 #[x, y, z]
section
variable {w : World} {F C : Int} {ao : Option Addr} {n cc : Nat} {tn : Int} {ta : Option Addr} {m tc : Nat} {a c : World}
theorem GSt.bel (h : GSt w F C ao n cc tn ta m tc a) : Below w.heap.size w a := h.2.2.2.2.2.1
theorem GSt.big (h : GSt w F C ao n cc tn ta m tc a) : w.heap.size + 2 < a.heap.size := h.2.2.2.2.2.2.1
theorem GSt.row (h : GSt w F C ao n cc tn ta m tc a) : ∃ x y z, Row a (w.heap.size + 2) 33 #[x, y, z] := h.2.2.2.2.2.2.2
theorem GSt.below (h : GSt w F C ao n cc tn ta m tc a) (hb : Below a.heap.size a c) : GSt w F C ao n cc tn ta m tc c := by
  obtain ⟨h1, h2, h3, h4, h5, h6, h7, x, y, z, h8⟩ := h
  exact ⟨(hb.cell (World.block_lt_of_cell? _ _ h1)).trans h1, (hb.cell (World.block_lt_of_cell? _ _ h2)).trans h2, (hb.cell (World.block_lt_of_cell? _ _ h3)).trans h3, (hb.cell (World.block_lt_of_cell? _ _ h4)).trans h4, (hb.cell (World.block_lt_of_cell? _ _ h5)).trans h5, h6.trans (hb.mono (by omega)), Nat.lt_of_lt_of_le h7 hb.size, x, y, z, Row.below h8 hb⟩
theorem GSt.more (h : GSt w F C ao n cc tn ta m tc a) : a.cell? ⟨w.heap.size, 0, none⟩ = some (.int .i64 F) ∧ a.cell? ⟨w.heap.size, 1, none⟩ = some (.int .i64 C) ∧ a.cell? ⟨w.heap.size, 2, none⟩ = some (.slice ao n cc) ∧ a.cell? ⟨w.heap.size + 1, 0, none⟩ = some (.int .i64 tn) ∧ a.cell? ⟨w.heap.size + 1, 1, none⟩ = some (.slice ta m tc) ∧ GSt w F C ao n cc tn ta m tc a := ⟨h.1, h.2.1, h.2.2.1, h.2.2.2.1, h.2.2.2.2.1, h⟩
theorem GSt.stored (h : GSt w F C ao n cc tn ta m tc a) (u v x : Value) : GSt w F C ao n cc tn ta m tc (((a.setCell ⟨w.heap.size + 2, 0, none⟩ u).setCell ⟨w.heap.size + 2, 1, none⟩ v).setCell ⟨w.heap.size + 2, 2, none⟩ x) := by
  obtain ⟨h1, h2, h3, h4, h5, h6, h7, x0, y0, z0, h8⟩ := h
  have hB : Below (w.heap.size + 2) a (((a.setCell ⟨w.heap.size + 2, 0, none⟩ u).setCell ⟨w.heap.size + 2, 1, none⟩ v).setCell ⟨w.heap.size + 2, 2, none⟩ x) := (((Below.refl (w.heap.size + 2) a).setCell (p := ⟨w.heap.size + 2, 0, none⟩) (Nat.le_refl _) _).setCell (p := ⟨w.heap.size + 2, 1, none⟩) (Nat.le_refl _) _).setCell (p := ⟨w.heap.size + 2, 2, none⟩) (Nat.le_refl _) _
  refine ⟨(hB.cell (p := ⟨w.heap.size, 0, none⟩) (by simp)).trans h1, (hB.cell (p := ⟨w.heap.size, 1, none⟩) (by simp)).trans h2, (hB.cell (p := ⟨w.heap.size, 2, none⟩) (by simp)).trans h3, (hB.cell (p := ⟨w.heap.size + 1, 0, none⟩) (by simp)).trans h4, (hB.cell (p := ⟨w.heap.size + 1, 1, none⟩) (by simp)).trans h5, h6.trans (hB.mono (by omega)), by simpa [World.setCell] using h7, u, v, x, ?_⟩
  have := Row.upd7 (Row.upd7 (Row.upd7 (i := 0) h8 u) (i := 1) v) (i := 2) x
  simpa using this
theorem GSt.st3 {u v x : Value} (h : a.cell? ⟨w.heap.size, 0, none⟩ = some (.int .i64 F) ∧ a.cell? ⟨w.heap.size, 1, none⟩ = some (.int .i64 C) ∧ a.cell? ⟨w.heap.size, 2, none⟩ = some (.slice ao n cc) ∧ a.cell? ⟨w.heap.size + 1, 0, none⟩ = some (.int .i64 tn) ∧ a.cell? ⟨w.heap.size + 1, 1, none⟩ = some (.slice ta m tc) ∧ GSt w F C ao n cc tn ta m tc a) :
    (fun a => a.cell? ⟨w.heap.size, 0, none⟩ = some (.int .i64 F) ∧ a.cell? ⟨w.heap.size, 1, none⟩ = some (.int .i64 C) ∧ a.cell? ⟨w.heap.size, 2, none⟩ = some (.slice ao n cc) ∧ a.cell? ⟨w.heap.size + 1, 0, none⟩ = some (.int .i64 tn) ∧ a.cell? ⟨w.heap.size + 1, 1, none⟩ = some (.slice ta m tc) ∧ GSt w F C ao n cc tn ta m tc a) (((a.setCell ⟨w.heap.size + 2, 0, none⟩ u).setCell ⟨w.heap.size + 2, 1, none⟩ v).setCell ⟨w.heap.size + 2, 2, none⟩ x) := (h.2.2.2.2.2.stored u v x).more
end

set_option maxHeartbeats 1000000 in
theorem grantPage_calls {ao ta : Option Addr} {n cc m tc : Nat} {F C tn p : Int} {ts : List (List Int × Int)} {fr : List Int} {w : World} (hT : Tens w ao n ts) (hS : Short 17592186044416 ts) (hcc : n ≤ cc) (hn : n ≤ 17592186044416) (hf : Ints w ta m fr) (hm : m ≤ 1099511627776) :
    Calls Try.prog 13 #[.agg #[.int .i64 F, .int .i64 C, .slice ao n cc], .agg #[.int .i64 tn, .slice ta m tc], .int .i64 p] w (RetsTab w (grantPage F C ts tn fr p)) := by
  have HL := Lib.hid hf.1
  obtain ⟨q, hq⟩ : ∃ q, tablePageFault F C ts tn fr p = q := ⟨_, rfl⟩
  have HA := Lib.hid (show grantPage F C ts tn fr p = if q = 0 then (if fr.getD p.toNat 0 = -1 then (0, tn, fr.set p.toNat (lowestOf (framesFor F C ts tn).2 fr)) else (6, 0, [])) else (q, 0, []) by unfold grantPage; rw [hq])
  have HQ := Lib.hid hq
  go_enter Try.func13, Try.ntmps13
  go_wp2_with fail
  refine (tablePageFault_calls (((hT.alloc _).alloc _).alloc _) hS hcc hn (((hf.alloc _).alloc _).alloc _) (by omega)).mono ?_
  rw [hq]
  rintro e w1 ⟨rfl, hb1⟩
  have hf1 := (((hf.alloc _).alloc _).alloc _).below hb1
  obtain ⟨h0, h1, h2, hb, hs⟩ := three_new hb1
  have t0 := Row.cell h1 0
  have t1 := Row.cell h1 1
  simp at t0 t1
  have HB := Lib.hid hb
  have HR2 := Lib.hid h2
  have HR0 := Lib.hid h0
  have HR1 := Lib.hid h1
  clear hb1 hq h0 h1 h2 hb
  by_cases h : q = 0
  rotate_left
  · have HF := HA.out
    rw [if_neg h] at HF
    have HF := Lib.hid HF
    have hqb : (q != 0) = true := by simpa using h
    clear HA h
    go_wp2_with (refine wpList_store_row rfl 33 _ _ rfl (w.heap.size + 2) _ rfl rfl _ _ HR2.out (by kernel_rfl) (by rfl) (by simp [Value.oneCell']) ?_)
    refine bodyPost_ret (results_cell_row rfl _ _ (w.heap.size + 2) _ _ _ _ rfl (setRow_heap _ _ _ _ _ _ HR2.out) Try.underlying33 rfl (by kernel_rfl)) rfl ?_
    exact tab_done HB.out (by omega) (OwnI.nil _ (w.heap.size + 3)) (by omega) _ HF.out
  subst h
  obtain ⟨htf, hp0, hp1⟩ := tablePageFault_ok HQ.out
  have hlm : fr.length = m := HL.out
  obtain ⟨k, rfl⟩ : ∃ k : Nat, p = k := ⟨p.toNat, by omega⟩
  have hk : k < m := by omega
  obtain ⟨b, off, rfl, hbb, hc⟩ := hf1.at_ hk
  have hkm : (k : Int) < (m : Int) := by omega
  have HF1 := Lib.hid hf1
  have HF := HA.out
  simp only [if_true] at HF
  rw [show ((k : Int)).toNat = k by omega] at HF
  clear hp1 hlm HA hf1 hp0
  by_cases hv : fr.getD k 0 = -1
  rotate_left
  · rw [if_neg hv] at HF
    have HF := Lib.hid HF
    obtain ⟨y, hy⟩ : ∃ y, y = fr.getD k 0 := ⟨_, rfl⟩
    have hyn : (y != -1) = true := by rw [hy]; simpa using hv
    rw [← hy] at hc
    clear hv hy
    go_wp2_with (refine wpList_store_row rfl 33 _ _ rfl (w.heap.size + 2) _ rfl rfl _ _ HR2.out (by kernel_rfl) (by rfl) (by simp [Value.oneCell']) ?_)
    refine bodyPost_ret (results_cell_row rfl _ _ (w.heap.size + 2) _ _ _ _ rfl (setRow_heap _ _ _ _ _ _ HR2.out) Try.underlying33 rfl (by kernel_rfl)) rfl ?_
    exact tab_done HB.out (by omega) (OwnI.nil _ (w.heap.size + 3)) (by omega) _ HF.out
  rw [if_pos hv] at HF
  obtain ⟨own, hown⟩ : ∃ own, (framesFor F C ts tn).2 = own := ⟨_, rfl⟩
  rw [hown] at HF
  have HF := Lib.hid HF
  have HOw := Lib.hid hown
  have HTf := Lib.hid htf
  rw [hv] at hc
  clear hv hown htf
  have HFI := Lib.hid (show ∀ a, Below w.heap.size w a → Ints a (some ⟨b, off, none⟩) m fr from fun a h => hf.below h)
  have HTI := Lib.hid (show ∀ a, Below w.heap.size w a → Tens a ao n ts from fun a h => hT.below h)
  have c0 := Row.cell HR0.out 0
  have c1 := Row.cell HR0.out 1
  have c2 := Row.cell HR0.out 2
  simp at c0 c1 c2
  have hG0 : GSt w F C ao n cc tn (some ⟨b, off, none⟩) m tc w1 := ⟨c0, c1, c2, t0, t1, HB.out, by omega, _, _, _, HR2.out⟩
  have hG1 := hG0.below ((Below.refl w1.heap.size w1).drew)
  have q0 := hG1.1
  have q1 := hG1.2.1
  have q2 := hG1.2.2.1
  have q3 := hG1.2.2.2.1
  have q4 := hG1.2.2.2.2.1
  go_upto_region 6 with (fail)
  go_region_held3 (fun a => a.cell? ⟨w.heap.size, 0, none⟩ = some (.int .i64 F) ∧ a.cell? ⟨w.heap.size, 1, none⟩ = some (.int .i64 C) ∧ a.cell? ⟨w.heap.size, 2, none⟩ = some (.slice ao n cc) ∧ a.cell? ⟨w.heap.size + 1, 0, none⟩ = some (.int .i64 tn) ∧ a.cell? ⟨w.heap.size + 1, 1, none⟩ = some (.slice (some ⟨b, off, none⟩) m tc) ∧ GSt w F C ao n cc tn (some ⟨b, off, none⟩) m tc a) (first | with_reducible assumption | with_reducible exact ⟨q0, q1, q2, q3, q4, hG1⟩ | exact ⟨q0, q1, q2, q3, q4, hG1⟩ | exact GSt.st3 ‹_ ∧ _ ∧ _ ∧ _ ∧ _ ∧ GSt _ _ _ _ _ _ _ _ _ _ _›)
    (first
      | (go_at_call 53; obtain ⟨y0, y1, y2, y3, y4, kb⟩ := ‹_ ∧ _ ∧ _ ∧ _ ∧ _ ∧ GSt _ _ _ _ _ _ _ _ _ _ _›; refine (lowestFree_calls (HTI.out _ kb.bel) hS hcc hn (HFI.out _ kb.bel) (by omega) HTf.out HOw.out).mono ?_; rintro e wL ⟨rfl, bL⟩; have hS1 := GSt.more (kb.below bL))
      | (go_at_call 52; obtain ⟨y0, y1, y2, y3, y4, kb⟩ := ‹_ ∧ _ ∧ _ ∧ _ ∧ _ ∧ GSt _ _ _ _ _ _ _ _ _ _ _›; refine (withPageAt_calls (HFI.out _ kb.bel) hm hk).mono ?_; rintro e wP ⟨vP, rfl, oP, bP⟩; obtain ⟨xP, cP, rfl, _, _, _⟩ := oP.shape; have hS2 := GSt.more (kb.below bP); have hPs := kb.big; obtain ⟨x0, x1, x2, rP⟩ := (kb.below bP).row; have z0 := rP.cell 0; have z1 := rP.cell 1; have z2 := rP.cell 2; have zf0 := frozen_of_row wP (w.heap.size + 2) 0 _ _ rP; have zf1 := frozen_of_row wP (w.heap.size + 2) 1 _ _ rP; have zf2 := frozen_of_row wP (w.heap.size + 2) 2 _ _ rP; simp at z0 z1 z2))
  have hz := (GSt.stored hS2.2.2.2.2.2 (.int .i64 0) (.int .i64 tn) (.slice xP m cP))
  have ho : OwnI wP (w.heap.size + 3) (.slice xP m cP) m _ := oP.base (by omega)
  have HO := Lib.hid (And.intro (((ho.set_ (a := ⟨w.heap.size + 2, 0, none⟩) (by simp) (.int .i64 0)).set_ (a := ⟨w.heap.size + 2, 1, none⟩) (by simp) (.int .i64 tn)).set_ (a := ⟨w.heap.size + 2, 2, none⟩) (by simp) (.slice xP m cP)) hz.bel)
  have hr := Row.upd7 (Row.upd7 (Row.upd7 (i := 0) rP (.int .i64 0)) (i := 1) (.int .i64 tn)) (i := 2) (.slice xP m cP)
  simp at hr
  clear hz ho
  go_wp2_with fail
  refine bodyPost_ret (results_cell_row rfl _ _ (w.heap.size + 2) _ _ _ _ rfl hr Try.underlying33 rfl (by kernel_rfl)) rfl ?_
  exact ⟨_, _, by rw [HF.out], by rw [HF.out]; exact HO.out.1.base (by omega), HO.out.2⟩
end Go.Proofs.Ytoaeglhjaandmaa

/- The laws of chapter 7 over two arguments' boxes: what is kept while a result is made. -/
namespace Go.Proofs.Ytoaeglhjaandmaa
open Go.RowKit
set_option maxRecDepth 100000

/-- The arguments' boxes read; nothing below w2 is turned. -/
def AS (w : World) (F C : Int) (ao : Option Addr) (n cc : Nat) (tn : Int) (ta : Option Addr) (m tc : Nat) (w2 a : World) : Prop :=
  a.cell? ⟨w.heap.size, 0, none⟩ = some (.int .i64 F) ∧ a.cell? ⟨w.heap.size, 1, none⟩ = some (.int .i64 C) ∧ a.cell? ⟨w.heap.size, 2, none⟩ = some (.slice ao n cc) ∧ a.cell? ⟨w.heap.size + 1, 0, none⟩ = some (.int .i64 tn) ∧ a.cell? ⟨w.heap.size + 1, 1, none⟩ = some (.slice ta m tc) ∧ w.heap.size + 2 ≤ w2.heap.size ∧ Below w2.heap.size w2 a
section
variable {w : World} {F C : Int} {ao : Option Addr} {n cc : Nat} {tn : Int} {ta : Option Addr} {m tc : Nat} {w2 a c : World}
theorem AS.bel (h : AS w F C ao n cc tn ta m tc w2 a) : Below w2.heap.size w2 a := h.2.2.2.2.2.2
theorem AS.keep (h : AS w F C ao n cc tn ta m tc w2 a) (hb : Below w2.heap.size a c) : AS w F C ao n cc tn ta m tc w2 c := by
  obtain ⟨h1, h2, h3, h4, h5, h6, h7⟩ := h
  exact ⟨(hb.cell (p := ⟨w.heap.size, 0, none⟩) (by show w.heap.size < _; omega)).trans h1, (hb.cell (p := ⟨w.heap.size, 1, none⟩) (by show w.heap.size < _; omega)).trans h2, (hb.cell (p := ⟨w.heap.size, 2, none⟩) (by show w.heap.size < _; omega)).trans h3, (hb.cell (p := ⟨w.heap.size + 1, 0, none⟩) (by show w.heap.size + 1 < _; omega)).trans h4, (hb.cell (p := ⟨w.heap.size + 1, 1, none⟩) (by show w.heap.size + 1 < _; omega)).trans h5, h6, h7.trans hb⟩
theorem AS.below (h : AS w F C ao n cc tn ta m tc w2 a) (hb : Below a.heap.size a c) : AS w F C ao n cc tn ta m tc w2 c := h.keep (hb.mono h.bel.size)
theorem AS.more (h : AS w F C ao n cc tn ta m tc w2 a) : a.cell? ⟨w.heap.size, 0, none⟩ = some (.int .i64 F) ∧ a.cell? ⟨w.heap.size, 1, none⟩ = some (.int .i64 C) ∧ a.cell? ⟨w.heap.size, 2, none⟩ = some (.slice ao n cc) ∧ a.cell? ⟨w.heap.size + 1, 0, none⟩ = some (.int .i64 tn) ∧ a.cell? ⟨w.heap.size + 1, 1, none⟩ = some (.slice ta m tc) ∧ AS w F C ao n cc tn ta m tc w2 a := ⟨h.1, h.2.1, h.2.2.1, h.2.2.2.1, h.2.2.2.2.1, h⟩
theorem AS.al (o : Obj) (h : a.cell? ⟨w.heap.size, 0, none⟩ = some (.int .i64 F) ∧ a.cell? ⟨w.heap.size, 1, none⟩ = some (.int .i64 C) ∧ a.cell? ⟨w.heap.size, 2, none⟩ = some (.slice ao n cc) ∧ a.cell? ⟨w.heap.size + 1, 0, none⟩ = some (.int .i64 tn) ∧ a.cell? ⟨w.heap.size + 1, 1, none⟩ = some (.slice ta m tc) ∧ AS w F C ao n cc tn ta m tc w2 a) : (a.alloc o).cell? ⟨w.heap.size, 0, none⟩ = some (.int .i64 F) ∧ (a.alloc o).cell? ⟨w.heap.size, 1, none⟩ = some (.int .i64 C) ∧ (a.alloc o).cell? ⟨w.heap.size, 2, none⟩ = some (.slice ao n cc) ∧ (a.alloc o).cell? ⟨w.heap.size + 1, 0, none⟩ = some (.int .i64 tn) ∧ (a.alloc o).cell? ⟨w.heap.size + 1, 1, none⟩ = some (.slice ta m tc) ∧ AS w F C ao n cc tn ta m tc w2 (a.alloc o) := (h.2.2.2.2.2.below ((Below.refl _ _).alloc (Nat.le_refl _) _)).more
theorem AS.s3 {g : Nat} {u v x : Value} (hg : w2.heap.size ≤ g) (h : a.cell? ⟨w.heap.size, 0, none⟩ = some (.int .i64 F) ∧ a.cell? ⟨w.heap.size, 1, none⟩ = some (.int .i64 C) ∧ a.cell? ⟨w.heap.size, 2, none⟩ = some (.slice ao n cc) ∧ a.cell? ⟨w.heap.size + 1, 0, none⟩ = some (.int .i64 tn) ∧ a.cell? ⟨w.heap.size + 1, 1, none⟩ = some (.slice ta m tc) ∧ AS w F C ao n cc tn ta m tc w2 a) :
    (((a.setCell ⟨g, 0, none⟩ u).setCell ⟨g, 1, none⟩ v).setCell ⟨g, 2, none⟩ x).cell? ⟨w.heap.size, 0, none⟩ = some (.int .i64 F) ∧ (((a.setCell ⟨g, 0, none⟩ u).setCell ⟨g, 1, none⟩ v).setCell ⟨g, 2, none⟩ x).cell? ⟨w.heap.size, 1, none⟩ = some (.int .i64 C) ∧ (((a.setCell ⟨g, 0, none⟩ u).setCell ⟨g, 1, none⟩ v).setCell ⟨g, 2, none⟩ x).cell? ⟨w.heap.size, 2, none⟩ = some (.slice ao n cc) ∧ (((a.setCell ⟨g, 0, none⟩ u).setCell ⟨g, 1, none⟩ v).setCell ⟨g, 2, none⟩ x).cell? ⟨w.heap.size + 1, 0, none⟩ = some (.int .i64 tn) ∧ (((a.setCell ⟨g, 0, none⟩ u).setCell ⟨g, 1, none⟩ v).setCell ⟨g, 2, none⟩ x).cell? ⟨w.heap.size + 1, 1, none⟩ = some (.slice ta m tc) ∧ AS w F C ao n cc tn ta m tc w2 (((a.setCell ⟨g, 0, none⟩ u).setCell ⟨g, 1, none⟩ v).setCell ⟨g, 2, none⟩ x) :=
  (h.2.2.2.2.2.keep ((((Below.refl w2.heap.size a).setCell (p := ⟨g, 0, none⟩) hg _).setCell (p := ⟨g, 1, none⟩) hg _).setCell (p := ⟨g, 2, none⟩) hg _)).more
theorem AS.s2 {g : Nat} {u v : Value} (hg : w2.heap.size ≤ g) (h : a.cell? ⟨w.heap.size, 0, none⟩ = some (.int .i64 F) ∧ a.cell? ⟨w.heap.size, 1, none⟩ = some (.int .i64 C) ∧ a.cell? ⟨w.heap.size, 2, none⟩ = some (.slice ao n cc) ∧ a.cell? ⟨w.heap.size + 1, 0, none⟩ = some (.int .i64 tn) ∧ a.cell? ⟨w.heap.size + 1, 1, none⟩ = some (.slice ta m tc) ∧ AS w F C ao n cc tn ta m tc w2 a) :
    ((a.setCell ⟨g, 0, none⟩ u).setCell ⟨g, 1, none⟩ v).cell? ⟨w.heap.size, 0, none⟩ = some (.int .i64 F) ∧ ((a.setCell ⟨g, 0, none⟩ u).setCell ⟨g, 1, none⟩ v).cell? ⟨w.heap.size, 1, none⟩ = some (.int .i64 C) ∧ ((a.setCell ⟨g, 0, none⟩ u).setCell ⟨g, 1, none⟩ v).cell? ⟨w.heap.size, 2, none⟩ = some (.slice ao n cc) ∧ ((a.setCell ⟨g, 0, none⟩ u).setCell ⟨g, 1, none⟩ v).cell? ⟨w.heap.size + 1, 0, none⟩ = some (.int .i64 tn) ∧ ((a.setCell ⟨g, 0, none⟩ u).setCell ⟨g, 1, none⟩ v).cell? ⟨w.heap.size + 1, 1, none⟩ = some (.slice ta m tc) ∧ AS w F C ao n cc tn ta m tc w2 ((a.setCell ⟨g, 0, none⟩ u).setCell ⟨g, 1, none⟩ v) :=
  (h.2.2.2.2.2.keep (((Below.refl w2.heap.size a).setCell (p := ⟨g, 0, none⟩) hg _).setCell (p := ⟨g, 1, none⟩) hg _)).more
end

/-- A box with a code and a table, all of it new. -/
def ResT (w2 : World) (c t : Int) (k : Nat) (xs : List Int) (p : Value) (wx : World) : Prop :=
  ∃ bw vo vc, p = .pointer (some ⟨bw, 0, none⟩) ∧ Row wx bw 33 #[.int .i64 c, .int .i64 t, .slice vo k vc] ∧ OwnIn wx w2.heap.size wx.heap.size (.slice vo k vc) k xs ∧ bw < wx.heap.size ∧ w2.heap.size ≤ bw ∧ Below w2.heap.size w2 wx
theorem ResT.st {w2 wS : World} {g B k : Nat} {vo : Option Addr} {vc : Nat} {c t : Int} {xs : List Int} {x y z : Value} (hB : Below w2.heap.size w2 wS) (r : Row wS g 33 #[x, y, z]) (ho : OwnI wS B (.slice vo k vc) k xs) (h1 : g < B) (h2 : w2.heap.size ≤ g) :
    ResT w2 c t k xs (.pointer (some ⟨g, 0, none⟩)) (((wS.setCell ⟨g, 0, none⟩ (.int .i64 c)).setCell ⟨g, 1, none⟩ (.int .i64 t)).setCell ⟨g, 2, none⟩ (.slice vo k vc)) := by
  have hr := Row.upd7 (Row.upd7 (Row.upd7 (i := 0) r (.int .i64 c)) (i := 1) (.int .i64 t)) (i := 2) (.slice vo k vc)
  simp at hr
  have hO := ((ho.set_ (a := ⟨g, 0, none⟩) h1 (.int .i64 c)).set_ (a := ⟨g, 1, none⟩) h1 (.int .i64 t)).set_ (a := ⟨g, 2, none⟩) h1 (.slice vo k vc)
  exact ⟨g, vo, vc, rfl, hr, (hO.base (by omega)).in_, hr.lt, h2, ((hB.setCell (p := ⟨g, 0, none⟩) h2 _).setCell (p := ⟨g, 1, none⟩) h2 _).setCell (p := ⟨g, 2, none⟩) h2 _⟩
theorem ResT.al {w2 wS : World} {B k : Nat} {vo : Option Addr} {vc : Nat} {c t : Int} {xs : List Int} (hB : Below w2.heap.size w2 wS) (ho : OwnI wS B (.slice vo k vc) k xs) (h2 : w2.heap.size ≤ B) :
    ResT w2 c t k xs (.pointer (some ⟨wS.heap.size, 0, none⟩)) (wS.alloc (.cells #[.int .i64 c, .int .i64 t, .slice vo k vc] 33)) :=
  ⟨wS.heap.size, vo, vc, rfl, heap_alloc_new _ _, ((ho.below ((Below.refl _ _).alloc (Nat.le_refl _) _)).base h2).in_, by simp, hB.size, hB.alloc hB.size _⟩
/-- A box with a code and a number. -/
def ResP (w2 : World) (c t : Int) (p : Value) (wx : World) : Prop :=
  ∃ bw, p = .pointer (some ⟨bw, 0, none⟩) ∧ Row wx bw 36 #[.int .i64 c, .int .i64 t] ∧ bw < wx.heap.size ∧ w2.heap.size ≤ bw ∧ Below w2.heap.size w2 wx
theorem ResP.st {w2 wS : World} {g : Nat} {c t : Int} {x y : Value} (hB : Below w2.heap.size w2 wS) (r : Row wS g 36 #[x, y]) (h2 : w2.heap.size ≤ g) :
    ResP w2 c t (.pointer (some ⟨g, 0, none⟩)) ((wS.setCell ⟨g, 0, none⟩ (.int .i64 c)).setCell ⟨g, 1, none⟩ (.int .i64 t)) := by
  have hr := Row.upd7 (Row.upd7 (i := 0) r (.int .i64 c)) (i := 1) (.int .i64 t)
  simp at hr
  exact ⟨g, rfl, hr, hr.lt, h2, (hB.setCell (p := ⟨g, 0, none⟩) h2 _).setCell (p := ⟨g, 1, none⟩) h2 _⟩
theorem ResP.al {w2 wS : World} {c t : Int} (hB : Below w2.heap.size w2 wS) : ResP w2 c t (.pointer (some ⟨wS.heap.size, 0, none⟩)) (wS.alloc (.cells #[.int .i64 c, .int .i64 t] 36)) :=
  ⟨wS.heap.size, rfl, heap_alloc_new _ _, by simp, hB.size, hB.alloc hB.size _⟩

theorem revokePage_small (F C : Int) (ts : List (List Int × Int)) (tn : Int) (fr : List Int) (p : Int) : (revokePage F C ts tn fr p).2.2.length ≤ fr.length := by
  unfold revokePage; split
  · split <;> simp
  · simp
theorem grantPage_small (F C : Int) (ts : List (List Int × Int)) (tn : Int) (fr : List Int) (p : Int) : (grantPage F C ts tn fr p).2.2.length ≤ fr.length := by
  unfold grantPage; split
  · split <;> simp
  · simp
end Go.Proofs.Ytoaeglhjaandmaa

/- clear(xs[i:j]) of numbers that are owned. -/
namespace Go.Proofs.Ytoaeglhjaandmaa
open Go.RowKit

section
variable {P : Program} {w : World} {S : Nat → Prop} {ops : Array Oper} {rest : List Oper} {o : Oper} {a : Act} {Q : Exit → Act → World → Prop}
theorem wpList_clear_ints (hgd : o.guard = none) (x : Operand) (t : TypeId) (ho : o.op = .call { callee := .builtin .clear, args := #[x], argTypes := #[t] })
    (e : TypeId) (ht : P.underlying t = some (.slice e)) (hz : ∀ w, (Go.zeroValue e).run P w = .ok (.int .i64 0) w)
    {n cap m M off g c : Nat} {xs : List Int} (hx : a.eval x = .slice (some ⟨g, off, none⟩) M c) (hM : M = m + 1) (hown : Own KInt e w S (.slice (some ⟨g, 0, none⟩) n cap) n xs) (hm : off + (m + 1) ≤ n)
    (h : ∀ w', Own KInt e w' S (.slice (some ⟨g, 0, none⟩) n cap) n (splice xs off (List.replicate (m + 1) 0)) → Turn S w w' → wpList P ops Q rest (a.put o.dst (.tuple #[])) w') : wpList P ops Q (o :: rest) a w := by
  subst hM
  have hxl := hown.1
  obtain ⟨hg, cur, hr, h1, h2, h3, h4⟩ := hown.rowI
  obtain ⟨zs, hzs⟩ : ∃ zs : List Value, zs = List.replicate (m + 1) (.int .i64 0) := ⟨_, rfl⟩
  have hzc : (Builtin.zeroCells (Value.int .i64 0).cells (m + 1)).toList = zs := by
    apply List.ext_getElem?
    intro j
    rw [hzs, List.getElem?_replicate]
    by_cases hj : j < m + 1
    · rw [if_pos hj]; simp [Builtin.zeroCells, Value.cells, hj, Nat.mod_one]
    · rw [if_neg hj]; simp [Builtin.zeroCells, Value.cells, hj]
  have hstore := run_storeCells_at (P := P) g off e zs 0 cur w hr (by rw [hzs, List.length_replicate]; omega) (fun u hu => by rw [hzs] at hu; rw [List.eq_of_mem_replicate hu]; rfl)
  rw [Nat.add_zero] at hstore
  have hrun : (Builtin.clear_ #[t] o.type #[.slice (some ⟨g, off, none⟩) (m + 1) c]).run P w = .ok (.tuple #[]) (w.setRow g (cur.toList.take off ++ zs ++ cur.toList.drop (off + zs.length)).toArray) := by
    simp only [Builtin.clear_, List.getElem?_toArray, List.getElem?_cons_zero, Sem.run_bind, run_underlying ht, Result.andThen_ok, hz, hzc, hstore, Sem.run_pure]
  refine wpList_plain hgd fun K' hK' => ?_
  unfold Oper.wp execOp
  simp only [ho, resolve, invoke, builtin, Sem.run_bind, Sem.run_pure, Result.andThen_ok, List.map_toArray, List.map_cons, List.map_nil, hx, hrun]
  have hrow := setRow_heap w g cur (cur.toList.take off ++ zs ++ cur.toList.drop (off + zs.length)).toArray e _ hr
  have hzl : zs.length = m + 1 := by rw [hzs, List.length_replicate]
  have hcl : cur.toList.length = cap := by rw [Array.length_toList, h3, Nat.mul_one]
  refine hK' _ _ (h _ (Own.of_rowI (B := 0) ⟨?_, .inr ⟨g, cap, _, rfl, Nat.zero_le _, hrow, h1, h2, ?_, ?_⟩⟩ hg) ((Turn.setRow w g _).mono (fun k hk _ => by rw [show k = g from hk]; exact hg)))
  · rw [List.length_map, length_splice _ _ _ (by rw [List.length_replicate]; omega)]; omega
  · simp only [List.size_toArray, List.length_append, List.length_take, List.length_drop, hzl, hcl]; omega
  · rw [Nat.mul_one, List.toList_toArray]
    apply List.ext_getElem?
    intro j
    by_cases hj : j < n
    · rw [List.getElem?_take_of_lt hj, List.getElem?_map]
      have hcj : ∀ q, q < n → cur.toList[q]? = (xs.map (Value.int .i64))[q]? := fun q hq => by rw [← h4, List.getElem?_take_of_lt hq]
      unfold splice
      by_cases j1 : j < off
      · rw [List.append_assoc, List.getElem?_append_left (by rw [List.length_take, hcl]; omega), List.getElem?_take_of_lt j1, hcj j hj, List.getElem?_map, List.getElem?_append_left (by rw [List.length_take]; omega), List.getElem?_take_of_lt j1]
      · by_cases j2 : j < off + (m + 1)
        · rw [List.append_assoc, List.getElem?_append_right (by rw [List.length_take, hcl]; omega), List.getElem?_append_left (by rw [hzl, List.length_take, hcl]; omega), List.getElem?_append_right (by rw [List.length_take]; omega), List.getElem?_append_left (by rw [List.length_replicate, List.length_take]; omega), hzs, List.getElem?_replicate, List.getElem?_replicate]
          rw [if_pos (by rw [List.length_take, hcl]; omega), if_pos (by rw [List.length_take]; omega)]; rfl
        · rw [List.append_assoc, List.getElem?_append_right (by rw [List.length_take, hcl]; omega), List.getElem?_append_right (by rw [hzl, List.length_take, hcl]; omega), List.getElem?_append_right (by rw [List.length_take]; omega), List.getElem?_append_right (by rw [List.length_replicate, List.length_take]; omega), List.getElem?_drop, List.getElem?_drop, ← List.getElem?_map]
          rw [show off + zs.length + (j - (cur.toList.take off).length - zs.length) = j by rw [List.length_take, hcl, hzl]; omega, hcj j hj, List.length_replicate]
          congr 1
          rw [List.length_take]; omega
    · rw [List.getElem?_take_eq_none (by omega), List.getElem?_eq_none (by rw [List.length_map, length_splice _ _ _ (by rw [List.length_replicate]; omega)]; omega)]
end
end Go.Proofs.Ytoaeglhjaandmaa

/- Copies and clears in a slice of numbers of one's own, in a region that draws. -/
namespace Go.Proofs.Ytoaeglhjaandmaa
open Go.RowKit

section
variable {P : Program} {ops : Array Oper} {o : Oper} {a : Act} {w : World} {K : Act → World → Prop} {Q : Exit → Act → World → Prop} {E : Prop} {S : Nat → Prop}
theorem splice_cells {cur : List Value} {xs ys : List Int} {n off : Nat} (hl : xs.length = n) (h4 : cur.take n = xs.map (Value.int .i64)) (hm : off + ys.length ≤ n) (hn : n ≤ cur.length) :
    (cur.take off ++ ys.map (Value.int .i64) ++ cur.drop (off + (ys.map (Value.int .i64)).length)).take n = (splice xs off ys).map (Value.int .i64) := by
  have hc : cur = xs.map (Value.int .i64) ++ cur.drop n := by rw [← h4, List.take_append_drop]
  have e1 : cur.take off = (xs.map (Value.int .i64)).take off := by
    rw [hc, List.take_append_of_le_length (by rw [List.length_map]; omega)]
  have e2 : cur.drop (off + (ys.map (Value.int .i64)).length) = (xs.map (Value.int .i64)).drop (off + ys.length) ++ cur.drop n := by
    rw [List.length_map]
    conv => lhs; rw [hc]
    rw [List.drop_append_of_le_length (by rw [List.length_map]; omega)]
  rw [e1, e2, ← List.append_assoc, List.take_append_of_le_length]
  · rw [List.take_of_length_le]
    · unfold splice; simp [List.map_take, List.map_drop]
    · simp only [List.length_append, List.length_take, List.length_drop, List.length_map]; omega
  · simp only [List.length_append, List.length_take, List.length_drop, List.length_map]; omega
theorem ownI_splice {e : TypeId} {n cap g off : Nat} {xs ys : List Int} {cur : Array Value} (hg : S g) (hr : Row w g e cur) (h1 : n ≤ cap) (h2 : cap ≤ maxLen) (h3 : cur.size = cap * 1) (h4 : cur.toList.take n = xs.map (Value.int .i64)) (hxl : xs.length = n) (hm : off + ys.length ≤ n) :
    Own KInt e (w.setRow g (cur.toList.take off ++ ys.map (Value.int .i64) ++ cur.toList.drop (off + (ys.map (Value.int .i64)).length)).toArray) S (.slice (some ⟨g, 0, none⟩) n cap) n (splice xs off ys) ∧ Turn S w (w.setRow g (cur.toList.take off ++ ys.map (Value.int .i64) ++ cur.toList.drop (off + (ys.map (Value.int .i64)).length)).toArray) := by
  have hrow := setRow_heap w g cur (cur.toList.take off ++ ys.map (Value.int .i64) ++ cur.toList.drop (off + (ys.map (Value.int .i64)).length)).toArray e _ hr
  have hcl : cur.toList.length = cap := by rw [Array.length_toList, h3, Nat.mul_one]
  refine ⟨Own.of_rowI (B := 0) ⟨?_, .inr ⟨g, cap, _, rfl, Nat.zero_le _, hrow, h1, h2, ?_, ?_⟩⟩ hg, (Turn.setRow w g _).mono (fun k hk _ => by rw [show k = g from hk]; exact hg)⟩
  · rw [List.length_map, length_splice _ _ _ (by omega)]; omega
  · simp only [List.size_toArray, List.length_append, List.length_take, List.length_drop, List.length_map, hcl]; omega
  · rw [Nat.mul_one, List.toList_toArray]
    exact splice_cells hxl h4 hm (by omega)
theorem step_clear_own (hgd : o.guard = none) (x : Operand) (t : TypeId) (ho : o.op = .call { callee := .builtin .clear, args := #[x], argTypes := #[t] })
    (e : TypeId) (ht : P.underlying t = some (.slice e)) (hz : ∀ w, (Go.zeroValue e).run P w = .ok (.int .i64 0) w)
    {n cap M off g c : Nat} {xs : List Int} (hx : a.eval x = .slice (some ⟨g, off, none⟩) M c) (hM : 0 < M) (hown : Own KInt e w S (.slice (some ⟨g, 0, none⟩) n cap) n xs) (hm : off + M ≤ n)
    (h : ∀ w', Own KInt e w' S (.slice (some ⟨g, 0, none⟩) n cap) n (splice xs off (List.replicate M 0)) → Turn S w w' → K (a.put o.dst (.tuple #[])) w') : if Region.wanted o (yielded ops a.tmps) = true then Oper.wp P o a w K Q else E := by
  have hw : Region.wanted o (yielded ops a.tmps) = true := by simp [Region.wanted, hgd]
  rw [if_pos hw]
  obtain ⟨m, rfl⟩ : ∃ m, M = m + 1 := ⟨M - 1, by omega⟩
  have hxl := hown.1
  obtain ⟨hg, cur, hr, h1, h2, h3, h4⟩ := hown.rowI
  have hcl : cur.toList.length = cap := by rw [Array.length_toList, h3, Nat.mul_one]
  have hzc : (Builtin.zeroCells (Value.int .i64 0).cells (m + 1)).toList = (List.replicate (m + 1) (0 : Int)).map (Value.int .i64) := by
    apply List.ext_getElem?
    intro j
    rw [List.map_replicate, List.getElem?_replicate]
    by_cases hj : j < m + 1
    · rw [if_pos hj]; simp [Builtin.zeroCells, Value.cells, hj, Nat.mod_one]
    · rw [if_neg hj]; simp [Builtin.zeroCells, Value.cells, hj]
  have hstore := run_storeCells_at (P := P) g off e ((List.replicate (m + 1) (0 : Int)).map (Value.int .i64)) 0 cur w hr (by rw [List.length_map, List.length_replicate]; omega) (fun u hu => by
    obtain ⟨z, _, rfl⟩ := List.mem_map.1 hu
    rfl)
  simp only [Nat.add_zero] at hstore
  obtain ⟨zs, hzs⟩ : ∃ zs : List Value, zs = (List.replicate (m + 1) (0 : Int)).map (Value.int .i64) := ⟨_, rfl⟩
  rw [← hzs] at hzc hstore
  have hrun : (Builtin.clear_ #[t] o.type #[.slice (some ⟨g, off, none⟩) (m + 1) c]).run P w = .ok (.tuple #[]) (w.setRow g (cur.toList.take off ++ zs ++ cur.toList.drop (off + zs.length)).toArray) := by
    simp only [Builtin.clear_, List.getElem?_toArray, List.getElem?_cons_zero, Sem.run_bind, run_underlying ht, Result.andThen_ok, hz, hzc, hstore, Sem.run_pure]
  unfold Oper.wp execOp
  simp only [ho, resolve, invoke, builtin, Sem.run_bind, Sem.run_pure, Result.andThen_ok, List.map_toArray, List.map_cons, List.map_nil, hx, hrun]
  have h5 := ownI_splice (S := S) (ys := List.replicate (m + 1) (0 : Int)) (off := off) hg hr h1 h2 h3 h4 hxl (by rw [List.length_replicate]; omega)
  rw [← hzs] at h5
  exact h _ h5.1 h5.2
theorem step_copy_own (hgd : o.guard = none) (d s : Operand) (dT sT : TypeId) (ho : o.op = .call { callee := .builtin .copy, args := #[d, s], argTypes := #[dT, sT] }) (e : TypeId) (hu : P.underlying dT = some (.slice e)) (hsz : (P.info? e).map (·.size) = some 1)
    {n cap off g dLen dCap sLen sCap so : Nat} {xs ys : List Int} (hd : a.eval d = .slice (some ⟨g, off, none⟩) dLen dCap) (hs : a.eval s = .slice (some ⟨g, so, none⟩) sLen sCap) (hown : Own KInt e w S (.slice (some ⟨g, 0, none⟩) n cap) n xs) (hy : ys = (xs.drop so).take sLen) (h0 : 0 < sLen) (hso : so + sLen ≤ n) (hdl : sLen ≤ dLen) (hm : off + sLen ≤ n)
    (h : ∀ w', Own KInt e w' S (.slice (some ⟨g, 0, none⟩) n cap) n (splice xs off ys) → Turn S w w' → K (a.put o.dst (goInt sLen)) w') : if Region.wanted o (yielded ops a.tmps) = true then Oper.wp P o a w K Q else E := by
  have hw : Region.wanted o (yielded ops a.tmps) = true := by simp [Region.wanted, hgd]
  rw [if_pos hw]
  have hxl := hown.1
  obtain ⟨hg, cur, hr, h1, h2, h3, h4⟩ := hown.rowI
  have hcl : cur.toList.length = cap := by rw [Array.length_toList, h3, Nat.mul_one]
  have hyl : ys.length = sLen := by rw [hy, List.length_take, List.length_drop]; omega
  have hrun := run_copy_row (P := P) w dT sT o.type e g off dLen dCap ⟨g, so, none⟩ sLen sCap cur e (ys.map (Value.int .i64)) hu hsz hr (by rw [List.length_map, hyl]; exact (Nat.min_eq_left hdl).symm) (fun j v hv => by
    rw [List.getElem?_map] at hv
    have hj : j < sLen := by
      rcases Nat.lt_or_ge j sLen with h | h
      · exact h
      · rw [List.getElem?_eq_none (by omega)] at hv; simp at hv
    have e1 : ys[j]? = xs[so + j]? := by rw [hy, List.getElem?_take_of_lt hj, List.getElem?_drop]
    have e2 : cur.toList[so + j]? = (xs.map (Value.int .i64))[so + j]? := by rw [← h4, List.getElem?_take_of_lt (by omega)]
    rw [e1] at hv
    have e3 : w.cell? ⟨g, so + j, none⟩ = cur[so + j]? := Row.cell hr _
    rw [Addr.add_mid, e3, ← Array.getElem?_toList, e2, List.getElem?_map, hv]) (by rw [List.length_map, hyl, ← Array.length_toList, hcl]; omega) (fun v hv => by
    obtain ⟨z, _, rfl⟩ := List.mem_map.1 hv
    rfl)
  have h5 := ownI_splice (S := S) (ys := ys) (off := off) hg hr h1 h2 h3 h4 hxl (by omega)
  have hlen : (ys.map (Value.int .i64)).length = sLen := by rw [List.length_map, hyl]
  rw [hlen] at hrun h5
  unfold Oper.wp execOp
  simp only [ho, resolve, invoke, builtin, Sem.run_bind, Sem.run_pure, Result.andThen_ok, List.map_toArray, List.map_cons, List.map_nil, hd, hs, hrun]
  exact h _ h5.1 h5.2
end
end Go.Proofs.Ytoaeglhjaandmaa
