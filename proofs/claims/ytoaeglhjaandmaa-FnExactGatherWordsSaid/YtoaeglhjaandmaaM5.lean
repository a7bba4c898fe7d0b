/- Joined texts (Marks7, Iter7, Impl7, Impl7b, Spec7b, Same5, Spec7c, Law7): steps of the proofs of chapter 5's laws. -/
import Derived.RangeFuncNested
import Derived.RangeFuncBound
import Derived.RangeFuncCalls
import Derived.RangeFuncLeaves
import Derived.Shelf.Abstract
import Derived.Shelf.RegionOpen
import Derived.OwnWalkIn
import Derived.TacticsInMore
import Derived.LoopNIn
import Derived.LoopIn
import Derived.Maps.AppendAt
import Derived.Deep.DeepCutAuto
import Derived.Test.YtoaeglhjaandmaaM1
import Derived.Test.YtoaeglhjaandmaaM2
import Derived.Test.YtoaeglhjaandmaaM3
import Derived.Test.YtoaeglhjaandmaaM4
set_option linter.unusedVariables false
set_option linter.unusedSimpArgs false
/- A function whose body holds a range over a function: its contract from its body; its returns. -/
namespace Go.Proofs.Ytoaeglhjaandmaa
open Go.RowKit

/-- What the body of such a function must come to. -/
def postM (P : Program) (fn : Func) (R : Ending → World → Prop) : Exit → Act → World → Prop := bodyPostM Fence.wide 3 P fn R

theorem calls_of_marks {P : Program} {f : FuncId} {fn : Func} {c : Code} {args : Array Value} {w : World} {R : Ending → World → Prop}
    (hf : P.funcs[f]? = some fn) (hb : fn.body = some c) (h : c.wp P (postM P fn R) { tmps := args ++ Array.replicate (fn.ntmps - args.size) undef, defers := [] } w) : Calls P f args w R :=
  (callsIn_wide (n := 3)).1 (callsIn_of_wp_marks hf hb trivial (wpIn_wide.2 h) rfl)

/-- A return ahead of the loop. -/
theorem postM_ret0 {P : Program} {fn : Func} {R : Ending → World → Prop} {a : Act} {w : World} {v : Value} (hr : (results fn a.tmps).run P w = .ok v w) (hd : a.defers = []) (hR : R (.returned v) w) : postM P fn R .ret a w := by
  show LeavesInM _ _ _ _ _ _ a.defers _ _
  rw [hd]
  exact ⟨v, hr, hR⟩

/-- A return behind the loop, whose mark is D. -/
theorem postM_ret1 {P : Program} {fn : Func} {R : Ending → World → Prop} {a : Act} {w : World} {v : Value} {D : Nat} (hK : w.heap[D]? = some (.deferred (some []))) (hd : a.defers = [{ target := .collected D, args := #[] }])
    (hr : (results fn a.tmps).run P (w.putObj D (.deferred none)) = .ok v (w.putObj D (.deferred none))) (hR : R (.returned v) (w.putObj D (.deferred none))) : postM P fn R .ret a w := by
  show LeavesInM _ _ _ _ _ _ a.defers _ _
  rw [hd]
  exact ⟨by simp, .inl ⟨_, _, rfl, run_takeDeferred hK, v, hr, hR⟩⟩

/-- A block that is cells is none that the law turns. -/
theorem grown_other {W W' : World} {row : Option Nat} (hg : W.grownBy W' row) (hr : ∀ r, row = some r → ∃ o : Obj, W.heap[r]? = some o ∧ o.isCells = false) {b : Nat} {cs : Array Value} {t : TypeId} {sp : Nat × Nat} (hb : W.heap[b]? = some (.cells cs t sp)) : W'.heap[b]? = some (.cells cs t sp) := by
  refine (hg.block b (Array.getElem?_eq_some_iff.1 hb).1 ?_).trans hb
  intro e
  obtain ⟨o, ho, hc⟩ := hr b e.symm
  rw [hb] at ho
  cases ho
  cases hc
theorem Ints.leftBy {W W' : World} {row : Option Nat} (hg : W.grownBy W' row) (hr : ∀ r, row = some r → ∃ o : Obj, W.heap[r]? = some o ∧ o.isCells = false) {ao : Option Addr} {n : Nat} {xs : List Int} (h : Ints W ao n xs) : Ints W' ao n xs := by
  refine ⟨h.1, fun h0 => ?_⟩
  obtain ⟨b, off, rfl, hb, hc⟩ := h.2 h0
  exact ⟨b, off, rfl, Nat.lt_of_lt_of_le hb hg.size, fun j hj => cell_kept (hc j hj) hg hr⟩
theorem Row.leftBy {W W' : World} {row : Option Nat} (hg : W.grownBy W' row) (hr : ∀ r, row = some r → ∃ o : Obj, W.heap[r]? = some o ∧ o.isCells = false) {b : Nat} {t : TypeId} {cs : Array Value} (h : Row W b t cs) : Row W' b t cs := grown_other hg hr h
theorem OwnI.leftBy {W W' : World} {row : Option Nat} (hg : W.grownBy W' row) (hr : ∀ r, row = some r → ∃ o : Obj, W.heap[r]? = some o ∧ o.isCells = false) {B n : Nat} {v : Value} {xs : List Int} (h : OwnI W B v n xs) : OwnI W' B v n xs := by
  obtain ⟨t, h1, h2⟩ := h
  refine ⟨t, h1, ?_⟩
  rcases h2 with h2 | ⟨g, cap, cur, rfl, hb, hh, hx⟩
  · exact .inl h2
  · exact .inr ⟨g, cap, cur, rfl, hb, grown_other hg hr hh, hx⟩
theorem OwnE.leftBy {W W' : World} {row : Option Nat} (hg : W.grownBy W' row) (hr : ∀ r, row = some r → ∃ o : Obj, W.heap[r]? = some o ∧ o.isCells = false) {B n : Nat} {v : Value} {xs : List Int} (h : OwnE W B v n xs) : OwnE W' B v n xs := by
  obtain ⟨h1, h2⟩ := h
  refine ⟨h1, ?_⟩
  rcases h2 with h2 | ⟨g, cap, cur, rfl, hb, hh, hx⟩
  · exact .inl h2
  · exact .inr ⟨g, cap, cur, rfl, hb, grown_other hg hr hh, hx⟩
/-- What the mark leaves behind it. -/
theorem left_mark {W : World} {D : Nat} (hK : W.heap[D]? = some (.deferred (some []))) : W.grownBy (W.putObj D (.deferred none)) (some D) ∧ ∀ r, some D = some r → ∃ o : Obj, W.heap[r]? = some o ∧ o.isCells = false :=
  ⟨grownBy_putObj' _ _ _, fun r e => by cases e; exact ⟨_, hK, rfl⟩⟩
theorem Row.upd7 {w : World} {g i : Nat} {t : TypeId} {cs : Array Value} (h : Row w g t cs) (u : Value) : Row (w.setCell ⟨g, i, none⟩ u) g t (cs.setIfInBounds i u) := heap_setCell_same w g i _ _ u h
/-- A result that lies in a cell: a number. -/
theorem results_cell_int {fn : Func} {p : Tmp} (h : fn.results = #[.cell p 2]) (tmps : Array Value) (w : World) (g : Nat) (x : Int) (hp : tmps.getD p undef = .pointer (some ⟨g, 0, none⟩)) (hc : w.cell? ⟨g, 0, none⟩ = some (.int .i64 x)) :
    (results fn tmps).run Try.prog w = .ok (.int .i64 x) w := by
  have hp' : tmps[p]?.getD undef = .pointer (some ⟨g, 0, none⟩) := by simpa using hp
  simp [results, h, hp', go_sem, hc]
theorem OwnE.cellsAt {w : World} {B n k : Nat} {v : Value} {xs : List Int} (h : OwnE w B v n xs) (hk : v.ownBlock = some k) : B ≤ k ∧ ∃ cur t sp, w.heap[k]? = some (.cells cur t sp) := by
  obtain ⟨_, h2⟩ := h
  rcases h2 with ⟨rfl, _⟩ | ⟨g, cap, cur, rfl, hb, hh, _⟩
  · cases hk
  · obtain rfl : g = k := by simpa [Value.ownBlock] using hk
    exact ⟨hb, cur, _, _, hh⟩
theorem OwnE.keeps {w w' : World} {B n : Nat} {v : Value} {xs : List Int} (h : OwnE w B v n xs) (hg : w.grownBy w' v.ownBlock) : KeepsOthers w w' := by
  refine ⟨hg.size, fun k o hk ho => (hg.block k (Array.getElem?_eq_some_iff.1 hk).1 (fun e => ?_)).trans hk⟩
  obtain ⟨_, cur, t, sp, hc⟩ := h.cellsAt e.symm
  rw [hk] at hc; cases hc; cases ho
theorem OwnE.own1 {w : World} {B n : Nat} {v : Value} {xs : List Int} (h : OwnE w B v n xs) : Own KInt 2 w (fun q => v.ownBlock = some q) v n xs := by
  have h' := h
  obtain ⟨h1, h2⟩ := h'
  rcases h2 with ⟨rfl, rfl⟩ | ⟨g, cap, cur, rfl, hb, hh, _⟩
  · obtain rfl : xs = [] := List.eq_nil_of_length_eq_zero (by simpa using h1)
    exact Own.nil
  · exact Own.of_rowI h rfl
theorem OwnE.len {w : World} {B n : Nat} {v : Value} {xs : List Int} (h : OwnE w B v n xs) : xs.length = n := by have := h.1; simpa using this

theorem Ints.turned {T : Nat → Prop} {w w' : World} {ao : Option Addr} {n : Nat} {xs : List Int} (h : Ints w ao n xs) (ht : Turn T w w') (hn : ∀ x, ao = some x → 0 < n → ¬ T x.block) : Ints w' ao n xs := by
  refine ⟨h.1, fun h0 => ?_⟩
  obtain ⟨b, off, rfl, hb, hc⟩ := h.2 h0
  refine ⟨b, off, rfl, Nat.lt_of_lt_of_le hb ht.size, fun j hj => ?_⟩
  rw [World.cell?_of_block (w := w) (a := ⟨b, off + j, none⟩) (ht.block b hb (hn _ rfl h0))]
  exact hc j hj
theorem ownFrom_turn {β : Type} {T : Nat → Prop} {B : Nat} {w0 : World} (hT : ∀ q, B ≤ q → T q) : OwnFrom B (fun (_ : β) W => Turn T w0 W) := fun _ W W' row hs hg hr =>
  hs.trans (U := fun q => row = some q) ⟨hg.os, hg.tape, hg.output, hg.size, fun k hk hn => hg.block k hk (fun e => hn e.symm)⟩ (fun i hi _ => hT i (hr i hi).1)
/-- append of one number in a round. -/
theorem wpListIn_append_one {F : Fence} {nF : Nat} {ops : Array Oper} {rest : List Oper} {o : Oper} {a : Act} {w : World} {Q : Exit → Act → World → Prop} (hgd : o.guard = none) (s x : Operand)
    (ho : o.op = .call { callee := .builtin .append, args := #[s, x], argTypes := #[27, 27] })
    {B n b c : Nat} {v : Value} {xs : List Int} {u : Int} (hs : a.eval s = v) (hown : OwnE w B v n xs) (hx : a.eval x = .slice (some ⟨b, 0, none⟩) 1 c) (hu : w.cell? ⟨b, 0, none⟩ = some (.int .i64 u))
    (hn : n ≤ 4294967296) (hB : B ≤ w.heap.size)
    (h : ∀ v' w', OwnE w' B v' (n + 1) (xs ++ [u]) → (∀ w0, Below B w0 w → Below B w0 w') → w.grownBy w' v.ownBlock → wpListIn F nF Try.prog ops Q rest (a.put o.dst v') w') : wpListIn F nF Try.prog ops Q (o :: rest) a w := by
  obtain ⟨i0, hi, hz0, hz1, hz2⟩ := info_parts info64
  refine wpListIn_append_own w hgd s x 27 ho B 2 i0 (.int .i64 0) 1 8 Try.underlying27 hi hz0 hz1 hz2 rfl (by decide) v n _ hs hown ⟨b, 0, none⟩ 1 c [.int .i64 u] hx rfl ?_ (by simp [Value.oneCell']) (by unfold maxLen; omega) (by omega) hB ?_
  · intro j y hj
    cases j with
    | zero => simp at hj; subst hj; exact hu
    | succ j => simp at hj
  · intro v' w' h1 h2 _
    refine h v' w' (by simpa [OwnE] using h1) (fun w0 hb => ?_) h2
    exact ⟨h2.os.trans hb.os, h2.tape.trans hb.tape, h2.output.trans hb.output, Nat.le_trans hb.size h2.size, fun k hk => by
      rw [h2.block k (by omega) (fun e => by have := hown.lt k e.symm; omega)]; exact hb.block k hk⟩
end Go.Proofs.Ytoaeglhjaandmaa

/- The pages that have a frame, one after the other: what the program's iterator hands over. -/
namespace Go.Proofs.Ytoaeglhjaandmaa
open Go.RowKit Go.Shelf

attribute [local go_sem] Oper.semAt_some

set_option maxRecDepth 100000 in
set_option maxHeartbeats 2000000 in
/-- The iterator itself, for every loop body that keeps what lay below n₀. -/
theorem held1_in (n : Nat) (hn : 1 ≤ n) (l Bt n₀ len cap : Nat) (ao : Option Addr) (fr : List Int) (hlen : len ≤ 17592186044416) (J Jx : List (Nat × Int) → World → Prop)
    (hY : ∀ pre x W, J pre W → pre.length < len → YieldAt Fence.wide (n - 1) Try.prog l #[.int .i64 (x.1 : Int), .int .i64 x.2] W fun e W' =>
      (e = .returned (.bool true) ∧ J (pre ++ [x]) W' ∧ Below n₀ W W') ∨ (e = .returned (.bool false) ∧ Jx (pre ++ [x]) W'))
    (W : World) (hBt : W.cell? ⟨Bt, 1, none⟩ = some (.slice ao len cap)) (hl : fr.length = len) (hc : 0 < len → ∃ b off, ao = some ⟨b, off, none⟩ ∧ b < n₀ ∧ ∀ j, j < len → W.cell? ⟨b, off + j, none⟩ = some (.int .i64 (fr.getD j 0))) (h0 : J [] W) :
    CallsIn Fence.wide n Try.prog 94 #[.func (.yield l) #[] #[], .pointer (some ⟨Bt, 0, none⟩)] W fun e W' => (∃ v, e = .returned v) ∧
      ((∃ ys, ys = heldP fr len ∧ J ys W') ∨ (∃ pre, (∃ k, k ≤ len ∧ pre = heldP fr k) ∧ Jx pre W')) := by
  refine callsIn_of_wp Try.func94 rfl trivial ?_ rfl
  simp only [Try.ntmps94, List.size_toArray, List.length_cons, List.length_nil, Nat.reduceAdd, Nat.reduceSub, Array.replicate_succ, Array.replicate_zero, List.push_toArray, List.append_toArray, List.nil_append, List.cons_append]
  have HL := Lib.hid hl
  clear hl
  gi_wp2
  gi_loopw [8] (fun i wr => ∃ k : Nat, k ≤ len ∧ i = .int .i64 k ∧ J (heldP fr k) wr ∧ Below n₀ W wr) (fun i _ => len - (intOf i).toNat)
  case atStart => exact ⟨0, Nat.zero_le _, rfl, h0, Below.refl _ _⟩
  case round =>
    obtain ⟨k, hk, rfl, hJs, hnx⟩ := hrel
    by_cases hlt : k < len
    · obtain ⟨b, off, rfl, hb, hcs⟩ := hc (by omega)
      have hcx : wr.cell? ⟨b, off + k, none⟩ = some (.int .i64 (fr.getD k 0)) := (hnx.cell (p := ⟨b, off + k, none⟩) hb).trans (hcs k hlt)
      clear hc hcs
      by_cases hv : fr.getD k 0 = -1
      · have HE := Lib.hid (heldP_no hv)
        have hcx' : wr.cell? ⟨b, off + k, none⟩ = some (.int .i64 (-1)) := by rw [hcx, hv]
        clear hcx hv
        gi_wp2
        refine ⟨fun _ h => (by cases h), ?_⟩
        gi_wp2
        go_roundw
        case rel => exact ⟨k + 1, by omega, by simp, by rw [HE.out]; exact hJs, hnx⟩
        case measure => simp [intOf]; omega
      · have HE := Lib.hid (heldP_yes hv)
        obtain ⟨fn, tmps, assign, body, hy, hR⟩ := hY _ (k, fr.getD k 0) wr hJs (Nat.lt_of_le_of_lt (length_heldP fr k) hlt)
        dsimp only at hy
        obtain ⟨v, hvv⟩ : ∃ v, v = fr.getD k 0 := ⟨_, rfl⟩
        rw [← hvv] at hcx hv hy hR HE
        have hne : (v != -1) = true := by simpa using hv
        clear hvv hv
        gi_wp2
        refine hR.mono ?_
        rintro e W3 (⟨rfl, hJ3, hk3⟩ | ⟨rfl, hJx3⟩)
        · gi_wp2
          go_roundw
          case rel => exact ⟨k + 1, by omega, by simp, by rw [HE.out]; exact hJ3, hnx.trans hk3⟩
          case measure => simp [intOf]; omega
        · gi_wp2
          refine bodyPost_ret (results_none rfl _ _ _) rfl ?_
          exact ⟨⟨_, rfl⟩, .inr ⟨_, ⟨k + 1, by omega, HE.out.symm⟩, hJx3⟩⟩
    · obtain rfl : k = len := by omega
      gi_wp2
      go_end0
      exact ⟨⟨_, rfl⟩, .inl ⟨_, rfl, hJs⟩⟩

set_option maxHeartbeats 1000000 in
/-- The table is boxed; the function value captures the box. -/
theorem heldFrames_in (ao : Option Addr) (len cap : Nat) (tn : Int) (w : World) :
    Calls Try.prog 64 #[.agg #[.int .i64 tn, .slice ao len cap]] w fun e w' => e = .returned (.func (.func 94) #[] #[.pointer (some ⟨w.heap.size, 0, none⟩)]) ∧ w' = w.alloc (.cells #[.int .i64 tn, .slice ao len cap] 29) := by
  go_enter Try.func64, Try.ntmps64
  go_wp2
  go_ret
  exact ⟨rfl, rfl⟩

/-- heldFrames hands back a value that gives the pages that have a frame, or the first of them. -/
theorem held_stops (n : Nat) (hn : 1 ≤ n) (Bt n₀ len cap : Nat) (tn : Int) (ao : Option Addr) (fr : List Int) (hlen : len ≤ 17592186044416) (w : World) (hB : Bt < w.heap.size) (hn₀ : n₀ ≤ w.heap.size)
    (hR : Row w Bt 29 #[.int .i64 tn, .slice ao len cap]) (hl : fr.length = len) (hc : 0 < len → ∃ b off, ao = some ⟨b, off, none⟩ ∧ b < n₀ ∧ ∀ j, j < len → w.cell? ⟨b, off + j, none⟩ = some (.int .i64 (fr.getD j 0))) :
    SeqStopsK Fence.wide n Try.prog 94 #[.pointer (some ⟨Bt, 0, none⟩)] (fun x : Nat × Int => #[Value.int .i64 (x.1 : Int), Value.int .i64 x.2]) (Below n₀) (fun ys => ys = heldP fr len) (fun pre => ∃ k, k ≤ len ∧ pre = heldP fr k) len w := fun l J Jx W hW _ _ hY h0 =>
  held1_in n hn l Bt n₀ len cap ao fr hlen J Jx hY W (by rw [(hR.below hW).cell 1]; rfl) hl (fun h0' => by
    obtain ⟨b, off, e, hb, hcs⟩ := hc h0'
    exact ⟨b, off, e, hb, fun j hj => (hW.cell (p := ⟨b, off + j, none⟩) (by show b < _; omega)).trans (hcs j hj)⟩) h0
end Go.Proofs.Ytoaeglhjaandmaa

/- Chapter 7 of the program: whether a table is one. -/
namespace Go.Proofs.Ytoaeglhjaandmaa
open Go.RowKit Go.Shelf

attribute [local go_sem] Oper.semAt_some

set_option maxRecDepth 100000 in
set_option maxHeartbeats 2000000 in
theorem tableFault_calls {ao ta : Option Addr} {n cc m tc : Nat} {F C tn : Int} {ts : List (List Int × Int)} {fr : List Int} {w : World} (hT : Tens w ao n ts) (hS : Short 17592186044416 ts) (hcc : n ≤ cc) (hn : n ≤ 17592186044416) (hf : Ints w ta m fr) (hm : m ≤ 17592186044416) :
    Calls Try.prog 23 #[.agg #[.int .i64 F, .int .i64 C, .slice ao n cc], .agg #[.int .i64 tn, .slice ta m tc]] w fun e w' => e = .returned (.int .i64 (tableFault F C ts tn fr)) ∧ Below w.heap.size w w' := by
  have HL := Lib.hid hf.1
  refine calls_of_marks Try.func23 rfl ?_
  simp only [Try.ntmps23, List.size_toArray, List.length_cons, List.length_nil, Nat.reduceAdd, Nat.reduceSub, Array.replicate_succ, Array.replicate_zero, List.push_toArray, List.append_toArray, List.nil_append, List.cons_append]
  obtain ⟨r, hr⟩ : ∃ r, framesFor F C ts tn = r := ⟨_, rfl⟩
  obtain ⟨q, own⟩ := r
  have HQ := Lib.hid hr
  have hsm := framesFor_small F C ts tn
  have hF1 : (framesFor F C ts tn).1 = q := by rw [hr]
  have hF2 : (framesFor F C ts tn).2 = own := by rw [hr]
  rw [hF2] at hsm
  go_wp2_with fail
  refine (framesFor_calls (((hT.alloc _).alloc _).alloc _) hS hcc hn).mono ?_
  rintro e w1 ⟨v, k, rfl, hown, hb1⟩
  rw [hr] at hown ⊢
  dsimp only at hown ⊢
  have hk : k = own.length := hown.in_.lohi
  obtain ⟨vo, vc, rfl, hvc, _, _⟩ := hown.shape
  have hfI := (((hf.alloc _).alloc _).alloc _).below hb1
  obtain ⟨h0, h1, h2, hb, hs⟩ := three_new hb1
  have hk40 : k ≤ 40 := by omega
  have HO := Lib.hid hown
  have HFi := Lib.hid hfI
  have hb2 : Below w1.heap.size w1 (w1.alloc (.cells #[.int .i64 q, .slice vo k vc] 60)) := (Below.refl _ _).alloc (Nat.le_refl _) _
  have h1' := Row.below h1 hb2
  have h2' := Row.below h2 hb2
  have HR1 := Lib.hid h1'
  have HR2 := Lib.hid h2'
  have HB := Lib.hid (hb.trans (hb2.mono hb.size))
  have HS1 := Lib.hid hs
  have HK := Lib.hid hk
  have t0 := Row.cell h1' 0
  have t1 := Row.cell h1' 1
  have z0 := Row.cell h2' 0
  have zf := frozen_of_row _ (w.heap.size + 2) 0 _ _ h2'
  simp at t0 t1 z0
  clear hb1 hown hfI h0 h1 h2 hb hk hr h1' h2' hb2
  by_cases hq : q = 0
  rotate_left
  · have HF := Lib.hid (show tableFault F C ts tn fr = q by rw [tableFault_code (by rw [hF1]; exact hq), hF1])
    have hqb : (q != 0) = true := by simpa using hq
    clear hq hF1 hF2 hsm
    go_wp2_with (go_quiet (fail))
    refine postM_ret0 (results_cell_int rfl _ _ (w.heap.size + 2) q rfl ((HR2.out.upd7 _).cell 0)) rfl ?_
    exact ⟨ret_int HF.out.symm, HB.out.setCell (by simp; omega) _⟩
  subst hq
  have l40 : own.length ≤ 40 := by omega
  have hlm : fr.length = m := HL.out
  have hko : k = own.length := HK.out
  by_cases hmany : k < m
  · have HF := Lib.hid (show tableFault F C ts tn fr = 2 from tableFault_many hF1 (.inl (by rw [hF2]; omega)))
    have hmn : min (k : Int) 40 = k := by omega
    have hml : (m : Int) > (k : Int) := by omega
    clear hF1 hF2 hsm l40 hlm hko
    go_wp2_with fail
    refine postM_ret0 (results_cell_int rfl _ _ (w.heap.size + 2) 2 rfl ((HR2.out.upd7 _).cell 0)) rfl ?_
    exact ⟨ret_int HF.out.symm, HB.out.setCell (by simp; omega) _⟩
  have hnm : ¬ ((framesFor F C ts tn).2.length < fr.length ∨ 40 < fr.length) := by rw [hF2]; omega
  have HA1 := Lib.hid (tableFault_rest hF1 hnm)
  have HA2 := Lib.hid (tableFault_range hF1 hnm)
  have hmn : min (k : Int) 40 = k := by omega
  have hml : ¬ ((m : Int) > (k : Int)) := by omega
  clear hF1 hF2 hsm l40 hlm hko hnm hmany
  have hb3 : Below (w1.alloc (.cells #[.int .i64 0, .slice vo k vc] 60)).heap.size (w1.alloc (.cells #[.int .i64 0, .slice vo k vc] 60)) ((w1.alloc (.cells #[.int .i64 0, .slice vo k vc] 60)).alloc (.cells #[.slice none 0 0] 27)) := (Below.refl _ _).alloc (Nat.le_refl _) _
  have y0 := (HR1.out.below hb3).cell 0
  have y1 := (HR1.out.below hb3).cell 1
  simp at y0 y1
  clear hb3
  go_wp2_with (go_at_call 64; refine (heldFrames_in _ _ _ _ _).mono ?_; rintro e w' ⟨rfl, rfl⟩)
  have hfn : ∀ h0 : 0 < m, ∃ b off, ta = some ⟨b, off, none⟩ ∧ b < w.heap.size ∧ ∀ j, j < m → w.cell? ⟨b, off + j, none⟩ = some (.int .i64 (fr.getD j 0)) := hf.2
  have W0a : Below (w1.alloc (.cells #[.int .i64 0, .slice vo k vc] 60)).heap.size (w1.alloc (.cells #[.int .i64 0, .slice vo k vc] 60)) (((w1.alloc (.cells #[.int .i64 0, .slice vo k vc] 60)).alloc (.cells #[.slice none 0 0] 27)).alloc (.cells #[.int .i64 tn, .slice ta m tc] 29)) := ((Below.refl _ _).alloc (Nat.le_refl _) _).alloc (by simp) _
  have RO : Row (((w1.alloc (.cells #[.int .i64 0, .slice vo k vc] 60)).alloc (.cells #[.slice none 0 0] 27)).alloc (.cells #[.int .i64 tn, .slice ta m tc] 29)) w1.heap.size 60 #[.int .i64 0, .slice vo k vc] := Row.below (w := w1.alloc (.cells #[.int .i64 0, .slice vo k vc] 60)) (heap_alloc_new _ _) W0a
  have RH : Row (((w1.alloc (.cells #[.int .i64 0, .slice vo k vc] 60)).alloc (.cells #[.slice none 0 0] 27)).alloc (.cells #[.int .i64 tn, .slice ta m tc] 29)) (w1.heap.size + 1) 27 #[.slice none 0 0] := Row.below (w := (w1.alloc (.cells #[.int .i64 0, .slice vo k vc] 60)).alloc (.cells #[.slice none 0 0] 27)) (by have h := heap_alloc_new (w1.alloc (.cells #[.int .i64 0, .slice vo k vc] 60)) (.cells #[.slice none 0 0] 27); rw [World.size_alloc] at h; exact h) ((Below.refl _ _).alloc (Nat.le_refl _) _)
  have RT : Row (((w1.alloc (.cells #[.int .i64 0, .slice vo k vc] 60)).alloc (.cells #[.slice none 0 0] 27)).alloc (.cells #[.int .i64 tn, .slice ta m tc] 29)) (w1.heap.size + 1 + 1) 29 #[.int .i64 tn, .slice ta m tc] := by have h := heap_alloc_new ((w1.alloc (.cells #[.int .i64 0, .slice vo k vc] 60)).alloc (.cells #[.slice none 0 0] 27)) (.cells #[.int .i64 tn, .slice ta m tc] 29); rw [World.size_alloc, World.size_alloc] at h; exact h
  have RZ := HR2.out.below W0a
  have IO := ((((HO.out.ints).alloc (.cells #[.int .i64 0, .slice vo k vc] 60)).alloc (.cells #[.slice none 0 0] 27)).alloc (.cells #[.int .i64 tn, .slice ta m tc] 29))
  have BW := HB.out.trans (W0a.mono HB.out.size)
  have s0 : (((w1.alloc (.cells #[.int .i64 0, .slice vo k vc] 60)).alloc (.cells #[.slice none 0 0] 27)).alloc (.cells #[.int .i64 tn, .slice ta m tc] 29)).heap.size = w1.heap.size + 3 := by simp
  obtain ⟨W0, hW0⟩ : ∃ W0, (((w1.alloc (.cells #[.int .i64 0, .slice vo k vc] 60)).alloc (.cells #[.slice none 0 0] 27)).alloc (.cells #[.int .i64 tn, .slice ta m tc] 29)) = W0 := ⟨_, rfl⟩
  rw [hW0] at RO RH RT RZ IO BW s0 ⊢
  clear W0a hW0 t0 t1 z0 zf y0 y1
  have hBW := BW.size
  have hIB := HO.out.ints.old
  refine wpIn_wide.1 (wpIn_rangeFunc_ownG (n := 3) rfl (by omega) (gf := 94) (lb := #[.pointer (some ⟨w1.heap.size + 1 + 1, 0, none⟩)]) rfl trivial (enters_of Try.func94 (by kernel_rfl) rfl)
    (held_stops 2 (by omega) (w1.heap.size + 1 + 1) w.heap.size m tc tn ta fr hm W0 (by omega) hBW RT HL.out (fun h0 => by
      obtain ⟨b, off, e, hb, hc⟩ := hfn h0
      exact ⟨b, off, e, hb, fun j hj => (BW.cell (p := ⟨b, off + j, none⟩) hb).trans (hc j hj)⟩)) belowK_t (belowK_b (by omega)) (Below.refl _ _) (fun _ => rfl)
    (fun pre W => ((∃ v, Row W (w1.heap.size + 1) 27 #[v] ∧ OwnE W W0.heap.size v pre.length (pre.map (·.2))) ∧ (pre.all fun p => hasIn own p.2) = true) ∧ Turn (fun q => q = w1.heap.size + 1 ∨ W0.heap.size ≤ q) W0 W)
    (fun c pre W => (c = .ret ∧ (∃ i, ∃ v, (i, v) ∈ pre ∧ hasIn own v = false) ∧ Row W (w.heap.size + 2) 2 #[.int .i64 3]) ∧ Turn (fun q => w.heap.size ≤ q) W0 W)
    (OwnFrom.and (fun s A B row hs hg hr => by
      obtain ⟨⟨v, h1, h2⟩, h3⟩ := hs
      have hr' := fun r e => (hr r e).2
      exact ⟨⟨v, h1.leftBy hg hr', h2.leftBy hg hr'⟩, h3⟩) (ownFrom_turn (fun q hq => .inr hq)))
    (fun c => OwnFrom.and (fun s A B row hs hg hr => ⟨hs.1, hs.2.1, hs.2.2.leftBy hg (fun r e => (hr r e).2)⟩) (ownFrom_turn (fun q hq => by omega)))
    ⟨⟨⟨_, RH, OwnE.nil _ _⟩, rfl⟩, Turn.refl _ _⟩
    (fun x => { tmps := #[.agg #[.int .i64 F, .int .i64 C, .slice ao n cc], .agg #[.int .i64 tn, .slice ta m tc], .pointer (some ⟨w.heap.size, 0, none⟩), .pointer (some ⟨w.heap.size + 1, 0, none⟩), .pointer (some ⟨w.heap.size + 1 + 1, 0, none⟩), .pointer (some ⟨w1.heap.size, 0, none⟩), .pointer (some ⟨w1.heap.size + 1, 0, none⟩), undef, .int .i64 x.2, .agg #[.int .i64 F, .int .i64 C, .slice ao n cc], .pointer (some ⟨w.heap.size + 1, 0, none⟩), .int .i64 tn, .agg #[.int .i64 0, .slice vo k vc], .pointer (some ⟨w1.heap.size, 0, none⟩), .int .i64 0, .bool false, undef, undef, .pointer (some ⟨w.heap.size + 1, 1, none⟩), .slice ta m tc, .int .i64 ↑m, .pointer (some ⟨w1.heap.size, 1, none⟩), .slice vo k vc, .int .i64 ↑k, .int .i64 ↑k, .bool false, .agg #[.int .i64 tn, .slice ta m tc], .func (Fn.func 94) #[] #[.pointer (some ⟨w1.heap.size + 1 + 1, 0, none⟩)], .int .i64 (x.1 : Int), .int .i64 x.2, undef, undef, undef, undef, undef, undef, undef, undef, undef, undef, undef], defers := [] }) ?assign ?body ?done ?stop)
  case assign =>
    intro l x W K hK
    gi_wp2
    exact hK
  case body =>
    rintro l pre x W ⟨⟨⟨v, hRH, hOE⟩, hall⟩, ht⟩ hlt
    obtain ⟨xo, xc, rfl, hxc, _, _⟩ := hOE.own.shape
    have hRZ := ht.row RZ (by rintro (e | e) <;> omega)
    have hIO := IO.turned ht (fun y hy h0 => by have := hIB y hy h0; rintro (e | e) <;> omega)
    have u1 := (ht.row RO (by rintro (e | e) <;> omega)).cell 1
    have u2 := hRH.cell 0
    have zf := frozen_of_row _ (w.heap.size + 2) 0 _ _ hRZ
    have uf := frozen_of_row _ (w1.heap.size + 1) 0 _ _ hRH
    have z0 := hRZ.cell 0
    have hWs := ht.size
    simp at u1 u2 z0
    rcases hV : hasIn own x.2 with _ | _
    · gi_wp2_with (refine ⟨trivial, ?_⟩; gi_at_call 65; refine (CallsIn.inRound l (callsIn_wide.2 (containsI_calls hIO (by omega)))).mono ?_; rw [hV]; rintro e w' ⟨rfl, rfl⟩)
      exact ⟨(KeepsOthers.setCell _ _ _).from _, ⟨rfl, ⟨x.1, x.2, by simp, hV⟩, hRZ.upd7 _⟩, (ht.mono (fun i hi _ => by omega)).trans (Turn.set _ _ _) (fun i hi _ => by have : i = w.heap.size + 1 + 1 := hi; omega)⟩
    · have RH1 := hRH.below ((Below.refl W.heap.size W).alloc (Nat.le_refl _) (.cells #[.int .i64 x.2] 2))
      have hOE1 := hOE.below ((Below.refl W.heap.size W).alloc (Nat.le_refl _) (.cells #[.int .i64 x.2] 2))
      gi_wp2_with (first
        | (refine ⟨trivial, ?_⟩; gi_at_call 65; refine (CallsIn.inRound l (callsIn_wide.2 (containsI_calls hIO (by omega)))).mono ?_; rw [hV]; rintro e w' ⟨rfl, rfl⟩)
        | (gi_at_builtin; go_must (refine wpListIn_append_one rfl _ _ rfl rfl hOE1 rfl (u := x.2) (cell_one rfl) (by omega) (by simp; omega) ?_); intro v' w4 hO4 hB4 hg4; obtain ⟨yo, yc, rfl, _, _, _⟩ := hO4.own.shape; have HO4 := Lib.hid hO4; have r4 : Row w4 (w1.heap.size + 1) 27 _ := (hg4.block _ RH1.lt (fun e => by have := (hOE1.cellsAt e.symm).1; omega)).trans RH1; have q0 := r4.cell 0; have qf := frozen_of_row _ (w1.heap.size + 1) 0 _ _ r4; simp at q0; clear hO4))
      have bW : Below W0.heap.size W (w4.setCell ⟨w1.heap.size + 1, 0, none⟩ (.slice yo (pre.length + 1) yc)) → True := fun _ => trivial
      have b4 : Below W0.heap.size W w4 := hB4 W ((Below.refl _ W).alloc hWs _)
      have t4 : Turn (fun q => q = w1.heap.size + 1 ∨ W0.heap.size ≤ q) W (w4.setCell ⟨w1.heap.size + 1, 0, none⟩ (.slice yo (pre.length + 1) yc)) :=
        (Turn.trans (T := fun q => W0.heap.size ≤ q) ⟨b4.os, b4.tape, b4.output, b4.size, fun q hq hn => b4.block q (by omega)⟩ (Turn.refl (fun _ => False) _) (fun _ h _ => h.elim) |>.mono (fun i hi _ => .inr hi)).trans (Turn.set _ _ _) (fun i hi _ => .inl hi)
      refine ⟨((KeepsOthers.alloc W _).trans ((hOE1.keeps hg4).trans (KeepsOthers.setCell _ _ _))).from _, (b4.mono hBW).setCell (by simp; omega) _, ⟨⟨_, r4.upd7 _, ?_⟩, by rw [List.all_append, hall]; simp [hV]⟩, ht.trans t4 (fun i hi _ => hi)⟩
      have := HO4.out
      rw [List.length_append, List.map_append]
      obtain ⟨e1, e2⟩ := this
      refine ⟨e1, ?_⟩
      rcases e2 with e2 | ⟨g, cp, cur, e3, hb, hh, hx⟩
      · exact .inl e2
      · exact .inr ⟨g, cp, cur, e3, hb, (heap_setCell_other w4 ⟨w1.heap.size + 1, 0, none⟩ g _ (by simp; omega)).trans hh, hx⟩
  case done =>
    rintro D ys W hD rfl ⟨⟨⟨v, hRH, hOE⟩, hall⟩, ht⟩ hK
    obtain ⟨xo, xc, rfl, hxc, _, _⟩ := hOE.own.shape
    have hRZ := ht.row RZ (by rintro (e | e) <;> omega)
    have u2 := hRH.cell 0
    simp at u2
    have hfl : fr.length = m := HL.out
    have HAll := Lib.hid (show allOwn own fr = true by rw [allOwn_held, hfl]; exact hall)
    have HHd := Lib.hid (show alike ((heldP fr m).map (·.2)) = twice fr by rw [← hfl, heldP_held, alike_heldF])
    have hlm : (heldP fr m).length ≤ 17592186044416 := Nat.le_trans (length_heldP fr m) hm
    clear hfl hall
    have HFF := Lib.hid (show tableFault F C ts tn fr = if twice fr = true then 6 else 0 from HA1.out (by rw [show (framesFor F C ts tn).2 = own by rw [HQ.out]]; exact HAll.out))
    go_wp2_with fail
    refine (hasTwoAlike_calls hOE.own1 hlm).mono ?_
    rw [HHd.out]
    rintro e w2 ⟨rfl, ht2⟩
    have hRZ2 := ht2.row hRZ (fun e => by have := (hOE.cellsAt e).1; omega)
    have hK2 : w2.heap[D]? = some (.deferred (some [])) := (ht2.block D (Array.getElem?_eq_some_iff.1 hK).1 (fun e => by
      obtain ⟨_, cur, t, sp, hc⟩ := hOE.cellsAt e
      rw [hK] at hc; cases hc)).trans hK
    have ht3 : Turn (fun q => w.heap.size ≤ q) W0 w2 := (ht.mono (fun i hi _ => by omega)).trans ht2 (fun i hi _ => by have := (hOE.cellsAt hi).1; omega)
    have HT3 := Lib.hid ht3
    have z0 := hRZ2.cell 0
    have zf := frozen_of_row _ (w.heap.size + 2) 0 _ _ hRZ2
    simp at z0
    clear ht3 ht2 ht
    rcases hX : twice fr with _ | _
    · rw [hX] at HFF
      go_wp2_with fail
      have hK3 : (w2.setCell ⟨w.heap.size + 1 + 1, 0, none⟩ (.int .i64 0)).heap[D]? = some (.deferred (some [])) := (KeepsOthers.setCell w2 ⟨w.heap.size + 1 + 1, 0, none⟩ _).same D _ hK2 rfl
      have hlm := left_mark hK3
      refine postM_ret1 hK3 rfl (results_cell_int rfl _ _ (w.heap.size + 1 + 1) 0 rfl (((hRZ2.upd7 _).leftBy hlm.1 hlm.2).cell 0)) ⟨ret_int HFF.out.symm, ?_⟩
      exact ((Turn.below BW HT3.out hBW (fun _ h => h)).setCell (by simp; omega) _).trans (belowK_b (w := w) (Nat.le_refl _) _ D _ _ (by omega) hK3 rfl rfl)
    · rw [hX] at HFF
      go_wp2_with fail
      have hK3 : (w2.setCell ⟨w.heap.size + 1 + 1, 0, none⟩ (.int .i64 6)).heap[D]? = some (.deferred (some [])) := (KeepsOthers.setCell w2 ⟨w.heap.size + 1 + 1, 0, none⟩ _).same D _ hK2 rfl
      have hlm := left_mark hK3
      refine postM_ret1 hK3 rfl (results_cell_int rfl _ _ (w.heap.size + 1 + 1) 6 rfl (((hRZ2.upd7 _).leftBy hlm.1 hlm.2).cell 0)) ⟨ret_int HFF.out.symm, ?_⟩
      exact ((Turn.below BW HT3.out hBW (fun _ h => h)).setCell (by simp; omega) _).trans (belowK_b (w := w) (Nat.le_refl _) _ D _ _ (by omega) hK3 rfl rfl)
  case stop =>
    rintro D c pre W hD ⟨k', hk', rfl⟩ ⟨⟨rfl, ⟨i, v, hmem, hno⟩, hRZ⟩, ht⟩ hK
    obtain ⟨i1, rfl, i3⟩ := mem_heldP.1 hmem
    have hfl : fr.length = m := HL.out
    have HF := Lib.hid (show tableFault F C ts tn fr = 3 from HA2.out (by rw [show (framesFor F C ts tn).2 = own by rw [HQ.out]]; exact allOwn_no (by omega) i3 hno))
    refine wpIn_wide.2 ?_
    go_wp2_with fail
    have hlm := left_mark hK
    refine postM_ret1 hK rfl (results_cell_int rfl _ _ (w.heap.size + 2) 3 rfl ((hRZ.leftBy hlm.1 hlm.2).cell 0)) ⟨ret_int HF.out.symm, ?_⟩
    exact (Turn.below BW ht hBW (fun _ h => h)).trans (belowK_b (w := w) (Nat.le_refl _) _ D _ _ (by omega) hK rfl rfl)
end Go.Proofs.Ytoaeglhjaandmaa

/- Chapter 7 of the program: a page's frame is taken away, a place is told, tables are compared. -/
namespace Go.Proofs.Ytoaeglhjaandmaa
open Go.RowKit
set_option maxRecDepth 100000

theorem Own.ownI {t : TypeId} {w : World} {B n : Nat} {v : Value} {xs : List Int} {S : Nat → Prop} (h : Own KInt t w S v n xs) (hS : ∀ k, S k → B ≤ k) : OwnI w B v n xs := by
  have hl := h.1
  rcases h.2 with ⟨rfl, rfl⟩ | ⟨g, cap, cur0, F, rfl, hg, _⟩
  · obtain rfl : xs = [] := List.eq_nil_of_length_eq_zero hl
    exact OwnI.nil _ _
  · obtain ⟨hg', cur, hr, h1, h2, h3, h4⟩ := h.rowI
    exact OwnI.of_form (hS g hg') hr h1 h2 (by rw [h3, Nat.mul_one]) h4 hl

/-- A code and a table in new memory. -/
def RetsTab (w : World) (r : Int × Int × List Int) (e : Ending) (w' : World) : Prop := ∃ v n, e = .returned (.agg #[.int .i64 r.1, .int .i64 r.2.1, v]) ∧ OwnI w' w.heap.size v n r.2.2 ∧ Below w.heap.size w w'
theorem tab_done {w w1 : World} {r : Int × Int × List Int} {x y : Int} {ys : List Int} {g B n : Nat} {v : Value} (hb : Below w.heap.size w w1) (hg : w.heap.size ≤ g) (hv : OwnI w1 B v n ys) (hB : g < B) (cs : Array Value) (h : r = (x, y, ys)) :
    RetsTab w r (.returned (.agg #[.int .i64 x, .int .i64 y, v])) (w1.setRow g cs) := by
  subst h
  exact ⟨v, n, rfl, (hv.setRow hB cs).base (by omega), below_setRow hb hg cs⟩

set_option maxHeartbeats 1000000 in
theorem withPageAt_calls {ta : Option Addr} {m tc p : Nat} {tn f : Int} {fr : List Int} {w : World} (hf : Ints w ta m fr) (hm : m ≤ 1099511627776) (hp : p < m) :
    Calls Try.prog 52 #[.agg #[.int .i64 tn, .slice ta m tc], .int .i64 (p : Int), .int .i64 f] w fun e w' => ∃ v, e = .returned (.agg #[.int .i64 tn, v]) ∧ OwnI w' w.heap.size v m (fr.set p f) ∧ Below w.heap.size w w' := by
  have HL := Lib.hid hf.1
  go_enter Try.func52, Try.ntmps52
  go_wp2_with fail
  refine (cloneI_calls (Lst.of_ints ((hf.alloc _).alloc _) (fun k hk => hk)) hm).mono ?_
  rintro e w1 ⟨v, rfl, hown, hb1⟩
  have hoI : OwnI w1 (w.heap.size + 2) v m fr := hown.ownI (fun k hk => by have : _ ≤ k := hk; simpa using this)
  obtain ⟨h0, h1, hb, hs⟩ := two_new hb1
  obtain ⟨t, g, cap, cur, rfl, hg, hh, hnc, hcm, hcs, hct⟩ := hoI.form (by omega)
  obtain ⟨c1, c2⟩ := hoI.cell hp
  have hst := (hoI.stored p f).1
  have hgl : g < w1.heap.size := hoI.lt.2
  have t0 := (Row.cell (w := w1.setCell ⟨g, p, none⟩ (.int .i64 f)) (b := w.heap.size) (cs := #[.int .i64 tn, .slice ta m tc]) ((heap_setCell_other w1 ⟨g, p, none⟩ _ _ (by simp; omega)).trans h0) 0)
  have hr : Row (w1.setCell ⟨g, p, none⟩ (.int .i64 f)) (w.heap.size + 1) 29 #[.int .i64 0, .slice none 0 0] := (heap_setCell_other w1 ⟨g, p, none⟩ _ _ (by simp; omega)).trans h1
  simp at t0
  have HST := Lib.hid (And.intro hst (hb.setCell (p := ⟨g, p, none⟩) (by simp; omega) (.int .i64 f)))
  have hpc : p < cap := by omega
  clear hb1 hown hoI h0 h1 hb hst hh hcs hct
  go_wp2_with (refine wpList_store_row rfl 29 _ _ rfl (w.heap.size + 1) _ rfl rfl _ _ hr (by kernel_rfl) (by rfl) (by simp [Value.oneCell']) ?_)
  refine bodyPost_ret (results_cell_row rfl _ _ (w.heap.size + 1) _ _ _ _ rfl (setRow_heap _ _ _ _ _ _ hr) Try.underlying29 rfl (by kernel_rfl)) rfl ?_
  exact ⟨_, rfl, (HST.out.1.setRow (by omega) _).base (by omega), below_setRow HST.out.2 (by omega) _⟩

set_option maxHeartbeats 1000000 in
theorem tablePageFault_calls {ao ta : Option Addr} {n cc m tc : Nat} {F C tn p : Int} {ts : List (List Int × Int)} {fr : List Int} {w : World} (hT : Tens w ao n ts) (hS : Short 17592186044416 ts) (hcc : n ≤ cc) (hn : n ≤ 17592186044416) (hf : Ints w ta m fr) (hm : m ≤ 17592186044416) :
    Calls Try.prog 51 #[.agg #[.int .i64 F, .int .i64 C, .slice ao n cc], .agg #[.int .i64 tn, .slice ta m tc], .int .i64 p] w fun e w' => e = .returned (.int .i64 (tablePageFault F C ts tn fr p)) ∧ Below w.heap.size w w' := by
  have HL := Lib.hid hf.1
  obtain ⟨q, hq⟩ : ∃ q, tableFault F C ts tn fr = q := ⟨_, rfl⟩
  have HA := Lib.hid (show tablePageFault F C ts tn fr p = if q = 0 then (if within 0 ((m : Int) - 1) [p] = true then 0 else 3) else q by unfold tablePageFault; rw [hq, hf.1])
  go_enter Try.func51, Try.ntmps51
  go_wp2_with fail
  refine (tableFault_calls ((hT.alloc _).alloc _) hS hcc hn ((hf.alloc _).alloc _) hm).mono ?_
  rw [hq]
  rintro e w1 ⟨rfl, hb1⟩
  obtain ⟨h0, h1, hb, hs⟩ := two_new hb1
  have t0 := Row.cell h1 0
  have t1 := Row.cell h1 1
  simp at t0 t1
  have HB := Lib.hid hb
  clear hb1 hq h0 h1 hb
  by_cases h : q = 0
  · subst h
    rcases hW : within 0 ((m : Int) - 1) [p] with _ | _
    all_goals
      have HF := HA.out
      rw [hW] at HF
      simp at HF
      have HF := Lib.hid HF
      clear HA
      go_wp2_with (go_at_call 54; go_must (refine (allWithin_calls (Ints.one rfl) (by omega)).mono ?_); rw [hW]; rintro e w' ⟨rfl, rfl⟩)
      go_ret
      exact ⟨ret_int HF.out.symm, HB.out.alloc HB.out.size _⟩
  · have HF := HA.out
    rw [if_neg h] at HF
    have HF := Lib.hid HF
    have hqb : (q != 0) = true := by simpa using h
    clear HA h
    go_wp2_with fail
    go_ret
    exact ⟨ret_int HF.out.symm, HB.out⟩

set_option maxHeartbeats 1000000 in
theorem revokePage_calls {ao ta : Option Addr} {n cc m tc : Nat} {F C tn p : Int} {ts : List (List Int × Int)} {fr : List Int} {w : World} (hT : Tens w ao n ts) (hS : Short 17592186044416 ts) (hcc : n ≤ cc) (hn : n ≤ 17592186044416) (hf : Ints w ta m fr) (hm : m ≤ 1099511627776) :
    Calls Try.prog 14 #[.agg #[.int .i64 F, .int .i64 C, .slice ao n cc], .agg #[.int .i64 tn, .slice ta m tc], .int .i64 p] w (RetsTab w (revokePage F C ts tn fr p)) := by
  have HL := Lib.hid hf.1
  obtain ⟨q, hq⟩ : ∃ q, tablePageFault F C ts tn fr p = q := ⟨_, rfl⟩
  have HA := Lib.hid (show revokePage F C ts tn fr p = if q = 0 then (if fr.getD p.toNat 0 = -1 then (8, 0, []) else (0, tn, fr.set p.toNat (-1))) else (q, 0, []) by unfold revokePage; rw [hq])
  have HQ := Lib.hid hq
  go_enter Try.func14, Try.ntmps14
  go_wp2_with fail
  refine (tablePageFault_calls (((hT.alloc _).alloc _).alloc _) hS hcc hn (((hf.alloc _).alloc _).alloc _) (by omega)).mono ?_
  rw [hq]
  rintro e w1 ⟨rfl, hb1⟩
  have hf1 := (((hf.alloc _).alloc _).alloc _).below hb1
  obtain ⟨h0, h1, h2, hb, hs⟩ := three_new hb1
  have t0 := Row.cell h1 0
  have t1 := Row.cell h1 1
  simp at t0 t1
  have HB := Lib.hid hb
  have HR2 := Lib.hid h2
  clear hb1 hq h0 h1 h2 hb
  by_cases h : q = 0
  rotate_left
  · have HF := HA.out
    rw [if_neg h] at HF
    have HF := Lib.hid HF
    have hqb : (q != 0) = true := by simpa using h
    clear HA h
    go_wp2_with (refine wpList_store_row rfl 33 _ _ rfl (w.heap.size + 2) _ rfl rfl _ _ HR2.out (by kernel_rfl) (by rfl) (by simp [Value.oneCell']) ?_)
    refine bodyPost_ret (results_cell_row rfl _ _ (w.heap.size + 2) _ _ _ _ rfl (setRow_heap _ _ _ _ _ _ HR2.out) Try.underlying33 rfl (by kernel_rfl)) rfl ?_
    exact tab_done HB.out (by omega) (OwnI.nil _ (w.heap.size + 3)) (by omega) _ HF.out
  subst h
  obtain ⟨_, hp0, hp1⟩ := tablePageFault_ok HQ.out
  have hlm : fr.length = m := HL.out
  obtain ⟨k, rfl⟩ : ∃ k : Nat, p = k := ⟨p.toNat, by omega⟩
  have hk : k < m := by omega
  obtain ⟨b, off, rfl, hbb, hc⟩ := hf1.at_ hk
  have hkm : (k : Int) < (m : Int) := by omega
  have HF1 := Lib.hid hf1
  have HF := HA.out
  simp only [if_true] at HF
  rw [show ((k : Int)).toNat = k by omega] at HF
  clear hp1 hlm HA hf1 hp0
  by_cases hv : fr.getD k 0 = -1
  · rw [if_pos hv] at HF
    have HF := Lib.hid HF
    rw [hv] at hc
    clear hv
    go_wp2_with (refine wpList_store_row rfl 33 _ _ rfl (w.heap.size + 2) _ rfl rfl _ _ HR2.out (by kernel_rfl) (by rfl) (by simp [Value.oneCell']) ?_)
    refine bodyPost_ret (results_cell_row rfl _ _ (w.heap.size + 2) _ _ _ _ rfl (setRow_heap _ _ _ _ _ _ HR2.out) Try.underlying33 rfl (by kernel_rfl)) rfl ?_
    exact tab_done HB.out (by omega) (OwnI.nil _ (w.heap.size + 3)) (by omega) _ HF.out
  · rw [if_neg hv] at HF
    have HF := Lib.hid HF
    obtain ⟨y, hy⟩ : ∃ y, y = fr.getD k 0 := ⟨_, rfl⟩
    have hyn : (y == -1) = false := by rw [hy]; simpa using hv
    rw [← hy] at hc
    clear hv hy
    go_wp2_with fail
    refine (withPageAt_calls HF1.out hm hk).mono ?_
    rintro e w2 ⟨v, rfl, hown, hb2⟩
    have HR3 := Row.below HR2.out hb2
    obtain ⟨vo, vc, rfl, _, _, _⟩ := hown.shape
    have HO := Lib.hid (And.intro hown (HB.out.trans (hb2.mono HB.out.size)))
    clear hown hb2
    go_wp2_with (refine wpList_store_row rfl 33 _ _ rfl (w.heap.size + 2) _ rfl rfl _ _ HR3 (by kernel_rfl) (by rfl) (by simp [Value.oneCell']) ?_)
    refine bodyPost_ret (results_cell_row rfl _ _ (w.heap.size + 2) _ _ _ _ rfl (setRow_heap _ _ _ _ _ _ HR3) Try.underlying33 rfl (by kernel_rfl)) rfl ?_
    exact tab_done HO.out.2 (by omega) HO.out.1 (by omega) _ HF.out

set_option maxHeartbeats 1000000 in
theorem translate_calls {ao ta : Option Addr} {n cc m tc : Nat} {F C tn p : Int} {ts : List (List Int × Int)} {fr : List Int} {w : World} (hT : Tens w ao n ts) (hS : Short 17592186044416 ts) (hcc : n ≤ cc) (hn : n ≤ 17592186044416) (hf : Ints w ta m fr) (hm : m ≤ 1099511627776) :
    Calls Try.prog 16 #[.agg #[.int .i64 F, .int .i64 C, .slice ao n cc], .agg #[.int .i64 tn, .slice ta m tc], .int .i64 p] w (Pair w (translate F C ts tn fr p)) := by
  have HL := Lib.hid hf.1
  obtain ⟨q, hq⟩ : ∃ q, tableFault F C ts tn fr = q := ⟨_, rfl⟩
  have HA := Lib.hid (show translate F C ts tn fr p = if q = 0 then (if within 0 ((m : Int) * 16 - 1) [p] = true then (if fr.getD (p / 16).toNat 0 = -1 then (4, 0) else (0, fr.getD (p / 16).toNat 0 * 16 + p % 16)) else (3, 0)) else (q, 0) by unfold translate; rw [hq, hf.1])
  have HQ := Lib.hid hq
  go_enter Try.func16, Try.ntmps16
  go_wp2_with fail
  refine (tableFault_calls (((hT.alloc _).alloc _).alloc _) hS hcc hn (((hf.alloc _).alloc _).alloc _) (by omega)).mono ?_
  rw [hq]
  rintro e w1 ⟨rfl, hb1⟩
  have hf1 := (((hf.alloc _).alloc _).alloc _).below hb1
  obtain ⟨h0, h1, h2, hb, hs⟩ := three_new hb1
  have t0 := Row.cell h1 0
  have t1 := Row.cell h1 1
  simp at t0 t1
  have HB := Lib.hid hb
  have HR2 := Lib.hid h2
  have HF1 := Lib.hid hf1
  clear hb1 hq h0 h2 hb
  by_cases h : q = 0
  rotate_left
  · have HF := HA.out
    rw [if_neg h] at HF
    have HF := Lib.hid HF
    have hqb : (q != 0) = true := by simpa using h
    clear HA h
    go_wp2_with (refine wpList_store_row rfl 36 _ _ rfl (w.heap.size + 2) _ rfl rfl _ _ HR2.out (by kernel_rfl) (by rfl) (by simp [Value.oneCell']) ?_)
    refine bodyPost_ret (results_cell_row rfl _ _ (w.heap.size + 2) _ _ _ _ rfl (setRow_heap _ _ _ _ _ _ HR2.out) Try.underlying36 rfl (by kernel_rfl)) rfl ?_
    exact pair_done HB.out (by omega) _ HF.out
  subst h
  have HF := HA.out
  simp only [if_true] at HF
  have e1 : IntKind.i64.wrap ((m : Int) * 16) = (m : Int) * 16 := IntWalk.i64_in _ (by omega)
  have e2 : IntKind.i64.wrap ((m : Int) * 16 - 1) = (m : Int) * 16 - 1 := IntWalk.i64_in _ (by omega)
  have rw1 := Row.below HR2.out ((Below.refl _ _).alloc (Nat.le_refl _) (.cells #[.int .i64 p] 2))
  rcases hW : within 0 ((m : Int) * 16 - 1) [p] with _ | _
  · rw [hW] at HF
    simp at HF
    have HF := Lib.hid HF
    clear HA
    go_wp2_with (first
      | (go_at_call 54; go_must (refine (allWithin_calls (Ints.one rfl) (by omega)).mono ?_); rw [hW]; rintro e w' ⟨rfl, rfl⟩)
      | (refine wpList_store_row rfl 36 _ _ rfl (w.heap.size + 2) _ rfl rfl _ _ rw1 (by kernel_rfl) (by rfl) (by simp [Value.oneCell']) ?_))
    refine bodyPost_ret (results_cell_row rfl _ _ (w.heap.size + 2) _ _ _ _ rfl (setRow_heap _ _ _ _ _ _ rw1) Try.underlying36 rfl (by kernel_rfl)) rfl ?_
    exact pair_done (HB.out.alloc HB.out.size _) (by omega) _ HF.out
  · have ht : 0 ≤ p ∧ p ≤ (m : Int) * 16 - 1 := by rw [within_one] at hW; simpa using hW
    have hWW := Lib.hid hW
    rw [hW] at HF
    simp only [if_true] at HF
    obtain ⟨k, rfl⟩ : ∃ k : Nat, p = k := ⟨p.toNat, by omega⟩
    obtain ⟨j, hj⟩ : ∃ j : Nat, j = k / 16 := ⟨_, rfl⟩
    have hjm : j < m := by omega
    have hj2 : ((k : Int) / 16).toNat = j := by omega
    have hj3 : (k : Int) / 16 = (j : Int) := by omega
    obtain ⟨r, hr⟩ : ∃ r : Nat, r = k % 16 := ⟨_, rfl⟩
    have hr3 : (k : Int) % 16 = (r : Int) := by omega
    rw [hj2, hr3] at HF
    have d1 : Int.tdiv (k : Int) 16 = (j : Int) := by rw [Int.tdiv_eq_ediv_of_nonneg (by omega)]; exact hj3
    have d2 : Int.tmod (k : Int) 16 = (r : Int) := by rw [Int.tmod_eq_emod_of_nonneg (by omega)]; exact hr3
    obtain ⟨W, hWd⟩ : ∃ W, w1.alloc (.cells #[.int .i64 (k : Int)] 2) = W := ⟨_, rfl⟩
    have hbW : Below w1.heap.size w1 W := by rw [← hWd]; exact (Below.refl _ _).alloc (Nat.le_refl _) _
    have hfW := HF1.out.below hbW
    have HI1 := Lib.hid (show Ints W (some ⟨w1.heap.size, 0, none⟩) 1 [(k : Int)] by rw [← hWd]; exact Ints.one rfl)
    obtain ⟨b, off, rfl, hbb, hc⟩ := hfW.at_ hjm
    have s0 := Row.cell (Row.below h1 hbW) 0
    have s1 := Row.cell (Row.below h1 hbW) 1
    have rW := Row.below HR2.out hbW
    have HBW := Lib.hid (HB.out.trans (hbW.mono HB.out.size))
    have hjn : (j : Int) < (m : Int) := by omega
    have hj0 : (0 : Int) ≤ (j : Int) := by omega
    have hjt : (j : Int).toNat = j := by omega
    simp at s0 s1
    have hyb : tableFault F C ts tn fr = 0 := HQ.out
    have hr17 : r < 16 := by omega
    clear hj hj2 hj3 hr hr3 ht hW HA hbW hfW rw1
    by_cases hv : fr.getD j 0 = -1
    · rw [if_pos hv] at HF
      have HF := Lib.hid HF
      rw [hv] at hc
      clear hv hyb
      go_wp2_with (first
        | (go_at_call 54; go_must (refine (allWithin_calls HI1.out (by omega)).mono ?_); rw [hWW.out]; rintro e w' ⟨rfl, rfl⟩)
        | (refine wpList_store_row rfl 36 _ _ rfl (w.heap.size + 2) _ rfl rfl _ _ rW (by kernel_rfl) (by rfl) (by simp [Value.oneCell']) ?_))
      refine bodyPost_ret (results_cell_row rfl _ _ (w.heap.size + 2) _ _ _ _ rfl (setRow_heap _ _ _ _ _ _ rW) Try.underlying36 rfl (by kernel_rfl)) rfl ?_
      exact pair_done HBW.out (by omega) _ HF.out
    · rw [if_neg hv] at HF
      have HF := Lib.hid HF
      obtain ⟨v0, v1, v2⟩ := table_frame hyb (by have := HL.out; omega) hv
      obtain ⟨y, hy⟩ : ∃ y, y = fr.getD j 0 := ⟨_, rfl⟩
      rw [← hy] at hc v0 v1 HF
      have hyn : (y == -1) = false := by rw [hy]; simpa using hv
      have e3 : IntKind.i64.wrap (y * 16) = y * 16 := IntWalk.i64_in _ (by omega)
      have e4 : IntKind.i64.wrap (y * 16 + (r : Int)) = y * 16 + (r : Int) := IntWalk.i64_in _ (by omega)
      clear hv hyb hy v0 v1 v2
      go_wp2_with (first
        | (go_at_call 54; go_must (refine (allWithin_calls HI1.out (by omega)).mono ?_); rw [hWW.out]; rintro e w' ⟨rfl, rfl⟩)
        | (refine wpList_store_row rfl 36 _ _ rfl (w.heap.size + 2) _ rfl rfl _ _ rW (by kernel_rfl) (by rfl) (by simp [Value.oneCell']) ?_))
      refine bodyPost_ret (results_cell_row rfl _ _ (w.heap.size + 2) _ _ _ _ rfl (setRow_heap _ _ _ _ _ _ rW) Try.underlying36 rfl (by kernel_rfl)) rfl ?_
      exact pair_done HBW.out (by omega) _ HF.out
end Go.Proofs.Ytoaeglhjaandmaa

/- Chapter 7 of the model: a table's copy, a page's frame is taken away, a place is told. -/
namespace Go.Proofs.Ytoaeglhjaandmaa
open Go.RowKit
set_option maxRecDepth 100000

/-- The table that is read, and the result's row. -/
def TS (w : World) (b : Nat) (tn : Int) (ta : Option Addr) (m tc : Nat) (a : World) : Prop :=
  a.cell? ⟨b, 0, none⟩ = some (.int .i64 tn) ∧ a.cell? ⟨b, 1, none⟩ = some (.slice ta m tc) ∧ Below w.heap.size w a ∧ w.heap.size < a.heap.size ∧ ∃ x y, Row a w.heap.size 29 #[x, y]
theorem TS.below {w : World} {b : Nat} {tn : Int} {ta : Option Addr} {m tc : Nat} {a c : World} (h : TS w b tn ta m tc a) (hb : Below a.heap.size a c) : TS w b tn ta m tc c := by
  obtain ⟨h1, h2, h4, h5, x, y, h6⟩ := h
  exact ⟨(hb.cell (World.block_lt_of_cell? _ _ h1)).trans h1, (hb.cell (World.block_lt_of_cell? _ _ h2)).trans h2, h4.trans (hb.mono (by omega)), Nat.lt_of_lt_of_le h5 hb.size, x, y, Row.below h6 hb⟩
theorem TS.stored {w : World} {b : Nat} {tn : Int} {ta : Option Addr} {m tc : Nat} {a : World} (h : TS w b tn ta m tc a) (hb : b < w.heap.size) (u v : Value) : TS w b tn ta m tc ((a.setCell ⟨w.heap.size, 0, none⟩ u).setCell ⟨w.heap.size, 1, none⟩ v) := by
  obtain ⟨h1, h2, h4, h5, x, y, h6⟩ := h
  have hB : Below w.heap.size a ((a.setCell ⟨w.heap.size, 0, none⟩ u).setCell ⟨w.heap.size, 1, none⟩ v) := ((Below.refl w.heap.size a).setCell (p := ⟨w.heap.size, 0, none⟩) (Nat.le_refl _) _).setCell (p := ⟨w.heap.size, 1, none⟩) (Nat.le_refl _) _
  refine ⟨(hB.cell (p := ⟨b, 0, none⟩) hb).trans h1, (hB.cell (p := ⟨b, 1, none⟩) hb).trans h2, h4.trans hB, by simpa [World.setCell] using h5, u, v, ?_⟩
  have := (Row.upd7 (Row.upd7 (i := 0) h6 u) (i := 1) v)
  simpa using this

theorem TS.st3 {w : World} {b : Nat} {tn : Int} {ta : Option Addr} {m tc : Nat} {a : World} {u v : Value} (hb : b < w.heap.size) (h : a.cell? ⟨b, 0, none⟩ = some (.int .i64 tn) ∧ a.cell? ⟨b, 1, none⟩ = some (.slice ta m tc) ∧ TS w b tn ta m tc a) :
    ((a.setCell ⟨w.heap.size, 0, none⟩ u).setCell ⟨w.heap.size, 1, none⟩ v).cell? ⟨b, 0, none⟩ = some (.int .i64 tn) ∧ ((a.setCell ⟨w.heap.size, 0, none⟩ u).setCell ⟨w.heap.size, 1, none⟩ v).cell? ⟨b, 1, none⟩ = some (.slice ta m tc) ∧ TS w b tn ta m tc ((a.setCell ⟨w.heap.size, 0, none⟩ u).setCell ⟨w.heap.size, 1, none⟩ v) :=
  ⟨(h.2.2.stored hb u v).1, (h.2.2.stored hb u v).2.1, h.2.2.stored hb u v⟩

set_option maxHeartbeats 1000000 in
theorem l7Copy_calls {b m tc : Nat} {ta : Option Addr} {tn : Int} {fr : List Int} {w : World} (hR : Row w b 29 #[.int .i64 tn, .slice ta m tc]) (hf : Ints w ta m fr) (hm : m ≤ 1099511627776) :
    Calls Try.prog 58 #[.pointer (some ⟨b, 0, none⟩)] w fun e w' => ∃ v, e = .returned (.agg #[.int .i64 tn, v]) ∧ OwnI w' w.heap.size v m fr ∧ Below w.heap.size w w' := by
  have HL := Lib.hid hf.1
  have hbl : b < w.heap.size := hR.lt
  obtain ⟨V, hV⟩ : ∃ V, V = w.alloc (.cells #[.int .i64 0, .slice none 0 0] 29) := ⟨_, rfl⟩
  have hB0 : Below w.heap.size w V := by rw [hV]; exact (Below.refl _ _).alloc (Nat.le_refl _) _
  have R0 : Row V w.heap.size 29 #[.int .i64 0, .slice none 0 0] := by rw [hV]; exact heap_alloc_new w _
  have HVs := Lib.hid (show V.heap.size = w.heap.size + 1 by rw [hV]; simp)
  have HFI := Lib.hid (show ∀ a, Below w.heap.size w a → Ints a ta m fr from fun a h => hf.below h)
  have R1 := Row.below hR hB0
  have q0 := Row.cell R1 0
  have q1 := Row.cell R1 1
  simp at q0 q1
  have hT0 : TS w b tn ta m tc V := ⟨q0, q1, hB0, by have := HVs.out; omega, _, _, R0⟩
  have hT1 : TS w b tn ta m tc V.drew := hT0.below ((Below.refl _ _).drew)
  go_enter Try.func58, Try.ntmps58
  go_upto_region 1 with (fail)
  rw [← hV]
  clear hV hB0 R0 R1
  go_region_held3 (fun w' => w'.cell? ⟨b, 0, none⟩ = some (.int .i64 tn) ∧ w'.cell? ⟨b, 1, none⟩ = some (.slice ta m tc) ∧ TS w b tn ta m tc w') (first | with_reducible assumption | with_reducible exact ⟨q0, q1, hT1⟩ | exact ⟨q0, q1, hT1⟩ | exact TS.st3 hbl ‹_ ∧ _ ∧ TS _ _ _ _ _ _ _›)
    (first | (go_at_call 85; obtain ⟨y0, y1, kb⟩ := ‹_ ∧ _ ∧ TS _ _ _ _ _ _ _›; refine (l1Ints_calls (Lst.of_ints (HFI.out _ kb.2.2.1) (fun k hk => hk)) hm).mono ?_; rintro e wP ⟨vP, rfl, oP, bP⟩; obtain ⟨xP, cP, rfl, _, _, _⟩ := oP.shape; have hS' := TS.below kb bP; obtain ⟨x0, x1, rP⟩ := hS'.2.2.2.2; have hS3 : wP.cell? ⟨b, 0, none⟩ = some (.int .i64 tn) ∧ wP.cell? ⟨b, 1, none⟩ = some (.slice ta m tc) ∧ TS w b tn ta m tc wP := ⟨hS'.1, hS'.2.1, hS'⟩; have z0 := rP.cell 0; have z1 := rP.cell 1; have zf0 := frozen_of_row wP w.heap.size 0 _ _ rP; have zf1 := frozen_of_row wP w.heap.size 1 _ _ rP; simp at z0 z1; have kb5 := kb.2.2.2.1))
  have hz := (TS.stored hS' hbl (.int .i64 tn) (.slice xP m cP))
  have ho : OwnI wP (w.heap.size + 1) (.slice xP m cP) m fr := oP.ownI (fun k hk => by have : _ ≤ k := hk; omega)
  have HO := Lib.hid (And.intro ((ho.set_ (a := ⟨w.heap.size, 0, none⟩) (by simp) (.int .i64 tn)).set_ (a := ⟨w.heap.size, 1, none⟩) (by simp) (.slice xP m cP)) hz.2.2.1)
  have hr := Row.upd7 (Row.upd7 (i := 0) rP (.int .i64 tn)) (i := 1) (.slice xP m cP)
  simp at hr
  clear hz ho
  go_wp2_with fail
  refine bodyPost_ret (results_cell_row rfl _ _ w.heap.size _ _ _ _ rfl hr Try.underlying29 rfl (by kernel_rfl)) rfl ?_
  exact ⟨_, rfl, HO.out.1.base (by omega), HO.out.2⟩

theorem tabAsk {F C : Int} {ts : List (List Int × Int)} {tn : Int} {fr : List Int} {p q : Int} {m : Nat} {x y : Int × Int × List Int} {f : Int → Int × Int × List Int} (hq : tableFault F C ts tn fr = q) (hl : fr.length = m) (hf : f = fun k => (k, 0, [])) (hx : tablePageFault F C ts tn fr p = 0 → x = y) (hx2 : tablePageFault F C ts tn fr p ≠ 0 → x = f (tablePageFault F C ts tn fr p)) :
    x = if q = 0 then (if within 0 ((m : Int) - 1) [p] = true then y else f 3) else f q := by
  subst hq hl
  unfold tablePageFault at hx hx2
  split
  · rename_i h
    rw [if_pos h] at hx hx2
    split
    · rename_i h2; rw [if_pos h2] at hx hx2; exact hx rfl
    · rename_i h2; rw [if_neg h2] at hx hx2; exact hx2 (by decide)
  · rename_i h
    rw [if_neg h] at hx hx2
    exact hx2 h

set_option maxHeartbeats 1000000 in
theorem sRevokePage_calls {ao ta : Option Addr} {n cc m tc : Nat} {F C tn p : Int} {ts : List (List Int × Int)} {fr : List Int} {w : World} (hT : Tens w ao n ts) (hS : Short 17592186044416 ts) (hcc : n ≤ cc) (hn : n ≤ 17592186044416) (hf : Ints w ta m fr) (hm : m ≤ 1099511627776) (hmc : m ≤ tc) :
    Calls Try.prog 19 #[.agg #[.int .i64 F, .int .i64 C, .slice ao n cc], .agg #[.int .i64 tn, .slice ta m tc], .int .i64 p] w (RetsTab w (revokePage F C ts tn fr p)) := by
  have HL := Lib.hid hf.1
  obtain ⟨q, hq⟩ : ∃ q, tableFault F C ts tn fr = q := ⟨_, rfl⟩
  have HA := Lib.hid (show revokePage F C ts tn fr p = if q = 0 then (if within 0 ((m : Int) - 1) [p] = true then (if fr.getD p.toNat 0 = -1 then (8, 0, []) else (0, tn, fr.set p.toNat (-1))) else (3, 0, [])) else (q, 0, []) from tabAsk (f := fun k => (k, 0, [])) hq hf.1 rfl (fun h => by unfold revokePage; rw [if_pos h]) (fun h => by unfold revokePage; rw [if_neg h]))
  have HQ := Lib.hid hq
  go_enter Try.func19, Try.ntmps19
  go_wp2_with fail
  refine (sTableFault_calls (((hT.alloc _).alloc _).alloc _) hS hcc hn (((hf.alloc _).alloc _).alloc _) (by omega) hmc).mono ?_
  rw [hq]
  rintro e w1 ⟨rfl, hb1⟩
  have hf1 := (((hf.alloc _).alloc _).alloc _).below hb1
  have hT1 := (((hT.alloc _).alloc _).alloc _).below hb1
  obtain ⟨h0, h1, h2, hb, hs⟩ := three_new hb1
  have t0 := Row.cell h1 0
  have t1 := Row.cell h1 1
  simp at t0 t1
  have HB := Lib.hid hb
  have HR0 := Lib.hid h0
  have HR1 := Lib.hid h1
  have HR2 := Lib.hid h2
  have HF1 := Lib.hid hf1
  have HT1 := Lib.hid hT1
  clear hb1 hq h0 h1 h2 hb hT1
  by_cases h : q = 0
  rotate_left
  · have HF := HA.out
    rw [if_neg h] at HF
    have HF := Lib.hid HF
    have hqb : (q != 0) = true := by simpa using h
    clear HA h
    have HW := Lib.hid (rfl : (0 : Nat) = 0)
    go_wp2_with (first | (go_at_call 59; go_must (refine l1In_calls.mono ?_); rw [HW.out]; rintro e w' ⟨rfl, rfl⟩) | (refine wpList_store_row rfl 33 _ _ rfl (w.heap.size + 2) _ rfl rfl _ _ HR2.out (by kernel_rfl) (by rfl) (by simp [Value.oneCell']) ?_))
    refine bodyPost_ret (results_cell_row rfl _ _ (w.heap.size + 2) _ _ _ _ rfl (setRow_heap _ _ _ _ _ _ HR2.out) Try.underlying33 rfl (by kernel_rfl)) rfl ?_
    exact tab_done HB.out (by omega) (OwnI.nil _ (w.heap.size + 3)) (by omega) _ HF.out
  subst h
  have HF := HA.out
  simp only [if_true] at HF
  clear HA
  rcases hW : within 0 ((m : Int) - 1) [p] with _ | _
  · rw [hW] at HF
    simp at HF
    have HF := Lib.hid HF
    have HW := Lib.hid hW
    go_wp2_with (first | (go_at_call 59; go_must (refine l1In_calls.mono ?_); rw [HW.out]; rintro e w' ⟨rfl, rfl⟩) | (refine wpList_store_row rfl 33 _ _ rfl (w.heap.size + 2) _ rfl rfl _ _ HR2.out (by kernel_rfl) (by rfl) (by simp [Value.oneCell']) ?_))
    refine bodyPost_ret (results_cell_row rfl _ _ (w.heap.size + 2) _ _ _ _ rfl (setRow_heap _ _ _ _ _ _ HR2.out) Try.underlying33 rfl (by kernel_rfl)) rfl ?_
    exact tab_done HB.out (by omega) (OwnI.nil _ (w.heap.size + 3)) (by omega) _ HF.out
  rw [hW] at HF
  simp only [if_true] at HF
  have hp2 : 0 ≤ p ∧ p ≤ (m : Int) - 1 := by rw [within_one] at hW; simpa using hW
  have HW := Lib.hid hW
  obtain ⟨k, rfl⟩ : ∃ k : Nat, p = k := ⟨p.toNat, by omega⟩
  have hk : k < m := by omega
  obtain ⟨b, off, rfl, hbb, hc⟩ := hf1.at_ hk
  have hkm : (k : Int) < (m : Int) := by omega
  rw [show ((k : Int)).toNat = k by omega] at HF
  clear hp2 hf1 hW
  by_cases hv : fr.getD k 0 = -1
  · rw [if_pos hv] at HF
    have HF := Lib.hid HF
    rw [hv] at hc
    clear hv
    go_wp2_with (first | (go_at_call 59; go_must (refine l1In_calls.mono ?_); rw [HW.out]; rintro e w' ⟨rfl, rfl⟩) | (refine wpList_store_row rfl 33 _ _ rfl (w.heap.size + 2) _ rfl rfl _ _ HR2.out (by kernel_rfl) (by rfl) (by simp [Value.oneCell']) ?_))
    refine bodyPost_ret (results_cell_row rfl _ _ (w.heap.size + 2) _ _ _ _ rfl (setRow_heap _ _ _ _ _ _ HR2.out) Try.underlying33 rfl (by kernel_rfl)) rfl ?_
    exact tab_done HB.out (by omega) (OwnI.nil _ (w.heap.size + 3)) (by omega) _ HF.out
  · rw [if_neg hv] at HF
    have HF := Lib.hid HF
    obtain ⟨y, hy⟩ : ∃ y, y = fr.getD k 0 := ⟨_, rfl⟩
    have hyn : (y == -1) = false := by rw [hy]; simpa using hv
    rw [← hy] at hc
    clear hv hy
    go_wp2_with (go_at_call 59; go_must (refine l1In_calls.mono ?_); rw [HW.out]; rintro e w' ⟨rfl, rfl⟩)
    refine (l7Copy_calls HR1.out HF1.out hm).mono ?_
    rintro e w2 ⟨v, rfl, hown, hb2⟩
    obtain ⟨t, g, cap, cur, rfl, hg, hh, hnc, hcm, hcs, hct⟩ := hown.form (by omega)
    obtain ⟨W, hWd⟩ : ∃ W, w2.alloc (.cells #[.int .i64 tn, .slice (some ⟨g, 0, none⟩) m cap] 29) = W := ⟨_, rfl⟩
    have hbW : Below w2.heap.size w2 W := by rw [← hWd]; exact (Below.refl _ _).alloc (Nat.le_refl _) _
    have hRW : Row W w2.heap.size 29 #[.int .i64 tn, .slice (some ⟨g, 0, none⟩) m cap] := by rw [← hWd]; exact heap_alloc_new _ _
    have hoW := hown.below hbW
    obtain ⟨c1, c2⟩ := hoW.cell hk
    have hst := (hoW.stored k (-1)).1
    have hgl : g < w2.heap.size := hown.lt.2
    have hg1 : w1.heap.size ≤ g := hown.lt.1
    have RR := Row.below (Row.below HR2.out hb2) hbW
    have rr : Row (W.setCell ⟨g, k, none⟩ (.int .i64 (-1))) (w.heap.size + 2) 33 #[.int .i64 0, .int .i64 0, .slice none 0 0] := (heap_setCell_other W ⟨g, k, none⟩ _ _ (by simp; omega)).trans RR
    have ro : Row (W.setCell ⟨g, k, none⟩ (.int .i64 (-1))) w2.heap.size 29 #[.int .i64 tn, .slice (some ⟨g, 0, none⟩) m cap] := (heap_setCell_other W ⟨g, k, none⟩ _ _ (by simp; omega)).trans hRW
    have u0 := ro.cell 0
    have u1 := ro.cell 1
    have x1 := hRW.cell 1
    simp at u0 u1 x1
    have HO := Lib.hid (And.intro hst ((HB.out.trans ((hb2.trans (hbW.mono hb2.size)).mono HB.out.size)).setCell (p := ⟨g, k, none⟩) (by simp; omega) (.int .i64 (-1))))
    have hkc : k < cap := by omega
    clear hown hb2 hoW hst hh hcs hct hRW ro RR hbW
    go_wp2_with (first | (go_at_call 59; go_must (refine l1In_calls.mono ?_); rw [HW.out]; rintro e w' ⟨rfl, rfl⟩) | (refine wpList_store_row rfl 33 _ _ rfl (w.heap.size + 2) _ rfl rfl _ _ rr (by kernel_rfl) (by rfl) (by simp [Value.oneCell']) ?_))
    refine bodyPost_ret (results_cell_row rfl _ _ (w.heap.size + 2) _ _ _ _ rfl (setRow_heap _ _ _ _ _ _ rr) Try.underlying33 rfl (by kernel_rfl)) rfl ?_
    exact tab_done HO.out.2 (by omega) HO.out.1 (by omega) _ HF.out
end Go.Proofs.Ytoaeglhjaandmaa

/- Two lists of numbers are compared by the model. -/
namespace Go.Proofs.Ytoaeglhjaandmaa
open Go.RowKit

def SameTo {α : Type} (xs ys : List α) (k : Nat) : Prop := ∀ j, j < k → xs[j]? = ys[j]?
theorem SameTo.succ {α : Type} {xs ys : List α} {k : Nat} (h : SameTo xs ys k) (hk : xs[k]? = ys[k]?) : SameTo xs ys (k + 1) := fun j hj => by
  by_cases e : j = k
  · rw [e]; exact hk
  · exact h j (by omega)
theorem SameTo.all {α : Type} {xs ys : List α} {k : Nat} (h : SameTo xs ys k) (h1 : xs.length ≤ k) (h2 : ys.length ≤ k) : xs = ys := by
  apply List.ext_getElem?
  intro j
  rcases Nat.lt_or_ge j k with hj | hj
  · exact h j hj
  · rw [List.getElem?_eq_none (by omega), List.getElem?_eq_none (by omega)]
theorem ne_at {α : Type} {xs ys : List α} {k : Nat} {x y : α} (hx : xs[k]? = some x) (hy : ys[k]? = some y) (h : x ≠ y) : xs ≠ ys := by
  rintro rfl; rw [hx] at hy; injection hy with hy; exact h hy


theorem drewN_drewN (w : World) (a b : Nat) : ∃ c, (w.drewN a).drewN b = w.drewN c := by
  obtain ⟨k, hk⟩ : ∃ k, k = b := ⟨_, rfl⟩
  exact ⟨b + a, by simp [World.drewN, Nat.add_comm, Nat.add_left_comm, Nat.add_assoc]⟩

set_option maxHeartbeats 2000000 in
theorem l1Same_calls {a b : Option Addr} {n m c d : Nat} {xs ys : List Int} {w : World} (ha : Ints w a n xs) (hb : Ints w b m ys) (hn : n ≤ 17592186044416) (hm : m ≤ 17592186044416) :
    Calls Try.prog 62 #[.slice a n c, .slice b m d] w fun e w' => e = .returned (.bool (decide (xs = ys))) ∧ ∃ j, w' = w.drewN j := by
  have HL := Lib.hid ha.1
  have HL2 := Lib.hid hb.1
  by_cases hnm : n = m
  rotate_left
  · have HF : Hid (decide (xs = ys) = false) := by show _ = _; rw [decide_eq_false_iff_not]; rintro rfl; exact hnm (HL.out.symm.trans HL2.out)
    have hq : ((n : Int) != (m : Int)) = true := by simp; omega
    go_enter Try.func62, Try.ntmps62
    go_wp2_with fail
    go_ret
    exact ⟨ret_bool HF.out.symm, 0, rfl⟩
  subst hnm
  have hq : ((n : Int) != (n : Int)) = false := by simp
  go_enter Try.func62, Try.ntmps62
  go_wp2_with fail
  clear hq
  go_loopw [5] (fun i wr => ∃ k : Nat, k ≤ n ∧ i = .int .i64 k ∧ Hid (SameTo xs ys k) ∧ Hid (∃ j, wr = w.drewN j)) (fun i _ => n - (intOf i).toNat)
  case atStart => exact ⟨0, Nat.zero_le _, rfl, fun j hj => by omega, 0, rfl⟩
  case round =>
    obtain ⟨k, hk, rfl, HK, HJ⟩ := hrel
    have hstep : Hid (∀ q, ∃ j, wr.drewN q = w.drewN j) := fun q => by
      obtain ⟨j, hj⟩ := HJ.out
      rw [hj]; exact drewN_drewN w j q
    have hia : Ints wr a n xs := by obtain ⟨j, hj⟩ := HJ.out; rw [hj]; exact ha.drewN j
    have hib : Ints wr b n ys := by obtain ⟨j, hj⟩ := HJ.out; rw [hj]; exact hb.drewN j
    by_cases hlt : k < n
    · obtain ⟨b0, o0, rfl, d0, e0⟩ := hia.at_ hlt
      obtain ⟨b1, o1, rfl, d1, e1⟩ := hib.at_ hlt
      have hx : xs[k]? = some (xs.getD k 0) := by rw [List.getD_eq_getElem?_getD, List.getElem?_eq_getElem (by rw [HL.out]; exact hlt)]; rfl
      have hy : ys[k]? = some (ys.getD k 0) := by rw [List.getD_eq_getElem?_getD, List.getElem?_eq_getElem (by rw [HL2.out]; exact hlt)]; rfl
      have HX := Lib.hid (And.intro hx hy)
      generalize xs.getD k 0 = x at e0 HX
      generalize ys.getD k 0 = y at e1 HX
      clear hx hy
      by_cases he : x = y
      · have HN := Lib.hid (HK.out.succ (HX.out.1.trans (by rw [he]; exact HX.out.2.symm)))
        have hq : (x != y) = false := by simp [he]
        clear he
        go_wp2_with (go_quiet (fail))
        go_roundw
        case rel => exact ⟨k + 1, by omega, by go_num, HN, hstep.out _⟩
        case measure => simp [intOf]; omega
      · have HF : Hid (decide (xs = ys) = false) := by show _ = _; rw [decide_eq_false_iff_not]; exact ne_at HX.out.1 HX.out.2 he
        have hq : (x != y) = true := by simpa using he
        clear he
        go_wp2_with (go_quiet (fail))
        go_ret
        exact ⟨ret_bool HF.out.symm, hstep.out _⟩
    · have HF : Hid (decide (xs = ys) = true) := by show _ = _; rw [decide_eq_true_iff]; exact HK.out.all (by rw [HL.out]; omega) (by rw [HL2.out]; omega)
      go_wp2_with fail
      go_ret
      exact ⟨ret_bool HF.out.symm, HJ.out⟩

end Go.Proofs.Ytoaeglhjaandmaa

/- Chapter 7 of the model: a place is told; tables are compared, by the program and by the model. -/
namespace Go.Proofs.Ytoaeglhjaandmaa
open Go.RowKit
set_option maxRecDepth 100000

set_option maxHeartbeats 1000000 in
theorem sTranslate_calls {ao ta : Option Addr} {n cc m tc : Nat} {F C tn p : Int} {ts : List (List Int × Int)} {fr : List Int} {w : World} (hT : Tens w ao n ts) (hS : Short 17592186044416 ts) (hcc : n ≤ cc) (hn : n ≤ 17592186044416) (hf : Ints w ta m fr) (hm : m ≤ 1099511627776) (hmc : m ≤ tc) :
    Calls Try.prog 20 #[.agg #[.int .i64 F, .int .i64 C, .slice ao n cc], .agg #[.int .i64 tn, .slice ta m tc], .int .i64 p] w (Pair w (translate F C ts tn fr p)) := by
  have HL := Lib.hid hf.1
  obtain ⟨q, hq⟩ : ∃ q, tableFault F C ts tn fr = q := ⟨_, rfl⟩
  have HA := Lib.hid (show translate F C ts tn fr p = if q = 0 then (if within 0 ((m : Int) * 16 - 1) [p] = true then (if fr.getD (p / 16).toNat 0 = -1 then (4, 0) else (0, fr.getD (p / 16).toNat 0 * 16 + p % 16)) else (3, 0)) else (q, 0) by unfold translate; rw [hq, hf.1])
  have HQ := Lib.hid hq
  go_enter Try.func20, Try.ntmps20
  go_wp2_with fail
  refine (sTableFault_calls (((hT.alloc _).alloc _).alloc _) hS hcc hn (((hf.alloc _).alloc _).alloc _) (by omega) hmc).mono ?_
  rw [hq]
  rintro e w1 ⟨rfl, hb1⟩
  have hf1 := (((hf.alloc _).alloc _).alloc _).below hb1
  have hT1 := (((hT.alloc _).alloc _).alloc _).below hb1
  obtain ⟨h0, h1, h2, hb, hs⟩ := three_new hb1
  have t0 := Row.cell h1 0
  have t1 := Row.cell h1 1
  simp at t0 t1
  have HB := Lib.hid hb
  have HR0 := Lib.hid h0
  have HR1 := Lib.hid h1
  have HR2 := Lib.hid h2
  have HF1 := Lib.hid hf1
  have HT1 := Lib.hid hT1
  clear hb1 hq h0 h1 h2 hb hT1
  by_cases h : q = 0
  rotate_left
  · have HF := HA.out
    rw [if_neg h] at HF
    have HF := Lib.hid HF
    have hqb : (q != 0) = true := by simpa using h
    clear HA h
    have HW := Lib.hid (rfl : (0 : Nat) = 0)
    go_wp2_with (first | (go_at_call 59; go_must (refine l1In_calls.mono ?_); rw [HW.out]; rintro e w' ⟨rfl, rfl⟩) | (refine wpList_store_row rfl 36 _ _ rfl (w.heap.size + 2) _ rfl rfl _ _ HR2.out (by kernel_rfl) (by rfl) (by simp [Value.oneCell']) ?_))
    refine bodyPost_ret (results_cell_row rfl _ _ (w.heap.size + 2) _ _ _ _ rfl (setRow_heap _ _ _ _ _ _ HR2.out) Try.underlying36 rfl (by kernel_rfl)) rfl ?_
    exact pair_done HB.out (by omega) _ HF.out
  subst h
  have HF := HA.out
  simp only [if_true] at HF
  clear HA
  have e1 : IntKind.i64.wrap ((m : Int) * 16) = (m : Int) * 16 := IntWalk.i64_in _ (by omega)
  have e2 : IntKind.i64.wrap ((m : Int) * 16 - 1) = (m : Int) * 16 - 1 := IntWalk.i64_in _ (by omega)
  rcases hW : within 0 ((m : Int) * 16 - 1) [p] with _ | _
  · rw [hW] at HF
    simp at HF
    have HF := Lib.hid HF
    have HW := Lib.hid hW
    go_wp2_with (first | (go_at_call 59; go_must (refine l1In_calls.mono ?_); rw [HW.out]; rintro e w' ⟨rfl, rfl⟩) | (refine wpList_store_row rfl 36 _ _ rfl (w.heap.size + 2) _ rfl rfl _ _ HR2.out (by kernel_rfl) (by rfl) (by simp [Value.oneCell']) ?_))
    refine bodyPost_ret (results_cell_row rfl _ _ (w.heap.size + 2) _ _ _ _ rfl (setRow_heap _ _ _ _ _ _ HR2.out) Try.underlying36 rfl (by kernel_rfl)) rfl ?_
    exact pair_done HB.out (by omega) _ HF.out
  · have ht : 0 ≤ p ∧ p ≤ (m : Int) * 16 - 1 := by rw [within_one] at hW; simpa using hW
    have HW := Lib.hid hW
    rw [hW] at HF
    simp only [if_true] at HF
    obtain ⟨k, rfl⟩ : ∃ k : Nat, p = k := ⟨p.toNat, by omega⟩
    obtain ⟨j, hj⟩ : ∃ j : Nat, j = k / 16 := ⟨_, rfl⟩
    have hjm : j < m := by omega
    have hj2 : ((k : Int) / 16).toNat = j := by omega
    have hj3 : (k : Int) / 16 = (j : Int) := by omega
    obtain ⟨r, hr⟩ : ∃ r : Nat, r = k % 16 := ⟨_, rfl⟩
    have hr3 : (k : Int) % 16 = (r : Int) := by omega
    rw [hj2, hr3] at HF
    have d1 : Int.tdiv (k : Int) 16 = (j : Int) := by rw [Int.tdiv_eq_ediv_of_nonneg (by omega)]; exact hj3
    have d2 : Int.tmod (k : Int) 16 = (r : Int) := by rw [Int.tmod_eq_emod_of_nonneg (by omega)]; exact hr3
    obtain ⟨b, off, rfl, hbb, hc⟩ := hf1.at_ hjm
    have hjn : (j : Int) < (m : Int) := by omega
    have hj0 : (0 : Int) ≤ (j : Int) := by omega
    have hjt : (j : Int).toNat = j := by omega
    have hr17 : r < 16 := by omega
    have hyb : tableFault F C ts tn fr = 0 := HQ.out
    clear hj hj2 hj3 hr hr3 ht hW hf1
    by_cases hv : fr.getD j 0 = -1
    · rw [if_pos hv] at HF
      have HF := Lib.hid HF
      rw [hv] at hc
      clear hv hyb
      go_wp2_with (first | (go_at_call 59; go_must (refine l1In_calls.mono ?_); rw [HW.out]; rintro e w' ⟨rfl, rfl⟩) | (refine wpList_store_row rfl 36 _ _ rfl (w.heap.size + 2) _ rfl rfl _ _ HR2.out (by kernel_rfl) (by rfl) (by simp [Value.oneCell']) ?_))
      refine bodyPost_ret (results_cell_row rfl _ _ (w.heap.size + 2) _ _ _ _ rfl (setRow_heap _ _ _ _ _ _ HR2.out) Try.underlying36 rfl (by kernel_rfl)) rfl ?_
      exact pair_done HB.out (by omega) _ HF.out
    · rw [if_neg hv] at HF
      have HF := Lib.hid HF
      obtain ⟨v0, v1, v2⟩ := table_frame hyb (by have := HL.out; omega) hv
      obtain ⟨y, hy⟩ : ∃ y, y = fr.getD j 0 := ⟨_, rfl⟩
      rw [← hy] at hc v0 v1 HF
      have hyn : (y == -1) = false := by rw [hy]; simpa using hv
      have e3 : IntKind.i64.wrap (y * 16) = y * 16 := IntWalk.i64_in _ (by omega)
      have e4 : IntKind.i64.wrap (y * 16 + (r : Int)) = y * 16 + (r : Int) := IntWalk.i64_in _ (by omega)
      clear hv hyb hy v0 v1 v2
      go_wp2_with (first | (go_at_call 59; go_must (refine l1In_calls.mono ?_); rw [HW.out]; rintro e w' ⟨rfl, rfl⟩) | (refine wpList_store_row rfl 36 _ _ rfl (w.heap.size + 2) _ rfl rfl _ _ HR2.out (by kernel_rfl) (by rfl) (by simp [Value.oneCell']) ?_))
      refine bodyPost_ret (results_cell_row rfl _ _ (w.heap.size + 2) _ _ _ _ rfl (setRow_heap _ _ _ _ _ _ HR2.out) Try.underlying36 rfl (by kernel_rfl)) rfl ?_
      exact pair_done HB.out (by omega) _ HF.out

set_option maxHeartbeats 1000000 in
theorem sameTables_calls {a b : Option Addr} {n m c d : Nat} {x y : Int} {us vs : List Int} {w : World} (ha : Ints w a n us) (hb : Ints w b m vs) (hn : n ≤ 17592186044416) (hm : m ≤ 17592186044416) :
    Calls Try.prog 21 #[.agg #[.int .i64 x, .slice a n c], .agg #[.int .i64 y, .slice b m d]] w fun e w' => e = .returned (.bool (x == y && decide (us = vs))) ∧ Below w.heap.size w w' := by
  have HA := Lib.hid ha
  have HB := Lib.hid hb
  rcases hq : (x == y) with _ | _
  · go_enter Try.func21, Try.ntmps21
    go_wp2_with (go_quiet (fail))
    go_ret
    exact ⟨rfl, ((Below.refl _ _).alloc (Nat.le_refl _) _).alloc (by simp) _⟩
  · go_enter Try.func21, Try.ntmps21
    go_wp2_with fail
    refine (equalI_calls ((HA.out.alloc _).alloc _) ((HB.out.alloc _).alloc _) hn hm).mono ?_
    rintro e w' ⟨rfl, hb1⟩
    have HB1 := Lib.hid hb1
    clear hb1
    go_wp2_with fail
    go_ret
    exact ⟨by simp, below_past (below_past HB1.out)⟩
set_option maxHeartbeats 1000000 in
theorem sSameTables_calls {a b : Option Addr} {n m c d : Nat} {x y : Int} {us vs : List Int} {w : World} (ha : Ints w a n us) (hb : Ints w b m vs) (hn : n ≤ 17592186044416) (hm : m ≤ 17592186044416) :
    Calls Try.prog 22 #[.agg #[.int .i64 x, .slice a n c], .agg #[.int .i64 y, .slice b m d]] w fun e w' => e = .returned (.bool (x == y && decide (us = vs))) ∧ Below w.heap.size w w' := by
  have HA := Lib.hid ha
  have HB := Lib.hid hb
  rcases hq : (x == y) with _ | _
  · go_enter Try.func22, Try.ntmps22
    go_wp2_with (go_quiet (fail))
    go_ret
    exact ⟨rfl, ((Below.refl _ _).alloc (Nat.le_refl _) _).alloc (by simp) _⟩
  · go_enter Try.func22, Try.ntmps22
    go_wp2_with fail
    refine (l1Same_calls ((HA.out.alloc _).alloc _) ((HB.out.alloc _).alloc _) hn hm).mono ?_
    rintro e w' ⟨rfl, j, rfl⟩
    go_wp2_with fail
    go_ret
    exact ⟨by simp, below_drewN (((Below.refl _ _).alloc (Nat.le_refl _) _).alloc (by simp) _) _⟩
end Go.Proofs.Ytoaeglhjaandmaa

/- The laws of chapter 7 answer true at every argument and write nothing that was there. -/
namespace Go.Proofs.Ytoaeglhjaandmaa
open Go.RowKit

theorem keep5 {W a b : World} {p1 p2 p3 p4 p5 : Addr} {x1 x2 x3 x4 x5 : Value} (h : a.cell? p1 = some x1 ∧ a.cell? p2 = some x2 ∧ a.cell? p3 = some x3 ∧ a.cell? p4 = some x4 ∧ a.cell? p5 = some x5 ∧ Below W.heap.size W a) (hb : Below a.heap.size a b) :
    b.cell? p1 = some x1 ∧ b.cell? p2 = some x2 ∧ b.cell? p3 = some x3 ∧ b.cell? p4 = some x4 ∧ b.cell? p5 = some x5 ∧ Below W.heap.size W b := by
  obtain ⟨h1, h2, h3, h4, h5, h6⟩ := h
  exact ⟨(hb.cell (World.block_lt_of_cell? _ _ h1)).trans h1, (hb.cell (World.block_lt_of_cell? _ _ h2)).trans h2, (hb.cell (World.block_lt_of_cell? _ _ h3)).trans h3, (hb.cell (World.block_lt_of_cell? _ _ h4)).trans h4, (hb.cell (World.block_lt_of_cell? _ _ h5)).trans h5, h6.trans (hb.mono h6.size)⟩

set_option maxHeartbeats 4000000 in
set_option maxRecDepth 100000 in
theorem lawTableFault {ao ta : Option Addr} {n cc m tc : Nat} {F C tn : Int} {ts : List (List Int × Int)} {fr : List Int} {w : World} (hT : Tens w ao n ts) (hS : Short 9223372036854775807 ts) (hn : n ≤ 9223372036854775807) (hf : Ints w ta m fr) (hm : m ≤ 9223372036854775807) :
    Calls Try.prog 4 #[.agg #[.int .i64 F, .int .i64 C, .slice ao n cc], .agg #[.int .i64 tn, .slice ta m tc]] w fun e w' => e = .returned (.bool true) ∧ Below w.heap.size w w' := by
  have HL := Lib.hid hf.1
  go_enter Try.func4, Try.ntmps4
  go_wp2_with fail
  refine (szConfig_calls ((hT.alloc _).alloc _) hS hn).mono ?_
  rintro e w1 ⟨rfl | ⟨r, rfl, r0, r1, hn1, hS1⟩, hb1⟩
  · have hb := below_past (below_past hb1)
    clear hb1
    go_wp2_with fail
    go_ret
    exact ⟨rfl, hb⟩
  have hSh := hS1.mono (M := 17592186044416) (by omega)
  have hr : ¬ (r < 0) := by omega
  obtain ⟨RA1, RB1, B1, Z1⟩ := two_new hb1
  have RA1 : Row w1 w.heap.size 45 #[.int .i64 F, .int .i64 C, .slice ao n cc] := RA1
  have RB1 : Row w1 (w.heap.size + 1) 46 #[.int .i64 tn, .slice ta m tc] := RB1
  have HS1 := Lib.hid hS1
  clear hb1 hS1
  have rac0 := Row.cell (RA1) 0
  have rac1 := Row.cell (RA1) 1
  have rac2 := Row.cell (RA1) 2
  have rbc0 := Row.cell (RB1) 0
  have rbc1 := Row.cell (RB1) 1
  have ral := Row.lt RA1
  have rbl := Row.lt RB1
  simp at rac0 rac1 rac2 rbc0 rbc1
  go_wp2_with fail
  refine (szTable_calls hm r0 r1).mono ?_
  by_cases hbig : r - (m : Int) < 0
  · rw [if_pos hbig]
    rintro e w2 ⟨rfl, hb2⟩
    have hb := B1.trans (hb2.mono B1.size)
    clear hb2
    go_wp2_with fail
    go_ret
    exact ⟨rfl, hb⟩
  rw [if_neg hbig]
  rintro e w2 ⟨rfl, hb2⟩
  have hm1 : m ≤ 1048576 := by omega
  have hge : ¬ (r - (m : Int) < 0) := hbig
  clear hbig
  clear rac0 rac1 rac2 rbc0 rbc1 ral rbl
  have RA2 := Row.below RA1 hb2
  have RB2 := Row.below RB1 hb2
  have B2 := B1.trans (hb2.mono B1.size)
  have Z2 := hb2.size
  clear RA1 RB1
  clear hb2
  obtain ⟨q, hq⟩ : ∃ q, tableFault F C ts tn fr = q := ⟨_, rfl⟩
  have HQ := Lib.hid hq
  clear hq
  have rac0 := Row.cell (RA2) 0
  have rac1 := Row.cell (RA2) 1
  have rac2 := Row.cell (RA2) 2
  have rbc0 := Row.cell (RB2) 0
  have rbc1 := Row.cell (RB2) 1
  have ral := Row.lt RA2
  have rbl := Row.lt RB2
  simp at rac0 rac1 rac2 rbc0 rbc1
  have T2 := hT.below B2
  have f2 := hf.below B2
  have kB := Below.refl w2.heap.size w2
  go_wp2_with fail
  go_region_held3 (fun w' => w'.cell? ⟨w.heap.size, 0, none⟩ = some (.int .i64 F) ∧ w'.cell? ⟨w.heap.size, 1, none⟩ = some (.int .i64 C) ∧ w'.cell? ⟨w.heap.size, 2, none⟩ = some (.slice ao n cc) ∧ w'.cell? ⟨w.heap.size + 1, 0, none⟩ = some (.int .i64 tn) ∧ w'.cell? ⟨w.heap.size + 1, 1, none⟩ = some (.slice ta m tc) ∧ Below w2.heap.size w2 w') (first | assumption | exact ⟨rac0, rac1, rac2, rbc0, rbc1, kB.drew⟩)
    (first
      | (go_at_call 28; obtain ⟨y0, y1, y2, y3, y4, kb⟩ := ‹_ ∧ _ ∧ _ ∧ _ ∧ _ ∧ Below _ _ _›; refine (toConfig_calls (T2.below kb) hSh hn1).mono ?_; rintro e wC ⟨gC, rfl, hgC, hIC, bC⟩; have hS1 := keep5 ⟨y0, y1, y2, y3, y4, kb⟩ bC)
      | (go_at_call 29; obtain ⟨y0, y1, y2, y3, y4, kb⟩ := ‹_ ∧ _ ∧ _ ∧ _ ∧ _ ∧ Below _ _ _›; refine (toTable_calls (f2.below kb) (by omega)).mono ?_; rintro e wT ⟨vT, rfl, oT, bT⟩; obtain ⟨xT, cT, rfl, hcT, _, _⟩ := oT.shape; have hS2 := keep5 ⟨y0, y1, y2, y3, y4, kb⟩ bT)
      | (go_at_call 24; obtain ⟨y0, y1, y2, y3, y4, kb⟩ := ‹_ ∧ _ ∧ _ ∧ _ ∧ _ ∧ Below _ _ _›; refine (sTableFault_calls (hIC.below bT).tens hSh (Nat.le_refl _) (by omega) oT.ints (by omega) hcT).mono ?_; rw [HQ.out]; rintro e wS ⟨rfl, bS⟩; have hS3 := keep5 ⟨y0, y1, y2, y3, y4, kb⟩ bS))
  obtain ⟨_, _, _, _, _, kb3⟩ := hS3
  clear rac0 rac1 rac2 rbc0 rbc1 ral rbl T2 f2 kB hS1 hS2 hIC oT bC bT bS hgC
  have RA3 := Row.below RA2 kb3
  have RB3 := Row.below RB2 kb3
  have B3 := B2.trans (kb3.mono B2.size)
  have Z3 := kb3.size
  clear RA2 RB2
  have rac0 := Row.cell (RA3) 0
  have rac1 := Row.cell (RA3) 1
  have rac2 := Row.cell (RA3) 2
  have rbc0 := Row.cell (RB3) 0
  have rbc1 := Row.cell (RB3) 1
  have ral := Row.lt RA3
  have rbl := Row.lt RB3
  simp at rac0 rac1 rac2 rbc0 rbc1
  have T3 := hT.below B3
  go_wp2_with fail
  refine (toConfig_calls T3 hSh hn1).mono ?_
  rintro e w4 ⟨gX, rfl, hgX, hIX, hb4⟩
  clear rac0 rac1 rac2 rbc0 rbc1 ral rbl T3
  have RA4 := Row.below RA3 hb4
  have RB4 := Row.below RB3 hb4
  have B4 := B3.trans (hb4.mono B3.size)
  have Z4 := hb4.size
  clear RA3 RB3
  obtain ⟨w5, hw5⟩ : ∃ w5, w4.alloc (.cells #[.int .i64 F, .int .i64 C, .slice (some ⟨gX, 0, none⟩) n n] 26) = w5 := ⟨_, rfl⟩
  have hb5 : Below w4.heap.size w4 w5 := by rw [← hw5]; exact (Below.refl _ _).alloc (Nat.le_refl _) _
  have RX5 : Row w5 w4.heap.size 26 #[.int .i64 F, .int .i64 C, .slice (some ⟨gX, 0, none⟩) n n] := by rw [← hw5]; exact heap_alloc_new _ _
  have RA5 := Row.below RA4 hb5
  have RB5 := Row.below RB4 hb5
  have B5 := B4.trans (hb5.mono B4.size)
  have Z5 := hb5.size
  clear RA4 RB4
  have I5 := hIX.below hb5
  clear hIX hb4 hb5
  have rac0 := Row.cell (RA5) 0
  have rac1 := Row.cell (RA5) 1
  have rac2 := Row.cell (RA5) 2
  have rbc0 := Row.cell (RB5) 0
  have rbc1 := Row.cell (RB5) 1
  have rxc0 := Row.cell (RX5) 0
  have rxc1 := Row.cell (RX5) 1
  have rxc2 := Row.cell (RX5) 2
  have ral := Row.lt RA5
  have rbl := Row.lt RB5
  have rxl := Row.lt RX5
  simp at rac0 rac1 rac2 rbc0 rbc1 rxc0 rxc1 rxc2
  have f5 := hf.below B5
  go_wp2_with fail
  refine (toTable_calls f5 (by omega)).mono ?_
  rintro e w6 ⟨vY, rfl, oY, hb6⟩
  obtain ⟨yo, yc, rfl, hyc, _, _⟩ := oY.shape
  have O6 := oY.in_
  clear rac0 rac1 rac2 rbc0 rbc1 rxc0 rxc1 rxc2 ral rbl rxl f5 oY
  have RA6 := Row.below RA5 hb6
  have RB6 := Row.below RB5 hb6
  have RX6 := Row.below RX5 hb6
  have I6 := I5.below hb6
  have B6 := B5.trans (hb6.mono B5.size)
  have Z6 := hb6.size
  clear RA5 RB5 RX5 I5
  obtain ⟨w7, hw7⟩ : ∃ w7, w6.alloc (.cells #[.int .i64 tn, .slice yo m yc] 29) = w7 := ⟨_, rfl⟩
  have hb7 : Below w6.heap.size w6 w7 := by rw [← hw7]; exact (Below.refl _ _).alloc (Nat.le_refl _) _
  have RY7 : Row w7 w6.heap.size 29 #[.int .i64 tn, .slice yo m yc] := by rw [← hw7]; exact heap_alloc_new _ _
  have RA7 := Row.below RA6 hb7
  have RB7 := Row.below RB6 hb7
  have RX7 := Row.below RX6 hb7
  have I7 := I6.below hb7
  have O7 := O6.below hb7
  have B7 := B6.trans (hb7.mono B6.size)
  have Z7 := hb7.size
  clear RA6 RB6 RX6 I6 O6
  clear hb6 hb7
  have rac0 := Row.cell (RA7) 0
  have rac1 := Row.cell (RA7) 1
  have rac2 := Row.cell (RA7) 2
  have rbc0 := Row.cell (RB7) 0
  have rbc1 := Row.cell (RB7) 1
  have rxc0 := Row.cell (RX7) 0
  have rxc1 := Row.cell (RX7) 1
  have rxc2 := Row.cell (RX7) 2
  have ryc0 := Row.cell (RY7) 0
  have ryc1 := Row.cell (RY7) 1
  have ral := Row.lt RA7
  have rbl := Row.lt RB7
  have rxl := Row.lt RX7
  have ryl := Row.lt RY7
  simp at rac0 rac1 rac2 rbc0 rbc1 rxc0 rxc1 rxc2 ryc0 ryc1
  go_wp2_with fail
  refine (tableFault_calls I7.tens hSh (Nat.le_refl _) (by omega) O7.ints (by omega)).mono ?_
  rw [HQ.out]
  rintro e w8 ⟨rfl, hb8⟩
  clear rac0 rac1 rac2 rbc0 rbc1 rxc0 rxc1 rxc2 ryc0 ryc1 ral rbl rxl ryl
  have RA8 := Row.below RA7 hb8
  have RB8 := Row.below RB7 hb8
  have RX8 := Row.below RX7 hb8
  have RY8 := Row.below RY7 hb8
  have I8 := I7.below hb8
  have O8 := O7.below hb8
  have B8 := B7.trans (hb8.mono B7.size)
  have Z8 := hb8.size
  clear RA7 RB7 RX7 RY7 I7 O7
  clear hb8
  have hqq : (q != q) = false := by simp
  have rac0 := Row.cell (RA8) 0
  have rac1 := Row.cell (RA8) 1
  have rac2 := Row.cell (RA8) 2
  have rbc0 := Row.cell (RB8) 0
  have rbc1 := Row.cell (RB8) 1
  have rxc0 := Row.cell (RX8) 0
  have rxc1 := Row.cell (RX8) 1
  have rxc2 := Row.cell (RX8) 2
  have ryc0 := Row.cell (RY8) 0
  have ryc1 := Row.cell (RY8) 1
  have ral := Row.lt RA8
  have rbl := Row.lt RB8
  have rxl := Row.lt RX8
  have ryl := Row.lt RY8
  simp at rac0 rac1 rac2 rbc0 rbc1 rxc0 rxc1 rxc2 ryc0 ryc1
  have TA := hT.below B8
  have kB := Below.refl w8.heap.size w8
  have IA := I8
  go_wp2_with fail
  go_region_held3 (fun w' => w'.cell? ⟨w4.heap.size, 0, none⟩ = some (.int .i64 F) ∧ w'.cell? ⟨w4.heap.size, 1, none⟩ = some (.int .i64 C) ∧ w'.cell? ⟨w4.heap.size, 2, none⟩ = some (.slice (some ⟨gX, 0, none⟩) n n) ∧ w'.cell? ⟨w.heap.size, 0, none⟩ = some (.int .i64 F) ∧ w'.cell? ⟨w.heap.size, 1, none⟩ = some (.int .i64 C) ∧ w'.cell? ⟨w.heap.size, 2, none⟩ = some (.slice ao n cc) ∧ Below w8.heap.size w8 w') (first | assumption | exact ⟨rxc0, rxc1, rxc2, rac0, rac1, rac2, kB.drew⟩)
    (first
      | (go_at_call 28; obtain ⟨y0, y1, y2, y3, y4, y5, kb⟩ := ‹_ ∧ _ ∧ _ ∧ _ ∧ _ ∧ _ ∧ Below _ _ _›; refine (toConfig_calls (TA.below kb) hSh hn1).mono ?_; rintro e wD ⟨gD, rfl, hgD, hID, bD⟩; have hD1 := keep6 ⟨y0, y1, y2, y3, y4, y5, kb⟩ bD)
      | (go_at_call 30; obtain ⟨y0, y1, y2, y3, y4, y5, kb⟩ := ‹_ ∧ _ ∧ _ ∧ _ ∧ _ ∧ _ ∧ Below _ _ _›; refine (eqConfig_calls ((IA.below kb).tens) hID.tens hSh hn1).mono ?_; rintro e wE ⟨rfl, bE⟩; have hD2 := keep6 ⟨y0, y1, y2, y3, y4, y5, kb⟩ bE))
  obtain ⟨_, _, _, _, _, _, kb9⟩ := hD2
  clear rac0 rac1 rac2 rbc0 rbc1 rxc0 rxc1 rxc2 ryc0 ryc1 ral rbl rxl ryl TA kB IA hD1 hID bD bE hgD
  have RA9 := Row.below RA8 kb9
  have RB9 := Row.below RB8 kb9
  have RX9 := Row.below RX8 kb9
  have RY9 := Row.below RY8 kb9
  have I9 := I8.below kb9
  have O9 := O8.below kb9
  have B9 := B8.trans (kb9.mono B8.size)
  have Z9 := kb9.size
  clear RA8 RB8 RX8 RY8 I8 O8
  have rac0 := Row.cell (RA9) 0
  have rac1 := Row.cell (RA9) 1
  have rac2 := Row.cell (RA9) 2
  have rbc0 := Row.cell (RB9) 0
  have rbc1 := Row.cell (RB9) 1
  have rxc0 := Row.cell (RX9) 0
  have rxc1 := Row.cell (RX9) 1
  have rxc2 := Row.cell (RX9) 2
  have ryc0 := Row.cell (RY9) 0
  have ryc1 := Row.cell (RY9) 1
  have ral := Row.lt RA9
  have rbl := Row.lt RB9
  have rxl := Row.lt RX9
  have ryl := Row.lt RY9
  simp at rac0 rac1 rac2 rbc0 rbc1 rxc0 rxc1 rxc2 ryc0 ryc1
  have fA := hf.below B9
  have kB := Below.refl wE.heap.size wE
  have OA := O9
  go_wp2_with fail
  go_region_held3 (fun w' => w'.cell? ⟨w6.heap.size, 0, none⟩ = some (.int .i64 tn) ∧ w'.cell? ⟨w6.heap.size, 1, none⟩ = some (.slice yo m yc) ∧ w'.cell? ⟨w.heap.size + 1, 0, none⟩ = some (.int .i64 tn) ∧ w'.cell? ⟨w.heap.size + 1, 1, none⟩ = some (.slice ta m tc) ∧ Below wE.heap.size wE w') (first | assumption | exact ⟨ryc0, ryc1, rbc0, rbc1, kB.drew⟩)
    (first
      | (go_at_call 29; obtain ⟨y0, y1, y2, y3, kb⟩ := ‹_ ∧ _ ∧ _ ∧ _ ∧ Below _ _ _›; refine (toTable_calls (fA.below kb) (by omega)).mono ?_; rintro e wH ⟨vH, rfl, oH, bH⟩; obtain ⟨xH, cH, rfl, _, _, _⟩ := oH.shape; have hH1 := keep4 ⟨y0, y1, y2, y3, kb⟩ bH)
      | (go_at_call 31; obtain ⟨y0, y1, y2, y3, kb⟩ := ‹_ ∧ _ ∧ _ ∧ _ ∧ Below _ _ _›; refine (eqTable_calls (OA.below kb).ints oH.ints (by omega)).mono ?_; rintro e wJ ⟨rfl, bJ⟩; have hH2 := keep4 ⟨y0, y1, y2, y3, kb⟩ bJ))
  obtain ⟨_, _, _, _, kb10⟩ := hH2
  clear rac0 rac1 rac2 rbc0 rbc1 rxc0 rxc1 rxc2 ryc0 ryc1 ral rbl rxl ryl fA kB OA hH1 oH bH bJ
  have RA10 := Row.below RA9 kb10
  have RB10 := Row.below RB9 kb10
  have RX10 := Row.below RX9 kb10
  have RY10 := Row.below RY9 kb10
  have I10 := I9.below kb10
  have O10 := O9.below kb10
  have B10 := B9.trans (kb10.mono B9.size)
  have Z10 := kb10.size
  clear RA9 RB9 RX9 RY9 I9 O9
  go_wp2_with fail
  go_ret
  exact ⟨rfl, B10⟩
end Go.Proofs.Ytoaeglhjaandmaa
