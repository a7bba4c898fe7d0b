/- Joined texts (App7, Aren7, Plain7g, Spec7e, Lay7, Impl7f, App3, Spec4d, Spec4e, Whole4, Plain5, Impl7h): steps of the proofs of chapter 5's laws. -/
import Derived.Lib.AppendZerosOnto
import Derived.Laws.CopyRow
import Derived.Deep.RegionHeld3
import Derived.Test.YtoaeglhjaandmaaM3
import Derived.Test.YtoaeglhjaandmaaM4
import Derived.Test.YtoaeglhjaandmaaM5
import Derived.Test.YtoaeglhjaandmaaM6
set_option linter.unusedVariables false
set_option linter.unusedSimpArgs false
/- append(out, make([]int64, k)...), whatever room out has. -/
namespace Go.Proofs.Ytoaeglhjaandmaa
open Go.RowKit
set_option maxRecDepth 100000

theorem zeroCells_ints (k : Nat) : (Builtin.zeroCells (Value.int .i64 0).cells k).toList = (List.replicate k (0 : Int)).map (Value.int .i64) := by
  apply List.ext_getElem?
  intro j
  rw [List.map_replicate, List.getElem?_replicate]
  by_cases hj : j < k
  · rw [if_pos hj]; simp [Builtin.zeroCells, Value.cells, hj, Nat.mod_one]
  · rw [if_neg hj]; simp [Builtin.zeroCells, Value.cells, hj]

theorem run_append_zeros_room {P : Program} (w : World) (t tn ty e : TypeId) (i : TypeInfo) (ht : P.underlying t = some (.slice e)) (htn : P.underlying tn = some (.int .i64)) (hi : P.info? e = some i) (hz : i.zero = some (.int .i64 0)) (h1 : i.size = 1) (h8 : i.bytes = 8)
    (g n cap k : Nat) (cur : Array Value) (t' : TypeId) (hr : Row w g t' cur) (h0 : 0 < k) (hn : n + k ≤ cap) (hc : cur.size = cap) (hk : n + k ≤ 4294967296) :
    (Builtin.append_ #[t, tn] ty #[.slice (some ⟨g, 0, none⟩) n cap, .int .i64 k]).run P w = .ok (.slice (some ⟨g, 0, none⟩) (n + k) cap) (w.setRow g (cur.toList.take n ++ (List.replicate k (0 : Int)).map (Value.int .i64) ++ cur.toList.drop (n + ((List.replicate k (0 : Int)).map (Value.int .i64)).length)).toArray) := by
  have hk0 : k ≠ 0 := by omega
  have hw : IntKind.i64.wrap (k : Int) = k := by rw [IntKind.wrap_i64]; omega
  have h48i : ¬ (281474976710656 < (k : Int) * (i.bytes : Int)) := by
    rw [← Int.natCast_mul, h8]
    omega
  have hneg : ¬ ((k : Int) < 0) := by omega
  have hns : ¬ (k * i.size = 0) := Nat.mul_ne_zero hk0 (by omega)
  obtain ⟨zs, hzs⟩ : ∃ zs : List Value, zs = (List.replicate k (0 : Int)).map (Value.int .i64) := ⟨_, rfl⟩
  have hzl : zs.length = k := by rw [hzs]; simp
  have hstore := run_storeCells_at (P := P) g n t' zs 0 cur w hr (by omega) (fun u hu => by
    rw [hzs] at hu
    obtain ⟨z, _, rfl⟩ := List.mem_map.1 hu
    rfl)
  simp only [Nat.add_zero] at hstore
  have hzc := zeroCells_ints k
  rw [← hzs] at hzc
  have hadd : (⟨g, 0, none⟩ : Addr).add n = ⟨g, n, none⟩ := by rw [Addr.add_mid, Nat.zero_add]
  rw [← hzs]
  simp [Builtin.append_, run_underlying ht, run_underlying htn, sizeOf, typeInfo, zeroValue, hi, hz, h1, asInt, asIntOf, hw, hn, hneg, hk0, hzc, hadd, hstore]
  omega

section
variable {ops : Array Oper} {rest : List Oper} {o : Oper} {a : Act} {w : World} {Q : Exit → Act → World → Prop} {S : Nat → Prop}
theorem wpList_append_zerosI (hgd : o.guard = none) (s x : Operand) (ho : o.op = .call { callee := .builtin .append, args := #[s, x], argTypes := #[27, 3] })
    {n k : Nat} {v : Value} {xs : List Int} (hs : a.eval s = v) (hown : Own KInt 2 w S v n xs) (hx : a.eval x = .int .i64 k) (h0 : 0 < k) (hn : n + k ≤ 4294967296)
    (h : ∀ v' w', Own KInt 2 w' (fun j => S j ∨ w.heap.size ≤ j) v' (n + k) (xs ++ List.replicate k 0) → Turn S w w' → wpList Try.prog ops Q rest (a.put o.dst v') w') : wpList Try.prog ops Q (o :: rest) a w := by
  obtain ⟨i0, hi, hz0, hz1, hz2⟩ := info_parts info64
  have hxl := hown.1
  rcases hown.2 with ⟨rfl, rfl⟩ | ⟨g, cap, cur0, F, rfl, hg0, _⟩
  · obtain rfl : xs = [] := List.eq_nil_of_length_eq_zero hxl
    refine wpList_append_zeros_nil (K := KInt) hgd s x 27 3 ho 2 i0 (.int .i64 0) 8 .i64 .i64 Try.underlying27 Try.underlying3 hi hz0 hz1 hz2 rfl (by decide) hs hx (fun w => rfl) h0 (by unfold maxLen; omega) (by omega) ?_
    intro v' w' h1 h2
    refine h v' w' ?_ (Turn.of_below h2)
    simpa using h1.mono (fun q hq _ => .inr hq)
  · obtain ⟨hg, cur, hr, h1, h2, h3, h4⟩ := hown.rowI
    rw [Nat.mul_one] at h3
    have hcl : cur.toList.length = cap := by rw [Array.length_toList, h3]
    refine wpList_plain hgd fun K' hK' => ?_
    by_cases hroom : n + k ≤ cap
    · have hrun := run_append_zeros_room (P := Try.prog) w 27 3 o.type 2 i0 Try.underlying27 Try.underlying3 hi hz0 hz1 hz2 g n cap k cur _ hr h0 hroom h3 hn
      unfold Oper.wp execOp
      simp only [ho, resolve, invoke, builtin, Sem.run_bind, Sem.run_pure, Result.andThen_ok, List.map_toArray, List.map_cons, List.map_nil, hs, hx, hrun]
      refine hK' _ _ (h _ _ ?_ ((Turn.setRow w g _).mono (fun q hq _ => by rw [show q = g from hq]; exact hg)))
      obtain ⟨zs, hzs⟩ : ∃ zs : List Value, zs = (List.replicate k (0 : Int)).map (Value.int .i64) := ⟨_, rfl⟩
      have hzl : zs.length = k := by rw [hzs]; simp
      rw [← hzs]
      refine Own.of_rowI (B := 0) ⟨by simp; omega, .inr ⟨g, cap, _, rfl, Nat.zero_le _, setRow_heap w g cur _ _ _ hr, hroom, h2, ?_, ?_⟩⟩ (.inl hg)
      · simp only [List.size_toArray, List.length_append, List.length_take, List.length_drop, hzl, hcl]; omega
      · rw [Nat.mul_one, List.toList_toArray, List.map_append, ← hzs, h4, List.take_append_of_le_length (by simp only [List.length_append, List.length_map, hzl]; omega)]
        rw [List.take_of_length_le (by simp only [List.length_append, List.length_map, hzl]; omega)]
    · have hkb : k * i0.bytes ≤ 140737488355328 := by rw [hz2]; omega
      have hcells : (Builtin.firstCells i0.size n (.slice (some ⟨g, 0, none⟩) n cap)).run Try.prog w.drew = .ok (xs.map (Value.int .i64)).toArray w.drew := by
        refine run_firstCells_some (P := Try.prog) w.drew i0.size n ⟨g, 0, none⟩ n cap (xs.map (Value.int .i64)) (by rw [hz1]; simp; omega) ?_
        intro j v hv
        rw [Addr.add_mid, Nat.zero_add]
        have hj : j < n := by
          rcases Nat.lt_or_ge j n with h | h
          · exact h
          · rw [List.getElem?_eq_none (by simp; omega)] at hv; cases hv
        have e3 : w.drew.cell? ⟨g, j, none⟩ = cur[j]? := Row.cell hr _
        rw [e3, ← Array.getElem?_toList, ← hv, ← h4, List.getElem?_take_of_lt hj]
      have hrun := Lib.run_append_grow_zeros w 27 3 o.type 2 i0 (.int .i64 0) .i64 .i64 Try.underlying27 Try.underlying3 hi hz0 (some ⟨g, 0, none⟩) n cap (xs.map (Value.int .i64)) hcells k h0 (by omega) (by omega) (by omega) (by rw [hz2]; omega) (growslice_fits (by omega) (by rw [hz2]; omega))
      unfold Oper.wp execOp
      simp only [ho, resolve, invoke, builtin, Sem.run_bind, Sem.run_pure, Result.andThen_ok, List.map_toArray, List.map_cons, List.map_nil, hs, hx, hrun]
      have hge := grownCap_ge w (n + k) cap 2
      have hle := grownCap_le_maxLen w (n + k) cap 2 (by unfold maxLen; omega)
      refine hK' _ _ (h _ _ ?_ ((Turn.drew_ _ w).trans (Turn.alloc _ w.drew _) (fun _ h _ => h)))
      refine Own.of_rowI (B := 0) ⟨by simp; omega, .inr ⟨w.heap.size, _, _, rfl, Nat.zero_le _, heap_alloc_new w.drew _, hge, hle, ?_, ?_⟩⟩ (.inr (Nat.le_refl _))
      · simp only [Array.size_append, List.size_toArray, size_zeroCells, List.length_map, hxl]
        have : (Value.int IntKind.i64 0).cells.size = 1 := rfl
        rw [this]; omega
      · rw [Nat.mul_one]
        simp only [Array.toList_append, List.toList_toArray]
        rw [zeroCells_ints k, ← List.map_append, List.take_append_of_le_length (by simp; omega), List.take_of_length_le (by simp; omega)]
end
end Go.Proofs.Ytoaeglhjaandmaa

/- The arena's fault, as the program and the model ask it; a frame as the model takes it. -/
namespace Go.Proofs.Ytoaeglhjaandmaa
open Go.RowKit
set_option maxRecDepth 100000

set_option maxHeartbeats 400000 in
theorem arenaFault_calls {a : Option Addr} {n c : Nat} {xs : List Int} {w : World} (ha : Ints w a n xs) (hx : n ≤ 17592186044416) :
    Calls Try.prog 105 #[.slice a n c] w fun e w' => e = .returned (.int .i64 (arenaFault xs)) ∧ Below w.heap.size w w' := by
  have HL := Lib.hid ha.1
  have HL := Lib.hid ha.1
  by_cases h16 : (n : Int) % 16 = 0
  · by_cases hs : 16 ≤ n ∧ n ≤ 640
    · have hB : within 1 40 [(n : Int) / 16] = true := by simp [within]; omega
      obtain ⟨r, HF⟩ : ∃ r : Int, Hid (arenaFault xs = r) := ⟨_, rfl⟩
      rcases hW : within (-1000000000) 1000000000 xs with _ | _
      all_goals
        have HG := HF.out
        unfold arenaFault at HG
        rw [HL.out, if_neg (by omega), hW] at HG
        simp at HG
        subst HG
        go_enter Try.func105, Try.ntmps105
        go_wp2_with (first
          | (go_at_call 54; refine (allWithin_calls (Ints.one (by simp)) (by omega)).mono ?_; rintro e w' ⟨rfl, rfl⟩)
          | (go_at_call 88; go_must (refine (areWords_calls (ha.below (Below.alloc (Below.refl _ _) (Nat.le_refl _) _)) hx).mono ?_); rintro e w' ⟨rfl, rfl⟩)
          | go_in)
        go_ret
        exact ⟨ret_int HF.out.symm, Below.alloc (Below.refl _ _) (Nat.le_refl _) _⟩
    · have hB : within 1 40 [(n : Int) / 16] = false := by simp [within]; omega
      have HF : Hid (arenaFault xs = 2) := by unfold arenaFault; rw [HL.out]; exact if_pos (by omega)
      go_enter Try.func105, Try.ntmps105
      go_wp2_with (first
        | (go_at_call 54; refine (allWithin_calls (Ints.one (by simp)) (by omega)).mono ?_; rintro e w' ⟨rfl, rfl⟩)
        | go_in)
      go_ret
      exact ⟨ret_int HF.out.symm, Below.alloc (Below.refl _ _) (Nat.le_refl _) _⟩
  · have HF : Hid (arenaFault xs = 2) := by unfold arenaFault; rw [HL.out]; exact if_pos (by omega)
    go_enter Try.func105, Try.ntmps105
    go_wp2_with fail
    go_ret
    exact ⟨ret_int HF.out.symm, Below.refl _ _⟩

theorem l1Value_calls {v : Int} {w : World} :
    Calls Try.prog 84 #[.int .i64 v] w fun e w' => e = .returned (.bool (within (-1000000000) 1000000000 [v])) ∧ w = w' := by
  go_enter Try.func84, Try.ntmps84
  go_wp2_with (go_at_call 59; refine l1In_calls.mono ?_; rintro e w' ⟨rfl, rfl⟩)
  go_ret
  exact ⟨rfl, rfl⟩

set_option maxHeartbeats 400000 in
theorem sArenaFault_calls {a : Option Addr} {n c : Nat} {xs : List Int} {w : World} (ha : Ints w a n xs) (hx : n ≤ 17592186044416) :
    Calls Try.prog 103 #[.slice a n c] w fun e w' => e = .returned (.int .i64 (arenaFault xs)) ∧ w = w' := by
  have HL := Lib.hid ha.1
  by_cases h16 : (n : Int) % 16 = 0
  · by_cases hs : 16 ≤ n
    · by_cases ht : n ≤ 640
      · have HA := Lib.hid (show arenaFault xs = if within (-1000000000) 1000000000 xs = true then 0 else 3 by unfold arenaFault; rw [HL.out, if_neg (by omega)])
        go_enter Try.func103, Try.ntmps103
        go_wp2
        go_loop [4] (fun i => ∃ k : Nat, k ≤ n ∧ i = .int .i64 k ∧ Hid (within (-1000000000) 1000000000 (xs.take k) = true)) (fun i => n - (intOf i).toNat)
        case atStart => exact ⟨0, Nat.zero_le _, rfl, rfl⟩
        case round =>
          obtain ⟨k, hk, rfl, HW⟩ := hrel
          by_cases hlt : k < n
          · obtain ⟨ba, oa, rfl, hba, hca⟩ := ha.at_ hlt
            have hkx : k < xs.length := by rw [HL.out]; exact hlt
            rcases hV : within (-1000000000) 1000000000 [xs[k]] with _ | _
            · have HF := Lib.hid (show arenaFault xs = 3 by rw [HA.out, within_one_no hkx hV]; rfl)
              go_wp2_with (go_at_call 84; refine l1Value_calls.mono ?_; rintro e w' ⟨rfl, rfl⟩)
              go_ret
              exact ⟨ret_int HF.out.symm, rfl⟩
            · have HS := Lib.hid (within_one_snoc hkx hV HW.out)
              go_wp2_with (go_at_call 84; refine l1Value_calls.mono ?_; rintro e w' ⟨rfl, rfl⟩)
              go_round
              case rel => exact ⟨k + 1, by omega, by go_num, HS⟩
              case measure => simp [intOf]; omega
          · have HF := Lib.hid (show arenaFault xs = 0 by
              have := HW.out
              rw [List.take_of_length_le (by have := HL.out; omega)] at this
              rw [HA.out, if_pos this])
            go_wp2
            go_ret
            exact ⟨ret_int HF.out.symm, rfl⟩
      · have HF := Lib.hid (show arenaFault xs = 2 by unfold arenaFault; rw [HL.out]; exact if_pos (by omega))
        go_enter Try.func103, Try.ntmps103
        go_wp2
        go_ret
        exact ⟨ret_int HF.out.symm, rfl⟩
    · have HF := Lib.hid (show arenaFault xs = 2 by unfold arenaFault; rw [HL.out]; exact if_pos (by omega))
      go_enter Try.func103, Try.ntmps103
      go_wp2
      go_ret
      exact ⟨ret_int HF.out.symm, rfl⟩
  · have HF := Lib.hid (show arenaFault xs = 2 by unfold arenaFault; rw [HL.out]; exact if_pos (by omega))
    go_enter Try.func103, Try.ntmps103
    go_wp2
    go_ret
    exact ⟨ret_int HF.out.symm, rfl⟩

theorem Ints.frame {w : World} {b off n f : Nat} {xs : List Int} (h : Ints w (some ⟨b, off, none⟩) n xs) (hf : (f + 1) * 16 ≤ n) : Ints w (some ⟨b, off + f * 16, none⟩) 16 (frameOf xs f) := by
  refine ⟨length_frameOf (by rw [h.1]; exact hf), fun _ => ?_⟩
  obtain ⟨b', off', he, hb, hc⟩ := h.2 (by omega)
  simp only [Option.some.injEq, Addr.mk.injEq, and_true] at he
  obtain ⟨rfl, rfl⟩ := he
  exact ⟨b, off + f * 16, rfl, hb, fun j hj => by rw [Nat.add_assoc, hc (f * 16 + j) (by omega), getD_frameOf hj]⟩

theorem l1Frame_calls {a : Option Addr} {n c f : Nat} {xs : List Int} {w : World} (ha : Ints w a n xs) (hf : (f + 1) * 16 ≤ n) (hc : n ≤ c) (hx : n ≤ 17592186044416) :
    Calls Try.prog 104 #[.slice a n c, .int .i64 f] w (Makes w 16 (frameOf xs f)) := by
  obtain ⟨b, off, rfl, hb, hcell⟩ := ha.2 (by omega)
  have hfr := Lib.hid (ha.frame hf)
  clear hcell
  go_enter Try.func104, Try.ntmps104
  go_wp2_with fail
  rw [show (f + 1) * 16 - f * 16 = 16 by omega]
  refine (l1Ints_calls (Lst.of_ints hfr.out (fun k hk => hk)) (by omega)).mono ?_
  rintro e w1 ⟨v, rfl, hown, hb1⟩
  have HOW := Lib.hid (hown.ownI (B := w.heap.size) (fun k hk => hk))
  clear hown
  go_wp2_with fail
  go_ret
  exact ⟨_, rfl, HOW.out, hb1⟩

end Go.Proofs.Ytoaeglhjaandmaa

/- Chapter 7, plain: words gathered from frames. -/
namespace Go.Proofs.Ytoaeglhjaandmaa

def tableArenaFault (F C : Int) (ts : List (List Int × Int)) (tn : Int) (fr ws : List Int) : Int :=
  if tableFault F C ts tn fr = 0 then (if arenaFault ws = 0 then (if (ws.length : Int) / 16 = F then 0 else 1) else arenaFault ws) else tableFault F C ts tn fr
theorem tableArenaFault_ok {F C : Int} {ts : List (List Int × Int)} {tn : Int} {fr ws : List Int} (h : tableArenaFault F C ts tn fr ws = 0) : tableFault F C ts tn fr = 0 ∧ arenaFault ws = 0 ∧ (ws.length : Int) = F * 16 := by
  unfold tableArenaFault at h
  split at h
  · rename_i h1
    split at h
    · rename_i h2
      split at h
      · rename_i h3
        have := arenaFault_ok h2
        exact ⟨h1, h2, by omega⟩
      · omega
    · rename_i h2; exact absurd h h2
  · rename_i h1; exact absurd h h1
/-- The words of one page. -/
def pageOf (ws : List Int) (f : Int) : List Int := if f = -1 then List.replicate 16 0 else frameOf ws f.toNat
def gatherTo (fr ws : List Int) (k : Nat) : List Int := ((List.range k).map fun i => pageOf ws (fr.getD i 0)).flatten
theorem gatherTo_zero (fr ws : List Int) : gatherTo fr ws 0 = [] := rfl
theorem gatherTo_succ (fr ws : List Int) (k : Nat) : gatherTo fr ws (k + 1) = gatherTo fr ws k ++ pageOf ws (fr.getD k 0) := by
  simp [gatherTo, List.range_succ]
/-- Every frame of the table is one of these words. -/
def InWs (fr ws : List Int) : Prop := ∀ k, k < fr.length → fr.getD k 0 = -1 ∨ (0 ≤ fr.getD k 0 ∧ (fr.getD k 0 + 1) * 16 ≤ (ws.length : Int))
theorem InWs.of {F C : Int} {ts : List (List Int × Int)} {tn : Int} {fr ws : List Int} (h : tableArenaFault F C ts tn fr ws = 0) : InWs fr ws := by
  obtain ⟨h1, h2, h3⟩ := tableArenaFault_ok h
  intro k hk
  by_cases hv : fr.getD k 0 = -1
  · exact .inl hv
  · obtain ⟨a, b, c⟩ := table_frame h1 hk hv
    exact .inr ⟨a, by omega⟩
theorem length_pageOf {fr ws : List Int} {k : Nat} (h : InWs fr ws) (hk : k < fr.length) : (pageOf ws (fr.getD k 0)).length = 16 := by
  unfold pageOf
  split
  · simp
  · rename_i hv
    rcases h k hk with h | ⟨h1, h2⟩
    · exact absurd h hv
    · exact length_frameOf (by omega)
theorem length_gatherTo {fr ws : List Int} (h : InWs fr ws) : ∀ {k : Nat}, k ≤ fr.length → (gatherTo fr ws k).length = 16 * k := by
  intro k
  induction k with
  | zero => intro _; rfl
  | succ k ih =>
    intro hk
    rw [gatherTo_succ, List.length_append, ih (by omega), length_pageOf h (by omega)]
    omega
def gatherWords (F C : Int) (ts : List (List Int × Int)) (tn : Int) (fr ws : List Int) : Int × List Int :=
  if tableArenaFault F C ts tn fr ws = 0 then (0, gatherTo fr ws fr.length) else (tableArenaFault F C ts tn fr ws, [])
theorem gatherWords_small (F C : Int) (ts : List (List Int × Int)) (tn : Int) (fr ws : List Int) : (gatherWords F C ts tn fr ws).2.length ≤ 640 := by
  unfold gatherWords
  split
  · rename_i h
    have h1 := (tableFault_ok (tableArenaFault_ok h).1).2.2.1
    show (gatherTo fr ws fr.length).length ≤ 640
    rw [length_gatherTo (InWs.of h) (Nat.le_refl _)]; omega
  · simp
/-- What the program lays: page by page. -/
def laid (ws : List Int) (n : Nat) (ps : List (Nat × Int)) : List Int := ps.foldl (fun o p => putFrame o p.1 (frameOf ws p.2.toNat)) (List.replicate n 0)
theorem laid_snoc (ws : List Int) (n : Nat) (ps : List (Nat × Int)) (p : Nat × Int) : laid ws n (ps ++ [p]) = putFrame (laid ws n ps) p.1 (frameOf ws p.2.toNat) := by simp [laid]
theorem laid_gather {fr ws : List Int} (h : InWs fr ws) : ∀ {k : Nat}, k ≤ fr.length → laid ws (fr.length * 16) (heldP fr k) = gatherTo fr ws k ++ List.replicate ((fr.length - k) * 16) 0 := by
  intro k
  induction k with
  | zero => intro _; simp [laid, heldP_zero, gatherTo_zero]
  | succ k ih =>
    intro hk
    have hg := length_gatherTo h (k := k) (by omega)
    have hp := length_pageOf h (k := k) (by omega)
    have hr : List.replicate ((fr.length - k) * 16) (0 : Int) = List.replicate 16 0 ++ List.replicate ((fr.length - (k + 1)) * 16) 0 := by
      rw [List.replicate_append_replicate]; congr 1; omega
    by_cases hv : fr.getD k 0 = -1
    · have hpz : pageOf ws (fr.getD k 0) = List.replicate 16 0 := by unfold pageOf; rw [if_pos hv]
      rw [heldP_no hv, ih (by omega), gatherTo_succ, hr, hpz, List.append_assoc]
    · have hpf : pageOf ws (fr.getD k 0) = frameOf ws (fr.getD k 0).toNat := by unfold pageOf; rw [if_neg hv]
      rw [heldP_yes hv, laid_snoc, ih (by omega), gatherTo_succ, hpf]
      rw [hpf] at hp
      have hd : (gatherTo fr ws k ++ List.replicate ((fr.length - k) * 16) 0).drop (k * 16 + 16) = List.replicate ((fr.length - (k + 1)) * 16) 0 := by
        rw [List.drop_append, List.drop_of_length_le (by omega), List.nil_append, List.drop_replicate]; congr 1; omega
      unfold putFrame splice
      simp only
      rw [List.take_append_of_le_length (by omega), List.take_of_length_le (by omega), hp, hd, List.append_assoc]
end Go.Proofs.Ytoaeglhjaandmaa

/- Chapter 7 of the model: words gathered from frames. -/
namespace Go.Proofs.Ytoaeglhjaandmaa
open Go.RowKit
set_option maxRecDepth 100000

set_option maxHeartbeats 2000000 in
theorem l7Asked_calls {ao ta wa : Option Addr} {pc pt n cc m tc wn wk : Nat} {F C tn : Int} {ts : List (List Int × Int)} {fr ws : List Int} {w : World} (hT : Tens w ao n ts) (hS : Short 17592186044416 ts) (hcc : n ≤ cc) (hn : n ≤ 17592186044416) (hf : Ints w ta m fr) (hm : m ≤ 17592186044416) (hmc : m ≤ tc) (hw : Ints w wa wn ws) (hwn : wn ≤ 17592186044416)
    (hcf : CfgAt w pc F C ao n cc) (hR : Row w pt 29 #[.int .i64 tn, .slice ta m tc]) :
    Calls Try.prog 78 #[.pointer (some ⟨pc, 0, none⟩), .pointer (some ⟨pt, 0, none⟩), .slice wa wn wk] w fun e w' => e = .returned (.int .i64 (tableArenaFault F C ts tn fr ws)) ∧ Below w.heap.size w w' := by
  obtain ⟨q, hq⟩ : ∃ q, tableFault F C ts tn fr = q := ⟨_, rfl⟩
  obtain ⟨r, hr⟩ : ∃ r, arenaFault ws = r := ⟨_, rfl⟩
  have HA := Lib.hid (show tableArenaFault F C ts tn fr ws = if q = 0 then (if r = 0 then (if (wn : Int) / 16 = F then 0 else 1) else r) else q by unfold tableArenaFault; rw [hq, hr, hw.1])
  have HRR := Lib.hid hr
  have HQQ := Lib.hid hq
  have HWL := Lib.hid hw.1
  have hcf' : Row w pc 26 #[.int .i64 F, .int .i64 C, .slice ao n cc] := hcf
  have c0 := hcf'.cell 0
  have c1 := hcf'.cell 1
  have c2 := hcf'.cell 2
  have cl := hcf'.lt
  have t0 := hR.cell 0
  have t1 := hR.cell 1
  have tl := hR.lt
  simp at c0 c1 c2 t0 t1
  have kD : Below w.heap.size w w.drew := (Below.refl _ w).drew
  have HTD := Lib.hid (hT.below kD)
  have HFD := Lib.hid (hf.below kD)
  have HWI := Lib.hid hw
  have HCF := Lib.hid hcf'
  clear hT hf hw hcf' hcf hR
  go_enter Try.func78, Try.ntmps78
  go_wp2_with fail
  go_region_law (go_simp; go_at_call 24; refine (sTableFault_calls HTD.out hS hcc hn HFD.out hm hmc).mono ?_; rw [HQQ.out]; rintro e w1 ⟨rfl, b1⟩; have hb1 : Below w.heap.size w w1 := kD.trans b1)
  all_goals
    have HB1 := Lib.hid hb1
    clear b1 hb1 c0 c1 c2 t0 t1 cl tl kD
    have HF := HA.out
    by_cases h : q = 0
    rotate_left
    · rw [if_neg h] at HF
      have HF := Lib.hid HF
      have hqb : (q != 0) = true := by simpa using h
      clear h
      go_wp2_with fail
      go_ret
      exact ⟨ret_int HF.out.symm, HB1.out⟩
    subst h
    simp only [if_true] at HF
    have h5 := configFault_ok (framesFor_ok (tableFault_ok HQQ.out).1).1
    have e1 : IntKind.i64.wrap (F * 16) = F * 16 := IntWalk.i64_in _ (by omega)
    clear h5
    have hwi := HWI.out.below HB1.out
    go_wp2_with fail
    refine (sArenaFault_calls hwi hwn).mono ?_
    rw [HRR.out]
    rintro e w2 ⟨rfl, rfl⟩
    have HB2 := Lib.hid HB1.out
    have c0 := (Row.below HCF.out HB2.out).cell 0
    have cl := (Row.below HCF.out HB2.out).lt
    simp at c0
    clear hwi
    by_cases h : r = 0
    rotate_left
    · rw [if_neg h] at HF
      have HF := Lib.hid HF
      have hqb : (r != 0) = true := by simpa using h
      clear h
      go_wp2_with fail
      go_ret
      exact ⟨ret_int HF.out.symm, HB2.out⟩
    subst h
    simp only [if_true] at HF
    have h16 := arenaFault_ok HRR.out
    have hl := HWL.out
    by_cases h : (wn : Int) / 16 = F
    · rw [if_pos h] at HF
      have HF := Lib.hid HF
      have hqb : ((wn : Int) != F * 16) = false := by simp; omega
      clear h h16 hl
      go_wp2_with fail
      go_ret
      exact ⟨ret_int HF.out.symm, HB2.out⟩
    · rw [if_neg h] at HF
      have HF := Lib.hid HF
      have hqb : ((wn : Int) != F * 16) = true := by simp; omega
      clear h h16 hl
      go_wp2_with fail
      go_ret
      exact ⟨ret_int HF.out.symm, HB2.out⟩

set_option maxHeartbeats 2000000 in
theorem l7Gather_calls {ta wa : Option Addr} {pt m tc wn wk : Nat} {tn : Int} {fr ws : List Int} {w : World} (hf : Ints w ta m fr) (hm : m ≤ 40) (hw : Ints w wa wn ws) (hwn : wn ≤ 17592186044416) (hwk : wn ≤ wk) (hR : Row w pt 29 #[.int .i64 tn, .slice ta m tc]) (hI : InWs fr ws) :
    Calls Try.prog 79 #[.pointer (some ⟨pt, 0, none⟩), .slice wa wn wk] w fun e w' => ∃ v n, e = .returned v ∧ Own KInt 2 w' (fun k => w.heap.size ≤ k) v n (gatherTo fr ws fr.length) ∧ Below w.heap.size w w' := by
  obtain ⟨ib, hib, hb0, hb1, hb2⟩ := info_parts info64
  have HL := Lib.hid hf.1
  have HWL := Lib.hid hw.1
  have HIn := Lib.hid hI
  clear hI
  go_enter Try.func79, Try.ntmps79
  go_wp2_with fail
  have hE0 : Own KInt 2 (w.alloc (.cells #[] 2)) (fun k => w.heap.size ≤ k) (.slice (some ⟨w.heap.size, 0, none⟩) 0 0) 0 (gatherTo fr ws 0) := Own.empty (heap_alloc_new w _) (Nat.le_refl _)
  have hB0 : Below w.heap.size w (w.alloc (.cells #[] 2)) := (Below.refl _ _).alloc (Nat.le_refl _) _
  go_loopw [5, 6] (fun v i wr => ∃ k : Nat, k ≤ m ∧ i = .int .i64 k ∧ Own KInt 2 wr (fun q => w.heap.size ≤ q) v (k * 16) (gatherTo fr ws k) ∧ Below w.heap.size w wr) (fun _ i _ => m - (intOf i).toNat)
  case atStart => exact ⟨0, Nat.zero_le _, rfl, hE0, hB0⟩
  case round =>
    clear hE0 hB0
    obtain ⟨k, hk, rfl, hO, hbw⟩ := hrel
    obtain ⟨vo, vc, rfl, _, _, _⟩ := hO.shape
    have hfw := hf.below hbw
    have hrw := Row.below hR hbw
    have t0 := hrw.cell 0
    have t1 := hrw.cell 1
    have tl := hrw.lt
    have hsw := hbw.size
    simp at t0 t1
    by_cases hlt : k < m
    · obtain ⟨b, off, rfl, hbb, hc⟩ := hfw.at_ hlt
      have hkl : k < fr.length := by have := HL.out; omega
      have hkm : (k : Int) < (m : Int) := by omega
      have HG := Lib.hid (gatherTo_succ fr ws k)
      have HPL := Lib.hid (length_pageOf HIn.out hkl)
      by_cases hv : fr.getD k 0 = -1
      · have HP : Hid (pageOf ws (fr.getD k 0) = List.replicate 16 0) := by show _ = _; unfold pageOf; rw [if_pos hv]
        rw [hv] at hc
        clear hv
        go_wp2_with (at_builtin; go_must (refine wpList_append_zerosI (k := 16) rfl _ _ rfl rfl hO rfl (by omega) (by omega) ?_); intro v1 w2 ho1 ht1)
        have F : Hid (Own KInt 2 w2 (fun q => w.heap.size ≤ q) v1 ((k + 1) * 16) (gatherTo fr ws (k + 1)) ∧ Below w.heap.size w w2) := by
          refine ⟨?_, Turn.below hbw ht1 hsw (fun q hq => hq)⟩
          rw [HG.out, HP.out, Nat.add_mul, Nat.one_mul]
          exact ho1.mono (fun q hq _ => by rcases hq with h | h <;> omega)
        clear ho1 ht1
        go_wp2_with fail
        go_roundw
        case rel => exact ⟨k + 1, by omega, by go_num, F.out.1, F.out.2⟩
        case measure => simp [intOf]; omega
      · have HP : Hid (pageOf ws (fr.getD k 0) = frameOf ws (fr.getD k 0).toNat) := by show _ = _; unfold pageOf; rw [if_neg hv]
        obtain ⟨y0, y1⟩ := (HIn.out k hkl).resolve_left hv
        obtain ⟨y, hy⟩ : ∃ y, y = fr.getD k 0 := ⟨_, rfl⟩
        rw [← hy] at hc y0 y1
        rw [← hy] at HP HPL HG
        have hyn : (y == -1) = false := by rw [hy]; simpa using hv
        clear hv hy
        obtain ⟨f, rfl⟩ : ∃ f : Nat, y = f := ⟨y.toNat, by omega⟩
        have HP2 : Hid (pageOf ws (f : Int) = frameOf ws f) := HP.out
        have hwl := HWL.out
        have hfb : (f + 1) * 16 ≤ wn := by omega
        have hww := hw.below hbw
        have HO := Lib.hid hO
        clear hO HP y0 y1 hwl
        go_wp2_with fail
        refine (l1Frame_calls hww hfb hwk hwn).mono ?_
        rintro e w2 ⟨u, rfl, ou, bu⟩
        obtain ⟨uo, uc, rfl, _, _, _⟩ := ou.shape
        have hO2 : Own KInt 2 w2 (fun q => w.heap.size ≤ q ∧ q < wr.heap.size) (.slice vo (k * 16) vc) (k * 16) (gatherTo fr ws k) := (HO.out.mono (S' := fun q => w.heap.size ≤ q ∧ q < wr.heap.size) (fun q hq hl => ⟨hq, hl⟩)).turn (Turn.of_below (T := fun _ => False) bu) (fun _ _ _ h => h)
        have hL2 : Lst KInt w2 (fun q => q < w2.heap.size) uo 16 (frameOf ws f) := Lst.of_ints ou.ints (fun q hq => hq)
        have hs2 := bu.size
        go_wp2_with (
          at_builtin
          go_must (refine wpList_append_flat (K := KInt) rfl _ _ 27 rfl 2 ib (.int .i64 0) 8 Try.underlying27 hib hb0 hb1 hb2 rfl (by decide) flat_int one_int rfl hO2 rfl hL2 (by unfold maxLen; omega) (by omega) ?_)
          intro v1 w3 ho1 ht1)
        have F : Hid (Own KInt 2 w3 (fun q => w.heap.size ≤ q) v1 ((k + 1) * 16) (gatherTo fr ws (k + 1)) ∧ Below w.heap.size w w3) := by
          refine ⟨?_, Turn.below (hbw.trans (bu.mono hsw)) ht1 (by omega) (fun q hq => hq.1)⟩
          rw [HG.out, HP2.out, Nat.add_mul, Nat.one_mul]
          exact ho1.mono (fun q hq _ => by rcases hq with h | h <;> omega)
        clear ho1 ht1 ou bu hO2 hL2
        go_wp2_with fail
        go_roundw
        case rel => exact ⟨k + 1, by omega, by go_num, F.out.1, F.out.2⟩
        case measure => simp [intOf]; omega
    · obtain rfl : k = m := by omega
      have F := Lib.hid (And.intro hO hbw)
      clear hO hbw
      go_wp2_with fail
      go_ret
      exact ⟨_, _, rfl, by rw [HL.out]; exact F.out.1, F.out.2⟩

set_option maxHeartbeats 1000000 in
theorem sGatherWords_calls {ao ta wa : Option Addr} {n cc m tc wn wk : Nat} {F C tn : Int} {ts : List (List Int × Int)} {fr ws : List Int} {w : World} (hT : Tens w ao n ts) (hS : Short 17592186044416 ts) (hcc : n ≤ cc) (hn : n ≤ 17592186044416) (hf : Ints w ta m fr) (hm : m ≤ 17592186044416) (hmc : m ≤ tc) (hw : Ints w wa wn ws) (hwn : wn ≤ 17592186044416) (hwk : wn ≤ wk) :
    Calls Try.prog 38 #[.agg #[.int .i64 F, .int .i64 C, .slice ao n cc], .agg #[.int .i64 tn, .slice ta m tc], .slice wa wn wk] w (RetsInts w (gatherWords F C ts tn fr ws)) := by
  have HL := Lib.hid hf.1
  obtain ⟨q, hq⟩ : ∃ q, tableArenaFault F C ts tn fr ws = q := ⟨_, rfl⟩
  have HA := Lib.hid (show gatherWords F C ts tn fr ws = if q = 0 then (0, gatherTo fr ws fr.length) else (q, []) by unfold gatherWords; rw [hq])
  have HQ := Lib.hid hq
  have hb3 : Below w.heap.size w (((w.alloc (.cells #[.int .i64 F, .int .i64 C, .slice ao n cc] 26)).alloc (.cells #[.int .i64 tn, .slice ta m tc] 29)).alloc (.cells #[.int .i64 0, .slice none 0 0] 60)) := (((Below.refl _ _).alloc (Nat.le_refl _) _).alloc (by simp) _).alloc (by simp; omega) _
  obtain ⟨V, hV⟩ : ∃ V, ((w.alloc (.cells #[.int .i64 F, .int .i64 C, .slice ao n cc] 26)).alloc (.cells #[.int .i64 tn, .slice ta m tc] 29)).alloc (.cells #[.int .i64 0, .slice none 0 0] 60) = V := ⟨_, rfl⟩
  have hVV := Below.refl V.heap.size V
  obtain ⟨h0, h1, h2, hb, hs⟩ := three_new (w := w) (w1 := V) (by rw [hV]; exact hVV)
  have HR0 : Hid (CfgAt V w.heap.size F C ao n cc) := h0
  have HR1 : Hid (Row V (w.heap.size + 1) 29 #[.int .i64 tn, .slice ta m tc]) := h1
  have HR2 : Hid (Row V (w.heap.size + 2) 60 #[.int .i64 0, .slice none 0 0]) := h2
  have HTV := Lib.hid (hT.below hb)
  have HFV := Lib.hid (hf.below hb)
  have HWV := Lib.hid (hw.below hb)
  have HB := Lib.hid hb
  clear h0 h1 h2 hb hVV hb3 hq hT hf hw
  go_enter Try.func38, Try.ntmps38
  go_wp2_with fail
  refine (l7Asked_calls HTV.out hS hcc hn HFV.out hm hmc HWV.out hwn HR0.out HR1.out).mono ?_
  rw [HQ.out]
  rintro e w1 ⟨rfl, hb1⟩
  have r2 := Row.below HR2.out hb1
  have HB1 := Lib.hid (HB.out.trans (hb1.mono HB.out.size))
  have HR1' := Lib.hid (Row.below HR1.out hb1)
  have HF1 := Lib.hid (HFV.out.below hb1)
  have HW1 := Lib.hid (HWV.out.below hb1)
  have hs1 := hb1.size
  clear hb1 hV
  by_cases h : q = 0
  rotate_left
  · have HF := HA.out
    rw [if_neg h] at HF
    have HF := Lib.hid HF
    have hqb : (q != 0) = true := by simpa using h
    clear HA h
    go_wp2_with (refine wpList_store_row rfl 60 _ _ rfl (w.heap.size + 2) _ rfl rfl _ _ r2 (by kernel_rfl) (by rfl) (by simp [Value.oneCell']) ?_)
    refine bodyPost_ret (results_cell_row rfl _ _ (w.heap.size + 2) _ _ _ _ rfl (setRow_heap _ _ _ _ _ _ r2) Try.underlying60 rfl (by kernel_rfl)) rfl ?_
    exact rets_done HB1.out (by omega) (OwnI.nil _ (w.heap.size + 3)) (by omega) _ HF.out
  · subst h
    have HF := HA.out
    simp only [if_true] at HF
    have HF := Lib.hid HF
    clear HA
    have hm40 : m ≤ 40 := by have := (tableFault_ok (tableArenaFault_ok HQ.out).1).2.2.1; have := HL.out; omega
    go_wp2_with fail
    refine (l7Gather_calls HF1.out hm40 HW1.out hwn hwk HR1'.out (InWs.of HQ.out)).mono ?_
    rintro e w2 ⟨v, k, rfl, ov, hb2⟩
    obtain ⟨vo, vc, rfl, _, _, _⟩ := ov.shape
    have r3 := Row.below r2 hb2
    have HO := Lib.hid (And.intro (ov.ownI (B := w1.heap.size) (fun q hq => hq)) (HB1.out.trans (hb2.mono HB1.out.size)))
    clear ov hb2
    go_wp2_with (refine wpList_store_row rfl 60 _ _ rfl (w.heap.size + 2) _ rfl rfl _ _ r3 (by kernel_rfl) (by rfl) (by simp [Value.oneCell']) ?_)
    refine bodyPost_ret (results_cell_row rfl _ _ (w.heap.size + 2) _ _ _ _ rfl (setRow_heap _ _ _ _ _ _ r3) Try.underlying60 rfl (by kernel_rfl)) rfl ?_
    exact rets_done HO.out.2 (by omega) HO.out.1 (by omega) _ HF.out
end Go.Proofs.Ytoaeglhjaandmaa

/- Chapter 7 of the program: words are laid in a frame of one's own list. -/
namespace Go.Proofs.Ytoaeglhjaandmaa
open Go.RowKit
set_option maxRecDepth 100000

section
variable {P : Program} {ops : Array Oper} {o : Oper} {a : Act} {w : World} {K : Act → World → Prop} {Q : Exit → Act → World → Prop} {E : Prop} {S : Nat → Prop}
theorem step_copy_from (hgd : o.guard = none) (d s : Operand) (dT sT : TypeId) (ho : o.op = .call { callee := .builtin .copy, args := #[d, s], argTypes := #[dT, sT] }) (e : TypeId) (hu : P.underlying dT = some (.slice e)) (hsz : (P.info? e).map (·.size) = some 1)
    {n cap off g dLen dCap sLen sCap : Nat} {sa : Addr} {xs ys : List Int} (hd : a.eval d = .slice (some ⟨g, off, none⟩) dLen dCap) (hs : a.eval s = .slice (some sa) sLen sCap) (hown : Own KInt e w S (.slice (some ⟨g, 0, none⟩) n cap) n xs) (hyl : ys.length = sLen)
    (hsrc : ∀ j v, (ys.map (Value.int .i64))[j]? = some v → w.cell? (sa.add j) = some v) (hdl : sLen ≤ dLen) (hm : off + sLen ≤ n)
    (h : ∀ w', Own KInt e w' S (.slice (some ⟨g, 0, none⟩) n cap) n (splice xs off ys) → Turn S w w' → K (a.put o.dst (goInt sLen)) w') : if Region.wanted o (yielded ops a.tmps) = true then Oper.wp P o a w K Q else E := by
  have hw : Region.wanted o (yielded ops a.tmps) = true := by simp [Region.wanted, hgd]
  rw [if_pos hw]
  have hxl := hown.1
  obtain ⟨hg, cur, hr, h1, h2, h3, h4⟩ := hown.rowI
  have hcl : cur.toList.length = cap := by rw [Array.length_toList, h3, Nat.mul_one]
  have hrun := run_copy_row (P := P) w dT sT o.type e g off dLen dCap sa sLen sCap cur e (ys.map (Value.int .i64)) hu hsz hr (by rw [List.length_map, hyl]; exact (Nat.min_eq_left hdl).symm) hsrc (by rw [List.length_map, hyl, ← Array.length_toList, hcl]; omega) (fun v hv => by
    obtain ⟨z, _, rfl⟩ := List.mem_map.1 hv
    rfl)
  have h5 := ownI_splice (S := S) (ys := ys) (off := off) hg hr h1 h2 h3 h4 hxl (by omega)
  have hlen : (ys.map (Value.int .i64)).length = sLen := by rw [List.length_map, hyl]
  rw [hlen] at hrun h5
  unfold Oper.wp execOp
  simp only [ho, resolve, invoke, builtin, Sem.run_bind, Sem.run_pure, Result.andThen_ok, List.map_toArray, List.map_cons, List.map_nil, hd, hs, hrun]
  exact h _ h5.1 h5.2
end

set_option maxHeartbeats 1000000 in
theorem layFrame_calls {g cap n f : Nat} {xs page : List Int} {S : Nat → Prop} {w : World} (ho : Own KInt 2 w S (.slice (some ⟨g, 0, none⟩) n cap) n xs) (hS : S w.heap.size → False) (hf : (f + 1) * 16 ≤ n) (hp : page.length = 16) (hx : n ≤ 17592186044416) :
    Calls Try.prog 81 #[.slice (some ⟨g, 0, none⟩) n cap, .int .i64 (f : Int), .agg ((page.map (Value.int .i64)).toArray)] w fun e w' =>
      e = .returned (.tuple #[]) ∧ Own KInt 2 w' S (.slice (some ⟨g, 0, none⟩) n cap) n (putFrame xs f page) ∧ Turn S w w' := by
  obtain ⟨cs, hcs⟩ : ∃ cs, cs = (page.map (Value.int .i64)).toArray := ⟨_, rfl⟩
  have HCS := Lib.hid hcs
  obtain ⟨W, hW⟩ : ∃ W, w.alloc (.cells cs 106) = W := ⟨_, rfl⟩
  have hbW : Below w.heap.size w W := by rw [← hW]; exact (Below.refl _ _).alloc (Nat.le_refl _) _
  have hsrc : Row W w.heap.size 106 cs := by rw [← hW]; exact heap_alloc_new _ _
  have hoW : Own KInt 2 W S (.slice (some ⟨g, 0, none⟩) n cap) n xs := ho.turn (Turn.of_below (T := fun _ => False) hbW) (fun _ _ _ h => h)
  have HOW := Lib.hid hoW
  have HBW := Lib.hid hbW
  have HSRC : Hid (∀ j v, (page.map (Value.int .i64))[j]? = some v → W.drew.cell? ((⟨w.heap.size, 0, none⟩ : Addr).add j) = some v) := by
    intro j v hv
    rw [Addr.add_mid, Nat.zero_add]
    have := hsrc.cell j
    rw [HCS.out] at this
    have e : W.drew.cell? ⟨w.heap.size, j, none⟩ = W.cell? ⟨w.heap.size, j, none⟩ := rfl
    rw [e, this]
    simpa using hv
  have hnc : n ≤ cap := by obtain ⟨_, _, _, h1, _⟩ := ho.rowI; exact h1
  have hcm : cap ≤ maxLen := by obtain ⟨_, _, _, _, h1, _⟩ := ho.rowI; exact h1
  rw [← hcs]
  clear hcs hsrc hoW hbW ho
  have q1 : IntKind.i64.wrap ((f : Int) * 16) = (f : Int) * 16 := IntWalk.i64_in _ (by omega)
  have q2 : 0 ≤ (f : Int) * 16 := by omega
  have q3 : ((f : Int) * 16).toNat = f * 16 := by omega
  have q4 : (f : Int) * 16 ≤ n := by omega
  have q5 : ¬ cap = f * 16 := by omega
  go_enter Try.func81, Try.ntmps81
  go_wp2_with fail
  go_region_law (refine step_copy_from rfl (.tmp 9) (.tmp 10) 27 27 rfl 2 Try.underlying27 (by kernel_rfl) (off := f * 16) (sLen := 16) (dLen := n - f * 16) (sa := ⟨w.heap.size, 0, none⟩) (g := g) rfl rfl (HOW.out.turn (Turn.of_below (T := fun _ => False) (Below.refl W.heap.size W).drew) (fun _ _ _ h => h)) (ys := page) hp HSRC.out (by omega) (by omega) ?_; intro w4 ho4 ht4)
  all_goals
    have H4 := Lib.hid (And.intro ho4 ((Turn.of_below (T := S) HBW.out).trans ((Turn.of_below (T := S) (Below.refl W.heap.size W).drew).trans ht4 (fun k hk _ => hk)) (fun k hk _ => hk)))
    clear ho4 ht4
    go_wp2
    go_end0
    exact ⟨rfl, H4.out.1, H4.out.2⟩
end Go.Proofs.Ytoaeglhjaandmaa

/- Chapter 7 of the program: words are gathered. -/
namespace Go.Proofs.Ytoaeglhjaandmaa
open Go.RowKit Go.Shelf
set_option maxRecDepth 100000

attribute [local go_sem] Oper.semAt_some

theorem framesIn_calls {a : Option Addr} {n c j : Nat} {w : World} (hd : Int.tdiv (n : Int) 16 = (j : Int)) (hj : j ≤ 17592186044416) :
    Calls Try.prog 106 #[.slice a n c] w fun e w' => e = .returned (.int .i64 (j : Int)) ∧ w = w' := by
  go_enter Try.func106, Try.ntmps106
  have q0 : IntKind.i64.wrap (j : Int) = (j : Int) := IntWalk.i64_in _ (by omega)
  go_wp2
  go_ret
  exact ⟨rfl, rfl⟩

set_option maxHeartbeats 1000000 in
theorem tableArenaFault_calls {ao ta wa : Option Addr} {n cc m tc wn wk : Nat} {F C tn : Int} {ts : List (List Int × Int)} {fr ws : List Int} {w : World} (hT : Tens w ao n ts) (hS : Short 17592186044416 ts) (hcc : n ≤ cc) (hn : n ≤ 17592186044416) (hf : Ints w ta m fr) (hm : m ≤ 17592186044416) (hw : Ints w wa wn ws) (hwn : wn ≤ 17592186044416) :
    Calls Try.prog 80 #[.agg #[.int .i64 F, .int .i64 C, .slice ao n cc], .agg #[.int .i64 tn, .slice ta m tc], .slice wa wn wk] w fun e w' => e = .returned (.int .i64 (tableArenaFault F C ts tn fr ws)) ∧ Below w.heap.size w w' := by
  have HL := Lib.hid hw.1
  obtain ⟨q, hq⟩ : ∃ q, tableFault F C ts tn fr = q := ⟨_, rfl⟩
  obtain ⟨r, hr⟩ : ∃ r, arenaFault ws = r := ⟨_, rfl⟩
  have HA := Lib.hid (show tableArenaFault F C ts tn fr ws = if q = 0 then (if r = 0 then (if (wn : Int) / 16 = F then 0 else 1) else r) else q by unfold tableArenaFault; rw [hq, hr, hw.1])
  go_enter Try.func80, Try.ntmps80
  go_wp2_with fail
  refine (tableFault_calls ((hT.alloc _).alloc _) hS hcc hn ((hf.alloc _).alloc _) hm).mono ?_
  rw [hq]
  rintro e w1 ⟨rfl, hb1⟩
  have hw1 := ((hw.alloc _).alloc _).below hb1
  obtain ⟨h0, h1, hb, hs⟩ := two_new hb1
  have HR0 := Lib.hid h0
  have HB := Lib.hid hb
  clear hb1 hq h0 h1 hb
  by_cases h : q = 0
  rotate_left
  · have HF := HA.out
    rw [if_neg h] at HF
    have HF := Lib.hid HF
    have hqb : (q != 0) = true := by simpa using h
    clear HA h
    go_wp2_with fail
    go_ret
    exact ⟨ret_int HF.out.symm, HB.out⟩
  subst h
  have HF := HA.out
  simp only [if_true] at HF
  clear HA
  go_wp2_with fail
  refine (arenaFault_calls hw1 hwn).mono ?_
  rw [hr]
  rintro e w2 ⟨rfl, hb2⟩
  have HR := Lib.hid hr
  have hR0 := Row.below HR0.out hb2
  have HB2 := Lib.hid (HB.out.trans (hb2.mono HB.out.size))
  have c0 := Row.cell hR0 0
  have cl := Row.lt hR0
  simp at c0
  clear hb2 hw1 hR0 hr
  by_cases h : r = 0
  rotate_left
  · rw [if_neg h] at HF
    have HF := Lib.hid HF
    have hqb : (r != 0) = true := by simpa using h
    clear h
    go_wp2_with fail
    go_ret
    exact ⟨ret_int HF.out.symm, HB2.out⟩
  subst h
  have h16 := arenaFault_ok HR.out
  obtain ⟨j, hj⟩ : ∃ j : Nat, j = wn / 16 := ⟨_, rfl⟩
  have hj2 : (wn : Int) / 16 = (j : Int) := by omega
  have d1 : Int.tdiv (wn : Int) 16 = (j : Int) := by rw [Int.tdiv_eq_ediv_of_nonneg (by omega)]; exact hj2
  have hjb : j ≤ 17592186044416 := by omega
  rw [hj2] at HF
  simp only [if_true] at HF
  clear hj hj2 h16
  by_cases h : (j : Int) = F
  · rw [if_pos h] at HF
    have HF := Lib.hid HF
    have hqb : ((j : Int) != F) = false := by simpa using h
    clear h
    go_wp2_with (go_quiet ((go_at_call 106; go_must (refine (framesIn_calls d1 hjb).mono ?_); rintro e w' ⟨rfl, rfl⟩; exact ⟨rfl, _, rfl⟩)))
    go_ret
    exact ⟨ret_int HF.out.symm, below_drewN HB2.out _⟩
  · rw [if_neg h] at HF
    have HF := Lib.hid HF
    have hqb : ((j : Int) != F) = true := by simpa using h
    clear h
    go_wp2_with (go_quiet ((go_at_call 106; go_must (refine (framesIn_calls d1 hjb).mono ?_); rintro e w' ⟨rfl, rfl⟩; exact ⟨rfl, _, rfl⟩)))
    go_ret
    exact ⟨ret_int HF.out.symm, below_drewN HB2.out _⟩
end Go.Proofs.Ytoaeglhjaandmaa

/- copy(new, old), the elements of any number of cells: what the old ones own goes over to the new slice. A make as an equation. -/
namespace Go.Proofs.Ytoaeglhjaandmaa
open Go.RowKit

/-- Of a list the first n; where it has not so many, others behind it. -/
def fitTo {α : Type} (d : α) (xs : List α) (n : Nat) : List α := xs.take n ++ List.replicate (n - xs.length) d
theorem length_fitTo {α : Type} (d : α) (xs : List α) (n : Nat) : (fitTo d xs n).length = n := by simp [fitTo]; omega
theorem fitTo_at {α : Type} {d : α} {xs : List α} {n j : Nat} (hj : j < n) : (fitTo d xs n)[j]? = if j < xs.length then xs[j]? else some d := by
  unfold fitTo
  by_cases h : j < xs.length
  · rw [if_pos h, List.getElem?_append_left (by simp; omega), List.getElem?_take, if_pos hj]
  · rw [if_neg h, List.getElem?_append_right (by simp; omega), List.getElem?_replicate, if_pos (by simp; omega)]

/-- Cells of a row that was made: n times the same. -/
def ZeroRow (zs : List Value) (m : Nat) (cur : Array Value) : Prop := cur.size = m * zs.length ∧ ∀ j i, j < m → i < zs.length → cur[j * zs.length + i]? = zs[i]?
theorem zero_made (z : Array Value) (m : Nat) : ZeroRow z.toList m (madeCells z (m * z.size)) := by
  refine ⟨by simp [size_madeCells], fun j i hj hi => ?_⟩
  have hi' : i < z.size := by simpa using hi
  have h1 := Nat.mul_le_mul_right z.size (show j + 1 ≤ m by omega)
  rw [Nat.add_mul] at h1
  have h2 : (j * z.size + i) % z.size = i := by rw [Nat.mul_comm, Nat.mul_add_mod, Nat.mod_eq_of_lt hi']
  simp only [Array.length_toList]
  simp [madeCells, h2, show j * z.size + i < m * z.size by omega, hi']

section
variable {P : Program} {α : Type} {K : Lay α} {w : World} {S : Nat → Prop} {ops : Array Oper} {rest : List Oper} {o : Oper} {a : Act} {Q : Exit → Act → World → Prop}
theorem wpList_copy_fit (hgd : o.guard = none) (s x : Operand) (t : TypeId) (ho : o.op = .call { callee := .builtin .copy, args := #[s, x], argTypes := #[t, t] })
    (e : TypeId) (ht : P.underlying t = some (.slice e)) (hi : (P.info? e).map (·.size) = some K.sz) (hone : OneC K)
    {n c m g : Nat} {xs : List α} {ao : Option Addr} {cur : Array Value} {zs : List Value} {d : α} (hs : a.eval s = .slice (some ⟨g, 0, none⟩) m m) (hx : a.eval x = .slice ao n c) (hown : Own K e w S (.slice ao n c) n xs)
    (hr : Row w g e cur) (hz : ZeroRow zs m cur) (hzl : zs.length = K.sz) (hd : ∀ w, K.own w (fun _ => False) zs d) (hg : ¬ S g) (hm : m ≤ maxLen)
    (h : ∀ w', Own K e w' (fun k => S k ∨ k = g) (.slice (some ⟨g, 0, none⟩) m m) m (fitTo d xs m) → Turn (fun k => k = g) w w' → wpList P ops Q rest (a.put o.dst (goInt (Nat.min n m))) w') : wpList P ops Q (o :: rest) a w := by
  have hxl := hown.1
  obtain ⟨_, _, _, hlst⟩ := hown.lst
  obtain ⟨news, hnl, hnc, hne⟩ := hlst.news
  have hone' : ∀ u ∈ news, u.oneCell' = true := by
    intro u hu
    obtain ⟨q, hq, rfl⟩ := List.getElem_of_mem hu
    have hsz : 0 < K.sz := Nat.pos_of_ne_zero (fun e => by rw [e] at hnl; omega)
    have hqm : q / K.sz < n := Nat.div_lt_of_lt_mul (by rw [Nat.mul_comm]; omega)
    obtain ⟨cs, hcl, hcs, hrd⟩ := hne (q / K.sz) (xs[q / K.sz]'(by omega)) (List.getElem?_eq_getElem _)
    have h1 := hcs (q % K.sz) (Nat.mod_lt _ hsz)
    rw [Nat.mul_comm, Nat.div_add_mod, List.getElem?_eq_getElem hq] at h1
    exact hone _ _ _ _ hrd _ (List.mem_of_getElem? h1.symm)
  obtain ⟨hzs, hzc⟩ := hz
  rw [hzl] at hzs hzc
  obtain ⟨cs, hcs⟩ : ∃ cs, cs = news.take (Nat.min n m * K.sz) := ⟨_, rfl⟩
  have hle : Nat.min n m * K.sz ≤ n * K.sz := Nat.mul_le_mul_right _ (Nat.min_le_left _ _)
  have hle2 : Nat.min n m * K.sz ≤ m * K.sz := Nat.mul_le_mul_right _ (Nat.min_le_right _ _)
  have hcl : cs.length = Nat.min n m * K.sz := by rw [hcs, List.length_take, hnl, Nat.min_eq_left hle]
  have hfirst : (Builtin.firstCells K.sz (Nat.min n m) (.slice ao n c)).run P w = .ok cs.toArray w := by
    cases ao with
    | none =>
      have hn : n = 0 := by
        rcases Nat.eq_zero_or_pos n with h0 | h0
        · exact h0
        · obtain ⟨_, _, h, _⟩ := hnc h0; cases h
      have : cs = [] := List.eq_nil_of_length_eq_zero (by rw [hcl, hn]; simp)
      rw [this]; exact Go.run_firstCells_none (P := P) (w := w) _ _ _ _
    | some ad =>
      refine Go.run_firstCells_some (P := P) (w := w) K.sz (Nat.min n m) ad n c cs hcl (fun j u hu => ?_)
      have hjl : j < cs.length := (List.getElem?_eq_some_iff.1 hu).1
      rcases Nat.eq_zero_or_pos n with h0 | h0
      · exfalso; rw [hcl, h0] at hjl; simp at hjl
      · obtain ⟨b, off, he, hc'⟩ := hnc h0
        injection he with he; subst he
        rw [add_plain']
        refine hc' j u ?_
        rw [hcs, List.getElem?_take, if_pos (by omega)] at hu
        exact hu
  have hstore := run_storeCells_at (P := P) g 0 e cs 0 cur w hr (by omega) (fun u hu => hone' u (by rw [hcs] at hu; exact List.mem_of_mem_take hu))
  simp only [Nat.add_zero, Nat.zero_add, List.take_zero, List.nil_append] at hstore
  obtain ⟨i, hi1, hi2⟩ := Option.map_eq_some_iff.1 hi
  have hsz : (Go.sizeOf e).run P w = .ok K.sz w := by simp [Go.sizeOf, typeInfo, hi1, hi2]
  have hrun : (Builtin.copy_ #[t, t] o.type #[.slice (some ⟨g, 0, none⟩) m m, .slice ao n c]).run P w = .ok (goInt (Nat.min n m)) (w.setRow g (cs ++ cur.toList.drop cs.length).toArray) := by
    simp only [Builtin.copy_, run_underlying ht, Sem.run_bind, Sem.run_pure, Result.andThen_ok, List.getElem?_toArray, List.getElem?_cons_zero, List.getElem?_cons_succ, hsz, Builtin.lenOf, hfirst, hstore]
  refine wpList_plain hgd fun K' hK' => ?_
  unfold Oper.wp execOp
  simp only [ho, resolve, invoke, builtin, Sem.run_bind, Sem.run_pure, Result.andThen_ok, List.map_toArray, List.map_cons, List.map_nil, hs, hx, hrun]
  refine hK' _ _ (h _ ?_ (Turn.setRow w g _))
  have hcur : (cs ++ cur.toList.drop cs.length).length = m * K.sz := by
    have h1 : cur.toList.length = m * K.sz := by rw [Array.length_toList, hzs]
    rw [List.length_append, List.length_drop, h1, hcl]; omega
  have hdrop : ∀ q, cs.length ≤ q → (cs ++ cur.toList.drop cs.length)[q]? = cur[q]? := fun q hq => by
    rw [List.getElem?_append_right hq, List.getElem?_drop, Array.getElem?_toList]; congr 1; omega
  have hrow' : Row (w.setRow g (cs ++ cur.toList.drop cs.length).toArray) g e (cs ++ cur.toList.drop cs.length).toArray := setRow_heap w g cur _ e _ hr
  have key : ∃ F : Nat → Nat → Prop, (∀ j k, F j k → S k) ∧ (∀ i j k, F i k → F j k → i = j) ∧ ∀ j x, xs[j]? = some x → ∃ c1, c1.length = K.sz ∧ (∀ i, i < K.sz → news[j * K.sz + i]? = c1[i]?) ∧ K.own w (F j) c1 x := by
    rcases hown.2 with ⟨h1, h2⟩ | ⟨g', cap, cu, F, hv, hgS, hr', h1, h2, h3, hF, hD, hc⟩
    · refine ⟨fun _ _ => False, fun _ _ h => h.elim, fun _ _ _ h => h.elim, fun j x hj => ?_⟩
      have := (List.getElem?_eq_some_iff.1 hj).1; omega
    · refine ⟨F, fun j k hk => (hF j k hk).1, hD, fun j x hj => ?_⟩
      obtain ⟨c1, hc1, hc2, hc3⟩ := hc j x hj
      refine ⟨c1, hc1, fun i hi => ?_, hc3⟩
      have hjl := (List.getElem?_eq_some_iff.1 hj).1
      obtain ⟨b, off, he, hc'⟩ := hnc (by omega)
      injection hv with hv1 hv2 hv3
      rw [he] at hv1; injection hv1 with hv1; injection hv1 with e1 e2; subst e1 e2
      have hmul := Nat.mul_le_mul_right K.sz (show j + 1 ≤ n by omega)
      rw [Nat.add_mul] at hmul
      obtain ⟨u, hu⟩ : ∃ u, news[j * K.sz + i]? = some u := ⟨_, List.getElem?_eq_getElem (by omega)⟩
      have h5 := hc' _ u hu
      rw [Nat.zero_add, hr'.cell] at h5
      rw [hu, ← h5]; exact hc2 i hi
  obtain ⟨F, hF, hD, hFc⟩ := key
  refine ⟨length_fitTo _ _ _, .inr ⟨g, m, _, fun j k => j < n ∧ F j k, rfl, .inr rfl, hrow', Nat.le_refl _, hm, by simpa using hcur, fun j k hk => ⟨.inl (hF j k hk.2), fun e => hg (e ▸ hF j k hk.2)⟩, fun i j k hi hj => hD i j k hi.2 hj.2, fun j y hj => ?_⟩⟩
  have hjm : j < m := by have := (List.getElem?_eq_some_iff.1 hj).1; rwa [length_fitTo] at this
  rw [fitTo_at hjm] at hj
  have hmulm := Nat.mul_le_mul_right K.sz (show j + 1 ≤ m by omega)
  rw [Nat.add_mul] at hmulm
  by_cases hjn : j < xs.length
  · rw [if_pos hjn] at hj
    obtain ⟨c1, hc1, hc2, hc3⟩ := hFc j y hj
    have hmul := Nat.mul_le_mul_right K.sz (show j + 1 ≤ Nat.min n m from Nat.le_min.2 ⟨by omega, by omega⟩)
    rw [Nat.add_mul] at hmul
    refine ⟨c1, hc1, fun i hi => ?_, K.own_turn (K.own_mono hc3 (S' := fun k => j < n ∧ F j k) (fun k hk _ => ⟨by omega, hk⟩)) (Turn.setRow w g _) (fun k hk _ e => hg (e ▸ hF j k hk.2))⟩
    rw [List.getElem?_toArray, List.getElem?_append_left (by omega), hcs, List.getElem?_take, if_pos (by omega)]
    exact hc2 i hi
  · rw [if_neg hjn] at hj
    injection hj with hj; subst hj
    have hmin : Nat.min n m = n := Nat.min_eq_left (by omega)
    have hmul := Nat.mul_le_mul_right K.sz (show n ≤ j by omega)
    refine ⟨zs, hzl, fun i hi => ?_, K.own_mono (hd _) (fun _ h _ => h.elim)⟩
    rw [List.getElem?_toArray, hdrop _ (by rw [hcl, hmin]; omega)]
    exact hzc j i hjm hi
end

/-- make([]E, n), as an equation: the walk and a region that draws take it. -/
theorem make_eq {P : Program} {t e : TypeId} {i : TypeInfo} {z : Value} {k : Nat} (ht : P.underlying t = some (.slice e)) (hi : P.info? e = some i) (hz : i.zero = some z) (hsize : i.size = k) (hk : z.cells.size = k) (n : Nat) (hb : i.bytes * n ≤ 281474976710656) (h63 : n ≤ 9223372036854775807) :
    ∃ cur, ZeroRow z.cells.toList n cur ∧ ∀ w : World, (Instr.makeSlice t (.int .i64 (n : Int)) (.int .i64 (n : Int))).run P w = .ok (.slice (some ⟨w.heap.size, 0, none⟩) n n) (w.alloc (.cells cur e)) := by
  refine ⟨madeCells z.cells (n * i.size), by rw [hsize, ← hk]; exact zero_made _ _, fun w => ?_⟩
  have := run_make (P := P) (w := w) t e i z ht hi hz .i64 .i64 n n (by omega) (Int.le_refl _) (by rw [← Int.natCast_mul]; omega) (by omega)
  simpa using this
end Go.Proofs.Ytoaeglhjaandmaa

/- Chapter 4 of the model: runs that are found and taken; pages that are counted; how great a block is. -/
namespace Go.Proofs.Ytoaeglhjaandmaa
open Go.RowKit

/-- The first run of n free pages, or -1. -/
def runAt (n : Nat) (ps : List Pg) : Int := match runFrom n 0 ps with
  | some i => (i : Int)
  | none => -1
theorem freeN_snoc : ∀ {f : Nat} {ps : List Pg} {p : Pg}, freeN f ps = true → ps[f]? = some p → p.kind = 0 → freeN (f + 1) ps = true
  | 0, [], p, _, h, _ => by simp at h
  | 0, q :: r, p, _, h, h0 => by simp at h; subst h; simp [freeN, h0]
  | f + 1, [], p, _, h, _ => by simp at h
  | f + 1, q :: r, p, h1, h, h0 => by
    rw [freeN] at h1 ⊢
    simp only [Bool.and_eq_true] at h1 ⊢
    exact ⟨h1.1, freeN_snoc h1.2 (by simpa using h) h0⟩
theorem freeN_no : ∀ {n f : Nat} {ps : List Pg} {p : Pg}, f < n → ps[f]? = some p → p.kind ≠ 0 → freeN n ps = false
  | 0, f, ps, p, h, _, _ => by omega
  | n + 1, f, [], p, _, h, _ => by simp at h
  | n + 1, 0, q :: r, p, _, h, h0 => by simp at h; subst h; simp [freeN, h0]
  | n + 1, f + 1, q :: r, p, hf, h, h0 => by
    rw [freeN, freeN_no (n := n) (f := f) (by omega) (by simpa using h) h0]; simp
theorem freeN_short : ∀ {n : Nat} {ps : List Pg}, ps.length < n → freeN n ps = false
  | 0, ps, h => by omega
  | n + 1, [], _ => rfl
  | n + 1, q :: r, h => by rw [freeN, freeN_short (n := n) (by simpa using h)]; simp
theorem runFrom_skip {n : Nat} : ∀ {f k : Nat} {ps : List Pg} {p : Pg}, f < n → ps[f]? = some p → p.kind ≠ 0 → runFrom n k ps = runFrom n (k + f + 1) (ps.drop (f + 1))
  | f, k, [], p, _, h, _ => by simp at h
  | 0, k, q :: r, p, hf, h, h0 => by
    rw [runFrom, freeN_no hf h h0]; simp
  | f + 1, k, q :: r, p, hf, h, h0 => by
    rw [runFrom, freeN_no hf h h0]
    simp only [Bool.false_eq_true, if_false, List.drop_succ_cons]
    rw [runFrom_skip (f := f) (by omega) (by simpa using h) h0]
    congr 1; omega
theorem runFrom_short {n : Nat} : ∀ {k : Nat} {ps : List Pg}, ps.length < n → runFrom n k ps = none
  | k, [], _ => rfl
  | k, q :: r, h => by
    rw [runFrom, freeN_short h]
    simp only [Bool.false_eq_true, if_false]
    exact runFrom_short (by simp at h; omega)

end Go.Proofs.Ytoaeglhjaandmaa

/- Chapter 4 of the model: blocks that are dropped. -/
namespace Go.Proofs.Ytoaeglhjaandmaa
open Go.RowKit

/-- What is dropped at a place: the slot, or the run of the page. -/
def dropAt (ps : List Pg) (st : Nat) : List Pg := match ps[st / 16]? with
  | none => ps
  | some p => if p.kind = 1 then ps.set (st / 16) (freeSlot p (st % 16 / (sizeW p.cls).toNat)) else setMany ps (st / 16) Pg.free p.run.toNat

end Go.Proofs.Ytoaeglhjaandmaa

/- Chapter 4: runs of pages are whole; what is held at a place. -/
namespace Go.Proofs.Ytoaeglhjaandmaa
open Go.RowKit

/-- How many pages a run lacks behind the first k. -/
def leftFrom (l : Int) : List Pg → Nat → Int
  | _, 0 => l
  | [], _ + 1 => l
  | p :: r, k + 1 => leftFrom (nextLeft l p) r k
theorem leftFrom_zero (l : Int) (ps : List Pg) : leftFrom l ps 0 = l := by cases ps <;> rfl
theorem leftFrom_succ : ∀ {ps : List Pg} {l : Int} {k : Nat} {p : Pg}, ps[k]? = some p → leftFrom l ps (k + 1) = nextLeft (leftFrom l ps k) p
  | [], l, k, p, h => by simp at h
  | q :: r, l, 0, p, h => by simp at h; subst h; simp [leftFrom, leftFrom_zero]
  | q :: r, l, k + 1, p, h => by
    have := leftFrom_succ (ps := r) (l := nextLeft l q) (k := k) (p := p) (by simpa using h)
    simpa [leftFrom] using this
theorem whole_iff : ∀ (ps : List Pg) (l : Int), whole l ps = true ↔ (∀ k p, ps[k]? = some p → decide (p.kind = 3) = decide (0 < leftFrom l ps k)) ∧ leftFrom l ps ps.length = 0
  | [], l => by simp [whole, leftFrom]
  | q :: r, l => by
    unfold whole
    constructor
    · intro h
      split at h
      · rename_i h1
        obtain ⟨h2, h3⟩ := (whole_iff r _).1 h
        refine ⟨fun k p hk => ?_, by simpa [leftFrom] using h3⟩
        cases k with
        | zero => simp at hk; subst hk; exact h1
        | succ k => exact h2 k p (by simpa using hk)
      · cases h
    · rintro ⟨h1, h2⟩
      have h3 := h1 0 q (by simp)
      rw [leftFrom_zero] at h3
      rw [if_pos h3]
      exact (whole_iff r _).2 ⟨fun k p hk => h1 (k + 1) p (by simpa using hk), by simpa [leftFrom] using h2⟩
def leftN (ps : List Pg) (k : Nat) : Int := leftFrom 0 ps k
theorem leftN_succ {ps : List Pg} {k : Nat} {p : Pg} (h : ps[k]? = some p) : leftN ps (k + 1) = nextLeft (leftN ps k) p := leftFrom_succ h
theorem leftN_zero (ps : List Pg) : leftN ps 0 = 0 := leftFrom_zero 0 ps
/-- It is the one function that goes so. -/
theorem leftN_of {ps : List Pg} {L : Nat → Int} (h0 : L 0 = 0) (h : ∀ k p, ps[k]? = some p → L (k + 1) = nextLeft (L k) p) : ∀ k, k ≤ ps.length → leftN ps k = L k
  | 0, _ => by rw [leftN_zero, h0]
  | k + 1, hk => by
    have hx := List.getElem?_eq_getElem (l := ps) (i := k) (by omega)
    rw [leftN_succ hx, leftN_of h0 h k (by omega), ← h k _ hx]

section
variable {ps : List Pg} (hv : pagesFault ps = 0)
include hv
theorem ok_page {k : Nat} {p : Pg} (h : ps[k]? = some p) : pageFault p = 0 := (pagesFault_ok hv).2.1 p (List.mem_of_getElem? h)
theorem ok_rest {k : Nat} {p : Pg} (h : ps[k]? = some p) : p.kind = 3 ↔ 0 < leftN ps k := by
  have := ((whole_iff ps 0).1 (pagesFault_ok hv).2.2).1 k p h
  simpa [leftN] using this
theorem ok_end : leftN ps ps.length = 0 := ((whole_iff ps 0).1 (pagesFault_ok hv).2.2).2
theorem ok_run {k : Nat} {p : Pg} (h : ps[k]? = some p) (h2 : p.kind = 2) : 1 ≤ p.run ∧ p.run ≤ 4 := by
  rcases pageFault_ok (ok_page hv h) with h | h | h <;> omega
/-- Where a run lacks pages, one begins it. -/
theorem run_head : ∀ k, k ≤ ps.length → 0 < leftN ps k → ∃ h q, h < k ∧ ps[h]? = some q ∧ q.kind = 2 ∧ leftN ps k = q.run - ((k : Int) - h) ∧ ∀ j p, h < j → j < k → ps[j]? = some p → p.kind = 3
  | 0, _, h => by rw [leftN_zero] at h; omega
  | k + 1, hk, h => by
    have hx := List.getElem?_eq_getElem (l := ps) (i := k) (by omega)
    have hs := leftN_succ hx
    have hr := ok_rest hv hx
    by_cases h2 : (ps[k]).kind = 2
    · refine ⟨k, _, by omega, hx, h2, ?_, fun j p h1 h2 => by omega⟩
      rw [hs, nextLeft, if_pos h2]; omega
    · by_cases h3 : (ps[k]).kind = 3
      · have hl := hr.1 h3
        obtain ⟨g, q, h4, h5, h6, h7, h8⟩ := run_head k (by omega) hl
        refine ⟨g, q, by omega, h5, h6, ?_, fun j p h9 h10 hj => ?_⟩
        · rw [hs, nextLeft, if_neg h2, if_pos h3, h7]; omega
        · by_cases e : j = k
          · subst e; rw [hx] at hj; injection hj with hj; rw [← hj]; exact h3
          · exact h8 j p h9 (by omega) hj
      · rw [hs, nextLeft, if_neg h2, if_neg h3] at h
        exact absurd (hr.2 h) h3
theorem head_of_rest {k : Nat} {p : Pg} (h : ps[k]? = some p) (h3 : p.kind = 3) : ∃ g q, g < k ∧ ps[g]? = some q ∧ q.kind = 2 ∧ (k : Int) - g < q.run ∧ headOf ps k = g := by
  have hk := (List.getElem?_eq_some_iff.1 h).1
  have hl := (ok_rest hv h).1 h3
  obtain ⟨g, q, h4, h5, h6, h7, h8⟩ := run_head hv k (by omega) hl
  refine ⟨g, q, h4, h5, h6, by omega, ?_⟩
  have : ∀ j, g ≤ j → j ≤ k → headOf ps j = g := by
    intro j
    induction j with
    | zero => intro h1 _; have : g = 0 := by omega
              subst this; rfl
    | succ j ih =>
      intro h1 h2
      unfold headOf
      by_cases e : g = j + 1
      · subst e; rw [h5]; simp [h6]
      · have hx := List.getElem?_eq_getElem (l := ps) (i := j + 1) (by omega)
        have hk3 : (ps[j + 1]).kind = 3 := by
          by_cases e2 : j + 1 = k
          · subst e2; rw [hx] at h; injection h with h; rw [h]; exact h3
          · exact h8 _ _ (by omega) (by omega) hx
        rw [hx]; simp only [Option.map_some, hk3, if_true]
        exact ih (by omega) (by omega)
  exact this k (by omega) (Nat.le_refl _)
/-- A run has all its pages. -/
theorem run_whole {g : Nat} {q : Pg} (h : ps[g]? = some q) (h2 : q.kind = 2) : ∀ j : Nat, (j : Int) ≤ q.run - 1 → g + 1 + j ≤ ps.length ∧ leftN ps (g + 1 + j) = q.run - 1 - j ∧ ∀ i p, g < i → i < g + 1 + j → ps[i]? = some p → p.kind = 3
  | 0, _ => by
    have hk := (List.getElem?_eq_some_iff.1 h).1
    refine ⟨by omega, ?_, fun i p h1 h2 => by omega⟩
    rw [Nat.add_zero, leftN_succ h, nextLeft, if_pos h2]; simp
  | j + 1, hj => by
    obtain ⟨h3, h4, h5⟩ := run_whole h h2 j (by omega)
    have hlt : g + 1 + j < ps.length := by
      rcases Nat.lt_or_ge (g + 1 + j) ps.length with h6 | h6
      · exact h6
      · have e : g + 1 + j = ps.length := by omega
        rw [e, ok_end hv] at h4; omega
    have hx := List.getElem?_eq_getElem (l := ps) (i := g + 1 + j) hlt
    have hk3 := (ok_rest hv hx).2 (by omega)
    refine ⟨by omega, ?_, fun i p h6 h7 hi => ?_⟩
    · rw [show g + 1 + (j + 1) = g + 1 + j + 1 by omega, leftN_succ hx, nextLeft, if_neg (by omega), if_pos hk3, h4]; omega
    · by_cases e : i = g + 1 + j
      · subst e; rw [hx] at hi; injection hi with hi; rw [← hi]; exact hk3
      · exact h5 i p h6 (by omega) hi
theorem run_fits {g : Nat} {q : Pg} (h : ps[g]? = some q) (h2 : q.kind = 2) : (g : Int) + q.run ≤ ps.length := by
  have hr := ok_run hv h h2
  obtain ⟨h1, _, _⟩ := run_whole hv h h2 (q.run - 1).toNat (by omega)
  omega

/-- What is held at a place, by the kind of its page. -/
theorem held_no {a : Int} (h : within 0 ((ps.length : Int) * 16 - 1) [a] = false) : heldAt ps a = (3, none) := by unfold heldAt; rw [if_pos hv, h]; rfl
theorem held_free {a : Nat} {p : Pg} (ha : a < ps.length * 16) (h : ps[a / 16]? = some p) (h0 : p.kind = 0) : heldAt ps a = (4, none) := by
  have hh : headOf ps (a / 16) = a / 16 := by
    cases hk : a / 16 with
    | zero => rfl
    | succ k => unfold headOf; rw [← hk, h]; simp [h0]
  unfold heldAt
  rw [if_pos hv, if_pos (within_yes1 (by omega) (by omega)), Int.toNat_natCast]
  unfold blockAt
  rw [hh, h]; simp [h0]
theorem held_slot {a : Nat} {p : Pg} (ha : a < ps.length * 16) (h : ps[a / 16]? = some p) (h1 : p.kind = 1) :
    heldAt ps a = if p.used[a % 16 / (sizeW p.cls).toNat]? = some true then (0, some (.slot (a / 16) p.cls (a % 16 / (sizeW p.cls).toNat))) else (4, none) := by
  have hh : headOf ps (a / 16) = a / 16 := by
    cases hk : a / 16 with
    | zero => rfl
    | succ k => unfold headOf; rw [← hk, h]; simp [h1]
  unfold heldAt
  rw [if_pos hv, if_pos (within_yes1 (by omega) (by omega)), Int.toNat_natCast]
  unfold blockAt
  rw [hh, h]
  simp only [h1]
  by_cases hu : p.used[a % 16 / (sizeW p.cls).toNat]? = some true
  · rw [if_pos hu]; simp [hu]
  · rw [if_neg hu]; simp [hu]
theorem held_run {a : Nat} {p : Pg} (ha : a < ps.length * 16) (h : ps[a / 16]? = some p) (h2 : p.kind = 2 ∨ p.kind = 3) :
    ∃ q, ps[headOf ps (a / 16)]? = some q ∧ q.kind = 2 ∧ heldAt ps a = (0, some (.run (headOf ps (a / 16)) q.run)) := by
  have key : ∃ q, ps[headOf ps (a / 16)]? = some q ∧ q.kind = 2 := by
    rcases h2 with h2 | h3
    · have hh : headOf ps (a / 16) = a / 16 := by
        cases hk : a / 16 with
        | zero => rfl
        | succ k => unfold headOf; rw [← hk, h]; simp [h2]
      exact ⟨p, by rw [hh]; exact h, h2⟩
    · obtain ⟨g, q, _, h5, h6, _, h7⟩ := head_of_rest hv h h3
      exact ⟨q, by rw [h7]; exact h5, h6⟩
  obtain ⟨q, h5, h6⟩ := key
  refine ⟨q, h5, h6, ?_⟩
  unfold heldAt
  rw [if_pos hv, if_pos (within_yes1 (by omega) (by omega)), Int.toNat_natCast]
  unfold blockAt
  rw [h5]; simp [h6]
/-- What is known of what is held. -/
theorem held_info {a : Int} {c : Int} {b : Blk} (h : heldAt ps a = (c, some b)) : c = 0 ∧ 0 ≤ a ∧ a < ps.length * 16 ∧ ((∃ i k s p, b = .slot i k s ∧ ps[i]? = some p ∧ p.kind = 1 ∧ p.cls = k ∧ 0 ≤ k ∧ k ≤ 3 ∧ p.used[s]? = some true ∧ (p.used.length : Int) = 16 / sizeW k ∧ p.run = 0 ∧ i = a.toNat / 16 ∧ s = a.toNat % 16 / (sizeW k).toNat) ∨
    ∃ i p, b = .run i p.run ∧ ps[i]? = some p ∧ p.kind = 2 ∧ i = headOf ps (a.toNat / 16)) := by
  unfold heldAt at h
  rw [if_pos hv] at h
  split at h
  · rename_i hw
    have hw := within_range hw
    cases hb : blockAt ps a.toNat with
    | none => rw [hb] at h; simp at h
    | some b' =>
      rw [hb] at h
      simp at h
      obtain ⟨rfl, rfl⟩ := h
      refine ⟨rfl, hw.1, by omega, ?_⟩
      unfold blockAt at hb
      cases hp : ps[headOf ps (a.toNat / 16)]? with
      | none => rw [hp] at hb; simp at hb
      | some p =>
        rw [hp] at hb
        simp only at hb
        split at hb
        · rename_i h2
          simp at hb
          exact .inr ⟨_, p, hb.symm, hp, h2, rfl⟩
        · split at hb
          · rename_i h1
            split at hb
            · rename_i hu
              simp at hb
              have hf := ok_page hv hp
              rcases pageFault_ok hf with h | h | h
              · have he : headOf ps (a.toNat / 16) = a.toNat / 16 := by
                  have hx := List.getElem?_eq_getElem (l := ps) (i := a.toNat / 16) (by omega)
                  by_cases h3 : (ps[a.toNat / 16]).kind = 3
                  · obtain ⟨g, q, _, hg, hg2, _, hg3⟩ := head_of_rest hv hx h3
                    rw [hg3, hg] at hp; injection hp with hp; rw [hp] at hg2; omega
                  · cases hk : a.toNat / 16 with
                    | zero => rfl
                    | succ k => unfold headOf; rw [← hk, hx]; simp [h3]
                exact .inl ⟨_, _, _, p, hb.symm, hp, h1, rfl, h.2.1, h.2.2.1, hu, h.2.2.2.2.1, h.2.2.2.1, he, rfl⟩
              · omega
              · omega
            · simp at hb
          · simp at hb
  · simp at h
theorem held_code {a : Int} {c : Int} (h : heldAt ps a = (c, none)) : c = 3 ∨ c = 4 := by
  unfold heldAt at h
  rw [if_pos hv] at h
  split at h
  · split at h
    · simp at h
    · simp at h; omega
  · simp at h; omega
end
end Go.Proofs.Ytoaeglhjaandmaa

/- Chapter 5: what its functions answer, in plain words. -/
namespace Go.Proofs.Ytoaeglhjaandmaa
open Go.RowKit

/-- A heap, in plain words. -/
structure Hp where
  pages : List Pg
  words : List Int
  mags : List (List Int)
theorem Hp.ext_ {p q : Hp} (h1 : p.pages = q.pages) (h2 : p.words = q.words) (h3 : p.mags = q.mags) : p = q := by
  cases p; cases q; simp_all
instance : DecidableEq Hp := fun p q => decidable_of_iff (p.pages = q.pages ∧ p.words = q.words ∧ p.mags = q.mags) ⟨fun ⟨h1, h2, h3⟩ => Hp.ext_ h1 h2 h3, fun h => by subst h; exact ⟨rfl, rfl, rfl⟩⟩
def Hp.zero : Hp := ⟨[], [], []⟩
def Hp.kept (h : Hp) : List Int := h.mags.flatten

/-- A slot of this class begins at a place. -/
def isSlotAt (ps : List Pg) (c a : Int) : Bool := match heldAt ps a with
  | (_, some (.slot i k s)) => decide (k = c) && decide ((Blk.slot i k s).start = a)
  | _ => false
def magFault (ps : List Pg) (c : Int) (m : List Int) : Int := if 2 < m.length then 2 else if m.all (isSlotAt ps c) = true then 0 else 1
def magsFault (ps : List Pg) : Nat → List (List Int) → Int
  | _, [] => 0
  | k, m :: r => if magFault ps ((k % 4 : Nat) : Int) m = 0 then magsFault ps (k + 1) r else magFault ps ((k % 4 : Nat) : Int) m
def freeZero (ws : List Int) : Nat → List Pg → Bool
  | _, [] => true
  | k, p :: r => (decide (p.kind ≠ 0) || decide (frameOf ws k = List.replicate 16 0)) && freeZero ws (k + 1) r
def magCount (n : Nat) : Bool := decide (n % 4 = 0 ∧ 4 ≤ n ∧ n ≤ 8)
def heapFault (h : Hp) : Int :=
  if pagesFault h.pages = 0 then
    (if h.words.length = h.pages.length * 16 ∧ magCount h.mags.length = true then
      (if within (-1000000000) 1000000000 h.words = true then
        (if magsFault h.pages 0 h.mags = 0 then (if alike h.kept = false then (if freeZero h.words 0 h.pages = true then 0 else 8) else 6) else magsFault h.pages 0 h.mags)
      else 3)
    else 2)
  else pagesFault h.pages
theorem heapFault_ok {h : Hp} (hf : heapFault h = 0) : pagesFault h.pages = 0 ∧ h.words.length = h.pages.length * 16 ∧ magCount h.mags.length = true ∧ within (-1000000000) 1000000000 h.words = true ∧ magsFault h.pages 0 h.mags = 0 ∧ alike h.kept = false ∧ freeZero h.words 0 h.pages = true := by
  unfold heapFault at hf
  by_cases h1 : pagesFault h.pages = 0
  · rw [if_pos h1] at hf
    by_cases h2 : h.words.length = h.pages.length * 16 ∧ magCount h.mags.length = true
    · rw [if_pos h2] at hf
      by_cases h3 : within (-1000000000) 1000000000 h.words = true
      · rw [if_pos h3] at hf
        by_cases h4 : magsFault h.pages 0 h.mags = 0
        · rw [if_pos h4] at hf
          by_cases h5 : alike h.kept = false
          · rw [if_pos h5] at hf
            by_cases h6 : freeZero h.words 0 h.pages = true
            · exact ⟨h1, h2.1, h2.2, h3, h4, h5, h6⟩
            · rw [if_neg h6] at hf; omega
          · rw [if_neg h5] at hf; omega
        · rw [if_neg h4] at hf; exact absurd hf h4
      · rw [if_neg h3] at hf; omega
    · rw [if_neg h2] at hf; omega
  · rw [if_neg h1] at hf; exact absurd hf h1
theorem heapFault_of {h : Hp} (h1 : pagesFault h.pages = 0) (h2 : h.words.length = h.pages.length * 16) (h3 : magCount h.mags.length = true) (h4 : within (-1000000000) 1000000000 h.words = true) (h5 : magsFault h.pages 0 h.mags = 0) (h6 : alike h.kept = false) (h7 : freeZero h.words 0 h.pages = true) : heapFault h = 0 := by
  unfold heapFault
  rw [if_pos h1, if_pos ⟨h2, h3⟩, if_pos h4, if_pos h5, if_pos h6, if_pos h7]

def newHp (p c : Nat) : Hp := ⟨List.replicate p Pg.free, List.replicate (p * 16) 0, List.replicate (4 * c) []⟩
def newHeap (p c : Int) : Int × Hp := if within 0 40 [p] = true ∧ within 1 2 [c] = true then (0, newHp p.toNat c.toNat) else (3, Hp.zero)
/-- Where the block that lives at a place begins. -/
def liveIn (h : Hp) (a : Int) : Int × Int := match blockStart h.pages a with
  | (c, s) => if c = 0 then (if hasIn h.kept s = true then (4, 0) else (0, s)) else (c, 0)
def liveAt (h : Hp) (a : Int) : Int × Int := if heapFault h = 0 then liveIn h a else (heapFault h, 0)
/-- The places below this one at which blocks begin that live. -/
def blocksTo (h : Hp) : Nat → List Int
  | 0 => []
  | k + 1 => blocksTo h k ++ (if liveIn h (k : Int) = (0, (k : Int)) then [(k : Int)] else [])
def blocksIn (h : Hp) : List Int := blocksTo h h.words.length
def liveBlocks (h : Hp) : Int × List Int := if heapFault h = 0 then (0, blocksIn h) else (heapFault h, [])
def heldIn (h : Hp) : Int × Int := if heapFault h = 0 then (0, (h.kept.length : Int)) else (heapFault h, 0)
/-- The pages when these places are dropped, one behind the other. -/
def dropAll (ps : List Pg) : List Int → List Pg
  | [] => ps
  | a :: r => dropAll (dropAt ps a.toNat) r
/-- Words with zeros in all free pages. -/
def sweepW : List Int → Nat → List Pg → List Int
  | ws, _, [] => ws
  | ws, k, p :: r => sweepW (if p.kind = 0 then putFrame ws k (List.replicate 16 0) else ws) (k + 1) r
def drainHp (h : Hp) : Hp := ⟨dropAll h.pages h.kept, sweepW h.words 0 (dropAll h.pages h.kept), List.replicate h.mags.length []⟩
def drainHeap (h : Hp) : Int × Hp := if heapFault h = 0 then (0, drainHp h) else (heapFault h, Hp.zero)
def fitHp (h : Hp) (p : Nat) : Hp := ⟨fitTo Pg.free h.pages p, fitTo 0 h.words (p * 16), h.mags⟩
def anyUsed (ps : List Pg) : Bool := ps.any fun p => decide (p.kind ≠ 0)
def resizeHeap (h : Hp) (p : Int) : Int × Hp :=
  if heapFault h = 0 then (if within 0 40 [p] = true then (if anyUsed ((drainHp h).pages.drop p.toNat) = true then (8, Hp.zero) else (0, fitHp (drainHp h) p.toNat)) else (3, Hp.zero)) else (heapFault h, Hp.zero)

theorem length_dropAll : ∀ (xs : List Int) (ps : List Pg), (dropAll ps xs).length = ps.length
  | [], _ => rfl
  | a :: r, ps => by
    rw [dropAll, length_dropAll r]
    unfold dropAt
    split
    · rfl
    · split
      · rw [List.length_set]
      · rw [length_setMany]
theorem dropAll_snoc : ∀ (xs : List Int) (ps : List Pg) (a : Int), dropAll ps (xs ++ [a]) = dropAt (dropAll ps xs) a.toNat
  | [], _, _ => rfl
  | x :: r, ps, a => by rw [List.cons_append, dropAll, dropAll, dropAll_snoc r]
theorem dropAll_append : ∀ (xs ys : List Int) (ps : List Pg), dropAll ps (xs ++ ys) = dropAll (dropAll ps xs) ys
  | [], _, _ => rfl
  | x :: r, ys, ps => by rw [List.cons_append, dropAll, dropAll, dropAll_append r]
theorem length_sweepW : ∀ (ps : List Pg) (ws : List Int) (k : Nat), ws.length = (k + ps.length) * 16 → (sweepW ws k ps).length = ws.length
  | [], _, _, _ => rfl
  | p :: r, ws, k, h => by
    simp only [List.length_cons] at h
    have hp : (if p.kind = 0 then putFrame ws k (List.replicate 16 0) else ws).length = ws.length := by
      split
      · exact length_putFrame (by rw [List.length_replicate]; omega)
      · rfl
    rw [sweepW, length_sweepW r _ _ (by rw [hp]; omega), hp]
theorem sweepW_take {ws : List Int} {ps : List Pg} {k : Nat} {p : Pg} (h : ps[k]? = some p) : sweepW ws 0 (ps.take (k + 1)) = if p.kind = 0 then putFrame (sweepW ws 0 (ps.take k)) k (List.replicate 16 0) else sweepW ws 0 (ps.take k) := by
  have key : ∀ (qs : List Pg) (ws : List Int) (j : Nat), sweepW ws j (qs ++ [p]) = if p.kind = 0 then putFrame (sweepW ws j qs) (j + qs.length) (List.replicate 16 0) else sweepW ws j qs := by
    intro qs
    induction qs with
    | nil => intro ws j; simp [sweepW]
    | cons q r ih => intro ws j; rw [List.cons_append, sweepW, ih, sweepW, List.length_cons, show j + 1 + r.length = j + (r.length + 1) by omega]
  have hk := (List.getElem?_eq_some_iff.1 h).1
  have e : ps.take (k + 1) = ps.take k ++ [p] := by rw [List.take_add_one, h]; rfl
  rw [e, key, Nat.zero_add, List.length_take, Nat.min_eq_left (by omega)]

/-- The three slices of a heap read so. -/
structure HpR (w : World) (S : Nat → Prop) (pa : Option Addr) (pn pc : Nat) (wa : Option Addr) (wn wc : Nat) (ma : Option Addr) (mn mc : Nat) (h : Hp) : Prop where
  pg : Lst KPage w S pa pn h.pages
  wd : Lst KInt w S wa wn h.words
  mg : Lst KMag w S ma mn h.mags
  p1 : pn ≤ pc
  p2 : pc ≤ maxLen
  w1 : wn ≤ wc
  w2 : wc ≤ maxLen
  m1 : mn ≤ mc
  m2 : mc ≤ maxLen
theorem HpR.turn {w w' : World} {S T : Nat → Prop} {pa wa ma : Option Addr} {pn pc wn wc mn mc : Nat} {h : Hp} (hr : HpR w S pa pn pc wa wn wc ma mn mc h) (ht : Turn T w w') (hd : ∀ k, S k → k < w.heap.size → ¬ T k) : HpR w' S pa pn pc wa wn wc ma mn mc h :=
  ⟨hr.pg.turn ht hd, hr.wd.turn ht hd, hr.mg.turn ht hd, hr.p1, hr.p2, hr.w1, hr.w2, hr.m1, hr.m2⟩
theorem HpR.below {w w' : World} {S : Nat → Prop} {pa wa ma : Option Addr} {pn pc wn wc mn mc : Nat} {h : Hp} (hr : HpR w S pa pn pc wa wn wc ma mn mc h) (hb : Below w.heap.size w w') : HpR w' S pa pn pc wa wn wc ma mn mc h :=
  hr.turn (T := fun _ => False) (Turn.of_below hb) (fun _ _ _ h => h)
theorem HpR.alloc {w : World} {S : Nat → Prop} {pa wa ma : Option Addr} {pn pc wn wc mn mc : Nat} {h : Hp} (hr : HpR w S pa pn pc wa wn wc ma mn mc h) (o : Obj) : HpR (w.alloc o) S pa pn pc wa wn wc ma mn mc h := hr.below ((Below.refl _ _).alloc (Nat.le_refl _) o)
theorem HpR.mono {w : World} {S S' : Nat → Prop} {pa wa ma : Option Addr} {pn pc wn wc mn mc : Nat} {h : Hp} (hr : HpR w S pa pn pc wa wn wc ma mn mc h) (hS : ∀ k, S k → k < w.heap.size → S' k) : HpR w S' pa pn pc wa wn wc ma mn mc h :=
  ⟨hr.pg.mono hS, hr.wd.mono hS, hr.mg.mono hS, hr.p1, hr.p2, hr.w1, hr.w2, hr.m1, hr.m2⟩
/-- No list in a heap is longer than is good for any walk. -/
structure HpS (N : Nat) (h : Hp) : Prop where
  p : h.pages.length ≤ N
  u : ShortP N h.pages
  w : h.words.length ≤ N
  m : h.mags.length ≤ N
  k : ShortM N h.mags
theorem HpS.more {N M : Nat} {h : Hp} (hs : HpS N h) (hM : N ≤ M) : HpS M h := ⟨Nat.le_trans hs.p hM, fun p hp => Nat.le_trans (hs.u p hp) hM, Nat.le_trans hs.w hM, Nat.le_trans hs.m hM, hs.k.more hM⟩

theorem Own.of_zero {α : Type} {K : Lay α} {t : TypeId} {w : World} {g n : Nat} {cur : Array Value} {zs : List Value} {d : α} (hr : Row w g t cur) (hz : ZeroRow zs n cur) (hzl : zs.length = K.sz) (ho : K.own w (fun _ => False) zs d) (hn : n ≤ maxLen) : Own K t w (fun k => k = g) (.slice (some ⟨g, 0, none⟩) n n) n (List.replicate n d) := by
  obtain ⟨h1, h2⟩ := hz
  rw [hzl] at h1 h2
  exact Own.made hr rfl hn h1 hzl h2 ho
end Go.Proofs.Ytoaeglhjaandmaa

/- Chapter 7 of the program: words are gathered from the frames of a table. -/
namespace Go.Proofs.Ytoaeglhjaandmaa
open Go.RowKit Go.Shelf
set_option maxRecDepth 100000

attribute [local go_sem] Oper.semAt_some

theorem four_rows {w w1 : World} {o1 o2 o3 o4 : Obj} (h : Below ((((w.alloc o1).alloc o2).alloc o3).alloc o4).heap.size ((((w.alloc o1).alloc o2).alloc o3).alloc o4) w1) :
    w1.heap[w.heap.size]? = some o1 ∧ w1.heap[w.heap.size + 1]? = some o2 ∧ w1.heap[w.heap.size + 2]? = some o3 ∧ w1.heap[w.heap.size + 3]? = some o4 ∧ Below w.heap.size w w1 ∧ w.heap.size + 4 ≤ w1.heap.size := by
  have hs := h.size
  simp at hs
  obtain ⟨a, b, c, d, e⟩ := three_new (below_past h)
  refine ⟨a, b, c, ?_, d, by omega⟩
  rw [h.block _ (by simp)]
  have : w.heap.size + 3 = (((w.alloc o1).alloc o2).alloc o3).heap.size := by simp
  rw [this]; exact heap_alloc_new _ _
/-- A page of a table of m pages, and its frame of F frames. -/
abbrev PG (m : Nat) (F : Int) : Type := { p : Nat × Int // p.1 < m ∧ 0 ≤ p.2 ∧ p.2 < F }

set_option maxHeartbeats 2000000 in
theorem gatherWords_calls {ao ta wa : Option Addr} {n cc m tc wn wk : Nat} {F C tn : Int} {ts : List (List Int × Int)} {fr ws : List Int} {w : World} (hT : Tens w ao n ts) (hS : Short 17592186044416 ts) (hcc : n ≤ cc) (hn : n ≤ 17592186044416) (hf : Ints w ta m fr) (hm : m ≤ 1099511627776) (hw : Ints w wa wn ws) (hwn : wn ≤ 17592186044416) (hwk : wn ≤ wk) :
    Calls Try.prog 40 #[.agg #[.int .i64 F, .int .i64 C, .slice ao n cc], .agg #[.int .i64 tn, .slice ta m tc], .slice wa wn wk] w (RetsInts w (gatherWords F C ts tn fr ws)) := by
  have HL := Lib.hid hf.1
  have HWL := Lib.hid hw.1
  obtain ⟨q, hq⟩ : ∃ q, tableArenaFault F C ts tn fr ws = q := ⟨_, rfl⟩
  have HA := Lib.hid (show gatherWords F C ts tn fr ws = if q = 0 then (0, gatherTo fr ws fr.length) else (q, []) by unfold gatherWords; rw [hq])
  have HQ := Lib.hid hq
  refine calls_of_marks Try.func40 rfl ?_
  simp only [Try.ntmps40, List.size_toArray, List.length_cons, List.length_nil, Nat.reduceAdd, Nat.reduceSub, Array.replicate_succ, Array.replicate_zero, List.push_toArray, List.append_toArray, List.nil_append, List.cons_append]
  go_wp2_with fail
  refine (tableArenaFault_calls ((((hT.alloc _).alloc _).alloc _).alloc _) hS hcc hn ((((hf.alloc _).alloc _).alloc _).alloc _) (by omega) ((((hw.alloc _).alloc _).alloc _).alloc _) hwn).mono ?_
  rw [hq]
  rintro e w1 ⟨rfl, hb1⟩
  obtain ⟨h0, h1, h2, h3, hb, hs⟩ := four_rows hb1
  have t0 := Row.cell h1 0
  have t1 := Row.cell h1 1
  have t2 := Row.cell h2 0
  simp at t0 t1 t2
  have HB := Lib.hid hb
  have HR1 := Lib.hid h1
  have HR2 := Lib.hid h2
  have HR3 := Lib.hid h3
  clear hb1 hq h0 h1 h2 h3 hb
  by_cases h : q = 0
  rotate_left
  · have HF := HA.out
    rw [if_neg h] at HF
    have HF := Lib.hid HF
    have hqb : (q != 0) = true := by simpa using h
    clear HA h
    go_wp2_with (refine wpList_store_row rfl 60 _ _ rfl (w.heap.size + 3) _ rfl rfl _ _ HR3.out (by kernel_rfl) (by rfl) (by simp [Value.oneCell']) ?_)
    refine postM_ret0 (results_cell_row rfl _ _ (w.heap.size + 3) _ _ _ _ rfl (setRow_heap _ _ _ _ _ _ HR3.out) Try.underlying60 rfl (by kernel_rfl)) rfl ?_
    exact rets_done HB.out (by omega) (OwnI.nil _ (w.heap.size + 4)) (by omega) _ HF.out
  subst h
  have HF := HA.out
  simp only [if_true] at HF
  have HF := Lib.hid HF
  clear HA
  have hfl : fr.length = m := HL.out
  obtain ⟨k1, k2, k3⟩ := tableArenaFault_ok HQ.out
  have k4 := (tableFault_ok k1).2.2.1
  have hm40 : m ≤ 40 := by omega
  have e1 : IntKind.i64.wrap ((m : Int) * 16) = (m : Int) * 16 := IntWalk.i64_in _ (by omega)
  obtain ⟨z, hz⟩ : ∃ z : Nat, z = m * 16 := ⟨_, rfl⟩
  have e2 : (m : Int) * 16 = (z : Int) := by omega
  rw [e2] at e1
  have HZ := Lib.hid hz
  have hz6 : z ≤ 640 := by omega
  clear hfl k1 k2 k3 k4 hz
  obtain ⟨i0, hi0, hz0, hz1, hz2⟩ := info_parts info64
  obtain ⟨CW, hCW, hmk⟩ := make_eq (P := Try.prog) Try.underlying27 hi0 hz0 hz1 rfl z (by rw [hz2]; omega) (by omega)
  have W0a : Below w1.heap.size w1 (((w1.alloc (.cells CW 2)).alloc (.cells #[.slice (some ⟨w1.heap.size, 0, none⟩) z z] 27)).alloc (.cells #[.int .i64 tn, .slice ta m tc] 29)) := (((Below.refl _ _).alloc (Nat.le_refl _) _).alloc (by simp) _).alloc (by simp; omega) _
  have W0b : Below w1.heap.size w1 ((w1.alloc (.cells CW 2)).alloc (.cells #[.slice (some ⟨w1.heap.size, 0, none⟩) z z] 27)) := ((Below.refl _ _).alloc (Nat.le_refl _) _).alloc (by simp) _
  have y0 := Row.cell (Row.below HR1.out W0b) 0
  have y1 := Row.cell (Row.below HR1.out W0b) 1
  simp at y0 y1
  have OM0 : Own KInt 2 (w1.alloc (.cells CW 2)) (fun q => q = w1.heap.size) (.slice (some ⟨w1.heap.size, 0, none⟩) z z) z (List.replicate z 0) := Own.of_zero (K := KInt) (heap_alloc_new _ _) hCW rfl rfl (by unfold maxLen; omega)
  have HOM := Lib.hid OM0
  clear OM0
  go_wp2_with (go_at_call 64; refine (heldFrames_in _ _ _ _ _).mono ?_; rintro e w' ⟨rfl, rfl⟩)
  have hfn : ∀ h0 : 0 < m, ∃ b off, ta = some ⟨b, off, none⟩ ∧ b < w.heap.size ∧ ∀ j, j < m → w.cell? ⟨b, off + j, none⟩ = some (.int .i64 (fr.getD j 0)) := hf.2
  have RB : Row (((w1.alloc (.cells CW 2)).alloc (.cells #[.slice (some ⟨w1.heap.size, 0, none⟩) z z] 27)).alloc (.cells #[.int .i64 tn, .slice ta m tc] 29)) (w1.heap.size + 1) 27 #[.slice (some ⟨w1.heap.size, 0, none⟩) z z] := Row.below (w := (w1.alloc (.cells CW 2)).alloc (.cells #[.slice (some ⟨w1.heap.size, 0, none⟩) z z] 27)) (by have h := heap_alloc_new (w1.alloc (.cells CW 2)) (.cells #[.slice (some ⟨w1.heap.size, 0, none⟩) z z] 27); rw [World.size_alloc] at h; exact h) ((Below.refl _ _).alloc (Nat.le_refl _) _)
  have RT : Row (((w1.alloc (.cells CW 2)).alloc (.cells #[.slice (some ⟨w1.heap.size, 0, none⟩) z z] 27)).alloc (.cells #[.int .i64 tn, .slice ta m tc] 29)) (w1.heap.size + 1 + 1) 29 #[.int .i64 tn, .slice ta m tc] := by have h := heap_alloc_new ((w1.alloc (.cells CW 2)).alloc (.cells #[.slice (some ⟨w1.heap.size, 0, none⟩) z z] 27)) (.cells #[.int .i64 tn, .slice ta m tc] 29); rw [World.size_alloc, World.size_alloc] at h; exact h
  have OO : Own KInt 2 (((w1.alloc (.cells CW 2)).alloc (.cells #[.slice (some ⟨w1.heap.size, 0, none⟩) z z] 27)).alloc (.cells #[.int .i64 tn, .slice ta m tc] 29)) (fun q => q = w1.heap.size) (.slice (some ⟨w1.heap.size, 0, none⟩) z z) z (List.replicate z 0) := HOM.out.turn (Turn.of_below (T := fun _ => False) (((Below.refl _ _).alloc (Nat.le_refl _) _).alloc (by simp) _)) (fun _ _ _ h => h)
  have RW := Row.below HR2.out W0a
  have RZ := Row.below HR3.out W0a
  have BW := HB.out.trans (W0a.mono HB.out.size)
  have s0 : (((w1.alloc (.cells CW 2)).alloc (.cells #[.slice (some ⟨w1.heap.size, 0, none⟩) z z] 27)).alloc (.cells #[.int .i64 tn, .slice ta m tc] 29)).heap.size = w1.heap.size + 3 := by simp
  obtain ⟨W0, hW0⟩ : ∃ W0, (((w1.alloc (.cells CW 2)).alloc (.cells #[.slice (some ⟨w1.heap.size, 0, none⟩) z z] 27)).alloc (.cells #[.int .i64 tn, .slice ta m tc] 29)) = W0 := ⟨_, rfl⟩
  rw [hW0] at RB RT OO RW RZ BW s0 ⊢
  clear W0a W0b hW0 t0 t1 t2 y0 y1
  have hBW := BW.size
  have HIn := Lib.hid (InWs.of HQ.out)
  have HRg := Lib.hid (show ∀ k, k < m → fr.getD k 0 ≠ -1 → 0 ≤ fr.getD k 0 ∧ fr.getD k 0 < F from fun k hk hv => by
    have := table_frame (tableArenaFault_ok HQ.out).1 (by rw [HL.out]; exact hk) hv
    exact ⟨this.1, this.2.1⟩)
  have HFw := Lib.hid (tableArenaFault_ok HQ.out).2.2
  refine wpIn_wide.1 (wpIn_rangeFunc_ownG (n := 3) rfl (by omega) (gf := 94) (lb := #[.pointer (some ⟨w1.heap.size + 1 + 1, 0, none⟩)]) rfl trivial (enters_of Try.func94 (by kernel_rfl) rfl)
    (heldV_stops (fun x : PG m F => x.1) 2 (by omega) (w1.heap.size + 1 + 1) w.heap.size m tc tn ta fr (by omega) (fun k hk hv => ⟨⟨(k, fr.getD k 0), hk, HRg.out k hk hv⟩, rfl⟩) W0 (by omega) hBW RT HL.out (fun h0 => by
      obtain ⟨b, off, e, hb, hc⟩ := hfn h0
      exact ⟨b, off, e, hb, fun j hj => (BW.cell (p := ⟨b, off + j, none⟩) hb).trans (hc j hj)⟩)) belowK_t (belowK_b (by omega)) (Below.refl _ _) (fun _ => rfl)
    (fun pre W' => Own KInt 2 W' (fun q => q = w1.heap.size) (.slice (some ⟨w1.heap.size, 0, none⟩) z z) z (laid ws z (pre.map (fun x : PG m F => x.1))) ∧ Turn (fun q => q = w1.heap.size ∨ W0.heap.size ≤ q) W0 W')
    (fun _ _ _ => False)
    (OwnFrom.and (fun s X Y row hs hg hr => hs.turn (T := fun q => row = some q) ⟨hg.os, hg.tape, hg.output, hg.size, fun k hk hn => hg.block k hk (fun e => hn e.symm)⟩ (fun k hk _ e => by have := (hr k e).1; omega)) (ownFrom_turn (fun q hq => .inr hq)))
    (fun _ _ _ _ _ hs _ _ => hs)
    ⟨OO, Turn.refl _ _⟩
    (fun x => { tmps := #[.agg #[.int .i64 F, .int .i64 C, .slice ao n cc], .agg #[.int .i64 tn, .slice ta m tc], .slice wa wn wk, .pointer (some ⟨w.heap.size, 0, none⟩), .pointer (some ⟨w.heap.size + 1, 0, none⟩), .pointer (some ⟨w.heap.size + 1 + 1, 0, none⟩), .pointer (some ⟨w.heap.size + 1 + 1 + 1, 0, none⟩), .int .i64 0, .pointer (some ⟨w1.heap.size + 1, 0, none⟩), .int .i64 (x.1.1 : Int), .int .i64 x.1.2, .agg #[.int .i64 F, .int .i64 C, .slice ao n cc], .agg #[.int .i64 tn, .slice ta m tc], .slice wa wn wk, .int .i64 0, .int .i64 0, .bool false, undef, undef, .pointer (some ⟨w.heap.size + 1, 1, none⟩), .slice ta m tc, .int .i64 ↑m, .int .i64 ↑z, .slice (some ⟨w1.heap.size, 0, none⟩) z z, .agg #[.int .i64 tn, .slice ta m tc], .func (Fn.func 94) #[] #[.pointer (some ⟨w1.heap.size + 1 + 1, 0, none⟩)], .int .i64 (x.1.1 : Int), .int .i64 x.1.2, undef, undef, undef, undef, undef, undef, undef, undef], defers := [] }) ?assign ?body ?done ?stop)
  case assign =>
    intro l x W K hK
    gi_wp2
    exact hK
  case body =>
    rintro l pre x W ⟨hO, ht⟩ _
    obtain ⟨⟨pg, fv⟩, h1, h2, h3⟩ := x
    obtain ⟨f, rfl⟩ : ∃ f : Nat, fv = f := ⟨fv.toNat, by simp only at h2; omega⟩
    simp only at h1 h2 h3
    have c0 := (ht.row RB (by rintro (e | e) <;> omega)).cell 0
    have c1 := (ht.row RW (by rintro (e | e) <;> omega)).cell 0
    simp at c0 c1
    have hIw : Ints W wa wn ws := hw.below (Turn.below BW ht hBW (fun q hq => by omega))
    have hfb : (f + 1) * 16 ≤ wn := by have := HFw.out; have := HWL.out; omega
    have hpb : (pg + 1) * 16 ≤ z := by have := HZ.out; omega
    have hpl : (frameOf ws f).length = 16 := length_frameOf (by rw [HWL.out]; exact hfb)
    have hmx : Try.prog.follows .mixedOrders = true := by kernel_rfl
    have hWs := ht.size
    gi_wp2
    have kD : Below W.heap.size W W.drew := (Below.refl _ W).drew
    have hID := hIw.below kD
    have hOD : Own KInt 2 W.drew (fun q => q = w1.heap.size) (.slice (some ⟨w1.heap.size, 0, none⟩) z z) z _ := hO.turn (Turn.of_below (T := fun _ => False) kD) (fun _ _ _ h => h)
    have hDs : W.drew.heap.size = W.heap.size := rfl
    gi_region_with_o (first
      | (refine ⟨trivial, ?_⟩; gi_at_call 82; refine (CallsIn.inRound l (callsIn_wide.2 (frameAt_calls hID hfb hwk hwn))).mono ?_; rintro e wF ⟨rfl, bF⟩; have c0' := (bF.cell (p := ⟨w1.heap.size + 1, 0, none⟩) (by show w1.heap.size + 1 < _; omega)).trans c0; have hsF := bF.size)
      | (refine ⟨trivial, ?_⟩; gi_at_call 81; refine (CallsIn.inRound l (callsIn_wide.2 (layFrame_calls (hOD.turn (Turn.of_below (T := fun _ => False) bF) (fun _ _ _ h => h)) (by intro e; have e : _ = w1.heap.size := e; omega) hpb hpl (by omega)))).mono ?_; rintro e wL ⟨rfl, oL, tL⟩))
    all_goals
      have t4 : Turn (fun q => q = w1.heap.size) W wL := (Turn.of_below (kD.trans bF)).trans tL (fun i hi _ => hi)
      gi_wp2
      refine ⟨⟨t4.size, fun k o hB hk ho => (t4.block k (Array.getElem?_eq_some_iff.1 hk).1 (fun e => by have e : k = w1.heap.size := e; omega)).trans hk⟩, Turn.below (Below.refl w.heap.size W) t4 (by omega) (fun q hq => by omega), ?_, ht.trans t4 (fun i hi _ => .inl hi)⟩
      have hE : laid ws z (List.map (fun x : PG m F => x.1) (pre ++ [⟨(pg, (f : Int)), h1, h2, h3⟩])) = putFrame (laid ws z (List.map (fun x : PG m F => x.1) pre)) pg (frameOf ws f) := by
        rw [List.map_append, List.map_cons, List.map_nil, laid_snoc]; rfl
      rw [hE]; exact oL
  case done =>
    rintro D ys W hD hys ⟨hO, ht⟩ hK
    have hO2 : Own KInt 2 W (fun q => q = w1.heap.size) (.slice (some ⟨w1.heap.size, 0, none⟩) z z) z (gatherTo fr ws fr.length) := by
      have hE := laid_gather HIn.out (k := fr.length) (Nat.le_refl _)
      rw [Nat.sub_self, Nat.zero_mul, List.replicate_zero, List.append_nil, HL.out, ← HZ.out] at hE
      rw [hys, hE] at hO
      rw [HL.out]; exact hO
    have HO := Lib.hid (hO2.ownI (B := w1.heap.size) (fun k hk => by have : k = w1.heap.size := hk; omega))
    have c0 := (ht.row RB (by rintro (e | e) <;> omega)).cell 0
    have rz := ht.row RZ (by rintro (e | e) <;> omega)
    simp at c0
    have hWs := ht.size
    clear hO hO2 hys
    go_wp2_with (refine wpList_store_row rfl 60 _ _ rfl (w.heap.size + 3) _ rfl rfl _ _ rz (by kernel_rfl) (by rfl) (by simp [Value.oneCell']) ?_)
    have hDW : D < W.heap.size := (Array.getElem?_eq_some_iff.1 hK).1
    have hK3 : (W.setRow (w.heap.size + 3) #[.int .i64 0, .slice (some ⟨w1.heap.size, 0, none⟩) z z]).heap[D]? = some (.deferred (some [])) := (setRow_other W _ D _ (by omega)).trans hK
    have hlm := left_mark hK3
    have hr3 := Row.leftBy hlm.1 hlm.2 (setRow_heap _ _ _ _ _ _ rz)
    refine postM_ret1 hK3 rfl (results_cell_row rfl _ _ (w.heap.size + 3) _ _ _ _ rfl hr3 Try.underlying60 rfl (by kernel_rfl)) ?_
    rw [HF.out]
    refine ⟨_, _, rfl, ((HO.out.setRow (by omega) _).leftBy hlm.1 hlm.2).base (by omega), ?_⟩
    exact (below_setRow (Turn.below BW ht hBW (fun q hq => by omega)) (by omega) _).trans (belowK_b (w := w) (Nat.le_refl _) _ D _ _ (by omega) hK3 rfl rfl)
  case stop =>
    rintro D c pre W _ _ h _
    exact h.elim
end Go.Proofs.Ytoaeglhjaandmaa
