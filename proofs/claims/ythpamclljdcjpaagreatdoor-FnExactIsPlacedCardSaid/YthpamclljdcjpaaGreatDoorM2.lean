/- Joined texts (Share, Ten, Three, Plain4, Impl3, Help4, Help4b): steps of the proofs of chapter 5's laws. -/
import Derived.Deep.RegionHeld3
import Derived.Test.YthpamclljdcjpaaGreatDoorM1
set_option linter.unusedVariables false
set_option linter.unusedSimpArgs false
/- Helpers of the program and of the model that every chapter uses: bounds, and whether a list has a number. -/
namespace Go.Proofs.YthpamclljdcjpaaGreatDoor
open Go.RowKit

set_option maxHeartbeats 400000 in
theorem allWithin_calls {lo hi : Int} {a : Option Addr} {n c : Nat} {xs : List Int} {w : World} (ha : Ints w a n xs) (hx : n ≤ 17592186044416) :
    Calls Tryz.prog 60 #[.int .i64 lo, .int .i64 hi, .slice a n c] w fun e w' => e = .returned (.bool (within lo hi xs)) ∧ w = w' := by
  have HL := Lib.hid ha.1
  go_enter Tryz.func60, Tryz.ntmps60
  go_wp2
  go_loop [11] (fun i => ∃ k : Nat, k ≤ n ∧ i = .int .i64 k ∧ Hid (within lo hi (xs.take k) = true)) (fun i => n - (intOf i).toNat)
  case atStart => exact ⟨0, Nat.zero_le _, rfl, rfl⟩
  case round =>
    obtain ⟨k, hk, rfl, HW⟩ := hrel
    by_cases hlt : k < n
    · obtain ⟨ba, oa, rfl, hba, hca⟩ := ha.at_ hlt
      have hkx : k < xs.length := by rw [HL.out]; exact hlt
      go_wp2
      · go_ret
        exact ⟨ret_bool (within_no hkx (by assumption)).symm, rfl⟩
      · have h2 : lo ≤ xs[k] ∧ xs[k] ≤ hi := by assumption
        have HS := within_snoc hkx h2.1 h2.2 HW.out
        go_round
        case rel => exact ⟨k + 1, by omega, by go_num, HS⟩
        case measure => simp [intOf]; omega
      · go_ret
        exact ⟨ret_bool (within_no hkx (.inl (by assumption))).symm, rfl⟩
    · have HH : Hid (within lo hi xs = true) := by have := HW.out; rwa [List.take_of_length_le (by have := HL.out; omega)] at this
      go_wp2
      go_ret
      exact ⟨ret_bool HH.out.symm, rfl⟩

theorem l1In_calls {v lo hi : Int} {w : World} :
    Calls Tryz.prog 73 #[.int .i64 v, .int .i64 lo, .int .i64 hi] w fun e w' => e = .returned (.bool (within lo hi [v])) ∧ w = w' := by
  by_cases h1 : lo ≤ v
  · by_cases h2 : v ≤ hi
    · have HF := Lib.hid (show within lo hi [v] = true by rw [within_one]; simp; omega)
      go_enter Tryz.func73, Tryz.ntmps73
      go_wp2
      go_ret
      exact ⟨ret_bool HF.out.symm, rfl⟩
    · have HF := Lib.hid (show within lo hi [v] = false by rw [within_one]; simp; omega)
      go_enter Tryz.func73, Tryz.ntmps73
      go_wp2
      go_ret
      exact ⟨ret_bool HF.out.symm, rfl⟩
  · have HF := Lib.hid (show within lo hi [v] = false by rw [within_one]; simp; omega)
    go_enter Tryz.func73, Tryz.ntmps73
    go_wp2
    go_ret
    exact ⟨ret_bool HF.out.symm, rfl⟩

/-- The list has this number. -/
def hasIn (xs : List Int) (v : Int) : Bool := xs.contains v
theorem contains_no {xs : List Int} {v : Int} {k : Nat} (h : hasIn (xs.take k) v = false) (hk : k < xs.length) (e : (xs[k] == v) = false) : hasIn (xs.take (k + 1)) v = false := by
  unfold hasIn at *
  rw [List.take_succ_eq_append_getElem hk]
  rw [Bool.eq_false_iff] at *
  intro hc
  rw [List.contains_iff_mem] at hc
  rcases List.mem_append.1 hc with h1 | h1
  · exact h (List.contains_iff_mem.2 h1)
  · simp at h1; simp [h1] at e
theorem contains_yes {xs : List Int} {v : Int} {k : Nat} (hk : k < xs.length) (e : (xs[k] == v) = true) : hasIn xs v = true := by
  unfold hasIn
  rw [List.contains_iff_mem]
  have : xs[k] = v := by simpa using e
  exact this ▸ List.getElem_mem hk

theorem l1Has_calls {a : Option Addr} {n c : Nat} {xs : List Int} {v : Int} {w : World} (ha : Ints w a n xs) (hx : n ≤ 17592186044416) :
    Calls Tryz.prog 90 #[.slice a n c, .int .i64 v] w fun e w' => e = .returned (.bool (hasIn xs v)) ∧ w = w' := by
  have HL := Lib.hid ha.1
  go_enter Tryz.func90, Tryz.ntmps90
  go_wp2
  go_loop [5] (fun i => ∃ k : Nat, k ≤ n ∧ i = .int .i64 k ∧ Hid (hasIn (xs.take k) v = false)) (fun i => n - (intOf i).toNat)
  case atStart => exact ⟨0, Nat.zero_le _, rfl, rfl⟩
  case round =>
    obtain ⟨k, hk, rfl, HW⟩ := hrel
    by_cases hlt : k < n
    · obtain ⟨ba, oa, rfl, hba, hca⟩ := ha.at_ hlt
      have hkx : k < xs.length := by rw [HL.out]; exact hlt
      rcases hV : (xs[k] == v) with _ | _
      · have HS := Lib.hid (contains_no HW.out hkx hV)
        go_wp2
        go_round
        case rel => exact ⟨k + 1, by omega, by go_num, HS⟩
        case measure => simp [intOf]; omega
      · have HS := Lib.hid (contains_yes hkx hV)
        go_wp2
        go_ret
        exact ⟨ret_bool HS.out.symm, rfl⟩
    · have HH : Hid (hasIn xs v = false) := by have := HW.out; rwa [List.take_of_length_le (by have := HL.out; omega)] at this
      go_wp2
      go_ret
      exact ⟨ret_bool HH.out.symm, rfl⟩

theorem Ints.grown {w w' : World} {ao : Option Addr} {n : Nat} {xs : List Int} {row : Option Nat} (h : Ints w ao n xs) (hg : w.grownBy w' row) (hd : ∀ a, ao = some a → 0 < n → row ≠ some a.block) : Ints w' ao n xs := by
  refine ⟨h.1, fun h0 => ?_⟩
  obtain ⟨b, off, rfl, hb, hc⟩ := h.2 h0
  refine ⟨b, off, rfl, Nat.lt_of_lt_of_le hb hg.size, fun j hj => ?_⟩
  have hb' : w'.heap[b]? = w.heap[b]? := hg.block b hb (fun e => hd _ rfl h0 e.symm)
  rw [World.cell?_of_block (w := w) (a := ⟨b, off + j, none⟩) hb']
  exact hc j hj
theorem Ints.old {w : World} {ao : Option Addr} {n : Nat} {xs : List Int} (h : Ints w ao n xs) : ∀ x, ao = some x → 0 < n → x.block < w.heap.size := by
  rintro x rfl h0
  obtain ⟨b, off, he, hb, _⟩ := h.2 h0
  injection he with he; subst he; exact hb

/-- A row of the call's own that is appended to: the n numbers xs, in a block from B on. -/
def OwnE (w : World) (B : Nat) (v : Value) (n : Nat) (xs : List Int) : Prop := w.ownsRow B 2 1 v n (xs.map (Value.int .i64))
theorem OwnE.own {w : World} {B n : Nat} {v : Value} {xs : List Int} (h : OwnE w B v n xs) : OwnI w B v n xs := ⟨_, h⟩
theorem OwnE.nil (w : World) (B : Nat) : OwnE w B (.slice none 0 0) 0 [] := World.ownsRow_nil _ _ _ _
theorem OwnE.made {w : World} {B b : Nat} (hB : B ≤ w.heap.size) (hb : b = w.heap.size) : OwnE (w.alloc (.cells #[] 2)) B (.slice (some ⟨b, 0, none⟩) 0 0) 0 [] := by
  subst hb; exact World.ownsRow_made w #[] 0 hB (Nat.zero_le _) rfl
theorem OwnE.below {w w' : World} {B n : Nat} {v : Value} {xs : List Int} (h : OwnE w B v n xs) (hb : Below w.heap.size w w') : OwnE w' B v n xs := by
  obtain ⟨h1, h2⟩ := h
  refine ⟨h1, ?_⟩
  rcases h2 with h2 | ⟨g, cap, cur, hv, hg, hh, r⟩
  · exact .inl h2
  · exact .inr ⟨g, cap, cur, hv, hg, by rw [hb.block g (Array.getElem?_eq_some_iff.1 hh).1]; exact hh, r⟩
theorem OwnE.lt {w : World} {B n : Nat} {v : Value} {xs : List Int} (h : OwnE w B v n xs) (k : Nat) (hk : v.ownBlock = some k) : B ≤ k := (World.ownsRow.lt h k hk).1

theorem cell_one {w : World} {u : Int} {t : TypeId} {b : Nat} (hb : b = w.heap.size) : (w.alloc (.cells #[.int .i64 u] t)).cell? ⟨b, 0, none⟩ = some (.int .i64 u) := by
  subst hb; rw [cell_of_row _ _ 0 _ _ _ (heap_alloc_new w _)]; rfl
theorem wpList_append_one {ops : Array Oper} {rest : List Oper} {o : Oper} {a : Act} {w : World} {Q : Exit → Act → World → Prop} (hgd : o.guard = none) (s x : Operand)
    (ho : o.op = .call { callee := .builtin .append, args := #[s, x], argTypes := #[25, 25] })
    {B n b c : Nat} {v : Value} {xs : List Int} {u : Int} (hs : a.eval s = v) (hown : OwnE w B v n xs) (hx : a.eval x = .slice (some ⟨b, 0, none⟩) 1 c) (hu : w.cell? ⟨b, 0, none⟩ = some (.int .i64 u))
    (hn : n ≤ 4294967296) (hB : B ≤ w.heap.size)
    (h : ∀ v' w', OwnE w' B v' (n + 1) (xs ++ [u]) → (∀ w0, Below B w0 w → Below B w0 w') → w.grownBy w' v.ownBlock → wpList Tryz.prog ops Q rest (a.put o.dst v') w') : wpList Tryz.prog ops Q (o :: rest) a w := by
  obtain ⟨i0, hi, hz0, hz1, hz2⟩ := info_parts info64
  refine wpList_append_own w hgd s x 25 ho B 2 i0 (.int .i64 0) 1 8 Tryz.underlying25 hi hz0 hz1 hz2 rfl (by decide) v n _ hs hown ⟨b, 0, none⟩ 1 c [.int .i64 u] hx rfl ?_ (by simp [Value.oneCell']) (by unfold maxLen; omega) (by omega) hB ?_
  · intro j y hj
    cases j with
    | zero => simp at hj; subst hj; exact hu
    | succ j => simp at hj
  · intro v' w' h1 h2 _
    refine h v' w' (by simpa [OwnE] using h1) (fun w0 hb => ?_) h2
    exact ⟨h2.os.trans hb.os, h2.tape.trans hb.tape, h2.output.trans hb.output, Nat.le_trans hb.size h2.size, fun k hk => by
      rw [h2.block k (by omega) (fun e => by have := hown.lt k e.symm; omega)]; exact hb.block k hk⟩
end Go.Proofs.YthpamclljdcjpaaGreatDoor

/- Chapter 2: configs in memory, and what its functions answer, in plain words. -/
namespace Go.Proofs.YthpamclljdcjpaaGreatDoor
open Go.RowKit

/-- What is known of element j. -/
def tenAt (ts : List (List Int × Int)) (j : Nat) : List Int × Int := ts.getD j ([], 0)

/-- One tenant's two cells at an address. -/
def Ten (w : World) (b o : Nat) (t : List Int × Int) : Prop :=
  b < w.heap.size ∧ ∃ a m c, m ≤ c ∧ w.cell? ⟨b, o, none⟩ = some (.slice a m c) ∧ w.cell? ⟨b, o + 1, none⟩ = some (.int .i64 t.2) ∧ Ints w a m t.1

theorem Ten.below {w w' : World} {b o : Nat} {t : List Int × Int} (h : Ten w b o t) (hb : Below w.heap.size w w') : Ten w' b o t := by
  obtain ⟨h0, a, m, c, hm, h1, h2, h3⟩ := h
  exact ⟨Nat.lt_of_lt_of_le h0 hb.size, a, m, c, hm, (hb.cell (p := ⟨b, o, none⟩) h0).trans h1, (hb.cell (p := ⟨b, o + 1, none⟩) h0).trans h2, h3.below hb⟩
theorem Ten.drewN {w : World} {b o : Nat} {t : List Int × Int} (h : Ten w b o t) (n : Nat) : Ten (w.drewN n) b o t := h

/-- The slice of n tenants at 'ao' reads as ts. -/
def Tens (w : World) (ao : Option Addr) (n : Nat) (ts : List (List Int × Int)) : Prop :=
  ts.length = n ∧ (0 < n → ∃ b off, ao = some ⟨b, off, none⟩ ∧ b < w.heap.size ∧ ∀ j, j < n → Ten w b (off + j * 2) (tenAt ts j))

theorem Tens.below {w w' : World} {ao : Option Addr} {n : Nat} {ts : List (List Int × Int)} (h : Tens w ao n ts) (hb : Below w.heap.size w w') : Tens w' ao n ts := by
  refine ⟨h.1, fun h0 => ?_⟩
  obtain ⟨b, off, rfl, hlt, hc⟩ := h.2 h0
  exact ⟨b, off, rfl, Nat.lt_of_lt_of_le hlt hb.size, fun j hj => (hc j hj).below hb⟩
theorem Tens.alloc {w : World} {ao : Option Addr} {n : Nat} {ts : List (List Int × Int)} (h : Tens w ao n ts) (o : Obj) : Tens (w.alloc o) ao n ts := h.below ((Below.refl _ _).alloc (Nat.le_refl _) o)
theorem Tens.drewN {w : World} {ao : Option Addr} {n : Nat} {ts : List (List Int × Int)} (h : Tens w ao n ts) (k : Nat) : Tens (w.drewN k) ao n ts := h
theorem Tens.none_ (w : World) : Tens w none 0 [] := ⟨rfl, fun h => absurd h (by omega)⟩
theorem Tens.at_ {w : World} {ao : Option Addr} {n : Nat} {ts : List (List Int × Int)} (h : Tens w ao n ts) {k : Nat} (hk : k < n) :
    ∃ b off, ao = some ⟨b, off, none⟩ ∧ Ten w b (off + k * 2) (tenAt ts k) := by
  obtain ⟨b, off, rfl, hb, hc⟩ := h.2 (by omega)
  exact ⟨b, off, rfl, hc k hk⟩

/-- No list of colours is longer than this. -/
def Short (N : Nat) (ts : List (List Int × Int)) : Prop := ∀ t ∈ ts, t.1.length ≤ N
theorem Short.at_ {N : Nat} {ts : List (List Int × Int)} (h : Short N ts) (k : Nat) : (tenAt ts k).1.length ≤ N := by
  unfold tenAt
  rcases Nat.lt_or_ge k ts.length with hk | hk
  · rw [List.getD_eq_getElem?_getD, List.getElem?_eq_getElem hk]; exact h _ (List.getElem_mem hk)
  · rw [List.getD_eq_getElem?_getD, List.getElem?_eq_none hk]; simp

/-- These rise. -/
def risingTo (xs : List Int) (k : Nat) : Prop := ∀ i, 1 ≤ i → i < k → xs.getD (i - 1) 0 < xs.getD i 0
def rising (xs : List Int) : Bool := (List.range xs.length).all fun i => decide (i = 0) || decide (xs.getD (i - 1) 0 < xs.getD i 0)
theorem rising_iff (xs : List Int) : rising xs = true ↔ risingTo xs xs.length := by
  unfold rising risingTo
  simp only [List.all_eq_true, List.mem_range, Bool.or_eq_true, decide_eq_true_iff]
  constructor
  · intro h i h1 h2
    rcases h i h2 with h3 | h3
    · omega
    · exact h3
  · intro h i hi
    by_cases h0 : i = 0
    · exact .inl h0
    · exact .inr (h i (by omega) hi)
theorem rising_no {xs : List Int} {k : Nat} (h1 : 1 ≤ k) (hk : k < xs.length) (h : ¬ xs.getD (k - 1) 0 < xs.getD k 0) : rising xs = false := by
  rcases hb : rising xs with _ | _
  · rfl
  · exact absurd ((rising_iff xs).1 hb k h1 hk) h
theorem risingTo_succ {xs : List Int} {k : Nat} (h : risingTo xs k) (h1 : xs.getD (k - 1) 0 < xs.getD k 0) : risingTo xs (k + 1) := by
  intro i i1 i2
  by_cases e : i = k
  · rw [e]; exact h1
  · exact h i i1 (by omega)

/-- What is wrong with one tenant. -/
def tenantFault (C : Int) (t : List Int × Int) : Int :=
  if within 1 2 [t.2] = true ∧ within 0 (C - 1) t.1 = true then (if rising t.1 = true then 0 else 1) else 3
/-- The first fault of the tenants, one by one. -/
def firstFault (C : Int) : List (List Int × Int) → Int
  | [] => 0
  | t :: r => if tenantFault C t = 0 then firstFault C r else tenantFault C t
theorem firstFault_at {C : Int} : ∀ {ts : List (List Int × Int)} {k : Nat}, k < ts.length → (∀ j, j < k → tenantFault C (tenAt ts j) = 0) → tenantFault C (tenAt ts k) ≠ 0 → firstFault C ts = tenantFault C (tenAt ts k)
  | [], k, hk, _, _ => by simp at hk
  | t :: r, 0, _, _, h => by simp [firstFault, tenAt] at h ⊢; exact fun h2 => absurd h2 h
  | t :: r, k + 1, hk, h0, h => by
    have h1 : tenantFault C t = 0 := by simpa [tenAt] using h0 0 (by omega)
    unfold firstFault
    rw [if_pos h1]
    have := firstFault_at (C := C) (ts := r) (k := k) (by simpa using hk) (fun j hj => by simpa [tenAt] using h0 (j + 1) (by omega)) (by simpa [tenAt] using h)
    simpa [tenAt] using this
theorem firstFault_ok {C : Int} : ∀ {ts : List (List Int × Int)}, (∀ j, j < ts.length → tenantFault C (tenAt ts j) = 0) → firstFault C ts = 0
  | [], _ => rfl
  | t :: r, h => by
    have h1 : tenantFault C t = 0 := by simpa [tenAt] using h 0 (by simp)
    unfold firstFault
    rw [if_pos h1]
    exact firstFault_ok fun j hj => by simpa [tenAt] using h (j + 1) (by simpa using hj)
theorem firstFault_all {C : Int} : ∀ {ts : List (List Int × Int)}, firstFault C ts = 0 → ∀ j, j < ts.length → tenantFault C (tenAt ts j) = 0
  | [], _, j, hj => by simp at hj
  | t :: r, h, j, hj => by
    unfold firstFault at h
    split at h
    · rename_i h1
      cases j with
      | zero => simpa [tenAt] using h1
      | succ j => simpa [tenAt] using firstFault_all h j (by simpa using hj)
    · rename_i h1; exact absurd h h1
theorem tenantFault_ok {C : Int} {t : List Int × Int} (h : tenantFault C t = 0) : 1 ≤ t.2 ∧ t.2 ≤ 2 ∧ within 0 (C - 1) t.1 = true ∧ rising t.1 = true := by
  unfold tenantFault at h
  split at h
  · rename_i h1
    split at h
    · have := h1.1
      rw [within_one] at this
      simp at this
      exact ⟨this.1, this.2, h1.2, by assumption⟩
    · omega
  · omega

theorem rising_far {xs : List Int} (h : risingTo xs xs.length) (h0 : within 0 7 xs = true) : ∀ i, i < xs.length → (i : Int) ≤ xs.getD i 0
  | 0, hi => by
    have := within_at h0 hi
    rw [List.getD_eq_getElem?_getD, List.getElem?_eq_getElem hi]; simp; omega
  | i + 1, hi => by
    have h1 := rising_far h h0 i (by omega)
    have h2 := h (i + 1) (by omega) hi
    simp only [Nat.add_sub_cancel] at h2
    omega
theorem short_of_fault {C : Int} {t : List Int × Int} (hC : C ≤ 8) (h : tenantFault C t = 0) : t.1.length ≤ 8 ∧ within 0 7 t.1 = true := by
  obtain ⟨_, _, h1, h2⟩ := tenantFault_ok h
  have h3 : within 0 7 t.1 = true := by
    unfold within at *
    rw [List.all_eq_true] at *
    intro v hv
    have := h1 v hv
    simp at *; omega
  refine ⟨?_, h3⟩
  rcases Nat.lt_or_ge 8 t.1.length with hl | hl
  · have h4 := rising_far ((rising_iff _).1 h2) h3 8 hl
    have h5 := within_at h3 hl
    rw [List.getD_eq_getElem?_getD, List.getElem?_eq_getElem hl] at h4
    simp at h4; omega
  · exact hl

/-- One tenant's colours have this one. -/
def hasColour (t : List Int × Int) (c : Int) : Bool := hasIn t.1 c
/-- Two tenants have the same colour. -/
def shared (ts : List (List Int × Int)) : Bool := (List.range ts.length).any fun i => (List.range i).any fun k => (tenAt ts i).1.any fun c => hasColour (tenAt ts k) c
theorem shared_iff (ts : List (List Int × Int)) : shared ts = true ↔ ∃ i k c, i < ts.length ∧ k < i ∧ c ∈ (tenAt ts i).1 ∧ hasColour (tenAt ts k) c = true := by
  unfold shared
  simp only [List.any_eq_true, List.mem_range]
  constructor
  · rintro ⟨i, hi, k, hk, c, hc, h⟩; exact ⟨i, k, c, hi, hk, hc, h⟩
  · rintro ⟨i, k, c, hi, hk, hc, h⟩; exact ⟨i, hi, k, hk, c, hc, h⟩

/-- No colour of the first i tenants is an earlier one's; of tenant i none is one of the first k tenants'; of its first n colours none is tenant k's. -/
def NoShare (ts : List (List Int × Int)) (i : Nat) : Prop := ∀ i' k c, i' < i → k < i' → c ∈ (tenAt ts i').1 → hasColour (tenAt ts k) c = false
def NoShare2 (ts : List (List Int × Int)) (i k : Nat) : Prop := ∀ k' c, k' < k → c ∈ (tenAt ts i).1 → hasColour (tenAt ts k') c = false
def NoShare3 (ts : List (List Int × Int)) (i k n : Nat) : Prop := ∀ c, c ∈ ((tenAt ts i).1).take n → hasColour (tenAt ts k) c = false
theorem NoShare.zero (ts : List (List Int × Int)) : NoShare ts 0 := fun _ _ _ h => by omega
theorem NoShare.succ {ts : List (List Int × Int)} {i : Nat} (h : NoShare ts i) (h2 : NoShare2 ts i i) : NoShare ts (i + 1) := by
  intro i' k c h1 hk hc
  by_cases e : i' = i
  · subst e; exact h2 k c hk hc
  · exact h i' k c (by omega) hk hc
theorem NoShare2.succ {ts : List (List Int × Int)} {i k : Nat} (h : NoShare2 ts i k) (h3 : NoShare3 ts i k (tenAt ts i).1.length) : NoShare2 ts i (k + 1) := by
  intro k' c h1 hc
  by_cases e : k' = k
  · subst e; exact h3 c (by rw [List.take_of_length_le (Nat.le_refl _)]; exact hc)
  · exact h k' c (by omega) hc
theorem NoShare3.succ {ts : List (List Int × Int)} {i k n : Nat} (h : NoShare3 ts i k n) (hn : n < (tenAt ts i).1.length) (h1 : hasColour (tenAt ts k) ((tenAt ts i).1)[n] = false) : NoShare3 ts i k (n + 1) := by
  intro c hc
  rw [List.take_succ_eq_append_getElem hn] at hc
  rcases List.mem_append.1 hc with h2 | h2
  · exact h c h2
  · simp at h2; subst h2; exact h1
theorem NoShare3.zero (ts : List (List Int × Int)) (i k : Nat) : NoShare3 ts i k 0 := fun c hc => by simp at hc
theorem NoShare2.zero (ts : List (List Int × Int)) (i : Nat) : NoShare2 ts i 0 := fun _ _ h => by omega
theorem shared_no {ts : List (List Int × Int)} (h : NoShare ts ts.length) : shared ts = false := by
  rw [Bool.eq_false_iff]
  intro hs
  obtain ⟨i, k, c, hi, hk, hc, h1⟩ := (shared_iff ts).1 hs
  rw [h i k c hi hk hc] at h1; cases h1
theorem shared_yes {ts : List (List Int × Int)} {i k n : Nat} (hi : i < ts.length) (hk : k < i) (hn : n < (tenAt ts i).1.length) (h : hasColour (tenAt ts k) ((tenAt ts i).1)[n] = true) : shared ts = true :=
  (shared_iff ts).2 ⟨i, k, _, hi, hk, List.getElem_mem hn, h⟩

/-- What 'ConfigFault' tells. -/
def configFault (F C : Int) (ts : List (List Int × Int)) : Int :=
  if within 1 40 [F] = true ∧ within 1 8 [C] = true then
    (if 1 ≤ ts.length ∧ ts.length ≤ 3 then (if firstFault C ts = 0 then (if shared ts = true then 6 else 0) else firstFault C ts) else 2) else 3
theorem configFault_ok {F C : Int} {ts : List (List Int × Int)} (h : configFault F C ts = 0) :
    1 ≤ F ∧ F ≤ 40 ∧ 1 ≤ C ∧ C ≤ 8 ∧ 1 ≤ ts.length ∧ ts.length ≤ 3 ∧ firstFault C ts = 0 ∧ shared ts = false := by
  unfold configFault at h
  split at h
  · rename_i h1
    obtain ⟨h1, h2⟩ := h1
    rw [within_one] at h1 h2
    simp at h1 h2
    split at h
    · rename_i h3
      split at h
      · rename_i h4
        split at h
        · omega
        · rename_i h5
          exact ⟨h1.1, h1.2, h2.1, h2.2, h3.1, h3.2, h4, by simpa using h5⟩
      · rename_i h4; exact absurd h h4
    · omega
  · omega

def colourOf (F C : Int) (ts : List (List Int × Int)) (f : Int) : Int × Int :=
  if configFault F C ts = 0 then (if within 0 (F - 1) [f] = true then (0, f % C) else (3, 0)) else (configFault F C ts, 0)
/-- Of the first n frames those whose colour this tenant has. -/
def framesTo (C : Int) (t : List Int × Int) (n : Nat) : List Int := ((List.range n).map fun i : Nat => (i : Int)).filter fun f => hasColour t (f % C)
theorem framesTo_zero (C : Int) (t : List Int × Int) : framesTo C t 0 = [] := rfl
theorem framesTo_yes {C : Int} {t : List Int × Int} {n : Nat} (h : hasColour t ((n : Int) % C) = true) : framesTo C t (n + 1) = framesTo C t n ++ [(n : Int)] := by
  simp [framesTo, List.range_succ, List.filter_append, h]
theorem framesTo_no {C : Int} {t : List Int × Int} {n : Nat} (h : hasColour t ((n : Int) % C) = false) : framesTo C t (n + 1) = framesTo C t n := by
  simp [framesTo, List.range_succ, List.filter_append, h]
theorem length_framesTo (C : Int) (t : List Int × Int) (n : Nat) : (framesTo C t n).length ≤ n := by
  have := List.length_filter_le (fun f => hasColour t (f % C)) ((List.range n).map fun i : Nat => (i : Int))
  simpa [framesTo] using this
theorem mem_framesTo {C : Int} {t : List Int × Int} {n : Nat} {f : Int} : f ∈ framesTo C t n ↔ 0 ≤ f ∧ f < n ∧ hasColour t (f % C) = true := by
  unfold framesTo
  simp only [List.mem_filter, List.mem_map, List.mem_range]
  constructor
  · rintro ⟨⟨i, hi, rfl⟩, h⟩; exact ⟨by omega, by omega, h⟩
  · rintro ⟨h0, h1, h⟩; exact ⟨⟨f.toNat, by omega, by omega⟩, h⟩
def framesFor (F C : Int) (ts : List (List Int × Int)) (t : Int) : Int × List Int :=
  if configFault F C ts = 0 then (if within 0 ((ts.length : Int) - 1) [t] = true then (0, framesTo C (tenAt ts t.toNat) F.toNat) else (4, [])) else (configFault F C ts, [])
theorem framesFor_small (F C : Int) (ts : List (List Int × Int)) (t : Int) : (framesFor F C ts t).2.length ≤ 40 := by
  unfold framesFor
  split
  · rename_i h
    have h1 := configFault_ok h
    split
    · have := length_framesTo C (tenAt ts t.toNat) F.toNat
      simp only; omega
    · simp
  · simp
def roomFor (F C : Int) (ts : List (List Int × Int)) (t : Int) : Int × Int := ((framesFor F C ts t).1, ((framesFor F C ts t).2.length : Int))
/-- Those of the first n tenants that have the colour. -/
def holdersTo (ts : List (List Int × Int)) (c : Int) (n : Nat) : List Int := ((List.range n).filter fun i => hasColour (tenAt ts i) c).map fun i : Nat => (i : Int)
theorem holdersTo_yes {ts : List (List Int × Int)} {c : Int} {n : Nat} (h : hasColour (tenAt ts n) c = true) : holdersTo ts c (n + 1) = holdersTo ts c n ++ [(n : Int)] := by
  simp [holdersTo, List.range_succ, List.filter_append, h]
theorem holdersTo_no {ts : List (List Int × Int)} {c : Int} {n : Nat} (h : hasColour (tenAt ts n) c = false) : holdersTo ts c (n + 1) = holdersTo ts c n := by
  simp [holdersTo, List.range_succ, List.filter_append, h]
theorem length_holdersTo (ts : List (List Int × Int)) (c : Int) (n : Nat) : (holdersTo ts c n).length ≤ n := by
  have := List.length_filter_le (fun i => hasColour (tenAt ts i) c) (List.range n)
  simpa [holdersTo] using this
theorem holdersTo_none {ts : List (List Int × Int)} {c : Int} {n : Nat} (h : ∀ j, j < n → hasColour (tenAt ts j) c = false) : holdersTo ts c n = [] := by
  induction n with
  | zero => rfl
  | succ n ih => rw [holdersTo_no (h n (by omega)), ih fun j hj => h j (by omega)]
theorem holdersTo_head {ts : List (List Int × Int)} {c : Int} : ∀ {n k : Nat}, k < n → (∀ j, j < k → hasColour (tenAt ts j) c = false) → hasColour (tenAt ts k) c = true → (holdersTo ts c n).head? = some (k : Int) := by
  intro n
  induction n with
  | zero => intro k hk; omega
  | succ n ih =>
    intro k hk h0 h1
    by_cases e : k = n
    · subst e
      rw [holdersTo_yes h1, holdersTo_none h0]; rfl
    · have h2 := ih (k := k) (by omega) h0 h1
      rcases hb : hasColour (tenAt ts n) c with _ | _
      · rw [holdersTo_no hb]; exact h2
      · rw [holdersTo_yes hb, List.head?_append, h2]; rfl
def ownerOf (F C : Int) (ts : List (List Int × Int)) (f : Int) : Int × Int :=
  if (colourOf F C ts f).1 = 0 then (match (holdersTo ts (colourOf F C ts f).2 ts.length).head? with | some t => (0, t) | none => (4, 0)) else ((colourOf F C ts f).1, 0)

/-- Two new blocks, and what came behind them. -/
theorem two_new {w w1 : World} {o1 o2 : Obj} (h : Below ((w.alloc o1).alloc o2).heap.size ((w.alloc o1).alloc o2) w1) :
    w1.heap[w.heap.size]? = some o1 ∧ w1.heap[w.heap.size + 1]? = some o2 ∧ Below w.heap.size w w1 ∧ w.heap.size + 2 ≤ w1.heap.size := by
  have hs := h.size
  simp at hs
  refine ⟨?_, ?_, below_past (below_past (h.mono (by simp)) |>.mono (by simp)) |>.mono (by simp), by omega⟩
  · rw [h.block _ (by simp; omega), heap_alloc_old _ _ (by simp)]; exact heap_alloc_new _ _
  · rw [h.block _ (by simp)]
    have : w.heap.size + 1 = (w.alloc o1).heap.size := by simp
    rw [this]; exact heap_alloc_new _ _
/-- Three new blocks, and what came behind them. -/
theorem three_new {w w1 : World} {o1 o2 o3 : Obj} (h : Below (((w.alloc o1).alloc o2).alloc o3).heap.size (((w.alloc o1).alloc o2).alloc o3) w1) :
    w1.heap[w.heap.size]? = some o1 ∧ w1.heap[w.heap.size + 1]? = some o2 ∧ w1.heap[w.heap.size + 2]? = some o3 ∧ Below w.heap.size w w1 ∧ w.heap.size + 3 ≤ w1.heap.size := by
  have hs := h.size
  simp at hs
  have h2 := below_past (w := (w.alloc o1).alloc o2) h
  obtain ⟨a, b, c, d⟩ := two_new h2
  refine ⟨a, b, ?_, c, by omega⟩
  rw [h.block _ (by simp)]
  have : w.heap.size + 2 = ((w.alloc o1).alloc o2).heap.size := by simp
  rw [this]; exact heap_alloc_new _ _
theorem four_new {w : World} {o a b c : Obj} : ((((w.alloc o).alloc a).alloc b).alloc c).heap[w.heap.size]? = some o ∧ Below w.heap.size w ((((w.alloc o).alloc a).alloc b).alloc c) := by
  refine ⟨?_, ((((Below.refl _ _).alloc (Nat.le_refl _) _).alloc (by simp) _).alloc (by simp; omega) _).alloc (by simp; omega) _⟩
  rw [heap_alloc_old _ _ (by simp; omega), heap_alloc_old _ _ (by simp; omega), heap_alloc_old _ _ (by simp)]
  exact heap_alloc_new _ _
/-- A result of two numbers. -/
def Pair (w : World) (r : Int × Int) (e : Ending) (w' : World) : Prop := e = .returned (.agg #[.int .i64 r.1, .int .i64 r.2]) ∧ Below w.heap.size w w'
theorem pair_done {w w1 : World} {r : Int × Int} {x y : Int} {g : Nat} (hb : Below w.heap.size w w1) (hg : w.heap.size ≤ g) (cs : Array Value) (h : r = (x, y)) : Pair w r (.returned (.agg #[.int .i64 x, .int .i64 y])) (w1.setRow g cs) :=
  ⟨by rw [h], below_setRow hb hg cs⟩
theorem rets_done {w w1 : World} {r : Int × List Int} {x : Int} {ys : List Int} {g B n : Nat} {v : Value} (hb : Below w.heap.size w w1) (hg : w.heap.size ≤ g) (hv : OwnI w1 B v n ys) (hB : g < B) (cs : Array Value) (h : r = (x, ys)) :
    RetsInts w r (.returned (.agg #[.int .i64 x, v])) (w1.setRow g cs) := by
  subst h
  exact ⟨v, n, rfl, (hv.setRow hB cs).base (by omega), below_setRow hb hg cs⟩
/-- Four cells, and all that was there, are kept. -/
theorem keep4 {W a b : World} {p q r s : Addr} {x y z u : Value} (h : a.cell? p = some x ∧ a.cell? q = some y ∧ a.cell? r = some z ∧ a.cell? s = some u ∧ Below W.heap.size W a) (hb : Below a.heap.size a b) :
    b.cell? p = some x ∧ b.cell? q = some y ∧ b.cell? r = some z ∧ b.cell? s = some u ∧ Below W.heap.size W b := by
  obtain ⟨h1, h2, h3, h5, h4⟩ := h
  exact ⟨(hb.cell (World.block_lt_of_cell? _ _ h1)).trans h1, (hb.cell (World.block_lt_of_cell? _ _ h2)).trans h2, (hb.cell (World.block_lt_of_cell? _ _ h3)).trans h3, (hb.cell (World.block_lt_of_cell? _ _ h5)).trans h5, h4.trans (hb.mono h4.size)⟩
/-- Six cells, and all that was there, are kept. -/
theorem keep6 {W a b : World} {p1 p2 p3 p4 p5 p6 : Addr} {x1 x2 x3 x4 x5 x6 : Value} (h : a.cell? p1 = some x1 ∧ a.cell? p2 = some x2 ∧ a.cell? p3 = some x3 ∧ a.cell? p4 = some x4 ∧ a.cell? p5 = some x5 ∧ a.cell? p6 = some x6 ∧ Below W.heap.size W a) (hb : Below a.heap.size a b) :
    b.cell? p1 = some x1 ∧ b.cell? p2 = some x2 ∧ b.cell? p3 = some x3 ∧ b.cell? p4 = some x4 ∧ b.cell? p5 = some x5 ∧ b.cell? p6 = some x6 ∧ Below W.heap.size W b := by
  obtain ⟨h1, h2, h3, h4, h5, h6, h⟩ := h
  have k := fun (p : Addr) (x : Value) (e : a.cell? p = some x) => (hb.cell (World.block_lt_of_cell? _ _ e)).trans e
  exact ⟨k _ _ h1, k _ _ h2, k _ _ h3, k _ _ h4, k _ _ h5, k _ _ h6, h.trans (hb.mono h.size)⟩
theorem row_alloc {w : World} {p : Nat} {t : TypeId} {cs : Array Value} (h : Row w p t cs) (o : Obj) : Row (w.alloc o) p t cs := h.below ((Below.refl _ _).alloc (Nat.le_refl _) o)
end Go.Proofs.YthpamclljdcjpaaGreatDoor

/- Chapter 3: what its functions answer, in plain words. -/
namespace Go.Proofs.YthpamclljdcjpaaGreatDoor
open Go.RowKit

/-- How many words a block of the class has. -/
def sizeW (c : Int) : Int := if c = 0 then 1 else if c = 1 then 2 else if c = 2 then 4 else 8
/-- The lowest class whose blocks have so many words. -/
def classW (s : Int) : Int := if s ≤ 1 then 0 else if s ≤ 2 then 1 else if s ≤ 4 then 2 else 3
/-- How many steps a kind takes. -/
def stepsW (k : Int) : Int := if k = 1 then 3 else if k = 2 then 4 else if k = 3 then 2 else if k = 4 then 5 else if k = 5 then 2 else if k = 6 then 2 else 1

def classOf (s : Int) : Int × Int := if within 1 8 [s] = true then (0, classW s) else (3, 0)
def sizeOf3 (c : Int) : Int × Int := if within 0 3 [c] = true then (0, sizeW c) else (3, 0)
def slotsOf (c : Int) : Int × Int := if within 0 3 [c] = true then (0, 16 / sizeW c) else (3, 0)
def pagesOf (s : Int) : Int × Int := if within 9 64 [s] = true then (0, (s + 15) / 16) else (3, 0)
def stepsOf (k : Int) : Int × Int := if within 1 8 [k] = true then (0, stepsW k) else (3, 0)

theorem within_yes1 {lo hi v : Int} (h1 : lo ≤ v) (h2 : v ≤ hi) : within lo hi [v] = true := by rw [within_one]; simp; omega
theorem within_no1 {lo hi v : Int} (h : v < lo ∨ hi < v) : within lo hi [v] = false := by rw [within_one]; simp; omega
theorem within_range {lo hi v : Int} (h : within lo hi [v] = true) : lo ≤ v ∧ v ≤ hi := by rw [within_one] at h; simpa using h

theorem classOf_yes {s : Int} (h1 : 1 ≤ s) (h2 : s ≤ 8) : classOf s = (0, classW s) := by unfold classOf; rw [if_pos (within_yes1 h1 h2)]
theorem classOf_no {s : Int} (h : within 1 8 [s] = false) : classOf s = (3, 0) := by unfold classOf; rw [h]; rfl
theorem sizeOf3_yes {c : Int} (h1 : 0 ≤ c) (h2 : c ≤ 3) : sizeOf3 c = (0, sizeW c) := by unfold sizeOf3; rw [if_pos (within_yes1 h1 h2)]
theorem sizeOf3_no {c : Int} (h : within 0 3 [c] = false) : sizeOf3 c = (3, 0) := by unfold sizeOf3; rw [h]; rfl
theorem slotsOf_yes {c : Int} (h1 : 0 ≤ c) (h2 : c ≤ 3) : slotsOf c = (0, 16 / sizeW c) := by unfold slotsOf; rw [if_pos (within_yes1 h1 h2)]
theorem slotsOf_no {c : Int} (h : within 0 3 [c] = false) : slotsOf c = (3, 0) := by unfold slotsOf; rw [h]; rfl
theorem pagesOf_yes {s : Int} (h1 : 9 ≤ s) (h2 : s ≤ 64) : pagesOf s = (0, (s + 15) / 16) := by unfold pagesOf; rw [if_pos (within_yes1 h1 h2)]
theorem pagesOf_no {s : Int} (h : within 9 64 [s] = false) : pagesOf s = (3, 0) := by unfold pagesOf; rw [h]; rfl
theorem stepsOf_yes {k : Int} (h1 : 1 ≤ k) (h2 : k ≤ 8) : stepsOf k = (0, stepsW k) := by unfold stepsOf; rw [if_pos (within_yes1 h1 h2)]
theorem stepsOf_no {k : Int} (h : within 1 8 [k] = false) : stepsOf k = (3, 0) := by unfold stepsOf; rw [h]; rfl

theorem sizeW_small (c : Int) : 1 ≤ sizeW c ∧ sizeW c ≤ 8 := by unfold sizeW; split <;> (try split) <;> (try split) <;> omega
theorem classW_small (s : Int) : 0 ≤ classW s ∧ classW s ≤ 3 := by unfold classW; split <;> (try split) <;> (try split) <;> omega
theorem stepsW_small (k : Int) : 1 ≤ stepsW k ∧ stepsW k ≤ 5 := by unfold stepsW; repeat' split; all_goals omega
theorem classW_holds {s : Int} (h2 : s ≤ 8) : s ≤ sizeW (classW s) := by
  unfold classW sizeW; repeat' split
  all_goals omega
theorem classW_lowest {s : Int} (h : classW s ≠ 0) : sizeW (classW s - 1) < s := by
  unfold classW sizeW at *; repeat' split
  all_goals (repeat' split at h); all_goals omega
theorem sizeW_slots {c : Int} (h1 : 0 ≤ c) (h2 : c ≤ 3) : sizeW c * (16 / sizeW c) = 16 := by
  rcases (show c = 0 ∨ c = 1 ∨ c = 2 ∨ c = 3 by omega) with rfl | rfl | rfl | rfl <;> decide
end Go.Proofs.YthpamclljdcjpaaGreatDoor

/- Chapter 4: what its functions answer, in plain words. -/
namespace Go.Proofs.YthpamclljdcjpaaGreatDoor
open Go.RowKit

/-- One of these is used; the first place of a truth value, or -1. -/
def anyB : List Bool → Bool
  | [] => false
  | b :: r => b || anyB r
def idxB (v : Bool) : List Bool → Nat → Int
  | [], _ => -1
  | x :: r, k => if x = v then k else idxB v r (k + 1)
theorem idxB_some {v : Bool} : ∀ {us : List Bool} {k : Nat}, 0 ≤ idxB v us k → ∃ s : Nat, idxB v us k = ((k + s : Nat) : Int) ∧ us[s]? = some v ∧ ∀ j, j < s → us[j]? ≠ some v
  | [], k, h => by simp [idxB] at h
  | x :: r, k, h => by
    unfold idxB at h ⊢
    split
    · rename_i e; exact ⟨0, by simp, by simp [e], fun j hj => by omega⟩
    · rename_i e
      rw [if_neg e] at h
      obtain ⟨s, h1, h2, h3⟩ := idxB_some h
      refine ⟨s + 1, by rw [h1]; congr 1; omega, by simpa using h2, fun j hj => ?_⟩
      cases j with
      | zero => simpa using e
      | succ j => simpa using h3 j (by omega)
theorem idxB_none {v : Bool} : ∀ {us : List Bool} {k : Nat}, idxB v us k < 0 → ∀ j : Nat, us[j]? ≠ some v
  | [], k, _, j => by simp
  | x :: r, k, h, j => by
    unfold idxB at h
    split at h
    · omega
    · rename_i e
      cases j with
      | zero => simpa using e
      | succ j => simpa using idxB_none h j
theorem anyB_idx : ∀ (us : List Bool) (k : Nat), anyB us = decide (0 ≤ idxB true us k)
  | [], k => by simp [anyB, idxB]
  | x :: r, k => by
    unfold anyB idxB
    cases x with
    | true => simp
    | false => simpa using anyB_idx r (k + 1)
theorem anyB_iff {us : List Bool} : anyB us = true ↔ ∃ s : Nat, us[s]? = some true := by
  rw [anyB_idx us 0, decide_eq_true_iff]
  constructor
  · intro h
    obtain ⟨s, _, h2, _⟩ := idxB_some h
    exact ⟨s, h2⟩
  · rintro ⟨s, hs⟩
    rcases Int.lt_or_le (idxB true us 0) 0 with h | h
    · exact absurd hs (idxB_none h s)
    · exact h

/-- Why a page is none, or 0. -/
def pageFault (p : Pg) : Int :=
  if p.kind = 1 then (if within 0 3 [p.cls] = true then (if p.run = 0 then (if (p.used.length : Int) = 16 / sizeW p.cls then (if anyB p.used = true then 0 else 4) else 2) else 1) else 3)
  else if p.kind = 2 then (if within 1 4 [p.run] = true then (if p.cls = 0 ∧ p.used = [] then 0 else 1) else 3)
  else if p.kind = 0 ∨ p.kind = 3 then (if p.cls = 0 ∧ p.used = [] ∧ p.run = 0 then 0 else 1) else 3
/-- What is known of a right page. -/
theorem pageFault_ok {p : Pg} (h : pageFault p = 0) : (p.kind = 1 ∧ 0 ≤ p.cls ∧ p.cls ≤ 3 ∧ p.run = 0 ∧ (p.used.length : Int) = 16 / sizeW p.cls ∧ anyB p.used = true) ∨
    (p.kind = 2 ∧ 1 ≤ p.run ∧ p.run ≤ 4 ∧ p.cls = 0 ∧ p.used = []) ∨ ((p.kind = 0 ∨ p.kind = 3) ∧ p.cls = 0 ∧ p.used = [] ∧ p.run = 0) := by
  unfold pageFault at h
  split at h
  · left
    split at h
    · rename_i h1 h2
      have := within_range h2
      split at h
      · split at h
        · split at h
          · exact ⟨h1, this.1, this.2, by assumption, by assumption, by assumption⟩
          · omega
        · omega
      · omega
    · omega
  · right
    split at h
    · left
      split at h
      · rename_i h1 h2
        have := within_range h2
        split at h
        · rename_i h3; exact ⟨h1, this.1, this.2, h3.1, h3.2⟩
        · omega
      · omega
    · right
      split at h
      · split at h
        · rename_i h1 h3; exact ⟨h1, h3.1, h3.2.1, h3.2.2⟩
        · omega
      · omega
theorem pageFault_kind {p : Pg} (h : pageFault p = 0) : p.kind = 0 ∨ p.kind = 1 ∨ p.kind = 2 ∨ p.kind = 3 := by
  rcases pageFault_ok h with h | h | h <;> omega
theorem pageFault_slots {p : Pg} (h : pageFault p = 0) : p.used.length ≤ 16 := by
  rcases pageFault_ok h with ⟨_, h1, h2, _, h3, _⟩ | ⟨_, _, _, _, h1⟩ | ⟨_, _, h1, _⟩
  · rcases (show p.cls = 0 ∨ p.cls = 1 ∨ p.cls = 2 ∨ p.cls = 3 by omega) with e | e | e | e <;> rw [e] at h3 <;> simp [sizeW] at h3 <;> omega
  · rw [h1]; simp
  · rw [h1]; simp

/-- The first fault of the pages, one by one. -/
def firstPF : List Pg → Int
  | [] => 0
  | p :: r => if pageFault p = 0 then firstPF r else pageFault p
theorem firstPF_all : ∀ {ps : List Pg}, firstPF ps = 0 → ∀ p ∈ ps, pageFault p = 0
  | [], _, p, hp => by simp at hp
  | q :: r, h, p, hp => by
    unfold firstPF at h
    split at h
    · rcases List.mem_cons.1 hp with rfl | hp
      · assumption
      · exact firstPF_all h p hp
    · rename_i h1; exact absurd h h1
theorem firstPF_of : ∀ {ps : List Pg}, (∀ p ∈ ps, pageFault p = 0) → firstPF ps = 0
  | [], _ => rfl
  | q :: r, h => by
    unfold firstPF
    rw [if_pos (h q (by simp))]; exact firstPF_of fun p hp => h p (by simp [hp])
/-- How many pages a run lacks behind this one; where it lacks some just there a page goes on with it. -/
def nextLeft (l : Int) (p : Pg) : Int := if p.kind = 2 then p.run - 1 else if p.kind = 3 then l - 1 else l
def whole : Int → List Pg → Bool
  | l, [] => decide (l = 0)
  | l, p :: r => if decide (p.kind = 3) = decide (0 < l) then whole (nextLeft l p) r else false
def pagesFault (ps : List Pg) : Int := if 40 < ps.length then 2 else if firstPF ps = 0 then (if whole 0 ps = true then 0 else 8) else firstPF ps
theorem pagesFault_ok {ps : List Pg} (h : pagesFault ps = 0) : ps.length ≤ 40 ∧ (∀ p ∈ ps, pageFault p = 0) ∧ whole 0 ps = true := by
  unfold pagesFault at h
  split at h
  · omega
  · split at h
    · split at h
      · exact ⟨by omega, firstPF_all (by assumption), by assumption⟩
      · omega
    · rename_i h1; exact absurd h h1
theorem pagesFault_of {ps : List Pg} (h1 : ps.length ≤ 40) (h2 : ∀ p ∈ ps, pageFault p = 0) (h3 : whole 0 ps = true) : pagesFault ps = 0 := by
  unfold pagesFault
  rw [if_neg (by omega), if_pos (firstPF_of h2), if_pos h3]
theorem pagesFault_short {ps : List Pg} (h : pagesFault ps = 0) : ShortP 16 ps := fun p hp => pageFault_slots ((pagesFault_ok h).2.1 p hp)

/-- The first slot of this class that is not used; the first free page. -/
def gapIn (c : Int) : Nat → List Pg → Option (Nat × Nat)
  | _, [] => none
  | k, p :: r => if p.kind = 1 ∧ p.cls = c ∧ 0 ≤ idxB false p.used 0 then some (k, (idxB false p.used 0).toNat) else gapIn c (k + 1) r
def freeIn : Nat → List Pg → Option Nat
  | _, [] => none
  | k, p :: r => if p.kind = 0 then some k else freeIn (k + 1) r
def slotFor (ps : List Pg) (c : Int) : Option (Nat × Nat) := match gapIn c 0 ps with
  | some x => some x
  | none => (freeIn 0 ps).map fun i => (i, 0)
/-- The same in one walk. -/
def scan (c : Int) : Nat → Option (Nat × Nat) → List Pg → Option (Nat × Nat)
  | _, f, [] => f
  | k, f, p :: r => if p.kind = 1 ∧ p.cls = c ∧ 0 ≤ idxB false p.used 0 then some (k, (idxB false p.used 0).toNat) else scan c (k + 1) (if p.kind = 0 ∧ f = none then some (k, 0) else f) r
theorem scan_eq (c : Int) : ∀ (ps : List Pg) (k : Nat) (f : Option (Nat × Nat)), scan c k f ps = match gapIn c k ps with
    | some x => some x
    | none => match f with
      | some x => some x
      | none => (freeIn k ps).map fun i => (i, 0)
  | [], k, f => by cases f <;> simp [scan, gapIn, freeIn]
  | p :: r, k, f => by
    unfold scan gapIn
    split
    · rfl
    · rw [scan_eq c r]
      cases hg : gapIn c (k + 1) r with
      | some x => rfl
      | none =>
        simp only
        cases f with
        | some x => simp
        | none =>
          by_cases h0 : p.kind = 0
          · simp [h0, freeIn]
          · simp [h0, freeIn]
theorem scan_slotFor (ps : List Pg) (c : Int) : scan c 0 none ps = slotFor ps c := by rw [scan_eq]; rfl
theorem gapIn_some {c : Int} : ∀ {ps : List Pg} {k i s : Nat}, gapIn c k ps = some (i, s) → ∃ p, k ≤ i ∧ ps[i - k]? = some p ∧ p.kind = 1 ∧ p.cls = c ∧ idxB false p.used 0 = (s : Int)
  | [], k, i, s, h => by simp [gapIn] at h
  | p :: r, k, i, s, h => by
    unfold gapIn at h
    split at h
    · rename_i h1
      simp at h
      obtain ⟨rfl, rfl⟩ := h
      exact ⟨p, Nat.le_refl _, by simp, h1.1, h1.2.1, by omega⟩
    · obtain ⟨q, h1, h2, h3⟩ := gapIn_some h
      refine ⟨q, by omega, ?_, h3⟩
      rw [show i - k = (i - (k + 1)) + 1 by omega, List.getElem?_cons_succ]; exact h2
theorem freeIn_some : ∀ {ps : List Pg} {k i : Nat}, freeIn k ps = some i → ∃ p, k ≤ i ∧ ps[i - k]? = some p ∧ p.kind = 0
  | [], k, i, h => by simp [freeIn] at h
  | p :: r, k, i, h => by
    unfold freeIn at h
    split at h
    · simp at h; subst h; exact ⟨p, Nat.le_refl _, by simp, by assumption⟩
    · obtain ⟨q, h1, h2, h3⟩ := freeIn_some h
      refine ⟨q, by omega, ?_, h3⟩
      rw [show i - k = (i - (k + 1)) + 1 by omega, List.getElem?_cons_succ]; exact h2
/-- Where a slot is taken: in a page of the class that has one left, or in a free one. -/
theorem slotFor_some {ps : List Pg} {c : Int} {i s : Nat} (h : slotFor ps c = some (i, s)) : ∃ p, ps[i]? = some p ∧ ((p.kind = 1 ∧ p.cls = c ∧ p.used[s]? = some false) ∨ (p.kind = 0 ∧ s = 0)) := by
  unfold slotFor at h
  cases hg : gapIn c 0 ps with
  | some x =>
    rw [hg] at h
    simp at h; subst h
    obtain ⟨p, _, h1, h2, h3, h4⟩ := gapIn_some hg
    obtain ⟨s', h5, h6, _⟩ := idxB_some (v := false) (us := p.used) (k := 0) (by omega)
    obtain rfl : s = s' := by omega
    exact ⟨p, by simpa using h1, .inl ⟨h2, h3, h6⟩⟩
  | none =>
    rw [hg] at h
    simp at h
    obtain ⟨i', h1, rfl, rfl⟩ := h
    obtain ⟨p, _, h2, h3⟩ := freeIn_some h1
    exact ⟨p, by simpa using h2, .inr ⟨h3, rfl⟩⟩
/-- Page i with slot s used. -/
def slabOf (c : Int) : Pg := ⟨1, c, List.replicate (16 / sizeW c).toNat false, 0⟩
def useSlot (p : Pg) (c : Int) (s : Nat) : Pg := if p.kind = 0 then ⟨1, c, (List.replicate (16 / sizeW c).toNat false).set s true, 0⟩ else ⟨p.kind, p.cls, p.used.set s true, p.run⟩
def putSlot (ps : List Pg) (c : Int) (i s : Nat) : List Pg := match ps[i]? with
  | some p => ps.set i (useSlot p c s)
  | none => ps
def findSlot (ps : List Pg) (c : Int) : Int × List Pg × Int :=
  if pagesFault ps = 0 then (if within 0 3 [c] = true then (match slotFor ps c with | some (i, s) => (0, putSlot ps c i s, (i : Int) * 16 + s * sizeW c) | none => (7, [], 0)) else (3, [], 0)) else (pagesFault ps, [], 0)

/-- The first n of these are there and free. -/
def freeN : Nat → List Pg → Bool
  | 0, _ => true
  | _ + 1, [] => false
  | n + 1, p :: r => decide (p.kind = 0) && freeN n r
/-- The first place from which on n are free. -/
def runFrom (n : Nat) : Nat → List Pg → Option Nat
  | _, [] => none
  | k, p :: r => if freeN n (p :: r) = true then some k else runFrom n (k + 1) r
def findRun (ps : List Pg) (n : Int) : Int × Int :=
  if pagesFault ps = 0 then (if within 1 4 [n] = true then (match runFrom n.toNat 0 ps with | some i => (0, (i : Int)) | none => (7, 0)) else (3, 0)) else (pagesFault ps, 0)

/-- k pages from one on are this one. -/
def setMany (ps : List Pg) (i : Nat) (x : Pg) : Nat → List Pg
  | 0 => ps
  | k + 1 => (setMany ps i x k).set (i + k) x
theorem length_setMany (ps : List Pg) (i : Nat) (x : Pg) : ∀ k, (setMany ps i x k).length = ps.length
  | 0 => rfl
  | k + 1 => by simp [setMany, length_setMany ps i x k]
theorem setMany_at (ps : List Pg) (i : Nat) (x : Pg) : ∀ (k j : Nat), j < ps.length → (setMany ps i x k)[j]? = if i ≤ j ∧ j < i + k then some x else ps[j]?
  | 0, j, hj => by rw [if_neg (by omega)]; rfl
  | k + 1, j, hj => by
    unfold setMany
    by_cases e : j = i + k
    · subst e
      rw [List.getElem?_set_self (by rw [length_setMany]; exact hj), if_pos (by omega)]
    · rw [List.getElem?_set_ne (by omega), setMany_at ps i x k j hj]
      by_cases h : i ≤ j ∧ j < i + k
      · rw [if_pos h, if_pos (by omega)]
      · rw [if_neg h, if_neg (by omega)]
def restPg : Pg := ⟨3, 0, [], 0⟩
def runPg (n : Int) : Pg := ⟨2, 0, [], n⟩
def putRun (ps : List Pg) (i n : Nat) : List Pg := (setMany ps i restPg n).set i (runPg n)
def takeRun (ps : List Pg) (at_ n : Int) : Int × List Pg × Int :=
  if pagesFault ps = 0 then (if within 1 4 [n] = true ∧ within 0 ((ps.length : Int) - n) [at_] = true then (if freeN n.toNat (ps.drop at_.toNat) = true then (0, putRun ps at_.toNat n.toNat, at_ * 16) else (8, [], 0)) else (3, [], 0)) else (pagesFault ps, [], 0)

/-- The page that begins what page k is part of. -/
def headOf (ps : List Pg) : Nat → Nat
  | 0 => 0
  | k + 1 => if (ps[k + 1]?.map Pg.kind) = some 3 then headOf ps k else k + 1
theorem headOf_le (ps : List Pg) : ∀ k, headOf ps k ≤ k
  | 0 => Nat.le_refl _
  | k + 1 => by unfold headOf; split <;> (try have := headOf_le ps k) <;> omega
/-- What is held at a place: where it begins, how many words it has. -/
inductive Blk where
  | slot (i : Nat) (c : Int) (s : Nat)
  | run (i : Nat) (n : Int)
def Blk.start : Blk → Int
  | .slot i c s => (i : Int) * 16 + s * sizeW c
  | .run i _ => (i : Int) * 16
def Blk.size : Blk → Int
  | .slot _ c _ => sizeW c
  | .run _ n => n * 16
def blockAt (ps : List Pg) (at_ : Nat) : Option Blk := match ps[headOf ps (at_ / 16)]? with
  | none => none
  | some p => if p.kind = 2 then some (.run (headOf ps (at_ / 16)) p.run)
    else if p.kind = 1 then (if p.used[at_ % 16 / (sizeW p.cls).toNat]? = some true then some (.slot (headOf ps (at_ / 16)) p.cls (at_ % 16 / (sizeW p.cls).toNat)) else none) else none
/-- The code of what is asked of a place, and what is held there. -/
def heldAt (ps : List Pg) (at_ : Int) : Int × Option Blk :=
  if pagesFault ps = 0 then (if within 0 ((ps.length : Int) * 16 - 1) [at_] = true then (match blockAt ps at_.toNat with | some b => (0, some b) | none => (4, none)) else (3, none)) else (pagesFault ps, none)
def blockStart (ps : List Pg) (at_ : Int) : Int × Int := match heldAt ps at_ with
  | (_, some b) => (0, b.start)
  | (c, none) => (c, 0)
def blockSize (ps : List Pg) (at_ : Int) : Int × Int := match heldAt ps at_ with
  | (_, some b) => (0, b.size)
  | (c, none) => (c, 0)
def freeSlot (p : Pg) (s : Nat) : Pg := if anyB (p.used.set s false) = true then ⟨p.kind, p.cls, p.used.set s false, p.run⟩ else Pg.free
def dropBlk (ps : List Pg) : Blk → List Pg
  | .slot i _ s => match ps[i]? with
    | some p => ps.set i (freeSlot p s)
    | none => ps
  | .run i n => setMany ps i Pg.free n.toNat
def dropBlock (ps : List Pg) (at_ : Int) : Int × List Pg × Int := match heldAt ps at_ with
  | (_, some b) => if b.start = at_ then (0, dropBlk ps b, at_) else (1, [], 0)
  | (c, none) => (c, [], 0)
def usedIn : List Pg → Nat
  | [] => 0
  | p :: r => (if p.kind = 0 then 0 else 1) + usedIn r
def usedInR (ps : List Pg) : Int × Int := if pagesFault ps = 0 then (0, (usedIn ps : Int)) else (pagesFault ps, 0)

/-- A result of a code, pages and a place, the pages in new memory. -/
def RetsPages (w : World) (r : Int × List Pg × Int) (e : Ending) (w' : World) : Prop :=
  ∃ v n, e = .returned (.agg #[.int .i64 r.1, v, .int .i64 r.2.2]) ∧ Own KPage 137 w' (fun k => w.heap.size ≤ k) v n r.2.1 ∧ Below w.heap.size w w'
end Go.Proofs.YthpamclljdcjpaaGreatDoor

/- Chapter 3 of the program: sizes, slots, pages, steps. -/
namespace Go.Proofs.YthpamclljdcjpaaGreatDoor
open Go.RowKit

theorem wordsOfClass_calls {c : Int} {w : World} (h0 : 0 ≤ c) (h3 : c ≤ 3) :
    Calls Tryz.prog 151 #[.int .i64 c] w fun e w' => e = .returned (.int .i64 (sizeW c)) ∧ w = w' := by
  rcases (show c = 0 ∨ c = 1 ∨ c = 2 ∨ c = 3 by omega) with rfl | rfl | rfl | rfl
  all_goals
    go_enter Tryz.func151, Tryz.ntmps151
    go_wp2
    go_ret
    exact ⟨rfl, rfl⟩

theorem lowestClass_calls {s : Int} {w : World} (h1 : 1 ≤ s) (h8 : s ≤ 8) :
    Calls Tryz.prog 237 #[.int .i64 s] w fun e w' => e = .returned (.int .i64 (classW s)) ∧ w = w' := by
  rcases (show s = 1 ∨ s = 2 ∨ s = 3 ∨ s = 4 ∨ s = 5 ∨ s = 6 ∨ s = 7 ∨ s = 8 by omega) with rfl | rfl | rfl | rfl | rfl | rfl | rfl | rfl
  all_goals
    go_enter Tryz.func237, Tryz.ntmps237
    go_wp2_with (go_at_call 151; go_must (refine (wordsOfClass_calls (by omega) (by omega)).mono ?_); rintro e w' ⟨rfl, rfl⟩)
    go_ret
    exact ⟨rfl, rfl⟩

theorem classOf_calls {c : Int} {w : World} :
    Calls Tryz.prog 202 #[.int .i64 c] w (Pair w (classOf c)) := by
  have hres := heap_alloc_new w (.cells #[.int .i64 0, .int .i64 0] 45)
  have hres2 := (heap_alloc_old (w.alloc (.cells #[.int .i64 0, .int .i64 0] 45)) (.cells #[.int .i64 c] 2) (by simp)).trans hres
  have HB : Hid (Below w.heap.size w ((w.alloc (.cells #[.int .i64 0, .int .i64 0] 45)).alloc (.cells #[.int .i64 c] 2))) := ((Below.refl _ _).alloc (Nat.le_refl _) _).alloc (by simp) _
  clear hres
  by_cases h : 1 ≤ c ∧ c ≤ 8
  · have HR := Lib.hid (classOf_yes h.1 h.2)
    have HW := Lib.hid (within_yes1 h.1 h.2)
    go_enter Tryz.func202, Tryz.ntmps202
    go_wp2_with fail
    refine (allWithin_calls (Ints.one (by simp)) (by omega)).mono ?_
    rw [HW.out]
    rintro e w1 ⟨rfl, rfl⟩
    go_wp2_with fail
    refine (lowestClass_calls h.1 h.2).mono ?_
    rintro e w1 ⟨rfl, rfl⟩
    go_wp2_with (refine wpList_store_row rfl 45 _ _ rfl w.heap.size _ rfl rfl _ _ hres2 (by kernel_rfl) (by rfl) (by simp [Value.oneCell']) ?_)
    refine bodyPost_ret (results_cell_row rfl _ _ w.heap.size _ _ _ _ rfl (setRow_heap _ _ _ _ _ _ hres2) Tryz.underlying45 rfl (by kernel_rfl)) rfl ?_
    exact pair_done HB.out (Nat.le_refl _) _ HR.out
  · have hw : within 1 8 [c] = false := within_no1 (by omega)
    have HR := Lib.hid (classOf_no hw)
    have HW := Lib.hid hw
    clear hw
    go_enter Tryz.func202, Tryz.ntmps202
    go_wp2_with fail
    refine (allWithin_calls (Ints.one (by simp)) (by omega)).mono ?_
    rw [HW.out]
    rintro e w1 ⟨rfl, rfl⟩
    go_wp2_with (refine wpList_store_row rfl 45 _ _ rfl w.heap.size _ rfl rfl _ _ hres2 (by kernel_rfl) (by rfl) (by simp [Value.oneCell']) ?_)
    refine bodyPost_ret (results_cell_row rfl _ _ w.heap.size _ _ _ _ rfl (setRow_heap _ _ _ _ _ _ hres2) Tryz.underlying45 rfl (by kernel_rfl)) rfl ?_
    exact pair_done HB.out (Nat.le_refl _) _ HR.out

theorem sizeOf3_calls {c : Int} {w : World} :
    Calls Tryz.prog 242 #[.int .i64 c] w (Pair w (sizeOf3 c)) := by
  have hres := heap_alloc_new w (.cells #[.int .i64 0, .int .i64 0] 45)
  have hres2 := (heap_alloc_old (w.alloc (.cells #[.int .i64 0, .int .i64 0] 45)) (.cells #[.int .i64 c] 2) (by simp)).trans hres
  have HB : Hid (Below w.heap.size w ((w.alloc (.cells #[.int .i64 0, .int .i64 0] 45)).alloc (.cells #[.int .i64 c] 2))) := ((Below.refl _ _).alloc (Nat.le_refl _) _).alloc (by simp) _
  clear hres
  by_cases h : 0 ≤ c ∧ c ≤ 3
  · have HR := Lib.hid (sizeOf3_yes h.1 h.2)
    have HW := Lib.hid (within_yes1 h.1 h.2)
    go_enter Tryz.func242, Tryz.ntmps242
    go_wp2_with fail
    refine (allWithin_calls (Ints.one (by simp)) (by omega)).mono ?_
    rw [HW.out]
    rintro e w1 ⟨rfl, rfl⟩
    go_wp2_with fail
    refine (wordsOfClass_calls h.1 h.2).mono ?_
    rintro e w1 ⟨rfl, rfl⟩
    go_wp2_with (refine wpList_store_row rfl 45 _ _ rfl w.heap.size _ rfl rfl _ _ hres2 (by kernel_rfl) (by rfl) (by simp [Value.oneCell']) ?_)
    refine bodyPost_ret (results_cell_row rfl _ _ w.heap.size _ _ _ _ rfl (setRow_heap _ _ _ _ _ _ hres2) Tryz.underlying45 rfl (by kernel_rfl)) rfl ?_
    exact pair_done HB.out (Nat.le_refl _) _ HR.out
  · have hw : within 0 3 [c] = false := within_no1 (by omega)
    have HR := Lib.hid (sizeOf3_no hw)
    have HW := Lib.hid hw
    clear hw
    go_enter Tryz.func242, Tryz.ntmps242
    go_wp2_with fail
    refine (allWithin_calls (Ints.one (by simp)) (by omega)).mono ?_
    rw [HW.out]
    rintro e w1 ⟨rfl, rfl⟩
    go_wp2_with (refine wpList_store_row rfl 45 _ _ rfl w.heap.size _ rfl rfl _ _ hres2 (by kernel_rfl) (by rfl) (by simp [Value.oneCell']) ?_)
    refine bodyPost_ret (results_cell_row rfl _ _ w.heap.size _ _ _ _ rfl (setRow_heap _ _ _ _ _ _ hres2) Tryz.underlying45 rfl (by kernel_rfl)) rfl ?_
    exact pair_done HB.out (Nat.le_refl _) _ HR.out

theorem pagesOf_calls {c : Int} {w : World} :
    Calls Tryz.prog 204 #[.int .i64 c] w (Pair w (pagesOf c)) := by
  have hres := heap_alloc_new w (.cells #[.int .i64 0, .int .i64 0] 45)
  have hres2 := (heap_alloc_old (w.alloc (.cells #[.int .i64 0, .int .i64 0] 45)) (.cells #[.int .i64 c] 2) (by simp)).trans hres
  have HB : Hid (Below w.heap.size w ((w.alloc (.cells #[.int .i64 0, .int .i64 0] 45)).alloc (.cells #[.int .i64 c] 2))) := ((Below.refl _ _).alloc (Nat.le_refl _) _).alloc (by simp) _
  clear hres
  by_cases h : 9 ≤ c ∧ c ≤ 64
  · have HR := Lib.hid (pagesOf_yes h.1 h.2)
    have HW := Lib.hid (within_yes1 h.1 h.2)
    go_enter Tryz.func204, Tryz.ntmps204
    go_wp2_with fail
    refine (allWithin_calls (Ints.one (by simp)) (by omega)).mono ?_
    rw [HW.out]
    rintro e w1 ⟨rfl, rfl⟩
    go_wp2_with (refine wpList_store_row rfl 45 _ _ rfl w.heap.size _ rfl rfl _ _ hres2 (by kernel_rfl) (by rfl) (by simp [Value.oneCell']) ?_)
    refine bodyPost_ret (results_cell_row rfl _ _ w.heap.size _ _ _ _ rfl (setRow_heap _ _ _ _ _ _ hres2) Tryz.underlying45 rfl (by kernel_rfl)) rfl ?_
    exact pair_done HB.out (Nat.le_refl _) _ (HR.out.trans (by congr 2; omega))
  · have hw : within 9 64 [c] = false := within_no1 (by omega)
    have HR := Lib.hid (pagesOf_no hw)
    have HW := Lib.hid hw
    clear hw
    go_enter Tryz.func204, Tryz.ntmps204
    go_wp2_with fail
    refine (allWithin_calls (Ints.one (by simp)) (by omega)).mono ?_
    rw [HW.out]
    rintro e w1 ⟨rfl, rfl⟩
    go_wp2_with (refine wpList_store_row rfl 45 _ _ rfl w.heap.size _ rfl rfl _ _ hres2 (by kernel_rfl) (by rfl) (by simp [Value.oneCell']) ?_)
    refine bodyPost_ret (results_cell_row rfl _ _ w.heap.size _ _ _ _ rfl (setRow_heap _ _ _ _ _ _ hres2) Tryz.underlying45 rfl (by kernel_rfl)) rfl ?_
    exact pair_done HB.out (Nat.le_refl _) _ HR.out

theorem slotsOf_calls {c : Int} {w : World} :
    Calls Tryz.prog 219 #[.int .i64 c] w (Pair w (slotsOf c)) := by
  by_cases h : 0 ≤ c ∧ c ≤ 3
  · have HR := Lib.hid (slotsOf_yes h.1 h.2)
    have HS := Lib.hid (sizeOf3_yes h.1 h.2)
    have hs := sizeW_small c
    go_enter Tryz.func219, Tryz.ntmps219
    go_wp2_with fail
    refine sizeOf3_calls.mono ?_
    rw [HS.out]
    rintro e w1 ⟨rfl, b1⟩
    have hres := Row.new b1
    have hb := below_past b1
    have hres2 := (heap_alloc_old w1 (.cells #[.int .i64 0, .int .i64 (sizeW c)] 45) hres.lt).trans hres
    have HB := Lib.hid (hb.alloc hb.size (.cells #[.int .i64 0, .int .i64 (sizeW c)] 45))
    clear b1 hb hres
    obtain ⟨x, hx⟩ : ∃ x, sizeW c = x := ⟨_, rfl⟩
    have HX := Lib.hid hx
    rw [hx] at hs hres2 HB ⊢
    clear hx
    have hd : (x == 0) = false := by simp; omega
    go_wp2_with (refine wpList_store_row rfl 45 _ _ rfl w.heap.size _ rfl rfl _ _ hres2 (by kernel_rfl) (by rfl) (by simp [Value.oneCell']) ?_)
    refine bodyPost_ret (results_cell_row rfl _ _ w.heap.size _ _ _ _ rfl (setRow_heap _ _ _ _ _ _ hres2) Tryz.underlying45 rfl (by kernel_rfl)) rfl ?_
    exact pair_done HB.out (Nat.le_refl _) _ (HR.out.trans (by rw [HX.out]))
  · have hw : within 0 3 [c] = false := within_no1 (by omega)
    have HR := Lib.hid (slotsOf_no hw)
    have HS := Lib.hid (sizeOf3_no hw)
    clear hw
    go_enter Tryz.func219, Tryz.ntmps219
    go_wp2_with fail
    refine sizeOf3_calls.mono ?_
    rw [HS.out]
    rintro e w1 ⟨rfl, b1⟩
    have hres := Row.new b1
    have hb := below_past b1
    have hres2 := (heap_alloc_old w1 (.cells #[.int .i64 3, .int .i64 0] 45) hres.lt).trans hres
    have HB := Lib.hid (hb.alloc hb.size (.cells #[.int .i64 3, .int .i64 0] 45))
    clear b1 hb hres
    go_wp2_with (refine wpList_store_row rfl 45 _ _ rfl w.heap.size _ rfl rfl _ _ hres2 (by kernel_rfl) (by rfl) (by simp [Value.oneCell']) ?_)
    refine bodyPost_ret (results_cell_row rfl _ _ w.heap.size _ _ _ _ rfl (setRow_heap _ _ _ _ _ _ hres2) Tryz.underlying45 rfl (by kernel_rfl)) rfl ?_
    exact pair_done HB.out (Nat.le_refl _) _ HR.out

end Go.Proofs.YthpamclljdcjpaaGreatDoor

/- The laws' helpers over pages: how great they are, their copy, whether two are the same. -/
namespace Go.Proofs.YthpamclljdcjpaaGreatDoor
open Go.RowKit

theorem szPg_calls {a : Option Addr} {n c : Nat} {r x y z : Int} {w : World} (hn : n ≤ 9223372036854775807) (h0 : 0 ≤ r) (h1 : r ≤ 1048576) :
    Calls Tryz.prog 166 #[.agg #[.int .i64 x, .int .i64 y, .slice a n c, .int .i64 z], .int .i64 r] w fun e w' => e = .returned (.int .i64 (if r - n < 0 then -1 else r - n)) ∧ Below w.heap.size w w' := by
  by_cases h : r - (n : Int) < 0
  · have HE := Lib.hid (show (if r - (n : Int) < 0 then (-1 : Int) else r - n) = -1 from if_pos h)
    go_enter Tryz.func166, Tryz.ntmps166
    go_wp2_with fail
    refine (szB_calls hn h0 h1).mono ?_
    rintro e w' ⟨rfl, rfl⟩
    rw [HE.out]
    go_wp2_with fail
    go_ret
    exact ⟨rfl, (Below.refl _ _).alloc (Nat.le_refl _) _⟩
  · have HE := Lib.hid (show (if r - (n : Int) < 0 then (-1 : Int) else r - n) = r - n from if_neg h)
    have hge : ¬ (r - (n : Int) < 0) := h
    go_enter Tryz.func166, Tryz.ntmps166
    go_wp2_with fail
    refine (szB_calls hn h0 h1).mono ?_
    rintro e w' ⟨rfl, rfl⟩
    rw [HE.out]
    go_wp2_with fail
    go_ret
    exact ⟨rfl, (Below.refl _ _).alloc (Nat.le_refl _) _⟩

/-- What the sizes tell: where they are not too great, no list is. -/
def SizedP (n : Nat) (ps : List Pg) (w : World) (e : Ending) (w' : World) : Prop :=
  (e = .returned (.int .i64 (-1)) ∨ ∃ r : Int, e = .returned (.int .i64 r) ∧ 0 ≤ r ∧ r ≤ 1048576 ∧ n ≤ 1048576 ∧ ShortP 1048576 ps) ∧ Below w.heap.size w w'

set_option maxHeartbeats 400000 in
theorem szPgs_calls {ao : Option Addr} {n cc : Nat} {ps : List Pg} {S : Nat → Prop} {q : Int} {w : World} (hT : Lst KPage w S ao n ps) (hn : n ≤ 9223372036854775807) (h0 : 0 ≤ q) (hq : q ≤ 1048576) :
    Calls Tryz.prog 108 #[.slice ao n cc, .int .i64 q] w (SizedP n ps w) := by
  have HL := Lib.hid hT.1
  by_cases h : q - (n : Int) < 0
  · go_enter Tryz.func108, Tryz.ntmps108
    go_wp2_with fail
    go_ret
    exact ⟨.inl rfl, Below.refl _ _⟩
  have hbig : n ≤ 1048576 := by omega
  go_enter Tryz.func108, Tryz.ntmps108
  go_wp2_with fail
  go_loopw [1, 5] (fun q i wr => ∃ k r : Nat, k ≤ n ∧ i = .int .i64 k ∧ r ≤ 1048576 ∧ q = .int .i64 r ∧ Hid (∀ j p, j < k → ps[j]? = some p → p.used.length ≤ 1048576) ∧ Below w.heap.size w wr) (fun _ i _ => n - (intOf i).toNat)
  case atStart => exact ⟨0, (q - n).toNat, Nat.zero_le _, rfl, by omega, by rw [Int.toNat_of_nonneg (by omega)], fun j p hj => by omega, Below.refl _ _⟩
  case round =>
    obtain ⟨k, r, hk, rfl, hr, rfl, HW, hbw⟩ := hrel
    by_cases hlt : k < n
    · obtain ⟨b, off, p, a, l, c, rfl, d0, hp, e0, e1, e2, e3, hlc, hcm, hu⟩ := (hT.below hbw).pg_at hlt
      have HU := Lib.hid hu.1
      have HP := Lib.hid hp
      have hl : l ≤ 9223372036854775807 := by unfold maxLen at hcm; omega
      clear hu hp hcm
      by_cases hneg : (r : Int) - (l : Int) < 0
      · have HE := Lib.hid (show (if (r : Int) - (l : Int) < 0 then (-1 : Int) else r - l) = -1 from if_pos hneg)
        go_wp2_with fail
        refine (szPg_calls hl (by omega) (by omega)).mono ?_
        rintro e w1 ⟨rfl, hb1⟩
        rw [HE.out]
        go_wp2_with fail
        go_ret
        exact ⟨.inl rfl, hbw.trans (hb1.mono hbw.size)⟩
      · have HE := Lib.hid (show (if (r : Int) - (l : Int) < 0 then (-1 : Int) else r - l) = ((r - l : Nat) : Int) by rw [if_neg hneg]; omega)
        have HH : Hid (∀ j p, j < k + 1 → ps[j]? = some p → p.used.length ≤ 1048576) := fun j p' hj hp' => by
          by_cases e : j = k
          · subst e
            have := HP.out.symm.trans hp'
            injection this with this; subst this
            rw [HU.out]; omega
          · exact HW.out j p' (by omega) hp'
        have hge : ¬ (((r - l : Nat) : Int) < 0) := by omega
        go_wp2_with fail
        refine (szPg_calls hl (by omega) (by omega)).mono ?_
        rintro e w1 ⟨rfl, hb1⟩
        rw [HE.out]
        go_wp2_with fail
        go_roundw
        case rel => exact ⟨k + 1, r - l, by omega, by go_num, by omega, rfl, HH, hbw.trans (hb1.mono hbw.size)⟩
        case measure => simp [intOf]; omega
    · have HF : Hid (ShortP 1048576 ps) := by
        intro p hp
        obtain ⟨j, hj, rfl⟩ := List.getElem_of_mem hp
        exact HW.out j _ (by have := HL.out; omega) (List.getElem?_eq_getElem hj)
      go_wp2_with fail
      go_ret
      exact ⟨.inr ⟨_, rfl, by omega, by omega, hbig, HF.out⟩, hbw⟩

set_option maxHeartbeats 400000 in
theorem toPg_calls {a : Option Addr} {n c : Nat} {p : Pg} {S : Nat → Prop} {w : World} (ha : Lst KBool w S a n p.used) (hx : n ≤ 17592186044416) :
    Calls Tryz.prog 167 #[.agg #[.int .i64 p.kind, .int .i64 p.cls, .slice a n c, .int .i64 p.run]] w fun e w' => ∃ v, e = .returned (.agg #[.int .i64 p.kind, .int .i64 p.cls, v, .int .i64 p.run]) ∧ Own KBool 4 w' (fun k => w.heap.size ≤ k) v n p.used ∧ Below w.heap.size w w' := by
  go_enter Tryz.func167, Tryz.ntmps167
  go_wp2_with fail
  refine (toB_calls (((ha.alloc _).alloc _).alloc _) hx).mono ?_
  rintro e w1 ⟨v, rfl, hown, hb1⟩
  obtain ⟨h0, h1, h2, hb, hs⟩ := three_new hb1
  obtain ⟨vo, vc, rfl, hvc, _, _⟩ := hown.shape
  have r0 := Row.cell (w := w1) h0 3
  have q0 := Row.cell (w := w1) h2 0
  have q1 := Row.cell (w := w1) h2 1
  have q2 := Row.cell (w := w1) h2 2
  have q3 := Row.cell (w := w1) h2 3
  have f2 := frozen_of_row w1 (w.heap.size + 2) 2 _ _ h2
  have f3 := frozen_of_row w1 (w.heap.size + 2) 3 _ _ h2
  simp at r0 q0 q1 q2 q3
  have HO := Lib.hid hown
  clear hb1 hown
  have hres := ((heap_setCell_other (w1.setCell ⟨w.heap.size + 1 + 1, 2, none⟩ (.slice vo n vc)) ⟨w.heap.size + 1 + 1, 3, none⟩ (w.heap.size + 1) (.int .i64 p.run) (by simp)).trans (heap_setCell_other w1 ⟨w.heap.size + 1 + 1, 2, none⟩ (w.heap.size + 1) (.slice vo n vc) (by simp))).trans h1
  go_wp2_with (refine wpList_store_row rfl 137 _ _ rfl (w.heap.size + 1) _ rfl rfl _ _ hres (by kernel_rfl) (by rfl) (by simp [Value.oneCell']) ?_)
  refine bodyPost_ret (results_cell_row rfl _ _ (w.heap.size + 1) _ _ _ _ rfl (setRow_heap _ _ _ _ _ _ hres) Tryz.underlying137 rfl (by kernel_rfl)) rfl ?_
  have HO2 := HO.out.mono (S' := fun k => w.heap.size + 3 ≤ k) (fun k hk _ => by simpa using hk)
  refine ⟨_, rfl, (((HO2.turn (Turn.set _ _ _) (fun k hk _ e => ?_)).turn (Turn.set _ _ _) (fun k hk _ e => ?_)).turn (Turn.setRow _ _ _) (fun k hk _ e => ?_)).fresh (by omega), below_setRow ((hb.setCell (by simp; omega) _).setCell (by simp; omega) _) (by omega) _⟩ <;> (try simp at e) <;> omega

/-- A row of pages of which the first k are owned, the others not yet made. -/
def fillP (ps : List Pg) (k : Nat) : List Pg := fillD Pg.free ps k

set_option maxHeartbeats 400000 in
theorem toPgs_calls {ao : Option Addr} {n cc : Nat} {ps : List Pg} {S : Nat → Prop} {w : World} (hT : Lst KPage w S ao n ps) (hS : ShortP 17592186044416 ps) (hn : n ≤ 1048576) :
    Calls Tryz.prog 111 #[.slice ao n cc] w fun e w' => ∃ a, e = .returned (.slice a n n) ∧ Own KPage 137 w' (fun k => w.heap.size ≤ k) (.slice a n n) n ps ∧ Below w.heap.size w w' := by
  have hinfo : (Tryz.prog.info? 137).map (fun i => (i.zero, i.size, i.bytes)) = some (some (.agg #[.int .i64 0, .int .i64 0, .slice none 0 0, .int .i64 0]), 4, 48) := by kernel_rfl
  obtain ⟨i0, hi, hz0, hz1, hz2⟩ := info_parts hinfo
  have HL := Lib.hid hT.1
  have HS := Lib.hid hS
  go_enter Tryz.func111, Tryz.ntmps111
  go_wp2_with (at_make; go_must (refine wpList_make_full _ rfl _ _ 24 rfl w.heap.size 137 i0 (.agg #[.int .i64 0, .int .i64 0, .slice none 0 0, .int .i64 0]) 4 Tryz.underlying24 hi hz0 hz1 _ _ _ _ n rfl rfl rfl rfl (by rw [hz2]; omega) (by unfold maxLen; omega) (Nat.le_refl _) ?_); intro w1 hown hg)
  have hb1 : Below w.heap.size w w1 := (Below.refl _ _).grown hg (Nat.le_refl _) (by simp)
  have hO : Own KPage 137 w1 (fun k => w.heap.size ≤ k) (.slice (some ⟨w.heap.size, 0, none⟩) n n) n (fillP ps 0) := by
    rw [fillP, fillD_zero, HL.out]
    exact Own.of_made (K := KPage) (z := .agg #[.int .i64 0, .int .i64 0, .slice none 0 0, .int .i64 0]) hown (Nat.le_refl _) rfl (KPage_own_mk (p := Pg.free) Own.nil)
  clear hown hg
  go_loopw [4] (fun i wr => ∃ k : Nat, k ≤ n ∧ i = .int .i64 k ∧ Own KPage 137 wr (fun k => w.heap.size ≤ k) (.slice (some ⟨w.heap.size, 0, none⟩) n n) n (fillP ps k) ∧ Below w.heap.size w wr) (fun i _ => n - (intOf i).toNat)
  case atStart => exact ⟨0, Nat.zero_le _, rfl, hO, hb1⟩
  case round =>
    obtain ⟨k, hk, rfl, hO, hbw⟩ := hrel
    by_cases hlt : k < n
    · obtain ⟨b, off, p, a, l, c, rfl, d0, hp, e0, e1, e2, e3, hlc, hcm, hu⟩ := (hT.below hbw).pg_at hlt
      have HP := Lib.hid hp
      have hl : l ≤ 17592186044416 := by have := HS.out.at_ hp; have := hu.1; omega
      clear hp
      go_wp2_with fail
      refine (toPg_calls hu hl).mono ?_
      rintro e w2 ⟨v, rfl, hown, hb2⟩
      obtain ⟨vo, vc, rfl, hvc, _, _⟩ := hown.shape
      obtain ⟨g, cap, cs, F, p0, he, hgS, hp0, hcl, hu0, ho0, hF, hst⟩ := (hO.here.below hb2).focus hlt
      obtain rfl : w.heap.size = g := by simpa [Value.ownBlock] using congrArg Value.ownBlock he
      clear he
      rw [KPage_sz] at hcl hu0 hst
      obtain ⟨c0, c1, c2, c3, rfl, g0, q0, q1, q2, q3, f0, f1, f2, f3⟩ := hu0.cells4 hcl
      have HT := Lib.hid (Turn.set4 (w1 := w2) (g := w.heap.size) (o0 := k * 4) (o1 := k * 4 + 1) (o2 := k * 4 + 2) (o3 := k * 4 + 3) (a := .int .i64 p.kind) (b := .int .i64 p.cls) (c := .slice vo l vc) (d := .int .i64 p.run))
      have hU := hown.turn HT.out (fun k hk _ e => by have := hbw.size; have := hO.shape; omega)
      have hO2 := hst _ (fun k => wr.heap.size ≤ k) (pgCells p (.slice vo l vc)) p rfl (HT.out.mono (fun k hk _ => .inr hk)) (hu0.set4 (a := .int .i64 p.kind) (b := .int .i64 p.cls) (c := .slice vo l vc) (d := .int .i64 p.run) hcl) (KPage_own_mk hU) (fun k hk => .inr (by omega))
      rw [fillP, fillD_step HP.out] at hO2
      have H2 := Lib.hid (And.intro (hO2.mono (S' := fun k => w.heap.size ≤ k) (fun k hk _ => hk.elim (fun h => h.1) (fun h => Nat.le_trans hbw.size h))) (HT.out.below (hbw.trans (hb2.mono hbw.size)) (by have := hbw.size; have := hb2.size; omega) (fun k hk => by omega)))
      clear hO2 hU hst hu0 ho0 hO hown hF hp0 hgS
      go_wp2_with fail
      go_roundw
      case rel => exact ⟨k + 1, by omega, by go_num, H2.out.1, H2.out.2⟩
      case measure => simp [intOf]; omega
    · obtain rfl : k = n := by omega
      have F : Hid (Own KPage 137 wr (fun k => w.heap.size ≤ k) (.slice (some ⟨w.heap.size, 0, none⟩) k k) k ps ∧ Below w.heap.size w wr) := by
        have := hO; rw [fillP, ← HL.out, fillD_full, HL.out] at this; exact ⟨this, hbw⟩
      clear hO hbw
      go_wp2_with fail
      go_ret
      exact ⟨_, rfl, F.out.1, F.out.2⟩
end Go.Proofs.YthpamclljdcjpaaGreatDoor

/- The laws' helpers over pages: compared, marked, held. -/
namespace Go.Proofs.YthpamclljdcjpaaGreatDoor
open Go.RowKit

theorem eqPg_calls {a b : Option Addr} {n m c d : Nat} {p : Pg} {S S' : Nat → Prop} {w : World} (ha : Lst KBool w S a n p.used) (hb : Lst KBool w S' b m p.used) (hx : n ≤ 17592186044416) :
    Calls Tryz.prog 168 #[.agg #[.int .i64 p.kind, .int .i64 p.cls, .slice a n c, .int .i64 p.run], .agg #[.int .i64 p.kind, .int .i64 p.cls, .slice b m d, .int .i64 p.run]] w fun e w' => e = .returned (.bool true) ∧ Below w.heap.size w w' := by
  have hq1 : (p.kind != p.kind) = false := by simp
  have hq2 : (p.cls != p.cls) = false := by simp
  have hq3 : (p.run != p.run) = false := by simp
  go_enter Tryz.func168, Tryz.ntmps168
  go_wp2_with fail
  refine (eqB_calls ((ha.alloc _).alloc _) ((hb.alloc _).alloc _) hx).mono ?_
  rintro e w1 ⟨rfl, hb1⟩
  obtain ⟨h0, h1, hbw, hs⟩ := two_new hb1
  have r0 := Row.cell (w := w1) h0 3
  have r1 := Row.cell (w := w1) h1 3
  simp at r0 r1
  clear hb1
  go_wp2_with fail
  go_ret
  exact ⟨rfl, hbw⟩

/-- Eight cells, and all that was there, are kept. -/
theorem keep8 {W a b : World} {p1 p2 p3 p4 p5 p6 p7 p8 : Addr} {x1 x2 x3 x4 x5 x6 x7 x8 : Value} (h : a.cell? p1 = some x1 ∧ a.cell? p2 = some x2 ∧ a.cell? p3 = some x3 ∧ a.cell? p4 = some x4 ∧ a.cell? p5 = some x5 ∧ a.cell? p6 = some x6 ∧ a.cell? p7 = some x7 ∧ a.cell? p8 = some x8 ∧ Below W.heap.size W a) (hb : Below a.heap.size a b) :
    b.cell? p1 = some x1 ∧ b.cell? p2 = some x2 ∧ b.cell? p3 = some x3 ∧ b.cell? p4 = some x4 ∧ b.cell? p5 = some x5 ∧ b.cell? p6 = some x6 ∧ b.cell? p7 = some x7 ∧ b.cell? p8 = some x8 ∧ Below W.heap.size W b := by
  obtain ⟨h1, h2, h3, h4, h5, h6, h7, h8, h⟩ := h
  have k := fun (p : Addr) (x : Value) (e : a.cell? p = some x) => (hb.cell (World.block_lt_of_cell? _ _ e)).trans e
  exact ⟨k _ _ h1, k _ _ h2, k _ _ h3, k _ _ h4, k _ _ h5, k _ _ h6, k _ _ h7, k _ _ h8, h.trans (hb.mono h.size)⟩

set_option maxHeartbeats 800000 in
theorem eqPgs_calls {a b : Option Addr} {n m c d : Nat} {ps : List Pg} {S S' : Nat → Prop} {w : World} (ha : Lst KPage w S a n ps) (hb : Lst KPage w S' b m ps) (hS : ShortP 17592186044416 ps) (hn : n ≤ 1048576) :
    Calls Tryz.prog 115 #[.slice a n c, .slice b m d] w fun e w' => e = .returned (.bool true) ∧ Below w.heap.size w w' := by
  obtain rfl : n = m := ha.1.symm.trans hb.1
  have h1 : ((n : Int) != (n : Int)) = false := by simp
  have HL := Lib.hid ha.1
  have HS := Lib.hid hS
  go_enter Tryz.func115, Tryz.ntmps115
  go_wp2
  go_loopw [5] (fun i wr => ∃ k : Nat, k ≤ n ∧ i = .int .i64 k ∧ Below w.heap.size w wr) (fun i _ => n - (intOf i).toNat)
  case atStart => exact ⟨0, Nat.zero_le _, rfl, Below.refl _ _⟩
  case round =>
    obtain ⟨k, hk, rfl, hbw⟩ := hrel
    by_cases hlt : k < n
    · obtain ⟨b0, o0, p, a0, l0, c0, rfl, d0, hp, e0, e1, e2, e3, hlc0, hcm0, hu0⟩ := (ha.below hbw).pg_at hlt
      obtain ⟨b1, o1, p', a1, l1, c1, rfl, d1, hp', f0, f1, f2, f3, hlc1, hcm1, hu1⟩ := (hb.below hbw).pg_at hlt
      obtain rfl : p = p' := by rw [hp] at hp'; injection hp'
      have hl : l0 ≤ 17592186044416 := by have := HS.out.at_ hp; have := hu0.1; omega
      have kB := Below.refl wr.heap.size wr
      clear hp hp'
      go_wp2_with fail
      go_region_held3 (fun w' => w'.cell? ⟨b0, o0 + k * 4, none⟩ = some (.int .i64 p.kind) ∧ w'.cell? ⟨b0, o0 + k * 4 + 1, none⟩ = some (.int .i64 p.cls) ∧ w'.cell? ⟨b0, o0 + k * 4 + 2, none⟩ = some (.slice a0 l0 c0) ∧ w'.cell? ⟨b0, o0 + k * 4 + 3, none⟩ = some (.int .i64 p.run) ∧ w'.cell? ⟨b1, o1 + k * 4, none⟩ = some (.int .i64 p.kind) ∧ w'.cell? ⟨b1, o1 + k * 4 + 1, none⟩ = some (.int .i64 p.cls) ∧ w'.cell? ⟨b1, o1 + k * 4 + 2, none⟩ = some (.slice a1 l1 c1) ∧ w'.cell? ⟨b1, o1 + k * 4 + 3, none⟩ = some (.int .i64 p.run) ∧ Below wr.heap.size wr w') (first | assumption | exact ⟨e0, e1, e2, e3, f0, f1, f2, f3, kB.drew⟩)
        ((go_at_call 168; obtain ⟨x0, x1, x2, x3, x4, x5, x6, x7, kb⟩ := ‹_ ∧ _ ∧ _ ∧ _ ∧ _ ∧ _ ∧ _ ∧ _ ∧ Below _ _ _›; refine (eqPg_calls (hu0.below kb) (hu1.below kb) hl).mono ?_; rintro e w' ⟨rfl, b1⟩; have hS' := keep8 ⟨x0, x1, x2, x3, x4, x5, x6, x7, kb⟩ b1))
      have kb2 := hbw.trans (hS'.2.2.2.2.2.2.2.2.mono hbw.size)
      clear hS'
      go_wp2_with fail
      go_roundw
      case rel => exact ⟨k + 1, by omega, by go_num, kb2⟩
      case measure => simp [intOf]; omega
    · go_wp2
      go_ret
      exact ⟨rfl, hbw⟩

/-- A page that is marked from K on; how many marks pages take. -/
def markPg (p : Pg) (K : Int) : Pg := ⟨K, K + 1, marksB (K + 2) p.used.length, K + 2 + p.used.length⟩
def cntP : List Pg → Nat
  | [] => 0
  | p :: r => 3 + p.used.length + cntP r
def marksP : List Pg → Int → List Pg
  | [], _ => []
  | p :: r, K => markPg p K :: marksP r (K + (3 + p.used.length : Nat))
theorem length_marksP : ∀ (ps : List Pg) (K : Int), (marksP ps K).length = ps.length
  | [], _ => rfl
  | p :: r, K => by simp [marksP, length_marksP r]
theorem cntP_take : ∀ {ps : List Pg} {k : Nat} {p : Pg}, ps[k]? = some p → cntP (ps.take (k + 1)) = cntP (ps.take k) + (3 + p.used.length)
  | [], k, p, h => by simp at h
  | q :: r, 0, p, h => by simp at h; subst h; simp [cntP]
  | q :: r, k + 1, p, h => by
    have := cntP_take (ps := r) (k := k) (p := p) (by simpa using h)
    simp only [List.take_succ_cons, cntP] at this ⊢; omega
theorem marksP_at : ∀ {ps : List Pg} {k : Nat} {p : Pg} {K : Int}, ps[k]? = some p → (marksP ps K)[k]? = some (markPg p (K + cntP (ps.take k)))
  | [], k, p, K, h => by simp at h
  | q :: r, 0, p, K, h => by simp at h; subst h; simp [marksP, cntP]
  | q :: r, k + 1, p, K, h => by
    have := marksP_at (ps := r) (k := k) (p := p) (K := K + (3 + q.used.length : Nat)) (by simpa using h)
    simp only [marksP, List.getElem?_cons_succ, List.take_succ_cons, cntP, this]
    congr 2; omega
def markedP (ps : List Pg) (K : Int) (k : Nat) : List Pg := (marksP ps K).take k ++ ps.drop k
theorem markedP_zero (ps : List Pg) (K : Int) : markedP ps K 0 = ps := by simp [markedP]
theorem markedP_full (ps : List Pg) (K : Int) : markedP ps K ps.length = marksP ps K := by simp [markedP, ← length_marksP ps K]
theorem markedP_at {ps : List Pg} {K : Int} {k : Nat} {p : Pg} (h : ps[k]? = some p) : (markedP ps K k)[k]? = some p := by
  have hk := (List.getElem?_eq_some_iff.1 h).1
  unfold markedP
  rw [List.getElem?_append_right (by simp; omega), List.length_take, length_marksP, Nat.min_eq_left (by omega), Nat.sub_self, List.getElem?_drop, Nat.add_zero, h]
theorem markedP_step {ps : List Pg} {K : Int} {k : Nat} {p : Pg} (h : ps[k]? = some p) : (markedP ps K k).set k (markPg p (K + cntP (ps.take k))) = markedP ps K (k + 1) := by
  have hk := (List.getElem?_eq_some_iff.1 h).1
  have hl : ((marksP ps K).take k).length = k := by rw [List.length_take, length_marksP]; omega
  unfold markedP
  rw [List.set_append_right _ _ (by omega), hl, Nat.sub_self, drop_at h, List.set_cons_zero, List.take_add_one, marksP_at h, List.append_assoc]
  rfl
theorem cntP_le {N : Nat} : ∀ {ps : List Pg}, ShortP N ps → cntP ps ≤ ps.length * (N + 3)
  | [], _ => by simp [cntP]
  | p :: r, h => by
    have h1 := h p (by simp)
    have h2 := cntP_le (N := N) (ps := r) (fun q hq => h q (by simp [hq]))
    simp only [cntP, List.length_cons, Nat.add_mul]; omega
theorem cntP_bound {ps : List Pg} (h : ShortP 1048576 ps) (hn : ps.length ≤ 1048576) (k : Nat) : cntP (ps.take k) ≤ 1099514773504 := by
  have h1 := cntP_le (N := 1048576) (ps := ps.take k) (fun q hq => h q (List.mem_of_mem_take hq))
  have h2 : (ps.take k).length ≤ 1048576 := by rw [List.length_take]; omega
  have := Nat.mul_le_mul_right (1048576 + 3) h2
  omega
theorem ShortP_marks {N : Nat} {ps : List Pg} {K : Int} (h : ShortP N ps) : ShortP N (marksP ps K) := by
  intro q hq
  obtain ⟨j, hj, rfl⟩ := List.getElem_of_mem hq
  have hjl : j < ps.length := by rwa [length_marksP] at hj
  have h1 := marksP_at (K := K) (List.getElem?_eq_getElem hjl)
  rw [List.getElem?_eq_getElem hj] at h1
  injection h1 with h1
  rw [h1]
  simp only [markPg, length_marksB]
  exact h _ (List.getElem_mem hjl)

set_option maxHeartbeats 1000000 in
theorem markPgs_calls {v : Value} {n : Nat} {ps : List Pg} {K : Int} {S : Nat → Prop} {w : World} (ho : Own KPage 137 w S v n ps) (hS : ShortP 1048576 ps) (hn : n ≤ 1048576) (h0 : 0 ≤ K) (hK : K ≤ 1048576) :
    Calls Tryz.prog 118 #[v, .int .i64 K] w fun e w' => e = .returned (.int .i64 (K + cntP ps)) ∧ Own KPage 137 w' S v n (marksP ps K) ∧ Turn S w w' := by
  have HL := Lib.hid ho.1
  have HS := Lib.hid hS
  obtain ⟨ao, c, rfl, hnc, hcm, _⟩ := ho.shape
  go_enter Tryz.func118, Tryz.ntmps118
  go_wp2
  go_loopw [1, 5] (fun q i wr => ∃ k r : Nat, k ≤ n ∧ i = .int .i64 k ∧ q = .int .i64 (K + r) ∧ Hid (r = cntP (ps.take k)) ∧ Own KPage 137 wr S (.slice ao n c) n (markedP ps K k) ∧ Turn S w wr) (fun _ i _ => n - (intOf i).toNat)
  case atStart => exact ⟨0, 0, Nat.zero_le _, rfl, by simp, rfl, by rw [markedP_zero]; exact ho, Turn.refl _ _⟩
  case round =>
    obtain ⟨k, r, hk, rfl, rfl, HR, HO, HT⟩ := hrel
    have hr : r ≤ 1099514773504 := by rw [HR.out]; exact cntP_bound HS.out (by rw [HL.out]; exact hn) k
    by_cases hlt : k < n
    · obtain ⟨g, cap, cs, F, p, he, hgS, hp, hcl, hu0, ho0, hF, hst⟩ := HO.focus hlt
      cases he
      have HP : Hid (ps[k]? = some p) := by
        have h1 : k < ps.length := by rw [HL.out]; exact hlt
        have h2 := markedP_at (K := K) (List.getElem?_eq_getElem h1)
        rw [h2] at hp
        show ps[k]? = some p
        rw [List.getElem?_eq_getElem h1]; exact hp
      obtain ⟨v, l, rfl, hU⟩ := KPage_own ho0
      obtain ⟨av, cv, rfl, hlv, hcv, _⟩ := hU.shape
      have hl : l ≤ 1048576 := by have := HS.out.at_ HP.out; have := hU.1; omega
      have HUL := Lib.hid hU.1
      rw [KPage_sz] at hu0 hst
      obtain ⟨c0, c1, c2, c3, hcs, g0, q0, q1, q2, q3, f0, f1, f2, f3⟩ := hu0.cells4 rfl
      injection hcs with e0 hcs; injection hcs with e1 hcs; injection hcs with e2 hcs; injection hcs with e3
      subst e0 e1 e2 e3
      have U1 := ((hu0.set (i := 0) (u := .int .i64 (K + r)) (by simp)).set (i := 1) (u := .int .i64 (K + r + 1)) (by simp))
      have T1 := (Turn.set wr ⟨g, k * 4, none⟩ (.int .i64 (K + r))).trans (Turn.set _ ⟨g, k * 4 + 1, none⟩ (.int .i64 (K + r + 1))) (fun _ h _ => h)
      go_wp2_with fail
      refine (markB_calls (hU.turn T1 (fun k hk _ e => (hF k hk).2.1 e)) (by omega) (by omega) (by omega)).mono ?_
      rintro e w1 ⟨rfl, ho2, ht2⟩
      have hFg : ¬ F g := fun h => (hF g h).2.1 rfl
      have U2 := U1.turn ht2 hFg
      obtain ⟨_, z2, z3⟩ := U2.cell
      have y3 := z2 3 (by simp)
      have y3f := z3 (k * 4 + 3)
      simp at y3
      have U3 := U2.set (i := 3) (u := .int .i64 (K + r + 1 + 1 + l)) (by simp)
      have ho3 := ho2.turn (Turn.set w1 ⟨g, k * 4 + 3, none⟩ (.int .i64 (K + r + 1 + 1 + l))) (fun k' hk' _ e => (hF k' hk').2.1 e)
      have T3 := ((T1.mono (U := fun i => F i ∨ i = g) (fun _ h _ => .inr h)).trans ht2 (fun _ h _ => .inl h)).trans (Turn.set w1 ⟨g, k * 4 + 3, none⟩ (.int .i64 (K + r + 1 + 1 + l))) (fun _ h _ => .inr h)
      have hlu : l = p.used.length := HUL.out.symm
      have hO2 := hst _ F _ (markPg p (K + r)) rfl T3 U3 (by
        have e1 : K + (r : Int) + 2 = K + r + 1 + 1 := by omega
        have := KPage_own_mk (p := markPg p (K + r)) (v := .slice av l cv) (n := l) (S := F) (w := w1.setCell ⟨g, k * 4 + 3, none⟩ (.int .i64 (K + r + 1 + 1 + l))) (by simp only [markPg]; rw [← hlu, e1]; exact ho3)
        simp only [markPg] at this ⊢
        rw [← hlu, e1] at this ⊢
        exact this) (fun k h => .inl h)
      rw [HR.out, markedP_step HP.out, ← HR.out] at hO2
      have HE := cntP_take HP.out
      rw [← HR.out, ← hlu] at HE
      have H2 := Lib.hid (And.intro (hO2.mono (S' := S) (fun k hk _ => hk.elim id (fun h => (hF k h).1))) (HT.trans T3 (fun k hk _ => hk.elim (fun h => (hF k h).1) (fun h => h ▸ hgS))))
      have H3 := Lib.hid HE.symm
      clear hO2 HE hlu T3 ho3 U3 U2 z2 z3 U1 T1 ho2 ht2 hst hF hU ho0 hu0 HO HT hp
      go_wp2_with fail
      go_roundw
      case rel => exact ⟨k + 1, r + (3 + l), by omega, by go_num, by go_num, H3.out, H2.out.1, H2.out.2⟩
      case measure => simp [intOf]; omega
    · obtain rfl : k = n := by omega
      have HF : Hid (r = cntP ps ∧ Own KPage 137 wr S (.slice ao k c) k (marksP ps K) ∧ Turn S w wr) := by
        have h1 := markedP_full ps K
        rw [HL.out] at h1
        rw [h1] at HO
        have h2 := HR.out
        rw [List.take_of_length_le (by rw [HL.out]; omega)] at h2
        exact ⟨h2, HO, HT⟩
      clear HO HT
      go_wp2_with fail
      go_ret
      exact ⟨ret_int (by rw [HF.out.1]), HF.out.2.1, HF.out.2.2⟩

set_option maxHeartbeats 800000 in
theorem heldPgs_calls {ao : Option Addr} {n c : Nat} {ps : List Pg} {K : Int} {S : Nat → Prop} {w : World} (ha : Lst KPage w S ao n (marksP ps K)) (hS : ShortP 1048576 ps) (hn : n ≤ 1048576) (h0 : 0 ≤ K) (hK : K ≤ 1048576) :
    Calls Tryz.prog 170 #[.slice ao n c, .int .i64 K] w fun e w' => e = .returned (.int .i64 (K + cntP ps)) ∧ Below w.heap.size w w' := by
  have HL := Lib.hid ((length_marksP ps K).symm.trans ha.1)
  have HS := Lib.hid hS
  go_enter Tryz.func170, Tryz.ntmps170
  go_wp2
  go_loopw [1, 5] (fun q i wr => ∃ k r : Nat, k ≤ n ∧ i = .int .i64 k ∧ q = .int .i64 (K + r) ∧ Hid (r = cntP (ps.take k)) ∧ Below w.heap.size w wr) (fun _ i _ => n - (intOf i).toNat)
  case atStart => exact ⟨0, 0, Nat.zero_le _, rfl, by simp, rfl, Below.refl _ _⟩
  case round =>
    obtain ⟨k, r, hk, rfl, rfl, HR, hbw⟩ := hrel
    have hr : r ≤ 1099514773504 := by rw [HR.out]; exact cntP_bound HS.out (by rw [HL.out]; exact hn) k
    by_cases hlt : k < n
    · have h1 : k < ps.length := by rw [HL.out]; exact hlt
      obtain ⟨b, off, p, a, l, c', rfl, d0, hp, e0, e1, e2, e3, hlc, hcm, hu⟩ := (ha.below hbw).pg_at hlt
      have hp0 : ps[k]? = some ps[k] := List.getElem?_eq_getElem h1
      rw [marksP_at hp0, ← HR.out] at hp
      injection hp with hp
      subst hp
      have hl : l = ps[k].used.length := by have := hu.1; simp only [markPg, length_marksB] at this; omega
      have hl2 : l ≤ 1048576 := by have := HS.out.at_ hp0; omega
      have H3 := Lib.hid (show r + (3 + l) = cntP (ps.take (k + 1)) by rw [cntP_take hp0, ← HR.out, hl])
      simp only [markPg] at e0 e1 e3 hu
      rw [← hl] at e3 hu
      clear hl hp0
      have n0 : (K + (r : Int) != K + r) = false := by simp
      have n1 : (K + (r : Int) + 1 != K + r + 1) = false := by simp
      have n3 : (K + (r : Int) + 1 + 1 + l != K + r + 1 + 1 + l) = false := by simp
      have x2 : K + (r : Int) + 2 = K + r + 1 + 1 := by omega
      rw [x2] at e3 hu
      clear x2
      have hge : ¬ (K + (r : Int) + 1 + 1 + l < 0) := by omega
      go_wp2_with fail
      refine (heldB_calls hu (by omega) (by omega) (by omega)).mono ?_
      rintro e w1 ⟨rfl, rfl⟩
      go_wp2_with fail
      go_roundw
      case rel => exact ⟨k + 1, r + (3 + l), by omega, by go_num, by go_num, H3.out, hbw⟩
      case measure => simp [intOf]; omega
    · obtain rfl : k = n := by omega
      have HF : Hid (r = cntP ps) := by
        have h2 := HR.out
        rw [List.take_of_length_le (by rw [HL.out]; omega)] at h2
        exact h2
      go_wp2_with fail
      go_ret
      exact ⟨ret_int (by rw [HF.out]), hbw⟩

end Go.Proofs.YthpamclljdcjpaaGreatDoor
