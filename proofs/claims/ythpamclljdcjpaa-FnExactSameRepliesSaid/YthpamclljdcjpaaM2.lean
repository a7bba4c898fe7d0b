/- Joined texts (Ten, Three, Plain4, Impl3, Help4, Help4b, Impl4, Spec3, Spec4, Spec4b, Pair, Impl4b, Impl4c, App, Spec4c, Own4, Copy4, App2, Sort5, One5, One5b): steps of the proofs of chapter 5's laws. -/
import Derived.Deep.RegionHeld3
import Derived.Deep.QuietTactic
import Derived.Laws.StructEq
import Derived.Maps.AppendAt
import Derived.Lib.SliceRun
import Derived.Deep.RegionLaw
import Derived.Lib.AppendZerosOnto
import Derived.Shelf.SortG.Plain
import Derived.Shelf.SortG.SortNone
import Derived.IntWalk
import Derived.Test.YthpamclljdcjpaaM1
set_option linter.unusedVariables false
set_option linter.unusedSimpArgs false
/- Chapter 2: configs in memory, and what its functions answer, in plain words. -/
namespace Go.Proofs.Ythpamclljdcjpaa
open Go.RowKit

/-- What is known of element j. -/
def tenAt (ts : List (List Int × Int)) (j : Nat) : List Int × Int := ts.getD j ([], 0)

/-- One tenant's two cells at an address. -/
def Ten (w : World) (b o : Nat) (t : List Int × Int) : Prop :=
  b < w.heap.size ∧ ∃ a m c, m ≤ c ∧ w.cell? ⟨b, o, none⟩ = some (.slice a m c) ∧ w.cell? ⟨b, o + 1, none⟩ = some (.int .i64 t.2) ∧ Ints w a m t.1

theorem Ten.below {w w' : World} {b o : Nat} {t : List Int × Int} (h : Ten w b o t) (hb : Below w.heap.size w w') : Ten w' b o t := by
  obtain ⟨h0, a, m, c, hm, h1, h2, h3⟩ := h
  exact ⟨Nat.lt_of_lt_of_le h0 hb.size, a, m, c, hm, (hb.cell (p := ⟨b, o, none⟩) h0).trans h1, (hb.cell (p := ⟨b, o + 1, none⟩) h0).trans h2, h3.below hb⟩
theorem Ten.drewN {w : World} {b o : Nat} {t : List Int × Int} (h : Ten w b o t) (n : Nat) : Ten (w.drewN n) b o t := h

/-- The slice of n tenants at 'ao' reads as ts. -/
def Tens (w : World) (ao : Option Addr) (n : Nat) (ts : List (List Int × Int)) : Prop :=
  ts.length = n ∧ (0 < n → ∃ b off, ao = some ⟨b, off, none⟩ ∧ b < w.heap.size ∧ ∀ j, j < n → Ten w b (off + j * 2) (tenAt ts j))

theorem Tens.below {w w' : World} {ao : Option Addr} {n : Nat} {ts : List (List Int × Int)} (h : Tens w ao n ts) (hb : Below w.heap.size w w') : Tens w' ao n ts := by
  refine ⟨h.1, fun h0 => ?_⟩
  obtain ⟨b, off, rfl, hlt, hc⟩ := h.2 h0
  exact ⟨b, off, rfl, Nat.lt_of_lt_of_le hlt hb.size, fun j hj => (hc j hj).below hb⟩
theorem Tens.alloc {w : World} {ao : Option Addr} {n : Nat} {ts : List (List Int × Int)} (h : Tens w ao n ts) (o : Obj) : Tens (w.alloc o) ao n ts := h.below ((Below.refl _ _).alloc (Nat.le_refl _) o)
theorem Tens.drewN {w : World} {ao : Option Addr} {n : Nat} {ts : List (List Int × Int)} (h : Tens w ao n ts) (k : Nat) : Tens (w.drewN k) ao n ts := h
theorem Tens.none_ (w : World) : Tens w none 0 [] := ⟨rfl, fun h => absurd h (by omega)⟩
theorem Tens.at_ {w : World} {ao : Option Addr} {n : Nat} {ts : List (List Int × Int)} (h : Tens w ao n ts) {k : Nat} (hk : k < n) :
    ∃ b off, ao = some ⟨b, off, none⟩ ∧ Ten w b (off + k * 2) (tenAt ts k) := by
  obtain ⟨b, off, rfl, hb, hc⟩ := h.2 (by omega)
  exact ⟨b, off, rfl, hc k hk⟩

/-- No list of colours is longer than this. -/
def Short (N : Nat) (ts : List (List Int × Int)) : Prop := ∀ t ∈ ts, t.1.length ≤ N
theorem Short.at_ {N : Nat} {ts : List (List Int × Int)} (h : Short N ts) (k : Nat) : (tenAt ts k).1.length ≤ N := by
  unfold tenAt
  rcases Nat.lt_or_ge k ts.length with hk | hk
  · rw [List.getD_eq_getElem?_getD, List.getElem?_eq_getElem hk]; exact h _ (List.getElem_mem hk)
  · rw [List.getD_eq_getElem?_getD, List.getElem?_eq_none hk]; simp

/-- These rise. -/
def risingTo (xs : List Int) (k : Nat) : Prop := ∀ i, 1 ≤ i → i < k → xs.getD (i - 1) 0 < xs.getD i 0
def rising (xs : List Int) : Bool := (List.range xs.length).all fun i => decide (i = 0) || decide (xs.getD (i - 1) 0 < xs.getD i 0)
theorem rising_iff (xs : List Int) : rising xs = true ↔ risingTo xs xs.length := by
  unfold rising risingTo
  simp only [List.all_eq_true, List.mem_range, Bool.or_eq_true, decide_eq_true_iff]
  constructor
  · intro h i h1 h2
    rcases h i h2 with h3 | h3
    · omega
    · exact h3
  · intro h i hi
    by_cases h0 : i = 0
    · exact .inl h0
    · exact .inr (h i (by omega) hi)
theorem rising_no {xs : List Int} {k : Nat} (h1 : 1 ≤ k) (hk : k < xs.length) (h : ¬ xs.getD (k - 1) 0 < xs.getD k 0) : rising xs = false := by
  rcases hb : rising xs with _ | _
  · rfl
  · exact absurd ((rising_iff xs).1 hb k h1 hk) h
theorem risingTo_succ {xs : List Int} {k : Nat} (h : risingTo xs k) (h1 : xs.getD (k - 1) 0 < xs.getD k 0) : risingTo xs (k + 1) := by
  intro i i1 i2
  by_cases e : i = k
  · rw [e]; exact h1
  · exact h i i1 (by omega)

/-- What is wrong with one tenant. -/
def tenantFault (C : Int) (t : List Int × Int) : Int :=
  if within 1 2 [t.2] = true ∧ within 0 (C - 1) t.1 = true then (if rising t.1 = true then 0 else 1) else 3
/-- The first fault of the tenants, one by one. -/
def firstFault (C : Int) : List (List Int × Int) → Int
  | [] => 0
  | t :: r => if tenantFault C t = 0 then firstFault C r else tenantFault C t
theorem firstFault_at {C : Int} : ∀ {ts : List (List Int × Int)} {k : Nat}, k < ts.length → (∀ j, j < k → tenantFault C (tenAt ts j) = 0) → tenantFault C (tenAt ts k) ≠ 0 → firstFault C ts = tenantFault C (tenAt ts k)
  | [], k, hk, _, _ => by simp at hk
  | t :: r, 0, _, _, h => by simp [firstFault, tenAt] at h ⊢; exact fun h2 => absurd h2 h
  | t :: r, k + 1, hk, h0, h => by
    have h1 : tenantFault C t = 0 := by simpa [tenAt] using h0 0 (by omega)
    unfold firstFault
    rw [if_pos h1]
    have := firstFault_at (C := C) (ts := r) (k := k) (by simpa using hk) (fun j hj => by simpa [tenAt] using h0 (j + 1) (by omega)) (by simpa [tenAt] using h)
    simpa [tenAt] using this
theorem firstFault_ok {C : Int} : ∀ {ts : List (List Int × Int)}, (∀ j, j < ts.length → tenantFault C (tenAt ts j) = 0) → firstFault C ts = 0
  | [], _ => rfl
  | t :: r, h => by
    have h1 : tenantFault C t = 0 := by simpa [tenAt] using h 0 (by simp)
    unfold firstFault
    rw [if_pos h1]
    exact firstFault_ok fun j hj => by simpa [tenAt] using h (j + 1) (by simpa using hj)
theorem firstFault_all {C : Int} : ∀ {ts : List (List Int × Int)}, firstFault C ts = 0 → ∀ j, j < ts.length → tenantFault C (tenAt ts j) = 0
  | [], _, j, hj => by simp at hj
  | t :: r, h, j, hj => by
    unfold firstFault at h
    split at h
    · rename_i h1
      cases j with
      | zero => simpa [tenAt] using h1
      | succ j => simpa [tenAt] using firstFault_all h j (by simpa using hj)
    · rename_i h1; exact absurd h h1
theorem tenantFault_ok {C : Int} {t : List Int × Int} (h : tenantFault C t = 0) : 1 ≤ t.2 ∧ t.2 ≤ 2 ∧ within 0 (C - 1) t.1 = true ∧ rising t.1 = true := by
  unfold tenantFault at h
  split at h
  · rename_i h1
    split at h
    · have := h1.1
      rw [within_one] at this
      simp at this
      exact ⟨this.1, this.2, h1.2, by assumption⟩
    · omega
  · omega

theorem rising_far {xs : List Int} (h : risingTo xs xs.length) (h0 : within 0 7 xs = true) : ∀ i, i < xs.length → (i : Int) ≤ xs.getD i 0
  | 0, hi => by
    have := within_at h0 hi
    rw [List.getD_eq_getElem?_getD, List.getElem?_eq_getElem hi]; simp; omega
  | i + 1, hi => by
    have h1 := rising_far h h0 i (by omega)
    have h2 := h (i + 1) (by omega) hi
    simp only [Nat.add_sub_cancel] at h2
    omega
theorem short_of_fault {C : Int} {t : List Int × Int} (hC : C ≤ 8) (h : tenantFault C t = 0) : t.1.length ≤ 8 ∧ within 0 7 t.1 = true := by
  obtain ⟨_, _, h1, h2⟩ := tenantFault_ok h
  have h3 : within 0 7 t.1 = true := by
    unfold within at *
    rw [List.all_eq_true] at *
    intro v hv
    have := h1 v hv
    simp at *; omega
  refine ⟨?_, h3⟩
  rcases Nat.lt_or_ge 8 t.1.length with hl | hl
  · have h4 := rising_far ((rising_iff _).1 h2) h3 8 hl
    have h5 := within_at h3 hl
    rw [List.getD_eq_getElem?_getD, List.getElem?_eq_getElem hl] at h4
    simp at h4; omega
  · exact hl

/-- One tenant's colours have this one. -/
def hasColour (t : List Int × Int) (c : Int) : Bool := hasIn t.1 c
/-- Two tenants have the same colour. -/
def shared (ts : List (List Int × Int)) : Bool := (List.range ts.length).any fun i => (List.range i).any fun k => (tenAt ts i).1.any fun c => hasColour (tenAt ts k) c
theorem shared_iff (ts : List (List Int × Int)) : shared ts = true ↔ ∃ i k c, i < ts.length ∧ k < i ∧ c ∈ (tenAt ts i).1 ∧ hasColour (tenAt ts k) c = true := by
  unfold shared
  simp only [List.any_eq_true, List.mem_range]
  constructor
  · rintro ⟨i, hi, k, hk, c, hc, h⟩; exact ⟨i, k, c, hi, hk, hc, h⟩
  · rintro ⟨i, k, c, hi, hk, hc, h⟩; exact ⟨i, hi, k, hk, c, hc, h⟩

/-- No colour of the first i tenants is an earlier one's; of tenant i none is one of the first k tenants'; of its first n colours none is tenant k's. -/
def NoShare (ts : List (List Int × Int)) (i : Nat) : Prop := ∀ i' k c, i' < i → k < i' → c ∈ (tenAt ts i').1 → hasColour (tenAt ts k) c = false
def NoShare2 (ts : List (List Int × Int)) (i k : Nat) : Prop := ∀ k' c, k' < k → c ∈ (tenAt ts i).1 → hasColour (tenAt ts k') c = false
def NoShare3 (ts : List (List Int × Int)) (i k n : Nat) : Prop := ∀ c, c ∈ ((tenAt ts i).1).take n → hasColour (tenAt ts k) c = false
theorem NoShare.zero (ts : List (List Int × Int)) : NoShare ts 0 := fun _ _ _ h => by omega
theorem NoShare.succ {ts : List (List Int × Int)} {i : Nat} (h : NoShare ts i) (h2 : NoShare2 ts i i) : NoShare ts (i + 1) := by
  intro i' k c h1 hk hc
  by_cases e : i' = i
  · subst e; exact h2 k c hk hc
  · exact h i' k c (by omega) hk hc
theorem NoShare2.succ {ts : List (List Int × Int)} {i k : Nat} (h : NoShare2 ts i k) (h3 : NoShare3 ts i k (tenAt ts i).1.length) : NoShare2 ts i (k + 1) := by
  intro k' c h1 hc
  by_cases e : k' = k
  · subst e; exact h3 c (by rw [List.take_of_length_le (Nat.le_refl _)]; exact hc)
  · exact h k' c (by omega) hc
theorem NoShare3.succ {ts : List (List Int × Int)} {i k n : Nat} (h : NoShare3 ts i k n) (hn : n < (tenAt ts i).1.length) (h1 : hasColour (tenAt ts k) ((tenAt ts i).1)[n] = false) : NoShare3 ts i k (n + 1) := by
  intro c hc
  rw [List.take_succ_eq_append_getElem hn] at hc
  rcases List.mem_append.1 hc with h2 | h2
  · exact h c h2
  · simp at h2; subst h2; exact h1
theorem NoShare3.zero (ts : List (List Int × Int)) (i k : Nat) : NoShare3 ts i k 0 := fun c hc => by simp at hc
theorem NoShare2.zero (ts : List (List Int × Int)) (i : Nat) : NoShare2 ts i 0 := fun _ _ h => by omega
theorem shared_no {ts : List (List Int × Int)} (h : NoShare ts ts.length) : shared ts = false := by
  rw [Bool.eq_false_iff]
  intro hs
  obtain ⟨i, k, c, hi, hk, hc, h1⟩ := (shared_iff ts).1 hs
  rw [h i k c hi hk hc] at h1; cases h1
theorem shared_yes {ts : List (List Int × Int)} {i k n : Nat} (hi : i < ts.length) (hk : k < i) (hn : n < (tenAt ts i).1.length) (h : hasColour (tenAt ts k) ((tenAt ts i).1)[n] = true) : shared ts = true :=
  (shared_iff ts).2 ⟨i, k, _, hi, hk, List.getElem_mem hn, h⟩

/-- What 'ConfigFault' tells. -/
def configFault (F C : Int) (ts : List (List Int × Int)) : Int :=
  if within 1 40 [F] = true ∧ within 1 8 [C] = true then
    (if 1 ≤ ts.length ∧ ts.length ≤ 3 then (if firstFault C ts = 0 then (if shared ts = true then 6 else 0) else firstFault C ts) else 2) else 3
theorem configFault_ok {F C : Int} {ts : List (List Int × Int)} (h : configFault F C ts = 0) :
    1 ≤ F ∧ F ≤ 40 ∧ 1 ≤ C ∧ C ≤ 8 ∧ 1 ≤ ts.length ∧ ts.length ≤ 3 ∧ firstFault C ts = 0 ∧ shared ts = false := by
  unfold configFault at h
  split at h
  · rename_i h1
    obtain ⟨h1, h2⟩ := h1
    rw [within_one] at h1 h2
    simp at h1 h2
    split at h
    · rename_i h3
      split at h
      · rename_i h4
        split at h
        · omega
        · rename_i h5
          exact ⟨h1.1, h1.2, h2.1, h2.2, h3.1, h3.2, h4, by simpa using h5⟩
      · rename_i h4; exact absurd h h4
    · omega
  · omega

def colourOf (F C : Int) (ts : List (List Int × Int)) (f : Int) : Int × Int :=
  if configFault F C ts = 0 then (if within 0 (F - 1) [f] = true then (0, f % C) else (3, 0)) else (configFault F C ts, 0)
/-- Of the first n frames those whose colour this tenant has. -/
def framesTo (C : Int) (t : List Int × Int) (n : Nat) : List Int := ((List.range n).map fun i : Nat => (i : Int)).filter fun f => hasColour t (f % C)
theorem framesTo_zero (C : Int) (t : List Int × Int) : framesTo C t 0 = [] := rfl
theorem framesTo_yes {C : Int} {t : List Int × Int} {n : Nat} (h : hasColour t ((n : Int) % C) = true) : framesTo C t (n + 1) = framesTo C t n ++ [(n : Int)] := by
  simp [framesTo, List.range_succ, List.filter_append, h]
theorem framesTo_no {C : Int} {t : List Int × Int} {n : Nat} (h : hasColour t ((n : Int) % C) = false) : framesTo C t (n + 1) = framesTo C t n := by
  simp [framesTo, List.range_succ, List.filter_append, h]
theorem length_framesTo (C : Int) (t : List Int × Int) (n : Nat) : (framesTo C t n).length ≤ n := by
  have := List.length_filter_le (fun f => hasColour t (f % C)) ((List.range n).map fun i : Nat => (i : Int))
  simpa [framesTo] using this
theorem mem_framesTo {C : Int} {t : List Int × Int} {n : Nat} {f : Int} : f ∈ framesTo C t n ↔ 0 ≤ f ∧ f < n ∧ hasColour t (f % C) = true := by
  unfold framesTo
  simp only [List.mem_filter, List.mem_map, List.mem_range]
  constructor
  · rintro ⟨⟨i, hi, rfl⟩, h⟩; exact ⟨by omega, by omega, h⟩
  · rintro ⟨h0, h1, h⟩; exact ⟨⟨f.toNat, by omega, by omega⟩, h⟩
def framesFor (F C : Int) (ts : List (List Int × Int)) (t : Int) : Int × List Int :=
  if configFault F C ts = 0 then (if within 0 ((ts.length : Int) - 1) [t] = true then (0, framesTo C (tenAt ts t.toNat) F.toNat) else (4, [])) else (configFault F C ts, [])
theorem framesFor_small (F C : Int) (ts : List (List Int × Int)) (t : Int) : (framesFor F C ts t).2.length ≤ 40 := by
  unfold framesFor
  split
  · rename_i h
    have h1 := configFault_ok h
    split
    · have := length_framesTo C (tenAt ts t.toNat) F.toNat
      simp only; omega
    · simp
  · simp
def roomFor (F C : Int) (ts : List (List Int × Int)) (t : Int) : Int × Int := ((framesFor F C ts t).1, ((framesFor F C ts t).2.length : Int))
/-- Those of the first n tenants that have the colour. -/
def holdersTo (ts : List (List Int × Int)) (c : Int) (n : Nat) : List Int := ((List.range n).filter fun i => hasColour (tenAt ts i) c).map fun i : Nat => (i : Int)
theorem holdersTo_yes {ts : List (List Int × Int)} {c : Int} {n : Nat} (h : hasColour (tenAt ts n) c = true) : holdersTo ts c (n + 1) = holdersTo ts c n ++ [(n : Int)] := by
  simp [holdersTo, List.range_succ, List.filter_append, h]
theorem holdersTo_no {ts : List (List Int × Int)} {c : Int} {n : Nat} (h : hasColour (tenAt ts n) c = false) : holdersTo ts c (n + 1) = holdersTo ts c n := by
  simp [holdersTo, List.range_succ, List.filter_append, h]
theorem length_holdersTo (ts : List (List Int × Int)) (c : Int) (n : Nat) : (holdersTo ts c n).length ≤ n := by
  have := List.length_filter_le (fun i => hasColour (tenAt ts i) c) (List.range n)
  simpa [holdersTo] using this
theorem holdersTo_none {ts : List (List Int × Int)} {c : Int} {n : Nat} (h : ∀ j, j < n → hasColour (tenAt ts j) c = false) : holdersTo ts c n = [] := by
  induction n with
  | zero => rfl
  | succ n ih => rw [holdersTo_no (h n (by omega)), ih fun j hj => h j (by omega)]
theorem holdersTo_head {ts : List (List Int × Int)} {c : Int} : ∀ {n k : Nat}, k < n → (∀ j, j < k → hasColour (tenAt ts j) c = false) → hasColour (tenAt ts k) c = true → (holdersTo ts c n).head? = some (k : Int) := by
  intro n
  induction n with
  | zero => intro k hk; omega
  | succ n ih =>
    intro k hk h0 h1
    by_cases e : k = n
    · subst e
      rw [holdersTo_yes h1, holdersTo_none h0]; rfl
    · have h2 := ih (k := k) (by omega) h0 h1
      rcases hb : hasColour (tenAt ts n) c with _ | _
      · rw [holdersTo_no hb]; exact h2
      · rw [holdersTo_yes hb, List.head?_append, h2]; rfl
def ownerOf (F C : Int) (ts : List (List Int × Int)) (f : Int) : Int × Int :=
  if (colourOf F C ts f).1 = 0 then (match (holdersTo ts (colourOf F C ts f).2 ts.length).head? with | some t => (0, t) | none => (4, 0)) else ((colourOf F C ts f).1, 0)

/-- Two new blocks, and what came behind them. -/
theorem two_new {w w1 : World} {o1 o2 : Obj} (h : Below ((w.alloc o1).alloc o2).heap.size ((w.alloc o1).alloc o2) w1) :
    w1.heap[w.heap.size]? = some o1 ∧ w1.heap[w.heap.size + 1]? = some o2 ∧ Below w.heap.size w w1 ∧ w.heap.size + 2 ≤ w1.heap.size := by
  have hs := h.size
  simp at hs
  refine ⟨?_, ?_, below_past (below_past (h.mono (by simp)) |>.mono (by simp)) |>.mono (by simp), by omega⟩
  · rw [h.block _ (by simp; omega), heap_alloc_old _ _ (by simp)]; exact heap_alloc_new _ _
  · rw [h.block _ (by simp)]
    have : w.heap.size + 1 = (w.alloc o1).heap.size := by simp
    rw [this]; exact heap_alloc_new _ _
/-- Three new blocks, and what came behind them. -/
theorem three_new {w w1 : World} {o1 o2 o3 : Obj} (h : Below (((w.alloc o1).alloc o2).alloc o3).heap.size (((w.alloc o1).alloc o2).alloc o3) w1) :
    w1.heap[w.heap.size]? = some o1 ∧ w1.heap[w.heap.size + 1]? = some o2 ∧ w1.heap[w.heap.size + 2]? = some o3 ∧ Below w.heap.size w w1 ∧ w.heap.size + 3 ≤ w1.heap.size := by
  have hs := h.size
  simp at hs
  have h2 := below_past (w := (w.alloc o1).alloc o2) h
  obtain ⟨a, b, c, d⟩ := two_new h2
  refine ⟨a, b, ?_, c, by omega⟩
  rw [h.block _ (by simp)]
  have : w.heap.size + 2 = ((w.alloc o1).alloc o2).heap.size := by simp
  rw [this]; exact heap_alloc_new _ _
theorem four_new {w : World} {o a b c : Obj} : ((((w.alloc o).alloc a).alloc b).alloc c).heap[w.heap.size]? = some o ∧ Below w.heap.size w ((((w.alloc o).alloc a).alloc b).alloc c) := by
  refine ⟨?_, ((((Below.refl _ _).alloc (Nat.le_refl _) _).alloc (by simp) _).alloc (by simp; omega) _).alloc (by simp; omega) _⟩
  rw [heap_alloc_old _ _ (by simp; omega), heap_alloc_old _ _ (by simp; omega), heap_alloc_old _ _ (by simp)]
  exact heap_alloc_new _ _
/-- A result of two numbers. -/
def Pair (w : World) (r : Int × Int) (e : Ending) (w' : World) : Prop := e = .returned (.agg #[.int .i64 r.1, .int .i64 r.2]) ∧ Below w.heap.size w w'
theorem pair_done {w w1 : World} {r : Int × Int} {x y : Int} {g : Nat} (hb : Below w.heap.size w w1) (hg : w.heap.size ≤ g) (cs : Array Value) (h : r = (x, y)) : Pair w r (.returned (.agg #[.int .i64 x, .int .i64 y])) (w1.setRow g cs) :=
  ⟨by rw [h], below_setRow hb hg cs⟩
theorem rets_done {w w1 : World} {r : Int × List Int} {x : Int} {ys : List Int} {g B n : Nat} {v : Value} (hb : Below w.heap.size w w1) (hg : w.heap.size ≤ g) (hv : OwnI w1 B v n ys) (hB : g < B) (cs : Array Value) (h : r = (x, ys)) :
    RetsInts w r (.returned (.agg #[.int .i64 x, v])) (w1.setRow g cs) := by
  subst h
  exact ⟨v, n, rfl, (hv.setRow hB cs).base (by omega), below_setRow hb hg cs⟩
/-- Four cells, and all that was there, are kept. -/
theorem keep4 {W a b : World} {p q r s : Addr} {x y z u : Value} (h : a.cell? p = some x ∧ a.cell? q = some y ∧ a.cell? r = some z ∧ a.cell? s = some u ∧ Below W.heap.size W a) (hb : Below a.heap.size a b) :
    b.cell? p = some x ∧ b.cell? q = some y ∧ b.cell? r = some z ∧ b.cell? s = some u ∧ Below W.heap.size W b := by
  obtain ⟨h1, h2, h3, h5, h4⟩ := h
  exact ⟨(hb.cell (World.block_lt_of_cell? _ _ h1)).trans h1, (hb.cell (World.block_lt_of_cell? _ _ h2)).trans h2, (hb.cell (World.block_lt_of_cell? _ _ h3)).trans h3, (hb.cell (World.block_lt_of_cell? _ _ h5)).trans h5, h4.trans (hb.mono h4.size)⟩
/-- Six cells, and all that was there, are kept. -/
theorem keep6 {W a b : World} {p1 p2 p3 p4 p5 p6 : Addr} {x1 x2 x3 x4 x5 x6 : Value} (h : a.cell? p1 = some x1 ∧ a.cell? p2 = some x2 ∧ a.cell? p3 = some x3 ∧ a.cell? p4 = some x4 ∧ a.cell? p5 = some x5 ∧ a.cell? p6 = some x6 ∧ Below W.heap.size W a) (hb : Below a.heap.size a b) :
    b.cell? p1 = some x1 ∧ b.cell? p2 = some x2 ∧ b.cell? p3 = some x3 ∧ b.cell? p4 = some x4 ∧ b.cell? p5 = some x5 ∧ b.cell? p6 = some x6 ∧ Below W.heap.size W b := by
  obtain ⟨h1, h2, h3, h4, h5, h6, h⟩ := h
  have k := fun (p : Addr) (x : Value) (e : a.cell? p = some x) => (hb.cell (World.block_lt_of_cell? _ _ e)).trans e
  exact ⟨k _ _ h1, k _ _ h2, k _ _ h3, k _ _ h4, k _ _ h5, k _ _ h6, h.trans (hb.mono h.size)⟩
theorem row_alloc {w : World} {p : Nat} {t : TypeId} {cs : Array Value} (h : Row w p t cs) (o : Obj) : Row (w.alloc o) p t cs := h.below ((Below.refl _ _).alloc (Nat.le_refl _) o)
end Go.Proofs.Ythpamclljdcjpaa

/- Chapter 3: what its functions answer, in plain words. -/
namespace Go.Proofs.Ythpamclljdcjpaa
open Go.RowKit

/-- How many words a block of the class has. -/
def sizeW (c : Int) : Int := if c = 0 then 1 else if c = 1 then 2 else if c = 2 then 4 else 8
/-- The lowest class whose blocks have so many words. -/
def classW (s : Int) : Int := if s ≤ 1 then 0 else if s ≤ 2 then 1 else if s ≤ 4 then 2 else 3
/-- How many steps a kind takes. -/
def stepsW (k : Int) : Int := if k = 1 then 3 else if k = 2 then 4 else if k = 3 then 2 else if k = 4 then 5 else if k = 5 then 2 else if k = 6 then 2 else 1

def classOf (s : Int) : Int × Int := if within 1 8 [s] = true then (0, classW s) else (3, 0)
def sizeOf3 (c : Int) : Int × Int := if within 0 3 [c] = true then (0, sizeW c) else (3, 0)
def slotsOf (c : Int) : Int × Int := if within 0 3 [c] = true then (0, 16 / sizeW c) else (3, 0)
def pagesOf (s : Int) : Int × Int := if within 9 64 [s] = true then (0, (s + 15) / 16) else (3, 0)
def stepsOf (k : Int) : Int × Int := if within 1 8 [k] = true then (0, stepsW k) else (3, 0)

theorem within_yes1 {lo hi v : Int} (h1 : lo ≤ v) (h2 : v ≤ hi) : within lo hi [v] = true := by rw [within_one]; simp; omega
theorem within_no1 {lo hi v : Int} (h : v < lo ∨ hi < v) : within lo hi [v] = false := by rw [within_one]; simp; omega
theorem within_range {lo hi v : Int} (h : within lo hi [v] = true) : lo ≤ v ∧ v ≤ hi := by rw [within_one] at h; simpa using h

theorem classOf_yes {s : Int} (h1 : 1 ≤ s) (h2 : s ≤ 8) : classOf s = (0, classW s) := by unfold classOf; rw [if_pos (within_yes1 h1 h2)]
theorem classOf_no {s : Int} (h : within 1 8 [s] = false) : classOf s = (3, 0) := by unfold classOf; rw [h]; rfl
theorem sizeOf3_yes {c : Int} (h1 : 0 ≤ c) (h2 : c ≤ 3) : sizeOf3 c = (0, sizeW c) := by unfold sizeOf3; rw [if_pos (within_yes1 h1 h2)]
theorem sizeOf3_no {c : Int} (h : within 0 3 [c] = false) : sizeOf3 c = (3, 0) := by unfold sizeOf3; rw [h]; rfl
theorem slotsOf_yes {c : Int} (h1 : 0 ≤ c) (h2 : c ≤ 3) : slotsOf c = (0, 16 / sizeW c) := by unfold slotsOf; rw [if_pos (within_yes1 h1 h2)]
theorem slotsOf_no {c : Int} (h : within 0 3 [c] = false) : slotsOf c = (3, 0) := by unfold slotsOf; rw [h]; rfl
theorem pagesOf_yes {s : Int} (h1 : 9 ≤ s) (h2 : s ≤ 64) : pagesOf s = (0, (s + 15) / 16) := by unfold pagesOf; rw [if_pos (within_yes1 h1 h2)]
theorem pagesOf_no {s : Int} (h : within 9 64 [s] = false) : pagesOf s = (3, 0) := by unfold pagesOf; rw [h]; rfl
theorem stepsOf_yes {k : Int} (h1 : 1 ≤ k) (h2 : k ≤ 8) : stepsOf k = (0, stepsW k) := by unfold stepsOf; rw [if_pos (within_yes1 h1 h2)]
theorem stepsOf_no {k : Int} (h : within 1 8 [k] = false) : stepsOf k = (3, 0) := by unfold stepsOf; rw [h]; rfl

theorem sizeW_small (c : Int) : 1 ≤ sizeW c ∧ sizeW c ≤ 8 := by unfold sizeW; split <;> (try split) <;> (try split) <;> omega
theorem classW_small (s : Int) : 0 ≤ classW s ∧ classW s ≤ 3 := by unfold classW; split <;> (try split) <;> (try split) <;> omega
theorem stepsW_small (k : Int) : 1 ≤ stepsW k ∧ stepsW k ≤ 5 := by unfold stepsW; repeat' split; all_goals omega
theorem classW_holds {s : Int} (h2 : s ≤ 8) : s ≤ sizeW (classW s) := by
  unfold classW sizeW; repeat' split
  all_goals omega
theorem classW_lowest {s : Int} (h : classW s ≠ 0) : sizeW (classW s - 1) < s := by
  unfold classW sizeW at *; repeat' split
  all_goals (repeat' split at h); all_goals omega
theorem sizeW_slots {c : Int} (h1 : 0 ≤ c) (h2 : c ≤ 3) : sizeW c * (16 / sizeW c) = 16 := by
  rcases (show c = 0 ∨ c = 1 ∨ c = 2 ∨ c = 3 by omega) with rfl | rfl | rfl | rfl <;> decide
end Go.Proofs.Ythpamclljdcjpaa

/- Chapter 4: what its functions answer, in plain words. -/
namespace Go.Proofs.Ythpamclljdcjpaa
open Go.RowKit

/-- One of these is used; the first place of a truth value, or -1. -/
def anyB : List Bool → Bool
  | [] => false
  | b :: r => b || anyB r
def idxB (v : Bool) : List Bool → Nat → Int
  | [], _ => -1
  | x :: r, k => if x = v then k else idxB v r (k + 1)
theorem idxB_some {v : Bool} : ∀ {us : List Bool} {k : Nat}, 0 ≤ idxB v us k → ∃ s : Nat, idxB v us k = ((k + s : Nat) : Int) ∧ us[s]? = some v ∧ ∀ j, j < s → us[j]? ≠ some v
  | [], k, h => by simp [idxB] at h
  | x :: r, k, h => by
    unfold idxB at h ⊢
    split
    · rename_i e; exact ⟨0, by simp, by simp [e], fun j hj => by omega⟩
    · rename_i e
      rw [if_neg e] at h
      obtain ⟨s, h1, h2, h3⟩ := idxB_some h
      refine ⟨s + 1, by rw [h1]; congr 1; omega, by simpa using h2, fun j hj => ?_⟩
      cases j with
      | zero => simpa using e
      | succ j => simpa using h3 j (by omega)
theorem idxB_none {v : Bool} : ∀ {us : List Bool} {k : Nat}, idxB v us k < 0 → ∀ j : Nat, us[j]? ≠ some v
  | [], k, _, j => by simp
  | x :: r, k, h, j => by
    unfold idxB at h
    split at h
    · omega
    · rename_i e
      cases j with
      | zero => simpa using e
      | succ j => simpa using idxB_none h j
theorem anyB_idx : ∀ (us : List Bool) (k : Nat), anyB us = decide (0 ≤ idxB true us k)
  | [], k => by simp [anyB, idxB]
  | x :: r, k => by
    unfold anyB idxB
    cases x with
    | true => simp
    | false => simpa using anyB_idx r (k + 1)
theorem anyB_iff {us : List Bool} : anyB us = true ↔ ∃ s : Nat, us[s]? = some true := by
  rw [anyB_idx us 0, decide_eq_true_iff]
  constructor
  · intro h
    obtain ⟨s, _, h2, _⟩ := idxB_some h
    exact ⟨s, h2⟩
  · rintro ⟨s, hs⟩
    rcases Int.lt_or_le (idxB true us 0) 0 with h | h
    · exact absurd hs (idxB_none h s)
    · exact h

/-- Why a page is none, or 0. -/
def pageFault (p : Pg) : Int :=
  if p.kind = 1 then (if within 0 3 [p.cls] = true then (if p.run = 0 then (if (p.used.length : Int) = 16 / sizeW p.cls then (if anyB p.used = true then 0 else 4) else 2) else 1) else 3)
  else if p.kind = 2 then (if within 1 4 [p.run] = true then (if p.cls = 0 ∧ p.used = [] then 0 else 1) else 3)
  else if p.kind = 0 ∨ p.kind = 3 then (if p.cls = 0 ∧ p.used = [] ∧ p.run = 0 then 0 else 1) else 3
/-- What is known of a right page. -/
theorem pageFault_ok {p : Pg} (h : pageFault p = 0) : (p.kind = 1 ∧ 0 ≤ p.cls ∧ p.cls ≤ 3 ∧ p.run = 0 ∧ (p.used.length : Int) = 16 / sizeW p.cls ∧ anyB p.used = true) ∨
    (p.kind = 2 ∧ 1 ≤ p.run ∧ p.run ≤ 4 ∧ p.cls = 0 ∧ p.used = []) ∨ ((p.kind = 0 ∨ p.kind = 3) ∧ p.cls = 0 ∧ p.used = [] ∧ p.run = 0) := by
  unfold pageFault at h
  split at h
  · left
    split at h
    · rename_i h1 h2
      have := within_range h2
      split at h
      · split at h
        · split at h
          · exact ⟨h1, this.1, this.2, by assumption, by assumption, by assumption⟩
          · omega
        · omega
      · omega
    · omega
  · right
    split at h
    · left
      split at h
      · rename_i h1 h2
        have := within_range h2
        split at h
        · rename_i h3; exact ⟨h1, this.1, this.2, h3.1, h3.2⟩
        · omega
      · omega
    · right
      split at h
      · split at h
        · rename_i h1 h3; exact ⟨h1, h3.1, h3.2.1, h3.2.2⟩
        · omega
      · omega
theorem pageFault_kind {p : Pg} (h : pageFault p = 0) : p.kind = 0 ∨ p.kind = 1 ∨ p.kind = 2 ∨ p.kind = 3 := by
  rcases pageFault_ok h with h | h | h <;> omega
theorem pageFault_slots {p : Pg} (h : pageFault p = 0) : p.used.length ≤ 16 := by
  rcases pageFault_ok h with ⟨_, h1, h2, _, h3, _⟩ | ⟨_, _, _, _, h1⟩ | ⟨_, _, h1, _⟩
  · rcases (show p.cls = 0 ∨ p.cls = 1 ∨ p.cls = 2 ∨ p.cls = 3 by omega) with e | e | e | e <;> rw [e] at h3 <;> simp [sizeW] at h3 <;> omega
  · rw [h1]; simp
  · rw [h1]; simp

/-- The first fault of the pages, one by one. -/
def firstPF : List Pg → Int
  | [] => 0
  | p :: r => if pageFault p = 0 then firstPF r else pageFault p
theorem firstPF_all : ∀ {ps : List Pg}, firstPF ps = 0 → ∀ p ∈ ps, pageFault p = 0
  | [], _, p, hp => by simp at hp
  | q :: r, h, p, hp => by
    unfold firstPF at h
    split at h
    · rcases List.mem_cons.1 hp with rfl | hp
      · assumption
      · exact firstPF_all h p hp
    · rename_i h1; exact absurd h h1
theorem firstPF_of : ∀ {ps : List Pg}, (∀ p ∈ ps, pageFault p = 0) → firstPF ps = 0
  | [], _ => rfl
  | q :: r, h => by
    unfold firstPF
    rw [if_pos (h q (by simp))]; exact firstPF_of fun p hp => h p (by simp [hp])
/-- How many pages a run lacks behind this one; where it lacks some just there a page goes on with it. -/
def nextLeft (l : Int) (p : Pg) : Int := if p.kind = 2 then p.run - 1 else if p.kind = 3 then l - 1 else l
def whole : Int → List Pg → Bool
  | l, [] => decide (l = 0)
  | l, p :: r => if decide (p.kind = 3) = decide (0 < l) then whole (nextLeft l p) r else false
def pagesFault (ps : List Pg) : Int := if 40 < ps.length then 2 else if firstPF ps = 0 then (if whole 0 ps = true then 0 else 8) else firstPF ps
theorem pagesFault_ok {ps : List Pg} (h : pagesFault ps = 0) : ps.length ≤ 40 ∧ (∀ p ∈ ps, pageFault p = 0) ∧ whole 0 ps = true := by
  unfold pagesFault at h
  split at h
  · omega
  · split at h
    · split at h
      · exact ⟨by omega, firstPF_all (by assumption), by assumption⟩
      · omega
    · rename_i h1; exact absurd h h1
theorem pagesFault_of {ps : List Pg} (h1 : ps.length ≤ 40) (h2 : ∀ p ∈ ps, pageFault p = 0) (h3 : whole 0 ps = true) : pagesFault ps = 0 := by
  unfold pagesFault
  rw [if_neg (by omega), if_pos (firstPF_of h2), if_pos h3]
theorem pagesFault_short {ps : List Pg} (h : pagesFault ps = 0) : ShortP 16 ps := fun p hp => pageFault_slots ((pagesFault_ok h).2.1 p hp)

/-- The first slot of this class that is not used; the first free page. -/
def gapIn (c : Int) : Nat → List Pg → Option (Nat × Nat)
  | _, [] => none
  | k, p :: r => if p.kind = 1 ∧ p.cls = c ∧ 0 ≤ idxB false p.used 0 then some (k, (idxB false p.used 0).toNat) else gapIn c (k + 1) r
def freeIn : Nat → List Pg → Option Nat
  | _, [] => none
  | k, p :: r => if p.kind = 0 then some k else freeIn (k + 1) r
def slotFor (ps : List Pg) (c : Int) : Option (Nat × Nat) := match gapIn c 0 ps with
  | some x => some x
  | none => (freeIn 0 ps).map fun i => (i, 0)
/-- The same in one walk. -/
def scan (c : Int) : Nat → Option (Nat × Nat) → List Pg → Option (Nat × Nat)
  | _, f, [] => f
  | k, f, p :: r => if p.kind = 1 ∧ p.cls = c ∧ 0 ≤ idxB false p.used 0 then some (k, (idxB false p.used 0).toNat) else scan c (k + 1) (if p.kind = 0 ∧ f = none then some (k, 0) else f) r
theorem scan_eq (c : Int) : ∀ (ps : List Pg) (k : Nat) (f : Option (Nat × Nat)), scan c k f ps = match gapIn c k ps with
    | some x => some x
    | none => match f with
      | some x => some x
      | none => (freeIn k ps).map fun i => (i, 0)
  | [], k, f => by cases f <;> simp [scan, gapIn, freeIn]
  | p :: r, k, f => by
    unfold scan gapIn
    split
    · rfl
    · rw [scan_eq c r]
      cases hg : gapIn c (k + 1) r with
      | some x => rfl
      | none =>
        simp only
        cases f with
        | some x => simp
        | none =>
          by_cases h0 : p.kind = 0
          · simp [h0, freeIn]
          · simp [h0, freeIn]
theorem scan_slotFor (ps : List Pg) (c : Int) : scan c 0 none ps = slotFor ps c := by rw [scan_eq]; rfl
theorem gapIn_some {c : Int} : ∀ {ps : List Pg} {k i s : Nat}, gapIn c k ps = some (i, s) → ∃ p, k ≤ i ∧ ps[i - k]? = some p ∧ p.kind = 1 ∧ p.cls = c ∧ idxB false p.used 0 = (s : Int)
  | [], k, i, s, h => by simp [gapIn] at h
  | p :: r, k, i, s, h => by
    unfold gapIn at h
    split at h
    · rename_i h1
      simp at h
      obtain ⟨rfl, rfl⟩ := h
      exact ⟨p, Nat.le_refl _, by simp, h1.1, h1.2.1, by omega⟩
    · obtain ⟨q, h1, h2, h3⟩ := gapIn_some h
      refine ⟨q, by omega, ?_, h3⟩
      rw [show i - k = (i - (k + 1)) + 1 by omega, List.getElem?_cons_succ]; exact h2
theorem freeIn_some : ∀ {ps : List Pg} {k i : Nat}, freeIn k ps = some i → ∃ p, k ≤ i ∧ ps[i - k]? = some p ∧ p.kind = 0
  | [], k, i, h => by simp [freeIn] at h
  | p :: r, k, i, h => by
    unfold freeIn at h
    split at h
    · simp at h; subst h; exact ⟨p, Nat.le_refl _, by simp, by assumption⟩
    · obtain ⟨q, h1, h2, h3⟩ := freeIn_some h
      refine ⟨q, by omega, ?_, h3⟩
      rw [show i - k = (i - (k + 1)) + 1 by omega, List.getElem?_cons_succ]; exact h2
/-- Where a slot is taken: in a page of the class that has one left, or in a free one. -/
theorem slotFor_some {ps : List Pg} {c : Int} {i s : Nat} (h : slotFor ps c = some (i, s)) : ∃ p, ps[i]? = some p ∧ ((p.kind = 1 ∧ p.cls = c ∧ p.used[s]? = some false) ∨ (p.kind = 0 ∧ s = 0)) := by
  unfold slotFor at h
  cases hg : gapIn c 0 ps with
  | some x =>
    rw [hg] at h
    simp at h; subst h
    obtain ⟨p, _, h1, h2, h3, h4⟩ := gapIn_some hg
    obtain ⟨s', h5, h6, _⟩ := idxB_some (v := false) (us := p.used) (k := 0) (by omega)
    obtain rfl : s = s' := by omega
    exact ⟨p, by simpa using h1, .inl ⟨h2, h3, h6⟩⟩
  | none =>
    rw [hg] at h
    simp at h
    obtain ⟨i', h1, rfl, rfl⟩ := h
    obtain ⟨p, _, h2, h3⟩ := freeIn_some h1
    exact ⟨p, by simpa using h2, .inr ⟨h3, rfl⟩⟩
/-- Page i with slot s used. -/
def slabOf (c : Int) : Pg := ⟨1, c, List.replicate (16 / sizeW c).toNat false, 0⟩
def useSlot (p : Pg) (c : Int) (s : Nat) : Pg := if p.kind = 0 then ⟨1, c, (List.replicate (16 / sizeW c).toNat false).set s true, 0⟩ else ⟨p.kind, p.cls, p.used.set s true, p.run⟩
def putSlot (ps : List Pg) (c : Int) (i s : Nat) : List Pg := match ps[i]? with
  | some p => ps.set i (useSlot p c s)
  | none => ps
def findSlot (ps : List Pg) (c : Int) : Int × List Pg × Int :=
  if pagesFault ps = 0 then (if within 0 3 [c] = true then (match slotFor ps c with | some (i, s) => (0, putSlot ps c i s, (i : Int) * 16 + s * sizeW c) | none => (7, [], 0)) else (3, [], 0)) else (pagesFault ps, [], 0)

/-- The first n of these are there and free. -/
def freeN : Nat → List Pg → Bool
  | 0, _ => true
  | _ + 1, [] => false
  | n + 1, p :: r => decide (p.kind = 0) && freeN n r
/-- The first place from which on n are free. -/
def runFrom (n : Nat) : Nat → List Pg → Option Nat
  | _, [] => none
  | k, p :: r => if freeN n (p :: r) = true then some k else runFrom n (k + 1) r
def findRun (ps : List Pg) (n : Int) : Int × Int :=
  if pagesFault ps = 0 then (if within 1 4 [n] = true then (match runFrom n.toNat 0 ps with | some i => (0, (i : Int)) | none => (7, 0)) else (3, 0)) else (pagesFault ps, 0)

/-- k pages from one on are this one. -/
def setMany (ps : List Pg) (i : Nat) (x : Pg) : Nat → List Pg
  | 0 => ps
  | k + 1 => (setMany ps i x k).set (i + k) x
theorem length_setMany (ps : List Pg) (i : Nat) (x : Pg) : ∀ k, (setMany ps i x k).length = ps.length
  | 0 => rfl
  | k + 1 => by simp [setMany, length_setMany ps i x k]
theorem setMany_at (ps : List Pg) (i : Nat) (x : Pg) : ∀ (k j : Nat), j < ps.length → (setMany ps i x k)[j]? = if i ≤ j ∧ j < i + k then some x else ps[j]?
  | 0, j, hj => by rw [if_neg (by omega)]; rfl
  | k + 1, j, hj => by
    unfold setMany
    by_cases e : j = i + k
    · subst e
      rw [List.getElem?_set_self (by rw [length_setMany]; exact hj), if_pos (by omega)]
    · rw [List.getElem?_set_ne (by omega), setMany_at ps i x k j hj]
      by_cases h : i ≤ j ∧ j < i + k
      · rw [if_pos h, if_pos (by omega)]
      · rw [if_neg h, if_neg (by omega)]
def restPg : Pg := ⟨3, 0, [], 0⟩
def runPg (n : Int) : Pg := ⟨2, 0, [], n⟩
def putRun (ps : List Pg) (i n : Nat) : List Pg := (setMany ps i restPg n).set i (runPg n)
def takeRun (ps : List Pg) (at_ n : Int) : Int × List Pg × Int :=
  if pagesFault ps = 0 then (if within 1 4 [n] = true ∧ within 0 ((ps.length : Int) - n) [at_] = true then (if freeN n.toNat (ps.drop at_.toNat) = true then (0, putRun ps at_.toNat n.toNat, at_ * 16) else (8, [], 0)) else (3, [], 0)) else (pagesFault ps, [], 0)

/-- The page that begins what page k is part of. -/
def headOf (ps : List Pg) : Nat → Nat
  | 0 => 0
  | k + 1 => if (ps[k + 1]?.map Pg.kind) = some 3 then headOf ps k else k + 1
theorem headOf_le (ps : List Pg) : ∀ k, headOf ps k ≤ k
  | 0 => Nat.le_refl _
  | k + 1 => by unfold headOf; split <;> (try have := headOf_le ps k) <;> omega
/-- What is held at a place: where it begins, how many words it has. -/
inductive Blk where
  | slot (i : Nat) (c : Int) (s : Nat)
  | run (i : Nat) (n : Int)
def Blk.start : Blk → Int
  | .slot i c s => (i : Int) * 16 + s * sizeW c
  | .run i _ => (i : Int) * 16
def Blk.size : Blk → Int
  | .slot _ c _ => sizeW c
  | .run _ n => n * 16
def blockAt (ps : List Pg) (at_ : Nat) : Option Blk := match ps[headOf ps (at_ / 16)]? with
  | none => none
  | some p => if p.kind = 2 then some (.run (headOf ps (at_ / 16)) p.run)
    else if p.kind = 1 then (if p.used[at_ % 16 / (sizeW p.cls).toNat]? = some true then some (.slot (headOf ps (at_ / 16)) p.cls (at_ % 16 / (sizeW p.cls).toNat)) else none) else none
/-- The code of what is asked of a place, and what is held there. -/
def heldAt (ps : List Pg) (at_ : Int) : Int × Option Blk :=
  if pagesFault ps = 0 then (if within 0 ((ps.length : Int) * 16 - 1) [at_] = true then (match blockAt ps at_.toNat with | some b => (0, some b) | none => (4, none)) else (3, none)) else (pagesFault ps, none)
def blockStart (ps : List Pg) (at_ : Int) : Int × Int := match heldAt ps at_ with
  | (_, some b) => (0, b.start)
  | (c, none) => (c, 0)
def blockSize (ps : List Pg) (at_ : Int) : Int × Int := match heldAt ps at_ with
  | (_, some b) => (0, b.size)
  | (c, none) => (c, 0)
def freeSlot (p : Pg) (s : Nat) : Pg := if anyB (p.used.set s false) = true then ⟨p.kind, p.cls, p.used.set s false, p.run⟩ else Pg.free
def dropBlk (ps : List Pg) : Blk → List Pg
  | .slot i _ s => match ps[i]? with
    | some p => ps.set i (freeSlot p s)
    | none => ps
  | .run i n => setMany ps i Pg.free n.toNat
def dropBlock (ps : List Pg) (at_ : Int) : Int × List Pg × Int := match heldAt ps at_ with
  | (_, some b) => if b.start = at_ then (0, dropBlk ps b, at_) else (1, [], 0)
  | (c, none) => (c, [], 0)
def usedIn : List Pg → Nat
  | [] => 0
  | p :: r => (if p.kind = 0 then 0 else 1) + usedIn r
def usedInR (ps : List Pg) : Int × Int := if pagesFault ps = 0 then (0, (usedIn ps : Int)) else (pagesFault ps, 0)

end Go.Proofs.Ythpamclljdcjpaa

/- Chapter 3 of the program: sizes, slots, pages, steps. -/
namespace Go.Proofs.Ythpamclljdcjpaa
open Go.RowKit

end Go.Proofs.Ythpamclljdcjpaa

/- The laws' helpers over pages: how great they are, their copy, whether two are the same. -/
namespace Go.Proofs.Ythpamclljdcjpaa
open Go.RowKit

/-- What the sizes tell: where they are not too great, no list is. -/
def SizedP (n : Nat) (ps : List Pg) (w : World) (e : Ending) (w' : World) : Prop :=
  (e = .returned (.int .i64 (-1)) ∨ ∃ r : Int, e = .returned (.int .i64 r) ∧ 0 ≤ r ∧ r ≤ 1048576 ∧ n ≤ 1048576 ∧ ShortP 1048576 ps) ∧ Below w.heap.size w w'

/-- A row of pages of which the first k are owned, the others not yet made. -/
def fillP (ps : List Pg) (k : Nat) : List Pg := fillD Pg.free ps k

end Go.Proofs.Ythpamclljdcjpaa

/- The laws' helpers over pages: compared, marked, held. -/
namespace Go.Proofs.Ythpamclljdcjpaa
open Go.RowKit

/-- Eight cells, and all that was there, are kept. -/
theorem keep8 {W a b : World} {p1 p2 p3 p4 p5 p6 p7 p8 : Addr} {x1 x2 x3 x4 x5 x6 x7 x8 : Value} (h : a.cell? p1 = some x1 ∧ a.cell? p2 = some x2 ∧ a.cell? p3 = some x3 ∧ a.cell? p4 = some x4 ∧ a.cell? p5 = some x5 ∧ a.cell? p6 = some x6 ∧ a.cell? p7 = some x7 ∧ a.cell? p8 = some x8 ∧ Below W.heap.size W a) (hb : Below a.heap.size a b) :
    b.cell? p1 = some x1 ∧ b.cell? p2 = some x2 ∧ b.cell? p3 = some x3 ∧ b.cell? p4 = some x4 ∧ b.cell? p5 = some x5 ∧ b.cell? p6 = some x6 ∧ b.cell? p7 = some x7 ∧ b.cell? p8 = some x8 ∧ Below W.heap.size W b := by
  obtain ⟨h1, h2, h3, h4, h5, h6, h7, h8, h⟩ := h
  have k := fun (p : Addr) (x : Value) (e : a.cell? p = some x) => (hb.cell (World.block_lt_of_cell? _ _ e)).trans e
  exact ⟨k _ _ h1, k _ _ h2, k _ _ h3, k _ _ h4, k _ _ h5, k _ _ h6, k _ _ h7, k _ _ h8, h.trans (hb.mono h.size)⟩

/-- A page that is marked from K on; how many marks pages take. -/
def markPg (p : Pg) (K : Int) : Pg := ⟨K, K + 1, marksB (K + 2) p.used.length, K + 2 + p.used.length⟩
def cntP : List Pg → Nat
  | [] => 0
  | p :: r => 3 + p.used.length + cntP r
def marksP : List Pg → Int → List Pg
  | [], _ => []
  | p :: r, K => markPg p K :: marksP r (K + (3 + p.used.length : Nat))
theorem length_marksP : ∀ (ps : List Pg) (K : Int), (marksP ps K).length = ps.length
  | [], _ => rfl
  | p :: r, K => by simp [marksP, length_marksP r]
theorem cntP_take : ∀ {ps : List Pg} {k : Nat} {p : Pg}, ps[k]? = some p → cntP (ps.take (k + 1)) = cntP (ps.take k) + (3 + p.used.length)
  | [], k, p, h => by simp at h
  | q :: r, 0, p, h => by simp at h; subst h; simp [cntP]
  | q :: r, k + 1, p, h => by
    have := cntP_take (ps := r) (k := k) (p := p) (by simpa using h)
    simp only [List.take_succ_cons, cntP] at this ⊢; omega
theorem marksP_at : ∀ {ps : List Pg} {k : Nat} {p : Pg} {K : Int}, ps[k]? = some p → (marksP ps K)[k]? = some (markPg p (K + cntP (ps.take k)))
  | [], k, p, K, h => by simp at h
  | q :: r, 0, p, K, h => by simp at h; subst h; simp [marksP, cntP]
  | q :: r, k + 1, p, K, h => by
    have := marksP_at (ps := r) (k := k) (p := p) (K := K + (3 + q.used.length : Nat)) (by simpa using h)
    simp only [marksP, List.getElem?_cons_succ, List.take_succ_cons, cntP, this]
    congr 2; omega
def markedP (ps : List Pg) (K : Int) (k : Nat) : List Pg := (marksP ps K).take k ++ ps.drop k
theorem markedP_zero (ps : List Pg) (K : Int) : markedP ps K 0 = ps := by simp [markedP]
theorem markedP_full (ps : List Pg) (K : Int) : markedP ps K ps.length = marksP ps K := by simp [markedP, ← length_marksP ps K]
theorem markedP_at {ps : List Pg} {K : Int} {k : Nat} {p : Pg} (h : ps[k]? = some p) : (markedP ps K k)[k]? = some p := by
  have hk := (List.getElem?_eq_some_iff.1 h).1
  unfold markedP
  rw [List.getElem?_append_right (by simp; omega), List.length_take, length_marksP, Nat.min_eq_left (by omega), Nat.sub_self, List.getElem?_drop, Nat.add_zero, h]
theorem markedP_step {ps : List Pg} {K : Int} {k : Nat} {p : Pg} (h : ps[k]? = some p) : (markedP ps K k).set k (markPg p (K + cntP (ps.take k))) = markedP ps K (k + 1) := by
  have hk := (List.getElem?_eq_some_iff.1 h).1
  have hl : ((marksP ps K).take k).length = k := by rw [List.length_take, length_marksP]; omega
  unfold markedP
  rw [List.set_append_right _ _ (by omega), hl, Nat.sub_self, drop_at h, List.set_cons_zero, List.take_add_one, marksP_at h, List.append_assoc]
  rfl
theorem cntP_le {N : Nat} : ∀ {ps : List Pg}, ShortP N ps → cntP ps ≤ ps.length * (N + 3)
  | [], _ => by simp [cntP]
  | p :: r, h => by
    have h1 := h p (by simp)
    have h2 := cntP_le (N := N) (ps := r) (fun q hq => h q (by simp [hq]))
    simp only [cntP, List.length_cons, Nat.add_mul]; omega
theorem cntP_bound {ps : List Pg} (h : ShortP 1048576 ps) (hn : ps.length ≤ 1048576) (k : Nat) : cntP (ps.take k) ≤ 1099514773504 := by
  have h1 := cntP_le (N := 1048576) (ps := ps.take k) (fun q hq => h q (List.mem_of_mem_take hq))
  have h2 : (ps.take k).length ≤ 1048576 := by rw [List.length_take]; omega
  have := Nat.mul_le_mul_right (1048576 + 3) h2
  omega
theorem ShortP_marks {N : Nat} {ps : List Pg} {K : Int} (h : ShortP N ps) : ShortP N (marksP ps K) := by
  intro q hq
  obtain ⟨j, hj, rfl⟩ := List.getElem_of_mem hq
  have hjl : j < ps.length := by rwa [length_marksP] at hj
  have h1 := marksP_at (K := K) (List.getElem?_eq_getElem hjl)
  rw [List.getElem?_eq_getElem hj] at h1
  injection h1 with h1
  rw [h1]
  simp only [markPg, length_marksB]
  exact h _ (List.getElem_mem hjl)

end Go.Proofs.Ythpamclljdcjpaa

/- Chapter 4 of the program: truth values that are looked for and compared; what a page needs. -/
namespace Go.Proofs.Ythpamclljdcjpaa
open Go.RowKit

/-- Two lists are the same as far as this. -/
def SameUpto {α : Type} (xs ys : List α) (k : Nat) : Prop := ∀ j, j < k → xs[j]? = ys[j]?
theorem SameUpto.succ {α : Type} {xs ys : List α} {k : Nat} (h : SameUpto xs ys k) (hk : xs[k]? = ys[k]?) : SameUpto xs ys (k + 1) := fun j hj => by
  by_cases e : j = k
  · rw [e]; exact hk
  · exact h j (by omega)
theorem SameUpto.all {α : Type} {xs ys : List α} {k : Nat} (h : SameUpto xs ys k) (h1 : xs.length ≤ k) (h2 : ys.length ≤ k) : xs = ys := by
  apply List.ext_getElem?
  intro j
  rcases Nat.lt_or_ge j k with hj | hj
  · exact h j hj
  · rw [List.getElem?_eq_none (by omega), List.getElem?_eq_none (by omega)]
theorem differ_at {α : Type} {xs ys : List α} {k : Nat} {x y : α} (hx : xs[k]? = some x) (hy : ys[k]? = some y) (h : x ≠ y) : xs ≠ ys := by
  rintro rfl; rw [hx] at hy; injection hy with hy; exact h hy

/-- The range of a page's numbers. -/
def rangeOk (p : Pg) : Bool := if p.kind = 1 then within 0 3 [p.cls] else if p.kind = 2 then within 1 4 [p.run] else decide (p.kind = 0 ∨ p.kind = 3)
/-- What of a page its kind needs. -/
def needed (p : Pg) : Pg := if p.kind = 1 then ⟨1, p.cls, p.used, 0⟩ else if p.kind = 2 then ⟨2, 0, [], p.run⟩ else ⟨p.kind, 0, [], 0⟩
def usedF (p : Pg) : Int := if (p.used.length : Int) = 16 / sizeW p.cls then (if anyB p.used = true then 0 else 4) else 2
theorem pageFault_by (p : Pg) : pageFault p = if rangeOk p = true then (if decide (p = needed p) = true then (if p.kind = 1 then usedF p else 0) else 1) else 3 := by
  obtain ⟨k, c, us, r⟩ := p
  unfold pageFault rangeOk needed usedF
  by_cases h1 : k = 1
  · subst h1
    simp only [if_true]
    by_cases hw : within 0 3 [c] = true
    · rw [if_pos hw, if_pos hw]
      by_cases hr : r = 0
      · subst hr; simp
      · rw [if_neg hr, if_neg (by simp [hr])]
    · rw [if_neg hw, if_neg hw]
  · by_cases h2 : k = 2
    · subst h2
      simp only [show ¬ ((2 : Int) = 1) by omega, if_false, if_true]
      by_cases hw : within 1 4 [r] = true
      · rw [if_pos hw, if_pos hw]
        by_cases hc : c = 0 ∧ us = []
        · rw [if_pos hc, if_pos (by simp [hc])]
        · rw [if_neg hc, if_neg (by simpa using hc)]
      · rw [if_neg hw, if_neg hw]
    · simp only [h1, h2, if_false]
      by_cases h03 : k = 0 ∨ k = 3
      · by_cases hc : c = 0 ∧ us = [] ∧ r = 0
        · obtain ⟨rfl, rfl, rfl⟩ := hc; simp [h03]
        · simp [h03, hc]
      · simp [h03]

end Go.Proofs.Ythpamclljdcjpaa

/- Chapter 3 of the model: sizes, slots, pages, steps. -/
namespace Go.Proofs.Ythpamclljdcjpaa
open Go.RowKit

/-- Two to the power of k. -/
def pw : Nat → Int
  | 0 => 1
  | k + 1 => pw k * 2
theorem pw_small {k : Nat} (h : k ≤ 3) : 1 ≤ pw k ∧ pw k ≤ 8 := by
  rcases (show k = 0 ∨ k = 1 ∨ k = 2 ∨ k = 3 by omega) with rfl | rfl | rfl | rfl <;> decide
theorem pw_size {c : Int} (h0 : 0 ≤ c) (h3 : c ≤ 3) : pw c.toNat = sizeW c := by
  rcases (show c = 0 ∨ c = 1 ∨ c = 2 ∨ c = 3 by omega) with rfl | rfl | rfl | rfl <;> decide

theorem class_step {s : Int} {k : Nat} (hk : k ≤ 3) (h8 : s ≤ 8) (h : (k : Int) ≤ classW s) : (sizeW k < s → k < 3 ∧ ((k + 1 : Nat) : Int) ≤ classW s) ∧ (¬ sizeW k < s → (k : Int) = classW s) := by
  rcases (show k = 0 ∨ k = 1 ∨ k = 2 ∨ k = 3 by omega) with rfl | rfl | rfl | rfl <;> unfold sizeW classW at * <;> simp at * <;> (try split) <;> (try split) <;> (try split) <;> omega
end Go.Proofs.Ythpamclljdcjpaa

/- Chapter 4 of the model: why pages are none. -/
namespace Go.Proofs.Ythpamclljdcjpaa
open Go.RowKit

/-- What a page's fault is, case by case. -/
theorem pf_x {k c r : Int} {us : List Bool} (h : within 0 3 [k] = false) : pageFault ⟨k, c, us, r⟩ = 3 := by
  rw [within_one] at h
  simp only [decide_eq_false_iff_not] at h
  unfold pageFault
  dsimp only
  rw [if_neg (by omega), if_neg (by omega), if_neg (by omega)]
theorem pf_1a {c r : Int} {us : List Bool} (h : within 0 3 [c] = false) : pageFault ⟨1, c, us, r⟩ = 3 := by simp [pageFault, h]
theorem pf_1b {c r : Int} {us : List Bool} (h : within 0 3 [c] = true) (hr : r ≠ 0) : pageFault ⟨1, c, us, r⟩ = 1 := by simp [pageFault, h, hr]
theorem pf_1c {c r : Int} {us : List Bool} (h : within 0 3 [c] = true) (hr : r = 0) (hs : (us.length : Int) ≠ 16 / sizeW c) : pageFault ⟨1, c, us, r⟩ = 2 := by simp [pageFault, h, hr, hs]
theorem pf_1d {c r : Int} {us : List Bool} (h : within 0 3 [c] = true) (hr : r = 0) (hs : (us.length : Int) = 16 / sizeW c) (ha : anyB us = false) : pageFault ⟨1, c, us, r⟩ = 4 := by simp [pageFault, h, hr, hs, ha]
theorem pf_1e {c r : Int} {us : List Bool} (h : within 0 3 [c] = true) (hr : r = 0) (hs : (us.length : Int) = 16 / sizeW c) (ha : anyB us = true) : pageFault ⟨1, c, us, r⟩ = 0 := by simp [pageFault, h, hr, hs, ha]
theorem pf_2a {c r : Int} {us : List Bool} (h : within 1 4 [r] = false) : pageFault ⟨2, c, us, r⟩ = 3 := by simp [pageFault, h]
theorem pf_2b {c r : Int} {us : List Bool} (h : within 1 4 [r] = true) (hc : c ≠ 0) : pageFault ⟨2, c, us, r⟩ = 1 := by simp [pageFault, h, hc]
theorem pf_2c {c r : Int} {us : List Bool} (h : within 1 4 [r] = true) (hu : us ≠ []) : pageFault ⟨2, c, us, r⟩ = 1 := by simp [pageFault, h, hu]
theorem pf_2d {c r : Int} {us : List Bool} (h : within 1 4 [r] = true) (hc : c = 0) (hu : us = []) : pageFault ⟨2, c, us, r⟩ = 0 := by simp [pageFault, h, hc, hu]
theorem pf_03a {k c r : Int} {us : List Bool} (hk : k = 0 ∨ k = 3) (hc : c ≠ 0) : pageFault ⟨k, c, us, r⟩ = 1 := by rcases hk with rfl | rfl <;> simp [pageFault, hc]
theorem pf_03b {k c r : Int} {us : List Bool} (hk : k = 0 ∨ k = 3) (hu : us ≠ []) : pageFault ⟨k, c, us, r⟩ = 1 := by rcases hk with rfl | rfl <;> simp [pageFault, hu]
theorem pf_03c {k c r : Int} {us : List Bool} (hk : k = 0 ∨ k = 3) (hr : r ≠ 0) : pageFault ⟨k, c, us, r⟩ = 1 := by rcases hk with rfl | rfl <;> simp [pageFault, hr]
theorem pf_03d {k c r : Int} {us : List Bool} (hk : k = 0 ∨ k = 3) (hc : c = 0) (hu : us = []) (hr : r = 0) : pageFault ⟨k, c, us, r⟩ = 0 := by rcases hk with rfl | rfl <;> simp [pageFault, hr, hc, hu]

end Go.Proofs.Ythpamclljdcjpaa

/- Chapter 4 of the model: why pages are none (all of them); copies. -/
namespace Go.Proofs.Ythpamclljdcjpaa
open Go.RowKit

theorem nextLeft_range {l : Int} {p : Pg} (h0 : 0 ≤ l) (h3 : l ≤ 3) (hp : pageFault p = 0) (hd : decide (p.kind = 3) = decide (0 < l)) : 0 ≤ nextLeft l p ∧ nextLeft l p ≤ 3 := by
  unfold nextLeft
  rcases pageFault_ok hp with h | h | ⟨h, _⟩
  · rw [if_neg (by omega), if_neg (by omega)]; omega
  · rw [if_pos h.1]; omega
  · rw [if_neg (by omega)]
    split
    · rename_i h1; simp [h1] at hd; omega
    · omega

end Go.Proofs.Ythpamclljdcjpaa

/- Results of two numbers, compared. -/
namespace Go.Proofs.Ythpamclljdcjpaa
open Go.RowKit

end Go.Proofs.Ythpamclljdcjpaa

/- Chapter 4 of the program: why pages are none. -/
namespace Go.Proofs.Ythpamclljdcjpaa
open Go.RowKit

/-- What a call that answers a page leaves. -/
def GivesPg (w : World) (S : Nat → Prop) (n : Nat) (q : Pg) (e : Ending) (w' : World) : Prop := ∃ a m c, e = .returned (.agg #[.int .i64 q.kind, .int .i64 q.cls, .slice a m c, .int .i64 q.run]) ∧ m ≤ n ∧ Lst KBool w' S a m q.used ∧ Below w.heap.size w w'

/-- Two cells, and all that was there, are kept. -/
theorem keep2 {W a b : World} {p q : Addr} {x y : Value} (h : a.cell? p = some x ∧ a.cell? q = some y ∧ Below W.heap.size W a) (hb : Below a.heap.size a b) : b.cell? p = some x ∧ b.cell? q = some y ∧ Below W.heap.size W b :=
  ⟨(hb.cell (World.block_lt_of_cell? _ _ h.1)).trans h.1, (hb.cell (World.block_lt_of_cell? _ _ h.2.1)).trans h.2.1, h.2.2.trans (hb.mono h.2.2.size)⟩
/-- Of a box, its four cells; what was there is kept. -/
def Box4 (W : World) (b : Nat) (x0 x1 x2 x3 : Value) (w' : World) : Prop := w'.cell? ⟨b, 0, none⟩ = some x0 ∧ w'.cell? ⟨b, 1, none⟩ = some x1 ∧ w'.cell? ⟨b, 2, none⟩ = some x2 ∧ w'.cell? ⟨b, 3, none⟩ = some x3 ∧ Below W.heap.size W w'

end Go.Proofs.Ythpamclljdcjpaa

/- Chapter 4 of the program: why pages are none, one by one and all of them. -/
namespace Go.Proofs.Ythpamclljdcjpaa
open Go.RowKit

/-- A box behind a new block: it is there, and all else is as it was. -/
theorem below_box {w0 w w1 : World} {o : Obj} (hb : Below w0.heap.size w0 w) (h : Below (w.alloc o).heap.size (w.alloc o) w1) : Below w0.heap.size w0 w1 := hb.trans ((below_past h).mono hb.size)

end Go.Proofs.Ythpamclljdcjpaa

/- Appending to what is owned: one element that owns its own, or elements that lead to nothing. -/
namespace Go.Proofs.Ythpamclljdcjpaa
open Go.RowKit

/-- Data that lead to no further memory. -/
def Flat {α : Type} (K : Lay α) : Prop := ∀ w w' S S' cs x, K.rd w S cs x → K.own w' S' cs x
theorem flat_int : Flat KInt := fun _ _ _ _ _ _ h => h
theorem flat_bool : Flat KBool := fun _ _ _ _ _ _ h => h
/-- Its cells are plain ones. -/
def OneC {α : Type} (K : Lay α) : Prop := ∀ w S cs x, K.rd w S cs x → ∀ c ∈ cs, c.oneCell' = true
theorem one_int : OneC KInt := fun _ _ cs x h c hc => by rw [show cs = [.int .i64 x] from h] at hc; simp at hc; subst hc; rfl
theorem one_bool : OneC KBool := fun _ _ cs x h c hc => by rw [show cs = [.bool x] from h] at hc; simp at hc; subst hc; rfl
theorem one_slice {α : Type} (K : Lay α) (t : TypeId) : OneC (KSlice K t) := fun _ _ cs x ⟨_, _, _, h, _⟩ c hc => by rw [h] at hc; simp at hc; subst hc; rfl
theorem one_pair {α β : Type} {A : Lay α} {B : Lay β} (ha : OneC A) (hb : OneC B) : OneC (KPair A B) := fun w S cs x ⟨c1, c2, h, h1, h2⟩ c hc => by
  rw [h] at hc
  rcases List.mem_append.1 hc with hc | hc
  · exact ha w S c1 _ h1 c hc
  · exact hb w S c2 _ h2 c hc
theorem one_map {α β : Type} {A : Lay α} (f : β → α) (ha : OneC A) : OneC (KMap A f) := fun w S cs x h => ha w S cs (f x) h
theorem flat_pair {α β : Type} {A : Lay α} {B : Lay β} (ha : Flat A) (hb : Flat B) : Flat (KPair A B) := fun w w' _ S' _ _ ⟨c1, c2, h, h1, h2⟩ =>
  ⟨c1, c2, fun _ => False, fun _ => False, h, ha w w' _ _ _ _ h1, hb w w' _ _ _ _ h2, fun _ h => h.elim, fun _ h => h.elim, fun _ h => h.elim⟩
theorem flat_map {α β : Type} {A : Lay α} (f : β → α) (ha : Flat A) : Flat (KMap A f) := fun w w' S S' cs x h => ha w w' S S' cs (f x) h

section
variable {α : Type} {K : Lay α} {w w' : World} {S S' : Nat → Prop}
/-- The cells of a slice that reads, one behind the other. -/
theorem Lst.news {ao : Option Addr} {n : Nat} {xs : List α} (h : Lst K w S ao n xs) : ∃ news : List Value, news.length = n * K.sz ∧ (0 < n → ∃ b off, ao = some ⟨b, off, none⟩ ∧ ∀ j u, news[j]? = some u → w.cell? ⟨b, off + j, none⟩ = some u) ∧
    ∀ j x, xs[j]? = some x → ∃ cs, cs.length = K.sz ∧ (∀ i, i < K.sz → news[j * K.sz + i]? = cs[i]?) ∧ K.rd w S cs x := by
  have hl := h.1
  rcases Nat.eq_zero_or_pos n with rfl | h0
  · exact ⟨[], by simp, fun h => absurd h (by omega), fun j x hj => by have := (List.getElem?_eq_some_iff.1 hj).1; omega⟩
  · obtain ⟨b, off, rfl, hb, hs, hc⟩ := h.2 h0
    have hcell : ∀ j, j < n * K.sz → ∃ u, w.cell? ⟨b, off + j, none⟩ = some u := by
      intro j hj
      have hz : 0 < K.sz := Nat.pos_of_ne_zero (fun e => by rw [e] at hj; simp at hj)
      have hq : j / K.sz < n := Nat.div_lt_of_lt_mul (by rw [Nat.mul_comm]; exact hj)
      obtain ⟨cs, hcl, hcs, _⟩ := hc (j / K.sz) (xs[j / K.sz]'(by omega)) (List.getElem?_eq_getElem _)
      have h1 := hcs (j % K.sz) (Nat.mod_lt _ hz)
      rw [Nat.add_assoc, Nat.mul_comm, Nat.div_add_mod, List.getElem?_eq_getElem (by rw [hcl]; exact Nat.mod_lt _ hz)] at h1
      exact ⟨_, h1⟩
    refine ⟨(List.range (n * K.sz)).map fun j => (w.cell? ⟨b, off + j, none⟩).getD undef, by simp, fun _ => ⟨b, off, rfl, fun j u hj => ?_⟩, fun j x hj => ?_⟩
    · simp only [List.getElem?_map, Option.map_eq_some_iff] at hj
      obtain ⟨j', h1, h2⟩ := hj
      obtain ⟨hlt, rfl⟩ := List.getElem?_eq_some_iff.1 h1
      simp at hlt h2
      obtain ⟨u', hu⟩ := hcell j hlt
      rw [hu] at h2 ⊢; simp at h2; rw [h2]
    · obtain ⟨cs, hcl, hcs, hr⟩ := hc j x hj
      have hjl := (List.getElem?_eq_some_iff.1 hj).1
      refine ⟨cs, hcl, fun i hi => ?_, hr⟩
      have h1 := hcs i hi
      have h2 := Nat.mul_le_mul_right K.sz (show j + 1 ≤ n by omega)
      rw [Nat.add_mul] at h2
      rw [List.getElem?_map, List.getElem?_range (by omega)]
      simp only [Option.map_some]
      rw [← Nat.add_assoc, h1, List.getElem?_eq_getElem (by omega)]; rfl
end

theorem add_plain' (b off j : Nat) : (⟨b, off, none⟩ : Addr).add j = ⟨b, off + j, none⟩ := by unfold Addr.add; split <;> simp_all

section
variable {P : Program} {α : Type} {K : Lay α} {w : World} {S S' : Nat → Prop} {ops : Array Oper} {rest : List Oper} {o : Oper} {a : Act} {Q : Exit → Act → World → Prop}
/-- append(out, xs...), the elements flat. -/
theorem wpList_append_flat (hgd : o.guard = none) (s x : Operand) (t : TypeId) (ho : o.op = .call { callee := .builtin .append, args := #[s, x], argTypes := #[t, t] })
    (e : TypeId) (i : TypeInfo) (z : Value) (bytes : Nat) (ht : P.underlying t = some (.slice e)) (hi : P.info? e = some i) (hz : i.zero = some z)
    (hsize : i.size = K.sz) (hby : i.bytes = bytes) (hzs : z.cells.size = K.sz) (hsz : 0 < K.sz) (hK : Flat K) (hone : OneC K)
    {v : Value} {n m c : Nat} {xs ys : List α} {ao : Option Addr} (hs : a.eval s = v) (hown : Own K e w S v n xs) (hx : a.eval x = .slice ao m c) (hr : Lst K w S' ao m ys)
    (h63 : n + m ≤ maxLen) (hbytes : (n + m) * bytes ≤ 140737488355328)
    (h : ∀ v' w', Own K e w' (fun k => S k ∨ w.heap.size ≤ k) v' (n + m) (xs ++ ys) → Turn S w w' → wpList P ops Q rest (a.put o.dst v') w') : wpList P ops Q (o :: rest) a w := by
  obtain ⟨cells, hrow, hS, F, hF, hD, hc⟩ := hown.row
  obtain ⟨news, hnl, hnc, hne⟩ := hr.news
  have hxl := hown.1
  have hyl := hr.1
  have hone' : ∀ u ∈ news, u.oneCell' = true := by
    intro u hu
    obtain ⟨q, hq, rfl⟩ := List.getElem_of_mem hu
    have hqm : q / K.sz < m := Nat.div_lt_of_lt_mul (by rw [Nat.mul_comm]; omega)
    obtain ⟨cs, hcl, hcs, hrd⟩ := hne (q / K.sz) (ys[q / K.sz]'(by omega)) (List.getElem?_eq_getElem _)
    have h1 := hcs (q % K.sz) (Nat.mod_lt _ hsz)
    rw [Nat.mul_comm, Nat.div_add_mod, List.getElem?_eq_getElem hq] at h1
    exact hone _ _ _ _ hrd _ (List.mem_of_getElem? h1.symm)
  have hrun : ∃ v' w', (Builtin.append_ #[t, t] o.type #[v, .slice ao m c]).run P w = .ok v' w' ∧ w'.ownsRow 0 e K.sz v' (n + m) (cells ++ news) ∧ w.grownBy w' v.ownBlock ∧ (v'.ownBlock = v.ownBlock ∨ v'.ownBlock = some w.heap.size) := by
    cases ao with
    | none =>
      have hm : m = 0 := by
        rcases Nat.eq_zero_or_pos m with h0 | h0
        · exact h0
        · obtain ⟨_, _, h, _⟩ := hnc h0; cases h
      subst hm
      have hnn : news = [] := List.eq_nil_of_length_eq_zero (by simpa using hnl)
      subst hnn
      refine ⟨v, w, ?_, by simpa using hrow, ⟨rfl, rfl, rfl, Nat.le_refl _, fun _ _ _ => rfl⟩, .inl rfl⟩
      rcases hrow.2 with ⟨rfl, rfl⟩ | ⟨g, cap, cur, rfl, _, _, hcap, _⟩
      · simp [Builtin.append_, run_underlying ht, sizeOf, typeInfo, hi, Builtin.lenOf, Builtin.firstCells]
      · simp [Builtin.append_, run_underlying ht, sizeOf, typeInfo, hi, Builtin.lenOf, Builtin.firstCells, hcap, storeCells]
    | some ad =>
      have hcells : ∀ j u, news[j]? = some u → w.cell? (ad.add j) = some u := by
        intro j u hu
        rcases Nat.eq_zero_or_pos m with h0 | h0
        · subst h0
          have hnn : news = [] := List.eq_nil_of_length_eq_zero (by simpa using hnl)
          subst hnn; simp at hu
        · obtain ⟨b, off, he, hc'⟩ := hnc h0
          injection he with he; subst he
          rw [add_plain']; exact hc' j u hu
      obtain ⟨v', w', h1, h2, h3, _, h5⟩ := run_append_own_at (P := P) w 0 t o.type e i z K.sz bytes ht hi hz hsize hby hzs hsz v n cells hrow ad m c news hnl hcells hone' h63 hbytes (Nat.zero_le _)
      exact ⟨v', w', h1, h2, h3, h5⟩
  obtain ⟨v', w', hr1, h2, h3, h5⟩ := hrun
  refine wpList_plain hgd fun K' hK' => ?_
  unfold Oper.wp execOp
  simp only [ho, resolve, invoke, builtin, Sem.run_bind, Sem.run_pure, Result.andThen_ok, List.map_toArray, List.map_cons, List.map_nil, hs, hx, hr1]
  refine hK' _ _ (h v' w' ?_ ((Turn.of_grown h3).mono (fun k hk _ => hS k hk)))
  have hcl : cells.length = n * K.sz := hrow.1
  refine Own.of_row (F := fun _ _ => False) h2 (by simp [hxl, hyl]) (fun g hg => ?_) (fun _ _ h => h.elim) (fun _ _ _ h => h.elim) (fun j y hj => ?_)
  · rcases h5 with h6 | h6
    · exact .inl (hS g (by rw [← h6]; exact hg))
    · rw [hg] at h6; injection h6 with h6; exact .inr (by omega)
  · by_cases e : j < n
    · rw [List.getElem?_append_left (by omega)] at hj
      obtain ⟨cs, h6, h7, h8⟩ := hc j y hj
      have := Nat.mul_le_mul_right K.sz (show j + 1 ≤ n by omega)
      rw [Nat.add_mul] at this
      exact ⟨cs, h6, fun i hi => by rw [List.getElem?_append_left (by omega)]; exact h7 i hi, hK w w' _ _ _ _ (K.own_rd h8)⟩
    · rw [List.getElem?_append_right (by omega)] at hj
      obtain ⟨cs, h6, h7, h8⟩ := hne _ y hj
      refine ⟨cs, h6, fun i hi => ?_, hK w w' _ _ _ _ h8⟩
      have hle := Nat.mul_le_mul_right K.sz (show n ≤ j by omega)
      rw [List.getElem?_append_right (by omega), ← h7 i hi, hcl, hxl, Nat.sub_mul]
      congr 1; omega
/-- append(out, x): one element, whose cells lie at the head of block b. -/
theorem wpList_append_elem (hgd : o.guard = none) (s x : Operand) (t : TypeId) (ho : o.op = .call { callee := .builtin .append, args := #[s, x], argTypes := #[t, t] })
    (e : TypeId) (i : TypeInfo) (z : Value) (bytes : Nat) (ht : P.underlying t = some (.slice e)) (hi : P.info? e = some i) (hz : i.zero = some z)
    (hsize : i.size = K.sz) (hby : i.bytes = bytes) (hzs : z.cells.size = K.sz) (hsz : 0 < K.sz) (hone : OneC K)
    {v : Value} {n b c : Nat} {xs : List α} {y : α} {G : Nat → Prop} {cs : List Value} (hs : a.eval s = v) (hown : Own K e w S v n xs) (hx : a.eval x = .slice (some ⟨b, 0, none⟩) 1 c)
    (hcs : ∀ j u, cs[j]? = some u → w.cell? ⟨b, j, none⟩ = some u) (hy : K.own w G cs y) (hG : ∀ k, G k → k < w.heap.size → ¬ S k)
    (h63 : n + 1 ≤ maxLen) (hbytes : (n + 1) * bytes ≤ 140737488355328)
    (h : ∀ v' w', Own K e w' (fun k => S k ∨ G k ∨ w.heap.size ≤ k) v' (n + 1) (xs ++ [y]) → Turn S w w' → wpList P ops Q rest (a.put o.dst v') w') : wpList P ops Q (o :: rest) a w := by
  obtain ⟨cells, hrow, hS, F, hF, hD, hc⟩ := hown.row
  have hcl : cs.length = K.sz := K.rd_len (K.own_rd hy)
  obtain ⟨v', w', h1, h2, h3, _, h5⟩ := run_append_own_at (P := P) w 0 t o.type e i z K.sz bytes ht hi hz hsize hby hzs hsz v n cells hrow ⟨b, 0, none⟩ 1 c cs (by omega) (fun j u hu => by rw [add_plain', Nat.zero_add]; exact hcs j u hu) (hone _ _ _ _ (K.own_rd hy)) h63 hbytes (Nat.zero_le _)
  refine wpList_plain hgd fun K' hK' => ?_
  unfold Oper.wp execOp
  simp only [ho, resolve, invoke, builtin, Sem.run_bind, Sem.run_pure, Result.andThen_ok, List.map_toArray, List.map_cons, List.map_nil, hs, hx, h1]
  refine hK' _ _ (h v' w' ?_ ((Turn.of_grown h3).mono (fun k hk _ => hS k hk)))
  refine Own.snoc hown.1 hS hF hD hc hrow.1 hcl hy hG h2 h3 (fun g hg => ?_)
  rcases h5 with h6 | h6
  · exact .inl (by rw [← h6]; exact hg)
  · rw [hg] at h6; injection h6 with h6; exact .inr (by omega)
end
end Go.Proofs.Ythpamclljdcjpaa

/- Chapter 4 of the model: copies of pages. -/
namespace Go.Proofs.Ythpamclljdcjpaa
open Go.RowKit

theorem one_page : OneC KPage := one_map _ (one_pair one_int (one_pair one_int (one_pair (one_slice _ _) one_int)))
/-- An empty slice in a new block. -/
theorem Own.empty {α : Type} {K : Lay α} {t : TypeId} {w : World} {S : Nat → Prop} {b : Nat} (hr : Row w b t #[]) (hS : S b) : Own K t w S (.slice (some ⟨b, 0, none⟩) 0 0) 0 [] :=
  ⟨rfl, .inr ⟨b, 0, #[], fun _ _ => False, rfl, hS, hr, Nat.le_refl _, Nat.zero_le _, by simp, fun _ _ h => h.elim, fun _ _ _ h => h.elim, fun j x hj => by simp at hj⟩⟩

end Go.Proofs.Ythpamclljdcjpaa

/- Pages that are owned: one of them turned. -/
namespace Go.Proofs.Ythpamclljdcjpaa
open Go.RowKit

end Go.Proofs.Ythpamclljdcjpaa

/- Chapter 4 of the program: copies of pages. -/
namespace Go.Proofs.Ythpamclljdcjpaa
open Go.RowKit

/-- Plain cells of which nothing is said but what they are. -/
def KRaw (n : Nat) : Lay (List Value) where
  sz := n
  rd _ _ cs x := cs = x ∧ cs.length = n ∧ ∀ c ∈ cs, c.oneCell' = true
  own _ _ cs x := cs = x ∧ cs.length = n ∧ ∀ c ∈ cs, c.oneCell' = true
  rd_len h := h.2.1
  rd_turn h _ _ := h
  rd_mono h _ := h
  own_turn h _ _ := h
  own_mono h _ := h
  own_rd h := h
theorem flat_raw (n : Nat) : Flat (KRaw n) := fun _ _ _ _ _ _ h => h
theorem one_raw (n : Nat) : OneC (KRaw n) := fun _ _ _ _ h => h.2.2
theorem exists_list {α β : Type} {P : Nat → α → β → Prop} : ∀ {xs : List α}, (∀ j x, xs[j]? = some x → ∃ y, P j x y) → ∃ ys : List β, ys.length = xs.length ∧ ∀ j x, xs[j]? = some x → ∃ y, ys[j]? = some y ∧ P j x y
  | [], _ => ⟨[], rfl, fun j x h => by simp at h⟩
  | q :: r, h => by
    obtain ⟨y, hy⟩ := h 0 q (by simp)
    obtain ⟨ys, hl, hys⟩ := exists_list (P := fun j x y => P (j + 1) x y) (xs := r) (fun j x hj => h (j + 1) x (by simpa using hj))
    refine ⟨y :: ys, by simp [hl], fun j x hj => ?_⟩
    cases j with
    | zero => simp at hj; subst hj; exact ⟨y, by simp, hy⟩
    | succ j => obtain ⟨z, hz, hp⟩ := hys j x (by simpa using hj); exact ⟨z, by simpa using hz, hp⟩
theorem Lst.raw {α : Type} {K : Lay α} {w : World} {S : Nat → Prop} {ao : Option Addr} {n : Nat} {xs : List α} (h : Lst K w S ao n xs) (h1 : OneC K) :
    ∃ cks : List (List Value), Lst (KRaw K.sz) w S ao n cks ∧ ∀ (j : Nat) (x : α), xs[j]? = some x → ∃ cs, cks[j]? = some cs ∧ K.rd w S cs x := by
  have hl := h.1
  rcases Nat.eq_zero_or_pos n with rfl | h0
  · exact ⟨[], Lst.nil, fun j x hj => by have := (List.getElem?_eq_some_iff.1 hj).1; omega⟩
  · obtain ⟨b, off, rfl, hb, hs, hc⟩ := h.2 h0
    obtain ⟨cks, hcl, hck⟩ := exists_list (P := fun j x cs => cs.length = K.sz ∧ (∀ i, i < K.sz → w.cell? ⟨b, off + j * K.sz + i, none⟩ = cs[i]?) ∧ K.rd w S cs x) (xs := xs) hc
    refine ⟨cks, ⟨by omega, fun _ => ⟨b, off, rfl, hb, hs, fun j cs hj => ?_⟩⟩, fun j x hj => ?_⟩
    · have hjl := (List.getElem?_eq_some_iff.1 hj).1
      obtain ⟨cs', h2, h3, h4, h5⟩ := hck j (xs[j]'(by omega)) (List.getElem?_eq_getElem _)
      rw [hj] at h2; injection h2 with h2; subst h2
      exact ⟨cs, h3, h4, rfl, h3, h1 _ _ _ _ h5⟩
    · obtain ⟨cs', h2, h3, h4, h5⟩ := hck j x hj
      exact ⟨cs', h2, h5⟩
theorem Own.map {α β : Type} {K : Lay α} {K' : Lay β} {t : TypeId} {w : World} {S : Nat → Prop} {v : Value} {n : Nat} {xs : List α} {ys : List β} (h : Own K t w S v n xs) (hs : K'.sz = K.sz) (hl : ys.length = n)
    (hm : ∀ (w : World) (S : Nat → Prop) (cs : List Value) (j : Nat) (x : α) (y : β), xs[j]? = some x → ys[j]? = some y → K.own w S cs x → K'.own w S cs y) : Own K' t w S v n ys := by
  have hxl := h.1
  refine ⟨hl, ?_⟩
  rcases h.2 with h2 | ⟨g, cap, cur, F, hv, hg, hr, h1, h2, h3, hF, hD, hc⟩
  · exact .inl h2
  · refine .inr ⟨g, cap, cur, F, hv, hg, hr, h1, h2, by rw [hs]; exact h3, hF, hD, fun j y hj => ?_⟩
    have hjl := (List.getElem?_eq_some_iff.1 hj).1
    have hx : xs[j]? = some (xs[j]'(by omega)) := List.getElem?_eq_getElem _
    obtain ⟨cs, hcl, hcs, ho⟩ := hc j _ hx
    exact ⟨cs, by rw [hs]; exact hcl, by rw [hs]; exact hcs, hm _ _ _ _ _ _ hx hj ho⟩

theorem nil_none {α : Type} {K : Lay α} {w : World} {S : Nat → Prop} {n : Nat} {xs : List α} (h : Lst K w S none n xs) : n = 0 ∧ xs = [] := by
  have hn : n = 0 := by
    rcases Nat.eq_zero_or_pos n with h0 | h0
    · exact h0
    · obtain ⟨_, _, he, _⟩ := h.2 h0; cases he
  exact ⟨hn, List.eq_nil_of_length_eq_zero (by rw [h.1, hn])⟩

/-- Of the pages the first k are copied whole, of the others the cells alone. -/
def KMix : Lay (Pg ⊕ List Value) := KEither KPage (KRaw 4) rfl
def mixTo (ps : List Pg) (cks : List (List Value)) (k : Nat) : List (Pg ⊕ List Value) := (ps.take k).map .inl ++ (cks.drop k).map .inr
theorem length_mixTo {ps : List Pg} {cks : List (List Value)} {k : Nat} (h : cks.length = ps.length) (hk : k ≤ ps.length) : (mixTo ps cks k).length = ps.length := by simp [mixTo]; omega
theorem mixTo_at {ps : List Pg} {cks : List (List Value)} {k : Nat} {cs : List Value} (hk : k ≤ ps.length) (h : cks[k]? = some cs) : (mixTo ps cks k)[k]? = some (.inr cs) := by
  unfold mixTo
  rw [List.getElem?_append_right (by simp; omega)]
  simp only [List.length_map, List.length_take, Nat.min_eq_left hk, Nat.sub_self, List.getElem?_map, List.getElem?_drop, Nat.add_zero, h]; rfl
theorem mixTo_step {ps : List Pg} {cks : List (List Value)} {k : Nat} {p : Pg} (h : ps[k]? = some p) (hc : k < cks.length) : (mixTo ps cks k).set k (.inl p) = mixTo ps cks (k + 1) := by
  obtain ⟨hk, rfl⟩ := List.getElem?_eq_some_iff.1 h
  unfold mixTo
  have hl : ((ps.take k).map (Sum.inl (β := List Value))).length = k := by simp; omega
  rw [List.set_append_right _ _ (by omega), hl, Nat.sub_self, List.drop_eq_getElem_cons hc, List.map_cons, List.set_cons_zero, List.take_succ_eq_append_getElem hk, List.map_append, List.append_assoc]
  rfl

end Go.Proofs.Ythpamclljdcjpaa

/- append(out, xs...) at a step of a region that draws its order. -/
namespace Go.Proofs.Ythpamclljdcjpaa
open Go.RowKit

theorem Turn.drew_ (T : Nat → Prop) (w : World) : Turn T w w.drew := ⟨rfl, rfl, rfl, Nat.le_refl _, fun _ _ _ => rfl⟩
theorem Turn.undrew {T : Nat → Prop} {w w' : World} (h : Turn T w.drew w') : Turn T w w' := ⟨h.os, h.tape, h.output, h.size, h.block⟩
theorem Own.drew {α : Type} {K : Lay α} {t : TypeId} {w : World} {S : Nat → Prop} {v : Value} {n : Nat} {xs : List α} (h : Own K t w S v n xs) : Own K t w.drew S v n xs := h.turn (Turn.drew_ (fun _ => False) w) (fun _ _ _ h => h)
theorem Lst.drew {α : Type} {K : Lay α} {w : World} {S : Nat → Prop} {ao : Option Addr} {n : Nat} {xs : List α} (h : Lst K w S ao n xs) : Lst K w.drew S ao n xs := h.turn (Turn.drew_ (fun _ => False) w) (fun _ _ _ h => h)

section
variable {P : Program} {α : Type} {K : Lay α} {w : World} {S S' : Nat → Prop} {ops : Array Oper} {rest : List Oper} {o : Oper} {a : Act} {Q : Exit → Act → World → Prop} {K' : Act → World → Prop} {E : Prop}
/-- append(out, xs...), the elements flat. -/
theorem wp_append_flat (s x : Operand) (t : TypeId) (ho : o.op = .call { callee := .builtin .append, args := #[s, x], argTypes := #[t, t] })
    (e : TypeId) (i : TypeInfo) (z : Value) (bytes : Nat) (ht : P.underlying t = some (.slice e)) (hi : P.info? e = some i) (hz : i.zero = some z)
    (hsize : i.size = K.sz) (hby : i.bytes = bytes) (hzs : z.cells.size = K.sz) (hsz : 0 < K.sz) (hK : Flat K) (hone : OneC K)
    {v : Value} {n m c : Nat} {xs ys : List α} {ao : Option Addr} (hs : a.eval s = v) (hown : Own K e w S v n xs) (hx : a.eval x = .slice ao m c) (hr : Lst K w S' ao m ys)
    (h63 : n + m ≤ maxLen) (hbytes : (n + m) * bytes ≤ 140737488355328)
    (h : ∀ v' w', Own K e w' (fun k => S k ∨ w.heap.size ≤ k) v' (n + m) (xs ++ ys) → Turn S w w' → K' (a.put o.dst v') w') : Oper.wp P o a w K' Q := by
  obtain ⟨cells, hrow, hS, F, hF, hD, hc⟩ := hown.row
  obtain ⟨news, hnl, hnc, hne⟩ := hr.news
  have hxl := hown.1
  have hyl := hr.1
  have hone' : ∀ u ∈ news, u.oneCell' = true := by
    intro u hu
    obtain ⟨q, hq, rfl⟩ := List.getElem_of_mem hu
    have hqm : q / K.sz < m := Nat.div_lt_of_lt_mul (by rw [Nat.mul_comm]; omega)
    obtain ⟨cs, hcl, hcs, hrd⟩ := hne (q / K.sz) (ys[q / K.sz]'(by omega)) (List.getElem?_eq_getElem _)
    have h1 := hcs (q % K.sz) (Nat.mod_lt _ hsz)
    rw [Nat.mul_comm, Nat.div_add_mod, List.getElem?_eq_getElem hq] at h1
    exact hone _ _ _ _ hrd _ (List.mem_of_getElem? h1.symm)
  have hrun : ∃ v' w', (Builtin.append_ #[t, t] o.type #[v, .slice ao m c]).run P w = .ok v' w' ∧ w'.ownsRow 0 e K.sz v' (n + m) (cells ++ news) ∧ w.grownBy w' v.ownBlock ∧ (v'.ownBlock = v.ownBlock ∨ v'.ownBlock = some w.heap.size) := by
    cases ao with
    | none =>
      have hm : m = 0 := by
        rcases Nat.eq_zero_or_pos m with h0 | h0
        · exact h0
        · obtain ⟨_, _, h, _⟩ := hnc h0; cases h
      subst hm
      have hnn : news = [] := List.eq_nil_of_length_eq_zero (by simpa using hnl)
      subst hnn
      refine ⟨v, w, ?_, by simpa using hrow, ⟨rfl, rfl, rfl, Nat.le_refl _, fun _ _ _ => rfl⟩, .inl rfl⟩
      rcases hrow.2 with ⟨rfl, rfl⟩ | ⟨g, cap, cur, rfl, _, _, hcap, _⟩
      · simp [Builtin.append_, run_underlying ht, sizeOf, typeInfo, hi, Builtin.lenOf, Builtin.firstCells]
      · simp [Builtin.append_, run_underlying ht, sizeOf, typeInfo, hi, Builtin.lenOf, Builtin.firstCells, hcap, storeCells]
    | some ad =>
      have hcells : ∀ j u, news[j]? = some u → w.cell? (ad.add j) = some u := by
        intro j u hu
        rcases Nat.eq_zero_or_pos m with h0 | h0
        · subst h0
          have hnn : news = [] := List.eq_nil_of_length_eq_zero (by simpa using hnl)
          subst hnn; simp at hu
        · obtain ⟨b, off, he, hc'⟩ := hnc h0
          injection he with he; subst he
          rw [add_plain']; exact hc' j u hu
      obtain ⟨v', w', h1, h2, h3, _, h5⟩ := run_append_own_at (P := P) w 0 t o.type e i z K.sz bytes ht hi hz hsize hby hzs hsz v n cells hrow ad m c news hnl hcells hone' h63 hbytes (Nat.zero_le _)
      exact ⟨v', w', h1, h2, h3, h5⟩
  obtain ⟨v', w', hr1, h2, h3, h5⟩ := hrun
  unfold Oper.wp execOp
  simp only [ho, resolve, invoke, builtin, Sem.run_bind, Sem.run_pure, Result.andThen_ok, List.map_toArray, List.map_cons, List.map_nil, hs, hx, hr1]
  refine h v' w' ?_ ((Turn.of_grown h3).mono (fun k hk _ => hS k hk))
  have hcl : cells.length = n * K.sz := hrow.1
  refine Own.of_row (F := fun _ _ => False) h2 (by simp [hxl, hyl]) (fun g hg => ?_) (fun _ _ h => h.elim) (fun _ _ _ h => h.elim) (fun j y hj => ?_)
  · rcases h5 with h6 | h6
    · exact .inl (hS g (by rw [← h6]; exact hg))
    · rw [hg] at h6; injection h6 with h6; exact .inr (by omega)
  · by_cases e : j < n
    · rw [List.getElem?_append_left (by omega)] at hj
      obtain ⟨cs, h6, h7, h8⟩ := hc j y hj
      have := Nat.mul_le_mul_right K.sz (show j + 1 ≤ n by omega)
      rw [Nat.add_mul] at this
      exact ⟨cs, h6, fun i hi => by rw [List.getElem?_append_left (by omega)]; exact h7 i hi, hK w w' _ _ _ _ (K.own_rd h8)⟩
    · rw [List.getElem?_append_right (by omega)] at hj
      obtain ⟨cs, h6, h7, h8⟩ := hne _ y hj
      refine ⟨cs, h6, fun i hi => ?_, hK w w' _ _ _ _ h8⟩
      have hle := Nat.mul_le_mul_right K.sz (show n ≤ j by omega)
      rw [List.getElem?_append_right (by omega), ← h7 i hi, hcl, hxl, Nat.sub_mul]
      congr 1; omega
/-- The same at a step of a region that draws its order. -/
theorem step_append_flat (hgd : o.guard = none) (s x : Operand) (t : TypeId) (ho : o.op = .call { callee := .builtin .append, args := #[s, x], argTypes := #[t, t] })
    (e : TypeId) (i : TypeInfo) (z : Value) (bytes : Nat) (ht : P.underlying t = some (.slice e)) (hi : P.info? e = some i) (hz : i.zero = some z)
    (hsize : i.size = K.sz) (hby : i.bytes = bytes) (hzs : z.cells.size = K.sz) (hsz : 0 < K.sz) (hK : Flat K) (hone : OneC K)
    {v : Value} {n m c : Nat} {xs ys : List α} {ao : Option Addr} (hs : a.eval s = v) (hown : Own K e w S v n xs) (hx : a.eval x = .slice ao m c) (hr : Lst K w S' ao m ys)
    (h63 : n + m ≤ maxLen) (hbytes : (n + m) * bytes ≤ 140737488355328)
    (h : ∀ v' w', Own K e w' (fun k => S k ∨ w.heap.size ≤ k) v' (n + m) (xs ++ ys) → Turn S w w' → K' (a.put o.dst v') w') :
    if Region.wanted o (yielded ops a.tmps) = true then Oper.wp P o a w K' Q else E := by
  have hw : Region.wanted o (yielded ops a.tmps) = true := by simp [Region.wanted, hgd]
  rw [if_pos hw]
  exact wp_append_flat s x t ho e i z bytes ht hi hz hsize hby hzs hsz hK hone hs hown hx hr h63 hbytes h
end
end Go.Proofs.Ythpamclljdcjpaa

namespace Go.Proofs.Ythpamclljdcjpaa
open Go.RowKit

section
variable {P : Program} {α : Type} {K : Lay α} {w : World} {S : Nat → Prop} {ops : Array Oper} {rest : List Oper} {o : Oper} {a : Act} {Q : Exit → Act → World → Prop}
theorem wpList_append_zeros (hgd : o.guard = none) (s x : Operand) (t tn : TypeId) (ho : o.op = .call { callee := .builtin .append, args := #[s, x], argTypes := #[t, tn] })
    (e : TypeId) (i : TypeInfo) (z : Value) (bytes : Nat) (kn kq : IntKind) (ht : P.underlying t = some (.slice e)) (htn : P.underlying tn = some (.int kn)) (hi : P.info? e = some i) (hz : i.zero = some z)
    (hsize : i.size = K.sz) (hby : i.bytes = bytes) (hzs : z.cells.size = K.sz) (hsz : 0 < K.sz)
    {g n k : Nat} {xs : List α} {y : α} (hs : a.eval s = .slice (some ⟨g, 0, none⟩) n n) (hown : Own K e w S (.slice (some ⟨g, 0, none⟩) n n) n xs) (hx : a.eval x = .int kq k) (hy : ∀ w, K.own w (fun _ => False) z.cells.toList y)
    (h0 : 0 < k) (h63 : n + k ≤ maxLen) (hbytes : (n + k) * bytes ≤ 140737488355328)
    (h : ∀ v' w', Own K e w' (fun j => S j ∨ w.heap.size ≤ j) v' (n + k) (xs ++ List.replicate k y) → Below w.heap.size w w' → wpList P ops Q rest (a.put o.dst v') w') : wpList P ops Q (o :: rest) a w := by
  obtain ⟨cells, hrow, hS, F, hF, hD, hc⟩ := hown.row
  subst hby
  have hsmall : n + k ≤ 9223372036854775807 := by simp only [maxLen] at h63; omega
  have hkb : k * i.bytes ≤ 140737488355328 := Nat.le_trans (Nat.mul_le_mul_right _ (by omega)) hbytes
  have hrun := Lib.run_append_grow_zeros w t tn o.type e i z kq kn ht htn hi hz (some ⟨g, 0, none⟩) n n cells
    (run_firstCells_some (P := P) w.drew i.size n ⟨g, 0, none⟩ n n cells (by rw [hsize]; exact hrow.1) (by simpa using hrow.cells (g := g) rfl)) k h0 (by omega) (by omega) (by omega) (by omega) (growslice_fits (by omega) hbytes)
  refine wpList_plain hgd fun K' hK' => ?_
  unfold Oper.wp execOp
  simp only [ho, resolve, invoke, builtin, Sem.run_bind, Sem.run_pure, Result.andThen_ok, List.map_toArray, List.map_cons, List.map_nil, hs, hx, hrun]
  have hge := grownCap_ge w (n + k) n e
  have hle := grownCap_le_maxLen w (n + k) n e h63
  have hb : Below w.heap.size w (w.drew.alloc (.cells (cells.toArray ++ Builtin.zeroCells z.cells k ++ Builtin.zeroCells z.cells (grownCap w (n + k) n e - (n + k))) e)) := Turn.none_ ((Turn.drew_ _ w).trans (Turn.alloc _ w.drew _) (fun _ h _ => h))
  refine hK' _ _ (h _ _ ?_ hb)
  have hcl : cells.length = n * K.sz := hrow.1
  have hzl : (Builtin.zeroCells z.cells k).size = k * K.sz := by rw [size_zeroCells, hzs]
  have hzt : (Builtin.zeroCells z.cells k).toList.length = k * K.sz := hzl
  have hxl := hown.1
  refine Own.of_row (F := fun j q => q < w.heap.size ∧ F j q) (cells := cells ++ (Builtin.zeroCells z.cells k).toList) ⟨?_, .inr ⟨w.heap.size, _, _, rfl, Nat.zero_le _, heap_alloc_new w.drew _, hge, hle, ?_, ?_⟩⟩ (by simp [hxl]) (fun g' hg' => ?_) (fun j q hq => ⟨.inl (hF j q hq.2).1, fun e => ?_⟩) (fun i j q hi hj => hD i j q hi.2 hj.2) (fun j y' hj => ?_)
  · rw [List.length_append, hzt, hcl, Nat.add_mul]
  · simp only [Array.size_append, List.size_toArray, size_zeroCells, hzs, hcl, ← Nat.add_mul]; congr 1; omega
  · have e1 : (n + k) * K.sz = (cells ++ (Builtin.zeroCells z.cells k).toList).length := by rw [List.length_append, hzt, hcl, Nat.add_mul]
    simp only [Array.toList_append]
    rw [e1]; exact List.take_left
  · simp [Value.ownBlock] at hg'; exact .inr (by omega)
  · simp [Value.ownBlock] at e; omega
  · by_cases hjn : j < n
    · rw [List.getElem?_append_left (by omega)] at hj
      obtain ⟨cs, h6, h7, h8⟩ := hc j y' hj
      have := Nat.mul_le_mul_right K.sz (show j + 1 ≤ n by omega)
      rw [Nat.add_mul] at this
      refine ⟨cs, h6, fun i hi => by rw [List.getElem?_append_left (by omega)]; exact h7 i hi, ?_⟩
      exact K.own_turn (T := fun _ => False) (K.own_mono h8 (fun q hq hl => ⟨hl, hq⟩)) (Turn.of_below hb) (fun _ _ _ h => h)
    · rw [List.getElem?_append_right (by omega), List.getElem?_replicate] at hj
      split at hj
      · rename_i hjk
        injection hj with hj; subst hj
        refine ⟨z.cells.toList, by simpa using hzs, fun i hi => ?_, K.own_mono (hy _) (fun _ h _ => h.elim)⟩
        have hle := Nat.mul_le_mul_right K.sz (show n ≤ j by omega)
        rw [List.getElem?_append_right (by omega), hcl, show j * K.sz + i - n * K.sz = (j - xs.length) * K.sz + i by rw [hxl, Nat.sub_mul]; omega]
        have h2 := Nat.mul_le_mul_right K.sz (show j - xs.length + 1 ≤ k by omega)
        rw [Nat.add_mul] at h2
        have h3 : ((j - xs.length) * K.sz + i) % z.cells.size = i := by rw [hzs, Nat.mul_comm, Nat.mul_add_mod, Nat.mod_eq_of_lt hi]
        have h4 : (j - xs.length) * K.sz + i < k * z.cells.size := by rw [hzs]; omega
        simp only [hzs] at h3 h4
        simp [Builtin.zeroCells, hzs, hi]
        exact ⟨_, List.getElem?_range h4, by rw [h3]; simp [hzs, hi]⟩
      · cases hj
end
end Go.Proofs.Ythpamclljdcjpaa

/- slices.Sort at []int64, by the library's contract: its functions and types at this program. -/
namespace Go.Proofs.Ythpamclljdcjpaa
open Go.Shelf Go.RowKit
end Go.Proofs.Ythpamclljdcjpaa

/- Slices of whole numbers as chapter 5 of the program has them: copied, looked through, compared, joined; two that are alike. -/
namespace Go.Proofs.Ythpamclljdcjpaa
open Go.RowKit

theorem Own.ints {t : TypeId} {w : World} {S : Nat → Prop} {ao : Option Addr} {m c n : Nat} {xs : List Int} (h : Own KInt t w S (.slice ao m c) n xs) : Ints w ao n xs := h.lst.2.2.2.ints
theorem Lst.of_ints {w : World} {S : Nat → Prop} {ao : Option Addr} {n : Nat} {xs : List Int} (h : Ints w ao n xs) (hS : ∀ k, k < w.heap.size → S k) : Lst KInt w S ao n xs := h.lst.mono (fun k _ hk => hS k hk)

/-- The first place of a number, or -1. -/
def idxI (v : Int) : List Int → Nat → Int
  | [], _ => -1
  | x :: r, k => if x = v then k else idxI v r (k + 1)
theorem idxI_hasIn (v : Int) : ∀ (xs : List Int) (k : Nat), decide (0 ≤ idxI v xs k) = hasIn xs v
  | [], k => by simp [idxI, hasIn]
  | x :: r, k => by
    unfold idxI
    by_cases h : x = v
    · subst h; simp [hasIn]
    · rw [if_neg h, idxI_hasIn v r (k + 1)]
      simp only [hasIn, List.contains_cons]
      simp; grind
theorem idx_contains {xs : List Int} {v : Int} (h : hasIn xs v = true) : 0 ≤ idxI v xs 0 := by have := idxI_hasIn v xs 0; rw [h] at this; simpa using this
theorem idx_lacks {xs : List Int} {v : Int} (h : hasIn xs v = false) : ¬ (0 ≤ idxI v xs 0) := by have := idxI_hasIn v xs 0; rw [h] at this; simpa using this

end Go.Proofs.Ythpamclljdcjpaa

/- Lists of whole numbers compared; lists of lists; slices that are joined, sorted; two that are alike. -/
namespace Go.Proofs.Ythpamclljdcjpaa
open Go.RowKit

/-- A magazine: a slice of whole numbers in one cell. -/
def KMag : Lay (List Int) := KSlice KInt 2
theorem KMag_sz : KMag.sz = 1 := rfl
theorem one_mag : OneC KMag := one_slice KInt _
/-- No list of lists has a longer one than this. -/
def ShortM (N : Nat) (ms : List (List Int)) : Prop := ∀ m ∈ ms, m.length ≤ N
theorem ShortM.at_ {N : Nat} {ms : List (List Int)} (h : ShortM N ms) {k : Nat} {m : List Int} (hk : ms[k]? = some m) : m.length ≤ N := h m (List.mem_of_getElem? hk)
theorem ShortM.more {N M : Nat} {ms : List (List Int)} (h : ShortM N ms) (hM : N ≤ M) : ShortM M ms := fun p hp => Nat.le_trans (h p hp) hM
/-- One list of a list of lists, in its cell. -/
theorem Lst.mag_at {w : World} {S : Nat → Prop} {ao : Option Addr} {n : Nat} {ms : List (List Int)} (h : Lst KMag w S ao n ms) {j : Nat} (hj : j < n) :
    ∃ b off m a l c, ao = some ⟨b, off, none⟩ ∧ b < w.heap.size ∧ ms[j]? = some m ∧ w.cell? ⟨b, off + j, none⟩ = some (.slice a l c) ∧ l ≤ c ∧ c ≤ maxLen ∧ Lst KInt w S a l m := by
  obtain ⟨b, off, cs, x, rfl, hb, hs, hx, hl, hcs, ⟨a, l, c, rfl, h1, h2, h3⟩⟩ := h.at_ hj
  have h0 := hcs 0 (by rw [KMag_sz]; omega)
  rw [KMag_sz, Nat.mul_one] at h0
  exact ⟨b, off, x, a, l, c, rfl, hb, hx, h0, h1, h2, h3⟩
theorem KMag_rd_mk {w : World} {S : Nat → Prop} {m : List Int} {a : Option Addr} {n c : Nat} (hn : n ≤ c) (hc : c ≤ maxLen) (hl : Lst KInt w S a n m) : KMag.rd w S [.slice a n c] m := ⟨a, n, c, rfl, hn, hc, hl⟩
theorem KMag_own_mk {w : World} {S : Nat → Prop} {m : List Int} {v : Value} {n : Nat} (hl : Own KInt 2 w S v n m) : KMag.own w S [v] m := ⟨v, n, rfl, hl⟩

/-- Two of these are the same. -/
def alike (xs : List Int) : Bool := !decide xs.Nodup
theorem pairwise_rising {xs : List Int} (h : xs.Pairwise (· < ·)) : rising xs = true := by
  rw [rising_iff]
  intro i h1 h2
  have := List.pairwise_iff_getElem.1 h (i - 1) i (by omega) h2 (by omega)
  simpa [List.getD, h2, show i - 1 < xs.length by omega] using this
theorem rising_pairwise {xs : List Int} (h : rising xs = true) : xs.Pairwise (· < ·) := by
  rw [rising_iff] at h
  have key : ∀ d i, i + d + 1 < xs.length → xs.getD i 0 < xs.getD (i + d + 1) 0 := by
    intro d
    induction d with
    | zero => intro i hi; have := h (i + 1) (by omega) (by omega); simpa using this
    | succ d ih => intro i hi; have h1 := ih i (by omega); have h2 := h (i + (d + 1) + 1) (by omega) (by omega); simp only [Nat.add_sub_cancel] at h2; exact Int.lt_trans h1 h2
  refine List.pairwise_iff_getElem.2 fun i j hi hj hij => ?_
  have := key (j - i - 1) i (by omega)
  rw [show i + (j - i - 1) + 1 = j by omega] at this
  simpa [List.getD, hi, hj] using this
theorem rising_sorted (xs : List Int) : rising (xs.mergeSort fun x y => decide (x ≤ y)) = decide xs.Nodup := by
  have hp := List.mergeSort_perm xs (fun x y => decide (x ≤ y))
  have hs : (xs.mergeSort fun x y => decide (x ≤ y)).Pairwise (fun x y => decide (x ≤ y) = true) := List.pairwise_mergeSort (fun a b c h1 h2 => by simp at *; omega) (fun a b => by simp; omega) xs
  rcases hr : rising (xs.mergeSort fun x y => decide (x ≤ y)) with _ | _
  · symm
    rw [decide_eq_false_iff_not]
    intro hn
    have hn2 := hp.nodup_iff.2 hn
    have : (xs.mergeSort fun x y => decide (x ≤ y)).Pairwise (· < ·) := by
      refine (hs.and (List.nodup_iff_pairwise_ne.1 hn2)).imp ?_
      rintro a b ⟨h1, h2⟩
      simp at h1; omega
    rw [pairwise_rising this] at hr; cases hr
  · symm
    rw [decide_eq_true_iff]
    exact hp.nodup_iff.1 ((rising_pairwise hr).imp fun h => by omega)
end Go.Proofs.Ythpamclljdcjpaa
