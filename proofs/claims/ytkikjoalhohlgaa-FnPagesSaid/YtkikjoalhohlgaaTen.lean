/- Chapter 2: configs in memory, and what its functions answer, in plain words. -/
import Derived.Test.YtkikjoalhohlgaaShare
namespace Go.Proofs.Ytkikjoalhohlgaa
open Go.RowKit

/-- What is known of element j. -/
def tenAt (ts : List (List Int × Int)) (j : Nat) : List Int × Int := ts.getD j ([], 0)

/-- One tenant's two cells at an address. -/
def Ten (w : World) (b o : Nat) (t : List Int × Int) : Prop :=
  b < w.heap.size ∧ ∃ a m c, m ≤ c ∧ w.cell? ⟨b, o, none⟩ = some (.slice a m c) ∧ w.cell? ⟨b, o + 1, none⟩ = some (.int .i64 t.2) ∧ Ints w a m t.1

theorem Ten.below {w w' : World} {b o : Nat} {t : List Int × Int} (h : Ten w b o t) (hb : Below w.heap.size w w') : Ten w' b o t := by
  obtain ⟨h0, a, m, c, hm, h1, h2, h3⟩ := h
  exact ⟨Nat.lt_of_lt_of_le h0 hb.size, a, m, c, hm, (hb.cell (p := ⟨b, o, none⟩) h0).trans h1, (hb.cell (p := ⟨b, o + 1, none⟩) h0).trans h2, h3.below hb⟩
theorem Ten.drewN {w : World} {b o : Nat} {t : List Int × Int} (h : Ten w b o t) (n : Nat) : Ten (w.drewN n) b o t := h

/-- The slice of n tenants at 'ao' reads as ts. -/
def Tens (w : World) (ao : Option Addr) (n : Nat) (ts : List (List Int × Int)) : Prop :=
  ts.length = n ∧ (0 < n → ∃ b off, ao = some ⟨b, off, none⟩ ∧ b < w.heap.size ∧ ∀ j, j < n → Ten w b (off + j * 2) (tenAt ts j))

theorem Tens.below {w w' : World} {ao : Option Addr} {n : Nat} {ts : List (List Int × Int)} (h : Tens w ao n ts) (hb : Below w.heap.size w w') : Tens w' ao n ts := by
  refine ⟨h.1, fun h0 => ?_⟩
  obtain ⟨b, off, rfl, hlt, hc⟩ := h.2 h0
  exact ⟨b, off, rfl, Nat.lt_of_lt_of_le hlt hb.size, fun j hj => (hc j hj).below hb⟩
theorem Tens.alloc {w : World} {ao : Option Addr} {n : Nat} {ts : List (List Int × Int)} (h : Tens w ao n ts) (o : Obj) : Tens (w.alloc o) ao n ts := h.below ((Below.refl _ _).alloc (Nat.le_refl _) o)
theorem Tens.drewN {w : World} {ao : Option Addr} {n : Nat} {ts : List (List Int × Int)} (h : Tens w ao n ts) (k : Nat) : Tens (w.drewN k) ao n ts := h
theorem Tens.none_ (w : World) : Tens w none 0 [] := ⟨rfl, fun h => absurd h (by omega)⟩
theorem Tens.at_ {w : World} {ao : Option Addr} {n : Nat} {ts : List (List Int × Int)} (h : Tens w ao n ts) {k : Nat} (hk : k < n) :
    ∃ b off, ao = some ⟨b, off, none⟩ ∧ Ten w b (off + k * 2) (tenAt ts k) := by
  obtain ⟨b, off, rfl, hb, hc⟩ := h.2 (by omega)
  exact ⟨b, off, rfl, hc k hk⟩

/-- No list of colours is longer than this. -/
def Short (N : Nat) (ts : List (List Int × Int)) : Prop := ∀ t ∈ ts, t.1.length ≤ N
theorem Short.at_ {N : Nat} {ts : List (List Int × Int)} (h : Short N ts) (k : Nat) : (tenAt ts k).1.length ≤ N := by
  unfold tenAt
  rcases Nat.lt_or_ge k ts.length with hk | hk
  · rw [List.getD_eq_getElem?_getD, List.getElem?_eq_getElem hk]; exact h _ (List.getElem_mem hk)
  · rw [List.getD_eq_getElem?_getD, List.getElem?_eq_none hk]; simp

/-- These rise. -/
def risingTo (xs : List Int) (k : Nat) : Prop := ∀ i, 1 ≤ i → i < k → xs.getD (i - 1) 0 < xs.getD i 0
def rising (xs : List Int) : Bool := (List.range xs.length).all fun i => decide (i = 0) || decide (xs.getD (i - 1) 0 < xs.getD i 0)
theorem rising_iff (xs : List Int) : rising xs = true ↔ risingTo xs xs.length := by
  unfold rising risingTo
  simp only [List.all_eq_true, List.mem_range, Bool.or_eq_true, decide_eq_true_iff]
  constructor
  · intro h i h1 h2
    rcases h i h2 with h3 | h3
    · omega
    · exact h3
  · intro h i hi
    by_cases h0 : i = 0
    · exact .inl h0
    · exact .inr (h i (by omega) hi)
theorem rising_no {xs : List Int} {k : Nat} (h1 : 1 ≤ k) (hk : k < xs.length) (h : ¬ xs.getD (k - 1) 0 < xs.getD k 0) : rising xs = false := by
  rcases hb : rising xs with _ | _
  · rfl
  · exact absurd ((rising_iff xs).1 hb k h1 hk) h
theorem risingTo_succ {xs : List Int} {k : Nat} (h : risingTo xs k) (h1 : xs.getD (k - 1) 0 < xs.getD k 0) : risingTo xs (k + 1) := by
  intro i i1 i2
  by_cases e : i = k
  · rw [e]; exact h1
  · exact h i i1 (by omega)

/-- What is wrong with one tenant. -/
def tenantFault (C : Int) (t : List Int × Int) : Int :=
  if within 1 2 [t.2] = true ∧ within 0 (C - 1) t.1 = true then (if rising t.1 = true then 0 else 1) else 3
/-- The first fault of the tenants, one by one. -/
def firstFault (C : Int) : List (List Int × Int) → Int
  | [] => 0
  | t :: r => if tenantFault C t = 0 then firstFault C r else tenantFault C t
theorem firstFault_at {C : Int} : ∀ {ts : List (List Int × Int)} {k : Nat}, k < ts.length → (∀ j, j < k → tenantFault C (tenAt ts j) = 0) → tenantFault C (tenAt ts k) ≠ 0 → firstFault C ts = tenantFault C (tenAt ts k)
  | [], k, hk, _, _ => by simp at hk
  | t :: r, 0, _, _, h => by simp [firstFault, tenAt] at h ⊢; exact fun h2 => absurd h2 h
  | t :: r, k + 1, hk, h0, h => by
    have h1 : tenantFault C t = 0 := by simpa [tenAt] using h0 0 (by omega)
    unfold firstFault
    rw [if_pos h1]
    have := firstFault_at (C := C) (ts := r) (k := k) (by simpa using hk) (fun j hj => by simpa [tenAt] using h0 (j + 1) (by omega)) (by simpa [tenAt] using h)
    simpa [tenAt] using this
theorem firstFault_ok {C : Int} : ∀ {ts : List (List Int × Int)}, (∀ j, j < ts.length → tenantFault C (tenAt ts j) = 0) → firstFault C ts = 0
  | [], _ => rfl
  | t :: r, h => by
    have h1 : tenantFault C t = 0 := by simpa [tenAt] using h 0 (by simp)
    unfold firstFault
    rw [if_pos h1]
    exact firstFault_ok fun j hj => by simpa [tenAt] using h (j + 1) (by simpa using hj)
theorem firstFault_all {C : Int} : ∀ {ts : List (List Int × Int)}, firstFault C ts = 0 → ∀ j, j < ts.length → tenantFault C (tenAt ts j) = 0
  | [], _, j, hj => by simp at hj
  | t :: r, h, j, hj => by
    unfold firstFault at h
    split at h
    · rename_i h1
      cases j with
      | zero => simpa [tenAt] using h1
      | succ j => simpa [tenAt] using firstFault_all h j (by simpa using hj)
    · rename_i h1; exact absurd h h1
theorem tenantFault_ok {C : Int} {t : List Int × Int} (h : tenantFault C t = 0) : 1 ≤ t.2 ∧ t.2 ≤ 2 ∧ within 0 (C - 1) t.1 = true ∧ rising t.1 = true := by
  unfold tenantFault at h
  split at h
  · rename_i h1
    split at h
    · have := h1.1
      rw [within_one] at this
      simp at this
      exact ⟨this.1, this.2, h1.2, by assumption⟩
    · omega
  · omega

theorem rising_far {xs : List Int} (h : risingTo xs xs.length) (h0 : within 0 7 xs = true) : ∀ i, i < xs.length → (i : Int) ≤ xs.getD i 0
  | 0, hi => by
    have := within_at h0 hi
    rw [List.getD_eq_getElem?_getD, List.getElem?_eq_getElem hi]; simp; omega
  | i + 1, hi => by
    have h1 := rising_far h h0 i (by omega)
    have h2 := h (i + 1) (by omega) hi
    simp only [Nat.add_sub_cancel] at h2
    omega
theorem short_of_fault {C : Int} {t : List Int × Int} (hC : C ≤ 8) (h : tenantFault C t = 0) : t.1.length ≤ 8 ∧ within 0 7 t.1 = true := by
  obtain ⟨_, _, h1, h2⟩ := tenantFault_ok h
  have h3 : within 0 7 t.1 = true := by
    unfold within at *
    rw [List.all_eq_true] at *
    intro v hv
    have := h1 v hv
    simp at *; omega
  refine ⟨?_, h3⟩
  rcases Nat.lt_or_ge 8 t.1.length with hl | hl
  · have h4 := rising_far ((rising_iff _).1 h2) h3 8 hl
    have h5 := within_at h3 hl
    rw [List.getD_eq_getElem?_getD, List.getElem?_eq_getElem hl] at h4
    simp at h4; omega
  · exact hl

/-- One tenant's colours have this one. -/
def hasColour (t : List Int × Int) (c : Int) : Bool := hasIn t.1 c
/-- Two tenants have the same colour. -/
def shared (ts : List (List Int × Int)) : Bool := (List.range ts.length).any fun i => (List.range i).any fun k => (tenAt ts i).1.any fun c => hasColour (tenAt ts k) c
theorem shared_iff (ts : List (List Int × Int)) : shared ts = true ↔ ∃ i k c, i < ts.length ∧ k < i ∧ c ∈ (tenAt ts i).1 ∧ hasColour (tenAt ts k) c = true := by
  unfold shared
  simp only [List.any_eq_true, List.mem_range]
  constructor
  · rintro ⟨i, hi, k, hk, c, hc, h⟩; exact ⟨i, k, c, hi, hk, hc, h⟩
  · rintro ⟨i, k, c, hi, hk, hc, h⟩; exact ⟨i, hi, k, hk, c, hc, h⟩

/-- No colour of the first i tenants is an earlier one's; of tenant i none is one of the first k tenants'; of its first n colours none is tenant k's. -/
def NoShare (ts : List (List Int × Int)) (i : Nat) : Prop := ∀ i' k c, i' < i → k < i' → c ∈ (tenAt ts i').1 → hasColour (tenAt ts k) c = false
def NoShare2 (ts : List (List Int × Int)) (i k : Nat) : Prop := ∀ k' c, k' < k → c ∈ (tenAt ts i).1 → hasColour (tenAt ts k') c = false
def NoShare3 (ts : List (List Int × Int)) (i k n : Nat) : Prop := ∀ c, c ∈ ((tenAt ts i).1).take n → hasColour (tenAt ts k) c = false
theorem NoShare.zero (ts : List (List Int × Int)) : NoShare ts 0 := fun _ _ _ h => by omega
theorem NoShare.succ {ts : List (List Int × Int)} {i : Nat} (h : NoShare ts i) (h2 : NoShare2 ts i i) : NoShare ts (i + 1) := by
  intro i' k c h1 hk hc
  by_cases e : i' = i
  · subst e; exact h2 k c hk hc
  · exact h i' k c (by omega) hk hc
theorem NoShare2.succ {ts : List (List Int × Int)} {i k : Nat} (h : NoShare2 ts i k) (h3 : NoShare3 ts i k (tenAt ts i).1.length) : NoShare2 ts i (k + 1) := by
  intro k' c h1 hc
  by_cases e : k' = k
  · subst e; exact h3 c (by rw [List.take_of_length_le (Nat.le_refl _)]; exact hc)
  · exact h k' c (by omega) hc
theorem NoShare3.succ {ts : List (List Int × Int)} {i k n : Nat} (h : NoShare3 ts i k n) (hn : n < (tenAt ts i).1.length) (h1 : hasColour (tenAt ts k) ((tenAt ts i).1)[n] = false) : NoShare3 ts i k (n + 1) := by
  intro c hc
  rw [List.take_succ_eq_append_getElem hn] at hc
  rcases List.mem_append.1 hc with h2 | h2
  · exact h c h2
  · simp at h2; subst h2; exact h1
theorem NoShare3.zero (ts : List (List Int × Int)) (i k : Nat) : NoShare3 ts i k 0 := fun c hc => by simp at hc
theorem NoShare2.zero (ts : List (List Int × Int)) (i : Nat) : NoShare2 ts i 0 := fun _ _ h => by omega
theorem shared_no {ts : List (List Int × Int)} (h : NoShare ts ts.length) : shared ts = false := by
  rw [Bool.eq_false_iff]
  intro hs
  obtain ⟨i, k, c, hi, hk, hc, h1⟩ := (shared_iff ts).1 hs
  rw [h i k c hi hk hc] at h1; cases h1
theorem shared_yes {ts : List (List Int × Int)} {i k n : Nat} (hi : i < ts.length) (hk : k < i) (hn : n < (tenAt ts i).1.length) (h : hasColour (tenAt ts k) ((tenAt ts i).1)[n] = true) : shared ts = true :=
  (shared_iff ts).2 ⟨i, k, _, hi, hk, List.getElem_mem hn, h⟩

/-- What 'ConfigFault' tells. -/
def configFault (F C : Int) (ts : List (List Int × Int)) : Int :=
  if within 1 40 [F] = true ∧ within 1 8 [C] = true then
    (if 1 ≤ ts.length ∧ ts.length ≤ 3 then (if firstFault C ts = 0 then (if shared ts = true then 6 else 0) else firstFault C ts) else 2) else 3
theorem configFault_ok {F C : Int} {ts : List (List Int × Int)} (h : configFault F C ts = 0) :
    1 ≤ F ∧ F ≤ 40 ∧ 1 ≤ C ∧ C ≤ 8 ∧ 1 ≤ ts.length ∧ ts.length ≤ 3 ∧ firstFault C ts = 0 ∧ shared ts = false := by
  unfold configFault at h
  split at h
  · rename_i h1
    obtain ⟨h1, h2⟩ := h1
    rw [within_one] at h1 h2
    simp at h1 h2
    split at h
    · rename_i h3
      split at h
      · rename_i h4
        split at h
        · omega
        · rename_i h5
          exact ⟨h1.1, h1.2, h2.1, h2.2, h3.1, h3.2, h4, by simpa using h5⟩
      · rename_i h4; exact absurd h h4
    · omega
  · omega

def colourOf (F C : Int) (ts : List (List Int × Int)) (f : Int) : Int × Int :=
  if configFault F C ts = 0 then (if within 0 (F - 1) [f] = true then (0, f % C) else (3, 0)) else (configFault F C ts, 0)
/-- Of the first n frames those whose colour this tenant has. -/
def framesTo (C : Int) (t : List Int × Int) (n : Nat) : List Int := ((List.range n).map fun i : Nat => (i : Int)).filter fun f => hasColour t (f % C)
theorem framesTo_zero (C : Int) (t : List Int × Int) : framesTo C t 0 = [] := rfl
theorem framesTo_yes {C : Int} {t : List Int × Int} {n : Nat} (h : hasColour t ((n : Int) % C) = true) : framesTo C t (n + 1) = framesTo C t n ++ [(n : Int)] := by
  simp [framesTo, List.range_succ, List.filter_append, h]
theorem framesTo_no {C : Int} {t : List Int × Int} {n : Nat} (h : hasColour t ((n : Int) % C) = false) : framesTo C t (n + 1) = framesTo C t n := by
  simp [framesTo, List.range_succ, List.filter_append, h]
theorem length_framesTo (C : Int) (t : List Int × Int) (n : Nat) : (framesTo C t n).length ≤ n := by
  have := List.length_filter_le (fun f => hasColour t (f % C)) ((List.range n).map fun i : Nat => (i : Int))
  simpa [framesTo] using this
theorem mem_framesTo {C : Int} {t : List Int × Int} {n : Nat} {f : Int} : f ∈ framesTo C t n ↔ 0 ≤ f ∧ f < n ∧ hasColour t (f % C) = true := by
  unfold framesTo
  simp only [List.mem_filter, List.mem_map, List.mem_range]
  constructor
  · rintro ⟨⟨i, hi, rfl⟩, h⟩; exact ⟨by omega, by omega, h⟩
  · rintro ⟨h0, h1, h⟩; exact ⟨⟨f.toNat, by omega, by omega⟩, h⟩
def framesFor (F C : Int) (ts : List (List Int × Int)) (t : Int) : Int × List Int :=
  if configFault F C ts = 0 then (if within 0 ((ts.length : Int) - 1) [t] = true then (0, framesTo C (tenAt ts t.toNat) F.toNat) else (4, [])) else (configFault F C ts, [])
theorem framesFor_small (F C : Int) (ts : List (List Int × Int)) (t : Int) : (framesFor F C ts t).2.length ≤ 40 := by
  unfold framesFor
  split
  · rename_i h
    have h1 := configFault_ok h
    split
    · have := length_framesTo C (tenAt ts t.toNat) F.toNat
      simp only; omega
    · simp
  · simp
def roomFor (F C : Int) (ts : List (List Int × Int)) (t : Int) : Int × Int := ((framesFor F C ts t).1, ((framesFor F C ts t).2.length : Int))
/-- Those of the first n tenants that have the colour. -/
def holdersTo (ts : List (List Int × Int)) (c : Int) (n : Nat) : List Int := ((List.range n).filter fun i => hasColour (tenAt ts i) c).map fun i : Nat => (i : Int)
theorem holdersTo_yes {ts : List (List Int × Int)} {c : Int} {n : Nat} (h : hasColour (tenAt ts n) c = true) : holdersTo ts c (n + 1) = holdersTo ts c n ++ [(n : Int)] := by
  simp [holdersTo, List.range_succ, List.filter_append, h]
theorem holdersTo_no {ts : List (List Int × Int)} {c : Int} {n : Nat} (h : hasColour (tenAt ts n) c = false) : holdersTo ts c (n + 1) = holdersTo ts c n := by
  simp [holdersTo, List.range_succ, List.filter_append, h]
theorem length_holdersTo (ts : List (List Int × Int)) (c : Int) (n : Nat) : (holdersTo ts c n).length ≤ n := by
  have := List.length_filter_le (fun i => hasColour (tenAt ts i) c) (List.range n)
  simpa [holdersTo] using this
theorem holdersTo_none {ts : List (List Int × Int)} {c : Int} {n : Nat} (h : ∀ j, j < n → hasColour (tenAt ts j) c = false) : holdersTo ts c n = [] := by
  induction n with
  | zero => rfl
  | succ n ih => rw [holdersTo_no (h n (by omega)), ih fun j hj => h j (by omega)]
theorem holdersTo_head {ts : List (List Int × Int)} {c : Int} : ∀ {n k : Nat}, k < n → (∀ j, j < k → hasColour (tenAt ts j) c = false) → hasColour (tenAt ts k) c = true → (holdersTo ts c n).head? = some (k : Int) := by
  intro n
  induction n with
  | zero => intro k hk; omega
  | succ n ih =>
    intro k hk h0 h1
    by_cases e : k = n
    · subst e
      rw [holdersTo_yes h1, holdersTo_none h0]; rfl
    · have h2 := ih (k := k) (by omega) h0 h1
      rcases hb : hasColour (tenAt ts n) c with _ | _
      · rw [holdersTo_no hb]; exact h2
      · rw [holdersTo_yes hb, List.head?_append, h2]; rfl
def ownerOf (F C : Int) (ts : List (List Int × Int)) (f : Int) : Int × Int :=
  if (colourOf F C ts f).1 = 0 then (match (holdersTo ts (colourOf F C ts f).2 ts.length).head? with | some t => (0, t) | none => (4, 0)) else ((colourOf F C ts f).1, 0)

/-- Two new blocks, and what came behind them. -/
theorem two_new {w w1 : World} {o1 o2 : Obj} (h : Below ((w.alloc o1).alloc o2).heap.size ((w.alloc o1).alloc o2) w1) :
    w1.heap[w.heap.size]? = some o1 ∧ w1.heap[w.heap.size + 1]? = some o2 ∧ Below w.heap.size w w1 ∧ w.heap.size + 2 ≤ w1.heap.size := by
  have hs := h.size
  simp at hs
  refine ⟨?_, ?_, below_past (below_past (h.mono (by simp)) |>.mono (by simp)) |>.mono (by simp), by omega⟩
  · rw [h.block _ (by simp; omega), heap_alloc_old _ _ (by simp)]; exact heap_alloc_new _ _
  · rw [h.block _ (by simp)]
    have : w.heap.size + 1 = (w.alloc o1).heap.size := by simp
    rw [this]; exact heap_alloc_new _ _
/-- Three new blocks, and what came behind them. -/
theorem three_new {w w1 : World} {o1 o2 o3 : Obj} (h : Below (((w.alloc o1).alloc o2).alloc o3).heap.size (((w.alloc o1).alloc o2).alloc o3) w1) :
    w1.heap[w.heap.size]? = some o1 ∧ w1.heap[w.heap.size + 1]? = some o2 ∧ w1.heap[w.heap.size + 2]? = some o3 ∧ Below w.heap.size w w1 ∧ w.heap.size + 3 ≤ w1.heap.size := by
  have hs := h.size
  simp at hs
  have h2 := below_past (w := (w.alloc o1).alloc o2) h
  obtain ⟨a, b, c, d⟩ := two_new h2
  refine ⟨a, b, ?_, c, by omega⟩
  rw [h.block _ (by simp)]
  have : w.heap.size + 2 = ((w.alloc o1).alloc o2).heap.size := by simp
  rw [this]; exact heap_alloc_new _ _
theorem four_new {w : World} {o a b c : Obj} : ((((w.alloc o).alloc a).alloc b).alloc c).heap[w.heap.size]? = some o ∧ Below w.heap.size w ((((w.alloc o).alloc a).alloc b).alloc c) := by
  refine ⟨?_, ((((Below.refl _ _).alloc (Nat.le_refl _) _).alloc (by simp) _).alloc (by simp; omega) _).alloc (by simp; omega) _⟩
  rw [heap_alloc_old _ _ (by simp; omega), heap_alloc_old _ _ (by simp; omega), heap_alloc_old _ _ (by simp)]
  exact heap_alloc_new _ _
/-- A result of two numbers. -/
def Pair (w : World) (r : Int × Int) (e : Ending) (w' : World) : Prop := e = .returned (.agg #[.int .i64 r.1, .int .i64 r.2]) ∧ Below w.heap.size w w'
theorem pair_done {w w1 : World} {r : Int × Int} {x y : Int} {g : Nat} (hb : Below w.heap.size w w1) (hg : w.heap.size ≤ g) (cs : Array Value) (h : r = (x, y)) : Pair w r (.returned (.agg #[.int .i64 x, .int .i64 y])) (w1.setRow g cs) :=
  ⟨by rw [h], below_setRow hb hg cs⟩
theorem rets_done {w w1 : World} {r : Int × List Int} {x : Int} {ys : List Int} {g B n : Nat} {v : Value} (hb : Below w.heap.size w w1) (hg : w.heap.size ≤ g) (hv : OwnI w1 B v n ys) (hB : g < B) (cs : Array Value) (h : r = (x, ys)) :
    RetsInts w r (.returned (.agg #[.int .i64 x, v])) (w1.setRow g cs) := by
  subst h
  exact ⟨v, n, rfl, (hv.setRow hB cs).base (by omega), below_setRow hb hg cs⟩
/-- Four cells, and all that was there, are kept. -/
theorem keep4 {W a b : World} {p q r s : Addr} {x y z u : Value} (h : a.cell? p = some x ∧ a.cell? q = some y ∧ a.cell? r = some z ∧ a.cell? s = some u ∧ Below W.heap.size W a) (hb : Below a.heap.size a b) :
    b.cell? p = some x ∧ b.cell? q = some y ∧ b.cell? r = some z ∧ b.cell? s = some u ∧ Below W.heap.size W b := by
  obtain ⟨h1, h2, h3, h5, h4⟩ := h
  exact ⟨(hb.cell (World.block_lt_of_cell? _ _ h1)).trans h1, (hb.cell (World.block_lt_of_cell? _ _ h2)).trans h2, (hb.cell (World.block_lt_of_cell? _ _ h3)).trans h3, (hb.cell (World.block_lt_of_cell? _ _ h5)).trans h5, h4.trans (hb.mono h4.size)⟩
/-- Six cells, and all that was there, are kept. -/
theorem keep6 {W a b : World} {p1 p2 p3 p4 p5 p6 : Addr} {x1 x2 x3 x4 x5 x6 : Value} (h : a.cell? p1 = some x1 ∧ a.cell? p2 = some x2 ∧ a.cell? p3 = some x3 ∧ a.cell? p4 = some x4 ∧ a.cell? p5 = some x5 ∧ a.cell? p6 = some x6 ∧ Below W.heap.size W a) (hb : Below a.heap.size a b) :
    b.cell? p1 = some x1 ∧ b.cell? p2 = some x2 ∧ b.cell? p3 = some x3 ∧ b.cell? p4 = some x4 ∧ b.cell? p5 = some x5 ∧ b.cell? p6 = some x6 ∧ Below W.heap.size W b := by
  obtain ⟨h1, h2, h3, h4, h5, h6, h⟩ := h
  have k := fun (p : Addr) (x : Value) (e : a.cell? p = some x) => (hb.cell (World.block_lt_of_cell? _ _ e)).trans e
  exact ⟨k _ _ h1, k _ _ h2, k _ _ h3, k _ _ h4, k _ _ h5, k _ _ h6, h.trans (hb.mono h.size)⟩
theorem row_alloc {w : World} {p : Nat} {t : TypeId} {cs : Array Value} (h : Row w p t cs) (o : Obj) : Row (w.alloc o) p t cs := h.below ((Below.refl _ _).alloc (Nat.le_refl _) o)
end Go.Proofs.Ytkikjoalhohlgaa
