/- Chapter 4: runs of pages are whole; what is held at a place. -/
import Derived.Test.YtkikjoalhohlgaaPlain4
namespace Go.Proofs.Ytkikjoalhohlgaa
open Go.RowKit

/-- How many pages a run lacks behind the first k. -/
def leftFrom (l : Int) : List Pg → Nat → Int
  | _, 0 => l
  | [], _ + 1 => l
  | p :: r, k + 1 => leftFrom (nextLeft l p) r k
theorem leftFrom_zero (l : Int) (ps : List Pg) : leftFrom l ps 0 = l := by cases ps <;> rfl
theorem leftFrom_succ : ∀ {ps : List Pg} {l : Int} {k : Nat} {p : Pg}, ps[k]? = some p → leftFrom l ps (k + 1) = nextLeft (leftFrom l ps k) p
  | [], l, k, p, h => by simp at h
  | q :: r, l, 0, p, h => by simp at h; subst h; simp [leftFrom, leftFrom_zero]
  | q :: r, l, k + 1, p, h => by
    have := leftFrom_succ (ps := r) (l := nextLeft l q) (k := k) (p := p) (by simpa using h)
    simpa [leftFrom] using this
theorem whole_iff : ∀ (ps : List Pg) (l : Int), whole l ps = true ↔ (∀ k p, ps[k]? = some p → decide (p.kind = 3) = decide (0 < leftFrom l ps k)) ∧ leftFrom l ps ps.length = 0
  | [], l => by simp [whole, leftFrom]
  | q :: r, l => by
    unfold whole
    constructor
    · intro h
      split at h
      · rename_i h1
        obtain ⟨h2, h3⟩ := (whole_iff r _).1 h
        refine ⟨fun k p hk => ?_, by simpa [leftFrom] using h3⟩
        cases k with
        | zero => simp at hk; subst hk; exact h1
        | succ k => exact h2 k p (by simpa using hk)
      · cases h
    · rintro ⟨h1, h2⟩
      have h3 := h1 0 q (by simp)
      rw [leftFrom_zero] at h3
      rw [if_pos h3]
      exact (whole_iff r _).2 ⟨fun k p hk => h1 (k + 1) p (by simpa using hk), by simpa [leftFrom] using h2⟩
def leftN (ps : List Pg) (k : Nat) : Int := leftFrom 0 ps k
theorem leftN_succ {ps : List Pg} {k : Nat} {p : Pg} (h : ps[k]? = some p) : leftN ps (k + 1) = nextLeft (leftN ps k) p := leftFrom_succ h
theorem leftN_zero (ps : List Pg) : leftN ps 0 = 0 := leftFrom_zero 0 ps
/-- It is the one function that goes so. -/
theorem leftN_of {ps : List Pg} {L : Nat → Int} (h0 : L 0 = 0) (h : ∀ k p, ps[k]? = some p → L (k + 1) = nextLeft (L k) p) : ∀ k, k ≤ ps.length → leftN ps k = L k
  | 0, _ => by rw [leftN_zero, h0]
  | k + 1, hk => by
    have hx := List.getElem?_eq_getElem (l := ps) (i := k) (by omega)
    rw [leftN_succ hx, leftN_of h0 h k (by omega), ← h k _ hx]

section
variable {ps : List Pg} (hv : pagesFault ps = 0)
include hv
theorem ok_page {k : Nat} {p : Pg} (h : ps[k]? = some p) : pageFault p = 0 := (pagesFault_ok hv).2.1 p (List.mem_of_getElem? h)
theorem ok_rest {k : Nat} {p : Pg} (h : ps[k]? = some p) : p.kind = 3 ↔ 0 < leftN ps k := by
  have := ((whole_iff ps 0).1 (pagesFault_ok hv).2.2).1 k p h
  simpa [leftN] using this
theorem ok_end : leftN ps ps.length = 0 := ((whole_iff ps 0).1 (pagesFault_ok hv).2.2).2
theorem ok_run {k : Nat} {p : Pg} (h : ps[k]? = some p) (h2 : p.kind = 2) : 1 ≤ p.run ∧ p.run ≤ 4 := by
  rcases pageFault_ok (ok_page hv h) with h | h | h <;> omega
/-- Where a run lacks pages, one begins it. -/
theorem run_head : ∀ k, k ≤ ps.length → 0 < leftN ps k → ∃ h q, h < k ∧ ps[h]? = some q ∧ q.kind = 2 ∧ leftN ps k = q.run - ((k : Int) - h) ∧ ∀ j p, h < j → j < k → ps[j]? = some p → p.kind = 3
  | 0, _, h => by rw [leftN_zero] at h; omega
  | k + 1, hk, h => by
    have hx := List.getElem?_eq_getElem (l := ps) (i := k) (by omega)
    have hs := leftN_succ hx
    have hr := ok_rest hv hx
    by_cases h2 : (ps[k]).kind = 2
    · refine ⟨k, _, by omega, hx, h2, ?_, fun j p h1 h2 => by omega⟩
      rw [hs, nextLeft, if_pos h2]; omega
    · by_cases h3 : (ps[k]).kind = 3
      · have hl := hr.1 h3
        obtain ⟨g, q, h4, h5, h6, h7, h8⟩ := run_head k (by omega) hl
        refine ⟨g, q, by omega, h5, h6, ?_, fun j p h9 h10 hj => ?_⟩
        · rw [hs, nextLeft, if_neg h2, if_pos h3, h7]; omega
        · by_cases e : j = k
          · subst e; rw [hx] at hj; injection hj with hj; rw [← hj]; exact h3
          · exact h8 j p h9 (by omega) hj
      · rw [hs, nextLeft, if_neg h2, if_neg h3] at h
        exact absurd (hr.2 h) h3
theorem head_of_rest {k : Nat} {p : Pg} (h : ps[k]? = some p) (h3 : p.kind = 3) : ∃ g q, g < k ∧ ps[g]? = some q ∧ q.kind = 2 ∧ (k : Int) - g < q.run ∧ headOf ps k = g := by
  have hk := (List.getElem?_eq_some_iff.1 h).1
  have hl := (ok_rest hv h).1 h3
  obtain ⟨g, q, h4, h5, h6, h7, h8⟩ := run_head hv k (by omega) hl
  refine ⟨g, q, h4, h5, h6, by omega, ?_⟩
  have : ∀ j, g ≤ j → j ≤ k → headOf ps j = g := by
    intro j
    induction j with
    | zero => intro h1 _; have : g = 0 := by omega
              subst this; rfl
    | succ j ih =>
      intro h1 h2
      unfold headOf
      by_cases e : g = j + 1
      · subst e; rw [h5]; simp [h6]
      · have hx := List.getElem?_eq_getElem (l := ps) (i := j + 1) (by omega)
        have hk3 : (ps[j + 1]).kind = 3 := by
          by_cases e2 : j + 1 = k
          · subst e2; rw [hx] at h; injection h with h; rw [h]; exact h3
          · exact h8 _ _ (by omega) (by omega) hx
        rw [hx]; simp only [Option.map_some, hk3, if_true]
        exact ih (by omega) (by omega)
  exact this k (by omega) (Nat.le_refl _)
/-- A run has all its pages. -/
theorem run_whole {g : Nat} {q : Pg} (h : ps[g]? = some q) (h2 : q.kind = 2) : ∀ j : Nat, (j : Int) ≤ q.run - 1 → g + 1 + j ≤ ps.length ∧ leftN ps (g + 1 + j) = q.run - 1 - j ∧ ∀ i p, g < i → i < g + 1 + j → ps[i]? = some p → p.kind = 3
  | 0, _ => by
    have hk := (List.getElem?_eq_some_iff.1 h).1
    refine ⟨by omega, ?_, fun i p h1 h2 => by omega⟩
    rw [Nat.add_zero, leftN_succ h, nextLeft, if_pos h2]; simp
  | j + 1, hj => by
    obtain ⟨h3, h4, h5⟩ := run_whole h h2 j (by omega)
    have hlt : g + 1 + j < ps.length := by
      rcases Nat.lt_or_ge (g + 1 + j) ps.length with h6 | h6
      · exact h6
      · have e : g + 1 + j = ps.length := by omega
        rw [e, ok_end hv] at h4; omega
    have hx := List.getElem?_eq_getElem (l := ps) (i := g + 1 + j) hlt
    have hk3 := (ok_rest hv hx).2 (by omega)
    refine ⟨by omega, ?_, fun i p h6 h7 hi => ?_⟩
    · rw [show g + 1 + (j + 1) = g + 1 + j + 1 by omega, leftN_succ hx, nextLeft, if_neg (by omega), if_pos hk3, h4]; omega
    · by_cases e : i = g + 1 + j
      · subst e; rw [hx] at hi; injection hi with hi; rw [← hi]; exact hk3
      · exact h5 i p h6 (by omega) hi
theorem run_fits {g : Nat} {q : Pg} (h : ps[g]? = some q) (h2 : q.kind = 2) : (g : Int) + q.run ≤ ps.length := by
  have hr := ok_run hv h h2
  obtain ⟨h1, _, _⟩ := run_whole hv h h2 (q.run - 1).toNat (by omega)
  omega

/-- What is held at a place, by the kind of its page. -/
theorem held_no {a : Int} (h : within 0 ((ps.length : Int) * 16 - 1) [a] = false) : heldAt ps a = (3, none) := by unfold heldAt; rw [if_pos hv, h]; rfl
theorem held_free {a : Nat} {p : Pg} (ha : a < ps.length * 16) (h : ps[a / 16]? = some p) (h0 : p.kind = 0) : heldAt ps a = (4, none) := by
  have hh : headOf ps (a / 16) = a / 16 := by
    cases hk : a / 16 with
    | zero => rfl
    | succ k => unfold headOf; rw [← hk, h]; simp [h0]
  unfold heldAt
  rw [if_pos hv, if_pos (within_yes1 (by omega) (by omega)), Int.toNat_natCast]
  unfold blockAt
  rw [hh, h]; simp [h0]
theorem held_slot {a : Nat} {p : Pg} (ha : a < ps.length * 16) (h : ps[a / 16]? = some p) (h1 : p.kind = 1) :
    heldAt ps a = if p.used[a % 16 / (sizeW p.cls).toNat]? = some true then (0, some (.slot (a / 16) p.cls (a % 16 / (sizeW p.cls).toNat))) else (4, none) := by
  have hh : headOf ps (a / 16) = a / 16 := by
    cases hk : a / 16 with
    | zero => rfl
    | succ k => unfold headOf; rw [← hk, h]; simp [h1]
  unfold heldAt
  rw [if_pos hv, if_pos (within_yes1 (by omega) (by omega)), Int.toNat_natCast]
  unfold blockAt
  rw [hh, h]
  simp only [h1]
  by_cases hu : p.used[a % 16 / (sizeW p.cls).toNat]? = some true
  · rw [if_pos hu]; simp [hu]
  · rw [if_neg hu]; simp [hu]
theorem held_run {a : Nat} {p : Pg} (ha : a < ps.length * 16) (h : ps[a / 16]? = some p) (h2 : p.kind = 2 ∨ p.kind = 3) :
    ∃ q, ps[headOf ps (a / 16)]? = some q ∧ q.kind = 2 ∧ heldAt ps a = (0, some (.run (headOf ps (a / 16)) q.run)) := by
  have key : ∃ q, ps[headOf ps (a / 16)]? = some q ∧ q.kind = 2 := by
    rcases h2 with h2 | h3
    · have hh : headOf ps (a / 16) = a / 16 := by
        cases hk : a / 16 with
        | zero => rfl
        | succ k => unfold headOf; rw [← hk, h]; simp [h2]
      exact ⟨p, by rw [hh]; exact h, h2⟩
    · obtain ⟨g, q, _, h5, h6, _, h7⟩ := head_of_rest hv h h3
      exact ⟨q, by rw [h7]; exact h5, h6⟩
  obtain ⟨q, h5, h6⟩ := key
  refine ⟨q, h5, h6, ?_⟩
  unfold heldAt
  rw [if_pos hv, if_pos (within_yes1 (by omega) (by omega)), Int.toNat_natCast]
  unfold blockAt
  rw [h5]; simp [h6]
/-- What is known of what is held. -/
theorem held_info {a : Int} {c : Int} {b : Blk} (h : heldAt ps a = (c, some b)) : c = 0 ∧ 0 ≤ a ∧ a < ps.length * 16 ∧ ((∃ i k s p, b = .slot i k s ∧ ps[i]? = some p ∧ p.kind = 1 ∧ p.cls = k ∧ 0 ≤ k ∧ k ≤ 3 ∧ p.used[s]? = some true ∧ (p.used.length : Int) = 16 / sizeW k ∧ p.run = 0 ∧ i = a.toNat / 16 ∧ s = a.toNat % 16 / (sizeW k).toNat) ∨
    ∃ i p, b = .run i p.run ∧ ps[i]? = some p ∧ p.kind = 2 ∧ i = headOf ps (a.toNat / 16)) := by
  unfold heldAt at h
  rw [if_pos hv] at h
  split at h
  · rename_i hw
    have hw := within_range hw
    cases hb : blockAt ps a.toNat with
    | none => rw [hb] at h; simp at h
    | some b' =>
      rw [hb] at h
      simp at h
      obtain ⟨rfl, rfl⟩ := h
      refine ⟨rfl, hw.1, by omega, ?_⟩
      unfold blockAt at hb
      cases hp : ps[headOf ps (a.toNat / 16)]? with
      | none => rw [hp] at hb; simp at hb
      | some p =>
        rw [hp] at hb
        simp only at hb
        split at hb
        · rename_i h2
          simp at hb
          exact .inr ⟨_, p, hb.symm, hp, h2, rfl⟩
        · split at hb
          · rename_i h1
            split at hb
            · rename_i hu
              simp at hb
              have hf := ok_page hv hp
              rcases pageFault_ok hf with h | h | h
              · have he : headOf ps (a.toNat / 16) = a.toNat / 16 := by
                  have hx := List.getElem?_eq_getElem (l := ps) (i := a.toNat / 16) (by omega)
                  by_cases h3 : (ps[a.toNat / 16]).kind = 3
                  · obtain ⟨g, q, _, hg, hg2, _, hg3⟩ := head_of_rest hv hx h3
                    rw [hg3, hg] at hp; injection hp with hp; rw [hp] at hg2; omega
                  · cases hk : a.toNat / 16 with
                    | zero => rfl
                    | succ k => unfold headOf; rw [← hk, hx]; simp [h3]
                exact .inl ⟨_, _, _, p, hb.symm, hp, h1, rfl, h.2.1, h.2.2.1, hu, h.2.2.2.2.1, h.2.2.2.1, he, rfl⟩
              · omega
              · omega
            · simp at hb
          · simp at hb
  · simp at h
theorem held_code {a : Int} {c : Int} (h : heldAt ps a = (c, none)) : c = 3 ∨ c = 4 := by
  unfold heldAt at h
  rw [if_pos hv] at h
  split at h
  · split at h
    · simp at h
    · simp at h; omega
  · simp at h; omega
end
end Go.Proofs.Ytkikjoalhohlgaa
