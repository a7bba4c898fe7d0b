/- Chapter 4's law in plain words: what is taken and dropped. -/
import Derived.Test.YtkikjoalhohlgaaRough4
import Derived.Test.YtkikjoalhohlgaaWhole4
import Derived.Test.YtkikjoalhohlgaaSpec4h
namespace Go.Proofs.Ytkikjoalhohlgaa
open Go.RowKit

theorem free_of {p : Pg} (hp : pageFault p = 0) (h0 : p.kind = 0) : p = Pg.free := by
  rcases pageFault_ok hp with h | h | ⟨_, h1, h2, h3⟩
  · omega
  · omega
  · exact Pg.ext_ h0 h1 h2 h3
section
variable {ps : List Pg} (hv : pagesFault ps = 0)
include hv
theorem headOf_run {g : Nat} {q : Pg} (h : ps[g]? = some q) (h2 : q.kind = 2) : ∀ j : Nat, (j : Int) ≤ q.run - 1 → headOf ps (g + j) = g
  | 0, _ => headOf_self h (by omega)
  | j + 1, hj => by
    obtain ⟨h1, _, h3⟩ := run_whole hv h h2 (j + 1) hj
    have hx := List.getElem?_eq_getElem (l := ps) (i := g + j + 1) (by omega)
    rw [← Nat.add_assoc, headOf_back hx (h3 (g + j + 1) _ (by omega) (by omega) hx)]
    exact headOf_run h h2 j (by omega)
theorem held_in_run {g a : Nat} {q : Pg} (h : ps[g]? = some q) (h2 : q.kind = 2) (h0 : g * 16 ≤ a) (h1 : (a : Int) < (g + q.run) * 16) : heldAt ps a = (0, some (.run g q.run)) := by
  have hr := ok_run hv h h2
  have hf := run_fits hv h h2
  have hh : headOf ps (a / 16) = g := by
    have := headOf_run hv h h2 (a / 16 - g) (by omega)
    rwa [show g + (a / 16 - g) = a / 16 by omega] at this
  have hlt : a / 16 < ps.length := by omega
  have hx := List.getElem?_eq_getElem hlt
  have hk : (ps[a / 16]).kind = 2 ∨ (ps[a / 16]).kind = 3 := by
    by_cases e : a / 16 = g
    · left
      have : ps[a / 16]? = some q := by rw [e]; exact h
      rw [hx] at this; injection this with this; rw [this]; exact h2
    · right
      obtain ⟨_, _, h3⟩ := run_whole hv h h2 (a / 16 - g) (by omega)
      exact h3 _ _ (by omega) (by omega) hx
  obtain ⟨q', h5, h6, h7⟩ := held_run hv (a := a) (by omega) hx hk
  rw [hh] at h5 h7
  rw [h] at h5; injection h5 with h5; rw [h7, h5]
/-- Where a block lies that is held. -/
theorem block_range {a : Int} {b : Blk} (h : heldAt ps a = (0, some b)) : 0 ≤ b.start ∧ b.start ≤ a ∧ a < b.start + b.size ∧ b.start + b.size ≤ ps.length * 16 ∧ heldAt ps b.start = (0, some b) := by
  obtain ⟨_, h0, h1, _⟩ := held_info hv h
  obtain ⟨a, rfl⟩ := Int.eq_ofNat_of_zero_le h0
  have hlt : a / 16 < ps.length := by omega
  have hx := List.getElem?_eq_getElem hlt
  rcases pageFault_kind (ok_page hv hx) with k0 | k1 | k2
  · rw [held_free hv (by omega) hx k0] at h; simp at h
  · rw [held_slot hv (by omega) hx k1] at h
    split at h
    · rename_i hu
      simp at h
      subst h
      generalize ps[a / 16] = p at *
      have hok := pageFault_ok (ok_page hv hx)
      obtain ⟨_, c0, c3, _, hul, _⟩ : p.kind = 1 ∧ 0 ≤ p.cls ∧ p.cls ≤ 3 ∧ p.run = 0 ∧ (p.used.length : Int) = 16 / sizeW p.cls ∧ anyB p.used = true := by
        rcases hok with h | h | h
        · exact h
        · omega
        · omega
      have key : ∃ a2 : Nat, (Blk.slot (a / 16) p.cls (a % 16 / (sizeW p.cls).toNat)).start = (a2 : Int) ∧ a2 ≤ a ∧ (a : Int) < a2 + sizeW p.cls ∧ (a2 : Int) + sizeW p.cls ≤ ps.length * 16 ∧ a2 / 16 = a / 16 ∧ a2 % 16 / (sizeW p.cls).toNat = a % 16 / (sizeW p.cls).toNat := by
        refine ⟨a / 16 * 16 + a % 16 / (sizeW p.cls).toNat * (sizeW p.cls).toNat, ?_⟩
        unfold Blk.start
        rcases (show p.cls = 0 ∨ p.cls = 1 ∨ p.cls = 2 ∨ p.cls = 3 by omega) with e | e | e | e <;> rw [e] <;> simp [sizeW] <;> omega
      obtain ⟨a2, e0, e1, e2, e3, e4, e5⟩ := key
      rw [e0]
      refine ⟨by omega, by omega, e2, e3, ?_⟩
      rw [held_slot hv (a := a2) (p := p) (by omega) (by rw [e4]; exact hx) k1, e4, e5, if_pos hu]
    · simp at h
  · obtain ⟨q, h5, h6, h7⟩ := held_run hv (a := a) (by omega) hx k2
    rw [h7] at h
    simp at h
    subst h
    have hr := ok_run hv h5 h6
    have hf := run_fits hv h5 h6
    have hin : (a : Int) < ((headOf ps (a / 16) : Nat) + q.run) * 16 := by
      rcases k2 with k2 | k3
      · rw [headOf_self hx (by omega)] at *; omega
      · obtain ⟨g, q', _, h8, h9, h10, h11⟩ := head_of_rest hv hx k3
        rw [h11] at h5 ⊢
        rw [h8] at h5; injection h5 with h5; subst h5
        omega
    have hle := headOf_le ps (a / 16)
    refine ⟨?_, ?_, ?_, ?_, ?_⟩ <;> simp only [Blk.start, Blk.size]
    · omega
    · omega
    · omega
    · omega
    · have := held_in_run hv (a := headOf ps (a / 16) * 16) h5 h6 (Nat.le_refl _) (by omega)
      rw [Int.natCast_mul] at this; exact this
end

/-! How many pages a run lacks, in other lists. -/
theorem leftN_nonneg {ps : List Pg} (hv : pagesFault ps = 0) : ∀ k, k ≤ ps.length → 0 ≤ leftN ps k
  | 0, _ => by rw [leftN_zero]; omega
  | k + 1, hk => by
    have hx := List.getElem?_eq_getElem (l := ps) (i := k) (by omega)
    have ih := leftN_nonneg hv k (by omega)
    rw [leftN_succ hx]
    unfold nextLeft
    split
    · have := ok_run hv hx (by assumption); omega
    · split
      · have := (ok_rest hv hx).1 (by assumption); omega
      · exact ih
theorem leftN_none {ps : List Pg} (hv : pagesFault ps = 0) {k : Nat} {p : Pg} (h : ps[k]? = some p) (h3 : p.kind ≠ 3) : leftN ps k = 0 := by
  have hlt := (List.getElem?_eq_some_iff.1 h).1
  have h1 := leftN_nonneg hv k (by omega)
  have h2 := (ok_rest hv h).2
  rcases Int.lt_or_le 0 (leftN ps k) with h4 | h4
  · exact absurd (h2 h4) h3
  · omega
/-- A list is right if its pages are and each run lacks what L tells. -/
theorem pages_ok {qs : List Pg} (h40 : qs.length ≤ 40) (hp : ∀ (k : Nat) (p : Pg), qs[k]? = some p → pageFault p = 0) (L : Nat → Int) (h0 : L 0 = 0) (hn : ∀ (k : Nat) (p : Pg), qs[k]? = some p → L (k + 1) = nextLeft (L k) p)
    (h3 : ∀ (k : Nat) (p : Pg), qs[k]? = some p → (p.kind = 3 ↔ 0 < L k)) (he : L qs.length = 0) : pagesFault qs = 0 := by
  have hL := leftN_of (ps := qs) h0 hn
  refine pagesFault_of h40 (fun p hp' => ?_) ((whole_iff qs 0).2 ⟨fun k p h => ?_, ?_⟩)
  · obtain ⟨k, hk⟩ := List.getElem?_of_mem hp'; exact hp k p hk
  · have hlt := (List.getElem?_eq_some_iff.1 h).1
    have h5 : leftFrom 0 qs k = L k := hL k (by omega)
    rw [h5]
    have h6 := h3 k p h
    by_cases e : p.kind = 3
    · rw [decide_eq_true e, decide_eq_true (h6.1 e)]
    · rw [decide_eq_false e, decide_eq_false (fun h => e (h6.2 h))]
  · have h5 : leftFrom 0 qs qs.length = L qs.length := hL _ (Nat.le_refl _)
    rw [h5]; exact he
/-- One page that is no part of a run gives way to another such one. -/
theorem pages_ok_set {ps : List Pg} (hv : pagesFault ps = 0) {i : Nat} {p x : Pg} (h : ps[i]? = some p) (h01 : p.kind = 0 ∨ p.kind = 1) (hx : pageFault x = 0) (hx01 : x.kind = 0 ∨ x.kind = 1) : pagesFault (ps.set i x) = 0 := by
  have hlt := (List.getElem?_eq_some_iff.1 h).1
  have hat : ∀ k q, (ps.set i x)[k]? = some q → (k = i ∧ q = x) ∨ (k ≠ i ∧ ps[k]? = some q) := fun k q hq => by
    by_cases e : k = i
    · subst e; rw [List.getElem?_set_self hlt] at hq; injection hq with hq; exact .inl ⟨rfl, hq.symm⟩
    · rw [List.getElem?_set_ne (by omega)] at hq; exact .inr ⟨e, hq⟩
  refine pages_ok (by rw [List.length_set]; exact (pagesFault_ok hv).1) (fun k q hq => ?_) (leftN ps) (leftN_zero ps) (fun k q hq => ?_) (fun k q hq => ?_) (by rw [List.length_set]; exact ok_end hv)
  · rcases hat k q hq with ⟨_, rfl⟩ | ⟨_, h1⟩
    · exact hx
    · exact ok_page hv h1
  · rcases hat k q hq with ⟨rfl, rfl⟩ | ⟨_, h1⟩
    · rw [leftN_succ h]; unfold nextLeft; rw [if_neg (by omega), if_neg (by omega), if_neg (by omega), if_neg (by omega)]
    · exact leftN_succ h1
  · rcases hat k q hq with ⟨rfl, rfl⟩ | ⟨_, h1⟩
    · have h2 := ok_rest hv h
      constructor
      · intro h; omega
      · intro h; have := h2.2 h; omega
    · exact ok_rest hv h1
theorem usedIn_le : ∀ {ps qs : List Pg}, qs.length = ps.length → (∀ (k : Nat) (p q : Pg), ps[k]? = some p → qs[k]? = some q → q.kind ≠ 0 → p.kind ≠ 0) → usedIn qs ≤ usedIn ps
  | [], [], _, _ => Nat.le_refl _
  | p :: ps, q :: qs, hl, h => by
    have h1 := usedIn_le (ps := ps) (qs := qs) (by simpa using hl) (fun k p q hp hq => h (k + 1) p q (by simpa using hp) (by simpa using hq))
    have h2 := h 0 p q rfl rfl
    unfold usedIn
    split <;> split <;> first | omega | (exfalso; exact h2 (by assumption) (by assumption))
  | [], q :: qs, hl, _ => by simp at hl
  | p :: ps, [], hl, _ => by simp at hl
end Go.Proofs.Ytkikjoalhohlgaa
