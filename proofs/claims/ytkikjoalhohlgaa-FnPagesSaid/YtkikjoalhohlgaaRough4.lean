/- Pages while they are drawn: what is known of them, in plain words. -/
import Derived.Test.YtkikjoalhohlgaaLaw4b
namespace Go.Proofs.Ytkikjoalhohlgaa
open Go.RowKit

/-- A page at place k of n, as a draw has it. -/
def RoughP (n k : Nat) (p : Pg) : Prop := p.used.length ≤ 16 ∧ (p.kind = 1 → 0 ≤ p.cls ∧ p.cls ≤ 3 ∧ (p.used.length : Int) = 16 / sizeW p.cls) ∧ (p.kind ≠ 1 → ∃ m : Nat, p.run = m ∧ k + m ≤ n)
def Rough (ps : List Pg) : Prop := ∀ k p, ps[k]? = some p → RoughP ps.length k p
theorem RoughP.free {n k : Nat} (h : k < n) : RoughP n k Pg.free := ⟨by simp [Pg.free], fun h => by simp [Pg.free] at h, fun _ => ⟨0, rfl, by omega⟩⟩
theorem Rough.short {ps : List Pg} (h : Rough ps) : ShortP 16 ps := fun p hp => by
  obtain ⟨k, hk, rfl⟩ := List.getElem_of_mem hp
  exact (h k _ (List.getElem?_eq_getElem hk)).1
theorem Rough.free (n : Nat) : Rough (List.replicate n Pg.free) := fun k p h => by
  rw [List.length_replicate]
  rw [List.getElem?_replicate] at h
  split at h
  · injection h with h; subst h; exact RoughP.free ‹_›
  · cases h
theorem Rough.set {ps : List Pg} (h : Rough ps) {i : Nat} {x : Pg} (hx : i < ps.length → RoughP ps.length i x) : Rough (ps.set i x) := fun k p hp => by
  rw [List.length_set]
  by_cases e : k = i
  · subst e
    by_cases hk : k < ps.length
    · rw [List.getElem?_set_self hk] at hp; injection hp with hp; subst hp; exact hx hk
    · rw [List.getElem?_eq_none (by simpa using hk)] at hp; cases hp
  · rw [List.getElem?_set_ne (by omega)] at hp; exact h k p hp
theorem Rough.many {ps : List Pg} (h : Rough ps) {i : Nat} {x : Pg} (hx : ∀ k, k < ps.length → RoughP ps.length k x) : ∀ m, Rough (setMany ps i x m)
  | 0 => h
  | m + 1 => by
    have ih := Rough.many h (i := i) hx m
    refine ih.set (i := i + m) fun hk => ?_
    rw [length_setMany] at hk ⊢
    exact hx _ hk
theorem Rough.run {ps : List Pg} (h : Rough ps) {i m : Nat} (hm : i + m ≤ ps.length) : Rough (putRun ps i m) := by
  refine (h.many (fun k hk => ⟨by simp [restPg], fun h => by simp [restPg] at h, fun _ => ⟨0, rfl, by omega⟩⟩) m).set fun hk => ?_
  rw [length_setMany]
  exact ⟨by simp [runPg], fun h => by simp [runPg] at h, fun _ => ⟨m, rfl, hm⟩⟩
theorem slots_sixteen {c : Int} (h0 : 0 ≤ c) (h3 : c ≤ 3) : (((16 / sizeW c).toNat : Nat) : Int) = 16 / sizeW c ∧ (16 / sizeW c).toNat ≤ 16 := by
  rcases (show c = 0 ∨ c = 1 ∨ c = 2 ∨ c = 3 by omega) with e | e | e | e <;> rw [e] <;> decide
theorem Rough.slot {ps : List Pg} (h : Rough ps) {c : Int} {i s : Nat} (h0 : 0 ≤ c) (h3 : c ≤ 3) : Rough (putSlot ps c i s) := by
  unfold putSlot
  cases hp : ps[i]? with
  | none => exact h
  | some p =>
    refine h.set fun hk => ?_
    have hr := h i p hp
    have hs := slots_sixteen h0 h3
    unfold useSlot
    split
    · exact ⟨by simpa using hs.2, fun _ => ⟨h0, h3, by simpa using hs.1⟩, fun hn => absurd rfl hn⟩
    · exact ⟨by simpa using hr.1, fun h1 => by simpa using hr.2.1 h1, hr.2.2⟩
theorem Rough.slotPut {ps : List Pg} (h : Rough ps) {c : Int} (h0 : 0 ≤ c) (h3 : c ≤ 3) : Rough (slotPut ps c) := by
  unfold Go.Proofs.Ytkikjoalhohlgaa.slotPut
  split
  · exact h.slot h0 h3
  · exact h
theorem length_slotPut (ps : List Pg) (c : Int) : (slotPut ps c).length = ps.length := by
  unfold slotPut
  split
  · exact length_putSlot _ _ _ _
  · rfl
theorem length_putRun (ps : List Pg) (i m : Nat) : (putRun ps i m).length = ps.length := by unfold putRun; rw [List.length_set, length_setMany]
theorem length_dropAt (ps : List Pg) (st : Nat) : (dropAt ps st).length = ps.length := by
  unfold dropAt
  split
  · rfl
  · split
    · exact List.length_set
    · exact length_setMany _ _ _ _
theorem Rough.drop {ps : List Pg} (h : Rough ps) (st : Nat) : Rough (dropAt ps st) := by
  unfold dropAt
  cases hp : ps[st / 16]? with
  | none => exact h
  | some p =>
    simp only
    have hr := h _ p hp
    split
    · refine h.set fun hk => ?_
      unfold freeSlot
      split
      · exact ⟨by simpa using hr.1, fun h1 => by simpa using hr.2.1 h1, hr.2.2⟩
      · exact RoughP.free hk
    · exact h.many (fun k hk => RoughP.free hk) _
/-- The place that is taken next is one of the pages'. -/
theorem slotAt_in {ps : List Pg} (h : Rough ps) {c : Int} (h0 : 0 ≤ c) (h3 : c ≤ 3) : slotAt ps c < 0 ∨ ∃ st : Nat, slotAt ps c = (st : Int) ∧ st < 16 * ps.length := by
  unfold slotAt
  cases hs : slotFor ps c with
  | none => exact .inl (by simp)
  | some x =>
    obtain ⟨i, s⟩ := x
    simp only
    right
    obtain ⟨p, hp, hx⟩ := slotFor_some hs
    have hi : i < ps.length := (List.getElem?_eq_some_iff.1 hp).1
    have hb := sizeW_small c
    have hs16 : (s : Int) * sizeW c < 16 ∧ 0 ≤ (s : Int) * sizeW c := by
      rcases hx with ⟨k1, kc, hu⟩ | ⟨_, rfl⟩
      · have hl := ((h i p hp).2.1 k1).2.2
        have hsl : s < p.used.length := (List.getElem?_eq_some_iff.1 hu).1
        rw [kc] at hl
        rcases (show c = 0 ∨ c = 1 ∨ c = 2 ∨ c = 3 by omega) with e | e | e | e <;> rw [e] at hl ⊢ <;> simp [sizeW] at hl ⊢ <;> omega
      · simp
    exact ⟨((i : Int) * 16 + s * sizeW c).toNat, by omega, by omega⟩
/-- A run that is found fits. -/
theorem freeN_len : ∀ {m : Nat} {ps : List Pg}, freeN m ps = true → m ≤ ps.length
  | 0, _, _ => Nat.zero_le _
  | m + 1, [], h => by simp [freeN] at h
  | m + 1, p :: r, h => by
    rw [freeN] at h
    simp only [Bool.and_eq_true] at h
    have := freeN_len h.2
    simp only [List.length_cons]; omega
theorem runFrom_in {m : Nat} : ∀ {ps : List Pg} {k i : Nat}, runFrom m k ps = some i → k ≤ i ∧ freeN m (ps.drop (i - k)) = true
  | [], k, i, h => by
    unfold runFrom at h
    first | (split at h <;> first | (injection h with h; subst h; simp_all) | cases h) | cases h
  | p :: r, k, i, h => by
    unfold runFrom at h
    split at h
    · injection h with h; subst h; simp_all
    · obtain ⟨h1, h2⟩ := runFrom_in h
      refine ⟨by omega, ?_⟩
      rw [show i - k = (i - (k + 1)) + 1 by omega, List.drop_succ_cons]; exact h2
theorem runAt_in {m : Nat} {ps : List Pg} (hm : 0 < m) : runAt m ps < 0 ∨ ∃ i : Nat, runAt m ps = (i : Int) ∧ i + m ≤ ps.length := by
  unfold runAt
  cases hr : runFrom m 0 ps with
  | none => exact .inl (by simp)
  | some i =>
    refine .inr ⟨i, rfl, ?_⟩
    have h2 := freeN_len (runFrom_in hr).2
    rw [List.length_drop] at h2
    omega
end Go.Proofs.Ytkikjoalhohlgaa
