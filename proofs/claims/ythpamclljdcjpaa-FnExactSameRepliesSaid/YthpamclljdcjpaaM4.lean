/- Joined texts (Law4b, Rough4, Facts4, Facts4b, Facts5, View6, Right6, Plain6, Args6, Args6b): steps of the proofs of chapter 5's laws. -/
import Derived.Test.YthpamclljdcjpaaM3
set_option linter.unusedVariables false
set_option linter.unusedSimpArgs false
/- The exact laws of chapter 4 answer true at every argument and write nothing that was there: answers that are pages. -/
namespace Go.Proofs.Ythpamclljdcjpaa
open Go.RowKit

theorem putSlot_short {ps : List Pg} {c : Int} {i s : Nat} (h : ShortP 16 ps) (h0 : 0 ≤ c) (h3 : c ≤ 3) : ShortP 16 (putSlot ps c i s) := by
  unfold putSlot
  cases hp : ps[i]? with
  | none => exact h
  | some p =>
    intro q hq
    rcases List.mem_or_eq_of_mem_set hq with h1 | h1
    · exact h q h1
    · rw [h1]
      unfold useSlot
      split
      · simp only [List.length_set, List.length_replicate]
        rcases (show c = 0 ∨ c = 1 ∨ c = 2 ∨ c = 3 by omega) with e | e | e | e <;> rw [e] <;> simp [sizeW]
      · simpa using h.at_ hp
theorem setMany_short {ps : List Pg} {i : Nat} {x : Pg} (h : ShortP 16 ps) (hx : x.used.length ≤ 16) : ∀ k, ShortP 16 (setMany ps i x k)
  | 0 => h
  | k + 1 => fun q hq => by
    rcases List.mem_or_eq_of_mem_set hq with h1 | h1
    · exact setMany_short h hx k q h1
    · rw [h1]; exact hx
theorem putRun_short {ps : List Pg} {i n : Nat} (h : ShortP 16 ps) : ShortP 16 (putRun ps i n) := fun q hq => by
  rcases List.mem_or_eq_of_mem_set hq with h1 | h1
  · exact setMany_short h (by simp [restPg]) n q h1
  · rw [h1]; simp [runPg]
theorem dropBlk_short {ps : List Pg} {b : Blk} (h : ShortP 16 ps) : ShortP 16 (dropBlk ps b) := by
  cases b with
  | slot i c s =>
    simp only [dropBlk]
    cases hp : ps[i]? with
    | none => exact h
    | some p =>
      intro q hq
      rcases List.mem_or_eq_of_mem_set hq with h1 | h1
      · exact h q h1
      · rw [h1]
        unfold freeSlot
        split
        · simpa using h.at_ hp
        · simp [Pg.free]
  | run i n => exact setMany_short h (by simp [Pg.free]) _
theorem length_putSlot (ps : List Pg) (c : Int) (i s : Nat) : (putSlot ps c i s).length = ps.length := by unfold putSlot; split <;> simp
theorem length_dropBlk (ps : List Pg) (b : Blk) : (dropBlk ps b).length = ps.length := by
  cases b with
  | slot i c s => unfold dropBlk; simp only; split <;> simp
  | run i n => exact length_setMany _ _ _ _
theorem findSlot_small (ps : List Pg) (c : Int) : (findSlot ps c).2.1.length ≤ 40 ∧ ShortP 16 (findSlot ps c).2.1 := by
  unfold findSlot
  by_cases hv : pagesFault ps = 0
  · rw [if_pos hv]
    rcases hw : within 0 3 [c] with _ | _
    · exact ⟨by simp, fun p hp => by simp at hp⟩
    · have hc := within_range hw
      simp only [if_true]
      rcases slotFor ps c with _ | ⟨i, s⟩
      · exact ⟨by simp, fun p hp => by simp at hp⟩
      · exact ⟨by simp only [length_putSlot]; exact (pagesFault_ok hv).1, putSlot_short (pagesFault_short hv) hc.1 hc.2⟩
  · rw [if_neg hv]; exact ⟨by simp, fun p hp => by simp at hp⟩
theorem takeRun_small (ps : List Pg) (a m : Int) : (takeRun ps a m).2.1.length ≤ 40 ∧ ShortP 16 (takeRun ps a m).2.1 := by
  unfold takeRun
  by_cases hv : pagesFault ps = 0
  · rw [if_pos hv]
    split
    · split
      · exact ⟨by simp only [putRun, List.length_set, length_setMany]; exact (pagesFault_ok hv).1, putRun_short (pagesFault_short hv)⟩
      · exact ⟨by simp, fun p hp => by simp at hp⟩
    · exact ⟨by simp, fun p hp => by simp at hp⟩
  · rw [if_neg hv]; exact ⟨by simp, fun p hp => by simp at hp⟩
theorem dropBlock_small (ps : List Pg) (a : Int) : (dropBlock ps a).2.1.length ≤ 40 ∧ ShortP 16 (dropBlock ps a).2.1 := by
  unfold dropBlock
  rcases hh : heldAt ps a with ⟨c, b⟩
  cases b with
  | none => exact ⟨by simp, fun p hp => by simp at hp⟩
  | some b =>
    have hv : pagesFault ps = 0 := by
      rcases Int.lt_trichotomy (pagesFault ps) 0 with h1 | h1 | h1
      · unfold heldAt at hh; rw [if_neg (by omega)] at hh; cases hh
      · exact h1
      · unfold heldAt at hh; rw [if_neg (by omega)] at hh; cases hh
    simp only
    split
    · exact ⟨by simp only [length_dropBlk]; exact (pagesFault_ok hv).1, dropBlk_short (pagesFault_short hv)⟩
    · exact ⟨by simp, fun p hp => by simp at hp⟩

section
variable {w W W' : World} {bw bg : Nat} {q z : Int} {vw vg vx : Value} {nr nx : Nat} {ao : Option Addr} {n : Nat} {ps rs xs gs : List Pg}
end

end Go.Proofs.Ythpamclljdcjpaa

/- Pages while they are drawn: what is known of them, in plain words. -/
namespace Go.Proofs.Ythpamclljdcjpaa
open Go.RowKit

/-- A page at place k of n, as a draw has it. -/
def RoughP (n k : Nat) (p : Pg) : Prop := p.used.length ≤ 16 ∧ (p.kind = 1 → 0 ≤ p.cls ∧ p.cls ≤ 3 ∧ (p.used.length : Int) = 16 / sizeW p.cls) ∧ (p.kind ≠ 1 → ∃ m : Nat, p.run = m ∧ k + m ≤ n)
def Rough (ps : List Pg) : Prop := ∀ k p, ps[k]? = some p → RoughP ps.length k p
theorem RoughP.free {n k : Nat} (h : k < n) : RoughP n k Pg.free := ⟨by simp [Pg.free], fun h => by simp [Pg.free] at h, fun _ => ⟨0, rfl, by omega⟩⟩
theorem Rough.short {ps : List Pg} (h : Rough ps) : ShortP 16 ps := fun p hp => by
  obtain ⟨k, hk, rfl⟩ := List.getElem_of_mem hp
  exact (h k _ (List.getElem?_eq_getElem hk)).1
theorem Rough.free (n : Nat) : Rough (List.replicate n Pg.free) := fun k p h => by
  rw [List.length_replicate]
  rw [List.getElem?_replicate] at h
  split at h
  · injection h with h; subst h; exact RoughP.free ‹_›
  · cases h
theorem Rough.set {ps : List Pg} (h : Rough ps) {i : Nat} {x : Pg} (hx : i < ps.length → RoughP ps.length i x) : Rough (ps.set i x) := fun k p hp => by
  rw [List.length_set]
  by_cases e : k = i
  · subst e
    by_cases hk : k < ps.length
    · rw [List.getElem?_set_self hk] at hp; injection hp with hp; subst hp; exact hx hk
    · rw [List.getElem?_eq_none (by simpa using hk)] at hp; cases hp
  · rw [List.getElem?_set_ne (by omega)] at hp; exact h k p hp
theorem Rough.many {ps : List Pg} (h : Rough ps) {i : Nat} {x : Pg} (hx : ∀ k, k < ps.length → RoughP ps.length k x) : ∀ m, Rough (setMany ps i x m)
  | 0 => h
  | m + 1 => by
    have ih := Rough.many h (i := i) hx m
    refine ih.set (i := i + m) fun hk => ?_
    rw [length_setMany] at hk ⊢
    exact hx _ hk
theorem Rough.run {ps : List Pg} (h : Rough ps) {i m : Nat} (hm : i + m ≤ ps.length) : Rough (putRun ps i m) := by
  refine (h.many (fun k hk => ⟨by simp [restPg], fun h => by simp [restPg] at h, fun _ => ⟨0, rfl, by omega⟩⟩) m).set fun hk => ?_
  rw [length_setMany]
  exact ⟨by simp [runPg], fun h => by simp [runPg] at h, fun _ => ⟨m, rfl, hm⟩⟩
theorem slots_sixteen {c : Int} (h0 : 0 ≤ c) (h3 : c ≤ 3) : (((16 / sizeW c).toNat : Nat) : Int) = 16 / sizeW c ∧ (16 / sizeW c).toNat ≤ 16 := by
  rcases (show c = 0 ∨ c = 1 ∨ c = 2 ∨ c = 3 by omega) with e | e | e | e <;> rw [e] <;> decide
theorem Rough.slot {ps : List Pg} (h : Rough ps) {c : Int} {i s : Nat} (h0 : 0 ≤ c) (h3 : c ≤ 3) : Rough (putSlot ps c i s) := by
  unfold putSlot
  cases hp : ps[i]? with
  | none => exact h
  | some p =>
    refine h.set fun hk => ?_
    have hr := h i p hp
    have hs := slots_sixteen h0 h3
    unfold useSlot
    split
    · exact ⟨by simpa using hs.2, fun _ => ⟨h0, h3, by simpa using hs.1⟩, fun hn => absurd rfl hn⟩
    · exact ⟨by simpa using hr.1, fun h1 => by simpa using hr.2.1 h1, hr.2.2⟩
theorem Rough.slotPut {ps : List Pg} (h : Rough ps) {c : Int} (h0 : 0 ≤ c) (h3 : c ≤ 3) : Rough (slotPut ps c) := by
  unfold Go.Proofs.Ythpamclljdcjpaa.slotPut
  split
  · exact h.slot h0 h3
  · exact h
theorem length_slotPut (ps : List Pg) (c : Int) : (slotPut ps c).length = ps.length := by
  unfold slotPut
  split
  · exact length_putSlot _ _ _ _
  · rfl
theorem length_putRun (ps : List Pg) (i m : Nat) : (putRun ps i m).length = ps.length := by unfold putRun; rw [List.length_set, length_setMany]
theorem length_dropAt (ps : List Pg) (st : Nat) : (dropAt ps st).length = ps.length := by
  unfold dropAt
  split
  · rfl
  · split
    · exact List.length_set
    · exact length_setMany _ _ _ _
theorem Rough.drop {ps : List Pg} (h : Rough ps) (st : Nat) : Rough (dropAt ps st) := by
  unfold dropAt
  cases hp : ps[st / 16]? with
  | none => exact h
  | some p =>
    simp only
    have hr := h _ p hp
    split
    · refine h.set fun hk => ?_
      unfold freeSlot
      split
      · exact ⟨by simpa using hr.1, fun h1 => by simpa using hr.2.1 h1, hr.2.2⟩
      · exact RoughP.free hk
    · exact h.many (fun k hk => RoughP.free hk) _
/-- The place that is taken next is one of the pages'. -/
theorem slotAt_in {ps : List Pg} (h : Rough ps) {c : Int} (h0 : 0 ≤ c) (h3 : c ≤ 3) : slotAt ps c < 0 ∨ ∃ st : Nat, slotAt ps c = (st : Int) ∧ st < 16 * ps.length := by
  unfold slotAt
  cases hs : slotFor ps c with
  | none => exact .inl (by simp)
  | some x =>
    obtain ⟨i, s⟩ := x
    simp only
    right
    obtain ⟨p, hp, hx⟩ := slotFor_some hs
    have hi : i < ps.length := (List.getElem?_eq_some_iff.1 hp).1
    have hb := sizeW_small c
    have hs16 : (s : Int) * sizeW c < 16 ∧ 0 ≤ (s : Int) * sizeW c := by
      rcases hx with ⟨k1, kc, hu⟩ | ⟨_, rfl⟩
      · have hl := ((h i p hp).2.1 k1).2.2
        have hsl : s < p.used.length := (List.getElem?_eq_some_iff.1 hu).1
        rw [kc] at hl
        rcases (show c = 0 ∨ c = 1 ∨ c = 2 ∨ c = 3 by omega) with e | e | e | e <;> rw [e] at hl ⊢ <;> simp [sizeW] at hl ⊢ <;> omega
      · simp
    exact ⟨((i : Int) * 16 + s * sizeW c).toNat, by omega, by omega⟩
/-- A run that is found fits. -/
theorem freeN_len : ∀ {m : Nat} {ps : List Pg}, freeN m ps = true → m ≤ ps.length
  | 0, _, _ => Nat.zero_le _
  | m + 1, [], h => by simp [freeN] at h
  | m + 1, p :: r, h => by
    rw [freeN] at h
    simp only [Bool.and_eq_true] at h
    have := freeN_len h.2
    simp only [List.length_cons]; omega
theorem runFrom_in {m : Nat} : ∀ {ps : List Pg} {k i : Nat}, runFrom m k ps = some i → k ≤ i ∧ freeN m (ps.drop (i - k)) = true
  | [], k, i, h => by
    unfold runFrom at h
    first | (split at h <;> first | (injection h with h; subst h; simp_all) | cases h) | cases h
  | p :: r, k, i, h => by
    unfold runFrom at h
    split at h
    · injection h with h; subst h; simp_all
    · obtain ⟨h1, h2⟩ := runFrom_in h
      refine ⟨by omega, ?_⟩
      rw [show i - k = (i - (k + 1)) + 1 by omega, List.drop_succ_cons]; exact h2
theorem runAt_in {m : Nat} {ps : List Pg} (hm : 0 < m) : runAt m ps < 0 ∨ ∃ i : Nat, runAt m ps = (i : Int) ∧ i + m ≤ ps.length := by
  unfold runAt
  cases hr : runFrom m 0 ps with
  | none => exact .inl (by simp)
  | some i =>
    refine .inr ⟨i, rfl, ?_⟩
    have h2 := freeN_len (runFrom_in hr).2
    rw [List.length_drop] at h2
    omega
end Go.Proofs.Ythpamclljdcjpaa

/- Chapter 4's law in plain words: what is taken and dropped. -/
namespace Go.Proofs.Ythpamclljdcjpaa
open Go.RowKit

theorem free_of {p : Pg} (hp : pageFault p = 0) (h0 : p.kind = 0) : p = Pg.free := by
  rcases pageFault_ok hp with h | h | ⟨_, h1, h2, h3⟩
  · omega
  · omega
  · exact Pg.ext_ h0 h1 h2 h3
section
variable {ps : List Pg} (hv : pagesFault ps = 0)
include hv
theorem headOf_run {g : Nat} {q : Pg} (h : ps[g]? = some q) (h2 : q.kind = 2) : ∀ j : Nat, (j : Int) ≤ q.run - 1 → headOf ps (g + j) = g
  | 0, _ => headOf_self h (by omega)
  | j + 1, hj => by
    obtain ⟨h1, _, h3⟩ := run_whole hv h h2 (j + 1) hj
    have hx := List.getElem?_eq_getElem (l := ps) (i := g + j + 1) (by omega)
    rw [← Nat.add_assoc, headOf_back hx (h3 (g + j + 1) _ (by omega) (by omega) hx)]
    exact headOf_run h h2 j (by omega)
theorem held_in_run {g a : Nat} {q : Pg} (h : ps[g]? = some q) (h2 : q.kind = 2) (h0 : g * 16 ≤ a) (h1 : (a : Int) < (g + q.run) * 16) : heldAt ps a = (0, some (.run g q.run)) := by
  have hr := ok_run hv h h2
  have hf := run_fits hv h h2
  have hh : headOf ps (a / 16) = g := by
    have := headOf_run hv h h2 (a / 16 - g) (by omega)
    rwa [show g + (a / 16 - g) = a / 16 by omega] at this
  have hlt : a / 16 < ps.length := by omega
  have hx := List.getElem?_eq_getElem hlt
  have hk : (ps[a / 16]).kind = 2 ∨ (ps[a / 16]).kind = 3 := by
    by_cases e : a / 16 = g
    · left
      have : ps[a / 16]? = some q := by rw [e]; exact h
      rw [hx] at this; injection this with this; rw [this]; exact h2
    · right
      obtain ⟨_, _, h3⟩ := run_whole hv h h2 (a / 16 - g) (by omega)
      exact h3 _ _ (by omega) (by omega) hx
  obtain ⟨q', h5, h6, h7⟩ := held_run hv (a := a) (by omega) hx hk
  rw [hh] at h5 h7
  rw [h] at h5; injection h5 with h5; rw [h7, h5]
/-- Where a block lies that is held. -/
theorem block_range {a : Int} {b : Blk} (h : heldAt ps a = (0, some b)) : 0 ≤ b.start ∧ b.start ≤ a ∧ a < b.start + b.size ∧ b.start + b.size ≤ ps.length * 16 ∧ heldAt ps b.start = (0, some b) := by
  obtain ⟨_, h0, h1, _⟩ := held_info hv h
  obtain ⟨a, rfl⟩ := Int.eq_ofNat_of_zero_le h0
  have hlt : a / 16 < ps.length := by omega
  have hx := List.getElem?_eq_getElem hlt
  rcases pageFault_kind (ok_page hv hx) with k0 | k1 | k2
  · rw [held_free hv (by omega) hx k0] at h; simp at h
  · rw [held_slot hv (by omega) hx k1] at h
    split at h
    · rename_i hu
      simp at h
      subst h
      generalize ps[a / 16] = p at *
      have hok := pageFault_ok (ok_page hv hx)
      obtain ⟨_, c0, c3, _, hul, _⟩ : p.kind = 1 ∧ 0 ≤ p.cls ∧ p.cls ≤ 3 ∧ p.run = 0 ∧ (p.used.length : Int) = 16 / sizeW p.cls ∧ anyB p.used = true := by
        rcases hok with h | h | h
        · exact h
        · omega
        · omega
      have key : ∃ a2 : Nat, (Blk.slot (a / 16) p.cls (a % 16 / (sizeW p.cls).toNat)).start = (a2 : Int) ∧ a2 ≤ a ∧ (a : Int) < a2 + sizeW p.cls ∧ (a2 : Int) + sizeW p.cls ≤ ps.length * 16 ∧ a2 / 16 = a / 16 ∧ a2 % 16 / (sizeW p.cls).toNat = a % 16 / (sizeW p.cls).toNat := by
        refine ⟨a / 16 * 16 + a % 16 / (sizeW p.cls).toNat * (sizeW p.cls).toNat, ?_⟩
        unfold Blk.start
        rcases (show p.cls = 0 ∨ p.cls = 1 ∨ p.cls = 2 ∨ p.cls = 3 by omega) with e | e | e | e <;> rw [e] <;> simp [sizeW] <;> omega
      obtain ⟨a2, e0, e1, e2, e3, e4, e5⟩ := key
      rw [e0]
      refine ⟨by omega, by omega, e2, e3, ?_⟩
      rw [held_slot hv (a := a2) (p := p) (by omega) (by rw [e4]; exact hx) k1, e4, e5, if_pos hu]
    · simp at h
  · obtain ⟨q, h5, h6, h7⟩ := held_run hv (a := a) (by omega) hx k2
    rw [h7] at h
    simp at h
    subst h
    have hr := ok_run hv h5 h6
    have hf := run_fits hv h5 h6
    have hin : (a : Int) < ((headOf ps (a / 16) : Nat) + q.run) * 16 := by
      rcases k2 with k2 | k3
      · rw [headOf_self hx (by omega)] at *; omega
      · obtain ⟨g, q', _, h8, h9, h10, h11⟩ := head_of_rest hv hx k3
        rw [h11] at h5 ⊢
        rw [h8] at h5; injection h5 with h5; subst h5
        omega
    have hle := headOf_le ps (a / 16)
    refine ⟨?_, ?_, ?_, ?_, ?_⟩ <;> simp only [Blk.start, Blk.size]
    · omega
    · omega
    · omega
    · omega
    · have := held_in_run hv (a := headOf ps (a / 16) * 16) h5 h6 (Nat.le_refl _) (by omega)
      rw [Int.natCast_mul] at this; exact this
end

/-! How many pages a run lacks, in other lists. -/
theorem leftN_nonneg {ps : List Pg} (hv : pagesFault ps = 0) : ∀ k, k ≤ ps.length → 0 ≤ leftN ps k
  | 0, _ => by rw [leftN_zero]; omega
  | k + 1, hk => by
    have hx := List.getElem?_eq_getElem (l := ps) (i := k) (by omega)
    have ih := leftN_nonneg hv k (by omega)
    rw [leftN_succ hx]
    unfold nextLeft
    split
    · have := ok_run hv hx (by assumption); omega
    · split
      · have := (ok_rest hv hx).1 (by assumption); omega
      · exact ih
theorem leftN_none {ps : List Pg} (hv : pagesFault ps = 0) {k : Nat} {p : Pg} (h : ps[k]? = some p) (h3 : p.kind ≠ 3) : leftN ps k = 0 := by
  have hlt := (List.getElem?_eq_some_iff.1 h).1
  have h1 := leftN_nonneg hv k (by omega)
  have h2 := (ok_rest hv h).2
  rcases Int.lt_or_le 0 (leftN ps k) with h4 | h4
  · exact absurd (h2 h4) h3
  · omega
/-- A list is right if its pages are and each run lacks what L tells. -/
theorem pages_ok {qs : List Pg} (h40 : qs.length ≤ 40) (hp : ∀ (k : Nat) (p : Pg), qs[k]? = some p → pageFault p = 0) (L : Nat → Int) (h0 : L 0 = 0) (hn : ∀ (k : Nat) (p : Pg), qs[k]? = some p → L (k + 1) = nextLeft (L k) p)
    (h3 : ∀ (k : Nat) (p : Pg), qs[k]? = some p → (p.kind = 3 ↔ 0 < L k)) (he : L qs.length = 0) : pagesFault qs = 0 := by
  have hL := leftN_of (ps := qs) h0 hn
  refine pagesFault_of h40 (fun p hp' => ?_) ((whole_iff qs 0).2 ⟨fun k p h => ?_, ?_⟩)
  · obtain ⟨k, hk⟩ := List.getElem?_of_mem hp'; exact hp k p hk
  · have hlt := (List.getElem?_eq_some_iff.1 h).1
    have h5 : leftFrom 0 qs k = L k := hL k (by omega)
    rw [h5]
    have h6 := h3 k p h
    by_cases e : p.kind = 3
    · rw [decide_eq_true e, decide_eq_true (h6.1 e)]
    · rw [decide_eq_false e, decide_eq_false (fun h => e (h6.2 h))]
  · have h5 : leftFrom 0 qs qs.length = L qs.length := hL _ (Nat.le_refl _)
    rw [h5]; exact he
/-- One page that is no part of a run gives way to another such one. -/
theorem pages_ok_set {ps : List Pg} (hv : pagesFault ps = 0) {i : Nat} {p x : Pg} (h : ps[i]? = some p) (h01 : p.kind = 0 ∨ p.kind = 1) (hx : pageFault x = 0) (hx01 : x.kind = 0 ∨ x.kind = 1) : pagesFault (ps.set i x) = 0 := by
  have hlt := (List.getElem?_eq_some_iff.1 h).1
  have hat : ∀ k q, (ps.set i x)[k]? = some q → (k = i ∧ q = x) ∨ (k ≠ i ∧ ps[k]? = some q) := fun k q hq => by
    by_cases e : k = i
    · subst e; rw [List.getElem?_set_self hlt] at hq; injection hq with hq; exact .inl ⟨rfl, hq.symm⟩
    · rw [List.getElem?_set_ne (by omega)] at hq; exact .inr ⟨e, hq⟩
  refine pages_ok (by rw [List.length_set]; exact (pagesFault_ok hv).1) (fun k q hq => ?_) (leftN ps) (leftN_zero ps) (fun k q hq => ?_) (fun k q hq => ?_) (by rw [List.length_set]; exact ok_end hv)
  · rcases hat k q hq with ⟨_, rfl⟩ | ⟨_, h1⟩
    · exact hx
    · exact ok_page hv h1
  · rcases hat k q hq with ⟨rfl, rfl⟩ | ⟨_, h1⟩
    · rw [leftN_succ h]; unfold nextLeft; rw [if_neg (by omega), if_neg (by omega), if_neg (by omega), if_neg (by omega)]
    · exact leftN_succ h1
  · rcases hat k q hq with ⟨rfl, rfl⟩ | ⟨_, h1⟩
    · have h2 := ok_rest hv h
      constructor
      · intro h; omega
      · intro h; have := h2.2 h; omega
    · exact ok_rest hv h1
theorem usedIn_le : ∀ {ps qs : List Pg}, qs.length = ps.length → (∀ (k : Nat) (p q : Pg), ps[k]? = some p → qs[k]? = some q → q.kind ≠ 0 → p.kind ≠ 0) → usedIn qs ≤ usedIn ps
  | [], [], _, _ => Nat.le_refl _
  | p :: ps, q :: qs, hl, h => by
    have h1 := usedIn_le (ps := ps) (qs := qs) (by simpa using hl) (fun k p q hp hq => h (k + 1) p q (by simpa using hp) (by simpa using hq))
    have h2 := h 0 p q rfl rfl
    unfold usedIn
    split <;> split <;> first | omega | (exfalso; exact h2 (by assumption) (by assumption))
  | [], q :: qs, hl, _ => by simp at hl
  | p :: ps, [], hl, _ => by simp at hl
end Go.Proofs.Ythpamclljdcjpaa

/- Chapter 4's law in plain words: slots and runs that are taken and dropped again. -/
namespace Go.Proofs.Ythpamclljdcjpaa
open Go.RowKit

theorem set_same {α : Type} {xs : List α} {i : Nat} {x : α} (h : xs[i]? = some x) : xs.set i x = xs := by
  refine List.ext_getElem? fun k => ?_
  by_cases e : i = k
  · subst e; rw [List.getElem?_set_self (List.getElem?_eq_some_iff.1 h).1, h]
  · rw [List.getElem?_set_ne e]
theorem anyB_set {us : List Bool} {s : Nat} (h : s < us.length) : anyB (us.set s true) = true := anyB_iff.2 ⟨s, by rw [List.getElem?_set_self h]⟩
theorem anyB_rep (n : Nat) : anyB (List.replicate n false) = false := by
  cases h : anyB (List.replicate n false) with
  | false => rfl
  | true =>
    obtain ⟨s, hs⟩ := anyB_iff.1 h
    rw [List.getElem?_replicate] at hs
    split at hs <;> simp at hs
theorem fault_slab {c : Int} {us : List Bool} (h0 : 0 ≤ c) (h3 : c ≤ 3) (hl : (us.length : Int) = 16 / sizeW c) (ha : anyB us = true) : pageFault ⟨1, c, us, 0⟩ = 0 := by
  unfold pageFault
  simp only [if_true]
  rw [if_pos (within_yes1 h0 h3), if_pos hl, if_pos ha]
/-- A slot that was taken. -/
theorem slot_taken {ps : List Pg} (hv : pagesFault ps = 0) {c : Int} (h0 : 0 ≤ c) (h3 : c ≤ 3) {i s : Nat} (hf : slotFor ps c = some (i, s)) :
    ∃ a : Nat, (i : Int) * 16 + s * sizeW c = a ∧ (blockStart ps a).1 = 4 ∧ pagesFault (putSlot ps c i s) = 0 ∧ heldAt (putSlot ps c i s) a = (0, some (.slot i c s)) ∧ Blk.start (.slot i c s) = (a : Int) ∧ dropBlk (putSlot ps c i s) (.slot i c s) = ps := by
  obtain ⟨p, hp, hx⟩ := slotFor_some hf
  have hlt := (List.getElem?_eq_some_iff.1 hp).1
  have hok := ok_page hv hp
  have hsz := slots_sixteen h0 h3
  -- the slot, the page's place
  have hslot : (s : Int) < 16 / sizeW c := by
    rcases hx with ⟨k1, kc, hu⟩ | ⟨_, rfl⟩
    · have hul : s < p.used.length := (List.getElem?_eq_some_iff.1 hu).1
      rcases pageFault_ok hok with h | h | h
      · rw [← kc]; omega
      · omega
      · omega
    · rcases (show c = 0 ∨ c = 1 ∨ c = 2 ∨ c = 3 by omega) with e | e | e | e <;> rw [e] <;> decide
  have key : ∃ a : Nat, (i : Int) * 16 + s * sizeW c = a ∧ a / 16 = i ∧ a % 16 / (sizeW c).toNat = s := by
    refine ⟨i * 16 + s * (sizeW c).toNat, ?_⟩
    rcases (show c = 0 ∨ c = 1 ∨ c = 2 ∨ c = 3 by omega) with e | e | e | e <;> rw [e] at hslot ⊢ <;> simp [sizeW] at hslot ⊢ <;> omega
  obtain ⟨a, ha, hai, has⟩ := key
  have hput : putSlot ps c i s = ps.set i (useSlot p c s) := by unfold putSlot; rw [hp]
  have hstart : Blk.start (.slot i c s) = (a : Int) := by unfold Blk.start; omega
  have hus : useSlot p c s = ⟨1, c, (useSlot p c s).used, 0⟩ ∧ ((useSlot p c s).used.length : Int) = 16 / sizeW c ∧ (useSlot p c s).used[s]? = some true := by
    unfold useSlot
    rcases hx with ⟨k1, kc, hu⟩ | ⟨k0, rfl⟩
    · rcases pageFault_ok hok with h | h | h
      · rw [if_neg (by omega)]
        have hul : s < p.used.length := (List.getElem?_eq_some_iff.1 hu).1
        exact ⟨by rw [k1, kc, h.2.2.2.1], by simp [h.2.2.2.2.1, kc], by simp [hul]⟩
      · omega
      · omega
    · rw [if_pos k0]
      have : 0 < (16 / sizeW c).toNat := by omega
      exact ⟨rfl, by simpa using hsz.1, by simp [this]⟩
  obtain ⟨u1, u2, u3⟩ := hus
  have hul : s < (useSlot p c s).used.length := (List.getElem?_eq_some_iff.1 u3).1
  have hv' : pagesFault (putSlot ps c i s) = 0 := by
    rw [hput]
    refine pages_ok_set hv hp ?_ ?_ (by rw [u1]; exact .inr rfl)
    · rcases hx with ⟨k1, _⟩ | ⟨k0, _⟩
      · exact .inr k1
      · exact .inl k0
    · rw [u1]; exact fault_slab h0 h3 u2 (anyB_iff.2 ⟨s, u3⟩)
  refine ⟨a, ha, ?_, hv', ?_, hstart, ?_⟩
  · unfold blockStart
    rcases hx with ⟨k1, kc, hu⟩ | ⟨k0, _⟩
    · rw [held_slot hv (a := a) (by omega) (by rw [hai]; exact hp) k1, kc, has, if_neg (by rw [hu]; simp)]
    · rw [held_free hv (a := a) (by omega) (by rw [hai]; exact hp) k0]
  · have hp' : (putSlot ps c i s)[a / 16]? = some (useSlot p c s) := by rw [hput, hai, List.getElem?_set_self hlt]
    have hk1 : (useSlot p c s).kind = 1 := by rw [u1]
    have hc1 : (useSlot p c s).cls = c := by rw [u1]
    rw [held_slot hv' (a := a) (by rw [hput, List.length_set]; omega) hp' hk1, hc1, has, if_pos u3, hai]
  · have hp' : (putSlot ps c i s)[i]? = some (useSlot p c s) := by rw [hput, List.getElem?_set_self hlt]
    unfold dropBlk
    simp only [hp']
    rw [hput, List.set_set]
    have hfree : freeSlot (useSlot p c s) s = p := by
      unfold freeSlot
      rcases hx with ⟨k1, kc, hu⟩ | ⟨k0, rfl⟩
      · have e1 : (useSlot p c s).used.set s false = p.used := by
          unfold useSlot
          rw [if_neg (by omega)]
          simp only [List.set_set]
          exact set_same hu
        rw [e1]
        rcases pageFault_ok hok with h | h | h
        · rw [if_pos h.2.2.2.2.2]
          unfold useSlot
          rw [if_neg (by omega)]
        · omega
        · omega
      · have e1 : (useSlot p c 0).used.set 0 false = List.replicate (16 / sizeW c).toNat false := by
          unfold useSlot
          rw [if_pos k0]
          simp only [List.set_set]
          exact set_same (by rw [List.getElem?_replicate, if_pos (by omega)])
        rw [e1, if_neg (by rw [anyB_rep]; simp)]
        exact (free_of hok k0).symm
    rw [hfree]
    exact set_same hp

theorem putRun_at {ps : List Pg} {i n j : Nat} (h : i + n ≤ ps.length) (hj : j < ps.length) : (putRun ps i n)[j]? = if j = i then some (runPg n) else if i ≤ j ∧ j < i + n then some restPg else ps[j]? := by
  unfold putRun
  by_cases e : j = i
  · subst e
    rw [if_pos rfl, List.getElem?_set_self (by rw [length_setMany]; exact hj)]
  · rw [if_neg e, List.getElem?_set_ne (by omega), setMany_at _ _ _ _ _ hj]
theorem freeN_at : ∀ {n : Nat} {ps : List Pg}, freeN n ps = true → ∀ j p, j < n → ps[j]? = some p → p.kind = 0
  | 0, _, _, j, p, hj, _ => by omega
  | n + 1, [], h, _, _, _, _ => by simp [freeN] at h
  | n + 1, q :: r, h, j, p, hj, hp => by
    rw [freeN] at h
    simp only [Bool.and_eq_true, decide_eq_true_eq] at h
    cases j with
    | zero => simp at hp; subst hp; exact h.1
    | succ j => exact freeN_at h.2 j p (by omega) (by simpa using hp)
/-- A run that was taken. -/
theorem run_taken {ps : List Pg} (hv : pagesFault ps = 0) {i n : Nat} (h1 : 1 ≤ n) (h4 : n ≤ 4) (hf : freeN n (ps.drop i) = true) (hl : i + n ≤ ps.length) :
    pagesFault (putRun ps i n) = 0 ∧ (putRun ps i n)[i]? = some (runPg n) ∧ (∀ j : Nat, j < n * 16 → heldAt (putRun ps i n) ((i * 16 + j : Nat) : Int) = (0, some (.run i n))) ∧ dropBlk (putRun ps i n) (.run i n) = ps := by
  have hlen : (putRun ps i n).length = ps.length := length_putRun ps i n
  have hfree : ∀ j p, i ≤ j → j < i + n → ps[j]? = some p → p.kind = 0 := fun j p hj hj2 hp => by
    refine freeN_at hf (j - i) p (by omega) ?_
    rw [List.getElem?_drop, show i + (j - i) = j by omega]; exact hp
  have hleft : ∀ k, i ≤ k → k ≤ i + n → leftN ps k = 0 := fun k hk hk2 => by
    by_cases e : k = i + n
    · subst e
      have hx := List.getElem?_eq_getElem (l := ps) (i := i + n - 1) (by omega)
      have h0 := hfree _ _ (by omega) (by omega) hx
      have hs := leftN_succ hx
      rw [show i + n - 1 + 1 = i + n by omega] at hs
      rw [hs]; unfold nextLeft; rw [if_neg (by omega), if_neg (by omega)]
      exact leftN_none hv hx (by omega)
    · have hx := List.getElem?_eq_getElem (l := ps) (i := k) (by omega)
      exact leftN_none hv hx (by have := hfree _ _ hk (by omega) hx; omega)
  have hat := fun j hj => putRun_at (ps := ps) (i := i) (n := n) (j := j) hl hj
  have hv' : pagesFault (putRun ps i n) = 0 := by
    refine pages_ok (by rw [hlen]; exact (pagesFault_ok hv).1) (fun k q hq => ?_) (fun k => if i < k ∧ k ≤ i + n then (n : Int) - (k - i) else leftN ps k) ?_ (fun k q hq => ?_) (fun k q hq => ?_) ?_
    · have hk := (List.getElem?_eq_some_iff.1 hq).1
      rw [hat k (by omega)] at hq
      split at hq
      · injection hq with hq; subst hq
        unfold pageFault runPg
        simp only
        rw [if_neg (by omega), if_pos (by trivial), if_pos (within_yes1 (by omega) (by omega)), if_pos ⟨trivial, trivial⟩]
      · split at hq
        · injection hq with hq; subst hq; decide
        · exact ok_page hv hq
    · rw [if_neg (by omega), leftN_zero]
    · have hk := (List.getElem?_eq_some_iff.1 hq).1
      rw [hat k (by omega)] at hq
      split at hq
      · injection hq with hq; subst hq
        rename_i e
        subst e
        rw [if_pos (by omega)]
        unfold nextLeft runPg
        simp only
        rw [if_pos trivial]; omega
      · split at hq
        · injection hq with hq; subst hq
          rw [if_pos (by omega), if_pos (by omega)]
          unfold nextLeft restPg
          simp only
          rw [if_neg (by omega), if_pos trivial]; omega
        · by_cases e : k = i + n
          · subst e
            rw [if_neg (by omega), if_pos (by omega), leftN_succ hq, hleft _ (by omega) (Nat.le_refl _)]
            congr 1; omega
          · rw [if_neg (by omega), if_neg (by omega), leftN_succ hq]
    · have hk := (List.getElem?_eq_some_iff.1 hq).1
      rw [hat k (by omega)] at hq
      split at hq
      · injection hq with hq; subst hq
        rename_i e
        subst e
        rw [if_neg (by omega), hleft _ (by omega) (by omega)]
        unfold runPg; simp
      · split at hq
        · injection hq with hq; subst hq
          rw [if_pos (by omega)]
          exact ⟨fun _ => by omega, fun _ => rfl⟩
        · by_cases e : k = i + n
          · subst e
            rw [if_pos (by omega)]
            have h5 := ok_rest hv hq
            rw [hleft _ (by omega) (Nat.le_refl _)] at h5
            constructor
            · intro h; have := h5.1 h; omega
            · intro h; omega
          · rw [if_neg (by omega)]; exact ok_rest hv hq
    · rw [hlen]
      by_cases e : ps.length = i + n
      · rw [if_pos (by omega)]; omega
      · rw [if_neg (by omega)]; exact ok_end hv
  have hhead : (putRun ps i n)[i]? = some (runPg n) := by rw [hat i (by omega), if_pos rfl]
  refine ⟨hv', hhead, fun j hj => ?_, ?_⟩
  · exact held_in_run hv' hhead rfl (by omega) (by show (_ : Int) < (i + (n : Int)) * 16; omega)
  · unfold dropBlk
    simp only [Int.toNat_natCast]
    refine List.ext_getElem? fun k => ?_
    by_cases hk : k < ps.length
    · rw [setMany_at _ _ _ _ _ (by rw [hlen]; exact hk)]
      have hx := List.getElem?_eq_getElem (l := ps) (i := k) hk
      split
      · rw [hx, free_of (ok_page hv hx) (hfree k _ (by omega) (by omega) hx)]
      · rw [hat k hk, if_neg (by omega), if_neg (by assumption)]
    · rw [List.getElem?_eq_none (by rw [length_setMany, hlen]; omega), List.getElem?_eq_none (by omega)]
/-- What was dropped. -/
theorem dropped {ps : List Pg} (hv : pagesFault ps = 0) {a : Int} {b : Blk} (h : heldAt ps a = (0, some b)) (he : b.start = a) :
    pagesFault (dropBlk ps b) = 0 ∧ heldAt (dropBlk ps b) a = (4, none) ∧ usedIn (dropBlk ps b) ≤ usedIn ps ∧ (dropBlk ps b).length = ps.length := by
  obtain ⟨_, h0, h1, hb⟩ := held_info hv h
  obtain ⟨a, rfl⟩ := Int.eq_ofNat_of_zero_le h0
  rcases hb with ⟨i, k, s, p, rfl, hp, k1, kc, c0, c3, hu, hul, hr, hi, hs⟩ | ⟨i, p, rfl, hp, k2, hi⟩
  · have hlt := (List.getElem?_eq_some_iff.1 hp).1
    rw [Int.toNat_natCast] at hi hs
    have hd : dropBlk ps (.slot i k s) = ps.set i (freeSlot p s) := by unfold dropBlk; simp only [hp]
    rw [hd]
    have hfs : freeSlot p s = Pg.free ∨ (freeSlot p s = ⟨p.kind, p.cls, p.used.set s false, p.run⟩ ∧ anyB (p.used.set s false) = true) := by
      unfold freeSlot
      split
      · right; exact ⟨rfl, by assumption⟩
      · left; rfl
    have hok : pageFault (freeSlot p s) = 0 ∧ ((freeSlot p s).kind = 0 ∨ (freeSlot p s).kind = 1) := by
      rcases hfs with e | ⟨e, ha⟩
      · rw [e]; exact ⟨by decide, .inl rfl⟩
      · rw [e]
        refine ⟨?_, .inr k1⟩
        rw [k1, hr]
        exact fault_slab (by omega) (by omega) (by rw [List.length_set, kc]; exact hul) ha
    have hv' := pages_ok_set hv hp (.inr k1) hok.1 hok.2
    refine ⟨hv', ?_, usedIn_le (List.length_set) (fun j q q' hq hq' hne => ?_), List.length_set⟩
    · have hx : (ps.set i (freeSlot p s))[a / 16]? = some (freeSlot p s) := by rw [← hi, List.getElem?_set_self hlt]
      rcases hfs with e | ⟨e, ha⟩
      · exact held_free hv' (a := a) (by rw [List.length_set]; omega) hx (by rw [e]; rfl)
      · rw [held_slot hv' (a := a) (by rw [List.length_set]; omega) hx (by rw [e]; exact k1), if_neg]
        rw [e]
        simp only
        rw [kc, ← hs, List.getElem?_set_self (List.getElem?_eq_some_iff.1 hu).1]; simp
    · by_cases e : j = i
      · subst e; rw [hp] at hq; injection hq with hq; subst hq; omega
      · rw [List.getElem?_set_ne (by omega), hq] at hq'; injection hq' with hq'; subst hq'; exact hne
  · have hr := ok_run hv hp k2
    have hf := run_fits hv hp k2
    have hlt := (List.getElem?_eq_some_iff.1 hp).1
    obtain ⟨m, hm⟩ : ∃ m : Nat, p.run = m := ⟨p.run.toNat, by omega⟩
    have hd : dropBlk ps (.run i p.run) = setMany ps i Pg.free m := by unfold dropBlk; simp only [hm, Int.toNat_natCast]
    have he' : a = i * 16 := by have : (i : Int) * 16 = a := he; omega
    rw [hd]
    have hlen : (setMany ps i Pg.free m).length = ps.length := length_setMany _ _ _ _
    have hat := fun j hj => setMany_at ps i Pg.free m j hj
    have hleft : leftN ps (i + m) = 0 := by
      have := (run_whole hv hp k2 (m - 1) (by omega)).2.1
      rw [show i + 1 + (m - 1) = i + m by omega] at this
      rw [this]; omega
    have hl0 : leftN ps i = 0 := leftN_none hv hp (by omega)
    have hv' : pagesFault (setMany ps i Pg.free m) = 0 := by
      refine pages_ok (by rw [hlen]; exact (pagesFault_ok hv).1) (fun k q hq => ?_) (fun k => if i ≤ k ∧ k ≤ i + m then 0 else leftN ps k) ?_ (fun k q hq => ?_) (fun k q hq => ?_) ?_
      · have hk := (List.getElem?_eq_some_iff.1 hq).1
        rw [hat k (by omega)] at hq
        split at hq
        · injection hq with hq; subst hq; decide
        · exact ok_page hv hq
      · split
        · rfl
        · exact leftN_zero ps
      · have hk := (List.getElem?_eq_some_iff.1 hq).1
        rw [hat k (by omega)] at hq
        split at hq
        · injection hq with hq; subst hq
          rw [if_pos (by omega), if_pos (by omega)]; rfl
        · have hs := leftN_succ hq
          by_cases e : k = i + m
          · subst e
            rw [if_neg (by omega), if_pos (by omega), hs, hleft]
          · by_cases e2 : k + 1 = i
            · rw [if_pos (by omega), if_neg (by omega), ← hs, e2, hl0]
            · rw [if_neg (by omega), if_neg (by omega)]; exact hs
      · have hk := (List.getElem?_eq_some_iff.1 hq).1
        rw [hat k (by omega)] at hq
        split at hq
        · injection hq with hq; subst hq
          rw [if_pos (by omega)]; unfold Pg.free; simp
        · have h5 := ok_rest hv hq
          by_cases e : k = i + m
          · subst e
            rw [if_pos (by omega)]
            rw [hleft] at h5; exact h5
          · rw [if_neg (by omega)]; exact h5
      · rw [hlen]
        split
        · rfl
        · exact ok_end hv
    refine ⟨hv', ?_, usedIn_le hlen (fun j q q' hq hq' hne => ?_), hlen⟩
    · refine held_free hv' (a := a) (p := Pg.free) (by rw [hlen]; omega) ?_ rfl
      rw [hat (a / 16) (by omega), if_pos (by omega)]
    · have hj := (List.getElem?_eq_some_iff.1 hq).1
      rw [hat j hj] at hq'
      split at hq'
      · injection hq' with hq'; subst hq'; exact absurd rfl hne
      · rw [hq] at hq'; injection hq' with hq'; subst hq'; exact hne
end Go.Proofs.Ythpamclljdcjpaa

/- Chapter 5, plain facts: what is held when a slot was dropped; what is kept at hand in a right heap. -/
namespace Go.Proofs.Ythpamclljdcjpaa
open Go.RowKit

instance : DecidableEq Blk := fun a b => match a, b with
  | .slot i c s, .slot j d t => decidable_of_iff (i = j ∧ c = d ∧ s = t) (by simp)
  | .run i n, .run j m => decidable_of_iff (i = j ∧ n = m) (by simp)
  | .slot _ _ _, .run _ _ => isFalse (by simp)
  | .run _ _, .slot _ _ _ => isFalse (by simp)

theorem held_range {ps : List Pg} (hv : pagesFault ps = 0) {a : Int} : (0 ≤ a ∧ a < ps.length * 16) ∨ heldAt ps a = (3, none) := by
  by_cases h : within 0 ((ps.length : Int) * 16 - 1) [a] = true
  · have := within_range h; exact .inl (by omega)
  · exact .inr (held_no hv (by simpa using h))
theorem headOf_congr {ps qs : List Pg} (h : ∀ k : Nat, (ps[k]?.map Pg.kind = some 3) ↔ (qs[k]?.map Pg.kind = some 3)) : ∀ k, headOf ps k = headOf qs k
  | 0 => rfl
  | k + 1 => by
    unfold headOf
    by_cases h3 : ps[k + 1]?.map Pg.kind = some 3
    · rw [if_pos h3, if_pos ((h _).1 h3)]; exact headOf_congr h k
    · rw [if_neg h3, if_neg (fun e => h3 ((h _).2 e))]
/-- A place in a slot that is used begins that slot's page. -/
theorem held_slot_info {ps : List Pg} (hv : pagesFault ps = 0) {a c : Int} {i s : Nat} {k : Int} (h : heldAt ps a = (c, some (.slot i k s))) :
    c = 0 ∧ 0 ≤ a ∧ a < ps.length * 16 ∧ i = a.toNat / 16 ∧ s = a.toNat % 16 / (sizeW k).toNat ∧ 0 ≤ k ∧ k ≤ 3 ∧ ∃ p, ps[i]? = some p ∧ p.kind = 1 ∧ p.cls = k ∧ p.run = 0 ∧ p.used[s]? = some true ∧ (p.used.length : Int) = 16 / sizeW k := by
  obtain ⟨h1, h2, h3, h4⟩ := held_info hv h
  rcases h4 with ⟨i', k', s', p, hb, hp, p1, p2, c0, c3, hu, hl, hr, hi, hs⟩ | ⟨i', p, hb, _⟩
  · cases hb
    exact ⟨h1, h2, h3, hi, hs, c0, c3, p, hp, p1, p2, hr, hu, hl⟩
  · cases hb
theorem freeSlot_kind (p : Pg) (s : Nat) (h1 : p.kind = 1) : (freeSlot p s).kind ≠ 3 ∧ (freeSlot p s).kind ≠ 2 := by
  unfold freeSlot; split
  · simp [h1]
  · simp [Pg.free]
theorem held_dropped {ps : List Pg} (hv : pagesFault ps = 0) {a : Int} {i s : Nat} {k : Int} (h : heldAt ps a = (0, some (.slot i k s))) (hq : pagesFault (dropBlk ps (.slot i k s)) = 0) (x : Int) :
    heldAt (dropBlk ps (.slot i k s)) x = if heldAt ps x = (0, some (.slot i k s)) then (4, none) else heldAt ps x := by
  obtain ⟨_, _, ha, hi, hs, c0, c3, p, hp, p1, p2, pr, hu, hl⟩ := held_slot_info hv h
  have hil : i < ps.length := (List.getElem?_eq_some_iff.1 hp).1
  have hd : dropBlk ps (.slot i k s) = ps.set i (freeSlot p s) := by unfold dropBlk; simp only [hp]
  rw [hd] at hq ⊢
  have hlen : (ps.set i (freeSlot p s)).length = ps.length := List.length_set
  rcases held_range hv (a := x) with ⟨x0, x1⟩ | h3
  rotate_left
  · rw [h3, if_neg (by simp)]
    rcases held_range hq (a := x) with ⟨x0, x1⟩ | h3'
    · rw [hlen] at x1
      exfalso
      unfold heldAt at h3
      rw [if_pos hv, if_pos (within_yes1 x0 (by omega))] at h3
      split at h3 <;> simp at h3
    · exact h3'
  obtain ⟨x, rfl⟩ := Int.eq_ofNat_of_zero_le x0
  have hxl : x / 16 < ps.length := by omega
  have hx := List.getElem?_eq_getElem hxl
  generalize ps[x / 16] = q at hx
  by_cases e : x / 16 = i
  · obtain rfl : q = p := by rw [e, hp] at hx; injection hx with hx; exact hx.symm
    have hx2 : (ps.set i (freeSlot q s))[x / 16]? = some (freeSlot q s) := by rw [e, List.getElem?_set_self hil]
    rw [held_slot hv (a := x) (by omega) hx p1]
    subst p2
    by_cases hany : anyB (q.used.set s false) = true
    · have hf : freeSlot q s = ⟨q.kind, q.cls, q.used.set s false, q.run⟩ := by unfold freeSlot; rw [if_pos hany]
      rw [held_slot hq (a := x) (by omega) hx2 (by rw [hf]; exact p1), hf]
      simp only
      by_cases es : x % 16 / (sizeW q.cls).toNat = s
      · rw [es, e, if_pos hu, if_pos rfl, List.getElem?_set_self (by have := (List.getElem?_eq_some_iff.1 hu).1; exact this), if_neg (by simp)]
      · rw [List.getElem?_set_ne (fun h => es h.symm)]
        split
        · rw [if_neg (by simp [es])]
        · rw [if_neg (by simp)]
    · have hf : freeSlot q s = Pg.free := by unfold freeSlot; rw [if_neg hany]
      rw [held_free hq (a := x) (by omega) hx2 (by rw [hf]; rfl)]
      by_cases es : x % 16 / (sizeW q.cls).toNat = s
      · rw [es, e, if_pos hu, if_pos rfl]
      · have : q.used[x % 16 / (sizeW q.cls).toNat]? ≠ some true := by
          intro hh
          apply hany
          exact anyB_iff.2 ⟨_, by rw [List.getElem?_set_ne (fun h => es h.symm)]; exact hh⟩
        rw [if_neg this, if_neg (by simp)]
  · have hx2 : (ps.set i (freeSlot p s))[x / 16]? = some q := by rw [List.getElem?_set_ne (fun h => e h.symm)]; exact hx
    rcases pageFault_kind (ok_page hv hx) with k0 | k1 | k2
    · rw [held_free hv (by omega) hx k0, held_free hq (a := x) (by omega) hx2 k0, if_neg (by simp)]
    · rw [held_slot hv (by omega) hx k1, held_slot hq (a := x) (by omega) hx2 k1]
      split
      · rw [if_neg (by simp [e])]
      · rw [if_neg (by simp)]
    · have hhead : headOf (ps.set i (freeSlot p s)) (x / 16) = headOf ps (x / 16) := by
        symm
        refine headOf_congr (fun j => ?_) _
        by_cases ej : j = i
        · subst ej
          rw [hp, List.getElem?_set_self hil]
          simp only [Option.map_some, Option.some.injEq]
          have := freeSlot_kind p s p1
          constructor
          · intro hh; omega
          · intro hh; exact absurd hh this.1
        · rw [List.getElem?_set_ne (fun h => ej h.symm)]
      obtain ⟨r, h5, h6, h7⟩ := held_run hv (a := x) (by omega) hx k2
      obtain ⟨r', h5', h6', h7'⟩ := held_run hq (a := x) (by omega) hx2 k2
      rw [h7, h7', hhead]
      rw [hhead] at h5'
      have ne : headOf ps (x / 16) ≠ i := by intro hh; rw [hh, hp] at h5; injection h5 with h5; rw [← h5] at h6; omega
      rw [List.getElem?_set_ne (fun h => ne h.symm), h5] at h5'
      injection h5' with h5'; subst h5'
      rw [if_neg (by simp)]

/-- A slot begins at a place. -/
theorem isSlotAt_iff {ps : List Pg} (hv : pagesFault ps = 0) {c a : Int} : isSlotAt ps c a = true ↔ ∃ i s, heldAt ps a = (0, some (.slot i c s)) ∧ (Blk.slot i c s).start = a := by
  unfold isSlotAt
  rcases hh : heldAt ps a with ⟨q, b⟩
  cases b with
  | none => simp
  | some b =>
    cases b with
    | run i n => simp
    | slot i k s =>
      have := (held_slot_info hv hh).1
      subst this
      simp only [Bool.and_eq_true, decide_eq_true_eq]
      constructor
      · rintro ⟨rfl, h2⟩; exact ⟨i, s, rfl, h2⟩
      · rintro ⟨i', s', h1, h2⟩
        simp at h1
        obtain ⟨rfl, rfl, rfl⟩ := h1
        exact ⟨rfl, h2⟩
theorem slot_dropAt {ps : List Pg} (hv : pagesFault ps = 0) {a : Int} {i s : Nat} {c : Int} (h : heldAt ps a = (0, some (.slot i c s))) : dropAt ps a.toNat = dropBlk ps (.slot i c s) := by
  obtain ⟨_, _, ha, hi, hs, c0, c3, p, hp, p1, p2, pr, hu, hl⟩ := held_slot_info hv h
  unfold dropAt dropBlk
  subst hi
  rw [hp]
  simp only
  rw [if_pos p1, p2, hs, hp]
/-- What is dropped of right pages leaves right pages in which all else is held as it was. -/
theorem slot_dropped {ps : List Pg} (hv : pagesFault ps = 0) {c a : Int} (h : isSlotAt ps c a = true) :
    pagesFault (dropAt ps a.toNat) = 0 ∧ (dropAt ps a.toNat).length = ps.length ∧ dropBlock ps a = (0, dropAt ps a.toNat, a) ∧ (∀ x, heldAt (dropAt ps a.toNat) x = if heldAt ps x = heldAt ps a then (4, none) else heldAt ps x) ∧
      ∀ c' a', a' ≠ a → isSlotAt ps c' a' = true → isSlotAt (dropAt ps a.toNat) c' a' = true := by
  obtain ⟨i, s, hh, hs⟩ := (isSlotAt_iff hv).1 h
  obtain ⟨d1, d2, _, d4⟩ := dropped hv hh hs
  have hd := slot_dropAt hv hh
  have hx := held_dropped hv hh d1
  rw [hd]
  refine ⟨d1, d4, ?_, fun x => by rw [hx, hh], fun c' a' hne h' => ?_⟩
  · unfold dropBlock; rw [hh]; simp only; rw [if_pos hs]
  · obtain ⟨i', s', hh', hs'⟩ := (isSlotAt_iff hv).1 h'
    refine (isSlotAt_iff d1).2 ⟨i', s', ?_, hs'⟩
    rw [hx, hh', if_neg]
    intro e
    simp at e
    obtain ⟨rfl, rfl, rfl⟩ := e
    exact hne (hs'.symm.trans hs)

theorem magsFault_at (ps : List Pg) : ∀ {ms : List (List Int)} {k : Nat}, magsFault ps k ms = 0 → ∀ {j : Nat} {m : List Int}, ms[j]? = some m → magFault ps (((k + j) % 4 : Nat) : Int) m = 0
  | [], _, _, j, m, hj => by simp at hj
  | q :: r, k, h, j, m, hj => by
    unfold magsFault at h
    split at h
    · cases j with
      | zero => simp at hj; subst hj; assumption
      | succ j => have := magsFault_at ps h (j := j) (by simpa using hj); rw [show k + (j + 1) = k + 1 + j by omega]; exact this
    · exact absurd h (by assumption)
theorem magFault_ok {ps : List Pg} {c : Int} {m : List Int} (h : magFault ps c m = 0) : m.length ≤ 2 ∧ ∀ a ∈ m, isSlotAt ps c a = true := by
  unfold magFault at h
  split at h
  · omega
  · split at h
    · rename_i h1 h2; exact ⟨by omega, List.all_eq_true.1 h2⟩
    · omega
/-- All that is kept at hand in a right heap are slots' beginnings, each once. -/
def KeptOk (ps : List Pg) (xs : List Int) : Prop := xs.Nodup ∧ ∀ a ∈ xs, ∃ c : Int, isSlotAt ps c a = true
theorem kept_ok {h : Hp} (hf : heapFault h = 0) : KeptOk h.pages h.kept := by
  obtain ⟨h1, _, _, _, h5, h6, _⟩ := heapFault_ok hf
  refine ⟨by simpa [alike] using h6, fun a ha => ?_⟩
  obtain ⟨m, hm, ham⟩ := List.mem_flatten.1 ha
  obtain ⟨j, hj, rfl⟩ := List.getElem_of_mem hm
  exact ⟨_, (magFault_ok (magsFault_at _ h5 (List.getElem?_eq_getElem hj))).2 a ham⟩
theorem mags_small {h : Hp} (hf : heapFault h = 0) : h.mags.length ≤ 8 ∧ 4 ≤ h.mags.length ∧ ShortM 2 h.mags ∧ h.kept.length ≤ 16 := by
  obtain ⟨h1, _, h3, _, h5, h6, _⟩ := heapFault_ok hf
  have h8 : h.mags.length % 4 = 0 ∧ 4 ≤ h.mags.length ∧ h.mags.length ≤ 8 := by simpa [magCount] using h3
  have hs : ShortM 2 h.mags := fun m hm => by
    obtain ⟨j, hj, rfl⟩ := List.getElem_of_mem hm
    exact (magFault_ok (magsFault_at _ h5 (List.getElem?_eq_getElem hj))).1
  have key : ∀ ms : List (List Int), ShortM 2 ms → ms.flatten.length ≤ 2 * ms.length := by
    intro ms
    induction ms with
    | nil => simp
    | cons m r ih =>
      intro hm
      have := ih (fun x hx => hm x (by simp [hx]))
      have := hm m (by simp)
      simp only [List.flatten_cons, List.length_append, List.length_cons]; omega
  refine ⟨h8.2.2, h8.2.1, hs, ?_⟩
  have := key _ hs
  unfold Hp.kept; omega
/-- One step of dropping what is kept. -/
theorem KeptOk.step {ps : List Pg} (hv : pagesFault ps = 0) {a : Int} {r : List Int} (h : KeptOk ps (a :: r)) : pagesFault (dropAt ps a.toNat) = 0 ∧ dropBlock ps a = (0, dropAt ps a.toNat, a) ∧ KeptOk (dropAt ps a.toNat) r := by
  obtain ⟨hn, ha⟩ := h
  obtain ⟨c, hc⟩ := ha a (by simp)
  obtain ⟨d1, d2, d3, d4, d5⟩ := slot_dropped hv hc
  have hn' := List.nodup_cons.1 hn
  exact ⟨d1, d3, hn'.2, fun x hx => by
    obtain ⟨c', hc'⟩ := ha x (by simp [hx])
    exact ⟨c', d5 c' x (fun e => hn'.1 (e ▸ hx)) hc'⟩⟩
theorem keptAll : ∀ (xs : List Int) (ps : List Pg), pagesFault ps = 0 → KeptOk ps xs → pagesFault (dropAll ps xs) = 0
  | [], _, hv, _ => hv
  | a :: r, ps, hv, h => by
    obtain ⟨h1, _, h3⟩ := KeptOk.step hv h
    exact keptAll r _ h1 h3
/-- Behind some of these, the next. -/
theorem keptAfter : ∀ (xs ys : List Int) (ps : List Pg), pagesFault ps = 0 → KeptOk ps (xs ++ ys) → pagesFault (dropAll ps xs) = 0 ∧ KeptOk (dropAll ps xs) ys
  | [], _, _, hv, h => ⟨hv, h⟩
  | a :: r, ys, ps, hv, h => by
    obtain ⟨h1, _, h3⟩ := KeptOk.step (r := r ++ ys) hv h
    exact keptAfter r ys _ h1 h3
theorem KeptOk.slot_place {ps : List Pg} (hv : pagesFault ps = 0) {xs : List Int} (h : KeptOk ps xs) {a : Int} (ha : a ∈ xs) : 0 ≤ a ∧ a < ps.length * 16 := by
  obtain ⟨c, hc⟩ := h.2 a ha
  obtain ⟨i, s, hh, _⟩ := (isSlotAt_iff hv).1 hc
  obtain ⟨_, h1, h2, _⟩ := held_slot_info hv hh
  exact ⟨h1, h2⟩
end Go.Proofs.Ythpamclljdcjpaa

/- Chapter 6, plain facts: pages seen place by place, when blocks are taken and dropped. -/
namespace Go.Proofs.Ythpamclljdcjpaa
open Go.RowKit

/-- What is held at any place was held; a page behind it is not free. -/
theorem held_page {ps : List Pg} (hv : pagesFault ps = 0) {x : Int} {b : Blk} (h : heldAt ps x = (0, some b)) : 0 ≤ x ∧ x < ps.length * 16 ∧ ∀ p, ps[x.toNat / 16]? = some p → p.kind ≠ 0 := by
  obtain ⟨_, h0, h1, _⟩ := held_info hv h
  refine ⟨h0, h1, fun p hp hk => ?_⟩
  obtain ⟨x, rfl⟩ := Int.eq_ofNat_of_zero_le h0
  rw [Int.toNat_natCast] at hp
  rw [held_free hv (by omega) hp hk] at h
  simp at h
/-- A place in a block holds it. -/
theorem held_fill {ps : List Pg} (hv : pagesFault ps = 0) {a x : Int} {b : Blk} (h : heldAt ps a = (0, some b)) (h1 : b.start ≤ x) (h2 : x < b.start + b.size) : heldAt ps x = (0, some b) := by
  cases b with
  | slot i c s =>
    obtain ⟨_, ha0, ha, hi, hs, c0, c3, p, hp, p1, p2, pr, hu, hl⟩ := held_slot_info hv h
    have hsl : s < p.used.length := (List.getElem?_eq_some_iff.1 hu).1
    have hil : i < ps.length := (List.getElem?_eq_some_iff.1 hp).1
    simp only [Blk.start, Blk.size] at h1 h2
    have hsz := sizeW_small c
    have hx0 : 0 ≤ x := by
      have : 0 ≤ (s : Int) * sizeW c := Int.mul_nonneg (by omega) (by omega)
      omega
    obtain ⟨x, rfl⟩ := Int.eq_ofNat_of_zero_le hx0
    have hxi : x / 16 = i ∧ x % 16 / (sizeW c).toNat = s := by
      rcases (show c = 0 ∨ c = 1 ∨ c = 2 ∨ c = 3 by omega) with rfl | rfl | rfl | rfl <;> simp [sizeW] at h1 h2 hl ⊢ <;> omega
    rw [held_slot hv (a := x) (p := p) (by omega) (by rw [hxi.1]; exact hp) p1, p2, hxi.1, hxi.2, if_pos hu]
  | run i n =>
    obtain ⟨_, ha0, ha, hb⟩ := held_info hv h
    rcases hb with ⟨i', k, s, p, hb, _⟩ | ⟨i', p, hb, hp, p2, hi⟩
    · cases hb
    · cases hb
      simp only [Blk.start, Blk.size] at h1 h2
      have hx0 : 0 ≤ x := by omega
      obtain ⟨x, rfl⟩ := Int.eq_ofNat_of_zero_le hx0
      exact held_in_run hv hp p2 (by omega) (by rw [Int.add_mul]; exact h2)
/-- A page is free just where nothing is held at its places. -/
theorem page_free_iff {ps : List Pg} (hv : pagesFault ps = 0) {k : Nat} {p : Pg} (hp : ps[k]? = some p) : p.kind = 0 ↔ ∀ j : Nat, j < 16 → heldAt ps ((k * 16 + j : Nat) : Int) = (4, none) := by
  have hlt := (List.getElem?_eq_some_iff.1 hp).1
  have hat : ∀ j, j < 16 → ps[(k * 16 + j) / 16]? = some p := fun j hj => by rw [show (k * 16 + j) / 16 = k by omega]; exact hp
  constructor
  · intro h0 j hj
    exact held_free hv (by omega) (hat j hj) h0
  · intro h
    rcases pageFault_ok (ok_page hv hp) with ⟨k1, c0, c3, _, hl, hu⟩ | ⟨k2, _⟩ | ⟨k3, _⟩
    · exfalso
      obtain ⟨s, hs⟩ := anyB_iff.1 hu
      have hsl : s < p.used.length := (List.getElem?_eq_some_iff.1 hs).1
      obtain ⟨j, hj, hjs⟩ : ∃ j, j < 16 ∧ j / (sizeW p.cls).toNat = s := by
        refine ⟨s * (sizeW p.cls).toNat, ?_, ?_⟩ <;>
          rcases (show p.cls = 0 ∨ p.cls = 1 ∨ p.cls = 2 ∨ p.cls = 3 by omega) with e | e | e | e <;> rw [e] at hl ⊢ <;> simp [sizeW] at hl ⊢ <;> omega
      have := h j hj
      rw [held_slot hv (by omega) (hat j hj) k1, show (k * 16 + j) % 16 = j by omega, hjs, if_pos hs] at this
      simp at this
    · exfalso
      obtain ⟨q, _, _, hq⟩ := held_run hv (a := k * 16 + 0) (by omega) (hat 0 (by omega)) (.inl k2)
      have := h 0 (by omega)
      rw [hq] at this
      simp at this
    · rcases k3 with k0 | k3
      · exact k0
      · exfalso
        obtain ⟨q, _, _, hq⟩ := held_run hv (a := k * 16 + 0) (by omega) (hat 0 (by omega)) (.inr k3)
        have := h 0 (by omega)
        rw [hq] at this
        simp at this
theorem held_dropped_run {ps : List Pg} (hv : pagesFault ps = 0) {a : Int} {i : Nat} {n : Int} (h : heldAt ps a = (0, some (.run i n))) (hq : pagesFault (dropBlk ps (.run i n)) = 0) (x : Int) :
    heldAt (dropBlk ps (.run i n)) x = if heldAt ps x = (0, some (.run i n)) then (4, none) else heldAt ps x := by
  obtain ⟨_, ha0, ha, hb⟩ := held_info hv h
  rcases hb with ⟨i', k, s, p, hb, _⟩ | ⟨i', p, hb, hp, p2, hi⟩
  · cases hb
  cases hb
  have hr := ok_run hv hp p2
  have hf := run_fits hv hp p2
  have hlen : (dropBlk ps (.run i p.run)).length = ps.length := length_setMany _ _ _ _
  have hat : ∀ j, j < ps.length → (dropBlk ps (.run i p.run))[j]? = if i ≤ j ∧ j < i + p.run.toNat then some Pg.free else ps[j]? := fun j hj => setMany_at _ _ _ _ _ hj
  rcases held_range (ps := ps) hv (a := x) with ⟨hx0, hx1⟩ | hno
  · obtain ⟨x, rfl⟩ := Int.eq_ofNat_of_zero_le hx0
    have hk : x / 16 < ps.length := by omega
    have hx := List.getElem?_eq_getElem hk
    by_cases hin : i ≤ x / 16 ∧ x / 16 < i + p.run.toNat
    · rw [held_in_run hv hp p2 (a := x) (by omega) (by rw [Int.add_mul]; omega), if_pos rfl]
      exact held_free hq (by rw [hlen]; omega) (p := Pg.free) (by rw [hat _ hk, if_pos hin]) rfl
    · have hqx : (dropBlk ps (.run i p.run))[x / 16]? = some ps[x / 16] := by rw [hat _ hk, if_neg hin]; exact hx
      have hl2 : x < (dropBlk ps (.run i p.run)).length * 16 := by rw [hlen]; omega
      rcases pageFault_kind (ok_page hv hx) with k0 | k1 | k23
      · rw [held_free hq hl2 hqx k0, held_free hv (by omega) hx k0]; simp
      · rw [held_slot hq hl2 hqx k1, held_slot hv (by omega) hx k1]
        by_cases hu : (ps[x / 16]).used[x % 16 / (sizeW (ps[x / 16]).cls).toNat]? = some true
        · rw [if_pos hu]; simp
        · rw [if_neg hu]; simp
      · obtain ⟨q, hq1, hq2, hq3⟩ := held_run hv (a := x) (by omega) hx k23
        have hg : (x / 16 : Nat) - (headOf ps (x / 16) : Int) ≤ q.run - 1 := by
          rcases k23 with k2 | k3
          · have e := headOf_self hx (by omega)
            rw [e] at hq1
            rw [hx] at hq1; cases hq1
            have := ok_run hv hx k2
            rw [e]; omega
          · obtain ⟨g, q', _, hg, hg2, hg3, hg4⟩ := head_of_rest hv hx k3
            rw [hg4] at hq1 ⊢
            rw [hg] at hq1; cases hq1
            omega
        have hle := headOf_le ps (x / 16)
        have hgn : ¬ (i ≤ headOf ps (x / 16) ∧ headOf ps (x / 16) < i + p.run.toNat) := by
          rintro ⟨g1, g2⟩
          rcases Nat.eq_or_lt_of_le g1 with e | g1
          · rw [← e, hp] at hq1; cases hq1
            exact hin ⟨by omega, by omega⟩
          · obtain ⟨_, _, h3⟩ := run_whole hv hp p2 (p.run - 1).toNat (by omega)
            have := h3 _ _ g1 (by omega) hq1
            omega
        have hgq : (dropBlk ps (.run i p.run))[headOf ps (x / 16)]? = some q := by rw [hat _ (by omega), if_neg hgn]; exact hq1
        have hh := headOf_run hq hgq hq2 (x / 16 - headOf ps (x / 16)) (by omega)
        rw [show headOf ps (x / 16) + (x / 16 - headOf ps (x / 16)) = x / 16 by omega] at hh
        obtain ⟨q', hr1, hr2, hr3⟩ := held_run hq (a := x) hl2 hqx k23
        rw [hh] at hr1 hr3
        rw [hgq] at hr1; cases hr1
        rw [hr3, hq3, if_neg]
        intro e
        simp only [Prod.mk.injEq, Option.some.injEq, Blk.run.injEq, true_and] at e
        exact hgn ⟨by omega, by omega⟩
  · rw [hno]
    rcases held_range (ps := dropBlk ps (.run i p.run)) hq (a := x) with ⟨hx0, hx1⟩ | hno2
    · rw [hlen] at hx1
      have : within 0 ((ps.length : Int) * 16 - 1) [x] = true := within_yes1 hx0 (by omega)
      unfold heldAt at hno
      rw [if_pos hv, if_pos this] at hno
      cases hb : blockAt ps x.toNat with
      | none => rw [hb] at hno; simp at hno
      | some b => rw [hb] at hno; simp at hno
    · rw [hno2]; simp
/-- A block that is dropped is held nowhere, all else is. -/
theorem drop_view {ps : List Pg} (hv : pagesFault ps = 0) {a : Int} {b : Blk} (h : heldAt ps a = (0, some b)) (he : b.start = a) (x : Int) :
    heldAt (dropBlk ps b) x = if heldAt ps x = (0, some b) then (4, none) else heldAt ps x := by
  obtain ⟨hq, _⟩ := dropped hv h he
  cases b with
  | slot i c s => exact held_dropped hv h hq x
  | run i n => exact held_dropped_run hv h hq x
/-- Pages in which one block more is held. -/
structure Took (ps qs : List Pg) (b : Blk) : Prop where
  ok : pagesFault qs = 0
  len : qs.length = ps.length
  at_ : heldAt qs b.start = (0, some b)
  view : ∀ x, heldAt ps x = if heldAt qs x = (0, some b) then (4, none) else heldAt qs x
theorem Took.keep {ps qs : List Pg} {b : Blk} (h : Took ps qs b) {x : Int} {d : Blk} (hx : heldAt ps x = (0, some d)) : heldAt qs x = (0, some d) := by
  have := h.view x
  rw [hx] at this
  by_cases e : heldAt qs x = (0, some b)
  · rw [if_pos e] at this; simp at this
  · rw [if_neg e] at this; exact this.symm
theorem Took.was {ps qs : List Pg} {b : Blk} (h : Took ps qs b) {x : Int} {d : Blk} (hx : heldAt qs x = (0, some d)) (hd : d ≠ b) : heldAt ps x = (0, some d) := by
  rw [h.view x, if_neg (by rw [hx]; simpa using hd)]; exact hx
theorem Took.new {ps qs : List Pg} {b : Blk} (h : Took ps qs b) {x : Int} (hx : heldAt qs x = (0, some b)) : heldAt ps x = (4, none) := by
  rw [h.view x, if_pos hx]
theorem Took.free {ps qs : List Pg} {b : Blk} (hv : pagesFault ps = 0) (h : Took ps qs b) {k : Nat} {q : Pg} (hq : qs[k]? = some q) (h0 : q.kind = 0) : ∃ p, ps[k]? = some p ∧ p.kind = 0 := by
  have hk := (List.getElem?_eq_some_iff.1 hq).1
  have hx := List.getElem?_eq_getElem (l := ps) (i := k) (by rw [← h.len]; exact hk)
  refine ⟨_, hx, (page_free_iff hv hx).2 fun j hj => ?_⟩
  have h1 := (page_free_iff h.ok hq).1 h0 j hj
  rw [h.view, h1]; simp
theorem took_slot {ps : List Pg} (hv : pagesFault ps = 0) {c : Int} (h0 : 0 ≤ c) (h3 : c ≤ 3) {i s : Nat} (hf : slotFor ps c = some (i, s)) : Took ps (putSlot ps c i s) (.slot i c s) := by
  obtain ⟨a, h1, h2, h4, h5, h6, h7⟩ := slot_taken hv h0 h3 hf
  have hd := drop_view h4 h5 h6
  rw [h7] at hd
  refine ⟨h4, ?_, by rw [h6]; exact h5, hd⟩
  unfold putSlot; split <;> simp
theorem took_run {ps : List Pg} (hv : pagesFault ps = 0) {i n : Nat} (h1 : 1 ≤ n) (h4 : n ≤ 4) (hf : runFrom n 0 ps = some i) : Took ps (putRun ps i n) (.run i n) ∧ i + n ≤ ps.length := by
  obtain ⟨_, hfr⟩ := runFrom_in hf
  rw [Nat.sub_zero] at hfr
  have hl : i + n ≤ ps.length := by
    have key : ∀ (n : Nat) (qs : List Pg), freeN n qs = true → n ≤ qs.length := by
      intro n
      induction n with
      | zero => intro qs _; omega
      | succ n ih =>
        intro qs hq
        cases qs with
        | nil => simp [freeN] at hq
        | cons q r => rw [freeN] at hq; simp only [Bool.and_eq_true] at hq; have := ih r hq.2; simp; omega
    have := key n _ hfr
    rw [List.length_drop] at this; omega
  obtain ⟨t1, t2, t3, t4⟩ := run_taken hv h1 h4 hfr hl
  have h5 : heldAt (putRun ps i n) (Blk.start (.run i n)) = (0, some (.run i n)) := by
    have := t3 0 (by omega)
    simpa [Blk.start] using this
  have hd := drop_view t1 h5 rfl
  rw [t4] at hd
  exact ⟨⟨t1, length_putRun ps i n, h5, hd⟩, hl⟩
end Go.Proofs.Ythpamclljdcjpaa

/- Chapter 6, plain facts: what a right heap is, place by place; it stays one when it is turned by parts. -/
namespace Go.Proofs.Ythpamclljdcjpaa
open Go.RowKit

/-- A right heap, place by place. -/
structure Right (h : Hp) : Prop where
  pg : pagesFault h.pages = 0
  len : h.words.length = h.pages.length * 16
  cnt : magCount h.mags.length = true
  val : ∀ v ∈ h.words, -1000000000 ≤ v ∧ v ≤ 1000000000
  mag : ∀ (j : Nat) (m : List Int), h.mags[j]? = some m → m.length ≤ 2 ∧ ∀ a ∈ m, isSlotAt h.pages ((j % 4 : Nat) : Int) a = true
  nd : h.kept.Nodup
  zero : ∀ (k : Nat) (p : Pg), h.pages[k]? = some p → p.kind = 0 → ∀ j, j < 16 → h.words[k * 16 + j]? = some 0
theorem magFault_of {ps : List Pg} {c : Int} {m : List Int} (h1 : m.length ≤ 2) (h2 : ∀ a ∈ m, isSlotAt ps c a = true) : magFault ps c m = 0 := by
  unfold magFault
  rw [if_neg (by omega), if_pos (List.all_eq_true.2 h2)]
theorem magsFault_of {ps : List Pg} : ∀ {ms : List (List Int)} {k : Nat}, (∀ (j : Nat) (m : List Int), ms[j]? = some m → magFault ps (((k + j) % 4 : Nat) : Int) m = 0) → magsFault ps k ms = 0
  | [], _, _ => rfl
  | m :: r, k, h => by
    unfold magsFault
    rw [if_pos (by simpa using h 0 m rfl)]
    exact magsFault_of fun j m hj => by rw [show k + 1 + j = k + (j + 1) by omega]; exact h (j + 1) m (by simpa using hj)
theorem freeZero_iff {ws : List Int} : ∀ {ps : List Pg} {k : Nat}, freeZero ws k ps = true ↔ ∀ (j : Nat) (p : Pg), ps[j]? = some p → p.kind = 0 → frameOf ws (k + j) = List.replicate 16 0
  | [], k => by simp [freeZero]
  | p :: r, k => by
    unfold freeZero
    rw [Bool.and_eq_true, freeZero_iff (ps := r)]
    constructor
    · rintro ⟨h1, h2⟩ j q hq h0
      cases j with
      | zero =>
        simp at hq; subst hq
        simpa [h0] using h1
      | succ j => rw [show k + (j + 1) = k + 1 + j by omega]; exact h2 j q (by simpa using hq) h0
    · intro h
      refine ⟨?_, fun j q hq h0 => ?_⟩
      · by_cases h0 : p.kind = 0
        · have := h 0 p rfl h0
          simp [h0]
          simpa using this
        · simp [h0]
      · rw [show k + 1 + j = k + (j + 1) by omega]; exact h (j + 1) q (by simpa using hq) h0
theorem frame_zero_iff {ws : List Int} {k : Nat} (h : (k + 1) * 16 ≤ ws.length) : frameOf ws k = List.replicate 16 0 ↔ ∀ j, j < 16 → ws[k * 16 + j]? = some 0 := by
  unfold frameOf
  constructor
  · intro e j hj
    have : ((ws.drop (k * 16)).take 16)[j]? = some 0 := by rw [e, List.getElem?_replicate, if_pos hj]
    rw [List.getElem?_take, if_pos hj, List.getElem?_drop] at this
    exact this
  · intro e
    refine List.ext_getElem? fun j => ?_
    rw [List.getElem?_take, List.getElem?_replicate]
    by_cases hj : j < 16
    · rw [if_pos hj, if_pos hj, List.getElem?_drop]; exact e j hj
    · rw [if_neg hj, if_neg hj]
theorem right_of {h : Hp} (hf : heapFault h = 0) : Right h := by
  obtain ⟨h1, h2, h3, h4, h5, h6, h7⟩ := heapFault_ok hf
  refine ⟨h1, h2, h3, fun v hv => by simpa [within] using (List.all_eq_true.1 h4) v hv, fun j m hj => ?_, by simpa [alike] using h6, fun k p hp h0 => ?_⟩
  · have := magsFault_at _ h5 hj
    rw [Nat.zero_add] at this
    exact magFault_ok this
  · have := freeZero_iff.1 h7 k p hp h0
    rw [Nat.zero_add] at this
    have hk := (List.getElem?_eq_some_iff.1 hp).1
    exact (frame_zero_iff (by omega)).1 this
theorem Right.ok {h : Hp} (hr : Right h) : heapFault h = 0 := by
  refine heapFault_of hr.pg hr.len hr.cnt (List.all_eq_true.2 fun v hv => by simpa using hr.val v hv) (magsFault_of fun j m hj => ?_) (by simpa [alike] using hr.nd) (freeZero_iff.2 fun k p hp h0 => ?_)
  · rw [Nat.zero_add]; exact magFault_of (hr.mag j m hj).1 (hr.mag j m hj).2
  · have hk := (List.getElem?_eq_some_iff.1 hp).1
    have hl := hr.len
    rw [Nat.zero_add, frame_zero_iff (by omega)]
    exact hr.zero k p hp h0
theorem right_iff {h : Hp} : heapFault h = 0 ↔ Right h := ⟨right_of, Right.ok⟩
theorem Right.kept_slot {h : Hp} (hr : Right h) {a : Int} (ha : a ∈ h.kept) : ∃ (c : Int) (i s : Nat), heldAt h.pages a = (0, some (.slot i c s)) ∧ (Blk.slot i c s).start = a := by
  obtain ⟨m, hm, ham⟩ := List.mem_flatten.1 ha
  obtain ⟨j, hj, rfl⟩ := List.getElem_of_mem hm
  obtain ⟨i, s, h1, h2⟩ := (isSlotAt_iff hr.pg).1 ((hr.mag j _ (List.getElem?_eq_getElem hj)).2 a ham)
  exact ⟨_, i, s, h1, h2⟩

/-- Pages in which one block more is held. -/
theorem Right.took {h : Hp} (hr : Right h) {qs : List Pg} {b : Blk} (ht : Took h.pages qs b) : Right ⟨qs, h.words, h.mags⟩ where
  pg := ht.ok
  len := by show h.words.length = qs.length * 16; rw [ht.len]; exact hr.len
  cnt := hr.cnt
  val := hr.val
  mag j m hj := by
    obtain ⟨h1, h2⟩ := hr.mag j m hj
    refine ⟨h1, fun a ha => ?_⟩
    obtain ⟨i, s, h3, h4⟩ := (isSlotAt_iff hr.pg).1 (h2 a ha)
    exact (isSlotAt_iff ht.ok).2 ⟨i, s, ht.keep h3, h4⟩
  nd := hr.nd
  zero k p hp h0 := by
    obtain ⟨q, hq, hq0⟩ := ht.free hr.pg hp h0
    exact hr.zero k q hq hq0

def Hp.setMag (h : Hp) (j : Nat) (m : List Int) : Hp := ⟨h.pages, h.words, h.mags.set j m⟩
theorem kept_split {h : Hp} {j : Nat} {m : List Int} (hj : h.mags[j]? = some m) : ∃ A B : List Int, h.kept = A ++ (m ++ B) ∧ ∀ m', (h.setMag j m').kept = A ++ (m' ++ B) := by
  have hlt := (List.getElem?_eq_some_iff.1 hj).1
  have he : h.mags[j] = m := by rw [List.getElem?_eq_getElem hlt] at hj; exact Option.some.inj hj
  refine ⟨(h.mags.take j).flatten, (h.mags.drop (j + 1)).flatten, ?_, fun m' => ?_⟩
  · have : h.mags = h.mags.take j ++ m :: h.mags.drop (j + 1) := by
      conv => lhs; rw [← List.take_append_drop j h.mags]
      rw [← List.getElem_cons_drop hlt, he]
    unfold Hp.kept
    conv => lhs; rw [this]
    rw [List.flatten_append, List.flatten_cons]
  · show (h.mags.set j m').flatten = _
    rw [List.set_eq_take_append_cons_drop, if_pos hlt, List.flatten_append, List.flatten_cons]
theorem Right.pop {h : Hp} (hr : Right h) {j : Nat} {m : List Int} {a : Int} (hj : h.mags[j]? = some (m ++ [a])) : Right (h.setMag j m) ∧ ∀ x, x ∈ (h.setMag j m).kept ↔ x ∈ h.kept ∧ x ≠ a := by
  obtain ⟨A, B, e1, e2⟩ := kept_split hj
  have hnd := hr.nd
  rw [e1] at hnd
  have e2 := e2 m
  have hn : (A ++ (m ++ B)).Nodup := by
    refine List.Nodup.sublist ?_ hnd
    exact List.Sublist.append (List.Sublist.refl _) (List.Sublist.append (List.sublist_append_left _ _) (List.Sublist.refl _))
  have ha : a ∉ A ++ (m ++ B) := by
    intro hx
    have h1 : (A ++ (m ++ [a] ++ B)).count a ≤ 1 := List.nodup_iff_count.1 hnd a
    have h2 : 1 ≤ (A ++ (m ++ B)).count a := List.count_pos_iff.2 hx
    simp only [List.count_append, List.count_cons, List.count_nil] at h1 h2
    simp at h1
    omega
  refine ⟨⟨hr.pg, hr.len, by show magCount (h.mags.set j m).length = true; rw [List.length_set]; exact hr.cnt, hr.val, fun k q hk => ?_, by rw [e2]; exact hn, hr.zero⟩, fun x => ?_⟩
  · by_cases e : j = k
    · subst e
      have hlt := (List.getElem?_eq_some_iff.1 hj).1
      have hk : (h.mags.set j m)[j]? = some q := hk
      rw [List.getElem?_set_self hlt] at hk
      cases hk
      obtain ⟨h1, h2⟩ := hr.mag j _ hj
      refine ⟨by simp at h1; omega, fun x hx => h2 x (by simp [hx])⟩
    · have hk : (h.mags.set j m)[k]? = some q := hk
      rw [List.getElem?_set_ne e] at hk
      exact hr.mag k q hk
  · rw [e2, e1]
    constructor
    · intro hx
      refine ⟨?_, fun e => ha (e ▸ hx)⟩
      simp only [List.mem_append] at hx ⊢
      rcases hx with h | h | h
      · exact .inl h
      · exact .inr (.inl (.inl h))
      · exact .inr (.inr h)
    · rintro ⟨hx, hne⟩
      simp only [List.mem_append, List.mem_singleton] at hx ⊢
      rcases hx with h | (h | h) | h
      · exact .inl h
      · exact .inr (.inl h)
      · exact absurd h hne
      · exact .inr (.inr h)
theorem Right.push {h : Hp} (hr : Right h) {j : Nat} {m : List Int} {a : Int} (hj : h.mags[j]? = some m) (hm : m.length < 2) (hs : isSlotAt h.pages ((j % 4 : Nat) : Int) a = true) (hn : a ∉ h.kept) : Right (h.setMag j (m ++ [a])) ∧ ∀ x, x ∈ (h.setMag j (m ++ [a])).kept ↔ x ∈ h.kept ∨ x = a := by
  obtain ⟨A, B, e1, e2⟩ := kept_split hj
  have e2 := e2 (m ++ [a])
  have hnd := hr.nd
  rw [e1] at hnd hn
  have hn2 : (A ++ (m ++ [a] ++ B)).Nodup := by
    refine List.nodup_iff_count.2 fun x => ?_
    have h1 := List.nodup_iff_count.1 hnd x
    simp only [List.count_append, List.count_cons, List.count_nil] at h1 ⊢
    by_cases e : a = x
    · subst e
      have h0 := List.count_eq_zero.2 hn
      simp only [List.count_append] at h0
      simp; omega
    · have : (a == x) = false := by simpa using e
      simp [this]; omega
  refine ⟨⟨hr.pg, hr.len, by show magCount (h.mags.set j (m ++ [a])).length = true; rw [List.length_set]; exact hr.cnt, hr.val, fun k q hk => ?_, by rw [e2]; exact hn2, hr.zero⟩, fun x => ?_⟩
  · by_cases e : j = k
    · subst e
      have hlt := (List.getElem?_eq_some_iff.1 hj).1
      have hk : (h.mags.set j (m ++ [a]))[j]? = some q := hk
      rw [List.getElem?_set_self hlt] at hk
      cases hk
      obtain ⟨h1, h2⟩ := hr.mag j _ hj
      refine ⟨by simp; omega, fun x hx => ?_⟩
      rcases List.mem_append.1 hx with hx | hx
      · exact h2 x hx
      · rw [List.mem_singleton.1 hx]; exact hs
    · have hk : (h.mags.set j (m ++ [a]))[k]? = some q := hk
      rw [List.getElem?_set_ne e] at hk
      exact hr.mag k q hk
  · rw [e2, e1]
    simp only [List.mem_append, List.mem_singleton]
    constructor
    · rintro (h | (h | h) | h) <;> simp [h]
    · rintro ((h | h | h) | h) <;> simp [h]
/-- Other words, which are zero in free pages. -/
theorem Right.put {h : Hp} (hr : Right h) {ws : List Int} (hl : ws.length = h.words.length) (hv : ∀ v ∈ ws, -1000000000 ≤ v ∧ v ≤ 1000000000) (hz : ∀ (k : Nat) (p : Pg), h.pages[k]? = some p → p.kind = 0 → ∀ j, j < 16 → ws[k * 16 + j]? = some 0) : Right ⟨h.pages, ws, h.mags⟩ :=
  ⟨hr.pg, hl.trans hr.len, hr.cnt, hv, hr.mag, hr.nd, hz⟩
/-- Words that differ only where something is held. -/
theorem Right.put_held {h : Hp} (hr : Right h) {ws : List Int} (hl : ws.length = h.words.length) (hv : ∀ v ∈ ws, -1000000000 ≤ v ∧ v ≤ 1000000000) (hz : ∀ x : Nat, ws[x]? ≠ h.words[x]? → ∃ b, heldAt h.pages x = (0, some b)) : Right ⟨h.pages, ws, h.mags⟩ := by
  refine hr.put hl hv fun k p hp h0 j hj => ?_
  by_cases e : ws[k * 16 + j]? = h.words[k * 16 + j]?
  · rw [e]; exact hr.zero k p hp h0 j hj
  · obtain ⟨b, hb⟩ := hz _ e
    rw [(page_free_iff hr.pg hp).1 h0 j hj] at hb
    simp at hb

def freeAt (ps : List Pg) (k : Nat) : Bool := match ps[k]? with
  | some p => decide (p.kind = 0)
  | none => false
theorem freeAt_iff {ps : List Pg} {k : Nat} : freeAt ps k = true ↔ ∃ p, ps[k]? = some p ∧ p.kind = 0 := by
  unfold freeAt
  cases h : ps[k]? with
  | none => simp
  | some p => simp
theorem sweepW_at : ∀ (ps : List Pg) (ws : List Int) (k : Nat), ws.length = (k + ps.length) * 16 → ∀ x : Nat, (sweepW ws k ps)[x]? = if k ≤ x / 16 ∧ freeAt ps (x / 16 - k) = true then some 0 else ws[x]?
  | [], ws, k, _, x => by simp [sweepW, freeAt]
  | p :: r, ws, k, h, x => by
    simp only [List.length_cons] at h
    have hput : ∀ x : Nat, (putFrame ws k (List.replicate 16 0))[x]? = if x / 16 = k then some 0 else ws[x]? := fun x => by
      unfold putFrame splice
      rw [List.length_replicate]
      try rw [List.append_assoc]
      by_cases h1 : x < k * 16
      · rw [List.getElem?_append_left (by rw [List.length_take]; omega), List.getElem?_take, if_pos h1, if_neg (by omega)]
      · rw [List.getElem?_append_right (by rw [List.length_take]; omega), List.length_take, Nat.min_eq_left (by omega)]
        by_cases h2 : x < k * 16 + 16
        · rw [List.getElem?_append_left (by rw [List.length_replicate]; omega), List.getElem?_replicate, if_pos (by omega), if_pos (by omega)]
        · rw [List.getElem?_append_right (by rw [List.length_replicate]; omega), List.length_replicate, List.getElem?_drop, if_neg (by omega)]
          congr 1; omega
    have hp : (if p.kind = 0 then putFrame ws k (List.replicate 16 0) else ws).length = ws.length := by
      split
      · exact length_putFrame (by rw [List.length_replicate]; omega)
      · rfl
    rw [sweepW, sweepW_at r _ (k + 1) (by rw [hp]; omega)]
    by_cases hx : x / 16 = k
    · rw [if_neg (by rintro ⟨h1, _⟩; omega)]
      have hf : freeAt (p :: r) (x / 16 - k) = decide (p.kind = 0) := by rw [hx, Nat.sub_self]; rfl
      rw [hf]
      by_cases h0 : p.kind = 0
      · rw [if_pos h0, hput, if_pos hx, if_pos ⟨by omega, by simpa using h0⟩]
      · rw [if_neg h0, if_neg (by simp [h0])]
    · have e : (if p.kind = 0 then putFrame ws k (List.replicate 16 0) else ws)[x]? = ws[x]? := by
        split
        · rw [hput, if_neg hx]
        · rfl
      rw [e]
      by_cases hk : k ≤ x / 16
      · have hf : freeAt (p :: r) (x / 16 - k) = freeAt r (x / 16 - (k + 1)) := by
          rw [show x / 16 - k = (x / 16 - (k + 1)) + 1 by omega]; rfl
        rw [hf]
        by_cases hc : freeAt r (x / 16 - (k + 1)) = true
        · rw [if_pos ⟨by omega, hc⟩, if_pos ⟨hk, hc⟩]
        · rw [if_neg (fun h => hc h.2), if_neg (fun h => hc h.2)]
      · rw [if_neg (fun h => hk (by omega)), if_neg (fun h => hk h.1)]
/-- Words swept: zero in free pages, else as they were. -/
theorem sweep_at {ps : List Pg} {ws : List Int} (h : ws.length = ps.length * 16) (x : Nat) : (sweepW ws 0 ps)[x]? = if freeAt ps (x / 16) = true then some 0 else ws[x]? := by
  rw [sweepW_at ps ws 0 (by omega)]
  simp
theorem sweep_val {ps : List Pg} {ws : List Int} (h : ws.length = ps.length * 16) (hv : ∀ v ∈ ws, -1000000000 ≤ v ∧ v ≤ (1000000000 : Int)) : ∀ v ∈ sweepW ws 0 ps, -1000000000 ≤ v ∧ v ≤ (1000000000 : Int) := by
  intro v hm
  obtain ⟨x, hx⟩ := List.getElem?_of_mem hm
  rw [sweep_at h] at hx
  split at hx
  · cases hx; omega
  · exact hv v (List.mem_of_getElem? hx)
/-- A block that is not kept at hand is dropped, and what became free is zero. -/
theorem Right.drop {h : Hp} (hr : Right h) {a : Int} {b : Blk} (hb : heldAt h.pages a = (0, some b)) (he : b.start = a) (hk : a ∉ h.kept) : Right ⟨dropBlk h.pages b, sweepW h.words 0 (dropBlk h.pages b), h.mags⟩ := by
  obtain ⟨d1, _, _, d4⟩ := dropped hr.pg hb he
  have hl : h.words.length = (dropBlk h.pages b).length * 16 := by rw [d4]; exact hr.len
  refine ⟨d1, ?_, hr.cnt, sweep_val hl hr.val, fun j m hj => ?_, hr.nd, fun k p hp h0 j hj => ?_⟩
  · show (sweepW h.words 0 (dropBlk h.pages b)).length = (dropBlk h.pages b).length * 16
    rw [length_sweepW _ _ _ (by omega)]; exact hl
  · obtain ⟨h1, h2⟩ := hr.mag j m hj
    refine ⟨h1, fun x hx => ?_⟩
    obtain ⟨i, s, h3, h4⟩ := (isSlotAt_iff hr.pg).1 (h2 x hx)
    refine (isSlotAt_iff d1).2 ⟨i, s, ?_, h4⟩
    show heldAt (dropBlk h.pages b) x = _
    rw [drop_view hr.pg hb he x, h3, if_neg]
    intro e
    simp only [Prod.mk.injEq, Option.some.injEq, true_and] at e
    refine hk ?_
    rw [← he, ← e, h4]
    exact List.mem_flatten.2 ⟨m, List.mem_of_getElem? hj, hx⟩
  · show (sweepW h.words 0 (dropBlk h.pages b))[k * 16 + j]? = some 0
    rw [sweep_at hl, if_pos (freeAt_iff.2 ⟨p, by rw [show (k * 16 + j) / 16 = k by omega]; exact hp, h0⟩)]
/-- What is held when all these were dropped. -/
theorem dropAll_view : ∀ (xs : List Int) (ps : List Pg), pagesFault ps = 0 → KeptOk ps xs → ∀ x, heldAt (dropAll ps xs) x = if (∃ a ∈ xs, heldAt ps x = heldAt ps a) then (4, none) else heldAt ps x
  | [], ps, _, _, x => by simp [dropAll]
  | a :: r, ps, hv, hk, x => by
    obtain ⟨h1, h2, h3⟩ := KeptOk.step hv hk
    obtain ⟨hn, ha⟩ := hk
    obtain ⟨c, hc⟩ := ha a (by simp)
    obtain ⟨d1, d2, d3, d4, d5⟩ := slot_dropped hv hc
    obtain ⟨i, s, hi, hs⟩ := (isSlotAt_iff hv).1 hc
    have hn' := List.nodup_cons.1 hn
    have hra : ∀ y ∈ r, heldAt ps y ≠ heldAt ps a ∧ heldAt (dropAt ps a.toNat) y = heldAt ps y ∧ ∃ d, heldAt ps y = (0, some d) := fun y hy => by
      obtain ⟨c', hc'⟩ := ha y (by simp [hy])
      obtain ⟨i', s', hi', hs'⟩ := (isSlotAt_iff hv).1 hc'
      have hne : heldAt ps y ≠ heldAt ps a := by
        rw [hi, hi']
        intro e
        simp only [Prod.mk.injEq, Option.some.injEq, true_and] at e
        rw [e, hs] at hs'
        exact hn'.1 (hs' ▸ hy)
      exact ⟨hne, by rw [d4, if_neg hne], _, hi'⟩
    rw [dropAll, dropAll_view r _ h1 h3 x, d4 x]
    by_cases e : heldAt ps x = heldAt ps a
    · simp only [if_pos e]
      refine Eq.trans (b := (4, none)) ?_ (if_pos ⟨a, by simp, e⟩).symm
      split <;> rfl
    · simp only [if_neg e]
      have : (∃ y ∈ r, heldAt ps x = heldAt (dropAt ps a.toNat) y) ↔ ∃ y ∈ a :: r, heldAt ps x = heldAt ps y := by
        constructor
        · rintro ⟨y, hy, hxy⟩
          rw [(hra y hy).2.1] at hxy
          exact ⟨y, by simp [hy], hxy⟩
        · rintro ⟨y, hy, hxy⟩
          rcases List.mem_cons.1 hy with rfl | hy
          · exact absurd hxy e
          · exact ⟨y, hy, by rw [(hra y hy).2.1]; exact hxy⟩
      by_cases hc : ∃ y ∈ r, heldAt ps x = heldAt (dropAt ps a.toNat) y
      · rw [if_pos hc, if_pos (this.1 hc)]
      · rw [if_neg hc, if_neg (fun h => hc (this.2 h))]
/-- What lives at a place: a block that is not kept at hand. -/
def Live (h : Hp) (x : Int) (b : Blk) : Prop := heldAt h.pages x = (0, some b) ∧ b.start ∉ h.kept
theorem kept_drained (h : Hp) : (drainHp h).kept = [] := by
  show (List.replicate h.mags.length ([] : List Int)).flatten = []
  simp
theorem Right.drained_at {h : Hp} (hr : Right h) {x : Int} {b : Blk} : heldAt (drainHp h).pages x = (0, some b) ↔ Live h x b := by
  have hv := dropAll_view h.kept h.pages hr.pg (kept_ok hr.ok) x
  show heldAt (dropAll h.pages h.kept) x = _ ↔ _
  rw [hv]
  unfold Live
  constructor
  · intro e
    split at e
    · simp at e
    · rename_i hn
      refine ⟨e, fun hm => hn ⟨b.start, hm, ?_⟩⟩
      rw [e]
      exact (block_range hr.pg e).2.2.2.2.symm
  · rintro ⟨e, hn⟩
    rw [if_neg, e]
    rintro ⟨a, ha, hxa⟩
    obtain ⟨c, i, s, h1, h2⟩ := hr.kept_slot ha
    rw [e, h1] at hxa
    simp only [Prod.mk.injEq, Option.some.injEq, true_and] at hxa
    exact hn (by rw [hxa, h2]; exact ha)
theorem Right.drain {h : Hp} (hr : Right h) : Right (drainHp h) := by
  have hk := kept_ok hr.ok
  have hp : pagesFault (drainHp h).pages = 0 := keptAll _ _ hr.pg hk
  have hpl : (drainHp h).pages.length = h.pages.length := length_dropAll _ _
  have hl : h.words.length = (dropAll h.pages h.kept).length * 16 := by rw [length_dropAll]; exact hr.len
  refine ⟨hp, ?_, ?_, sweep_val hl hr.val, fun j m hj => ?_, by rw [kept_drained]; exact List.nodup_nil, fun k p hp h0 j hj => ?_⟩
  · show (sweepW h.words 0 (dropAll h.pages h.kept)).length = (dropAll h.pages h.kept).length * 16
    rw [length_sweepW _ _ _ (by omega)]; exact hl
  · show magCount (List.replicate h.mags.length ([] : List Int)).length = true
    rw [List.length_replicate]; exact hr.cnt
  · have hj : (List.replicate h.mags.length ([] : List Int))[j]? = some m := hj
    rw [List.getElem?_replicate] at hj
    split at hj
    · cases hj; simp
    · simp at hj
  · show (sweepW h.words 0 (dropAll h.pages h.kept))[k * 16 + j]? = some 0
    rw [sweep_at hl, if_pos (freeAt_iff.2 ⟨p, by rw [show (k * 16 + j) / 16 = k by omega]; exact hp, h0⟩)]
end Go.Proofs.Ythpamclljdcjpaa

/- Chapter 6: what its functions answer, in plain words. -/
namespace Go.Proofs.Ythpamclljdcjpaa
open Go.RowKit

/-- What may be done, in plain words. -/
structure Opn where
  kind : Int
  at_ : Int
  n : Int
  value : Int
def Opn.needs (o : Opn) (a n v : Bool) : Bool := (a || decide (o.at_ = 0)) && (n || decide (o.n = 0)) && (v || decide (o.value = 0))
def Opn.form (o : Opn) : Bool :=
  if o.kind = 1 then o.needs false true false
  else if o.kind = 2 then o.needs false true false
  else if o.kind = 3 then o.needs true false false
  else if o.kind = 4 then o.needs true true false
  else if o.kind = 5 then o.needs true false false
  else if o.kind = 6 then o.needs true false true
  else if o.kind = 7 then o.needs true false false
  else if o.kind = 8 then o.needs false false false
  else false
def Opn.sized (o : Opn) : Bool := decide (o.kind = 1) || decide (o.kind = 2) || decide (o.kind = 4)
def opFault (o : Opn) : Int := if o.form = true then (if o.sized = true ∧ within 1 64 [o.n] = false ∨ within (-1000000000) 1000000000 [o.value] = false then 3 else 0) else 1
theorem opFault_ok {o : Opn} (h : opFault o = 0) : (1 ≤ o.kind ∧ o.kind ≤ 8) ∧ (o.kind = 1 ∨ o.kind = 2 ∨ o.kind = 4 → 1 ≤ o.n ∧ o.n ≤ 64) ∧ -1000000000 ≤ o.value ∧ o.value ≤ 1000000000 := by
  unfold opFault at h
  by_cases hf : o.form = true
  · rw [if_pos hf] at h
    by_cases hs : o.sized = true ∧ within 1 64 [o.n] = false ∨ within (-1000000000) 1000000000 [o.value] = false
    · rw [if_pos hs] at h; omega
    · have hk : 1 ≤ o.kind ∧ o.kind ≤ 8 := by
        unfold Opn.form at hf
        repeat' (split at hf)
        all_goals first | omega | (simp at hf)
      refine ⟨hk, fun hz => ?_, ?_⟩
      · refine within_range ?_
        cases hw : within 1 64 [o.n] with
        | true => rfl
        | false => exact absurd (.inl ⟨by unfold Opn.sized; rcases hz with e | e | e <;> simp [e], hw⟩) hs
      · refine within_range ?_
        cases hw : within (-1000000000) 1000000000 [o.value] with
        | true => rfl
        | false => exact absurd (.inr hw) hs
  · rw [if_neg hf] at h; omega

/-- The number of a processor's magazine of a class; that magazine. -/
def magNo (cpu c : Int) : Nat := (4 * cpu + c).toNat
def Hp.magOf (h : Hp) (cpu c : Int) : List Int := h.mags.getD (magNo cpu c) []
/-- A place for so many words, without draining. -/
def onceHp (h : Hp) (cpu n : Int) : Option (Int × Hp) :=
  if 8 < n then (match runFrom ((n + 15) / 16).toNat 0 h.pages with
    | some i => some ((i : Int) * 16, ⟨putRun h.pages i ((n + 15) / 16).toNat, h.words, h.mags⟩)
    | none => none)
  else match (h.magOf cpu (classW n)).getLast? with
    | some a => some (a, h.setMag (magNo cpu (classW n)) (h.magOf cpu (classW n)).dropLast)
    | none => match slotFor h.pages (classW n) with
      | some (i, s) => some ((i : Int) * 16 + s * sizeW (classW n), ⟨putSlot h.pages (classW n) i s, h.words, h.mags⟩)
      | none => none
def placeHp (h : Hp) (cpu n : Int) : Option (Int × Hp) := match onceHp h cpu n with
  | some x => some x
  | none => onceHp (drainHp h) cpu n
/-- What is held at a place that holds something. -/
def blkAt (ps : List Pg) (a : Int) : Blk := match heldAt ps a with
  | (_, some b) => b
  | (_, none) => .run 0 0
def dropHp (h : Hp) (b : Blk) : Hp := ⟨dropBlk h.pages b, sweepW h.words 0 (dropBlk h.pages b), h.mags⟩
def freeHp (h : Hp) (cpu : Int) : Blk → Hp
  | .slot i c s => if (h.magOf cpu c).length < 2 then h.setMag (magNo cpu c) (h.magOf cpu c ++ [(Blk.slot i c s).start]) else dropHp h (.slot i c s)
  | .run i n => dropHp h (.run i n)
/-- Words with these from a place on. -/
def Hp.putWords (h : Hp) (a : Int) (xs : List Int) : Hp := ⟨h.pages, splice h.words a.toNat xs, h.mags⟩
def wordsFrom (ws : List Int) (a n : Int) : List Int := (ws.drop a.toNat).take n.toNat
/-- A reply is a code and a value; with it the heap then. -/
def giveHp (h : Hp) (cpu n : Int) (clear : Bool) : (Int × Int) × Hp := match placeHp h cpu n with
  | some (a, g) => ((0, a), if clear = true then g.putWords a (List.replicate (blkAt g.pages a).size.toNat 0) else g)
  | none => ((7, 0), h)
def growHp (h : Hp) (cpu a n : Int) : (Int × Int) × Hp :=
  if n ≤ (blkAt h.pages a).size then ((0, a), h) else match placeHp h cpu n with
    | some (b, g) => ((0, b), freeHp (g.putWords b (wordsFrom g.words a (blkAt h.pages a).size)) cpu (blkAt h.pages a))
    | none => ((7, 0), h)
def atHp (h : Hp) (cpu : Int) (o : Opn) (s : Int) : (Int × Int) × Hp :=
  if o.kind = 5 then ((0, h.words.getD o.at_.toNat 0), h)
  else if o.kind = 6 then ((0, 0), ⟨h.pages, h.words.set o.at_.toNat o.value, h.mags⟩)
  else if s = o.at_ then
    (if o.kind = 3 then ((0, 0), freeHp h cpu (blkAt h.pages o.at_))
    else if o.kind = 7 then ((0, (blkAt h.pages o.at_).size), h)
    else growHp h cpu o.at_ o.n)
  else ((1, 0), h)
def rightHp (h : Hp) (cpu : Int) (o : Opn) : (Int × Int) × Hp :=
  if o.kind = 1 then giveHp h cpu o.n false
  else if o.kind = 2 then giveHp h cpu o.n true
  else if o.kind = 8 then ((0, (usedIn h.pages : Int)), h)
  else if (liveIn h o.at_).1 = 0 then atHp h cpu o (liveIn h o.at_).2 else (((liveIn h o.at_).1, 0), h)
def doHp (h : Hp) (cpu : Int) (o : Opn) : (Int × Int) × Hp := if opFault o = 0 then rightHp h cpu o else ((opFault o, 0), h)
def isCpu (h : Hp) (cpu : Int) : Bool := within 0 ((h.mags.length / 4 : Nat) - 1 : Int) [cpu]
def doHeap (h : Hp) (cpu : Int) (o : Opn) : Int × (Int × Int) × Hp := if heapFault h = 0 then (if isCpu h cpu = true then (0, doHp h cpu o) else (3, (0, 0), Hp.zero)) else (heapFault h, (0, 0), Hp.zero)
/-- Requests one behind the other: a code, the replies, the heap at the end. -/
def runFromHp (h : Hp) : List (Int × Opn) → Int × List (Int × Int) × Hp
  | [] => (0, [], h)
  | (cpu, o) :: r => if isCpu h cpu = true then (match runFromHp (doHp h cpu o).2 r with
      | (c, rs, g) => if c = 0 then (0, (doHp h cpu o).1 :: rs, g) else (c, [], Hp.zero))
    else (3, [], Hp.zero)
def runHeap (h : Hp) (list : List (Int × Opn)) : Int × List (Int × Int) × Hp :=
  if heapFault h = 0 then (if 300 < list.length then (2, [], Hp.zero) else runFromHp h list) else (heapFault h, [], Hp.zero)
def isPlaced (h : Hp) (n : Int) : Bool := decide (heapFault h = 0) && within 1 64 [n] && (placeHp h 0 n).isSome
end Go.Proofs.Ythpamclljdcjpaa

/- An op that came in, opened to what is known of it. -/
namespace Go.Proofs.Ythpamclljdcjpaa
open Go.Joins Go.ChangeShapes Go.WideShapes Go.RowKit Go.Deep
set_option linter.unusedVariables false

section
variable {H : Type} {enc : TypeId × Value → H} {w : World} {base : Nat} {spare : Nat → Bool} {held : Bool}
set_option maxRecDepth 100000 in
/-- An op that came in. -/
theorem open_op {r : Reach} {b0 : Nat} {v : Value} {d : DataW H} {p : List MemPlace} (hv : Value.okWide Try.prog w r b0 23 v) (h : DataW.Trod enc Try.prog w base spare held 23 v d p) :
    ∃ q : Opn, v = .agg #[.int .i64 q.kind, .int .i64 q.at_, .int .i64 q.n, .int .i64 q.value] := by
  obtain ⟨cs, rfl, hsz⟩ := okWide_struct Try.underlying23 hv
  have h4 : Try.prog.cellsOf 23 = 4 := (by kernel_rfl)
  rw [h4] at hsz
  obtain ⟨fuel, hf⟩ := h
  obtain ⟨l⟩ := cs
  match l, hsz with
  | [c0, c1, c2, c3], _ =>
    obtain ⟨n, y0, y1, y2, y3, t0, t1, t2, t3⟩ := four_fields Try.underlying23 (by kernel_rfl) (by simpa [Value.cells] using hf)
    obtain ⟨k0, e0, _⟩ := DataW.trod_int Try.underlying2 t0
    obtain ⟨k1, e1, _⟩ := DataW.trod_int Try.underlying2 t1
    obtain ⟨k2, e2, _⟩ := DataW.trod_int Try.underlying2 t2
    obtain ⟨k3, e3, _⟩ := DataW.trod_int Try.underlying2 t3
    simp at e0 e1 e2 e3
    subst e0 e1 e2 e3
    exact ⟨⟨k0, k1, k2, k3⟩, rfl⟩
end
end Go.Proofs.Ythpamclljdcjpaa

/- A list of replies that came in. -/
namespace Go.Proofs.Ythpamclljdcjpaa
open Go.Joins Go.ChangeShapes Go.WideShapes Go.RowKit Go.Deep
set_option linter.unusedVariables false

section
variable {H : Type} {enc : TypeId × Value → H} {P : Program} {w : World} {base : Nat} {spare : Nat → Bool} {held : Bool}
theorem two_fields {t : TypeId} {f0 f1 : Field} {fuel : Nat} {c0 c1 : Value} {x : DataW H × List MemPlace} (hs : P.underlying t = some (.struct #[f0, f1])) (hone : oneCellFields P #[f0, f1] = true)
    (h : DataW.trod enc P w base spare held fuel t [c0, c1] = some x) :
    ∃ (n : Nat) (y0 y1 : DataW H × List MemPlace), DataW.trod enc P w base spare held n f0.type [c0] = some y0 ∧ DataW.trod enc P w base spare held n f1.type [c1] = some y1 := by
  obtain ⟨y0, y1, n, _, _, h0, h1⟩ := trod_struct2 hs h
  obtain ⟨o0, k0⟩ := hone_of hone 0 f0 rfl
  obtain ⟨o1, k1⟩ := hone_of hone 1 f1 rfl
  exact ⟨n, y0, y1, by simpa [o0, k0] using h0, by simpa [o1, k1] using h1⟩
end
section
variable {H : Type} {enc : TypeId × Value → H} {w : World} {base : Nat} {spare : Nat → Bool} {held : Bool}
theorem rep_of_trod {fuel : Nat} {cs : List Value} {x : DataW H × List MemPlace} (hl : cs.length = 2) (h : DataW.trod enc Try.prog w base spare held fuel 45 cs = some x) : ∃ d, KRep.rd w (fun _ => True) cs d := by
  match cs, hl with
  | [c0, c1], _ =>
    obtain ⟨n, y0, y1, t0, t1⟩ := two_fields Try.underlying45 (by kernel_rfl) h
    obtain ⟨k, h0, _⟩ := DataW.trod_int Try.underlying2 t0
    obtain ⟨c, h1, _⟩ := DataW.trod_int Try.underlying2 t1
    simp at h0 h1
    subst h0 h1
    exact ⟨(k, c), [.int .i64 k], [.int .i64 c], rfl, rfl, rfl⟩
set_option maxRecDepth 100000 in
theorem open_replies {r : Reach} {b0 : Nat} {v : Value} {d : DataW H} {p : List MemPlace} (hv : Value.okWide Try.prog w r b0 28 v) (h : DataW.Trod enc Try.prog w base spare held 28 v d p) :
    ∃ a n c ps, v = .slice a n c ∧ Lst KRep w (fun _ => True) a n ps ∧ n ≤ 9223372036854775807 := by
  obtain ⟨a0, l0, c0, rfl⟩ := Go.WideShapes.okWide_slice Try.underlying28 hv
  obtain ⟨fuel, hf⟩ := h
  obtain ⟨a, n, c, ps, hcs, hn, hc, hL⟩ := lst_of_trod (K := KRep) Try.underlying28 (by kernel_rfl) (by rw [KRep_sz]; omega) (fun _ _ _ hl h => rep_of_trod hl h) hf
  simp [Value.cells] at hcs
  obtain ⟨rfl, rfl, rfl⟩ := hcs
  exact ⟨a0, l0, c0, ps, rfl, hL, Nat.le_trans hn (Nat.le_trans hc maxLen_le)⟩
end
end Go.Proofs.Ythpamclljdcjpaa
