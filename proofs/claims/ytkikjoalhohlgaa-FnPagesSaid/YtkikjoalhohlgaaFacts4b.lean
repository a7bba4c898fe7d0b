/- Chapter 4's law in plain words: slots and runs that are taken and dropped again. -/
import Derived.Test.YtkikjoalhohlgaaFacts4
namespace Go.Proofs.Ytkikjoalhohlgaa
open Go.RowKit

theorem set_same {α : Type} {xs : List α} {i : Nat} {x : α} (h : xs[i]? = some x) : xs.set i x = xs := by
  refine List.ext_getElem? fun k => ?_
  by_cases e : i = k
  · subst e; rw [List.getElem?_set_self (List.getElem?_eq_some_iff.1 h).1, h]
  · rw [List.getElem?_set_ne e]
theorem anyB_set {us : List Bool} {s : Nat} (h : s < us.length) : anyB (us.set s true) = true := anyB_iff.2 ⟨s, by rw [List.getElem?_set_self h]⟩
theorem anyB_rep (n : Nat) : anyB (List.replicate n false) = false := by
  cases h : anyB (List.replicate n false) with
  | false => rfl
  | true =>
    obtain ⟨s, hs⟩ := anyB_iff.1 h
    rw [List.getElem?_replicate] at hs
    split at hs <;> simp at hs
theorem fault_slab {c : Int} {us : List Bool} (h0 : 0 ≤ c) (h3 : c ≤ 3) (hl : (us.length : Int) = 16 / sizeW c) (ha : anyB us = true) : pageFault ⟨1, c, us, 0⟩ = 0 := by
  unfold pageFault
  simp only [if_true]
  rw [if_pos (within_yes1 h0 h3), if_pos hl, if_pos ha]
/-- A slot that was taken. -/
theorem slot_taken {ps : List Pg} (hv : pagesFault ps = 0) {c : Int} (h0 : 0 ≤ c) (h3 : c ≤ 3) {i s : Nat} (hf : slotFor ps c = some (i, s)) :
    ∃ a : Nat, (i : Int) * 16 + s * sizeW c = a ∧ (blockStart ps a).1 = 4 ∧ pagesFault (putSlot ps c i s) = 0 ∧ heldAt (putSlot ps c i s) a = (0, some (.slot i c s)) ∧ Blk.start (.slot i c s) = (a : Int) ∧ dropBlk (putSlot ps c i s) (.slot i c s) = ps := by
  obtain ⟨p, hp, hx⟩ := slotFor_some hf
  have hlt := (List.getElem?_eq_some_iff.1 hp).1
  have hok := ok_page hv hp
  have hsz := slots_sixteen h0 h3
  -- the slot, the page's place
  have hslot : (s : Int) < 16 / sizeW c := by
    rcases hx with ⟨k1, kc, hu⟩ | ⟨_, rfl⟩
    · have hul : s < p.used.length := (List.getElem?_eq_some_iff.1 hu).1
      rcases pageFault_ok hok with h | h | h
      · rw [← kc]; omega
      · omega
      · omega
    · rcases (show c = 0 ∨ c = 1 ∨ c = 2 ∨ c = 3 by omega) with e | e | e | e <;> rw [e] <;> decide
  have key : ∃ a : Nat, (i : Int) * 16 + s * sizeW c = a ∧ a / 16 = i ∧ a % 16 / (sizeW c).toNat = s := by
    refine ⟨i * 16 + s * (sizeW c).toNat, ?_⟩
    rcases (show c = 0 ∨ c = 1 ∨ c = 2 ∨ c = 3 by omega) with e | e | e | e <;> rw [e] at hslot ⊢ <;> simp [sizeW] at hslot ⊢ <;> omega
  obtain ⟨a, ha, hai, has⟩ := key
  have hput : putSlot ps c i s = ps.set i (useSlot p c s) := by unfold putSlot; rw [hp]
  have hstart : Blk.start (.slot i c s) = (a : Int) := by unfold Blk.start; omega
  have hus : useSlot p c s = ⟨1, c, (useSlot p c s).used, 0⟩ ∧ ((useSlot p c s).used.length : Int) = 16 / sizeW c ∧ (useSlot p c s).used[s]? = some true := by
    unfold useSlot
    rcases hx with ⟨k1, kc, hu⟩ | ⟨k0, rfl⟩
    · rcases pageFault_ok hok with h | h | h
      · rw [if_neg (by omega)]
        have hul : s < p.used.length := (List.getElem?_eq_some_iff.1 hu).1
        exact ⟨by rw [k1, kc, h.2.2.2.1], by simp [h.2.2.2.2.1, kc], by simp [hul]⟩
      · omega
      · omega
    · rw [if_pos k0]
      have : 0 < (16 / sizeW c).toNat := by omega
      exact ⟨rfl, by simpa using hsz.1, by simp [this]⟩
  obtain ⟨u1, u2, u3⟩ := hus
  have hul : s < (useSlot p c s).used.length := (List.getElem?_eq_some_iff.1 u3).1
  have hv' : pagesFault (putSlot ps c i s) = 0 := by
    rw [hput]
    refine pages_ok_set hv hp ?_ ?_ (by rw [u1]; exact .inr rfl)
    · rcases hx with ⟨k1, _⟩ | ⟨k0, _⟩
      · exact .inr k1
      · exact .inl k0
    · rw [u1]; exact fault_slab h0 h3 u2 (anyB_iff.2 ⟨s, u3⟩)
  refine ⟨a, ha, ?_, hv', ?_, hstart, ?_⟩
  · unfold blockStart
    rcases hx with ⟨k1, kc, hu⟩ | ⟨k0, _⟩
    · rw [held_slot hv (a := a) (by omega) (by rw [hai]; exact hp) k1, kc, has, if_neg (by rw [hu]; simp)]
    · rw [held_free hv (a := a) (by omega) (by rw [hai]; exact hp) k0]
  · have hp' : (putSlot ps c i s)[a / 16]? = some (useSlot p c s) := by rw [hput, hai, List.getElem?_set_self hlt]
    have hk1 : (useSlot p c s).kind = 1 := by rw [u1]
    have hc1 : (useSlot p c s).cls = c := by rw [u1]
    rw [held_slot hv' (a := a) (by rw [hput, List.length_set]; omega) hp' hk1, hc1, has, if_pos u3, hai]
  · have hp' : (putSlot ps c i s)[i]? = some (useSlot p c s) := by rw [hput, List.getElem?_set_self hlt]
    unfold dropBlk
    simp only [hp']
    rw [hput, List.set_set]
    have hfree : freeSlot (useSlot p c s) s = p := by
      unfold freeSlot
      rcases hx with ⟨k1, kc, hu⟩ | ⟨k0, rfl⟩
      · have e1 : (useSlot p c s).used.set s false = p.used := by
          unfold useSlot
          rw [if_neg (by omega)]
          simp only [List.set_set]
          exact set_same hu
        rw [e1]
        rcases pageFault_ok hok with h | h | h
        · rw [if_pos h.2.2.2.2.2]
          unfold useSlot
          rw [if_neg (by omega)]
        · omega
        · omega
      · have e1 : (useSlot p c 0).used.set 0 false = List.replicate (16 / sizeW c).toNat false := by
          unfold useSlot
          rw [if_pos k0]
          simp only [List.set_set]
          exact set_same (by rw [List.getElem?_replicate, if_pos (by omega)])
        rw [e1, if_neg (by rw [anyB_rep]; simp)]
        exact (free_of hok k0).symm
    rw [hfree]
    exact set_same hp

theorem putRun_at {ps : List Pg} {i n j : Nat} (h : i + n ≤ ps.length) (hj : j < ps.length) : (putRun ps i n)[j]? = if j = i then some (runPg n) else if i ≤ j ∧ j < i + n then some restPg else ps[j]? := by
  unfold putRun
  by_cases e : j = i
  · subst e
    rw [if_pos rfl, List.getElem?_set_self (by rw [length_setMany]; exact hj)]
  · rw [if_neg e, List.getElem?_set_ne (by omega), setMany_at _ _ _ _ _ hj]
theorem freeN_at : ∀ {n : Nat} {ps : List Pg}, freeN n ps = true → ∀ j p, j < n → ps[j]? = some p → p.kind = 0
  | 0, _, _, j, p, hj, _ => by omega
  | n + 1, [], h, _, _, _, _ => by simp [freeN] at h
  | n + 1, q :: r, h, j, p, hj, hp => by
    rw [freeN] at h
    simp only [Bool.and_eq_true, decide_eq_true_eq] at h
    cases j with
    | zero => simp at hp; subst hp; exact h.1
    | succ j => exact freeN_at h.2 j p (by omega) (by simpa using hp)
/-- A run that was taken. -/
theorem run_taken {ps : List Pg} (hv : pagesFault ps = 0) {i n : Nat} (h1 : 1 ≤ n) (h4 : n ≤ 4) (hf : freeN n (ps.drop i) = true) (hl : i + n ≤ ps.length) :
    pagesFault (putRun ps i n) = 0 ∧ (putRun ps i n)[i]? = some (runPg n) ∧ (∀ j : Nat, j < n * 16 → heldAt (putRun ps i n) ((i * 16 + j : Nat) : Int) = (0, some (.run i n))) ∧ dropBlk (putRun ps i n) (.run i n) = ps := by
  have hlen : (putRun ps i n).length = ps.length := length_putRun ps i n
  have hfree : ∀ j p, i ≤ j → j < i + n → ps[j]? = some p → p.kind = 0 := fun j p hj hj2 hp => by
    refine freeN_at hf (j - i) p (by omega) ?_
    rw [List.getElem?_drop, show i + (j - i) = j by omega]; exact hp
  have hleft : ∀ k, i ≤ k → k ≤ i + n → leftN ps k = 0 := fun k hk hk2 => by
    by_cases e : k = i + n
    · subst e
      have hx := List.getElem?_eq_getElem (l := ps) (i := i + n - 1) (by omega)
      have h0 := hfree _ _ (by omega) (by omega) hx
      have hs := leftN_succ hx
      rw [show i + n - 1 + 1 = i + n by omega] at hs
      rw [hs]; unfold nextLeft; rw [if_neg (by omega), if_neg (by omega)]
      exact leftN_none hv hx (by omega)
    · have hx := List.getElem?_eq_getElem (l := ps) (i := k) (by omega)
      exact leftN_none hv hx (by have := hfree _ _ hk (by omega) hx; omega)
  have hat := fun j hj => putRun_at (ps := ps) (i := i) (n := n) (j := j) hl hj
  have hv' : pagesFault (putRun ps i n) = 0 := by
    refine pages_ok (by rw [hlen]; exact (pagesFault_ok hv).1) (fun k q hq => ?_) (fun k => if i < k ∧ k ≤ i + n then (n : Int) - (k - i) else leftN ps k) ?_ (fun k q hq => ?_) (fun k q hq => ?_) ?_
    · have hk := (List.getElem?_eq_some_iff.1 hq).1
      rw [hat k (by omega)] at hq
      split at hq
      · injection hq with hq; subst hq
        unfold pageFault runPg
        simp only
        rw [if_neg (by omega), if_pos (by trivial), if_pos (within_yes1 (by omega) (by omega)), if_pos ⟨trivial, trivial⟩]
      · split at hq
        · injection hq with hq; subst hq; decide
        · exact ok_page hv hq
    · rw [if_neg (by omega), leftN_zero]
    · have hk := (List.getElem?_eq_some_iff.1 hq).1
      rw [hat k (by omega)] at hq
      split at hq
      · injection hq with hq; subst hq
        rename_i e
        subst e
        rw [if_pos (by omega)]
        unfold nextLeft runPg
        simp only
        rw [if_pos trivial]; omega
      · split at hq
        · injection hq with hq; subst hq
          rw [if_pos (by omega), if_pos (by omega)]
          unfold nextLeft restPg
          simp only
          rw [if_neg (by omega), if_pos trivial]; omega
        · by_cases e : k = i + n
          · subst e
            rw [if_neg (by omega), if_pos (by omega), leftN_succ hq, hleft _ (by omega) (Nat.le_refl _)]
            congr 1; omega
          · rw [if_neg (by omega), if_neg (by omega), leftN_succ hq]
    · have hk := (List.getElem?_eq_some_iff.1 hq).1
      rw [hat k (by omega)] at hq
      split at hq
      · injection hq with hq; subst hq
        rename_i e
        subst e
        rw [if_neg (by omega), hleft _ (by omega) (by omega)]
        unfold runPg; simp
      · split at hq
        · injection hq with hq; subst hq
          rw [if_pos (by omega)]
          exact ⟨fun _ => by omega, fun _ => rfl⟩
        · by_cases e : k = i + n
          · subst e
            rw [if_pos (by omega)]
            have h5 := ok_rest hv hq
            rw [hleft _ (by omega) (Nat.le_refl _)] at h5
            constructor
            · intro h; have := h5.1 h; omega
            · intro h; omega
          · rw [if_neg (by omega)]; exact ok_rest hv hq
    · rw [hlen]
      by_cases e : ps.length = i + n
      · rw [if_pos (by omega)]; omega
      · rw [if_neg (by omega)]; exact ok_end hv
  have hhead : (putRun ps i n)[i]? = some (runPg n) := by rw [hat i (by omega), if_pos rfl]
  refine ⟨hv', hhead, fun j hj => ?_, ?_⟩
  · exact held_in_run hv' hhead rfl (by omega) (by show (_ : Int) < (i + (n : Int)) * 16; omega)
  · unfold dropBlk
    simp only [Int.toNat_natCast]
    refine List.ext_getElem? fun k => ?_
    by_cases hk : k < ps.length
    · rw [setMany_at _ _ _ _ _ (by rw [hlen]; exact hk)]
      have hx := List.getElem?_eq_getElem (l := ps) (i := k) hk
      split
      · rw [hx, free_of (ok_page hv hx) (hfree k _ (by omega) (by omega) hx)]
      · rw [hat k hk, if_neg (by omega), if_neg (by assumption)]
    · rw [List.getElem?_eq_none (by rw [length_setMany, hlen]; omega), List.getElem?_eq_none (by omega)]
/-- What was dropped. -/
theorem dropped {ps : List Pg} (hv : pagesFault ps = 0) {a : Int} {b : Blk} (h : heldAt ps a = (0, some b)) (he : b.start = a) :
    pagesFault (dropBlk ps b) = 0 ∧ heldAt (dropBlk ps b) a = (4, none) ∧ usedIn (dropBlk ps b) ≤ usedIn ps ∧ (dropBlk ps b).length = ps.length := by
  obtain ⟨_, h0, h1, hb⟩ := held_info hv h
  obtain ⟨a, rfl⟩ := Int.eq_ofNat_of_zero_le h0
  rcases hb with ⟨i, k, s, p, rfl, hp, k1, kc, c0, c3, hu, hul, hr, hi, hs⟩ | ⟨i, p, rfl, hp, k2, hi⟩
  · have hlt := (List.getElem?_eq_some_iff.1 hp).1
    rw [Int.toNat_natCast] at hi hs
    have hd : dropBlk ps (.slot i k s) = ps.set i (freeSlot p s) := by unfold dropBlk; simp only [hp]
    rw [hd]
    have hfs : freeSlot p s = Pg.free ∨ (freeSlot p s = ⟨p.kind, p.cls, p.used.set s false, p.run⟩ ∧ anyB (p.used.set s false) = true) := by
      unfold freeSlot
      split
      · right; exact ⟨rfl, by assumption⟩
      · left; rfl
    have hok : pageFault (freeSlot p s) = 0 ∧ ((freeSlot p s).kind = 0 ∨ (freeSlot p s).kind = 1) := by
      rcases hfs with e | ⟨e, ha⟩
      · rw [e]; exact ⟨by decide, .inl rfl⟩
      · rw [e]
        refine ⟨?_, .inr k1⟩
        rw [k1, hr]
        exact fault_slab (by omega) (by omega) (by rw [List.length_set, kc]; exact hul) ha
    have hv' := pages_ok_set hv hp (.inr k1) hok.1 hok.2
    refine ⟨hv', ?_, usedIn_le (List.length_set) (fun j q q' hq hq' hne => ?_), List.length_set⟩
    · have hx : (ps.set i (freeSlot p s))[a / 16]? = some (freeSlot p s) := by rw [← hi, List.getElem?_set_self hlt]
      rcases hfs with e | ⟨e, ha⟩
      · exact held_free hv' (a := a) (by rw [List.length_set]; omega) hx (by rw [e]; rfl)
      · rw [held_slot hv' (a := a) (by rw [List.length_set]; omega) hx (by rw [e]; exact k1), if_neg]
        rw [e]
        simp only
        rw [kc, ← hs, List.getElem?_set_self (List.getElem?_eq_some_iff.1 hu).1]; simp
    · by_cases e : j = i
      · subst e; rw [hp] at hq; injection hq with hq; subst hq; omega
      · rw [List.getElem?_set_ne (by omega), hq] at hq'; injection hq' with hq'; subst hq'; exact hne
  · have hr := ok_run hv hp k2
    have hf := run_fits hv hp k2
    have hlt := (List.getElem?_eq_some_iff.1 hp).1
    obtain ⟨m, hm⟩ : ∃ m : Nat, p.run = m := ⟨p.run.toNat, by omega⟩
    have hd : dropBlk ps (.run i p.run) = setMany ps i Pg.free m := by unfold dropBlk; simp only [hm, Int.toNat_natCast]
    have he' : a = i * 16 := by have : (i : Int) * 16 = a := he; omega
    rw [hd]
    have hlen : (setMany ps i Pg.free m).length = ps.length := length_setMany _ _ _ _
    have hat := fun j hj => setMany_at ps i Pg.free m j hj
    have hleft : leftN ps (i + m) = 0 := by
      have := (run_whole hv hp k2 (m - 1) (by omega)).2.1
      rw [show i + 1 + (m - 1) = i + m by omega] at this
      rw [this]; omega
    have hl0 : leftN ps i = 0 := leftN_none hv hp (by omega)
    have hv' : pagesFault (setMany ps i Pg.free m) = 0 := by
      refine pages_ok (by rw [hlen]; exact (pagesFault_ok hv).1) (fun k q hq => ?_) (fun k => if i ≤ k ∧ k ≤ i + m then 0 else leftN ps k) ?_ (fun k q hq => ?_) (fun k q hq => ?_) ?_
      · have hk := (List.getElem?_eq_some_iff.1 hq).1
        rw [hat k (by omega)] at hq
        split at hq
        · injection hq with hq; subst hq; decide
        · exact ok_page hv hq
      · split
        · rfl
        · exact leftN_zero ps
      · have hk := (List.getElem?_eq_some_iff.1 hq).1
        rw [hat k (by omega)] at hq
        split at hq
        · injection hq with hq; subst hq
          rw [if_pos (by omega), if_pos (by omega)]; rfl
        · have hs := leftN_succ hq
          by_cases e : k = i + m
          · subst e
            rw [if_neg (by omega), if_pos (by omega), hs, hleft]
          · by_cases e2 : k + 1 = i
            · rw [if_pos (by omega), if_neg (by omega), ← hs, e2, hl0]
            · rw [if_neg (by omega), if_neg (by omega)]; exact hs
      · have hk := (List.getElem?_eq_some_iff.1 hq).1
        rw [hat k (by omega)] at hq
        split at hq
        · injection hq with hq; subst hq
          rw [if_pos (by omega)]; unfold Pg.free; simp
        · have h5 := ok_rest hv hq
          by_cases e : k = i + m
          · subst e
            rw [if_pos (by omega)]
            rw [hleft] at h5; exact h5
          · rw [if_neg (by omega)]; exact h5
      · rw [hlen]
        split
        · rfl
        · exact ok_end hv
    refine ⟨hv', ?_, usedIn_le hlen (fun j q q' hq hq' hne => ?_), hlen⟩
    · refine held_free hv' (a := a) (p := Pg.free) (by rw [hlen]; omega) ?_ rfl
      rw [hat (a / 16) (by omega), if_pos (by omega)]
    · have hj := (List.getElem?_eq_some_iff.1 hq).1
      rw [hat j hj] at hq'
      split at hq'
      · injection hq' with hq'; subst hq'; exact absurd rfl hne
      · rw [hq] at hq'; injection hq' with hq'; subst hq'; exact hne
end Go.Proofs.Ytkikjoalhohlgaa
