/- Chapter 4: what its functions answer, in plain words. -/
import Derived.Test.YtkikjoalhohlgaaPage
import Derived.Test.YtkikjoalhohlgaaThree
namespace Go.Proofs.Ytkikjoalhohlgaa
open Go.RowKit

/-- One of these is used; the first place of a truth value, or -1. -/
def anyB : List Bool → Bool
  | [] => false
  | b :: r => b || anyB r
def idxB (v : Bool) : List Bool → Nat → Int
  | [], _ => -1
  | x :: r, k => if x = v then k else idxB v r (k + 1)
theorem idxB_some {v : Bool} : ∀ {us : List Bool} {k : Nat}, 0 ≤ idxB v us k → ∃ s : Nat, idxB v us k = ((k + s : Nat) : Int) ∧ us[s]? = some v ∧ ∀ j, j < s → us[j]? ≠ some v
  | [], k, h => by simp [idxB] at h
  | x :: r, k, h => by
    unfold idxB at h ⊢
    split
    · rename_i e; exact ⟨0, by simp, by simp [e], fun j hj => by omega⟩
    · rename_i e
      rw [if_neg e] at h
      obtain ⟨s, h1, h2, h3⟩ := idxB_some h
      refine ⟨s + 1, by rw [h1]; congr 1; omega, by simpa using h2, fun j hj => ?_⟩
      cases j with
      | zero => simpa using e
      | succ j => simpa using h3 j (by omega)
theorem idxB_none {v : Bool} : ∀ {us : List Bool} {k : Nat}, idxB v us k < 0 → ∀ j : Nat, us[j]? ≠ some v
  | [], k, _, j => by simp
  | x :: r, k, h, j => by
    unfold idxB at h
    split at h
    · omega
    · rename_i e
      cases j with
      | zero => simpa using e
      | succ j => simpa using idxB_none h j
theorem anyB_idx : ∀ (us : List Bool) (k : Nat), anyB us = decide (0 ≤ idxB true us k)
  | [], k => by simp [anyB, idxB]
  | x :: r, k => by
    unfold anyB idxB
    cases x with
    | true => simp
    | false => simpa using anyB_idx r (k + 1)
theorem anyB_iff {us : List Bool} : anyB us = true ↔ ∃ s : Nat, us[s]? = some true := by
  rw [anyB_idx us 0, decide_eq_true_iff]
  constructor
  · intro h
    obtain ⟨s, _, h2, _⟩ := idxB_some h
    exact ⟨s, h2⟩
  · rintro ⟨s, hs⟩
    rcases Int.lt_or_le (idxB true us 0) 0 with h | h
    · exact absurd hs (idxB_none h s)
    · exact h

/-- Why a page is none, or 0. -/
def pageFault (p : Pg) : Int :=
  if p.kind = 1 then (if within 0 3 [p.cls] = true then (if p.run = 0 then (if (p.used.length : Int) = 16 / sizeW p.cls then (if anyB p.used = true then 0 else 4) else 2) else 1) else 3)
  else if p.kind = 2 then (if within 1 4 [p.run] = true then (if p.cls = 0 ∧ p.used = [] then 0 else 1) else 3)
  else if p.kind = 0 ∨ p.kind = 3 then (if p.cls = 0 ∧ p.used = [] ∧ p.run = 0 then 0 else 1) else 3
/-- What is known of a right page. -/
theorem pageFault_ok {p : Pg} (h : pageFault p = 0) : (p.kind = 1 ∧ 0 ≤ p.cls ∧ p.cls ≤ 3 ∧ p.run = 0 ∧ (p.used.length : Int) = 16 / sizeW p.cls ∧ anyB p.used = true) ∨
    (p.kind = 2 ∧ 1 ≤ p.run ∧ p.run ≤ 4 ∧ p.cls = 0 ∧ p.used = []) ∨ ((p.kind = 0 ∨ p.kind = 3) ∧ p.cls = 0 ∧ p.used = [] ∧ p.run = 0) := by
  unfold pageFault at h
  split at h
  · left
    split at h
    · rename_i h1 h2
      have := within_range h2
      split at h
      · split at h
        · split at h
          · exact ⟨h1, this.1, this.2, by assumption, by assumption, by assumption⟩
          · omega
        · omega
      · omega
    · omega
  · right
    split at h
    · left
      split at h
      · rename_i h1 h2
        have := within_range h2
        split at h
        · rename_i h3; exact ⟨h1, this.1, this.2, h3.1, h3.2⟩
        · omega
      · omega
    · right
      split at h
      · split at h
        · rename_i h1 h3; exact ⟨h1, h3.1, h3.2.1, h3.2.2⟩
        · omega
      · omega
theorem pageFault_kind {p : Pg} (h : pageFault p = 0) : p.kind = 0 ∨ p.kind = 1 ∨ p.kind = 2 ∨ p.kind = 3 := by
  rcases pageFault_ok h with h | h | h <;> omega
theorem pageFault_slots {p : Pg} (h : pageFault p = 0) : p.used.length ≤ 16 := by
  rcases pageFault_ok h with ⟨_, h1, h2, _, h3, _⟩ | ⟨_, _, _, _, h1⟩ | ⟨_, _, h1, _⟩
  · rcases (show p.cls = 0 ∨ p.cls = 1 ∨ p.cls = 2 ∨ p.cls = 3 by omega) with e | e | e | e <;> rw [e] at h3 <;> simp [sizeW] at h3 <;> omega
  · rw [h1]; simp
  · rw [h1]; simp

/-- The first fault of the pages, one by one. -/
def firstPF : List Pg → Int
  | [] => 0
  | p :: r => if pageFault p = 0 then firstPF r else pageFault p
theorem firstPF_all : ∀ {ps : List Pg}, firstPF ps = 0 → ∀ p ∈ ps, pageFault p = 0
  | [], _, p, hp => by simp at hp
  | q :: r, h, p, hp => by
    unfold firstPF at h
    split at h
    · rcases List.mem_cons.1 hp with rfl | hp
      · assumption
      · exact firstPF_all h p hp
    · rename_i h1; exact absurd h h1
theorem firstPF_of : ∀ {ps : List Pg}, (∀ p ∈ ps, pageFault p = 0) → firstPF ps = 0
  | [], _ => rfl
  | q :: r, h => by
    unfold firstPF
    rw [if_pos (h q (by simp))]; exact firstPF_of fun p hp => h p (by simp [hp])
/-- How many pages a run lacks behind this one; where it lacks some just there a page goes on with it. -/
def nextLeft (l : Int) (p : Pg) : Int := if p.kind = 2 then p.run - 1 else if p.kind = 3 then l - 1 else l
def whole : Int → List Pg → Bool
  | l, [] => decide (l = 0)
  | l, p :: r => if decide (p.kind = 3) = decide (0 < l) then whole (nextLeft l p) r else false
def pagesFault (ps : List Pg) : Int := if 40 < ps.length then 2 else if firstPF ps = 0 then (if whole 0 ps = true then 0 else 8) else firstPF ps
theorem pagesFault_ok {ps : List Pg} (h : pagesFault ps = 0) : ps.length ≤ 40 ∧ (∀ p ∈ ps, pageFault p = 0) ∧ whole 0 ps = true := by
  unfold pagesFault at h
  split at h
  · omega
  · split at h
    · split at h
      · exact ⟨by omega, firstPF_all (by assumption), by assumption⟩
      · omega
    · rename_i h1; exact absurd h h1
theorem pagesFault_of {ps : List Pg} (h1 : ps.length ≤ 40) (h2 : ∀ p ∈ ps, pageFault p = 0) (h3 : whole 0 ps = true) : pagesFault ps = 0 := by
  unfold pagesFault
  rw [if_neg (by omega), if_pos (firstPF_of h2), if_pos h3]
theorem pagesFault_short {ps : List Pg} (h : pagesFault ps = 0) : ShortP 16 ps := fun p hp => pageFault_slots ((pagesFault_ok h).2.1 p hp)

/-- The first slot of this class that is not used; the first free page. -/
def gapIn (c : Int) : Nat → List Pg → Option (Nat × Nat)
  | _, [] => none
  | k, p :: r => if p.kind = 1 ∧ p.cls = c ∧ 0 ≤ idxB false p.used 0 then some (k, (idxB false p.used 0).toNat) else gapIn c (k + 1) r
def freeIn : Nat → List Pg → Option Nat
  | _, [] => none
  | k, p :: r => if p.kind = 0 then some k else freeIn (k + 1) r
def slotFor (ps : List Pg) (c : Int) : Option (Nat × Nat) := match gapIn c 0 ps with
  | some x => some x
  | none => (freeIn 0 ps).map fun i => (i, 0)
/-- The same in one walk. -/
def scan (c : Int) : Nat → Option (Nat × Nat) → List Pg → Option (Nat × Nat)
  | _, f, [] => f
  | k, f, p :: r => if p.kind = 1 ∧ p.cls = c ∧ 0 ≤ idxB false p.used 0 then some (k, (idxB false p.used 0).toNat) else scan c (k + 1) (if p.kind = 0 ∧ f = none then some (k, 0) else f) r
theorem scan_eq (c : Int) : ∀ (ps : List Pg) (k : Nat) (f : Option (Nat × Nat)), scan c k f ps = match gapIn c k ps with
    | some x => some x
    | none => match f with
      | some x => some x
      | none => (freeIn k ps).map fun i => (i, 0)
  | [], k, f => by cases f <;> simp [scan, gapIn, freeIn]
  | p :: r, k, f => by
    unfold scan gapIn
    split
    · rfl
    · rw [scan_eq c r]
      cases hg : gapIn c (k + 1) r with
      | some x => rfl
      | none =>
        simp only
        cases f with
        | some x => simp
        | none =>
          by_cases h0 : p.kind = 0
          · simp [h0, freeIn]
          · simp [h0, freeIn]
theorem scan_slotFor (ps : List Pg) (c : Int) : scan c 0 none ps = slotFor ps c := by rw [scan_eq]; rfl
theorem gapIn_some {c : Int} : ∀ {ps : List Pg} {k i s : Nat}, gapIn c k ps = some (i, s) → ∃ p, k ≤ i ∧ ps[i - k]? = some p ∧ p.kind = 1 ∧ p.cls = c ∧ idxB false p.used 0 = (s : Int)
  | [], k, i, s, h => by simp [gapIn] at h
  | p :: r, k, i, s, h => by
    unfold gapIn at h
    split at h
    · rename_i h1
      simp at h
      obtain ⟨rfl, rfl⟩ := h
      exact ⟨p, Nat.le_refl _, by simp, h1.1, h1.2.1, by omega⟩
    · obtain ⟨q, h1, h2, h3⟩ := gapIn_some h
      refine ⟨q, by omega, ?_, h3⟩
      rw [show i - k = (i - (k + 1)) + 1 by omega, List.getElem?_cons_succ]; exact h2
theorem freeIn_some : ∀ {ps : List Pg} {k i : Nat}, freeIn k ps = some i → ∃ p, k ≤ i ∧ ps[i - k]? = some p ∧ p.kind = 0
  | [], k, i, h => by simp [freeIn] at h
  | p :: r, k, i, h => by
    unfold freeIn at h
    split at h
    · simp at h; subst h; exact ⟨p, Nat.le_refl _, by simp, by assumption⟩
    · obtain ⟨q, h1, h2, h3⟩ := freeIn_some h
      refine ⟨q, by omega, ?_, h3⟩
      rw [show i - k = (i - (k + 1)) + 1 by omega, List.getElem?_cons_succ]; exact h2
/-- Where a slot is taken: in a page of the class that has one left, or in a free one. -/
theorem slotFor_some {ps : List Pg} {c : Int} {i s : Nat} (h : slotFor ps c = some (i, s)) : ∃ p, ps[i]? = some p ∧ ((p.kind = 1 ∧ p.cls = c ∧ p.used[s]? = some false) ∨ (p.kind = 0 ∧ s = 0)) := by
  unfold slotFor at h
  cases hg : gapIn c 0 ps with
  | some x =>
    rw [hg] at h
    simp at h; subst h
    obtain ⟨p, _, h1, h2, h3, h4⟩ := gapIn_some hg
    obtain ⟨s', h5, h6, _⟩ := idxB_some (v := false) (us := p.used) (k := 0) (by omega)
    obtain rfl : s = s' := by omega
    exact ⟨p, by simpa using h1, .inl ⟨h2, h3, h6⟩⟩
  | none =>
    rw [hg] at h
    simp at h
    obtain ⟨i', h1, rfl, rfl⟩ := h
    obtain ⟨p, _, h2, h3⟩ := freeIn_some h1
    exact ⟨p, by simpa using h2, .inr ⟨h3, rfl⟩⟩
/-- Page i with slot s used. -/
def slabOf (c : Int) : Pg := ⟨1, c, List.replicate (16 / sizeW c).toNat false, 0⟩
def useSlot (p : Pg) (c : Int) (s : Nat) : Pg := if p.kind = 0 then ⟨1, c, (List.replicate (16 / sizeW c).toNat false).set s true, 0⟩ else ⟨p.kind, p.cls, p.used.set s true, p.run⟩
def putSlot (ps : List Pg) (c : Int) (i s : Nat) : List Pg := match ps[i]? with
  | some p => ps.set i (useSlot p c s)
  | none => ps
def findSlot (ps : List Pg) (c : Int) : Int × List Pg × Int :=
  if pagesFault ps = 0 then (if within 0 3 [c] = true then (match slotFor ps c with | some (i, s) => (0, putSlot ps c i s, (i : Int) * 16 + s * sizeW c) | none => (7, [], 0)) else (3, [], 0)) else (pagesFault ps, [], 0)

/-- The first n of these are there and free. -/
def freeN : Nat → List Pg → Bool
  | 0, _ => true
  | _ + 1, [] => false
  | n + 1, p :: r => decide (p.kind = 0) && freeN n r
/-- The first place from which on n are free. -/
def runFrom (n : Nat) : Nat → List Pg → Option Nat
  | _, [] => none
  | k, p :: r => if freeN n (p :: r) = true then some k else runFrom n (k + 1) r
def findRun (ps : List Pg) (n : Int) : Int × Int :=
  if pagesFault ps = 0 then (if within 1 4 [n] = true then (match runFrom n.toNat 0 ps with | some i => (0, (i : Int)) | none => (7, 0)) else (3, 0)) else (pagesFault ps, 0)

/-- k pages from one on are this one. -/
def setMany (ps : List Pg) (i : Nat) (x : Pg) : Nat → List Pg
  | 0 => ps
  | k + 1 => (setMany ps i x k).set (i + k) x
theorem length_setMany (ps : List Pg) (i : Nat) (x : Pg) : ∀ k, (setMany ps i x k).length = ps.length
  | 0 => rfl
  | k + 1 => by simp [setMany, length_setMany ps i x k]
theorem setMany_at (ps : List Pg) (i : Nat) (x : Pg) : ∀ (k j : Nat), j < ps.length → (setMany ps i x k)[j]? = if i ≤ j ∧ j < i + k then some x else ps[j]?
  | 0, j, hj => by rw [if_neg (by omega)]; rfl
  | k + 1, j, hj => by
    unfold setMany
    by_cases e : j = i + k
    · subst e
      rw [List.getElem?_set_self (by rw [length_setMany]; exact hj), if_pos (by omega)]
    · rw [List.getElem?_set_ne (by omega), setMany_at ps i x k j hj]
      by_cases h : i ≤ j ∧ j < i + k
      · rw [if_pos h, if_pos (by omega)]
      · rw [if_neg h, if_neg (by omega)]
def restPg : Pg := ⟨3, 0, [], 0⟩
def runPg (n : Int) : Pg := ⟨2, 0, [], n⟩
def putRun (ps : List Pg) (i n : Nat) : List Pg := (setMany ps i restPg n).set i (runPg n)
def takeRun (ps : List Pg) (at_ n : Int) : Int × List Pg × Int :=
  if pagesFault ps = 0 then (if within 1 4 [n] = true ∧ within 0 ((ps.length : Int) - n) [at_] = true then (if freeN n.toNat (ps.drop at_.toNat) = true then (0, putRun ps at_.toNat n.toNat, at_ * 16) else (8, [], 0)) else (3, [], 0)) else (pagesFault ps, [], 0)

/-- The page that begins what page k is part of. -/
def headOf (ps : List Pg) : Nat → Nat
  | 0 => 0
  | k + 1 => if (ps[k + 1]?.map Pg.kind) = some 3 then headOf ps k else k + 1
theorem headOf_le (ps : List Pg) : ∀ k, headOf ps k ≤ k
  | 0 => Nat.le_refl _
  | k + 1 => by unfold headOf; split <;> (try have := headOf_le ps k) <;> omega
/-- What is held at a place: where it begins, how many words it has. -/
inductive Blk where
  | slot (i : Nat) (c : Int) (s : Nat)
  | run (i : Nat) (n : Int)
def Blk.start : Blk → Int
  | .slot i c s => (i : Int) * 16 + s * sizeW c
  | .run i _ => (i : Int) * 16
def Blk.size : Blk → Int
  | .slot _ c _ => sizeW c
  | .run _ n => n * 16
def blockAt (ps : List Pg) (at_ : Nat) : Option Blk := match ps[headOf ps (at_ / 16)]? with
  | none => none
  | some p => if p.kind = 2 then some (.run (headOf ps (at_ / 16)) p.run)
    else if p.kind = 1 then (if p.used[at_ % 16 / (sizeW p.cls).toNat]? = some true then some (.slot (headOf ps (at_ / 16)) p.cls (at_ % 16 / (sizeW p.cls).toNat)) else none) else none
/-- The code of what is asked of a place, and what is held there. -/
def heldAt (ps : List Pg) (at_ : Int) : Int × Option Blk :=
  if pagesFault ps = 0 then (if within 0 ((ps.length : Int) * 16 - 1) [at_] = true then (match blockAt ps at_.toNat with | some b => (0, some b) | none => (4, none)) else (3, none)) else (pagesFault ps, none)
def blockStart (ps : List Pg) (at_ : Int) : Int × Int := match heldAt ps at_ with
  | (_, some b) => (0, b.start)
  | (c, none) => (c, 0)
def blockSize (ps : List Pg) (at_ : Int) : Int × Int := match heldAt ps at_ with
  | (_, some b) => (0, b.size)
  | (c, none) => (c, 0)
def freeSlot (p : Pg) (s : Nat) : Pg := if anyB (p.used.set s false) = true then ⟨p.kind, p.cls, p.used.set s false, p.run⟩ else Pg.free
def dropBlk (ps : List Pg) : Blk → List Pg
  | .slot i _ s => match ps[i]? with
    | some p => ps.set i (freeSlot p s)
    | none => ps
  | .run i n => setMany ps i Pg.free n.toNat
def dropBlock (ps : List Pg) (at_ : Int) : Int × List Pg × Int := match heldAt ps at_ with
  | (_, some b) => if b.start = at_ then (0, dropBlk ps b, at_) else (1, [], 0)
  | (c, none) => (c, [], 0)
def usedIn : List Pg → Nat
  | [] => 0
  | p :: r => (if p.kind = 0 then 0 else 1) + usedIn r
def usedInR (ps : List Pg) : Int × Int := if pagesFault ps = 0 then (0, (usedIn ps : Int)) else (pagesFault ps, 0)

/-- A result of a code, pages and a place, the pages in new memory. -/
def RetsPages (w : World) (r : Int × List Pg × Int) (e : Ending) (w' : World) : Prop :=
  ∃ v n, e = .returned (.agg #[.int .i64 r.1, v, .int .i64 r.2.2]) ∧ Own KPage 45 w' (fun k => w.heap.size ≤ k) v n r.2.1 ∧ Below w.heap.size w w'
end Go.Proofs.Ytkikjoalhohlgaa
