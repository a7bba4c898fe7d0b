/- Joined texts (Step6, Do6, Heap6, Word6, Spec6h, Law6a, Args4, Args5, Args6): steps of the proofs of chapter 5's laws. -/
import Derived.Lib.SmallJoins
import Derived.Deep.Slices
import Derived.Deep.Fields
import Derived.ChangeSame
import Derived.OpenShut
import Derived.Deep.Strs
import Derived.Test.YthpamclljdcjpaaM1
import Derived.Test.YthpamclljdcjpaaM3
import Derived.Test.YthpamclljdcjpaaM4
import Derived.Test.YthpamclljdcjpaaM5
set_option linter.unusedVariables false
set_option linter.unusedSimpArgs false
/- Chapter 6, plain facts: what a place that is given and a block that is freed do to a right heap. -/
namespace Go.Proofs.Ythpamclljdcjpaa
open Go.RowKit

theorem isCpu_iff {h : Hp} {cpu : Int} (hc : isCpu h cpu = true) : 0 ≤ cpu ∧ 4 * cpu + 4 ≤ h.mags.length := by
  have := within_range hc
  omega
theorem blkAt_of {ps : List Pg} {a : Int} {b : Blk} (h : heldAt ps a = (0, some b)) : blkAt ps a = b := by unfold blkAt; rw [h]
theorem held_start {ps : List Pg} (hv : pagesFault ps = 0) {x : Int} {b : Blk} (h : heldAt ps x = (0, some b)) : heldAt ps b.start = (0, some b) := (block_range hv h).2.2.2.2
/-- A block that lives holds its own beginning. -/
theorem Live.start {h : Hp} (hr : Right h) {x : Int} {b : Blk} (hl : Live h x b) : Live h b.start b := ⟨held_start hr.pg hl.1, hl.2⟩
theorem Live.fill {h : Hp} (hr : Right h) {a x : Int} {b : Blk} (hl : Live h a b) (h1 : b.start ≤ x) (h2 : x < b.start + b.size) : Live h x b := ⟨held_fill hr.pg hl.1 h1 h2, hl.2⟩
theorem Live.range {h : Hp} (hr : Right h) {x : Int} {b : Blk} (hl : Live h x b) : 0 ≤ b.start ∧ b.start ≤ x ∧ x < b.start + b.size ∧ b.start + b.size ≤ h.words.length := by
  obtain ⟨h1, h2, h3, h4, _⟩ := block_range hr.pg hl.1
  have := hr.len
  refine ⟨h1, h2, h3, ?_⟩
  rw [this]; push_cast; exact h4
theorem Live.one {h : Hp} {x : Int} {b d : Blk} (h1 : Live h x b) (h2 : Live h x d) : b = d := by
  have := h1.1.symm.trans h2.1
  simpa using this
/-- A block more lives: at this place, in none that lived, and all that lived do. -/
structure Gave (h g : Hp) (b : Blk) : Prop where
  live : Live g b.start b
  fresh : ∀ x, heldAt g.pages x = (0, some b) → ∀ d, ¬ Live h x d
  keep : ∀ x d, Live h x d → Live g x d
  was : ∀ x d, Live g x d → d ≠ b → Live h x d
theorem magOf_at {h : Hp} {cpu c : Int} (h0 : 0 ≤ cpu) (h1 : 4 * cpu + 4 ≤ h.mags.length) (c0 : 0 ≤ c) (c3 : c ≤ 3) : magNo cpu c < h.mags.length ∧ h.mags[magNo cpu c]? = some (h.magOf cpu c) ∧ ((magNo cpu c % 4 : Nat) : Int) = c := by
  have hk : magNo cpu c < h.mags.length := by unfold magNo; omega
  refine ⟨hk, ?_, by unfold magNo; omega⟩
  unfold Hp.magOf
  rw [List.getElem?_eq_getElem hk]; simp [List.getD, hk]
theorem gave_took {h : Hp} (hr : Right h) {qs : List Pg} {b : Blk} (ht : Took h.pages qs b) : Gave h ⟨qs, h.words, h.mags⟩ b where
  live := ⟨ht.at_, fun hm => by
    obtain ⟨c, i, s, h1, _⟩ := hr.kept_slot hm
    have := ht.new ht.at_
    rw [h1] at this; simp at this⟩
  fresh x hx d hd := by
    have := ht.new hx
    rw [hd.1] at this; simp at this
  keep x d hd := ⟨ht.keep hd.1, hd.2⟩
  was x d hd hne := ⟨ht.was hd.1 hne, hd.2⟩
theorem onceHp_ok {h g : Hp} {cpu n a : Int} (hr : Right h) (h0 : 0 ≤ cpu) (h1 : 4 * cpu + 4 ≤ h.mags.length) (n1 : 1 ≤ n) (n2 : n ≤ 64) (e : onceHp h cpu n = some (a, g)) :
    Right g ∧ g.words = h.words ∧ g.mags.length = h.mags.length ∧ g.pages.length = h.pages.length ∧ ∃ b, b.start = a ∧ n ≤ b.size ∧ Gave h g b := by
  unfold onceHp at e
  by_cases hn : 8 < n
  · rw [if_pos hn] at e
    cases hf : runFrom ((n + 15) / 16).toNat 0 h.pages with
    | none => rw [hf] at e; simp at e
    | some i =>
      rw [hf] at e
      simp only [Option.some.injEq, Prod.mk.injEq] at e
      obtain ⟨rfl, rfl⟩ := e
      obtain ⟨ht, _⟩ := took_run hr.pg (i := i) (n := ((n + 15) / 16).toNat) (by omega) (by omega) hf
      exact ⟨hr.took ht, rfl, rfl, ht.len, _, rfl, by simp only [Blk.size]; omega, gave_took hr ht⟩
  · rw [if_neg hn] at e
    obtain ⟨c0, c3⟩ := classW_small n
    obtain ⟨hk, hm, h4⟩ := magOf_at (h := h) h0 h1 c0 c3
    have hsz := classW_holds (s := n) (by omega)
    cases hl : (h.magOf cpu (classW n)).getLast? with
    | some a' =>
      rw [hl] at e
      simp only [Option.some.injEq, Prod.mk.injEq] at e
      obtain ⟨rfl, rfl⟩ := e
      have hsplit : h.magOf cpu (classW n) = (h.magOf cpu (classW n)).dropLast ++ [a'] := by
        obtain ⟨ys, hy⟩ := List.getLast?_eq_some_iff.1 hl
        rw [hy]; simp
      rw [hsplit] at hm
      obtain ⟨p1, p2⟩ := hr.pop hm
      have hs := (hr.mag _ _ hm).2 a' (by simp)
      rw [h4] at hs
      obtain ⟨i, s, hi, hst⟩ := (isSlotAt_iff hr.pg).1 hs
      have hak : a' ∈ h.kept := List.mem_flatten.2 ⟨_, List.mem_of_getElem? hm, by simp⟩
      refine ⟨p1, rfl, by show (h.mags.set _ _).length = _; rw [List.length_set], rfl, _, hst, hsz, ⟨?_, fun x hx d hd => ?_, fun x d hd => ?_, fun x d hd hne => ?_⟩⟩
      · exact ⟨by rw [hst]; exact hi, fun hm' => ((p2 _).1 hm').2 hst⟩
      · have hdb : d = .slot i (classW n) s := by
          have := hd.1.symm.trans hx
          simpa using this
        exact hd.2 (by rw [hdb, hst]; exact hak)
      · exact ⟨hd.1, fun hm' => hd.2 ((p2 _).1 hm').1⟩
      · refine ⟨hd.1, fun hm' => hd.2 ((p2 _).2 ⟨hm', fun hda => hne ?_⟩)⟩
        have hd2 := held_start hr.pg (show heldAt h.pages x = _ from hd.1)
        rw [hda, hi] at hd2
        simpa using hd2.symm
    | none =>
      rw [hl] at e
      simp only at e
      cases hf : slotFor h.pages (classW n) with
      | none => rw [hf] at e; simp at e
      | some y =>
        obtain ⟨i, s⟩ := y
        rw [hf] at e
        simp only [Option.some.injEq, Prod.mk.injEq] at e
        obtain ⟨rfl, rfl⟩ := e
        have ht := took_slot hr.pg c0 c3 hf
        exact ⟨hr.took ht, rfl, rfl, ht.len, .slot i (classW n) s, rfl, hsz, gave_took hr ht⟩
theorem live_drained {h : Hp} (hr : Right h) {x : Int} {b : Blk} : Live (drainHp h) x b ↔ Live h x b := by
  constructor
  · intro hl; exact hr.drained_at.1 hl.1
  · intro hl; exact ⟨hr.drained_at.2 hl, by rw [kept_drained]; simp⟩
theorem drained_words {h : Hp} (hr : Right h) {x : Nat} {b : Blk} (hl : Live h x b) : (drainHp h).words[x]? = h.words[x]? := by
  have hlen : h.words.length = (dropAll h.pages h.kept).length * 16 := by rw [length_dropAll]; exact hr.len
  show (sweepW h.words 0 (dropAll h.pages h.kept))[x]? = _
  rw [sweep_at hlen, if_neg]
  intro hf
  obtain ⟨p, hp, h0⟩ := freeAt_iff.1 hf
  exact (held_page hr.drain.pg (hr.drained_at.2 hl)).2.2 p (by rw [Int.toNat_natCast]; exact hp) h0
theorem placeHp_ok {h g : Hp} {cpu n a : Int} (hr : Right h) (h0 : 0 ≤ cpu) (h1 : 4 * cpu + 4 ≤ h.mags.length) (n1 : 1 ≤ n) (n2 : n ≤ 64) (e : placeHp h cpu n = some (a, g)) :
    Right g ∧ g.mags.length = h.mags.length ∧ g.pages.length = h.pages.length ∧ (∀ (x : Nat) (d : Blk), Live h x d → g.words[x]? = h.words[x]?) ∧ ∃ b, b.start = a ∧ n ≤ b.size ∧ Gave h g b := by
  unfold placeHp at e
  cases ho : onceHp h cpu n with
  | some y =>
    rw [ho] at e
    simp only [Option.some.injEq] at e
    subst e
    obtain ⟨p1, p2, p3, p4, p5⟩ := onceHp_ok hr h0 h1 n1 n2 ho
    exact ⟨p1, p3, p4, fun x d _ => by rw [p2], p5⟩
  | none =>
    rw [ho] at e
    simp only at e
    have hm : (drainHp h).mags.length = h.mags.length := by show (List.replicate h.mags.length ([] : List Int)).length = _; rw [List.length_replicate]
    obtain ⟨p1, p2, p3, p4, b, hb1, hb2, hb3⟩ := onceHp_ok hr.drain h0 (by rw [hm]; exact h1) n1 n2 e
    refine ⟨p1, p3.trans hm, p4.trans (length_dropAll _ _), fun x d hd => by rw [p2]; exact drained_words hr hd, b, hb1, hb2, ⟨hb3.live, fun x hx d hd => hb3.fresh x hx d ((live_drained hr).2 hd), fun x d hd => hb3.keep x d ((live_drained hr).2 hd), fun x d hd hne => (live_drained hr).1 (hb3.was x d hd hne)⟩⟩
/-- Words that differ only in a block that is held leave a right heap right. -/
theorem Right.putWords {h : Hp} (hr : Right h) {b : Blk} (hb : heldAt h.pages b.start = (0, some b)) {xs : List Int} (hl : (xs.length : Int) ≤ b.size) (hv : ∀ v ∈ xs, -1000000000 ≤ v ∧ v ≤ (1000000000 : Int)) :
    Right (h.putWords b.start xs) ∧ (∀ x : Nat, (h.putWords b.start xs).words[x]? = if b.start ≤ x ∧ (x : Int) < b.start + xs.length then xs[x - b.start.toNat]? else h.words[x]?) ∧ (h.putWords b.start xs).words.length = h.words.length := by
  obtain ⟨r1, r2, r3, r4, _⟩ := block_range hr.pg hb
  have hlen := hr.len
  have hat : ∀ x : Nat, (splice h.words b.start.toNat xs)[x]? = if b.start ≤ x ∧ (x : Int) < b.start + xs.length then xs[x - b.start.toNat]? else h.words[x]? := fun x => by
    unfold splice
    by_cases h1 : x < b.start.toNat
    · rw [if_neg (by omega), List.getElem?_append_left (by rw [List.length_take]; omega), List.getElem?_take, if_pos h1]
    · rw [List.getElem?_append_right (by rw [List.length_take]; omega), List.length_take, Nat.min_eq_left (by omega)]
      by_cases h2 : x < b.start.toNat + xs.length
      · rw [if_pos (by omega), List.getElem?_append_left (by omega)]
      · rw [if_neg (by omega), List.getElem?_append_right (by omega), List.getElem?_drop]
        congr 1; omega
  have hsl : (splice h.words b.start.toNat xs).length = h.words.length := length_splice _ _ _ (by omega)
  refine ⟨hr.put_held hsl (fun v hm => ?_) (fun x hx => ?_), hat, hsl⟩
  · obtain ⟨x, hx⟩ := List.getElem?_of_mem hm
    rw [hat] at hx
    split at hx
    · exact hv v (List.mem_of_getElem? hx)
    · exact hr.val v (List.mem_of_getElem? hx)
  · rw [hat] at hx
    split at hx
    · exact ⟨b, held_fill hr.pg hb (by omega) (by omega)⟩
    · exact absurd rfl hx
theorem live_putWords {h : Hp} {a x : Int} {xs : List Int} {b : Blk} : Live (h.putWords a xs) x b ↔ Live h x b := Iff.rfl
/-- A block that lived is freed: all else lives on. -/
theorem freeHp_ok {h : Hp} {cpu : Int} {b : Blk} (hr : Right h) (h0 : 0 ≤ cpu) (h1 : 4 * cpu + 4 ≤ h.mags.length) (hb : Live h b.start b) :
    Right (freeHp h cpu b) ∧ (freeHp h cpu b).mags.length = h.mags.length ∧ (freeHp h cpu b).pages.length = h.pages.length ∧ (∀ x d, Live (freeHp h cpu b) x d ↔ Live h x d ∧ d ≠ b) ∧ ∀ (x : Nat) (d : Blk), Live h x d → d ≠ b → (freeHp h cpu b).words[x]? = h.words[x]? := by
  have hdrop : Right (dropHp h b) ∧ (dropHp h b).mags.length = h.mags.length ∧ (dropHp h b).pages.length = h.pages.length ∧ (∀ x d, Live (dropHp h b) x d ↔ Live h x d ∧ d ≠ b) ∧ ∀ (x : Nat) (d : Blk), Live h x d → d ≠ b → (dropHp h b).words[x]? = h.words[x]? := by
    have hrd := hr.drop hb.1 rfl hb.2
    have hview := drop_view hr.pg hb.1 rfl
    have hl := (dropped hr.pg hb.1 rfl).2.2.2
    have hlive : ∀ x d, Live (dropHp h b) x d ↔ Live h x d ∧ d ≠ b := fun x d => by
      constructor
      · intro hd
        have h2 : heldAt (dropBlk h.pages b) x = (0, some d) := hd.1
        rw [hview] at h2
        split at h2
        · simp at h2
        · rename_i hne
          exact ⟨⟨h2, hd.2⟩, fun e => hne (by rw [h2, e])⟩
      · rintro ⟨hd, hne⟩
        refine ⟨?_, hd.2⟩
        show heldAt (dropBlk h.pages b) x = _
        rw [hview, if_neg (by rw [hd.1]; simpa using hne)]; exact hd.1
    refine ⟨hrd, rfl, hl, hlive, fun x d hd hne => ?_⟩
    show (sweepW h.words 0 (dropBlk h.pages b))[x]? = _
    rw [sweep_at (by rw [hl]; exact hr.len), if_neg]
    intro hf
    obtain ⟨p, hp, hp0⟩ := freeAt_iff.1 hf
    exact (held_page hrd.pg ((hlive x d).2 ⟨hd, hne⟩).1).2.2 p (by rw [Int.toNat_natCast]; exact hp) hp0
  cases b with
  | run i n => exact hdrop
  | slot i c s =>
    have hfe : freeHp h cpu (.slot i c s) = if (h.magOf cpu c).length < 2 then h.setMag (magNo cpu c) (h.magOf cpu c ++ [(Blk.slot i c s).start]) else dropHp h (.slot i c s) := rfl
    rw [hfe]
    by_cases hm : (h.magOf cpu c).length < 2
    · rw [if_pos hm]
      obtain ⟨_, _, _, _, _, c0, c3, _⟩ := held_slot_info hr.pg hb.1
      obtain ⟨hk, hj, h4⟩ := magOf_at (h := h) h0 h1 c0 c3
      obtain ⟨p1, p2⟩ := hr.push hj hm (a := (Blk.slot i c s).start) (by rw [h4]; exact (isSlotAt_iff hr.pg).2 ⟨i, s, hb.1, rfl⟩) hb.2
      refine ⟨p1, by show (h.mags.set _ _).length = _; rw [List.length_set], rfl, fun x d => ?_, fun x d _ _ => rfl⟩
      constructor
      · intro hd
        refine ⟨⟨hd.1, fun hm' => hd.2 ((p2 _).2 (.inl hm'))⟩, fun e => hd.2 ((p2 _).2 (.inr (by rw [e])))⟩
      · rintro ⟨hd, hne⟩
        refine ⟨hd.1, fun hm' => ?_⟩
        rcases (p2 _).1 hm' with h5 | h5
        · exact hd.2 h5
        · have h6 := held_start hr.pg hd.1
          rw [h5, hb.1] at h6
          exact hne (by simpa using h6.symm)
    · rw [if_neg hm]; exact hdrop
end Go.Proofs.Ythpamclljdcjpaa

/- Chapter 6, plain facts: a heap stays a right one, whatever is done; what is answered, and what lives then. -/
namespace Go.Proofs.Ythpamclljdcjpaa
open Go.RowKit

/-- Where a place lives, in words of what lives. -/
theorem liveIn_live {h : Hp} {x : Int} {b : Blk} (hl : Live h x b) : liveIn h x = (0, b.start) := by
  have hk : hasIn h.kept b.start = false := by
    unfold hasIn
    simpa using hl.2
  unfold liveIn
  rw [show blockStart h.pages x = (0, b.start) by unfold blockStart; rw [hl.1]]
  simp [hk]
theorem liveIn_zero {h : Hp} (hr : Right h) {x s : Int} (h0 : liveIn h x = (0, s)) : ∃ b, Live h x b ∧ b.start = s := by
  unfold liveIn blockStart at h0
  cases hh : heldAt h.pages x with
  | mk c o =>
    cases o with
    | none =>
      rw [hh] at h0
      rcases held_code hr.pg hh with rfl | rfl <;> simp at h0
    | some b =>
      have hc := (held_info hr.pg hh).1
      subst hc
      rw [hh] at h0
      simp only [if_true] at h0
      split at h0
      · simp at h0
      · rename_i hk
        simp only [Prod.mk.injEq, true_and] at h0
        exact ⟨b, ⟨hh, by unfold hasIn at hk; simpa using hk⟩, h0⟩
theorem liveIn_code {h : Hp} (hr : Right h) {x : Int} : (liveIn h x).1 = 0 ∨ liveIn h x = (3, 0) ∨ liveIn h x = (4, 0) := by
  unfold liveIn blockStart
  cases hh : heldAt h.pages x with
  | mk c o =>
    cases o with
    | none => rcases held_code hr.pg hh with rfl | rfl <;> simp
    | some b =>
      by_cases hk : hasIn h.kept b.start = true
      · simp [hk]
      · simp [hk]
theorem liveIn_none {h : Hp} (hr : Right h) {x : Int} (hx : 0 ≤ x ∧ x < h.words.length) (hn : ∀ b, ¬ Live h x b) : liveIn h x = (4, 0) := by
  unfold liveIn blockStart
  have hx' : 0 ≤ x ∧ x < h.pages.length * 16 := by have := hr.len; omega
  cases hh : heldAt h.pages x with
  | mk c o =>
    cases o with
    | none =>
      rcases held_code hr.pg hh with rfl | rfl
      · unfold heldAt at hh
        rw [if_pos hr.pg, if_pos (within_yes1 hx'.1 (by omega))] at hh
        split at hh <;> simp at hh
      · simp
    | some b =>
      have hc := (held_info hr.pg hh).1
      subst hc
      have hk : hasIn h.kept b.start = true := by
        cases hk : hasIn h.kept b.start with
        | true => rfl
        | false => exact absurd ⟨hh, by unfold hasIn at hk; simpa using hk⟩ (hn b)
      simp [hk]
/-- A heap that may be turned: its lists keep their lengths. -/
structure Turned (h g : Hp) : Prop where
  right : Right g
  mags : g.mags.length = h.mags.length
  pages : g.pages.length = h.pages.length
theorem Turned.refl {h : Hp} (hr : Right h) : Turned h h := ⟨hr, rfl, rfl⟩
theorem Turned.words {h g : Hp} (hr : Right h) (ht : Turned h g) : g.words.length = h.words.length := by rw [ht.right.len, hr.len, ht.pages]
theorem zeros_val (n : Nat) : ∀ v ∈ List.replicate n (0 : Int), -1000000000 ≤ v ∧ v ≤ (1000000000 : Int) := by
  intro v hv
  rw [List.eq_of_mem_replicate hv]; omega
theorem blk_size_pos (b : Blk) (h : ∃ ps x, pagesFault ps = 0 ∧ heldAt ps x = (0, some b)) : 1 ≤ b.size := by
  obtain ⟨ps, x, hv, hx⟩ := h
  have := block_range hv hx
  omega
/-- What giving does: refused, or a block more, which is zero where that was asked for. -/
theorem giveHp_ok {h : Hp} {cpu n : Int} {clear : Bool} (hr : Right h) (h0 : 0 ≤ cpu) (h1 : 4 * cpu + 4 ≤ h.mags.length) (n1 : 1 ≤ n) (n2 : n ≤ 64) :
    Turned h (giveHp h cpu n clear).2 ∧ ((placeHp h cpu n = none ∧ giveHp h cpu n clear = ((7, 0), h)) ∨ ∃ (a : Int) (b : Blk), (giveHp h cpu n clear).1 = (0, a) ∧ b.start = a ∧ n ≤ b.size ∧ Gave h (giveHp h cpu n clear).2 b ∧
      (∀ (x : Nat) (d : Blk), Live h x d → (giveHp h cpu n clear).2.words[x]? = h.words[x]?) ∧ (clear = true → ∀ x : Nat, heldAt (giveHp h cpu n clear).2.pages x = (0, some b) → (giveHp h cpu n clear).2.words[x]? = some 0)) := by
  unfold giveHp
  cases hp : placeHp h cpu n with
  | none => exact ⟨Turned.refl hr, .inl ⟨rfl, rfl⟩⟩
  | some y =>
    obtain ⟨a, g⟩ := y
    simp only
    obtain ⟨p1, p3, p4, p5, b, rfl, hb2, hb3⟩ := placeHp_ok hr h0 h1 n1 n2 hp
    have hbk : blkAt g.pages b.start = b := blkAt_of hb3.live.1
    have hb0 := blk_size_pos b ⟨_, _, p1.pg, hb3.live.1⟩
    cases clear with
    | false =>
      simp only [Bool.false_eq_true, if_false]
      exact ⟨⟨p1, p3, p4⟩, .inr ⟨_, b, rfl, rfl, hb2, hb3, p5, fun h => by simp at h⟩⟩
    | true =>
      simp only [if_true, hbk]
      obtain ⟨q1, q2, q3⟩ := p1.putWords hb3.live.1 (xs := List.replicate b.size.toNat 0) (by rw [List.length_replicate]; omega) (zeros_val _)
      refine ⟨⟨q1, p3, p4⟩, .inr ⟨_, b, rfl, rfl, hb2, ⟨hb3.live, hb3.fresh, hb3.keep, hb3.was⟩, fun x d hd => ?_, fun _ x hx => ?_⟩⟩
      · rw [q2, if_neg]
        · exact p5 x d hd
        · rintro ⟨h5, h6⟩
          rw [List.length_replicate] at h6
          exact hb3.fresh x (held_fill p1.pg hb3.live.1 h5 (by omega)) d hd
      · have := block_range p1.pg (show heldAt g.pages x = _ from hx)
        rw [q2, if_pos ⟨this.2.1, by rw [List.length_replicate]; omega⟩, List.getElem?_replicate, if_pos (by omega)]
theorem mem_wordsFrom {ws : List Int} {a n v : Int} (h : v ∈ wordsFrom ws a n) : v ∈ ws := List.mem_of_mem_drop (List.mem_of_mem_take h)
theorem length_wordsFrom_le (ws : List Int) {a n : Int} (hn : 0 ≤ n) : ((wordsFrom ws a n).length : Int) ≤ n := by unfold wordsFrom; rw [List.length_take]; omega
/-- What making a block greater does. -/
theorem growHp_ok {h : Hp} {cpu n : Int} {b : Blk} (hr : Right h) (h0 : 0 ≤ cpu) (h1 : 4 * cpu + 4 ≤ h.mags.length) (n1 : 1 ≤ n) (n2 : n ≤ 64) (hb : Live h b.start b) :
    Turned h (growHp h cpu b.start n).2 ∧ ((growHp h cpu b.start n).1 = (7, 0) ∧ (growHp h cpu b.start n).2 = h ∨ ∃ d : Blk, (growHp h cpu b.start n).1 = (0, d.start) ∧ n ≤ d.size ∧ Live (growHp h cpu b.start n).2 d.start d) := by
  unfold growHp
  rw [blkAt_of hb.1]
  by_cases hn : n ≤ b.size
  · rw [if_pos hn]
    exact ⟨Turned.refl hr, .inr ⟨b, rfl, hn, hb⟩⟩
  · rw [if_neg hn]
    cases hp : placeHp h cpu n with
    | none => exact ⟨Turned.refl hr, .inl ⟨rfl, rfl⟩⟩
    | some y =>
      obtain ⟨a, g⟩ := y
      simp only
      obtain ⟨p1, p3, p4, p5, d, rfl, hd2, hd3⟩ := placeHp_ok hr h0 h1 n1 n2 hp
      have hb0 := blk_size_pos b ⟨_, _, hr.pg, hb.1⟩
      obtain ⟨q1, q2, q3⟩ := p1.putWords hd3.live.1 (xs := wordsFrom g.words b.start b.size) (Int.le_trans (length_wordsFrom_le _ (by omega)) (by omega)) (fun v hv => p1.val v (mem_wordsFrom hv))
      obtain ⟨r1, r2, r3, r4, r5⟩ := freeHp_ok (cpu := cpu) q1 h0 (by show 4 * cpu + 4 ≤ (g.mags.length : Int); rw [p3]; exact h1) (b := b) (hd3.keep _ _ hb)
      refine ⟨⟨r1, r2.trans p3, r3.trans p4⟩, .inr ⟨d, rfl, hd2, (r4 _ _).2 ⟨hd3.live, fun e => ?_⟩⟩⟩
      subst e
      exact hd3.fresh _ hd3.live.1 _ hb
theorem doHp_turned {h : Hp} {cpu : Int} {o : Opn} (hr : Right h) (h0 : 0 ≤ cpu) (h1 : 4 * cpu + 4 ≤ h.mags.length) : Turned h (doHp h cpu o).2 ∧ ((doHp h cpu o).1.1 ≠ 0 → (doHp h cpu o).1.2 = 0 ∧ (doHp h cpu o).2 = h ∧ ((doHp h cpu o).1.1 = 1 ∨ (doHp h cpu o).1.1 = 3 ∨ (doHp h cpu o).1.1 = 4 ∨ (doHp h cpu o).1.1 = 7)) := by
  unfold doHp
  by_cases hf : opFault o = 0
  · rw [if_pos hf]
    obtain ⟨hk, hs, hv⟩ := opFault_ok hf
    unfold rightHp
    by_cases k1 : o.kind = 1
    · rw [if_pos k1]
      obtain ⟨g1, g2⟩ := giveHp_ok (clear := false) hr h0 h1 (hs (.inl k1)).1 (hs (.inl k1)).2
      refine ⟨g1, fun hc => ?_⟩
      rcases g2 with ⟨_, e⟩ | ⟨a, b, e, _⟩
      · rw [e]; simp
      · rw [e] at hc; simp at hc
    · rw [if_neg k1]
      by_cases k2 : o.kind = 2
      · rw [if_pos k2]
        obtain ⟨g1, g2⟩ := giveHp_ok (clear := true) hr h0 h1 (hs (.inr (.inl k2))).1 (hs (.inr (.inl k2))).2
        refine ⟨g1, fun hc => ?_⟩
        rcases g2 with ⟨_, e⟩ | ⟨a, b, e, _⟩
        · rw [e]; simp
        · rw [e] at hc; simp at hc
      · rw [if_neg k2]
        by_cases k8 : o.kind = 8
        · rw [if_pos k8]; exact ⟨Turned.refl hr, fun hc => by simp at hc⟩
        · rw [if_neg k8]
          by_cases hl : (liveIn h o.at_).1 = 0
          · rw [if_pos hl]
            obtain ⟨b, hb, hbs⟩ := liveIn_zero hr (x := o.at_) (s := (liveIn h o.at_).2) (by rw [← hl])
            unfold atHp
            by_cases k5 : o.kind = 5
            · rw [if_pos k5]; exact ⟨Turned.refl hr, fun hc => by simp at hc⟩
            · rw [if_neg k5]
              by_cases k6 : o.kind = 6
              · rw [if_pos k6]
                refine ⟨⟨hr.put_held (by rw [List.length_set]) (fun v hm => ?_) (fun x hx => ?_), rfl, rfl⟩, fun hc => by simp at hc⟩
                · rcases List.mem_or_eq_of_mem_set hm with hm | rfl
                  · exact hr.val v hm
                  · exact hv
                · by_cases e : o.at_.toNat = x
                  · have h5 := (held_page hr.pg hb.1).1
                    exact ⟨b, by rw [show ((x : Nat) : Int) = o.at_ by omega]; exact hb.1⟩
                  · rw [List.getElem?_set_ne e] at hx; exact absurd rfl hx
              · rw [if_neg k6]
                by_cases e : (liveIn h o.at_).2 = o.at_
                · rw [if_pos e]
                  have hb' : b.start = o.at_ := hbs.trans e
                  rw [blkAt_of hb.1]
                  by_cases k3 : o.kind = 3
                  · rw [if_pos k3]
                    obtain ⟨r1, r2, r3, _⟩ := freeHp_ok (cpu := cpu) hr h0 h1 (hb.start hr)
                    exact ⟨⟨r1, r2, r3⟩, fun hc => by simp at hc⟩
                  · rw [if_neg k3]
                    by_cases k7 : o.kind = 7
                    · rw [if_pos k7]; exact ⟨Turned.refl hr, fun hc => by simp at hc⟩
                    · rw [if_neg k7]
                      have k4 : o.kind = 4 := by omega
                      have hs4 := hs (.inr (.inr k4))
                      obtain ⟨g1, g2⟩ := growHp_ok hr h0 h1 hs4.1 hs4.2 (hb.start hr)
                      rw [← hb']
                      refine ⟨g1, fun hc => ?_⟩
                      rcases g2 with ⟨e1, e2⟩ | ⟨d, e, _⟩
                      · rw [e1, e2]; simp
                      · rw [e] at hc; simp at hc
                · rw [if_neg e]; exact ⟨Turned.refl hr, fun _ => by simp⟩
          · rw [if_neg hl]
            refine ⟨Turned.refl hr, fun _ => ?_⟩
            rcases liveIn_code hr (x := o.at_) with e | e | e
            · exact absurd e hl
            · rw [e]; simp
            · rw [e]; simp
  · rw [if_neg hf]
    refine ⟨Turned.refl hr, fun _ => ⟨rfl, rfl, ?_⟩⟩
    have hc : opFault o = 0 ∨ opFault o = 1 ∨ opFault o = 3 := by
      unfold opFault
      split
      · split <;> simp
      · simp
    rcases hc with e | e | e
    · exact absurd e hf
    · exact .inl e
    · exact .inr (.inl e)
end Go.Proofs.Ythpamclljdcjpaa

/- Chapter 6: a heap that is pointed at: one of its magazines in focus; what turning it does to memory. -/
namespace Go.Proofs.Ythpamclljdcjpaa
open Go.RowKit

/-- One of several lists in focus, to be replaced. -/
theorem Own.mag_put6 {w : World} {S : Nat → Prop} {v : Value} {n : Nat} {ms : List (List Int)} (h : Own KMag 47 w S v n ms) {j : Nat} (hj : j < n) :
    ∃ g cap m, v = .slice (some ⟨g, 0, none⟩) n cap ∧ S g ∧ g < w.heap.size ∧ ms[j]? = some m ∧ (∃ a l c, w.cell? ⟨g, j, none⟩ = some (.slice a l c)) ∧ w.frozen? ⟨g, j, none⟩ = false ∧
      ∀ (x : List Int) (y : Value) (l : Nat) (T : Nat → Prop), Own KInt 2 w T y l x → (∀ k, T k → k < w.heap.size → ¬ S k) → Own KMag 47 (w.setCell ⟨g, j, none⟩ y) (fun k => S k ∨ T k) v n (ms.set j x) := by
  obtain ⟨g, cap, cs, F, m, rfl, hg, hm, hcl, hu, ho, hF, hst⟩ := h.here.focus hj
  obtain ⟨y0, l0, rfl, hy0⟩ := ho
  obtain ⟨h1, h2, h3⟩ := hu.cell
  have h4 := h2 0 (by simp)
  rw [show KMag.sz = 1 from rfl, Nat.mul_one] at h4 hu hst
  simp only [Nat.add_zero, List.getElem?_cons_zero] at h4
  obtain ⟨a0, c0, rfl, _, _, _⟩ := hy0.shape
  refine ⟨g, cap, m, rfl, hg.1, h1, hm, ⟨a0, l0, c0, h4⟩, h3 _, fun x y l T hy hT => ?_⟩
  have hnT : ¬ T g := fun ht => hT g ht hg.2 hg.1
  have hy2 : Own KInt 2 (w.setCell ⟨g, j, none⟩ y) (fun k => T k ∧ k < w.heap.size) y l x := hy.here.turn (Turn.set w ⟨g, j, none⟩ y) (fun k hk _ e => hnT (by rw [← show k = g from e]; exact hk.1))
  have h5 := hst (w.setCell ⟨g, j, none⟩ y) (fun k => T k ∧ k < w.heap.size) [y] x rfl ((Turn.set w ⟨g, j, none⟩ y).mono (fun k hk _ => .inr hk)) (by have := hu.set (i := 0) (u := y) (by simp); simpa using this) (KMag_own_mk hy2) (fun k hk => .inr (fun hs => hT k hk.1 hk.2 hs.1.1))
  exact h5.mono (fun k hk _ => hk.elim (fun h => .inl h.1) (fun h => .inr h.1))

end Go.Proofs.Ythpamclljdcjpaa

/- Chapter 6: one word of a heap that is pointed at; an op that is pointed at; how much a block holds. -/
namespace Go.Proofs.Ythpamclljdcjpaa
open Go.RowKit

/-- What may be done, in four cells. -/
structure OpAt (w : World) (S : Nat → Prop) (b ob : Nat) (o : Opn) : Prop where
  row : Row w ob 25 #[.int .i64 o.kind, .int .i64 o.at_, .int .i64 o.n, .int .i64 o.value]
  out : ¬ S ob
  ne : ob ≠ b
theorem OpAt.box {w : World} {S : Nat → Prop} {b ob : Nat} {o : Opn} (h : OpAt w S b ob o) (x : Obj) : OpAt (w.alloc x) (fun q => S q ∧ q < w.heap.size) b ob o := ⟨h.row.alloc x, fun hq => h.out hq.1, h.ne⟩
/-- The page at which a block begins that is held. -/
theorem held_begin {ps : List Pg} (hv : pagesFault ps = 0) {a : Int} {b : Blk} (h : heldAt ps a = (0, some b)) : ∃ (st : Nat) (p : Pg), b.start = st ∧ st < ps.length * 16 ∧ ps[st / 16]? = some p ∧ pageFault p = 0 ∧ sizeIn p = b.size := by
  have hs := (block_range hv h).2.2.2.2
  obtain ⟨_, h0, h1, hi⟩ := held_info hv hs
  rcases hi with ⟨i, k, s, p, rfl, hp, k1, h2, h3, h4, hu, hl, _, hi, _⟩ | ⟨i, p, rfl, hp, h2, _⟩
  · obtain ⟨st, hst⟩ := Int.eq_ofNat_of_zero_le h0
    rw [hst] at h1 hi
    rw [Int.toNat_natCast] at hi
    exact ⟨st, p, hst, by omega, by rw [← hi]; exact hp, ok_page hv hp, by simp [sizeIn, k1, h2, Blk.size]⟩
  · have hil := (List.getElem?_eq_some_iff.1 hp).1
    exact ⟨i * 16, p, by simp [Blk.start], by omega, by rw [Nat.mul_div_cancel _ (by omega)]; exact hp, ok_page hv hp, by simp [sizeIn, h2, Blk.size]⟩
end Go.Proofs.Ythpamclljdcjpaa

/- Chapter 6 of the model: what is wrong with an op. -/
namespace Go.Proofs.Ythpamclljdcjpaa
open Go.RowKit

set_option maxRecDepth 100000 in
set_option maxHeartbeats 2000000 in
theorem l6Needs_calls {ob : Nat} {k a n v : Int} {x y z : Bool} {w : World} (hR : Row w ob 25 #[.int .i64 k, .int .i64 a, .int .i64 n, .int .i64 v]) :
    Calls Try.prog 13 #[.pointer (some ⟨ob, 0, none⟩), .bool x, .bool y, .bool z] w fun e w' => e = .returned (.bool ((x || decide (a = 0)) && (y || decide (n = 0)) && (z || decide (v = 0)))) ∧ w = w' := by
  have q1 := hR.cell 1
  have q2 := hR.cell 2
  have q3 := hR.cell 3
  have ql := hR.lt
  simp at q1 q2 q3
  clear hR
  by_cases h1 : a = 0 <;> by_cases h2 : n = 0 <;> by_cases h3 : v = 0 <;> cases x <;> cases y <;> cases z
  all_goals
    have e1 : (a == 0) = decide (a = 0) := by simp [h1]
    have e2 : (n == 0) = decide (n = 0) := by simp [h2]
    have e3 : (v == 0) = decide (v = 0) := by simp [h3]
    simp only [h1, h2, h3, decide_true, decide_false] at e1 e2 e3
    go_enter Try.func13, Try.ntmps13
    go_wp2_with fail
    go_ret
    exact ⟨by simp [h1, h2, h3], rfl⟩

theorem opFault_form {o : Opn} (h : o.form = false) : opFault o = 1 := by unfold opFault; rw [h]; rfl
theorem opFault_right {o : Opn} (h : o.form = true) : opFault o = if o.sized = true ∧ within 1 64 [o.n] = false ∨ within (-1000000000) 1000000000 [o.value] = false then 3 else 0 := by unfold opFault; rw [if_pos h]

set_option maxRecDepth 100000 in
set_option maxHeartbeats 2000000 in
theorem sOpFault_calls {o : Opn} {w : World} :
    Calls Try.prog 5 #[.agg #[.int .i64 o.kind, .int .i64 o.at_, .int .i64 o.n, .int .i64 o.value]] w fun e w' => e = .returned (.int .i64 (opFault o)) ∧ Below w.heap.size w w' := by
  obtain ⟨k, a, n, v⟩ := o
  have hR : Row (w.alloc (.cells #[.int .i64 k, .int .i64 a, .int .i64 n, .int .i64 v] 25)) w.heap.size 25 #[.int .i64 k, .int .i64 a, .int .i64 n, .int .i64 v] := heap_alloc_new _ _
  have HRow := Lib.hid hR
  have HB := Lib.hid (show Below w.heap.size w (w.alloc (.cells #[.int .i64 k, .int .i64 a, .int .i64 n, .int .i64 v] 25)) from (Below.refl _ _).alloc (Nat.le_refl _) _)
  clear hR
  have hkinds : k = 1 ∨ k = 2 ∨ k = 3 ∨ k = 4 ∨ k = 5 ∨ k = 6 ∨ k = 7 ∨ k = 8 ∨ (k ≠ 1 ∧ k ≠ 2 ∧ k ≠ 3 ∧ k ≠ 4 ∧ k ≠ 5 ∧ k ≠ 6 ∧ k ≠ 7 ∧ k ≠ 8) := by omega
  rcases hf : (Opn.mk k a n v).form with _ | _
  · have HF := Lib.hid (opFault_form hf)
    rcases hkinds with rfl | rfl | rfl | rfl | rfl | rfl | rfl | rfl | ⟨k1, k2, k3, k4, k5, k6, k7, k8⟩
    · have hfo := hf
      unfold Opn.form Opn.needs at hfo
      simp only [if_true, if_false, Int.reduceEq] at hfo
      have HN := Lib.hid hfo
      clear hf hfo
      go_enter Try.func5, Try.ntmps5
      go_wp2_with fail
      refine (l6Needs_calls HRow.out).mono ?_
      rw [HN.out]
      rintro e w1 ⟨rfl, rfl⟩
      go_wp2_with fail
      go_ret
      rw [HF.out]
      exact ⟨rfl, HB.out⟩
    · have hfo := hf
      unfold Opn.form Opn.needs at hfo
      simp only [if_true, if_false, Int.reduceEq] at hfo
      have HN := Lib.hid hfo
      clear hf hfo
      go_enter Try.func5, Try.ntmps5
      go_wp2_with fail
      refine (l6Needs_calls HRow.out).mono ?_
      rw [HN.out]
      rintro e w1 ⟨rfl, rfl⟩
      go_wp2_with fail
      go_ret
      rw [HF.out]
      exact ⟨rfl, HB.out⟩
    · have hfo := hf
      unfold Opn.form Opn.needs at hfo
      simp only [if_true, if_false, Int.reduceEq] at hfo
      have HN := Lib.hid hfo
      clear hf hfo
      go_enter Try.func5, Try.ntmps5
      go_wp2_with fail
      refine (l6Needs_calls HRow.out).mono ?_
      rw [HN.out]
      rintro e w1 ⟨rfl, rfl⟩
      go_wp2_with fail
      go_ret
      rw [HF.out]
      exact ⟨rfl, HB.out⟩
    · have hfo := hf
      unfold Opn.form Opn.needs at hfo
      simp only [if_true, if_false, Int.reduceEq] at hfo
      have HN := Lib.hid hfo
      clear hf hfo
      go_enter Try.func5, Try.ntmps5
      go_wp2_with fail
      refine (l6Needs_calls HRow.out).mono ?_
      rw [HN.out]
      rintro e w1 ⟨rfl, rfl⟩
      go_wp2_with fail
      go_ret
      rw [HF.out]
      exact ⟨rfl, HB.out⟩
    · have hfo := hf
      unfold Opn.form Opn.needs at hfo
      simp only [if_true, if_false, Int.reduceEq] at hfo
      have HN := Lib.hid hfo
      clear hf hfo
      go_enter Try.func5, Try.ntmps5
      go_wp2_with fail
      refine (l6Needs_calls HRow.out).mono ?_
      rw [HN.out]
      rintro e w1 ⟨rfl, rfl⟩
      go_wp2_with fail
      go_ret
      rw [HF.out]
      exact ⟨rfl, HB.out⟩
    · have hfo := hf
      unfold Opn.form Opn.needs at hfo
      simp only [if_true, if_false, Int.reduceEq] at hfo
      have HN := Lib.hid hfo
      clear hf hfo
      go_enter Try.func5, Try.ntmps5
      go_wp2_with fail
      refine (l6Needs_calls HRow.out).mono ?_
      rw [HN.out]
      rintro e w1 ⟨rfl, rfl⟩
      go_wp2_with fail
      go_ret
      rw [HF.out]
      exact ⟨rfl, HB.out⟩
    · have hfo := hf
      unfold Opn.form Opn.needs at hfo
      simp only [if_true, if_false, Int.reduceEq] at hfo
      have HN := Lib.hid hfo
      clear hf hfo
      go_enter Try.func5, Try.ntmps5
      go_wp2_with fail
      refine (l6Needs_calls HRow.out).mono ?_
      rw [HN.out]
      rintro e w1 ⟨rfl, rfl⟩
      go_wp2_with fail
      go_ret
      rw [HF.out]
      exact ⟨rfl, HB.out⟩
    · have hfo := hf
      unfold Opn.form Opn.needs at hfo
      simp only [if_true, if_false, Int.reduceEq] at hfo
      have HN := Lib.hid hfo
      clear hf hfo
      go_enter Try.func5, Try.ntmps5
      go_wp2_with fail
      refine (l6Needs_calls HRow.out).mono ?_
      rw [HN.out]
      rintro e w1 ⟨rfl, rfl⟩
      go_wp2_with fail
      go_ret
      rw [HF.out]
      exact ⟨rfl, HB.out⟩
    · have j1 : (k == 1) = false := by simp [k1]
      have j2 : (k == 2) = false := by simp [k2]
      have j3 : (k == 3) = false := by simp [k3]
      have j4 : (k == 4) = false := by simp [k4]
      have j5 : (k == 5) = false := by simp [k5]
      have j6 : (k == 6) = false := by simp [k6]
      have j7 : (k == 7) = false := by simp [k7]
      have j8 : (k == 8) = false := by simp [k8]
      clear hf k1 k2 k3 k4 k5 k6 k7 k8
      go_enter Try.func5, Try.ntmps5
      go_wp2_with fail
      go_ret
      rw [HF.out]
      exact ⟨rfl, HB.out⟩
  · have HF := Lib.hid (opFault_right hf)
    simp only [Opn.sized] at HF
    rcases hkinds with rfl | rfl | rfl | rfl | rfl | rfl | rfl | rfl | ⟨k1, k2, k3, k4, k5, k6, k7, k8⟩
    · have hfo := hf
      unfold Opn.form Opn.needs at hfo
      simp only [if_true, if_false, Int.reduceEq] at hfo
      have HN := Lib.hid hfo
      clear hf hfo
      go_enter Try.func5, Try.ntmps5
      go_wp2_with fail
      refine (l6Needs_calls HRow.out).mono ?_
      rw [HN.out]
      rintro e w1 ⟨rfl, rfl⟩
      go_wp2_with fail
      rcases h1 : within 1 64 [n] with _ | _
      · refine l1In_calls.mono ?_
        rw [h1]
        rintro e w2 ⟨rfl, rfl⟩
        go_wp2_with fail
        go_ret
        refine ⟨?_, HB.out⟩
        rw [HF.out]
        simp [h1]
      · refine l1In_calls.mono ?_
        rw [h1]
        rintro e w2 ⟨rfl, rfl⟩
        go_wp2_with fail
        rcases h2 : within (-1000000000) 1000000000 [v] with _ | _
        · refine l1Value_calls.mono ?_
          rw [h2]
          rintro e w2 ⟨rfl, rfl⟩
          go_wp2_with fail
          go_ret
          refine ⟨?_, HB.out⟩
          rw [HF.out]
          simp [h2]
        · refine l1Value_calls.mono ?_
          rw [h2]
          rintro e w2 ⟨rfl, rfl⟩
          go_wp2_with fail
          go_ret
          refine ⟨?_, HB.out⟩
          rw [HF.out]
          simp [h1, h2]
    · have hfo := hf
      unfold Opn.form Opn.needs at hfo
      simp only [if_true, if_false, Int.reduceEq] at hfo
      have HN := Lib.hid hfo
      clear hf hfo
      go_enter Try.func5, Try.ntmps5
      go_wp2_with fail
      refine (l6Needs_calls HRow.out).mono ?_
      rw [HN.out]
      rintro e w1 ⟨rfl, rfl⟩
      go_wp2_with fail
      rcases h1 : within 1 64 [n] with _ | _
      · refine l1In_calls.mono ?_
        rw [h1]
        rintro e w2 ⟨rfl, rfl⟩
        go_wp2_with fail
        go_ret
        refine ⟨?_, HB.out⟩
        rw [HF.out]
        simp [h1]
      · refine l1In_calls.mono ?_
        rw [h1]
        rintro e w2 ⟨rfl, rfl⟩
        go_wp2_with fail
        rcases h2 : within (-1000000000) 1000000000 [v] with _ | _
        · refine l1Value_calls.mono ?_
          rw [h2]
          rintro e w2 ⟨rfl, rfl⟩
          go_wp2_with fail
          go_ret
          refine ⟨?_, HB.out⟩
          rw [HF.out]
          simp [h2]
        · refine l1Value_calls.mono ?_
          rw [h2]
          rintro e w2 ⟨rfl, rfl⟩
          go_wp2_with fail
          go_ret
          refine ⟨?_, HB.out⟩
          rw [HF.out]
          simp [h1, h2]
    · have hfo := hf
      unfold Opn.form Opn.needs at hfo
      simp only [if_true, if_false, Int.reduceEq] at hfo
      have HN := Lib.hid hfo
      clear hf hfo
      go_enter Try.func5, Try.ntmps5
      go_wp2_with fail
      refine (l6Needs_calls HRow.out).mono ?_
      rw [HN.out]
      rintro e w1 ⟨rfl, rfl⟩
      go_wp2_with fail
      rcases h2 : within (-1000000000) 1000000000 [v] with _ | _
      · refine l1Value_calls.mono ?_
        rw [h2]
        rintro e w2 ⟨rfl, rfl⟩
        go_wp2_with fail
        go_ret
        refine ⟨?_, HB.out⟩
        rw [HF.out]
        simp [h2]
      · refine l1Value_calls.mono ?_
        rw [h2]
        rintro e w2 ⟨rfl, rfl⟩
        go_wp2_with fail
        go_ret
        refine ⟨?_, HB.out⟩
        rw [HF.out]
        simp [h2]
    · have hfo := hf
      unfold Opn.form Opn.needs at hfo
      simp only [if_true, if_false, Int.reduceEq] at hfo
      have HN := Lib.hid hfo
      clear hf hfo
      go_enter Try.func5, Try.ntmps5
      go_wp2_with fail
      refine (l6Needs_calls HRow.out).mono ?_
      rw [HN.out]
      rintro e w1 ⟨rfl, rfl⟩
      go_wp2_with fail
      rcases h1 : within 1 64 [n] with _ | _
      · refine l1In_calls.mono ?_
        rw [h1]
        rintro e w2 ⟨rfl, rfl⟩
        go_wp2_with fail
        go_ret
        refine ⟨?_, HB.out⟩
        rw [HF.out]
        simp [h1]
      · refine l1In_calls.mono ?_
        rw [h1]
        rintro e w2 ⟨rfl, rfl⟩
        go_wp2_with fail
        rcases h2 : within (-1000000000) 1000000000 [v] with _ | _
        · refine l1Value_calls.mono ?_
          rw [h2]
          rintro e w2 ⟨rfl, rfl⟩
          go_wp2_with fail
          go_ret
          refine ⟨?_, HB.out⟩
          rw [HF.out]
          simp [h2]
        · refine l1Value_calls.mono ?_
          rw [h2]
          rintro e w2 ⟨rfl, rfl⟩
          go_wp2_with fail
          go_ret
          refine ⟨?_, HB.out⟩
          rw [HF.out]
          simp [h1, h2]
    · have hfo := hf
      unfold Opn.form Opn.needs at hfo
      simp only [if_true, if_false, Int.reduceEq] at hfo
      have HN := Lib.hid hfo
      clear hf hfo
      go_enter Try.func5, Try.ntmps5
      go_wp2_with fail
      refine (l6Needs_calls HRow.out).mono ?_
      rw [HN.out]
      rintro e w1 ⟨rfl, rfl⟩
      go_wp2_with fail
      rcases h2 : within (-1000000000) 1000000000 [v] with _ | _
      · refine l1Value_calls.mono ?_
        rw [h2]
        rintro e w2 ⟨rfl, rfl⟩
        go_wp2_with fail
        go_ret
        refine ⟨?_, HB.out⟩
        rw [HF.out]
        simp [h2]
      · refine l1Value_calls.mono ?_
        rw [h2]
        rintro e w2 ⟨rfl, rfl⟩
        go_wp2_with fail
        go_ret
        refine ⟨?_, HB.out⟩
        rw [HF.out]
        simp [h2]
    · have hfo := hf
      unfold Opn.form Opn.needs at hfo
      simp only [if_true, if_false, Int.reduceEq] at hfo
      have HN := Lib.hid hfo
      clear hf hfo
      go_enter Try.func5, Try.ntmps5
      go_wp2_with fail
      refine (l6Needs_calls HRow.out).mono ?_
      rw [HN.out]
      rintro e w1 ⟨rfl, rfl⟩
      go_wp2_with fail
      rcases h2 : within (-1000000000) 1000000000 [v] with _ | _
      · refine l1Value_calls.mono ?_
        rw [h2]
        rintro e w2 ⟨rfl, rfl⟩
        go_wp2_with fail
        go_ret
        refine ⟨?_, HB.out⟩
        rw [HF.out]
        simp [h2]
      · refine l1Value_calls.mono ?_
        rw [h2]
        rintro e w2 ⟨rfl, rfl⟩
        go_wp2_with fail
        go_ret
        refine ⟨?_, HB.out⟩
        rw [HF.out]
        simp [h2]
    · have hfo := hf
      unfold Opn.form Opn.needs at hfo
      simp only [if_true, if_false, Int.reduceEq] at hfo
      have HN := Lib.hid hfo
      clear hf hfo
      go_enter Try.func5, Try.ntmps5
      go_wp2_with fail
      refine (l6Needs_calls HRow.out).mono ?_
      rw [HN.out]
      rintro e w1 ⟨rfl, rfl⟩
      go_wp2_with fail
      rcases h2 : within (-1000000000) 1000000000 [v] with _ | _
      · refine l1Value_calls.mono ?_
        rw [h2]
        rintro e w2 ⟨rfl, rfl⟩
        go_wp2_with fail
        go_ret
        refine ⟨?_, HB.out⟩
        rw [HF.out]
        simp [h2]
      · refine l1Value_calls.mono ?_
        rw [h2]
        rintro e w2 ⟨rfl, rfl⟩
        go_wp2_with fail
        go_ret
        refine ⟨?_, HB.out⟩
        rw [HF.out]
        simp [h2]
    · have hfo := hf
      unfold Opn.form Opn.needs at hfo
      simp only [if_true, if_false, Int.reduceEq] at hfo
      have HN := Lib.hid hfo
      clear hf hfo
      go_enter Try.func5, Try.ntmps5
      go_wp2_with fail
      refine (l6Needs_calls HRow.out).mono ?_
      rw [HN.out]
      rintro e w1 ⟨rfl, rfl⟩
      go_wp2_with fail
      rcases h2 : within (-1000000000) 1000000000 [v] with _ | _
      · refine l1Value_calls.mono ?_
        rw [h2]
        rintro e w2 ⟨rfl, rfl⟩
        go_wp2_with fail
        go_ret
        refine ⟨?_, HB.out⟩
        rw [HF.out]
        simp [h2]
      · refine l1Value_calls.mono ?_
        rw [h2]
        rintro e w2 ⟨rfl, rfl⟩
        go_wp2_with fail
        go_ret
        refine ⟨?_, HB.out⟩
        rw [HF.out]
        simp [h2]
    · exfalso
      unfold Opn.form at hf
      rw [if_neg k1, if_neg k2, if_neg k3, if_neg k4, if_neg k5, if_neg k6, if_neg k7, if_neg k8] at hf
      exact absurd hf (by decide)
end Go.Proofs.Ythpamclljdcjpaa

/- The exact law of OpFault. -/
namespace Go.Proofs.Ythpamclljdcjpaa
open Go.RowKit

set_option maxHeartbeats 800000 in
set_option maxRecDepth 100000 in
theorem lawOpFault {o : Opn} {w : World} :
    Calls Try.prog 3 #[.agg #[.int .i64 o.kind, .int .i64 o.at_, .int .i64 o.n, .int .i64 o.value]] w fun e w' => e = .returned (.bool true) ∧ Below w.heap.size w w' := by
  have HR : Hid (Row (w.alloc (.cells #[.int .i64 o.kind, .int .i64 o.at_, .int .i64 o.n, .int .i64 o.value] 23)) w.heap.size 23 #[.int .i64 o.kind, .int .i64 o.at_, .int .i64 o.n, .int .i64 o.value]) := heap_alloc_new _ _
  have HB : Hid (Below w.heap.size w (w.alloc (.cells #[.int .i64 o.kind, .int .i64 o.at_, .int .i64 o.n, .int .i64 o.value] 23))) := (Below.refl _ _).alloc (Nat.le_refl _) _
  go_enter Try.func3, Try.ntmps3
  go_wp2_with fail
  refine toOp_calls.mono ?_
  rintro e w1 ⟨rfl, hb1⟩
  have HB1 := Lib.hid (HB.out.trans (hb1.mono (by simp)))
  have HR1 := Lib.hid (HR.out.below hb1)
  clear hb1 HR HB
  go_wp2_with fail
  refine sOpFault_calls.mono ?_
  obtain ⟨p, hp⟩ : ∃ p, opFault o = p := ⟨_, rfl⟩
  have HP := Lib.hid hp
  rw [hp]
  clear hp
  rintro e w2 ⟨rfl, hb2⟩
  have HB2 := Lib.hid (HB1.out.trans (hb2.mono HB1.out.size))
  have R2 := HR1.out.below hb2
  have HR2 := Lib.hid R2
  have q0 := R2.cell 0
  have q1 := R2.cell 1
  have q2 := R2.cell 2
  have q3 := R2.cell 3
  have ql := R2.lt
  simp at q0 q1 q2 q3
  have hpp : (p != p) = false := by simp
  clear hb2 R2 HR1 HB1
  go_wp2_with fail
  refine toOp_calls.mono ?_
  rintro e w3 ⟨rfl, hb3⟩
  have HB3 := Lib.hid (HB2.out.trans (hb3.mono HB2.out.size))
  clear hb3 HB2 HR2 q0 q1 q2 q3 ql
  go_wp2_with fail
  refine opFault_calls.mono ?_
  rw [HP.out]
  rintro e w4 ⟨rfl, hb4⟩
  have HB4 := Lib.hid (HB3.out.trans (hb4.mono HB3.out.size))
  clear hb4 HB3
  go_wp2_with fail
  go_ret
  exact ⟨rfl, HB4.out⟩
end Go.Proofs.Ythpamclljdcjpaa

/- Pages that came in, opened to what is known of them in memory. -/
namespace Go.Proofs.Ythpamclljdcjpaa
open Go.Joins Go.ChangeShapes Go.WideShapes Go.RowKit Go.Deep
set_option linter.unusedVariables false

theorem maxLen_le : maxLen ≤ 9223372036854775807 := by decide
section
variable {H : Type} {enc : TypeId × Value → H} {P : Program} {w : World} {base : Nat} {spare : Nat → Bool} {held : Bool}
/-- A slice that came in reads as a list, where each of its elements reads. -/
theorem lst_of_trod {α : Type} {K : Lay α} {t e : TypeId} {fuel : Nat} {cs : List Value} {x : DataW H × List MemPlace} (ht : P.underlying t = some (.slice e)) (hC : P.cellsOf e = K.sz) (hz : 0 < K.sz)
    (hK : ∀ (fuel : Nat) (cs : List Value) (x : DataW H × List MemPlace), cs.length = K.sz → DataW.trod enc P w base spare held fuel e cs = some x → ∃ d, K.rd w (fun _ => True) cs d)
    (h : DataW.trod enc P w base spare held fuel t cs = some x) : ∃ a n c xs, cs = [.slice a n c] ∧ n ≤ c ∧ c ≤ maxLen ∧ Lst K w (fun _ => True) a n xs := by
  rcases open_slice ht h with h0 | ⟨a, len, cap, m, n, D, Pl, hcs, hb, hl, hm, hmm, hx, hi⟩
  · exact ⟨none, 0, 0, [], h0.1, Nat.le_refl _, Nat.zero_le _, Lst.nil⟩
  · have hel : ∀ i, i < len → ∃ cs' d, cs'.length = K.sz ∧ (∀ j, j < K.sz → w.cell? ((a.add (i * K.sz)).add j) = cs'[j]?) ∧ K.rd w (fun _ => True) cs' d := by
      intro i hi'
      have him : i < m := by rw [hmm]; split <;> omega
      obtain ⟨cs', hc, ht'⟩ := hi i him
      rw [hC] at hc
      obtain ⟨_, hcl, hat⟩ := World.cells?_some hc
      obtain ⟨d, hd⟩ := hK _ _ _ hcl ht'
      exact ⟨cs', d, hcl, fun j hj => hat j hj, hd⟩
    have hlist : ∀ k, k ≤ len → ∃ xs : List α, xs.length = k ∧ ∀ (i : Nat) (d : α), xs[i]? = some d → ∃ cs', cs'.length = K.sz ∧ (∀ j, j < K.sz → w.cell? ((a.add (i * K.sz)).add j) = cs'[j]?) ∧ K.rd w (fun _ => True) cs' d := by
      intro k
      induction k with
      | zero => exact fun _ => ⟨[], rfl, fun i d hd => by simp at hd⟩
      | succ k ih =>
        intro hk
        obtain ⟨xs, hxl, hxs⟩ := ih (by omega)
        obtain ⟨cs', d, h1, h2, h3⟩ := hel k (by omega)
        refine ⟨xs ++ [d], by simp [hxl], fun i d' hd => ?_⟩
        by_cases e : i < k
        · rw [List.getElem?_append_left (by omega)] at hd; exact hxs i d' hd
        · have hi' : i = k := by have := (List.getElem?_eq_some_iff.1 hd).1; simp at this; omega
          subst hi'
          rw [List.getElem?_append_right (by omega), hxl, Nat.sub_self] at hd
          simp at hd; subst hd
          exact ⟨cs', h1, h2, h3⟩
    obtain ⟨xs, hxl, hxs⟩ := hlist len (Nat.le_refl _)
    refine ⟨some a, len, cap, xs, hcs, hl, hm, hxl, fun h0 => ?_⟩
    obtain ⟨b, off, spot⟩ := a
    obtain ⟨cs0, d0, hl0, hc0, _⟩ := hel 0 h0
    have e0 : w.cell? (((⟨b, off, spot⟩ : Addr).add (0 * K.sz)).add 0) = some (cs0[0]'(by omega)) := by rw [hc0 0 hz]; exact List.getElem?_eq_getElem _
    have hspot : spot = none := by simpa [Addr.add] using World.cell?_spot e0
    subst hspot
    have hb' : b < w.heap.size := by
      have := World.block_lt_of_cell? w _ e0
      rwa [add_block, add_block] at this
    refine ⟨b, off, rfl, hb', trivial, fun j d hd => ?_⟩
    obtain ⟨cs', h1, h2, h3⟩ := hxs j d hd
    refine ⟨cs', h1, fun i hi' => ?_, h3⟩
    rw [← h2 i hi', Go.WideShapes.add_plain, Go.WideShapes.add_plain]
end

section
variable {H : Type} {enc : TypeId × Value → H} {P : Program} {w : World} {base : Nat} {spare : Nat → Bool} {held : Bool}
theorem four_fields {t : TypeId} {f0 f1 f2 f3 : Field} {fuel : Nat} {c0 c1 c2 c3 : Value} {x : DataW H × List MemPlace} (hs : P.underlying t = some (.struct #[f0, f1, f2, f3])) (hone : oneCellFields P #[f0, f1, f2, f3] = true)
    (h : DataW.trod enc P w base spare held fuel t [c0, c1, c2, c3] = some x) :
    ∃ (n : Nat) (y0 y1 y2 y3 : DataW H × List MemPlace), DataW.trod enc P w base spare held n f0.type [c0] = some y0 ∧ DataW.trod enc P w base spare held n f1.type [c1] = some y1 ∧ DataW.trod enc P w base spare held n f2.type [c2] = some y2 ∧ DataW.trod enc P w base spare held n f3.type [c3] = some y3 := by
  obtain ⟨y0, y1, y2, y3, n, _, _, h0, h1, h2, h3⟩ := trod_struct4 hs h
  obtain ⟨o0, k0⟩ := hone_of hone 0 f0 rfl
  obtain ⟨o1, k1⟩ := hone_of hone 1 f1 rfl
  obtain ⟨o2, k2⟩ := hone_of hone 2 f2 rfl
  obtain ⟨o3, k3⟩ := hone_of hone 3 f3 rfl
  exact ⟨n, y0, y1, y2, y3, by simpa [o0, k0] using h0, by simpa [o1, k1] using h1, by simpa [o2, k2] using h2, by simpa [o3, k3] using h3⟩
end

section
variable {H : Type} {enc : TypeId × Value → H} {w : World} {base : Nat} {spare : Nat → Bool} {held : Bool}
theorem bool_of_trod {fuel : Nat} {cs : List Value} {x : DataW H × List MemPlace} (h : DataW.trod enc Try.prog w base spare held fuel 4 cs = some x) : ∃ d, KBool.rd w (fun _ => True) cs d := by
  obtain ⟨b, rfl, _⟩ := DataW.trod_bool Try.underlying4 h
  exact ⟨b, rfl⟩
end
end Go.Proofs.Ythpamclljdcjpaa

/- A heap that came in, opened to what is known of it in memory. -/
namespace Go.Proofs.Ythpamclljdcjpaa
open Go.Joins Go.ChangeShapes Go.WideShapes Go.RowKit Go.Deep
set_option linter.unusedVariables false

section
variable {H : Type} {enc : TypeId × Value → H} {P : Program} {w : World} {base : Nat} {spare : Nat → Bool} {held : Bool}
theorem three_fields {t : TypeId} {f0 f1 f2 : Field} {fuel : Nat} {c0 c1 c2 : Value} {x : DataW H × List MemPlace} (hs : P.underlying t = some (.struct #[f0, f1, f2])) (hone : oneCellFields P #[f0, f1, f2] = true)
    (h : DataW.trod enc P w base spare held fuel t [c0, c1, c2] = some x) :
    ∃ (n : Nat) (y0 y1 y2 : DataW H × List MemPlace), DataW.trod enc P w base spare held n f0.type [c0] = some y0 ∧ DataW.trod enc P w base spare held n f1.type [c1] = some y1 ∧ DataW.trod enc P w base spare held n f2.type [c2] = some y2 := by
  obtain ⟨y0, y1, y2, n, _, _, h0, h1, h2⟩ := trod_struct3 hs h
  obtain ⟨o0, k0⟩ := hone_of hone 0 f0 rfl
  obtain ⟨o1, k1⟩ := hone_of hone 1 f1 rfl
  obtain ⟨o2, k2⟩ := hone_of hone 2 f2 rfl
  exact ⟨n, y0, y1, y2, by simpa [o0, k0] using h0, by simpa [o1, k1] using h1, by simpa [o2, k2] using h2⟩
end

section
variable {H : Type} {enc : TypeId × Value → H} {w : World} {base : Nat} {spare : Nat → Bool} {held : Bool}
theorem int_of_trod {fuel : Nat} {cs : List Value} {x : DataW H × List MemPlace} (h : DataW.trod enc Try.prog w base spare held fuel 2 cs = some x) : ∃ d, KInt.rd w (fun _ => True) cs d := by
  obtain ⟨b, rfl, _⟩ := DataW.trod_int Try.underlying2 h
  exact ⟨b, rfl⟩
theorem mag_of_trod {fuel : Nat} {cs : List Value} {x : DataW H × List MemPlace} (h : DataW.trod enc Try.prog w base spare held fuel 47 cs = some x) : ∃ d, KMag.rd w (fun _ => True) cs d := by
  obtain ⟨a, n, c, xs, rfl, hn, hc, hL⟩ := lst_of_trod (K := KInt) Try.underlying47 (by kernel_rfl) (by decide) (fun _ _ _ _ h => int_of_trod h) h
  exact ⟨xs, KMag_rd_mk hn hc hL⟩
end
end Go.Proofs.Ythpamclljdcjpaa

/- An op that came in, opened to what is known of it. -/
namespace Go.Proofs.Ythpamclljdcjpaa
open Go.Joins Go.ChangeShapes Go.WideShapes Go.RowKit Go.Deep
set_option linter.unusedVariables false

section
variable {H : Type} {enc : TypeId × Value → H} {w : World} {base : Nat} {spare : Nat → Bool} {held : Bool}
set_option maxRecDepth 100000 in
/-- An op that came in. -/
theorem open_op {r : Reach} {b0 : Nat} {v : Value} {d : DataW H} {p : List MemPlace} (hv : Value.okWide Try.prog w r b0 23 v) (h : DataW.Trod enc Try.prog w base spare held 23 v d p) :
    ∃ q : Opn, v = .agg #[.int .i64 q.kind, .int .i64 q.at_, .int .i64 q.n, .int .i64 q.value] := by
  obtain ⟨cs, rfl, hsz⟩ := okWide_struct Try.underlying23 hv
  have h4 : Try.prog.cellsOf 23 = 4 := (by kernel_rfl)
  rw [h4] at hsz
  obtain ⟨fuel, hf⟩ := h
  obtain ⟨l⟩ := cs
  match l, hsz with
  | [c0, c1, c2, c3], _ =>
    obtain ⟨n, y0, y1, y2, y3, t0, t1, t2, t3⟩ := four_fields Try.underlying23 (by kernel_rfl) (by simpa [Value.cells] using hf)
    obtain ⟨k0, e0, _⟩ := DataW.trod_int Try.underlying2 t0
    obtain ⟨k1, e1, _⟩ := DataW.trod_int Try.underlying2 t1
    obtain ⟨k2, e2, _⟩ := DataW.trod_int Try.underlying2 t2
    obtain ⟨k3, e3, _⟩ := DataW.trod_int Try.underlying2 t3
    simp at e0 e1 e2 e3
    subst e0 e1 e2 e3
    exact ⟨⟨k0, k1, k2, k3⟩, rfl⟩
end
end Go.Proofs.Ythpamclljdcjpaa
