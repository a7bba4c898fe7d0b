/- Data that lead to further memory, told once for all types: how a datum lies in cells, slices that are read, slices that own all they lead to. -/
import Derived.Test.YtkikjoalhohlgaaBase
namespace Go.Proofs.Ytkikjoalhohlgaa
open Go.RowKit

/-- w' is w with new blocks, and with writes to the blocks T alone. -/
structure Turn (T : Nat → Prop) (w w' : World) : Prop where
  os : w'.os = w.os
  tape : w'.tape = w.tape
  output : w'.output = w.output
  size : w.heap.size ≤ w'.heap.size
  block : ∀ k, k < w.heap.size → ¬ T k → w'.heap[k]? = w.heap[k]?

theorem Turn.refl (T : Nat → Prop) (w : World) : Turn T w w := ⟨rfl, rfl, rfl, Nat.le_refl _, fun _ _ _ => rfl⟩
theorem Turn.trans {T U : Nat → Prop} {a b c : World} (h : Turn T a b) (k : Turn U b c) (hU : ∀ i, U i → i < a.heap.size → T i) : Turn T a c :=
  ⟨k.os.trans h.os, k.tape.trans h.tape, k.output.trans h.output, Nat.le_trans h.size k.size, fun i hi hn => (k.block i (Nat.lt_of_lt_of_le hi h.size) (fun hu => hn (hU i hu hi))).trans (h.block i hi hn)⟩
theorem Turn.mono {T U : Nat → Prop} {a b : World} (h : Turn T a b) (hU : ∀ i, T i → i < a.heap.size → U i) : Turn U a b :=
  ⟨h.os, h.tape, h.output, h.size, fun i hi hn => h.block i hi (fun ht => hn (hU i ht hi))⟩
theorem Turn.of_below {T : Nat → Prop} {w w' : World} (h : Below w.heap.size w w') : Turn T w w' := ⟨h.os, h.tape, h.output, h.size, fun k hk _ => h.block k hk⟩
theorem Turn.of_grown {w w' : World} {v : Value} (h : w.grownBy w' v.ownBlock) : Turn (fun k => v.ownBlock = some k) w w' := ⟨h.os, h.tape, h.output, h.size, fun k hk hn => h.block k hk (fun e => hn e.symm)⟩
theorem Turn.below {T : Nat → Prop} {B : Nat} {w0 w w' : World} (hb : Below B w0 w) (h : Turn T w w') (hB : B ≤ w.heap.size) (hT : ∀ k, T k → B ≤ k) : Below B w0 w' :=
  ⟨h.os.trans hb.os, h.tape.trans hb.tape, h.output.trans hb.output, Nat.le_trans hb.size h.size, fun k hk => (h.block k (by omega) (fun ht => by have := hT k ht; omega)).trans (hb.block k hk)⟩
theorem Turn.none_ {w w' : World} (h : Turn (fun _ => False) w w') : Below w.heap.size w w' := Turn.below (Below.refl _ _) h (Nat.le_refl _) (fun _ h => h.elim)
theorem Turn.set (w : World) (a : Addr) (u : Value) : Turn (fun k => k = a.block) w (w.setCell a u) := ⟨rfl, rfl, rfl, by simp [World.setCell], fun k _ hn => heap_setCell_other w a k _ hn⟩
theorem Turn.setRow (w : World) (g : Nat) (cs : Array Value) : Turn (fun k => k = g) w (w.setRow g cs) := ⟨rfl, rfl, rfl, by simp, fun k _ hn => setRow_other w g k cs hn⟩
theorem Turn.alloc (T : Nat → Prop) (w : World) (o : Obj) : Turn T w (w.alloc o) := Turn.of_below ((Below.refl _ _).alloc (Nat.le_refl _) o)
theorem Turn.drewN {T : Nat → Prop} {w w' : World} (h : Turn T w w') (n : Nat) : Turn T w (w'.drewN n) := ⟨h.os, h.tape, h.output, h.size, h.block⟩
theorem Turn.row {T : Nat → Prop} {w w' : World} {b : Nat} {t : TypeId} {cs : Array Value} (h : Turn T w w') (hr : Row w b t cs) (hn : ¬ T b) : Row w' b t cs := (h.block b hr.lt hn).trans hr

/-- How a datum lies in cells. 'rd': it reads so, in blocks of S. 'own': all that it leads to lies in blocks of S, each of them its own. -/
structure Lay (α : Type) where
  sz : Nat
  rd : World → (Nat → Prop) → List Value → α → Prop
  own : World → (Nat → Prop) → List Value → α → Prop
  rd_len : ∀ {w S cs x}, rd w S cs x → cs.length = sz
  rd_turn : ∀ {w w' S T cs x}, rd w S cs x → Turn T w w' → (∀ k, S k → k < w.heap.size → ¬ T k) → rd w' S cs x
  rd_mono : ∀ {w S S' cs x}, rd w S cs x → (∀ k, S k → k < w.heap.size → S' k) → rd w S' cs x
  own_turn : ∀ {w w' S T cs x}, own w S cs x → Turn T w w' → (∀ k, S k → k < w.heap.size → ¬ T k) → own w' S cs x
  own_mono : ∀ {w S S' cs x}, own w S cs x → (∀ k, S k → k < w.heap.size → S' k) → own w S' cs x
  own_rd : ∀ {w S cs x}, own w S cs x → rd w S cs x

/-- The slice of n elements at 'ao' reads as xs, in blocks of S. -/
def Lst {α : Type} (K : Lay α) (w : World) (S : Nat → Prop) (ao : Option Addr) (n : Nat) (xs : List α) : Prop :=
  xs.length = n ∧ (0 < n → ∃ b off, ao = some ⟨b, off, none⟩ ∧ b < w.heap.size ∧ S b ∧ ∀ j x, xs[j]? = some x → ∃ cs, cs.length = K.sz ∧ (∀ i, i < K.sz → w.cell? ⟨b, off + j * K.sz + i, none⟩ = cs[i]?) ∧ K.rd w S cs x)

section
variable {α : Type} {K : Lay α} {w w' : World} {S S' T : Nat → Prop} {ao : Option Addr} {n : Nat} {xs : List α}
theorem Lst.turn (h : Lst K w S ao n xs) (ht : Turn T w w') (hd : ∀ k, S k → k < w.heap.size → ¬ T k) : Lst K w' S ao n xs := by
  refine ⟨h.1, fun h0 => ?_⟩
  obtain ⟨b, off, rfl, hb, hs, hc⟩ := h.2 h0
  refine ⟨b, off, rfl, Nat.lt_of_lt_of_le hb ht.size, hs, fun j x hj => ?_⟩
  obtain ⟨cs, hl, hcs, hr⟩ := hc j x hj
  exact ⟨cs, hl, fun i hi => by rw [World.cell?_of_block (w := w) (a := ⟨b, _, none⟩) (ht.block b hb (hd b hs hb))]; exact hcs i hi, K.rd_turn hr ht hd⟩
theorem Lst.below (h : Lst K w S ao n xs) (hb : Below w.heap.size w w') : Lst K w' S ao n xs := h.turn (T := fun _ => False) (Turn.of_below hb) (fun _ _ _ h => h)
theorem Lst.alloc (h : Lst K w S ao n xs) (o : Obj) : Lst K (w.alloc o) S ao n xs := h.below ((Below.refl _ _).alloc (Nat.le_refl _) o)
theorem Lst.mono (h : Lst K w S ao n xs) (hS : ∀ k, S k → k < w.heap.size → S' k) : Lst K w S' ao n xs := by
  refine ⟨h.1, fun h0 => ?_⟩
  obtain ⟨b, off, rfl, hb, hs, hc⟩ := h.2 h0
  refine ⟨b, off, rfl, hb, hS b hs hb, fun j x hj => ?_⟩
  obtain ⟨cs, hl, hcs, hr⟩ := hc j x hj
  exact ⟨cs, hl, hcs, K.rd_mono hr hS⟩
theorem Lst.nil : Lst K w S ao 0 [] := ⟨rfl, fun h => absurd h (by omega)⟩
theorem Lst.at_ (h : Lst K w S ao n xs) {j : Nat} (hj : j < n) : ∃ b off cs x, ao = some ⟨b, off, none⟩ ∧ b < w.heap.size ∧ S b ∧ xs[j]? = some x ∧ cs.length = K.sz ∧ (∀ i, i < K.sz → w.cell? ⟨b, off + j * K.sz + i, none⟩ = cs[i]?) ∧ K.rd w S cs x := by
  obtain ⟨b, off, rfl, hb, hs, hc⟩ := h.2 (by omega)
  have hx : xs[j]? = some (xs[j]'(by have := h.1; omega)) := List.getElem?_eq_getElem _
  obtain ⟨cs, hl, hcs, hr⟩ := hc j _ hx
  exact ⟨b, off, cs, _, rfl, hb, hs, hx, hl, hcs, hr⟩
theorem Lst.lt (h : Lst K w S ao n xs) (h0 : 0 < n) : ∃ b off, ao = some ⟨b, off, none⟩ ∧ b < w.heap.size ∧ S b := by
  obtain ⟨b, off, rfl, hb, hs, _⟩ := h.2 h0
  exact ⟨b, off, rfl, hb, hs⟩
/-- A part of a slice. -/
theorem Lst.part {b off : Nat} (h : Lst K w S (some ⟨b, off, none⟩) n xs) {i m : Nat} (hi : i + m ≤ n) : Lst K w S (some ⟨b, off + i * K.sz, none⟩) m ((xs.drop i).take m) := by
  have hl := h.1
  refine ⟨by simp; omega, fun h0 => ?_⟩
  obtain ⟨b', off', he, hb, hs, hc⟩ := h.2 (by omega)
  injection he with he
  injection he with he1 he2
  subst he1 he2
  refine ⟨b, _, rfl, hb, hs, fun j x hj => ?_⟩
  rw [List.getElem?_take] at hj
  split at hj
  · rw [List.getElem?_drop] at hj
    obtain ⟨cs, hl, hcs, hr⟩ := hc _ x hj
    exact ⟨cs, hl, fun q hq => by rw [← hcs q hq, show off + i * K.sz + j * K.sz + q = off + (i + j) * K.sz + q by rw [Nat.add_mul]; omega], hr⟩
  · cases hj
end

/-- The slice value v, of n elements of type t, owns the elements xs and all that they lead to, in blocks of S. -/
def Own {α : Type} (K : Lay α) (t : TypeId) (w : World) (S : Nat → Prop) (v : Value) (n : Nat) (xs : List α) : Prop :=
  xs.length = n ∧ ((v = .slice none 0 0 ∧ n = 0) ∨ ∃ (g cap : Nat) (cur : Array Value) (F : Nat → Nat → Prop), v = .slice (some ⟨g, 0, none⟩) n cap ∧ S g ∧ Row w g t cur ∧ n ≤ cap ∧ cap ≤ maxLen ∧ cur.size = cap * K.sz ∧
    (∀ j k, F j k → S k ∧ k ≠ g) ∧ (∀ i j k, F i k → F j k → i = j) ∧ ∀ j x, xs[j]? = some x → ∃ cs, cs.length = K.sz ∧ (∀ i, i < K.sz → cur[j * K.sz + i]? = cs[i]?) ∧ K.own w (F j) cs x)

section
variable {α : Type} {K : Lay α} {t : TypeId} {w w' : World} {S S' T : Nat → Prop} {v : Value} {n : Nat} {xs : List α}
theorem Own.nil : Own K t w S (.slice none 0 0) 0 [] := ⟨rfl, .inl ⟨rfl, rfl⟩⟩
theorem Own.turn (h : Own K t w S v n xs) (ht : Turn T w w') (hd : ∀ k, S k → k < w.heap.size → ¬ T k) : Own K t w' S v n xs := by
  refine ⟨h.1, ?_⟩
  rcases h.2 with h2 | ⟨g, cap, cur, F, hv, hg, hr, h1, h2, h3, hF, hD, hc⟩
  · exact .inl h2
  · refine .inr ⟨g, cap, cur, F, hv, hg, ht.row hr (hd g hg hr.lt), h1, h2, h3, hF, hD, fun j x hj => ?_⟩
    obtain ⟨cs, hl, hcs, ho⟩ := hc j x hj
    exact ⟨cs, hl, hcs, K.own_turn ho ht (fun k hk => hd k (hF j k hk).1)⟩
theorem Own.below (h : Own K t w S v n xs) (hb : Below w.heap.size w w') : Own K t w' S v n xs := h.turn (T := fun _ => False) (Turn.of_below hb) (fun _ _ _ h => h)
theorem Own.alloc (h : Own K t w S v n xs) (o : Obj) : Own K t (w.alloc o) S v n xs := h.below ((Below.refl _ _).alloc (Nat.le_refl _) o)
theorem Own.mono (h : Own K t w S v n xs) (hS : ∀ k, S k → k < w.heap.size → S' k) : Own K t w S' v n xs := by
  refine ⟨h.1, ?_⟩
  rcases h.2 with h2 | ⟨g, cap, cur, F, hv, hg, hr, h1, h2, h3, hF, hD, hc⟩
  · exact .inl h2
  · refine .inr ⟨g, cap, cur, fun j k => F j k ∧ k < w.heap.size, hv, hS g hg hr.lt, hr, h1, h2, h3, fun j k hk => ⟨hS k (hF j k hk.1).1 hk.2, (hF j k hk.1).2⟩, fun i j k hi hj => hD i j k hi.1 hj.1, fun j x hj => ?_⟩
    obtain ⟨cs, hl, hcs, ho⟩ := hc j x hj
    exact ⟨cs, hl, hcs, K.own_mono ho (fun k hk hlt => ⟨hk, hlt⟩)⟩
theorem Own.shape (h : Own K t w S v n xs) : ∃ ao cap, v = .slice ao n cap ∧ n ≤ cap ∧ cap ≤ maxLen ∧ Lst K w S ao n xs := by
  rcases h.2 with ⟨rfl, rfl⟩ | ⟨g, cap, cur, F, hv, hg, hr, h1, h2, h3, hF, hD, hc⟩
  · exact ⟨none, 0, rfl, Nat.le_refl _, Nat.zero_le _, h.1, fun h => absurd h (by omega)⟩
  · refine ⟨_, cap, hv, h1, h2, h.1, fun _ => ⟨g, 0, rfl, hr.lt, hg, fun j x hj => ?_⟩⟩
    obtain ⟨cs, hl, hcs, ho⟩ := hc j x hj
    exact ⟨cs, hl, fun i hi => by rw [Nat.zero_add, hr.cell]; exact hcs i hi, K.rd_mono (K.own_rd ho) (fun k hk _ => (hF j k hk).1)⟩
theorem Own.lst {ao : Option Addr} {m cap : Nat} (h : Own K t w S (.slice ao m cap) n xs) : n = m ∧ n ≤ cap ∧ cap ≤ maxLen ∧ Lst K w S ao n xs := by
  obtain ⟨ao', cap', he, h1, h2, h3⟩ := h.shape
  injection he with e1 e2 e3
  subst e1 e2 e3
  exact ⟨rfl, h1, h2, h3⟩
/-- It owns none but blocks that are there. -/
theorem Own.here (h : Own K t w S v n xs) : Own K t w (fun k => S k ∧ k < w.heap.size) v n xs := h.mono (fun _ h hl => ⟨h, hl⟩)
theorem Own.fresh {B : Nat} (h : Own K t w (fun k => B ≤ k) v n xs) {B' : Nat} (hB : B' ≤ B) : Own K t w (fun k => B' ≤ k) v n xs := h.mono (fun _ h _ => Nat.le_trans hB h)
end

/-- Of block g just the cells from off on have turned: they are cs now. -/
def Upd (w w' : World) (t : TypeId) (g off : Nat) (cs : List Value) : Prop :=
  ∃ cur cur', Row w g t cur ∧ Row w' g t cur' ∧ cur'.size = cur.size ∧ (∀ i, (i < off ∨ off + cs.length ≤ i) → cur'[i]? = cur[i]?) ∧ ∀ i, i < cs.length → cur'[off + i]? = cs[i]?
theorem Upd.refl {w : World} {t : TypeId} {g off : Nat} {cur : Array Value} {cs : List Value} (hr : Row w g t cur) (hc : ∀ i, i < cs.length → cur[off + i]? = cs[i]?) : Upd w w t g off cs :=
  ⟨cur, cur, hr, hr, rfl, fun _ _ => rfl, hc⟩
theorem Upd.turn {w w1 w2 : World} {t : TypeId} {g off : Nat} {cs : List Value} {T : Nat → Prop} (h : Upd w w1 t g off cs) (ht : Turn T w1 w2) (hg : ¬ T g) : Upd w w2 t g off cs := by
  obtain ⟨cur, cur', h1, h2, h3, h4, h5⟩ := h
  exact ⟨cur, cur', h1, ht.row h2 hg, h3, h4, h5⟩
theorem Upd.set {w w1 : World} {t : TypeId} {g off i : Nat} {cs : List Value} {u : Value} (h : Upd w w1 t g off cs) (hi : i < cs.length) : Upd w (w1.setCell ⟨g, off + i, none⟩ u) t g off (cs.set i u) := by
  obtain ⟨cur, cur', h1, h2, h3, h4, h5⟩ := h
  refine ⟨cur, cur'.setIfInBounds (off + i) u, h1, heap_setCell_same _ g (off + i) _ _ u h2, by simpa using h3, fun q hq => ?_, fun q hq => ?_⟩
  · rw [List.length_set] at hq
    rw [Array.getElem?_setIfInBounds_ne (by omega)]; exact h4 q hq
  · rw [List.length_set] at hq
    have hlt : off + i < cur'.size := by
      have := h5 i hi
      rw [List.getElem?_eq_getElem hi] at this
      exact (Array.getElem?_eq_some_iff.1 this).1
    by_cases e : q = i
    · subst e
      rw [Array.getElem?_setIfInBounds_self_of_lt hlt, List.getElem?_set_self hi]
    · rw [Array.getElem?_setIfInBounds_ne (by omega), List.getElem?_set_ne (by omega)]; exact h5 q hq
theorem Upd.cell {w w1 : World} {t : TypeId} {g off : Nat} {cs : List Value} (h : Upd w w1 t g off cs) : g < w1.heap.size ∧ (∀ i, i < cs.length → w1.cell? ⟨g, off + i, none⟩ = cs[i]?) ∧ ∀ i, w1.frozen? ⟨g, i, none⟩ = false := by
  obtain ⟨cur, cur', h1, h2, h3, h4, h5⟩ := h
  exact ⟨h2.lt, fun i hi => by rw [h2.cell]; exact h5 i hi, fun i => frozen_of_row w1 g i _ _ h2⟩

section
variable {α : Type} {K : Lay α} {t : TypeId} {w : World} {S : Nat → Prop} {v : Value} {n : Nat} {xs : List α}
/-- One element of what is owned: its cells, what it owns; and what is owned when it alone has turned. -/
theorem Own.focus (h : Own K t w S v n xs) {j : Nat} (hj : j < n) :
    ∃ g cap cs F x, v = .slice (some ⟨g, 0, none⟩) n cap ∧ S g ∧ xs[j]? = some x ∧ cs.length = K.sz ∧ Upd w w t g (j * K.sz) cs ∧ K.own w F cs x ∧ (∀ k, F k → S k ∧ k ≠ g ∧ k < w.heap.size) ∧
      ∀ (w' : World) (F' : Nat → Prop) (cs' : List Value) (x' : α), cs'.length = K.sz → Turn (fun k => F k ∨ k = g) w w' → Upd w w' t g (j * K.sz) cs' → K.own w' F' cs' x' → (∀ k, F' k → F k ∨ ¬ (S k ∧ k < w.heap.size)) →
        Own K t w' (fun k => S k ∨ F' k) v n (xs.set j x') := by
  have hl := h.1
  rcases h.here.2 with ⟨_, h2⟩ | ⟨g, cap, cur, F, rfl, hg, hr, h1, h2, h3, hF, hD, hc⟩
  · omega
  · have hx : xs[j]? = some (xs[j]'(by omega)) := List.getElem?_eq_getElem _
    obtain ⟨cs, hcl, hcs, ho⟩ := hc j _ hx
    refine ⟨g, cap, cs, F j, _, rfl, hg.1, hx, hcl, Upd.refl hr (by rw [hcl]; exact hcs), ho, fun k hk => ⟨(hF j k hk).1.1, (hF j k hk).2, (hF j k hk).1.2⟩, ?_⟩
    intro w' F' cs' x' hcl' ht hu ho' hF'
    obtain ⟨cur0, cur', hr0, hr', hs', hout, hin⟩ := hu
    have e := hr0.symm.trans hr
    injection e with e; injection e with e
    subst e
    refine ⟨by simpa using hl, .inr ⟨g, cap, cur', fun i k => (i = j ∧ F' k) ∨ (i ≠ j ∧ F i k), rfl, .inl hg.1, hr', h1, h2, hs'.trans h3, ?_, ?_, ?_⟩⟩
    · rintro i k (⟨rfl, hk⟩ | ⟨_, hk⟩)
      · rcases hF' k hk with h4 | h4
        · exact ⟨.inl (hF _ k h4).1.1, (hF _ k h4).2⟩
        · exact ⟨.inr hk, fun e => h4 (e ▸ hg)⟩
      · exact ⟨.inl (hF _ k hk).1.1, (hF _ k hk).2⟩
    · rintro i i' k (⟨rfl, hk⟩ | ⟨hi, hk⟩) (⟨rfl, hk'⟩ | ⟨hi', hk'⟩)
      · rfl
      · rcases hF' k hk with h4 | h4
        · exact hD _ _ k h4 hk'
        · exact absurd (hF _ k hk').1 h4
      · rcases hF' k hk' with h4 | h4
        · exact hD _ _ k hk h4
        · exact absurd (hF _ k hk).1 h4
      · exact hD _ _ k hk hk'
    · intro i x hi
      by_cases e : i = j
      · subst e
        rw [List.getElem?_set_self (by omega)] at hi
        injection hi with hi; subst hi
        exact ⟨cs', hcl', fun q hq => hin q (by omega), K.own_mono ho' (fun k hk _ => .inl ⟨rfl, hk⟩)⟩
      · rw [List.getElem?_set_ne (by omega)] at hi
        obtain ⟨ci, hcl2, hci, hoi⟩ := hc i x hi
        refine ⟨ci, hcl2, fun q hq => ?_, K.own_mono (K.own_turn hoi ht ?_) (fun k hk _ => .inr ⟨e, hk⟩)⟩
        · rw [hout _ ?_]
          · exact hci q hq
          · rw [hcl']
            rcases Nat.lt_or_gt_of_ne e with h5 | h5
            · left
              have := Nat.mul_le_mul_right K.sz (show i + 1 ≤ j by omega)
              rw [Nat.add_mul] at this; omega
            · right
              have := Nat.mul_le_mul_right K.sz (show j + 1 ≤ i by omega)
              rw [Nat.add_mul] at this; omega
        · rintro k hk hlt (h5 | h5)
          · exact e (hD _ _ k hk h5)
          · exact (hF _ k hk).2 h5
/-- A new slice of n elements, each one of cells that lead to nothing. -/
theorem Own.made {zs : List Value} {g : Nat} {cur : Array Value} {x : α} (hr : Row w g t cur) (hg : S g) (hn : n ≤ maxLen) (hs : cur.size = n * K.sz) (hz : zs.length = K.sz) (hc : ∀ j i, j < n → i < K.sz → cur[j * K.sz + i]? = zs[i]?)
    (ho : K.own w (fun _ => False) zs x) : Own K t w S (.slice (some ⟨g, 0, none⟩) n n) n (List.replicate n x) := by
  refine ⟨by simp, .inr ⟨g, n, cur, fun _ _ => False, rfl, hg, hr, Nat.le_refl _, hn, hs, fun _ _ h => h.elim, fun _ _ _ h => h.elim, fun j y hj => ?_⟩⟩
  rw [List.getElem?_replicate] at hj
  split at hj
  · injection hj with hj; subst hj
    exact ⟨zs, hz, fun i hi => hc j i (by assumption) hi, ho⟩
  · cases hj
/-- What an append of one element leaves. -/
theorem Own.row (h : Own K t w S v n xs) : ∃ cells, w.ownsRow 0 t K.sz v n cells ∧ (∀ g, v.ownBlock = some g → S g) ∧ ∃ F : Nat → Nat → Prop, (∀ j k, F j k → S k ∧ v.ownBlock ≠ some k) ∧ (∀ i j k, F i k → F j k → i = j) ∧
    ∀ j x, xs[j]? = some x → ∃ cs, cs.length = K.sz ∧ (∀ i, i < K.sz → cells[j * K.sz + i]? = cs[i]?) ∧ K.own w (F j) cs x := by
  have hl := h.1
  rcases h.2 with ⟨rfl, rfl⟩ | ⟨g, cap, cur, F, rfl, hg, hr, h1, h2, h3, hF, hD, hc⟩
  · refine ⟨[], World.ownsRow_nil _ _ _ _, fun g hg => by simp [Value.ownBlock] at hg, fun _ _ => False, fun _ _ h => h.elim, fun _ _ _ h => h.elim, fun j x hj => ?_⟩
    have := (List.getElem?_eq_some_iff.1 hj).1
    omega
  · refine ⟨cur.toList.take (n * K.sz), ⟨?_, .inr ⟨g, cap, cur, rfl, Nat.zero_le _, hr, h1, h2, h3, rfl⟩⟩, fun g' hg' => ?_, F, fun j k hk => ⟨(hF j k hk).1, fun e => ?_⟩, hD, fun j x hj => ?_⟩
    · rw [List.length_take, Array.length_toList, h3, Nat.min_eq_left (Nat.mul_le_mul_right _ h1)]
    · simp [Value.ownBlock] at hg'; exact hg' ▸ hg
    · simp [Value.ownBlock] at e; exact (hF j k hk).2 e.symm
    · obtain ⟨cs, hcl, hcs, ho⟩ := hc j x hj
      refine ⟨cs, hcl, fun i hi => ?_, ho⟩
      have hj' := (List.getElem?_eq_some_iff.1 hj).1
      have := Nat.mul_le_mul_right K.sz (show j + 1 ≤ n by omega)
      rw [Nat.add_mul] at this
      rw [List.getElem?_take, if_pos (by omega), ← hcs i hi]; simp
theorem Own.of_row {cells : List Value} {F : Nat → Nat → Prop} (hr : w.ownsRow 0 t K.sz v n cells) (hl : xs.length = n) (hS : ∀ g, v.ownBlock = some g → S g) (hF : ∀ j k, F j k → S k ∧ v.ownBlock ≠ some k) (hD : ∀ i j k, F i k → F j k → i = j)
    (hc : ∀ j x, xs[j]? = some x → ∃ cs, cs.length = K.sz ∧ (∀ i, i < K.sz → cells[j * K.sz + i]? = cs[i]?) ∧ K.own w (F j) cs x) : Own K t w S v n xs := by
  refine ⟨hl, ?_⟩
  rcases hr.2 with h2 | ⟨g, cap, cur, rfl, _, hh, h1, h2, h3, ht⟩
  · exact .inl h2
  · refine .inr ⟨g, cap, cur, F, rfl, hS g rfl, hh, h1, h2, h3, fun j k hk => ⟨(hF j k hk).1, fun e => (hF j k hk).2 (by rw [e]; rfl)⟩, hD, fun j x hj => ?_⟩
    obtain ⟨cs, hcl, hcs, ho⟩ := hc j x hj
    refine ⟨cs, hcl, fun i hi => ?_, ho⟩
    have hj' := (List.getElem?_eq_some_iff.1 hj).1
    have := Nat.mul_le_mul_right K.sz (show j + 1 ≤ n by omega)
    rw [Nat.add_mul] at this
    rw [← hcs i hi, ← ht, List.getElem?_take, if_pos (by omega)]; simp
theorem Own.snoc {w' : World} {v' : Value} {cells : List Value} {F : Nat → Nat → Prop} {G : Nat → Prop} {cs : List Value} {x : α} (hl : xs.length = n)
    (hS : ∀ g, v.ownBlock = some g → S g) (hF : ∀ j k, F j k → S k ∧ v.ownBlock ≠ some k) (hD : ∀ i j k, F i k → F j k → i = j) (hc : ∀ j x, xs[j]? = some x → ∃ cs, cs.length = K.sz ∧ (∀ i, i < K.sz → cells[j * K.sz + i]? = cs[i]?) ∧ K.own w (F j) cs x)
    (hcn : cells.length = n * K.sz) (hcs : cs.length = K.sz) (hx : K.own w G cs x) (hG : ∀ k, G k → k < w.heap.size → ¬ S k)
    (hr : w'.ownsRow 0 t K.sz v' (n + 1) (cells ++ cs)) (hg : w.grownBy w' v.ownBlock) (hv' : ∀ g, v'.ownBlock = some g → v.ownBlock = some g ∨ w.heap.size ≤ g) :
    Own K t w' (fun k => S k ∨ G k ∨ w.heap.size ≤ k) v' (n + 1) (xs ++ [x]) := by
  have ht := Turn.of_grown hg
  refine Own.of_row (F := fun j k => k < w.heap.size ∧ ((j < n ∧ F j k) ∨ (j = n ∧ G k))) hr (by simp [hl]) (fun g h => ?_) ?_ ?_ ?_
  · rcases hv' g h with h1 | h1
    · exact .inl (hS g h1)
    · exact .inr (.inr h1)
  · rintro j k ⟨hk, ⟨_, h1⟩ | ⟨_, h1⟩⟩
    · refine ⟨.inl (hF j k h1).1, fun e => ?_⟩
      rcases hv' k e with h2 | h2
      · exact (hF j k h1).2 h2
      · omega
    · refine ⟨.inr (.inl h1), fun e => ?_⟩
      rcases hv' k e with h2 | h2
      · exact hG k h1 hk (hS k h2)
      · omega
  · rintro i j k ⟨hk, ⟨hi, h1⟩ | ⟨hi, h1⟩⟩ ⟨_, ⟨hj, h2⟩ | ⟨hj, h2⟩⟩
    · exact hD _ _ k h1 h2
    · exact absurd (hF i k h1).1 (hG k h2 hk)
    · exact absurd (hF j k h2).1 (hG k h1 hk)
    · omega
  · intro j y hj
    by_cases e : j < n
    · rw [List.getElem?_append_left (by omega)] at hj
      obtain ⟨ci, hcl, hci, hoi⟩ := hc j y hj
      have := Nat.mul_le_mul_right K.sz (show j + 1 ≤ n by omega)
      rw [Nat.add_mul] at this
      refine ⟨ci, hcl, fun i hi => by rw [List.getElem?_append_left (by omega)]; exact hci i hi, ?_⟩
      have h1 := K.own_turn hoi ht (fun k hk _ e => (hF j k hk).2 e)
      exact K.own_mono (K.own_turn (K.own_mono hoi (S' := fun k => F j k ∧ k < w.heap.size) (fun k hk hlt => ⟨hk, hlt⟩)) ht (fun k hk _ e => (hF j k hk.1).2 e)) (fun k hk _ => ⟨hk.2, .inl ⟨e, hk.1⟩⟩)
    · have he : j = n := by
        have := (List.getElem?_eq_some_iff.1 hj).1
        simp at this; omega
      subst he
      rw [List.getElem?_append_right (by omega), hl, Nat.sub_self] at hj
      simp at hj; subst hj
      refine ⟨cs, hcs, fun i hi => by rw [List.getElem?_append_right (by omega), hcn, Nat.add_sub_cancel_left], ?_⟩
      have hx2 := K.own_mono hx (S' := fun k => G k ∧ k < w.heap.size) (fun k hk hlt => ⟨hk, hlt⟩)
      exact K.own_mono (K.own_turn hx2 ht (fun k hk hlt e => hG k hk.1 hlt (hS k e))) (fun k hk _ => ⟨hk.2, .inr ⟨rfl, hk.1⟩⟩)
end

/-- Whole numbers, truth values. -/
def KInt : Lay Int where
  sz := 1
  rd _ _ cs x := cs = [.int .i64 x]
  own _ _ cs x := cs = [.int .i64 x]
  rd_len h := by subst h; rfl
  rd_turn h _ _ := h
  rd_mono h _ := h
  own_turn h _ _ := h
  own_mono h _ := h
  own_rd h := h
def KBool : Lay Bool where
  sz := 1
  rd _ _ cs x := cs = [.bool x]
  own _ _ cs x := cs = [.bool x]
  rd_len h := by subst h; rfl
  rd_turn h _ _ := h
  rd_mono h _ := h
  own_turn h _ _ := h
  own_mono h _ := h
  own_rd h := h
/-- A slice is a datum of one cell. -/
def KSlice {α : Type} (K : Lay α) (t : TypeId) : Lay (List α) where
  sz := 1
  rd w S cs xs := ∃ ao n c, cs = [.slice ao n c] ∧ n ≤ c ∧ c ≤ maxLen ∧ Lst K w S ao n xs
  own w S cs xs := ∃ v n, cs = [v] ∧ Own K t w S v n xs
  rd_len := by rintro w S cs x ⟨_, _, _, rfl, _⟩; rfl
  rd_turn := by rintro w w' S T cs x ⟨a, n, c, rfl, h1, h2, h⟩ ht hd; exact ⟨a, n, c, rfl, h1, h2, h.turn ht hd⟩
  rd_mono := by rintro w S S' cs x ⟨a, n, c, rfl, h1, h2, h⟩ hd; exact ⟨a, n, c, rfl, h1, h2, h.mono hd⟩
  own_turn := by rintro w w' S T cs x ⟨v, n, rfl, h⟩ ht hd; exact ⟨v, n, rfl, h.turn ht hd⟩
  own_mono := by rintro w S S' cs x ⟨v, n, rfl, h⟩ hd; exact ⟨v, n, rfl, h.mono hd⟩
  own_rd := by
    rintro w S cs x ⟨v, n, rfl, h⟩
    obtain ⟨ao, c, rfl, h1, h2, h3⟩ := h.shape
    exact ⟨ao, n, c, rfl, h1, h2, h3⟩
/-- Two data, one behind the other. -/
def KPair {α β : Type} (A : Lay α) (B : Lay β) : Lay (α × β) where
  sz := A.sz + B.sz
  rd w S cs x := ∃ c1 c2, cs = c1 ++ c2 ∧ A.rd w S c1 x.1 ∧ B.rd w S c2 x.2
  own w S cs x := ∃ c1 c2 S1 S2, cs = c1 ++ c2 ∧ A.own w S1 c1 x.1 ∧ B.own w S2 c2 x.2 ∧ (∀ k, S1 k → S k) ∧ (∀ k, S2 k → S k) ∧ ∀ k, S1 k → ¬ S2 k
  rd_len := by rintro w S cs x ⟨c1, c2, rfl, h1, h2⟩; rw [List.length_append, A.rd_len h1, B.rd_len h2]
  rd_turn := by rintro w w' S T cs x ⟨c1, c2, rfl, h1, h2⟩ ht hd; exact ⟨c1, c2, rfl, A.rd_turn h1 ht hd, B.rd_turn h2 ht hd⟩
  rd_mono := by rintro w S S' cs x ⟨c1, c2, rfl, h1, h2⟩ hd; exact ⟨c1, c2, rfl, A.rd_mono h1 hd, B.rd_mono h2 hd⟩
  own_turn := by
    rintro w w' S T cs x ⟨c1, c2, S1, S2, rfl, h1, h2, h3, h4, h5⟩ ht hd
    exact ⟨c1, c2, S1, S2, rfl, A.own_turn h1 ht (fun k hk => hd k (h3 k hk)), B.own_turn h2 ht (fun k hk => hd k (h4 k hk)), h3, h4, h5⟩
  own_mono := by
    rintro w S S' cs x ⟨c1, c2, S1, S2, rfl, h1, h2, h3, h4, h5⟩ hd
    exact ⟨c1, c2, fun k => S1 k ∧ k < w.heap.size, fun k => S2 k ∧ k < w.heap.size, rfl, A.own_mono h1 (fun k hk hl => ⟨hk, hl⟩), B.own_mono h2 (fun k hk hl => ⟨hk, hl⟩), fun k hk => hd k (h3 k hk.1) hk.2, fun k hk => hd k (h4 k hk.1) hk.2, fun k hk hk2 => h5 k hk.1 hk2.1⟩
  own_rd := by
    rintro w S cs x ⟨c1, c2, S1, S2, rfl, h1, h2, h3, h4, h5⟩
    exact ⟨c1, c2, rfl, A.rd_mono (A.own_rd h1) (fun k hk _ => h3 k hk), B.rd_mono (B.own_rd h2) (fun k hk _ => h4 k hk)⟩
/-- The same datum under other names. -/
def KMap {α β : Type} (A : Lay α) (f : β → α) : Lay β where
  sz := A.sz
  rd w S cs x := A.rd w S cs (f x)
  own w S cs x := A.own w S cs (f x)
  rd_len h := A.rd_len h
  rd_turn h := A.rd_turn h
  rd_mono h := A.rd_mono h
  own_turn h := A.own_turn h
  own_mono h := A.own_mono h
  own_rd h := A.own_rd h
/-- Cells of which nothing is said but what they are. -/
def KCells (n : Nat) : Lay (List Value) where
  sz := n
  rd _ _ cs x := cs = x ∧ cs.length = n
  own _ _ cs x := cs = x ∧ cs.length = n
  rd_len h := h.2
  rd_turn h _ _ := h
  rd_mono h _ := h
  own_turn h _ _ := h
  own_mono h _ := h
  own_rd h := h
/-- One of two kinds of data in the same number of cells. -/
def KEither {α β : Type} (A : Lay α) (B : Lay β) (h : B.sz = A.sz) : Lay (α ⊕ β) where
  sz := A.sz
  rd w S cs x := match x with | .inl a => A.rd w S cs a | .inr b => B.rd w S cs b
  own w S cs x := match x with | .inl a => A.own w S cs a | .inr b => B.own w S cs b
  rd_len := by
    rintro w S cs (a | b) h1
    · exact A.rd_len h1
    · exact (B.rd_len h1).trans h
  rd_turn := by
    rintro w w' S T cs (a | b) h1
    · exact A.rd_turn h1
    · exact B.rd_turn h1
  rd_mono := by
    rintro w S S' cs (a | b) h1
    · exact A.rd_mono h1
    · exact B.rd_mono h1
  own_turn := by
    rintro w w' S T cs (a | b) h1
    · exact A.own_turn h1
    · exact B.own_turn h1
  own_mono := by
    rintro w S S' cs (a | b) h1
    · exact A.own_mono h1
    · exact B.own_mono h1
  own_rd := by
    rintro w S cs (a | b) h1
    · exact A.own_rd h1
    · exact B.own_rd h1

/-- Slices of numbers, as the elder texts have them. -/
theorem Lst.ints {w : World} {S : Nat → Prop} {ao : Option Addr} {n : Nat} {xs : List Int} (h : Lst KInt w S ao n xs) : Ints w ao n xs := by
  refine ⟨h.1, fun h0 => ?_⟩
  obtain ⟨b, off, rfl, hb, hs, hc⟩ := h.2 h0
  refine ⟨b, off, rfl, hb, fun j hj => ?_⟩
  have hjl : j < xs.length := by have := h.1; omega
  have hx : xs[j]? = some xs[j] := List.getElem?_eq_getElem _
  obtain ⟨cs, hl, hcs, hr⟩ := hc j _ hx
  have h1 := hcs 0 (show 0 < 1 by omega)
  rw [show cs = [.int .i64 xs[j]] from hr] at h1
  have h2 : w.cell? ⟨b, off + j, none⟩ = some (.int .i64 xs[j]) := by simpa [KInt] using h1
  rw [h2, List.getD_eq_getElem?_getD, hx]; rfl
theorem Ints.lst {w : World} {ao : Option Addr} {n : Nat} {xs : List Int} (h : Ints w ao n xs) : Lst KInt w (fun _ => True) ao n xs := by
  refine ⟨h.1, fun h0 => ?_⟩
  obtain ⟨b, off, rfl, hb, hc⟩ := h.2 h0
  refine ⟨b, off, rfl, hb, trivial, fun j x hj => ⟨[.int .i64 x], rfl, fun i hi => ?_, rfl⟩⟩
  obtain rfl : i = 0 := by have : i < 1 := hi; omega
  have hj' := (List.getElem?_eq_some_iff.1 hj).1
  have h1 := hc j (by have := h.1; omega)
  rw [List.getD_eq_getElem?_getD, hj] at h1
  simpa [KInt] using h1
/-- A slice of truth values: its cells. -/
theorem Lst.bool_at {w : World} {S : Nat → Prop} {ao : Option Addr} {n : Nat} {xs : List Bool} (h : Lst KBool w S ao n xs) {j : Nat} (hj : j < n) : ∃ b off, ao = some ⟨b, off, none⟩ ∧ b < w.heap.size ∧ w.cell? ⟨b, off + j, none⟩ = some (.bool (xs.getD j false)) := by
  obtain ⟨b, off, cs, x, rfl, hb, hs, hx, hl, hcs, hr⟩ := h.at_ hj
  refine ⟨b, off, rfl, hb, ?_⟩
  have h1 := hcs 0 (show 0 < 1 by omega)
  rw [show cs = [.bool x] from hr] at h1
  rw [List.getD_eq_getElem?_getD, hx]
  simpa [KBool] using h1
end Go.Proofs.Ytkikjoalhohlgaa
