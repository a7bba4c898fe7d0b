/- Joined texts (Work6, Impl6b, Impl6c, Spec5, Spec5b, Spec5c, Spec5d, Spec5e, Spec5f, App5): steps of the proofs of chapter 5's laws. -/
import Derived.Deep.RegionHeld3
import Derived.IntWalk
import Derived.Test.YthpamclljdcjpaaGreatDoorM3
import Derived.Test.YthpamclljdcjpaaGreatDoorM4
import Derived.Test.YthpamclljdcjpaaGreatDoorM6
import Derived.Test.YthpamclljdcjpaaGreatDoorM8
import Derived.Test.YthpamclljdcjpaaGreatDoorM9
import Derived.Test.YthpamclljdcjpaaGreatDoorM10
set_option linter.unusedVariables false
set_option linter.unusedSimpArgs false
/- Chapter 6 of the program: what a processor works on, in memory. -/
namespace Go.Proofs.YthpamclljdcjpaaGreatDoor
open Go.RowKit

/-- Pages, words and magazines that are pointed at, each in blocks of its own. -/
structure WkO (w : World) (S : Nat → Prop) (vp : Value) (np : Nat) (vw : Value) (nw : Nat) (vm : Value) (nm : Nat) (h : Hp) : Prop where
  ex : ∃ S1 S2 S3 : Nat → Prop, Own KPage 137 w S1 vp np h.pages ∧ Own KInt 2 w S2 vw nw h.words ∧ Own KPM 124 w S3 vm nm h.mags ∧
    (∀ k, S1 k → S k) ∧ (∀ k, S2 k → S k) ∧ (∀ k, S3 k → S k) ∧ (∀ k, S1 k → ¬ S2 k) ∧ (∀ k, S1 k → ¬ S3 k) ∧ ∀ k, S2 k → ¬ S3 k
theorem WkO.turn {w w' : World} {S T : Nat → Prop} {vp vw vm : Value} {np nw nm : Nat} {h : Hp} (ho : WkO w S vp np vw nw vm nm h) (ht : Turn T w w') (hd : ∀ k, S k → k < w.heap.size → ¬ T k) : WkO w' S vp np vw nw vm nm h := by
  obtain ⟨S1, S2, S3, h1, h2, h3, d1, d2, d3, e1, e2, e3⟩ := ho.ex
  exact ⟨S1, S2, S3, h1.turn ht (fun k hk => hd k (d1 k hk)), h2.turn ht (fun k hk => hd k (d2 k hk)), h3.turn ht (fun k hk => hd k (d3 k hk)), d1, d2, d3, e1, e2, e3⟩
theorem WkO.mono {w : World} {S S' : Nat → Prop} {vp vw vm : Value} {np nw nm : Nat} {h : Hp} (ho : WkO w S vp np vw nw vm nm h) (hS : ∀ k, S k → k < w.heap.size → S' k) : WkO w S' vp np vw nw vm nm h := by
  obtain ⟨S1, S2, S3, h1, h2, h3, d1, d2, d3, e1, e2, e3⟩ := ho.ex
  exact ⟨fun k => S1 k ∧ k < w.heap.size, fun k => S2 k ∧ k < w.heap.size, fun k => S3 k ∧ k < w.heap.size, h1.here, h2.here, h3.here, fun k hk => hS k (d1 k hk.1) hk.2, fun k hk => hS k (d2 k hk.1) hk.2, fun k hk => hS k (d3 k hk.1) hk.2, fun k hk hq => e1 k hk.1 hq.1, fun k hk hq => e2 k hk.1 hq.1, fun k hk hq => e3 k hk.1 hq.1⟩
theorem WkO.mk3 {w : World} {S A B C : Nat → Prop} {vp vw vm : Value} {np nw nm : Nat} {h : Hp} (h1 : Own KPage 137 w A vp np h.pages) (h2 : Own KInt 2 w B vw nw h.words) (h3 : Own KPM 124 w C vm nm h.mags)
    (d1 : ∀ k, A k → S k) (d2 : ∀ k, B k → S k) (d3 : ∀ k, C k → S k) (e1 : ∀ k, A k → ¬ B k) (e2 : ∀ k, A k → ¬ C k) (e3 : ∀ k, B k → ¬ C k) : WkO w S vp np vw nw vm nm h := ⟨A, B, C, h1, h2, h3, d1, d2, d3, e1, e2, e3⟩
/-- A processor's work lies at a block. -/
structure WkAt (w : World) (S : Nat → Prop) (b : Nat) (cpu : Int) (h : Hp) : Prop where
  ex : ∃ vp np vw nw vm nm, Row w b 169 #[.int .i64 cpu, vp, vw, vm] ∧ WkO w S vp np vw nw vm nm h
  out : ¬ S b
section
variable {w w' : World} {S S' T : Nat → Prop} {b : Nat} {cpu : Int} {h g : Hp}
theorem WkAt.lt (ha : WkAt w S b cpu h) : b < w.heap.size := by
  obtain ⟨_, _, _, _, _, _, h1, _⟩ := ha.ex
  exact h1.lt
theorem WkAt.turn (ha : WkAt w S b cpu h) (ht : Turn T w w') (hb : ¬ T b) (hd : ∀ k, S k → k < w.heap.size → ¬ T k) : WkAt w' S b cpu h := by
  obtain ⟨vp, np, vw, nw, vm, nm, h1, h2⟩ := ha.ex
  exact ⟨⟨vp, np, vw, nw, vm, nm, ht.row h1 hb, h2.turn ht hd⟩, ha.out⟩
theorem WkAt.below (ha : WkAt w S b cpu h) (hb : Below w.heap.size w w') : WkAt w' S b cpu h := ha.turn (T := fun _ => False) (Turn.of_below hb) (fun h => h) (fun _ _ _ h => h)
theorem WkAt.mono (ha : WkAt w S b cpu h) (hS : ∀ k, S k → k < w.heap.size → S' k) (hb : ¬ S' b) : WkAt w S' b cpu h := by
  obtain ⟨vp, np, vw, nw, vm, nm, h1, h2⟩ := ha.ex
  exact ⟨⟨vp, np, vw, nw, vm, nm, h1, h2.mono hS⟩, hb⟩
theorem WkAt.open_ (ha : WkAt w S b cpu h) : ∃ pa np pc wa nw wc ma nm mc, Row w b 169 #[.int .i64 cpu, .slice pa np pc, .slice wa nw wc, .slice ma nm mc] ∧ Lst KPage w S pa np h.pages ∧ Lst KInt w S wa nw h.words ∧ Own KPM 124 w S (.slice ma nm mc) nm h.mags ∧ np ≤ pc ∧ pc ≤ maxLen ∧ nw ≤ wc ∧ wc ≤ maxLen ∧ nm ≤ mc ∧ mc ≤ maxLen := by
  obtain ⟨vp, np, vw, nw, vm, nm, h1, h2⟩ := ha.ex
  obtain ⟨S1, S2, S3, o1, o2, o3, d1, d2, d3, e1, e2, e3⟩ := h2.ex
  obtain ⟨pa, pc, rfl, p1, p2, lp⟩ := o1.shape
  obtain ⟨wa, wc, rfl, w1, w2, lw⟩ := o2.shape
  obtain ⟨ma, mc, rfl, m1, m2, lm⟩ := o3.shape
  exact ⟨pa, np, pc, wa, nw, wc, ma, nm, mc, h1, lp.mono (fun k hk _ => d1 k hk), lw.mono (fun k hk _ => d2 k hk), o3.mono (fun k hk _ => d3 k hk), p1, p2, w1, w2, m1, m2⟩

/-- A work is turned: its memory is of the elder one's, or new. -/
structure Works (w : World) (S : Nat → Prop) (b : Nat) (cpu : Int) (g : Hp) (w' : World) : Prop where
  at_ : WkAt w' (fun q => (S q ∧ q < w.heap.size) ∨ w.heap.size ≤ q) b cpu g
  turn : Turn (fun q => S q ∨ q = b) w w'
theorem Works.refl (ha : WkAt w S b cpu h) : Works w S b cpu h w :=
  ⟨ha.mono (fun q hq hl => .inl ⟨hq, hl⟩) (fun hq => by
    rcases hq with hq | hq
    · exact ha.out hq.1
    · have := ha.lt; omega), Turn.refl _ _⟩
theorem Works.trans {w1 w2 : World} {g' : Hp} (h1 : Works w S b cpu g w1) (h2 : Works w1 (fun q => (S q ∧ q < w.heap.size) ∨ w.heap.size ≤ q) b cpu g' w2) : Works w S b cpu g' w2 := by
  have hs := h1.turn.size
  refine ⟨h2.at_.mono (fun q hq _ => ?_) (fun hq => ?_), h1.turn.trans h2.turn (fun q hq hl => ?_)⟩
  · rcases hq with hq | hq
    · exact hq.1
    · exact .inr (by omega)
  · exact h1.at_.out hq
  · rcases hq with (hq | hq) | hq
    · exact .inl hq.1
    · omega
    · exact .inr hq
theorem Works.below {w1 w2 : World} (h1 : Works w S b cpu g w1) (hb : Below w1.heap.size w1 w2) : Works w S b cpu g w2 :=
  ⟨h1.at_.below hb, h1.turn.trans (Turn.of_below (T := fun _ => False) hb) (fun _ h _ => h.elim)⟩
/-- From a state before: only new memory was laid meanwhile. -/
theorem Works.of_below {w1 w2 : World} (hb : Below w.heap.size w w1) (hbl : b < w.heap.size) (h : Works w1 (fun q => S q ∧ q < w.heap.size) b cpu g w2) : Works w S b cpu g w2 := by
  have hs := hb.size
  refine ⟨h.at_.mono (fun q hq _ => ?_) (fun hq => ?_), (Turn.of_below (T := fun q => S q ∨ q = b) hb).trans h.turn (fun q hq _ => hq.elim (fun h => .inl h.1) .inr)⟩
  · rcases hq with hq | hq
    · exact .inl hq.1
    · exact .inr (by omega)
  · rcases hq with hq | hq
    · exact h.at_.out (.inl ⟨hq, by omega⟩)
    · omega
theorem WkAt.then {w1 : World} (ha : WkAt w S b cpu h) (hb : Below w.heap.size w w1) : WkAt w1 (fun q => S q ∧ q < w.heap.size) b cpu h :=
  (ha.mono (S' := fun q => S q ∧ q < w.heap.size) (fun q hq hl => ⟨hq, hl⟩) (fun hq => ha.out hq.1)).below hb
/-- New pages. -/
theorem WkAt.setPages {w1 : World} {v : Value} {np : Nat} {ps : List Pg} (ha : WkAt w S b cpu h) (hb : Below w.heap.size w w1) (ho : Own KPage 137 w1 (fun q => w.heap.size ≤ q) v np ps) : Works w S b cpu ⟨ps, h.words, h.mags⟩ (w1.setCell ⟨b, 1, none⟩ v) := by
  have hbl := ha.lt
  obtain ⟨vp, np0, vw, nw, vm, nm, h1, h2⟩ := ha.ex
  obtain ⟨S1, S2, S3, o1, o2, o3, d1, d2, d3, e1, e2, e3⟩ := h2.ex
  have hs := hb.size
  have T := Turn.set w1 ⟨b, 1, none⟩ v
  have hne : ∀ q, S q → q ≠ b := fun q hq e => ha.out (e ▸ hq)
  have hT : Turn (fun q => S q ∨ q = b) w (w1.setCell ⟨b, 1, none⟩ v) := (Turn.of_below (T := fun q => S q ∨ q = b) hb).trans T (fun q hq _ => .inr hq)
  refine ⟨⟨⟨v, np, vw, nw, vm, nm, (by have := (h1.below hb).upd (i := 1) v; simpa [Row] using this), WkO.mk3 (A := fun q => w.heap.size ≤ q) (B := fun q => S2 q ∧ q < w.heap.size) (C := fun q => S3 q ∧ q < w.heap.size) (ho.turn T (fun k hk _ e => ?_)) ((o2.here.below hb).turn T (fun k hk _ e => hne k (d2 k hk.1) e)) ((o3.here.below hb).turn T (fun k hk _ e => hne k (d3 k hk.1) e)) (fun q hq => .inr hq) (fun q hq => .inl ⟨d2 q hq.1, hq.2⟩) (fun q hq => .inl ⟨d3 q hq.1, hq.2⟩) (fun q hq hq2 => ?_) (fun q hq hq2 => ?_) (fun q hq hq2 => e3 q hq.1 hq2.1)⟩, fun hq => ?_⟩, hT⟩
  · have e : k = b := e; omega
  · have := hq2.2; omega
  · have := hq2.2; omega
  · rcases hq with hq | hq
    · exact ha.out hq.1
    · omega
/-- New words. -/
theorem WkAt.setWords {w1 : World} {v : Value} {nw : Nat} {ws : List Int} (ha : WkAt w S b cpu h) (hb : Below w.heap.size w w1) (ho : Own KInt 2 w1 (fun q => w.heap.size ≤ q) v nw ws) : Works w S b cpu ⟨h.pages, ws, h.mags⟩ (w1.setCell ⟨b, 2, none⟩ v) := by
  have hbl := ha.lt
  obtain ⟨vp, np, vw, nw0, vm, nm, h1, h2⟩ := ha.ex
  obtain ⟨S1, S2, S3, o1, o2, o3, d1, d2, d3, e1, e2, e3⟩ := h2.ex
  have hs := hb.size
  have T := Turn.set w1 ⟨b, 2, none⟩ v
  have hne : ∀ q, S q → q ≠ b := fun q hq e => ha.out (e ▸ hq)
  have hT : Turn (fun q => S q ∨ q = b) w (w1.setCell ⟨b, 2, none⟩ v) := (Turn.of_below (T := fun q => S q ∨ q = b) hb).trans T (fun q hq _ => .inr hq)
  refine ⟨⟨⟨vp, np, v, nw, vm, nm, (by have := (h1.below hb).upd (i := 2) v; simpa [Row] using this), WkO.mk3 (A := fun q => S1 q ∧ q < w.heap.size) (B := fun q => w.heap.size ≤ q) (C := fun q => S3 q ∧ q < w.heap.size) ((o1.here.below hb).turn T (fun k hk _ e => hne k (d1 k hk.1) e)) (ho.turn T (fun k hk _ e => ?_)) ((o3.here.below hb).turn T (fun k hk _ e => hne k (d3 k hk.1) e)) (fun q hq => .inl ⟨d1 q hq.1, hq.2⟩) (fun q hq => .inr hq) (fun q hq => .inl ⟨d3 q hq.1, hq.2⟩) (fun q hq hq2 => ?_) (fun q hq hq2 => e2 q hq.1 hq2.1) (fun q hq hq2 => ?_)⟩, fun hq => ?_⟩, hT⟩
  · have e : k = b := e; omega
  · have := hq.2; omega
  · have := hq2.2; omega
  · rcases hq with hq | hq
    · exact ha.out hq.1
    · omega
/-- Its words, in focus, to be turned at their place. -/
theorem WkAt.wordsF (ha : WkAt w S b cpu h) : ∃ pa np pc wa nw wc ma nm mc S2, Row w b 169 #[.int .i64 cpu, .slice pa np pc, .slice wa nw wc, .slice ma nm mc] ∧ Lst KPage w S pa np h.pages ∧ Own KInt 2 w S2 (.slice wa nw wc) nw h.words ∧ (∀ q, S2 q → S q ∧ q < w.heap.size) ∧
    ∀ w' xs, Own KInt 2 w' S2 (.slice wa nw wc) nw xs → Turn S2 w w' → Works w S b cpu ⟨h.pages, xs, h.mags⟩ w' := by
  obtain ⟨vp, np, vw, nw, vm, nm, h1, h2⟩ := ha.ex
  obtain ⟨S1, S2, S3, o1, o2, o3, d1, d2, d3, e1, e2, e3⟩ := h2.ex
  obtain ⟨pa, pc, rfl, p1, p2, lp⟩ := o1.shape
  obtain ⟨wa, wc, rfl, w1, w2, lw⟩ := o2.shape
  obtain ⟨ma, mc, rfl, m1, m2, lm⟩ := o3.shape
  have hbl := h1.lt
  refine ⟨pa, np, pc, wa, nw, wc, ma, nm, mc, fun q => S2 q ∧ q < w.heap.size, h1, lp.mono (fun k hk _ => d1 k hk), o2.here, fun q hq => ⟨d2 q hq.1, hq.2⟩, fun w' xs ho ht => ⟨⟨⟨_, _, _, _, _, _, ht.row h1 (fun hq => ha.out (d2 _ hq.1)), WkO.mk3 (A := fun q => S1 q ∧ q < w.heap.size) (B := fun q => S2 q ∧ q < w.heap.size) (C := fun q => S3 q ∧ q < w.heap.size) (o1.here.turn ht (fun q hq _ h => e1 q hq.1 h.1)) ho (o3.here.turn ht (fun q hq _ h => e3 q h.1 hq.1)) (fun q hq => .inl ⟨d1 q hq.1, hq.2⟩) (fun q hq => .inl ⟨d2 q hq.1, hq.2⟩) (fun q hq => .inl ⟨d3 q hq.1, hq.2⟩) (fun q hq hq2 => e1 q hq.1 hq2.1) (fun q hq hq2 => e2 q hq.1 hq2.1) (fun q hq hq2 => e3 q hq.1 hq2.1)⟩, fun hq => ?_⟩, ht.mono (fun q hq _ => .inl (d2 q hq.1))⟩⟩
  rcases hq with hq | hq
  · exact ha.out hq.1
  · omega
/-- One of its magazines, in focus. -/
theorem WkAt.magF {j : Nat} (ha : WkAt w S b cpu h) (hj : j < h.mags.length) : ∃ pa np pc wa nw wc g nm mc mb a l c F m, Row w b 169 #[.int .i64 cpu, .slice pa np pc, .slice wa nw wc, .slice (some ⟨g, 0, none⟩) nm mc] ∧ j < nm ∧ nm ≤ mc ∧ mc ≤ maxLen ∧ h.mags[j]? = some m ∧ g < w.heap.size ∧ w.cell? ⟨g, j, none⟩ = some (.pointer (some ⟨mb, 0, none⟩)) ∧ Row w mb 196 #[.slice a l c] ∧ Own KInt 2 w F (.slice a l c) l m ∧ (∀ q, F q → S q ∧ q < w.heap.size ∧ q ≠ mb) ∧ S mb ∧
    ∀ w' v' l' m', Row w' mb 196 #[v'] → Own KInt 2 w' (fun q => F q ∨ w.heap.size ≤ q) v' l' m' → Turn (fun q => q = mb ∨ F q) w w' → Works w S b cpu (h.setMag j m') w' := by
  obtain ⟨vp, np, vw, nw, vm, nm, h1, h2⟩ := ha.ex
  obtain ⟨S1, S2, S3, o1, o2, o3, d1, d2, d3, e1, e2, e3⟩ := h2.ex
  obtain ⟨pa, pc, rfl, p1, p2, lp⟩ := o1.shape
  obtain ⟨wa, wc, rfl, w1, w2, lw⟩ := o2.shape
  have hbl := h1.lt
  have hjn : j < nm := by have := o3.1; omega
  obtain ⟨g, cap, cs, F0, m, rfl, hgS, hx, hcl, hu0, ho0, hF, hst⟩ := o3.here.focus hjn
  obtain ⟨mb, row, S', rfl, hFb, hrow, hown, hS'⟩ := ho0
  obtain ⟨row⟩ := row
  obtain ⟨v, n, hv, ho⟩ := hown
  have hv' : row = [v] := hv
  subst hv'
  obtain ⟨a, c, rfl, hlc, hcm, hL⟩ := ho.shape
  obtain ⟨c1, c2, _⟩ := hu0.cell
  have c3 := c2 0 (by simp)
  rw [show KPM.sz = 1 from rfl, Nat.mul_one] at c3 hu0 hst
  have hmb := hrow.lt
  obtain ⟨_, hk1, hk2, _⟩ := o3.lst
  refine ⟨pa, np, pc, wa, nw, wc, g, nm, cap, mb, a, n, c, fun q => S' q ∧ q < w.heap.size, m, h1, hjn, hk1, hk2, hx, c1, by simpa using c3, hrow, ho.here, fun q hq => ⟨d3 q (hF q (hS' q hq.1).1).1.1, hq.2, (hS' q hq.1).2⟩, d3 _ (hF mb hFb).1.1, fun w' v' l' m' hr' ho' ht => ?_⟩
  have hTF : ∀ q, (q = mb ∨ (S' q ∧ q < w.heap.size)) → F0 q := fun q hq => hq.elim (fun e => by rw [e]; exact hFb) (fun h => (hS' q h.1).1)
  have hgF : ¬ F0 g := fun hf => (hF g hf).2.1 rfl
  have h5 := hst w' (fun q => F0 q ∨ w.heap.size ≤ q) [.pointer (some ⟨mb, 0, none⟩)] m' rfl (ht.mono (fun q hq _ => .inl (hTF q hq))) (hu0.turn ht (fun hq => hgF (hTF g hq))) ⟨mb, _, fun q => (S' q ∧ q < w.heap.size) ∨ w.heap.size ≤ q, rfl, .inl hFb, hr', ⟨v', l', rfl, ho'⟩, fun k hk => by
    rcases hk with hk | hk
    · exact ⟨.inl (hS' k hk.1).1, (hS' k hk.1).2⟩
    · exact ⟨.inr hk, by omega⟩⟩ (fun q hq => hq.elim (fun h => .inl h) (fun h => .inr (fun h2 => by have := h2.2; omega)))
  have hT3 : ∀ q, (q = mb ∨ (S' q ∧ q < w.heap.size)) → S3 q := fun q hq => (hF q (hTF q hq)).1.1
  refine ⟨⟨⟨_, _, _, _, _, _, ht.row h1 (fun hq => ha.out (d3 _ (hT3 _ hq))), WkO.mk3 (A := fun q => S1 q ∧ q < w.heap.size) (B := fun q => S2 q ∧ q < w.heap.size) (C := fun q => (S3 q ∧ q < w.heap.size) ∨ w.heap.size ≤ q) (o1.here.turn ht (fun q hq _ h => e2 q hq.1 (hT3 q h))) (o2.here.turn ht (fun q hq _ h => e3 q hq.1 (hT3 q h))) (h5.mono (fun q hq _ => ?_)) (fun q hq => .inl ⟨d1 q hq.1, hq.2⟩) (fun q hq => .inl ⟨d2 q hq.1, hq.2⟩) (fun q hq => hq.elim (fun h => .inl ⟨d3 q h.1, h.2⟩) .inr) (fun q hq hq2 => e1 q hq.1 hq2.1) (fun q hq hq2 => ?_) (fun q hq hq2 => ?_)⟩, fun hq => ?_⟩, ht.mono (fun q hq _ => .inl (d3 q (hT3 q hq)))⟩
  · rcases hq with hq | hq | hq
    · exact .inl hq
    · exact .inl ⟨(hF q hq).1.1, (hF q hq).2.2⟩
    · exact .inr hq
  · rcases hq2 with h | h
    · exact e2 q hq.1 h.1
    · have := hq.2; omega
  · rcases hq2 with h | h
    · exact e3 q hq.1 h.1
    · have := hq.2; omega
  · rcases hq with hq | hq
    · exact ha.out hq.1
    · omega
end
end Go.Proofs.YthpamclljdcjpaaGreatDoor

/- Chapter 6 of the program: magazines: the newest one taken, one put. -/
namespace Go.Proofs.YthpamclljdcjpaaGreatDoor
open Go.RowKit

set_option maxRecDepth 100000 in
set_option maxHeartbeats 2000000 in
theorem takeNone_calls {g c : Nat} {a : Option Addr} {w : World} (hr : Row w g 196 #[.slice a 0 c]) :
    Calls Tryz.prog 234 #[.pointer (some ⟨g, 0, none⟩)] w fun e w' => e = .returned (.tuple #[.int .i64 0, .bool false]) ∧ w = w' := by
  have q0 := hr.cell 0
  have ql := hr.lt
  simp at q0
  clear hr
  go_enter Tryz.func234, Tryz.ntmps234
  go_wp2_with fail
  go_ret2
  exact ⟨rfl, rfl⟩

set_option maxRecDepth 100000 in
set_option maxHeartbeats 2000000 in
theorem takeNewest_calls {g k c : Nat} {a : Option Addr} {m : List Int} {S : Nat → Prop} {w : World} (hr : Row w g 196 #[.slice a (k + 1) c]) (hL : Lst KInt w S a (k + 1) m) (hk : k + 1 ≤ c) (hc : c ≤ maxLen) :
    Calls Tryz.prog 234 #[.pointer (some ⟨g, 0, none⟩)] w fun e w' => e = .returned (.tuple #[.int .i64 (m.getD k 0), .bool true]) ∧ Row w' g 196 #[.slice a k c] ∧ Turn (fun q => q = g) w w' := by
  have q0 := hr.cell 0
  have ql := hr.lt
  have q2 := frozen_of_row w g 0 _ _ hr
  simp at q0
  obtain ⟨b0, o0, rfl, d0, e0⟩ := hL.ints.at_ (show k < k + 1 by omega)
  have hk2 : k + 1 ≤ 9223372036854775807 := Nat.le_trans hk (Nat.le_trans hc (by decide))
  have hc2 : c ≤ 9223372036854775807 := Nat.le_trans hc (by decide)
  have h0 : ¬ (((k + 1 : Nat) : Int) = 0) := by omega
  have h00 : (((k + 1 : Nat) : Int) == 0) = false := by simpa using h0
  have h1 : ((k + 1 : Nat) : Int) - 1 = (k : Int) := by omega
  have HR := Lib.hid hr
  clear hr hL h0
  go_enter Tryz.func234, Tryz.ntmps234
  go_wp2_with fail
  go_region
  go_wp2_with fail
  go_ret2
  refine ⟨rfl, ?_, (Turn.set w ⟨g, 0, none⟩ (.slice (some ⟨b0, o0, none⟩) k c)).trans (Turn.of_below (T := fun _ => False) (Below.refl _ _).drew) (fun _ h _ => h.elim)⟩
  have := HR.out.upd (i := 0) (.slice (some ⟨b0, o0, none⟩) k c)
  exact Row.drew (by simpa [Row] using this)

set_option maxRecDepth 100000 in
set_option maxHeartbeats 2000000 in
theorem putFull_calls {g l c : Nat} {a : Option Addr} {x : Int} {w : World} (hr : Row w g 196 #[.slice a l c]) (hl : 2 ≤ l) (hc : l ≤ 9223372036854775807) :
    Calls Tryz.prog 241 #[.pointer (some ⟨g, 0, none⟩), .int .i64 x] w fun e w' => e = .returned (.bool false) ∧ w = w' := by
  have q0 := hr.cell 0
  have ql := hr.lt
  simp at q0
  clear hr
  go_enter Tryz.func241, Tryz.ntmps241
  go_wp2_with fail
  go_ret
  exact ⟨rfl, rfl⟩

set_option maxRecDepth 100000 in
set_option maxHeartbeats 2000000 in
theorem put_calls {g l c : Nat} {a : Option Addr} {x : Int} {m : List Int} {F : Nat → Prop} {w : World} (hr : Row w g 196 #[.slice a l c]) (hO : Own KInt 2 w F (.slice a l c) l m) (hF : ∀ q, F q → q < w.heap.size ∧ q ≠ g) (hl : l < 2) :
    Calls Tryz.prog 241 #[.pointer (some ⟨g, 0, none⟩), .int .i64 x] w fun e w' => e = .returned (.bool true) ∧ ∃ v, Row w' g 196 #[v] ∧ Own KInt 2 w' (fun q => F q ∨ w.heap.size ≤ q) v (l + 1) (m ++ [x]) ∧ Turn (fun q => q = g ∨ F q) w w' := by
  obtain ⟨ib, hib, hb0, hb1, hb2⟩ := info_parts info64
  have q0 := hr.cell 0
  have ql := hr.lt
  simp at q0
  have HO := Lib.hid hO
  have HR := Lib.hid hr
  have HFq := Lib.hid hF
  clear hr hO hF
  go_enter Tryz.func241, Tryz.ntmps241
  go_wp2_with (
    at_builtin
    go_must (refine wpList_append_elem (K := KInt) (S := F) (G := fun _ => False) rfl (.tmp 15) (.tmp 17) 25 rfl 2 ib (.int .i64 0) 8 Tryz.underlying25 hib hb0 hb1 hb2 rfl (by decide) one_int (b := w.heap.size) (c := 1) (y := x) (cs := [.int .i64 x]) rfl (HO.out.alloc _) rfl (fun j u hu => ?_) rfl (fun _ h => h.elim) (by unfold maxLen; omega) (by omega) ?_)
    · cases j with
      | zero => simp at hu; subst hu; simp
      | succ j => simp at hu
    intro v3 w3 ho3 ht3
    obtain ⟨a3, c3, rfl, _, _, _⟩ := ho3.shape
    have hb : Below w.heap.size w (w.alloc (.cells #[.int .i64 x] 2)) := (Below.refl _ _).alloc (Nat.le_refl _) _
    have hR3 := ht3.row (HR.out.below hb) (fun hq => (HFq.out _ hq).2 rfl)
    have r0 := hR3.cell 0
    have rl := hR3.lt
    have r2 := frozen_of_row w3 g 0 _ _ hR3
    simp at r0
    have HT := Lib.hid (show Turn (fun q => q = g ∨ F q) w w3 from (Turn.of_below hb).trans ht3 (fun q hq _ => .inr hq))
    have HO3 := Lib.hid (ho3.mono (S' := fun q => F q ∨ w.heap.size ≤ q) (fun q hq _ => by
      rcases hq with hq | hq | hq
      · exact .inl hq
      · exact hq.elim
      · exact .inr (by simp at hq; omega)))
    have HR3 := Lib.hid hR3
    clear ho3 ht3 hR3 hb)
  go_ret
  refine ⟨rfl, .slice a3 (l + 1) c3, ?_, HO3.out.turn (Turn.set w3 ⟨g, 0, none⟩ (.slice a3 (l + 1) c3)) (fun q hq _ e => ?_), HT.out.trans (Turn.set w3 ⟨g, 0, none⟩ (.slice a3 (l + 1) c3)) (fun q hq _ => .inl hq)⟩
  · have := HR3.out.upd (i := 0) (.slice a3 (l + 1) c3); simpa [Row] using this
  · have e : q = g := e
    rcases hq with hq | hq
    · exact (HFq.out _ hq).2 e
    · omega
end Go.Proofs.YthpamclljdcjpaaGreatDoor

/- Chapter 6 of the program: the heap that a work is, and a work on a heap. -/
namespace Go.Proofs.YthpamclljdcjpaaGreatDoor
open Go.RowKit

theorem magw_facts {cpu c : Int} {j nm : Nat} (h0 : 0 ≤ cpu) (h2 : cpu ≤ 2) (c0 : 0 ≤ c) (c3 : c ≤ 3) (e : cpu * 4 + c = (j : Int)) (hj : j < nm) : IntKind.i64.wrap (cpu * 4) = cpu * 4 ∧ IntKind.i64.wrap (cpu * 4 + c) = (j : Int) ∧ wrap64 (cpu * 4) = cpu * 4 ∧ wrap64 (cpu * 4 + c) = (j : Int) ∧ IntKind.i64.wrap (j : Int) = (j : Int) ∧ wrap64 (j : Int) = (j : Int) ∧ ((0 : Int) ≤ (j : Int) ∧ (j : Int) < (nm : Int)) :=
  ⟨IntWalk.i64_in _ (by omega), by rw [e]; exact IntWalk.i64_in _ (by omega), IntWalk.wrap64_in _ (by omega), by rw [e]; exact IntWalk.wrap64_in _ (by omega), IntWalk.i64_in _ (by omega), IntWalk.wrap64_in _ (by omega), by omega, by omega⟩

set_option maxRecDepth 100000 in
set_option maxHeartbeats 2000000 in
theorem magazineOf_calls {b g j nm mc mb : Nat} {cpu c : Int} {vp vw : Value} {w : World} (hr : Row w b 169 #[.int .i64 cpu, vp, vw, .slice (some ⟨g, 0, none⟩) nm mc]) (hc : w.cell? ⟨g, j, none⟩ = some (.pointer (some ⟨mb, 0, none⟩))) (hj : cpu * 4 + c = (j : Int)) (hjn : j < nm) (hn : nm ≤ mc) (hm : mc ≤ maxLen) (h0 : 0 ≤ cpu) (h1 : cpu ≤ 2) (c0 : 0 ≤ c) (c3 : c ≤ 3) :
    Calls Tryz.prog 233 #[.pointer (some ⟨b, 0, none⟩), .int .i64 c] w fun e w' => e = .returned (.pointer (some ⟨mb, 0, none⟩)) ∧ Below w.heap.size w w' := by
  have q0 := hr.cell 0
  have q3 := hr.cell 3
  have ql := hr.lt
  simp at q0 q3
  have hm2 : mc ≤ 9223372036854775807 := Nat.le_trans hm (by decide)
  obtain ⟨w1, w2, w3, w4, w5, w6, w7⟩ := magw_facts h0 h1 c0 c3 hj hjn
  have d0 := World.block_lt_of_cell? _ _ hc
  clear hr
  go_enter Tryz.func233, Tryz.ntmps233
  go_wp2_with fail
  go_region
  all_goals go_wp2_with fail
  all_goals go_ret
  all_goals exact ⟨rfl, (Below.refl _ _).drew⟩

/-- What a list of slices owns. -/
theorem Own.lift {w : World} {v : Value} {n B : Nat} {css : List Value} {ms : List (List Int)} {F : Nat → Nat → Prop} {S : Nat → Prop} (h : Own (KRaw 1) 25 w (fun q => B ≤ q) v n (css.map fun c => [c])) (hl : ms.length = n) (hF : ∀ j k, F j k → S k ∧ k < B) (hD : ∀ i j k, F i k → F j k → i = j)
    (hc : ∀ j c m, css[j]? = some c → ms[j]? = some m → ∃ l, Own KInt 2 w (F j) c l m) : Own KMag 25 w (fun q => S q ∨ B ≤ q) v n ms := by
  have hcl : css.length = n := by simpa using h.1
  obtain ⟨cells, hr, hS, F0, hF0, _, hcs⟩ := h.row
  refine Own.of_row (F := F) (K := KMag) hr hl (fun g hg => .inr (hS g hg)) (fun j k hk => ⟨.inl (hF j k hk).1, fun e => by have := hS k e; have := (hF j k hk).2; omega⟩) hD (fun j m hj => ?_)
  have hjl := (List.getElem?_eq_some_iff.1 hj).1
  have hx : css[j]? = some (css[j]'(by omega)) := List.getElem?_eq_getElem _
  obtain ⟨cs, h1, h2, h3⟩ := hcs j [css[j]'(by omega)] (by rw [List.getElem?_map, hx]; rfl)
  obtain ⟨h4, _, _⟩ := h3
  subst h4
  obtain ⟨l, hO⟩ := hc j _ m hx hj
  exact ⟨_, h1, h2, KMag_own_mk hO⟩

/-- The slices that magazines are. -/
theorem Own.slices {w : World} {S : Nat → Prop} {ao : Option Addr} {n cc : Nat} {ms : List (List Int)} (hO : Own KPM 124 w S (.slice ao n cc) n ms) :
    ∃ (F : Nat → Nat → Prop) (css : List Value), css.length = n ∧ (∀ j k, F j k → S k ∧ k < w.heap.size) ∧ (∀ i j k, F i k → F j k → i = j) ∧
      ∀ j m, ms[j]? = some m → ∃ a l c, css[j]? = some (.slice a l c) ∧ Own KInt 2 w (F j) (.slice a l c) l m ∧ ∃ g mb, ao = some ⟨g, 0, none⟩ ∧ g < w.heap.size ∧ w.cell? ⟨g, j, none⟩ = some (.pointer (some ⟨mb, 0, none⟩)) ∧ Row w mb 196 #[.slice a l c] := by
  have hml := hO.1
  rcases hO.here.2 with ⟨hv, rfl⟩ | ⟨g, cap, cur, F, hv, hg, hr, h1, h2, h3, hF, hD, hc⟩
  · exact ⟨fun _ _ => False, [], rfl, fun _ _ h => h.elim, fun _ _ _ h => h.elim, fun j m hj => by have := (List.getElem?_eq_some_iff.1 hj).1; omega⟩
  · injection hv with e1 _ _
    obtain ⟨css, hcl, hck⟩ := exists_list (P := fun (j : Nat) (m : List Int) (v : Value) => ∃ a l c, v = Value.slice a l c ∧ Own KInt 2 w (F j) (.slice a l c) l m ∧ ∃ mb, w.cell? ⟨g, j, none⟩ = some (.pointer (some ⟨mb, 0, none⟩)) ∧ Row w mb 196 #[.slice a l c]) (xs := ms) (fun j m hj => by
      obtain ⟨cs, k1, k2, k3⟩ := hc j m hj
      obtain ⟨mb, row, S', rfl, hFb, hrw, hown, hS'⟩ := k3
      obtain ⟨row⟩ := row
      obtain ⟨v, l, hv, ho⟩ := hown
      have hv' : row = [v] := hv
      subst hv'
      obtain ⟨a, c, rfl, _, _, _⟩ := ho.shape
      have h0 := k2 0 (show 0 < 1 by omega)
      rw [show KPM.sz = 1 from rfl, Nat.mul_one] at h0
      exact ⟨_, a, l, c, rfl, ho.mono (fun q hq hl => (hS' q hq).1), mb, by rw [hr.cell]; simpa using h0, hrw⟩)
    refine ⟨F, css, by omega, fun j k hk => (hF j k hk).1, hD, fun j m hj => ?_⟩
    obtain ⟨v, e, a, l, c, rfl, ho, mb, hcell, hrow⟩ := hck j m hj
    exact ⟨a, l, c, e, ho, g, mb, e1, hr.lt, hcell, hrow⟩

set_option maxRecDepth 100000 in
set_option maxHeartbeats 2000000 in
theorem lists_calls {ao : Option Addr} {n cc : Nat} {ms : List (List Int)} {S : Nat → Prop} {w : World} (hO : Own KPM 124 w S (.slice ao n cc) n ms) (hn : n ≤ 1048576) :
    Calls Tryz.prog 139 #[.slice ao n cc] w fun e w' => ∃ v, e = .returned v ∧ Own KMag 25 w' (fun q => S q ∨ w.heap.size ≤ q) v n ms ∧ Below w.heap.size w w' := by
  obtain ⟨im, him, hm0, hm1, hm2⟩ := info_parts infoMg
  have HL := Lib.hid hO.1
  obtain ⟨F, css, hcl, hF, hD, hck⟩ := hO.slices
  have HCL := Lib.hid hcl
  have HFD := Lib.hid (And.intro hF hD)
  have HCK := Lib.hid hck
  clear hcl hF hD hck hO
  go_enter Tryz.func139, Tryz.ntmps139
  go_wp2_with (
    at_make
    go_must (refine wpList_make_own _ rfl _ _ 26 rfl w.heap.size 25 im (.slice none 0 0) 1 Tryz.underlying26 him hm0 hm1 _ _ _ n rfl rfl rfl (by rw [hm2]; omega) (by unfold maxLen; omega) (Nat.le_refl _) ?_)
    intro w1 hown hg1
    have hO0 : Own (KRaw 1) 25 w1 (fun q => w.heap.size ≤ q) (.slice (some ⟨w.heap.size, 0, none⟩) 0 n) 0 ((css.take 0).map fun c => [c]) := by
      refine Own.of_row (cells := []) (F := fun _ _ => False) (K := KRaw 1) ?_ rfl (fun g' h => ?_) (fun _ _ h => h.elim) (fun _ _ _ h => h.elim) (fun j x hj => by simp at hj)
      · obtain ⟨h1, h2⟩ := hown
        refine ⟨h1, ?_⟩
        rcases h2 with h2 | ⟨g', cap', cur, hv, _, r⟩
        · exact .inl h2
        · exact .inr ⟨g', cap', cur, hv, Nat.zero_le _, r⟩
      · simp [Value.ownBlock] at h; omega
    have hB0 : Below w.heap.size w w1 := (Below.refl _ _).grown hg1 (Nat.le_refl _) (by simp)
    clear hown hg1)
  go_loopw [3, 5, 11] (fun v _ i wr => ∃ k : Nat, k ≤ n ∧ i = .int .i64 k ∧ Own (KRaw 1) 25 wr (fun q => w.heap.size ≤ q) v k ((css.take k).map fun c => [c]) ∧ Below w.heap.size w wr) (fun _ _ i _ => n - (intOf i).toNat)
  case atStart => exact ⟨0, Nat.zero_le _, rfl, hO0, hB0⟩
  case round =>
    clear hO0 hB0
    obtain ⟨k, hk, rfl, hO, hbw⟩ := hrel
    obtain ⟨vo, vc, rfl, hvc1, hvc2, _⟩ := hO.shape
    by_cases hlt : k < n
    · obtain ⟨m, hm⟩ : ∃ m, ms[k]? = some m := ⟨_, List.getElem?_eq_getElem (by have := HL.out; omega)⟩
      obtain ⟨a, l, c, hcs, _, g, mb, rfl, hgl, hcell, hrow⟩ := HCK.out k m hm
      have e0 := (hbw.cell (p := ⟨g, k, none⟩) hgl).trans hcell
      have hr := hrow.below hbw
      have d0 := Nat.lt_of_lt_of_le hgl hbw.size
      have r0 := hr.cell 0
      have rl := hr.lt
      simp at r0
      have HO := Lib.hid (hO.alloc (.cells #[.slice a l c] 25))
      have HB := Lib.hid (hbw.alloc hbw.size (.cells #[.slice a l c] 25))
      have hc3 : (wr.alloc (.cells #[.slice a l c] 25)).cell? ⟨wr.heap.size, 0, none⟩ = some (.slice a l c) := by
        simp
      have HC := Lib.hid hc3
      have HCS := Lib.hid hcs
      have hsz := hbw.size
      clear hr hO hbw hc3 hrow hcell hm hcs
      go_wp2_with (
        at_builtin
        go_must (refine wpList_append_elem (K := KRaw 1) (G := fun _ => False) rfl (.tmp 15) (.tmp 20) 26 rfl 25 im (.slice none 0 0) 24 Tryz.underlying26 him hm0 hm1 hm2 rfl (by decide) (one_raw 1) (b := wr.heap.size) (c := 1) (y := [.slice a l c]) (cs := [.slice a l c]) rfl HO.out rfl (fun j u hu => ?_) ⟨rfl, rfl, fun c hc => by simp at hc; subst hc; rfl⟩ (fun _ h => h.elim) (by unfold maxLen; omega) (by omega) ?_)
        · cases j with
          | zero => simp at hu; subst hu; exact HC.out
          | succ j => simp at hu
        intro v3 w3 ho3 ht3
        have H3 : Hid (Own (KRaw 1) 25 w3 (fun q => w.heap.size ≤ q) v3 (k + 1) ((css.take (k + 1)).map fun c => [c]) ∧ Below w.heap.size w w3) := by
          refine ⟨?_, ht3.below HB.out HB.out.size (fun q hq => hq)⟩
          rw [List.take_add_one, HCS.out, Option.toList_some, List.map_append]
          refine ho3.mono (fun q hq _ => ?_)
          rcases hq with hq | hq | hq
          · exact hq
          · exact hq.elim
          · simp at hq; omega
        clear ho3 ht3)
      go_roundw
      case rel => exact ⟨k + 1, by omega, by go_num, H3.out.1, H3.out.2⟩
      case measure => simp [intOf]; omega
    · obtain rfl : k = n := by omega
      have HF := Lib.hid (And.intro hO hbw)
      clear hO hbw
      go_wp2_with fail
      go_ret
      refine ⟨_, rfl, ?_, HF.out.2⟩
      have h9 := HF.out.1
      rw [List.take_of_length_le (by have := HCL.out; omega)] at h9
      refine Own.lift (F := F) h9 (by have := HL.out; omega) (fun j k hk => HFD.out.1 j k hk) HFD.out.2 (fun j v m hj hm => ?_)
      obtain ⟨a', l', c', hcs', ho', _⟩ := HCK.out j m hm
      rw [hj] at hcs'; injection hcs' with hcs'; subst hcs'
      exact ⟨l', ho'.turn (Turn.of_below (T := fun _ => False) HF.out.2) (fun _ _ _ h => h)⟩
end Go.Proofs.YthpamclljdcjpaaGreatDoor

/- Chapter 1 and 5 of the model: frames of words; what is kept; what is wrong with a magazine. -/
namespace Go.Proofs.YthpamclljdcjpaaGreatDoor
open Go.RowKit

theorem quiet_same {P : Program} {f : FuncId} {args : Array Value} {w : World} {R : Ending → World → Prop} {v : Value} (h : Calls P f args w R) (hR : ∀ e w', R e w' → e = .returned v ∧ w = w') : Calls P f args w fun e w' => e = .returned v ∧ w' = w :=
  h.mono fun e w' h => ⟨(hR e w' h).1, (hR e w' h).2.symm⟩

theorem l1Value_calls {v : Int} {w : World} :
    Calls Tryz.prog 74 #[.int .i64 v] w fun e w' => e = .returned (.bool (within (-1000000000) 1000000000 [v])) ∧ w = w' := by
  go_enter Tryz.func74, Tryz.ntmps74
  go_wp2_with (go_at_call 73; refine l1In_calls.mono ?_; rintro e w' ⟨rfl, rfl⟩)
  go_ret
  exact ⟨rfl, rfl⟩

theorem Lst.frame {w : World} {S : Nat → Prop} {b off n f : Nat} {xs : List Int} (h : Lst KInt w S (some ⟨b, off, none⟩) n xs) (hf : (f + 1) * 16 ≤ n) : Lst KInt w S (some ⟨b, off + f * 16, none⟩) 16 (frameOf xs f) := by
  have := h.part (i := f * 16) (m := 16) (by omega)
  rw [show KInt.sz = 1 from rfl, Nat.mul_one] at this
  exact this
theorem l1Frame_calls {a : Option Addr} {n c f : Nat} {xs : List Int} {S : Nat → Prop} {w : World} (ha : Lst KInt w S a n xs) (hf : (f + 1) * 16 ≤ n) (hc : n ≤ c) (hx : n ≤ 17592186044416) :
    Calls Tryz.prog 92 #[.slice a n c, .int .i64 f] w fun e w' => ∃ v, e = .returned v ∧ Own KInt 2 w' (fun k => w.heap.size ≤ k) v 16 (frameOf xs f) ∧ Below w.heap.size w w' := by
  obtain ⟨b, off, rfl, hb, _⟩ := ha.2 (by omega)
  have hfr := Lib.hid (ha.frame hf)
  go_enter Tryz.func92, Tryz.ntmps92
  go_wp2_with fail
  rw [show (f + 1) * 16 - f * 16 = 16 by omega]
  refine (l1Ints_calls hfr.out (by omega)).mono ?_
  rintro e w1 ⟨v, rfl, hown, hb1⟩
  have HOW := Lib.hid hown
  clear hown
  go_wp2_with fail
  go_ret
  exact ⟨_, rfl, HOW.out, hb1⟩

set_option maxHeartbeats 400000 in
theorem l1Write_calls {v : Value} {S : Nat → Prop} {n f pb po pc : Nat} {xs page : List Int} {w : World} (ho : Own KInt 2 w S v n xs) (hf : (f + 1) * 16 ≤ n) (hp : Ints w (some ⟨pb, po, none⟩) 16 page) (hne : ¬ S pb) (hx : n ≤ 17592186044416) :
    Calls Tryz.prog 210 #[v, .int .i64 f, .slice (some ⟨pb, po, none⟩) 16 pc] w fun e w' =>
      e = .returned (.tuple #[]) ∧ Own KInt 2 w' S v n (putFrame xs f page) ∧ Turn S w w' := by
  have HL := Lib.hid ho.1
  have HPL := Lib.hid hp.1
  obtain ⟨vo, vc, rfl, _, _, _⟩ := ho.shape
  go_enter Tryz.func210, Tryz.ntmps210
  go_wp2
  go_loopw [6] (fun i wr => ∃ k : Nat, k ≤ 16 ∧ i = .int .i64 k ∧ Own KInt 2 wr S (.slice vo n vc) n (splice xs (f * 16) (page.take k)) ∧ Turn S w wr) (fun i _ => 16 - (intOf i).toNat)
  case atStart => exact ⟨0, by omega, rfl, by rw [List.take_zero, splice_nil]; exact ho, Turn.refl _ _⟩
  case round =>
    obtain ⟨k, hk, rfl, HOr, hgr⟩ := hrel
    by_cases hlt : k < 16
    · obtain ⟨pb', po', he, hpb, hpc⟩ := hp.at_ hlt
      simp only [Option.some.injEq, Addr.mk.injEq, and_true] at he
      obtain ⟨rfl, rfl⟩ := he
      have hkp : k < page.length := by rw [HPL.out]; exact hlt
      have hpc2 : wr.cell? ⟨pb, po + k, none⟩ = some (.int .i64 (page.getD k 0)) := by
        rw [World.cell?_of_block (w := w) (a := ⟨pb, po + k, none⟩) (hgr.block pb hpb hne)]; exact hpc
      obtain ⟨g, cap, he2, hgS, hgl, hcl, hfr, hst⟩ := HOr.int_at (j := f * 16 + k) (by omega)
      cases he2
      have hst2 := hst page[k]
      rw [splice_step xs page (f * 16) k hkp (by rw [HL.out, HPL.out]; omega)] at hst2
      have HST := Lib.hid hst2
      have HG := Lib.hid hgr
      have hpl : pb < wr.heap.size := Nat.lt_of_lt_of_le hpb hgr.size
      clear hst hst2 hgr hpc HOr
      go_wp2
      go_roundw
      case rel => exact ⟨k + 1, by omega, by go_num, HST.out.1, HG.out.trans HST.out.2 (fun _ h _ => h)⟩
      case measure => simp [intOf]; omega
    · obtain rfl : k = 16 := by omega
      have HF : Hid (Own KInt 2 wr S (.slice vo n vc) n (putFrame xs f page)) := by
        have := HOr
        rw [List.take_of_length_le (by rw [HPL.out]; omega)] at this
        exact this
      have HG := Lib.hid hgr
      clear HOr hgr
      go_wp2
      go_end0
      exact ⟨rfl, HF.out, HG.out⟩

theorem l1Zero_calls {a : Option Addr} {n c : Nat} {xs : List Int} {w : World} (ha : Ints w a n xs) (hx : n ≤ 17592186044416) :
    Calls Tryz.prog 91 #[.slice a n c] w fun e w' => e = .returned (.bool (decide (xs = List.replicate n 0))) ∧ w = w' := by
  have HL := Lib.hid ha.1
  go_enter Tryz.func91, Tryz.ntmps91
  go_wp2
  go_loop [3] (fun i => ∃ k : Nat, k ≤ n ∧ i = .int .i64 k ∧ Hid (xs.take k = List.replicate k 0)) (fun i => n - (intOf i).toNat)
  case atStart => exact ⟨0, Nat.zero_le _, rfl, rfl⟩
  case round =>
    obtain ⟨k, hk, rfl, HW⟩ := hrel
    by_cases hlt : k < n
    · obtain ⟨ba, oa, rfl, hba, hca⟩ := ha.at_ hlt
      have hkx : k < xs.length := by rw [HL.out]; exact hlt
      by_cases hz : xs[k] = 0
      · have hz' : (xs[k] != 0) = false := by simp [hz]
        have HS : Hid (xs.take (k + 1) = List.replicate (k + 1) 0) := by
          show _ = _
          rw [List.take_succ_eq_append_getElem hkx, HW.out, hz, List.replicate_succ']
        clear hz
        go_wp2
        go_round
        case rel => exact ⟨k + 1, by omega, by go_num, HS⟩
        case measure => simp [intOf]; omega
      · have hz' : (xs[k] != 0) = true := by simpa [bne_iff_ne] using hz
        have HF := Lib.hid (show decide (xs = List.replicate n 0) = false by
          simp only [decide_eq_false_iff_not]
          intro h
          apply hz
          have : xs[k]? = some 0 := by rw [h, List.getElem?_replicate, if_pos hlt]
          rw [List.getElem?_eq_getElem hkx] at this
          simpa using this)
        clear hz
        go_wp2
        go_ret
        exact ⟨ret_bool HF.out.symm, rfl⟩
    · have HF := Lib.hid (show decide (xs = List.replicate n 0) = true by
        have := HW.out
        rw [List.take_of_length_le (by have := HL.out; omega), show k = n by omega] at this
        simpa using this)
      go_wp2
      go_ret
      exact ⟨ret_bool HF.out.symm, rfl⟩

set_option maxRecDepth 100000 in
set_option maxHeartbeats 1000000 in
theorem l5All_calls {b mn mc : Nat} {vp vw : Value} {ma : Option Addr} {ms : List (List Int)} {S : Nat → Prop} {w : World} (hR : Row w b 28 #[vp, vw, .slice ma mn mc]) (hT : Lst KMag w S ma mn ms) (hn : mn ≤ 17592186044416) (hF : ms.flatten.length ≤ 1048576) :
    Calls Tryz.prog 89 #[.pointer (some ⟨b, 0, none⟩)] w fun e w' => ∃ v t, e = .returned v ∧ Own KInt 2 w' (fun k => w.heap.size ≤ k) v t ms.flatten ∧ Below w.heap.size w w' := by
  obtain ⟨ib, hib, hb0, hb1, hb2⟩ := info_parts info64
  have HL := Lib.hid hT.1
  have HF := Lib.hid hF
  have HR := Lib.hid hR
  clear hF hR
  go_enter Tryz.func89, Tryz.ntmps89
  have hE : Own KInt 2 (w.alloc (.cells #[] 2)) (fun k => w.heap.size ≤ k) (.slice (some ⟨w.heap.size, 0, none⟩) 0 0) 0 (ms.take 0).flatten := Own.empty (heap_alloc_new w (.cells #[] 2)) (Nat.le_refl _)
  have hB : Below w.heap.size w (w.alloc (.cells #[] 2)) := (Below.refl _ _).alloc (Nat.le_refl _) _
  have HE := Lib.hid (And.intro hE hB)
  clear hE hB
  go_wp2_with fail
  go_loopw [3, 4] (fun v i wr => ∃ k s : Nat, k ≤ mn ∧ i = .int .i64 k ∧ Hid (s = (ms.take k).flatten.length) ∧ Own KInt 2 wr (fun k => w.heap.size ≤ k) v s (ms.take k).flatten ∧ Below w.heap.size w wr) (fun _ i _ => mn - (intOf i).toNat)
  case atStart => exact ⟨0, 0, Nat.zero_le _, rfl, by simp [Hid], HE.out.1, HE.out.2⟩
  case round =>
    clear HE
    obtain ⟨k, s, hk, rfl, HS, hO, hbw⟩ := hrel
    obtain ⟨vo, vc, rfl, _, _, _⟩ := hO.shape
    have hs : s ≤ 1048576 := by have := flatten_take_le ms k; have := HS.out; have := HF.out; omega
    have R1 := HR.out.below hbw
    have q2 := R1.cell 2
    have ql := R1.lt
    simp at q2
    by_cases hlt : k < mn
    · obtain ⟨b0, o0, m, a0, l0, c0, rfl, d0, hp, e0, hlc0, hcm0, hu0⟩ := (hT.below hbw).mag_at hlt
      have HN : Hid (s + l0 = (ms.take (k + 1)).flatten.length) := by
        show _ = _; rw [flatten_snoc hp, List.length_append, ← HS.out, hu0.1]
      have hs2 : s + l0 ≤ 1048576 := by have := flatten_take_le ms (k + 1); have := HN.out; have := HF.out; omega
      have HP := Lib.hid hp
      clear hp hcm0
      have HO := Lib.hid hO
      have HB := Lib.hid hbw
      clear hO hbw R1
      go_wp2_with (
        at_builtin
        go_must (refine wpList_append_flat (K := KInt) rfl (.tmp 15) (.tmp 22) 25 rfl 2 ib (.int .i64 0) 8 Tryz.underlying25 hib hb0 hb1 hb2 rfl (by decide) flat_int one_int (n := s) (m := l0) (c := c0) rfl HO.out rfl hu0 (by unfold maxLen; omega) (by omega) ?_)
        intro v1 w1 ho1 ht1
        have H1 : Hid (Own KInt 2 w1 (fun k => w.heap.size ≤ k) v1 (s + l0) (ms.take (k + 1)).flatten ∧ Below w.heap.size w w1) := by
          refine ⟨?_, ht1.below HB.out HB.out.size (fun k h => h)⟩
          rw [flatten_snoc HP.out]
          exact ho1.mono (fun q hq _ => hq.elim id (fun h => Nat.le_trans HB.out.size h))
        clear ho1 ht1)
      go_roundw
      case rel => exact ⟨k + 1, s + l0, by omega, by go_num, HN, H1.out.1, H1.out.2⟩
      case measure => simp [intOf]; omega
    · have HE2 : Hid (Own KInt 2 wr (fun k => w.heap.size ≤ k) (.slice vo s vc) s ms.flatten ∧ Below w.heap.size w wr) := by
        rw [List.take_of_length_le (by have := HL.out; omega)] at hO
        exact ⟨hO, hbw⟩
      clear hO hbw R1
      go_wp2_with fail
      go_ret
      exact ⟨_, _, rfl, HE2.out.1, HE2.out.2⟩
end Go.Proofs.YthpamclljdcjpaaGreatDoor

/- Chapter 5 of the model: what is wrong with a magazine. -/
namespace Go.Proofs.YthpamclljdcjpaaGreatDoor
open Go.RowKit

theorem Lst.drewN {α : Type} {K : Lay α} {w : World} {S : Nat → Prop} {a : Option Addr} {n : Nat} {xs : List α} (h : Lst K w S a n xs) (m : Nat) : Lst K (w.drewN m) S a n xs := h.turn (T := fun _ => False) ((Turn.refl _ w).drewN m) (fun _ _ _ h => h)
theorem quiet_left {P : Program} {f : FuncId} {args : Array Value} {w : World} {n : Nat} {v : Value}
    (h : Calls P f args (w.drewN n) fun e w' => e = .returned v ∧ w.drewN n = w') : Calls P f args (w.drewN n) fun e w'' => e = .returned v ∧ ∃ m, w'' = w.drewN m :=
  h.mono fun _ _ ⟨he, hm⟩ => ⟨he, n, hm.symm⟩
theorem isSlot_start {ps : List Pg} (hv : pagesFault ps = 0) {c a cc s : Int} (h : blockStart ps a = (cc, s)) :
    (cc ≠ 0 → isSlotAt ps c a = false) ∧ (s ≠ a → isSlotAt ps c a = false) ∧ (cc = 0 → s = a → ∃ (n : Nat) (p : Pg), a = (n : Int) ∧ n / 16 < ps.length ∧ ps[n / 16]? = some p ∧ isSlotAt ps c a = (decide (p.kind = 1) && decide (p.cls = c))) := by
  unfold blockStart at h
  unfold isSlotAt
  rcases hh : heldAt ps a with ⟨q, b⟩
  rw [hh] at h
  cases b with
  | none =>
    simp only at h ⊢
    refine ⟨fun _ => trivial, fun _ => trivial, fun h0 => ?_⟩
    injection h with h1 h2
    have := held_code hv hh
    omega
  | some b =>
    simp only at h
    injection h with h1 h2
    subst h1 h2
    cases b with
    | run i m =>
      refine ⟨fun _ => rfl, fun _ => rfl, fun _ hs => ?_⟩
      obtain ⟨_, h0, h1, hx⟩ := held_info hv hh
      rcases hx with ⟨_, _, _, _, e, _⟩ | ⟨i', p, e, hp, hk, hi⟩
      · cases e
      · injection e with e1 e2
        subst e1
        obtain ⟨n, rfl⟩ := Int.eq_ofNat_of_zero_le h0
        have hn : n / 16 = i := by simp only [Blk.start] at hs; omega
        have hil := (List.getElem?_eq_some_iff.1 hp).1
        exact ⟨n, p, rfl, by omega, by rw [hn]; exact hp, by simp [hk]⟩
    | slot i k s =>
      obtain ⟨_, h0, h1, hi, hs', c0, c3, p, hp, p1, p2, _⟩ := held_slot_info hv hh
      refine ⟨fun h => absurd rfl h, fun hs => by simp only; rw [decide_eq_false hs, Bool.and_false], fun _ hs => ?_⟩
      obtain ⟨n, rfl⟩ := Int.eq_ofNat_of_zero_le h0
      have hil := (List.getElem?_eq_some_iff.1 hp).1
      have hn : n / 16 = i := by simpa using hi.symm
      refine ⟨n, p, rfl, by omega, by rw [hn]; exact hp, ?_⟩
      simp only
      rw [decide_eq_true hs, Bool.and_true, p1, p2]; simp

set_option maxRecDepth 100000 in
set_option maxHeartbeats 4000000 in
theorem l5Mag_calls {pa wa ma : Option Addr} {pn pc wn wk mn mc b k : Nat} {h : Hp} {m : List Int} {S : Nat → Prop} {w : World} (hR : Row w b 28 #[.slice pa pn pc, .slice wa wn wk, .slice ma mn mc]) (hr : HpR w S pa pn pc wa wn wk ma mn mc h) (hv : pagesFault h.pages = 0) (hm : h.mags[k]? = some m) (hmn : mn ≤ 1048576) :
    Calls Tryz.prog 88 #[.pointer (some ⟨b, 0, none⟩), .int .i64 k] w fun e w' => e = .returned (.int .i64 (magFault h.pages ((k % 4 : Nat) : Int) m)) ∧ Below w.heap.size w w' := by
  have HV := Lib.hid hv
  have HP := Lib.hid hr.pg.1
  have hpn : pn ≤ 40 := by have := (pagesFault_ok hv).1; have := hr.pg.1; omega
  have hkm : k < mn := by have := (List.getElem?_eq_some_iff.1 hm).1; have := hr.mg.1; omega
  obtain ⟨b0, o0, m', a0, l0, c0, rfl, d0, hp, e0, hlc0, hcm0, hu0⟩ := hr.mg.mag_at hkm
  obtain rfl : m = m' := by rw [hm] at hp; injection hp
  have HL := Lib.hid hu0.1
  obtain ⟨q4, hmod⟩ : ∃ q4 : Int, (k : Int) % 4 = q4 := ⟨_, rfl⟩
  have HQ := Lib.hid (show q4 = ((k % 4 : Nat) : Int) by omega)
  rw [← HQ.out]
  have hT := hr.pg
  have hu := hu0.ints
  have HR := Lib.hid hR
  have q0 := hR.cell 0
  have q2 := hR.cell 2
  have ql := hR.lt
  simp at q0 q2
  clear hr hv hm hp hu0 hcm0 hR
  by_cases h2 : 2 < l0
  · have HF : Hid (magFault h.pages q4 m = 2) := by show _ = _; unfold magFault; rw [if_pos (by rw [HL.out]; exact h2)]
    go_enter Tryz.func88, Tryz.ntmps88
    go_wp2_with fail
    go_ret
    exact ⟨ret_int HF.out.symm, Below.refl _ _⟩
  have HM : Hid (magFault h.pages q4 m = if m.all (isSlotAt h.pages q4) = true then 0 else 1) := by show _ = _; unfold magFault; rw [if_neg (by rw [HL.out]; exact h2)]
  have hl2 : l0 ≤ 2 := by omega
  go_enter Tryz.func88, Tryz.ntmps88
  go_wp2_with fail
  clear e0 q0 q2 ql
  go_loopw [6, 7, 8, 9] (fun i _ _ _ wr => ∃ j : Nat, j ≤ l0 ∧ i = .int .i64 j ∧ Hid ((m.take j).all (isSlotAt h.pages q4) = true) ∧ Below w.heap.size w wr) (fun i _ _ _ _ => l0 - (intOf i).toNat)
  case atStart => exact ⟨0, Nat.zero_le _, rfl, rfl, Below.refl _ _⟩
  case round =>
    obtain ⟨j, hj, rfl, HK, hbw⟩ := hrel
    by_cases hlt : j < l0
    · obtain ⟨b1, o1, rfl, d1, e1⟩ := (hu.below hbw).at_ hlt
      have hx : m[j]? = some (m.getD j 0) := by rw [List.getD_eq_getElem?_getD, List.getElem?_eq_getElem (by rw [HL.out]; exact hlt)]; rfl
      have HX := Lib.hid hx
      generalize m.getD j 0 = x at e1 HX
      clear hx
      have R1 := HR.out.below hbw
      have q0 := R1.cell 0
      have ql := R1.lt
      simp at q0
      obtain ⟨⟨cc, s⟩, hcs⟩ : ∃ p, blockStart h.pages x = p := ⟨_, rfl⟩
      obtain ⟨i1, i2, i3⟩ := isSlot_start HV.out (c := q4) hcs
      have HCS := Lib.hid hcs
      have hTb := hT.below hbw
      have HST : Hid (∀ n0 : Nat, Calls Tryz.prog 156 #[.slice pa pn pc, .int .i64 x] (wr.drewN n0) fun e w' => e = .returned (.tuple #[.int .i64 s, .int .i64 cc]) ∧ wr.drewN n0 = w') := fun n0 => by
        have := l4Start_calls (cc := pc) (at_ := x) (hTb.drewN n0) HV.out
        rw [HCS.out] at this
        exact this
      have hno : isSlotAt h.pages q4 x = false → Hid (magFault h.pages q4 m = 1) := fun hs => by
        show _ = _; rw [HM.out, if_neg]
        intro hall
        have := List.all_eq_true.1 hall x (List.mem_of_getElem? HX.out)
        rw [hs] at this; cases this
      clear hcs
      by_cases hc0 : cc = 0
      rotate_left
      · have HF := hno (i1 hc0)
        have hq : (cc != 0) = true := by simpa using hc0
        clear i1 i2 i3 hno hc0 R1
        go_wp2_with (go_quiet ((go_at_call 156; exact quiet_left (HST.out _))))
        go_ret
        exact ⟨ret_int HF.out.symm, below_drewN hbw _⟩
      have hq : (cc != 0) = false := by simp [hc0]
      by_cases hs0 : s = x
      rotate_left
      · have HF := hno (i2 hs0)
        have hq2 : (s != x) = true := by simpa using hs0
        clear i1 i2 i3 hno hs0 R1 hc0
        go_wp2_with (go_quiet ((go_at_call 156; exact quiet_left (HST.out _))))
        go_ret
        exact ⟨ret_int HF.out.symm, below_drewN hbw _⟩
      obtain ⟨n, p, rfl, hnl, hp, hsl⟩ := i3 hc0 hs0
      subst hc0 hs0
      have hnp : n / 16 < pn := by have := HP.out; omega
      obtain ⟨b2, o2, p', a2, l2, c2, rfl, d2, hp', f0, f1, f2, f3, _, _, _⟩ := hTb.pg_at hnp
      obtain rfl : p = p' := by rw [hp] at hp'; injection hp'
      have hdiv : (n : Int) / 16 = ((n / 16 : Nat) : Int) := by omega
      obtain ⟨u, hu16⟩ : ∃ u, n / 16 = u := ⟨_, rfl⟩
      rw [hu16] at hnp f0 f1 f2 f3 hdiv
      have hq2 : ((n : Int) != (n : Int)) = false := by simp
      clear i1 i2 i3 hnl hp hp' hu16 R1 f2 f3
      have hnx : (0 : Int) ≤ (n : Int) := by omega
      by_cases hk1 : p.kind = 1
      rotate_left
      · have HF := hno (by rw [hsl, decide_eq_false hk1]; rfl)
        have hq3 : (p.kind != 1) = true := by simpa using hk1
        clear hno hsl hk1
        go_wp2_with (go_quiet ((go_at_call 156; exact quiet_left (HST.out _))))
        go_ret
        exact ⟨ret_int HF.out.symm, below_drewN hbw _⟩
      have hq3 : (p.kind != 1) = false := by simp [hk1]
      by_cases hcl : p.cls = q4
      rotate_left
      · have HF := hno (by rw [hsl, decide_eq_false hcl, Bool.and_false])
        have hq4 : (p.cls != q4) = true := by simpa using hcl
        clear hno hsl hk1 hcl
        go_wp2_with (go_quiet ((go_at_call 156; exact quiet_left (HST.out _))))
        go_ret
        exact ⟨ret_int HF.out.symm, below_drewN hbw _⟩
      have hq4 : (p.cls != q4) = false := by simp [hcl]
      have HN : Hid ((m.take (j + 1)).all (isSlotAt h.pages q4) = true) := by
        show _ = _
        rw [List.take_add_one, HX.out, List.all_append, HK.out]
        simp [hsl, hk1, hcl]
      clear hno hsl hk1 hcl
      go_wp2_with (go_quiet ((go_at_call 156; exact quiet_left (HST.out _))))
      go_roundw
      case rel => exact ⟨j + 1, by omega, by go_num, HN, below_drewN hbw _⟩
      case measure => simp [intOf]; omega
    · have HF : Hid (magFault h.pages q4 m = 0) := by
        show _ = _; rw [HM.out, if_pos]
        have := HK.out; rwa [List.take_of_length_le (by have := HL.out; omega)] at this
      go_wp2_with fail
      go_ret
      exact ⟨ret_int HF.out.symm, hbw⟩
end Go.Proofs.YthpamclljdcjpaaGreatDoor

/- Chapter 5 of the model: why a heap is none. -/
namespace Go.Proofs.YthpamclljdcjpaaGreatDoor
open Go.RowKit

theorem alike_yes {xs : List Int} {k : Nat} (hk : k < xs.length) (h : hasIn (xs.take k) xs[k] = true) : alike xs = true := by
  unfold alike
  rw [Bool.not_eq_true', decide_eq_false_iff_not]
  intro hn
  unfold hasIn at h
  rw [List.contains_iff_mem, List.mem_take_iff_getElem] at h
  obtain ⟨i, hi, he⟩ := h
  exact List.pairwise_iff_getElem.1 hn i k (by omega) hk (by omega) he
theorem nodup_step {xs : List Int} {k : Nat} (hk : k < xs.length) (hn : (xs.take k).Nodup) (h : hasIn (xs.take k) xs[k] = false) : (xs.take (k + 1)).Nodup := by
  rw [List.take_succ_eq_append_getElem hk, List.nodup_append]
  refine ⟨hn, by simp, fun a ha b hb e => ?_⟩
  simp at hb
  subst hb
  subst e
  unfold hasIn at h
  rw [Bool.eq_false_iff] at h
  exact h (List.contains_iff_mem.2 ha)

set_option maxRecDepth 100000 in
set_option maxHeartbeats 8000000 in
theorem sHeapFault_calls {pa wa ma : Option Addr} {pn pc wn wc mn mc : Nat} {h : Hp} {S : Nat → Prop} {w : World} (hr : HpR w S pa pn pc wa wn wc ma mn mc h) (hs : HpS 1048576 h) :
    Calls Tryz.prog 23 #[.agg #[.slice pa pn pc, .slice wa wn wc, .slice ma mn mc]] w fun e w' => e = .returned (.int .i64 (heapFault h)) ∧ Below w.heap.size w w' := by
  have HP := Lib.hid hr.pg.1
  have HW := Lib.hid hr.wd.1
  have HM := Lib.hid hr.mg.1
  have HS := Lib.hid hs
  have hpn : pn ≤ 1048576 := by have := HP.out; have := hs.p; omega
  have hwn : wn ≤ 1048576 := by have := HW.out; have := hs.w; omega
  have hmn : mn ≤ 1048576 := by have := HM.out; have := hs.m; omega
  have HR := Lib.hid hr
  have hp2 : pc ≤ 9223372036854775807 := Nat.le_trans hr.p2 (by decide)
  have hp1 := hr.p1
  have hw1 := hr.w1
  have hT := hr.pg
  have HSP : Hid (ShortP 17592186044416 h.pages) := fun p hp => Nat.le_trans (hs.u p hp) (by decide)
  clear hr hs
  go_enter Tryz.func23, Tryz.ntmps23
  go_wp2_with fail
  refine (sPagesFault_calls (hT.alloc _) HSP.out (by omega)).mono ?_
  rintro e w1 ⟨rfl, hb1⟩
  have R1 := Row.new hb1
  have B1 := Lib.hid (below_past hb1)
  clear hb1
  have q0 := R1.cell 0
  have q1 := R1.cell 1
  have q2 := R1.cell 2
  have ql := R1.lt
  simp at q0 q1 q2
  by_cases hv : pagesFault h.pages = 0
  rotate_left
  · have HF : Hid (heapFault h = pagesFault h.pages) := by show _ = _; unfold heapFault; rw [if_neg hv]
    have hq : (pagesFault h.pages != 0) = true := by simpa using hv
    clear hv
    go_wp2_with fail
    go_ret
    exact ⟨ret_int HF.out.symm, B1.out⟩
  have HV := Lib.hid hv
  have hq : (pagesFault h.pages != 0) = false := by simp [hv]
  rw [hv]
  clear hv hq
  obtain ⟨q4, hmod⟩ : ∃ q4 : Int, (mn : Int) % 4 = q4 := ⟨_, rfl⟩
  have HQ := Lib.hid hmod
  by_cases hlen : (wn : Int) = (pn : Int) * 16
  rotate_left
  · have HF : Hid (heapFault h = 2) := by show _ = _; unfold heapFault; rw [if_pos HV.out, if_neg]; rintro ⟨h1, _⟩; have := HW.out; have := HP.out; omega
    have hq : ((wn : Int) != (pn : Int) * 16) = true := by simpa using hlen
    have hq' : ((wn : Int) != 16 * (pn : Int)) = true := by simp; omega
    clear hlen
    go_wp2_with fail
    go_ret
    exact ⟨ret_int HF.out.symm, B1.out⟩
  have HLen := Lib.hid (show h.words.length = h.pages.length * 16 by have := HW.out; have := HP.out; omega)
  have hq : ((wn : Int) != (pn : Int) * 16) = false := by simpa using hlen
  have hq' : ((wn : Int) != 16 * (pn : Int)) = false := by simp; omega
  clear hlen
  have hno : magCount mn = false → Hid (heapFault h = 2) := fun hmc => by
    show _ = _; unfold heapFault; rw [if_pos HV.out, if_neg]; rintro ⟨_, h2⟩; rw [HM.out, hmc] at h2; cases h2
  by_cases h4 : q4 = 0
  rotate_left
  · have HF := hno (by unfold magCount; rw [decide_eq_false_iff_not]; omega)
    have hq2 : (q4 != 0) = true := by simpa using h4
    clear hno
    go_wp2_with fail
    go_ret
    exact ⟨ret_int HF.out.symm, B1.out⟩
  have hq2 : (q4 != 0) = false := by simp [h4]
  by_cases h5 : mn < 4
  · have HF := hno (by unfold magCount; rw [decide_eq_false_iff_not]; omega)
    clear hno
    go_wp2_with fail
    go_ret
    exact ⟨ret_int HF.out.symm, B1.out⟩
  by_cases h6 : 8 < mn
  · have HF := hno (by unfold magCount; rw [decide_eq_false_iff_not]; omega)
    clear hno
    go_wp2_with fail
    go_ret
    exact ⟨ret_int HF.out.symm, B1.out⟩
  have HMC : Hid (h.words.length = h.pages.length * 16 ∧ magCount h.mags.length = true) := ⟨HLen.out, by rw [HM.out]; unfold magCount; rw [decide_eq_true_iff]; omega⟩
  have hmn8 : mn ≤ 8 := by omega
  clear hno h4
  go_wp2_with fail
  clear hq hq' hq2 hmod h5 h6
  go_loop [5] (fun i => ∃ k : Nat, k ≤ wn ∧ i = .int .i64 k ∧ Hid (within (-1000000000) 1000000000 (h.words.take k) = true)) (fun i => wn - (intOf i).toNat)
  case atStart => exact ⟨0, Nat.zero_le _, rfl, by simp [Hid, within]⟩
  case round =>
    obtain ⟨k, hk, rfl, HK⟩ := hrel
    by_cases hlt : k < wn
    · obtain ⟨b3, o3, rfl, d3, e3⟩ := (HR.out.wd.below B1.out).ints.at_ hlt
      have hkx : k < h.words.length := by rw [HW.out]; exact hlt
      have hx : h.words.getD k 0 = h.words[k] := by rw [List.getD_eq_getElem?_getD, List.getElem?_eq_getElem hkx]; rfl
      rw [hx] at e3
      clear hx
      rcases hwi : within (-1000000000) 1000000000 [h.words[k]] with _ | _
      · have HF : Hid (heapFault h = 3) := by
          show _ = _; unfold heapFault; rw [if_pos HV.out, if_pos HMC.out, if_neg (by rw [within_one_no hkx hwi]; decide)]
        have HC : Hid (∀ u : World, Calls Tryz.prog 74 #[.int .i64 h.words[k]] u fun e w' => e = .returned (.bool false) ∧ u = w') := fun u => by rw [← hwi]; exact l1Value_calls
        clear hwi
        go_wp2_with (go_at_call 74; refine (HC.out _).mono ?_; rintro e w' ⟨rfl, rfl⟩)
        go_ret
        exact ⟨ret_int HF.out.symm, B1.out⟩
      · have HN := Lib.hid (within_one_snoc hkx hwi HK.out)
        have HC : Hid (∀ u : World, Calls Tryz.prog 74 #[.int .i64 h.words[k]] u fun e w' => e = .returned (.bool true) ∧ u = w') := fun u => by rw [← hwi]; exact l1Value_calls
        clear hwi
        go_wp2_with (go_at_call 74; refine (HC.out _).mono ?_; rintro e w' ⟨rfl, rfl⟩)
        go_round
        case rel => exact ⟨k + 1, by omega, by go_num, HN⟩
        case measure => simp [intOf]; omega
    · have HWi : Hid (within (-1000000000) 1000000000 h.words = true) := by
        have := HK.out
        rw [List.take_of_length_le (by have := HW.out; omega)] at this
        exact this
      clear HK
      go_wp2_with fail
      clear q0 q1 q2 ql hlt hk
      go_loopw [6, 7] (fun i _ wr => ∃ k : Nat, k ≤ mn ∧ i = .int .i64 k ∧ Hid (∀ (j : Nat) (x : List Int), j < k → h.mags[j]? = some x → magFault h.pages (((0 + j) % 4 : Nat) : Int) x = 0) ∧ Row wr w.heap.size 28 #[.slice pa pn pc, .slice wa wn wc, .slice ma mn mc] ∧ Below w.heap.size w wr) (fun i _ _ => mn - (intOf i).toNat)
      case atStart => exact ⟨0, Nat.zero_le _, rfl, fun j x hj => by omega, R1, B1.out⟩
      case round =>
        clear R1
        obtain ⟨k, hk, rfl, HK, R5, hb5⟩ := hrel
        have B5 := Lib.hid hb5
        by_cases hlt : k < mn
        · obtain ⟨m, hm⟩ : ∃ m, h.mags[k]? = some m := ⟨_, List.getElem?_eq_getElem (by have := HM.out; omega)⟩
          have HMm := Lib.hid hm
          obtain ⟨f, hf⟩ : ∃ f, magFault h.pages ((k % 4 : Nat) : Int) m = f := ⟨_, rfl⟩
          have HFm := Lib.hid hf
          have HC : Hid (Calls Tryz.prog 88 #[.pointer (some ⟨w.heap.size, 0, none⟩), .int .i64 k] wr fun e w' => e = .returned (.int .i64 f) ∧ Below wr.heap.size wr w') := by
            have := l5Mag_calls R5 (HR.out.below B5.out) HV.out HMm.out hmn
            rw [hf] at this; exact this
          have q0 := R5.cell 0
          have q1 := R5.cell 1
          have q2 := R5.cell 2
          have ql := R5.lt
          simp at q0 q1 q2
          clear hm hf hb5
          by_cases hf0 : f = 0
          · have HN : Hid (∀ (j : Nat) (x : List Int), j < k + 1 → h.mags[j]? = some x → magFault h.pages (((0 + j) % 4 : Nat) : Int) x = 0) := fun j x hj hx => by
              by_cases e : j = k
              · subst e; have := HMm.out.symm.trans hx; injection this with this; subst this; rw [Nat.zero_add]; exact HFm.out.trans hf0
              · exact HK.out j x (by omega) hx
            have hq : (f != 0) = false := by simp [hf0]
            clear hf0
            go_wp2_with fail
            refine HC.out.mono ?_
            rintro e w6 ⟨rfl, hb6⟩
            have R6 := R5.below hb6
            have HB6 := Lib.hid (B5.out.trans (hb6.mono B5.out.size))
            clear hb6 R5 q0 q1 q2 ql
            go_wp2_with fail
            go_roundw
            case rel => exact ⟨k + 1, by omega, by go_num, HN, R6, HB6.out⟩
            case measure => simp [intOf]; omega
          · have HF : Hid (heapFault h = f) := by
              have e1 := magsFault_first (j := 0) HK.out HMm.out (by rw [Nat.zero_add, HFm.out]; exact hf0)
              rw [Nat.zero_add, HFm.out] at e1
              show _ = _; unfold heapFault; rw [if_pos HV.out, if_pos HMC.out, if_pos HWi.out, e1, if_neg hf0]
            have hq : (f != 0) = true := by simpa using hf0
            clear hf0
            go_wp2_with fail
            refine HC.out.mono ?_
            rintro e w6 ⟨rfl, hb6⟩
            have HB6 := Lib.hid (B5.out.trans (hb6.mono B5.out.size))
            clear hb6
            go_wp2_with fail
            go_ret
            exact ⟨ret_int HF.out.symm, HB6.out⟩
        · have HM0 : Hid (magsFault h.pages 0 h.mags = 0) := magsFault_none (fun i x hx => HK.out i x (by have := (List.getElem?_eq_some_iff.1 hx).1; have := HM.out; omega) hx)
          have HShort : Hid (h.mags.flatten.length ≤ 1048576) := by
            have h8 : h.mags.length ≤ 8 := by
              have := HMC.out.2; simp [magCount] at this; omega
            have key : ∀ ms : List (List Int), ShortM 2 ms → ms.flatten.length ≤ 2 * ms.length := by
              intro ms
              induction ms with
              | nil => simp
              | cons m r ih =>
                intro hm
                have := ih (fun x hx => hm x (by simp [hx]))
                have := hm m (by simp)
                simp only [List.flatten_cons, List.length_append, List.length_cons]; omega
            have := key h.mags (fun m hm => by
              obtain ⟨j, hj, rfl⟩ := List.getElem_of_mem hm
              exact (magFault_ok (magsFault_at _ HM0.out (List.getElem?_eq_getElem hj))).1)
            show _ ≤ _; omega
          have q0 := R5.cell 0
          have q1 := R5.cell 1
          have q2 := R5.cell 2
          have ql := R5.lt
          simp at q0 q1 q2
          clear HK hb5
          go_wp2_with fail
          refine (l5All_calls R5 (HR.out.mg.below B5.out) (by omega) HShort.out).mono ?_
          rintro e w6 ⟨v6, t6, rfl, hO6, hb6⟩
          have R6 := R5.below hb6
          have B6 := Lib.hid (B5.out.trans (hb6.mono B5.out.size))
          have HT6 := Lib.hid hO6.1
          have ht6 : t6 ≤ 1048576 := by have := hO6.1; have := HShort.out; omega
          obtain ⟨vo6, vc6, rfl, hv1, hv2, hL6⟩ := hO6.shape
          have HI6 := Lib.hid hL6.ints
          clear R5 q0 q1 q2 ql hb6 hO6 hL6
          go_wp2_with fail
          go_loopw [9] (fun i wr => ∃ k : Nat, k ≤ t6 ∧ i = .int .i64 k ∧ Hid ((h.mags.flatten.take k).Nodup) ∧ Below w6.heap.size w6 wr) (fun i _ => t6 - (intOf i).toNat)
          case atStart => exact ⟨0, Nat.zero_le _, rfl, by simp [Hid], Below.refl _ _⟩
          case round =>
            clear hlt hk
            obtain ⟨k, hk, rfl, HN, hbw⟩ := hrel
            by_cases hlt : k < t6
            · have hiw := HI6.out.below hbw
              obtain ⟨b7, o7, rfl, d7, e7⟩ := hiw.at_ hlt
              have hkx : k < h.mags.flatten.length := by rw [HT6.out]; exact hlt
              have hx : h.mags.flatten.getD k 0 = h.mags.flatten[k] := by rw [List.getD_eq_getElem?_getD, List.getElem?_eq_getElem hkx]; rfl
              rw [hx] at e7
              obtain ⟨x, hxx⟩ : ∃ x, x = h.mags.flatten[k] := ⟨_, rfl⟩
              have HX := Lib.hid hxx
              rw [← hxx] at e7
              clear hx hxx
              have hpre : Ints wr (some ⟨b7, o7, none⟩) k (h.mags.flatten.take k) := ⟨by rw [List.length_take]; have := HT6.out; omega, fun h0 => by
                obtain ⟨b8, o8, e8, d8, c8⟩ := hiw.2 (by omega)
                refine ⟨b8, o8, e8, d8, fun i hi => ?_⟩
                rw [c8 i (by omega), List.getD_eq_getElem?_getD, List.getD_eq_getElem?_getD, List.getElem?_take, if_pos hi]⟩
              have HST : Hid (∀ n0 : Nat, Calls Tryz.prog 90 #[.slice (some ⟨b7, o7, none⟩) k vc6, .int .i64 x] (wr.drewN n0) fun e w' => e = .returned (.bool (hasIn (h.mags.flatten.take k) x)) ∧ wr.drewN n0 = w') := fun n0 => l1Has_calls (hpre.drewN n0) (by omega)
              clear hiw hpre
              rcases hh : hasIn (h.mags.flatten.take k) x with _ | _
              · have HN2 := Lib.hid (nodup_step hkx HN.out (by rw [← HX.out]; exact hh))
                rw [hh] at HST
                clear hh
                go_wp2_with (go_quiet ((go_at_call 90; exact quiet_left (HST.out _))))
                go_roundw
                case rel => exact ⟨k + 1, by omega, by go_num, HN2, below_drewN hbw _⟩
                case measure => simp [intOf]; omega
              · have HF : Hid (heapFault h = 6) := by
                  show _ = _; unfold heapFault; rw [if_pos HV.out, if_pos HMC.out, if_pos HWi.out, if_pos HM0.out, if_neg (by unfold Hp.kept; rw [alike_yes hkx (by rw [← HX.out]; exact hh)]; decide)]
                rw [hh] at HST
                clear hh
                have HB9 := Lib.hid (B6.out.trans (hbw.mono B6.out.size))
                go_wp2_with (go_quiet ((go_at_call 90; exact quiet_left (HST.out _))))
                go_ret
                exact ⟨ret_int HF.out.symm, below_drewN HB9.out _⟩
            · have HAl : Hid (alike h.kept = false) := by
                have := HN.out
                rw [List.take_of_length_le (by have := HT6.out; omega)] at this
                show _ = _
                unfold alike Hp.kept
                simpa using this
              have HB9 := Lib.hid (B6.out.trans (hbw.mono B6.out.size))
              have R9 := R6.below hbw
              have HWn := Lib.hid (show wn = pn * 16 by have := HLen.out; have := HW.out; have := HP.out; omega)
              have hpn40 : pn ≤ 40 := by have := (pagesFault_ok HV.out).1; have := HP.out; omega
              clear HN hbw R6
              go_wp2_with fail
              clear hlt hk
              go_loopw [10] (fun i wr => ∃ k : Nat, k ≤ pn ∧ i = .int .i64 k ∧ Hid (∀ (j : Nat) (p : Pg), j < k → h.pages[j]? = some p → p.kind = 0 → frameOf h.words (0 + j) = List.replicate 16 0) ∧ Row wr w.heap.size 28 #[.slice pa pn pc, .slice wa wn wc, .slice ma mn mc] ∧ Below w.heap.size w wr) (fun i _ => pn - (intOf i).toNat)
              case atStart => exact ⟨0, Nat.zero_le _, rfl, fun j p hj => by omega, R9, HB9.out⟩
              case round =>
                clear R9
                obtain ⟨k, hk, rfl, HK2, hR, hbw⟩ := hrel
                have q0 := hR.cell 0
                have q1 := hR.cell 1
                have ql := hR.lt
                simp at q0 q1
                by_cases hlt : k < pn
                · obtain ⟨b0, o0, p, a0, l0, c0, rfl, d0, hp, e0, e1, e2, e3, hlc0, hcm0, hu0⟩ := (hT.below hbw).pg_at hlt
                  have HPk := Lib.hid hp
                  clear hp hcm0 hu0 e1 e2 e3
                  by_cases h0 : p.kind = 0
                  · have hf2 : (k + 1) * 16 ≤ wn := by rw [HWn.out]; omega
                    have hwn4 : wn ≤ 17592186044416 := by rw [HWn.out]; omega
                    have HAi := Lib.hid (HR.out.wd.below hbw)
                    have hq : (p.kind == 0) = true := by simpa using h0
                    rcases hz : decide (frameOf h.words k = List.replicate 16 0) with _ | _
                    · have HF : Hid (heapFault h = 8) := by
                        show _ = _; unfold heapFault; rw [if_pos HV.out, if_pos HMC.out, if_pos HWi.out, if_pos HM0.out, if_pos HAl.out, if_neg]
                        rw [freeZero_no (j := 0) HPk.out h0 (by rw [Nat.zero_add]; simpa using hz)]; decide
                      clear h0
                      go_wp2_with fail
                      refine (l1Frame_calls HAi.out hf2 hw1 hwn4).mono ?_
                      rintro e w2 ⟨v2, rfl, hO2, hb2⟩
                      obtain ⟨vo2, vc2, rfl, _, _, hL2⟩ := hO2.shape
                      have HI2 := Lib.hid hL2.ints
                      have HB2 := Lib.hid (hbw.trans (hb2.mono hbw.size))
                      clear hb2 hO2 hL2
                      go_wp2_with fail
                      refine (l1Zero_calls HI2.out (by omega)).mono ?_
                      rw [hz]
                      rintro e w3 ⟨rfl, rfl⟩
                      go_wp2_with fail
                      go_ret
                      exact ⟨ret_int HF.out.symm, HB2.out⟩
                    · have HN : Hid (∀ (j : Nat) (q : Pg), j < k + 1 → h.pages[j]? = some q → q.kind = 0 → frameOf h.words (0 + j) = List.replicate 16 0) := fun j q hj hq hq0 => by
                        by_cases e : j = k
                        · subst e; rw [Nat.zero_add]; simpa using hz
                        · exact HK2.out j q (by omega) hq hq0
                      clear h0
                      go_wp2_with fail
                      refine (l1Frame_calls HAi.out hf2 hw1 hwn4).mono ?_
                      rintro e w2 ⟨v2, rfl, hO2, hb2⟩
                      obtain ⟨vo2, vc2, rfl, _, _, hL2⟩ := hO2.shape
                      have HI2 := Lib.hid hL2.ints
                      have HB2 := Lib.hid (hbw.trans (hb2.mono hbw.size))
                      have HR2 := Lib.hid (hR.below hb2)
                      clear hb2 hO2 hL2
                      go_wp2_with fail
                      refine (l1Zero_calls HI2.out (by omega)).mono ?_
                      rw [hz]
                      rintro e w3 ⟨rfl, rfl⟩
                      go_wp2_with fail
                      go_roundw
                      case rel => exact ⟨k + 1, by omega, by go_num, HN, HR2.out, HB2.out⟩
                      case measure => simp [intOf]; omega
                  · have HN : Hid (∀ (j : Nat) (q : Pg), j < k + 1 → h.pages[j]? = some q → q.kind = 0 → frameOf h.words (0 + j) = List.replicate 16 0) := fun j q hj hq hq0 => by
                      by_cases e : j = k
                      · subst e; have := HPk.out.symm.trans hq; injection this with this; subst this; exact absurd hq0 h0
                      · exact HK2.out j q (by omega) hq hq0
                    have hq : (p.kind == 0) = false := by simpa using h0
                    clear h0
                    go_wp2_with fail
                    go_roundw
                    case rel => exact ⟨k + 1, by omega, by go_num, HN, hR, hbw⟩
                    case measure => simp [intOf]; omega
                · have HF : Hid (heapFault h = 0) := heapFault_of HV.out HMC.out.1 HMC.out.2 HWi.out HM0.out HAl.out (freeZero_yes fun j p hj hj0 => HK2.out j p (by have := (List.getElem?_eq_some_iff.1 hj).1; have := HP.out; omega) hj hj0)
                  go_wp2_with fail
                  go_ret
                  exact ⟨ret_int HF.out.symm, hbw⟩
end Go.Proofs.YthpamclljdcjpaaGreatDoor

/- Chapter 5 of the model: where a block lives; the blocks that live; how many are kept; heaps compared. -/
namespace Go.Proofs.YthpamclljdcjpaaGreatDoor
open Go.RowKit

set_option maxRecDepth 100000 in
set_option maxHeartbeats 2000000 in
theorem l5Live_calls {pa wa ma : Option Addr} {pn pc wn wk mn mc b : Nat} {h : Hp} {at_ : Int} {S : Nat → Prop} {w : World} (hR : Row w b 28 #[.slice pa pn pc, .slice wa wn wk, .slice ma mn mc]) (hr : HpR w S pa pn pc wa wn wk ma mn mc h) (hf : heapFault h = 0) :
    Calls Tryz.prog 153 #[.pointer (some ⟨b, 0, none⟩), .int .i64 at_] w fun e w' => e = .returned (.tuple #[.int .i64 (liveIn h at_).2, .int .i64 (liveIn h at_).1]) ∧ Below w.heap.size w w' := by
  obtain ⟨⟨c, s⟩, hcs⟩ : ∃ p, blockStart h.pages at_ = p := ⟨_, rfl⟩
  have HST : Hid (Calls Tryz.prog 156 #[.slice pa pn pc, .int .i64 at_] w fun e w' => e = .returned (.tuple #[.int .i64 s, .int .i64 c]) ∧ w = w') := by
    have := l4Start_calls (cc := pc) (at_ := at_) hr.pg (heapFault_ok hf).1
    rw [hcs] at this
    exact this
  have HL : Hid (liveIn h at_ = if c = 0 then (if hasIn h.mags.flatten s = true then (4, 0) else (0, s)) else (c, 0)) := by
    show _ = _; unfold liveIn Hp.kept; rw [hcs]
  have HSm := Lib.hid (mags_small hf).2.2.2
  have HM8 : mn ≤ 8 := by have := (mags_small hf).1; have := hr.mg.1; omega
  have HR := Lib.hid hR
  have HMg := Lib.hid hr.mg
  have q0 := hR.cell 0
  have ql := hR.lt
  simp at q0
  clear hR hr hf hcs
  go_enter Tryz.func153, Tryz.ntmps153
  by_cases hc : c = 0
  rotate_left
  · have HF : Hid (liveIn h at_ = (c, 0)) := by show _ = _; rw [HL.out, if_neg hc]
    have hq : (c != 0) = true := by simpa using hc
    clear hc
    go_wp2_with (go_at_call 156; refine HST.out.mono ?_; rintro e w' ⟨rfl, rfl⟩)
    go_ret2
    exact ⟨ret_two (by rw [HF.out]) (by rw [HF.out]), Below.refl _ _⟩
  subst hc
  go_wp2_with (go_at_call 156; refine HST.out.mono ?_; rintro e w' ⟨rfl, rfl⟩)
  refine (l5All_calls HR.out HMg.out (by omega) (by have := HSm.out; unfold Hp.kept at this; omega)).mono ?_
  rintro e w2 ⟨v2, t2, rfl, hO2, hb2⟩
  obtain ⟨vo2, vc2, rfl, _, _, hL2⟩ := hO2.shape
  have HI2 := Lib.hid hL2.ints
  have HB2 := Lib.hid hb2
  have ht2 : t2 ≤ 16 := by have := hO2.1; have := HSm.out; unfold Hp.kept at this; omega
  clear hb2 hO2 hL2
  go_wp2_with fail
  refine (l1Has_calls HI2.out (by omega)).mono ?_
  rcases hh : hasIn h.mags.flatten s with _ | _
  · have HF : Hid (liveIn h at_ = (0, s)) := by show _ = _; rw [HL.out, if_pos trivial, if_neg (by rw [hh]; decide)]
    rintro e w3 ⟨rfl, rfl⟩
    go_wp2_with fail
    go_ret2
    exact ⟨ret_two (by rw [HF.out]) (by rw [HF.out]), HB2.out⟩
  · have HF : Hid (liveIn h at_ = (4, 0)) := by show _ = _; rw [HL.out, if_pos trivial, if_pos hh]
    rintro e w3 ⟨rfl, rfl⟩
    go_wp2_with fail
    go_ret2
    exact ⟨ret_two (by rw [HF.out]) (by rw [HF.out]), HB2.out⟩

/-- What a list of places owns while it is made. -/
structure OwnC (w w' : World) (v : Value) (n k : Nat) (xs : List Int) : Prop where
  own : Own KInt 2 w' (fun q => w.heap.size ≤ q) v n xs
  le : n ≤ k
theorem OwnC.below {w w' w2 : World} {v : Value} {n k : Nat} {xs : List Int} (h : OwnC w w' v n k xs) (hb : Below w'.heap.size w' w2) : OwnC w w2 v n k xs := ⟨h.own.below hb, h.le⟩
theorem OwnC.next {w w' : World} {v : Value} {n k : Nat} {h : Hp} (ho : OwnC w w' v n k (blocksTo h k)) (hn : blocksTo h (k + 1) = blocksTo h k) : OwnC w w' v n (k + 1) (blocksTo h (k + 1)) := ⟨by rw [hn]; exact ho.own, by have := ho.le; omega⟩
theorem OwnC.shape {w w' : World} {v : Value} {n k : Nat} {xs : List Int} (h : OwnC w w' v n k xs) : ∃ a c, v = .slice a n c ∧ n ≤ k := by
  obtain ⟨a, c, e, _⟩ := h.own.shape
  exact ⟨a, c, e, h.le⟩

set_option maxRecDepth 100000 in
set_option maxHeartbeats 2000000 in
theorem l5Blocks_calls {pa wa ma : Option Addr} {pn pc wn wk mn mc b : Nat} {h : Hp} {S : Nat → Prop} {w : World} (hR : Row w b 28 #[.slice pa pn pc, .slice wa wn wk, .slice ma mn mc]) (hr : HpR w S pa pn pc wa wn wk ma mn mc h) (hf : heapFault h = 0) :
    Calls Tryz.prog 85 #[.pointer (some ⟨b, 0, none⟩)] w fun e w' => ∃ v n, e = .returned v ∧ Own KInt 2 w' (fun q => w.heap.size ≤ q) v n (blocksIn h) ∧ Below w.heap.size w w' := by
  obtain ⟨ib, hib, hb0, hb1, hb2⟩ := info_parts info64
  have HR := Lib.hid hr
  have HFk := Lib.hid hf
  have HW := Lib.hid hr.wd.1
  have hwn : wn ≤ 640 := by have := (heapFault_ok hf).2.1; have := (pagesFault_ok (heapFault_ok hf).1).1; have := hr.wd.1; omega
  have HRow := Lib.hid hR
  have hE : Own KInt 2 (w.alloc (.cells #[] 2)) (fun k => w.heap.size ≤ k) (.slice (some ⟨w.heap.size, 0, none⟩) 0 0) 0 (blocksTo h 0) := Own.empty (heap_alloc_new w (.cells #[] 2)) (Nat.le_refl _)
  have hB : Below w.heap.size w (w.alloc (.cells #[] 2)) := (Below.refl _ _).alloc (Nat.le_refl _) _
  have HE := Lib.hid (And.intro hE hB)
  clear hE hB hR hr hf
  go_enter Tryz.func85, Tryz.ntmps85
  go_wp2_with fail
  go_loopw [3, 4, 5, 6] (fun v i _ _ wr => ∃ k s : Nat, k ≤ wn ∧ i = .int .i64 k ∧ OwnC w wr v s k (blocksTo h k) ∧ Below w.heap.size w wr) (fun _ i _ _ _ => wn - (intOf i).toNat)
  case atStart => exact ⟨0, 0, Nat.zero_le _, rfl, ⟨HE.out.1, Nat.le_refl _⟩, HE.out.2⟩
  case round =>
    clear HE
    obtain ⟨k, t, hk, rfl, hO, hbw⟩ := hrel
    obtain ⟨vo0, vc0, rfl, _⟩ := hO.shape
    have R1 := HRow.out.below hbw
    have q1 := R1.cell 1
    have ql := R1.lt
    simp at q1
    by_cases hlt : k < wn
    · obtain ⟨⟨c, s⟩, hcs⟩ : ∃ p, liveIn h (k : Int) = p := ⟨_, rfl⟩
      have HCS := Lib.hid hcs
      have HC : Hid (Calls Tryz.prog 153 #[.pointer (some ⟨b, 0, none⟩), .int .i64 k] wr fun e w' => e = .returned (.tuple #[.int .i64 s, .int .i64 c]) ∧ Below wr.heap.size wr w') := by
        have := l5Live_calls (at_ := (k : Int)) R1 (HR.out.below hbw) HFk.out
        rw [hcs] at this; exact this
      have HB := Lib.hid hbw
      clear hcs hbw R1
      by_cases hc : c = 0
      rotate_left
      · have HN : Hid (blocksTo h (k + 1) = blocksTo h k) := by
          show _ = _; rw [blocksTo, if_neg (by rw [HCS.out]; simp; intro e; exact absurd e hc), List.append_nil]
        have hq : (c == 0) = false := by simpa using hc
        clear hc
        go_wp2_with fail
        refine HC.out.mono ?_
        rintro e w2 ⟨rfl, hb2⟩
        have HO2 := Lib.hid ((hO.below hb2).next HN.out)
        have HB2 := Lib.hid (HB.out.trans (hb2.mono HB.out.size))
        clear hb2 hO
        go_wp2_with fail
        go_roundw
        case rel => exact ⟨k + 1, _, by omega, by go_num, HO2.out, HB2.out⟩
        case measure => simp [intOf]; omega
      subst hc
      by_cases hs : s = (k : Int)
      rotate_left
      · have HN : Hid (blocksTo h (k + 1) = blocksTo h k) := by
          show _ = _; rw [blocksTo, if_neg (by rw [HCS.out]; simp; exact hs), List.append_nil]
        have hq : (s == (k : Int)) = false := by simpa using hs
        clear hs
        go_wp2_with fail
        refine HC.out.mono ?_
        rintro e w2 ⟨rfl, hb2⟩
        have HO2 := Lib.hid ((hO.below hb2).next HN.out)
        have HB2 := Lib.hid (HB.out.trans (hb2.mono HB.out.size))
        clear hb2 hO
        go_wp2_with fail
        go_roundw
        case rel => exact ⟨k + 1, _, by omega, by go_num, HO2.out, HB2.out⟩
        case measure => simp [intOf]; omega
      · have HN : Hid (blocksTo h (k + 1) = blocksTo h k ++ [(k : Int)]) := by
          show _ = _; rw [blocksTo, if_pos (by rw [HCS.out, hs])]
        subst hs
        have hq : ((k : Int) == (k : Int)) = true := by simp
        go_wp2_with fail
        refine HC.out.mono ?_
        rintro e w2 ⟨rfl, hb2⟩
        have HO2 := Lib.hid (hO.below hb2)
        have HB2 := Lib.hid (HB.out.trans (hb2.mono HB.out.size))
        have hsk := HO2.out.le
        clear hb2 hO
        have hc4 : (w2.alloc (.cells #[.int .i64 k] 2)).cell? ⟨w2.heap.size, 0, none⟩ = some (.int .i64 k) := cell_one rfl
        have HC4 := Lib.hid hc4
        clear hc4
        go_wp2_with (
          at_builtin
          go_must (refine wpList_append_elem (K := KInt) (G := fun _ => False) rfl (.tmp 30) (.tmp 32) 25 rfl 2 ib (.int .i64 0) 8 Tryz.underlying25 hib hb0 hb1 hb2 rfl (by decide) one_int (b := w2.heap.size) (c := 1) (y := (k : Int)) (cs := [.int .i64 (k : Int)]) rfl (HO2.out.own.alloc _) rfl (fun j u hu => ?_) rfl (fun _ h => h.elim) (by unfold maxLen; omega) (by omega) ?_)
          · cases j with
            | zero => simp at hu; subst hu; exact HC4.out
            | succ j => simp at hu
          intro v5 w5 ho5 ht5
          have H5 : Hid (OwnC w w5 v5 (t + 1) (k + 1) (blocksTo h (k + 1)) ∧ Below w.heap.size w w5) := by
            have hB5 := (HB2.out.alloc HB2.out.size (.cells #[.int .i64 k] 2))
            refine ⟨⟨?_, by omega⟩, ht5.below hB5 (by have := HB2.out.size; simp; omega) (fun q hq => by omega)⟩
            rw [HN.out]
            refine ho5.mono (fun q hq _ => ?_)
            have := HB2.out.size
            rcases hq with hq | hq | hq
            · exact hq
            · exact hq.elim
            · simp at hq; omega
          clear ho5 ht5)
        go_roundw
        case rel => exact ⟨k + 1, _, by omega, by go_num, H5.out.1, H5.out.2⟩
        case measure => simp [intOf]; omega
    · have HE2 : Hid (Own KInt 2 wr (fun q => w.heap.size ≤ q) (.slice vo0 t vc0) t (blocksIn h) ∧ Below w.heap.size w wr) := by
        have := hO.own
        rw [show k = h.words.length by have := HW.out; omega] at this
        exact ⟨this, hbw⟩
      clear hO hbw R1
      go_wp2_with fail
      go_ret
      exact ⟨_, _, rfl, HE2.out.1, HE2.out.2⟩

set_option maxRecDepth 100000 in
set_option maxHeartbeats 2000000 in
theorem sLiveBlocks_calls {pa wa ma : Option Addr} {pn pc wn wk mn mc : Nat} {h : Hp} {S : Nat → Prop} {w : World} (hk : HpK w S pa pn pc wa wn wk ma mn mc h) :
    Calls Tryz.prog 20 #[.agg #[.slice pa pn pc, .slice wa wn wk, .slice ma mn mc]] w (RetsInts w (liveBlocks h)) := by
  have HK := Lib.hid hk
  obtain ⟨n1, n2, n3, n4, n5⟩ := hk.small
  clear hk
  obtain ⟨V, hV⟩ : ∃ V, V = (w.alloc (.cells #[.slice pa pn pc, .slice wa wn wk, .slice ma mn mc] 28)).alloc (.cells #[.int .i64 0, .slice none 0 0] 43) := ⟨_, rfl⟩
  have hB0 : Below w.heap.size w V := by rw [hV]; exact ((Below.refl _ _).alloc (Nat.le_refl _) _).alloc (by simp) _
  have HB0 := Lib.hid hB0
  clear hB0
  go_enter Tryz.func20, Tryz.ntmps20
  go_wp2_with fail
  rw [← hV]
  refine (sHeapFault_calls (HK.out.r.below HB0.out) HK.out.s).mono ?_
  rintro e w1 ⟨rfl, hb1⟩
  rw [hV] at hb1
  obtain ⟨R0, R1, B1, hs1⟩ := two_new hb1
  have HR0 : Hid (Row w1 w.heap.size 28 #[.slice pa pn pc, .slice wa wn wk, .slice ma mn mc]) := R0
  have HR1 : Hid (Row w1 (w.heap.size + 1) 43 #[.int .i64 0, .slice none 0 0]) := R1
  have HB1 := Lib.hid B1
  clear hb1 R1 B1 R0 hV
  by_cases hf : heapFault h = 0
  rotate_left
  · have HF : Hid (liveBlocks h = (heapFault h, [])) := by show _ = _; unfold liveBlocks; rw [if_neg hf]
    have hq : (heapFault h != 0) = true := by simpa using hf
    clear hf
    have hres := HR1.out
    go_wp2_with (refine wpList_store_row rfl 43 _ _ rfl (w.heap.size + 1) _ rfl rfl _ _ hres (by kernel_rfl) (by rfl) (by simp [Value.oneCell']) ?_)
    refine bodyPost_ret (results_cell_row rfl _ _ (w.heap.size + 1) _ _ _ _ rfl (setRow_heap _ _ _ _ _ _ hres) Tryz.underlying43 rfl (by kernel_rfl)) rfl ?_
    exact rets_done HB1.out (by omega) (OwnI.nil _ (w.heap.size + 2)) (by omega) _ HF.out
  have HF : Hid (liveBlocks h = (0, blocksIn h)) := by show _ = _; unfold liveBlocks; rw [if_pos hf]
  have HFk := Lib.hid hf
  rw [hf]
  clear hf
  go_wp2_with fail
  refine (l5Blocks_calls HR0.out (HK.out.below HB1.out).r HFk.out).mono ?_
  rintro e w2 ⟨v2, t2, rfl, hO2, hb2⟩
  have HB2 := Lib.hid (HB1.out.trans (hb2.mono HB1.out.size))
  have hres := HR1.out.below hb2
  obtain ⟨vo, vc, rfl, _⟩ := hO2.shape
  have HOI := Lib.hid ((hO2.fresh (B' := w.heap.size + 2) hs1).toI)
  clear hb2 hO2
  go_wp2_with (refine wpList_store_row rfl 43 _ _ rfl (w.heap.size + 1) _ rfl rfl _ _ hres (by kernel_rfl) (by rfl) (by simp [Value.oneCell']) ?_)
  refine bodyPost_ret (results_cell_row rfl _ _ (w.heap.size + 1) _ _ _ _ rfl (setRow_heap _ _ _ _ _ _ hres) Tryz.underlying43 rfl (by kernel_rfl)) rfl ?_
  exact rets_done HB2.out (by omega) HOI.out (by omega) _ HF.out

end Go.Proofs.YthpamclljdcjpaaGreatDoor

/- Chapter 5 of the model: heaps compared. -/
namespace Go.Proofs.YthpamclljdcjpaaGreatDoor
open Go.RowKit

theorem drewN_drewN (w : World) (a b : Nat) : ∃ c, (w.drewN a).drewN b = w.drewN c := by
  obtain ⟨k, hk⟩ : ∃ k, k = b := ⟨_, rfl⟩
  exact ⟨b + a, by simp [World.drewN, Nat.add_comm, Nat.add_left_comm, Nat.add_assoc]⟩

end Go.Proofs.YthpamclljdcjpaaGreatDoor

/- Chapter 5 of the model: new heaps. -/
namespace Go.Proofs.YthpamclljdcjpaaGreatDoor
open Go.RowKit

section
variable {w : World} {o b c : Obj} {t : TypeId} {cs : Array Value}
theorem fourB : Below w.heap.size w ((((w.alloc o).alloc (.cells cs t)).alloc b).alloc c).drew := (((((Below.refl _ _).alloc (Nat.le_refl _) _).alloc (by simp) _).alloc (by simp <;> omega) _).alloc (by simp <;> omega) _).drew
theorem four0 {a : Obj} : Row ((((w.alloc (.cells cs t)).alloc a).alloc b).alloc c).drew w.heap.size t cs := by
  refine Row.drew ?_
  unfold Row
  rw [@heap_alloc_old _ _ _ (by simp <;> omega), @heap_alloc_old _ _ _ (by simp <;> omega), @heap_alloc_old _ _ _ (by simp)]
  exact heap_alloc_new _ _
theorem four1 : Row ((((w.alloc o).alloc (.cells cs t)).alloc b).alloc c).drew (w.heap.size + 1) t cs := by
  refine Row.drew ?_
  unfold Row
  rw [@heap_alloc_old _ _ _ (by simp <;> omega), @heap_alloc_old _ _ _ (by simp)]
  have := heap_alloc_new (w.alloc o) (.cells cs t)
  simpa using this
theorem four2 : Row ((((w.alloc o).alloc b).alloc (.cells cs t)).alloc c).drew (w.heap.size + 1 + 1) t cs := by
  refine Row.drew ?_
  unfold Row
  rw [@heap_alloc_old _ _ _ (by simp)]
  have := heap_alloc_new ((w.alloc o).alloc b) (.cells cs t)
  simpa using this
theorem four3 : Row ((((w.alloc o).alloc b).alloc c).alloc (.cells cs t)).drew (w.heap.size + 1 + 1 + 1) t cs := by
  refine Row.drew ?_
  unfold Row
  have := heap_alloc_new (((w.alloc o).alloc b).alloc c) (.cells cs t)
  simpa using this
end
/-- Three slices, newly made, are a new heap. -/
theorem made_heap {w W : World} {p c q r x y z : Nat} {CP CW CM : Array Value} {u1 : Value} {u2 : Value} {u3 : Value} (HCP : ZeroRow (Value.agg #[.int .i64 0, .int .i64 0, .slice none 0 0, .int .i64 0]).cells.toList p CP) (HCW : ZeroRow (Value.int .i64 0).cells.toList q CW) (HCM : ZeroRow (Value.slice none 0 0).cells.toList r CM)
    (hq : q = p * 16) (hr : r = 4 * c) (hp : p ≤ 40) (hc : c ≤ 2) (hx : Row W x 137 CP) (hy : Row W y 2 CW) (hz : Row W z 25 CM) (hB : Below w.heap.size w W)
    (h1 : x ≠ y) (h2 : x ≠ z) (h3 : y ≠ z) (g1 : w.heap.size ≤ x) (g2 : w.heap.size ≤ y) (g3 : w.heap.size ≤ z) (e1 : u1 = .slice (some ⟨x, 0, none⟩) p p) (e2 : u2 = .slice (some ⟨y, 0, none⟩) q q) (e3 : u3 = .slice (some ⟨z, 0, none⟩) r r) :
    MakesHeap w (newHp p c) (.returned (.agg #[u1, u2, u3])) W := by
  subst hq hr e1 e2 e3
  exact ⟨_, _, _, _, _, _, rfl, HpO.mk3 (A := fun k => k = x) (B := fun k => k = y) (C := fun k => k = z) (Own.of_zero hx HCP rfl (KPage_own_mk (p := Pg.free) Own.nil) (by unfold maxLen; omega)) (Own.of_zero hy HCW rfl rfl (by unfold maxLen; omega)) (Own.of_zero (K := KMag) hz HCM rfl (KMag_own_mk Own.nil) (by unfold maxLen; omega))
    (fun k e => by omega) (fun k e => by omega) (fun k e => by omega) (fun k e f => h1 (e.symm.trans f)) (fun k e f => h2 (e.symm.trans f)) (fun k e f => h3 (e.symm.trans f)), hB⟩

set_option maxRecDepth 100000 in
set_option maxHeartbeats 2000000 in
theorem l5New_calls {p c : Nat} {w : World} (hp : p ≤ 40) (hc : c ≤ 2) :
    Calls Tryz.prog 127 #[.int .i64 p, .int .i64 c] w (MakesHeap w (newHp p c)) := by
  obtain ⟨ip, hip, hp0, hp1, hp2⟩ := info_parts infoPg
  obtain ⟨iw, hiw, hw0, hw1, hw2⟩ := info_parts info64
  obtain ⟨im, him, hm0, hm1, hm2⟩ := info_parts infoMg
  obtain ⟨q, hq⟩ : ∃ q, q = p * 16 := ⟨_, rfl⟩
  obtain ⟨r, hr⟩ : ∃ r, r = 4 * c := ⟨_, rfl⟩
  obtain ⟨CP, hCP, hmk1⟩ := make_eq (P := Tryz.prog) Tryz.underlying24 hip hp0 hp1 rfl p (by rw [hp2]; omega) (by omega)
  obtain ⟨CW, hCW, hmk2⟩ := make_eq (P := Tryz.prog) Tryz.underlying25 hiw hw0 hw1 rfl q (by rw [hw2]; omega) (by omega)
  obtain ⟨CM, hCM, hmk3⟩ := make_eq (P := Tryz.prog) Tryz.underlying26 him hm0 hm1 rfl r (by rw [hm2]; omega) (by omega)
  have hq2 : (p : Int) * 16 = (q : Int) := by omega
  have hr2 : 4 * (c : Int) = (r : Int) := by omega
  have HCP := Lib.hid hCP
  have HCW := Lib.hid hCW
  have HCM := Lib.hid hCM
  have HQ := Lib.hid hq
  have HRr := Lib.hid hr
  clear hq hr hCP hCW hCM
  go_enter Tryz.func127, Tryz.ntmps127
  go_wp2_with fail
  go_region
  all_goals (
    go_wp2_with fail
    refine bodyPost_ret (results_cell_row rfl _ _ (w.heap.size) _ _ _ _ rfl four0 Tryz.underlying28 rfl (by kernel_rfl)) rfl ?_
    exact made_heap HCP.out HCW.out HCM.out HQ.out HRr.out hp hc (by first | exact four1 | exact four2 | exact four3) (by first | exact four1 | exact four2 | exact four3) (by first | exact four1 | exact four2 | exact four3) fourB (by omega) (by omega) (by omega) (by omega) (by omega) (by omega) rfl rfl rfl)

end Go.Proofs.YthpamclljdcjpaaGreatDoor

/- append(out, x), one element, at a step of a region that draws its order. -/
namespace Go.Proofs.YthpamclljdcjpaaGreatDoor
open Go.RowKit

section
variable {P : Program} {α : Type} {K : Lay α} {w : World} {S : Nat → Prop} {ops : Array Oper} {o : Oper} {a : Act} {Q : Exit → Act → World → Prop} {K' : Act → World → Prop} {E : Prop}
theorem step_append_elem (hgd : o.guard = none) (s x : Operand) (t : TypeId) (ho : o.op = .call { callee := .builtin .append, args := #[s, x], argTypes := #[t, t] })
    (e : TypeId) (i : TypeInfo) (z : Value) (bytes : Nat) (ht : P.underlying t = some (.slice e)) (hi : P.info? e = some i) (hz : i.zero = some z)
    (hsize : i.size = K.sz) (hby : i.bytes = bytes) (hzs : z.cells.size = K.sz) (hsz : 0 < K.sz) (hone : OneC K)
    {v : Value} {n b c : Nat} {xs : List α} {y : α} {G : Nat → Prop} {cs : List Value} (hs : a.eval s = v) (hown : Own K e w S v n xs) (hx : a.eval x = .slice (some ⟨b, 0, none⟩) 1 c)
    (hcs : ∀ j u, cs[j]? = some u → w.cell? ⟨b, j, none⟩ = some u) (hy : K.own w G cs y) (hG : ∀ k, G k → k < w.heap.size → ¬ S k)
    (h63 : n + 1 ≤ maxLen) (hbytes : (n + 1) * bytes ≤ 140737488355328)
    (h : ∀ v' w', Own K e w' (fun k => S k ∨ G k ∨ w.heap.size ≤ k) v' (n + 1) (xs ++ [y]) → Turn S w w' → K' (a.put o.dst v') w') :
    if Region.wanted o (yielded ops a.tmps) = true then Oper.wp P o a w K' Q else E := by
  have hw : Region.wanted o (yielded ops a.tmps) = true := by simp [Region.wanted, hgd]
  rw [if_pos hw]
  obtain ⟨cells, hrow, hS, F, hF, hD, hc⟩ := hown.row
  have hcl : cs.length = K.sz := K.rd_len (K.own_rd hy)
  obtain ⟨v', w', h1, h2, h3, _, h5⟩ := run_append_own_at (P := P) w 0 t o.type e i z K.sz bytes ht hi hz hsize hby hzs hsz v n cells hrow ⟨b, 0, none⟩ 1 c cs (by omega) (fun j u hu => by rw [add_plain', Nat.zero_add]; exact hcs j u hu) (hone _ _ _ _ (K.own_rd hy)) h63 hbytes (Nat.zero_le _)
  unfold Oper.wp execOp
  simp only [ho, resolve, invoke, builtin, Sem.run_bind, Sem.run_pure, Result.andThen_ok, List.map_toArray, List.map_cons, List.map_nil, hs, hx, h1]
  refine h v' w' ?_ ((Turn.of_grown h3).mono (fun k hk _ => hS k hk))
  refine Own.snoc hown.1 hS hF hD hc hrow.1 hcl hy hG h2 h3 (fun g hg => ?_)
  rcases h5 with h6 | h6
  · exact .inl (by rw [← h6]; exact hg)
  · rw [hg] at h6; injection h6 with h6; exact .inr (by omega)
end
end Go.Proofs.YthpamclljdcjpaaGreatDoor
