/- Joined texts (Law5b, Law5c): steps of the proofs of chapter 5's laws. -/
import Derived.Test.YtcnpckaacigbfaaM5
import Derived.Test.YtcnpckaacigbfaaM6
import Derived.Test.YtcnpckaacigbfaaM8
set_option linter.unusedVariables false
set_option linter.unusedSimpArgs false
/- The exact laws of chapter 5: new heaps; heaps compared. -/
namespace Go.Proofs.Ytcnpckaacigbfaa
open Go.RowKit

theorem HpS.newHp {p c : Nat} (hp : p ≤ 40) (hc : c ≤ 2) : HpS 1048576 (newHp p c) := by
  refine ⟨by simp [Go.Proofs.Ytcnpckaacigbfaa.newHp]; omega, fun q hq => ?_, by simp [Go.Proofs.Ytcnpckaacigbfaa.newHp]; omega, by simp [Go.Proofs.Ytcnpckaacigbfaa.newHp]; omega, fun m hm => ?_⟩
  · simp only [Go.Proofs.Ytcnpckaacigbfaa.newHp, List.mem_replicate] at hq; rw [hq.2]; simp [Pg.free]
  · simp only [Go.Proofs.Ytcnpckaacigbfaa.newHp, List.mem_replicate] at hm; rw [hm.2]; simp
theorem HpS.zero : HpS 1048576 Hp.zero := ⟨by simp [Hp.zero], fun p hp => by simp [Hp.zero] at hp, by simp [Hp.zero], by simp [Hp.zero], fun m hm => by simp [Hp.zero] at hm⟩
theorem newHeap_small (p c : Int) : HpS 1048576 (newHeap p c).2 := by
  unfold newHeap
  split
  · rename_i h
    have h1 := within_range h.1
    have h2 := within_range h.2
    exact HpS.newHp (by omega) (by omega)
  · exact HpS.zero
theorem RetsHeap.open_ {w w' : World} {r : Int × Hp} {e : Ending} (hm : RetsHeap w r e w') : ∃ pa pn pc wa wn wk ma mn mc, e = .returned (.agg #[.int .i64 r.1, .slice pa pn pc, .slice wa wn wk, .slice ma mn mc, .int .i64 0, .int .i64 0]) ∧ HpO w' (fun k => w.heap.size ≤ k) (.slice pa pn pc) pn (.slice wa wn wk) wn (.slice ma mn mc) mn r.2 ∧ Below w.heap.size w w' := by
  obtain ⟨vp, np, vw, nw, vm, nm, rfl, ho, hb⟩ := hm
  obtain ⟨pa, pc, wa, wc, ma, mc, rfl, rfl, rfl, _⟩ := ho.shape
  exact ⟨_, _, _, _, _, _, _, _, _, rfl, ho, hb⟩

/-- Two results in boxes; the second one owns memory of its own. -/
structure HoldR (w W : World) (bw bg : Nat) (q : Int) (a1 : Option Addr) (n1 c1 : Nat) (a2 : Option Addr) (n2 c2 : Nat) (a3 : Option Addr) (n3 c3 : Nat) (g1 : Option Addr) (m1 d1 : Nat) (g2 : Option Addr) (m2 d2 : Nat) (g3 : Option Addr) (m3 d3 : Nat) (rs gs : Hp) : Prop where
  bel : Below w.heap.size w W
  rw_ : Row W bw 38 #[.int .i64 q, .slice a1 n1 c1, .slice a2 n2 c2, .slice a3 n3 c3, .int .i64 0, .int .i64 0]
  rg : Row W bg 38 #[.int .i64 q, .slice g1 m1 d1, .slice g2 m2 d2, .slice g3 m3 d3, .int .i64 0, .int .i64 0]
  ex : ∃ Sw Sg : Nat → Prop, HpR W Sw a1 n1 c1 a2 n2 c2 a3 n3 c3 rs ∧ HpO W Sg (.slice g1 m1 d1) m1 (.slice g2 m2 d2) m2 (.slice g3 m3 d3) m3 gs ∧ ∀ k, Sg k → w.heap.size ≤ k ∧ k ≠ bw ∧ k ≠ bg ∧ ¬ Sw k
section
variable {w W W' : World} {bw bg : Nat} {q : Int} {a1 a2 a3 g1 g2 g3 : Option Addr} {n1 c1 n2 c2 n3 c3 m1 d1 m2 d2 m3 d3 : Nat} {rs gs : Hp}
theorem HoldR.below (h : HoldR w W bw bg q a1 n1 c1 a2 n2 c2 a3 n3 c3 g1 m1 d1 g2 m2 d2 g3 m3 d3 rs gs) (hb : Below W.heap.size W W') : HoldR w W' bw bg q a1 n1 c1 a2 n2 c2 a3 n3 c3 g1 m1 d1 g2 m2 d2 g3 m3 d3 rs gs := by
  obtain ⟨Sw, Sg, h1, h2, h3⟩ := h.ex
  exact ⟨h.bel.trans (hb.mono h.bel.size), h.rw_.below hb, h.rg.below hb, Sw, Sg, h1.below hb, h2.below hb, h3⟩
theorem HoldR.own (h : HoldR w W bw bg q a1 n1 c1 a2 n2 c2 a3 n3 c3 g1 m1 d1 g2 m2 d2 g3 m3 d3 rs gs) : ∃ Sg, HpO W Sg (.slice g1 m1 d1) m1 (.slice g2 m2 d2) m2 (.slice g3 m3 d3) m3 gs ∧ ∀ W' gs', HpO W' Sg (.slice g1 m1 d1) m1 (.slice g2 m2 d2) m2 (.slice g3 m3 d3) m3 gs' → Turn Sg W W' → HoldR w W' bw bg q a1 n1 c1 a2 n2 c2 a3 n3 c3 g1 m1 d1 g2 m2 d2 g3 m3 d3 rs gs' := by
  obtain ⟨Sw, Sg, h1, h2, h3⟩ := h.ex
  exact ⟨Sg, h2, fun W' gs' ho ht => ⟨ht.below h.bel h.bel.size (fun k hk => (h3 k hk).1), ht.row h.rw_ (fun hk => (h3 _ hk).2.1 rfl), ht.row h.rg (fun hk => (h3 _ hk).2.2.1 rfl), Sw, Sg, h1.turn ht (fun k hk _ hg => (h3 k hg).2.2.2 hk), ho, h3⟩⟩
theorem HoldR.rdW (h : HoldR w W bw bg q a1 n1 c1 a2 n2 c2 a3 n3 c3 g1 m1 d1 g2 m2 d2 g3 m3 d3 rs gs) : ∃ S, HpR W S a1 n1 c1 a2 n2 c2 a3 n3 c3 rs := by obtain ⟨Sw, Sg, h1, h2, h3⟩ := h.ex; exact ⟨Sw, h1⟩
theorem HoldR.rdG (h : HoldR w W bw bg q a1 n1 c1 a2 n2 c2 a3 n3 c3 g1 m1 d1 g2 m2 d2 g3 m3 d3 rs gs) : ∃ S, HpR W S g1 m1 d1 g2 m2 d2 g3 m3 d3 gs := by obtain ⟨Sw, Sg, h1, h2, h3⟩ := h.ex; exact ⟨Sg, h2.rd⟩
theorem HoldR.cells (h : HoldR w W bw bg q a1 n1 c1 a2 n2 c2 a3 n3 c3 g1 m1 d1 g2 m2 d2 g3 m3 d3 rs gs) : bw < W.heap.size ∧ bg < W.heap.size ∧
    W.cell? ⟨bw, 0, none⟩ = some (.int .i64 q) ∧ W.cell? ⟨bw, 1, none⟩ = some (.slice a1 n1 c1) ∧ W.cell? ⟨bw, 2, none⟩ = some (.slice a2 n2 c2) ∧ W.cell? ⟨bw, 3, none⟩ = some (.slice a3 n3 c3) ∧ W.cell? ⟨bw, 4, none⟩ = some (.int .i64 0) ∧ W.cell? ⟨bw, 5, none⟩ = some (.int .i64 0) ∧
    W.cell? ⟨bg, 0, none⟩ = some (.int .i64 q) ∧ W.cell? ⟨bg, 1, none⟩ = some (.slice g1 m1 d1) ∧ W.cell? ⟨bg, 2, none⟩ = some (.slice g2 m2 d2) ∧ W.cell? ⟨bg, 3, none⟩ = some (.slice g3 m3 d3) ∧ W.cell? ⟨bg, 4, none⟩ = some (.int .i64 0) ∧ W.cell? ⟨bg, 5, none⟩ = some (.int .i64 0) := by
  refine ⟨h.rw_.lt, h.rg.lt, ?_, ?_, ?_, ?_, ?_, ?_, ?_, ?_, ?_, ?_, ?_, ?_⟩
  · rw [h.rw_.cell]; rfl
  · rw [h.rw_.cell]; rfl
  · rw [h.rw_.cell]; rfl
  · rw [h.rw_.cell]; rfl
  · rw [h.rw_.cell]; rfl
  · rw [h.rw_.cell]; rfl
  · rw [h.rg.cell]; rfl
  · rw [h.rg.cell]; rfl
  · rw [h.rg.cell]; rfl
  · rw [h.rg.cell]; rfl
  · rw [h.rg.cell]; rfl
  · rw [h.rg.cell]; rfl
end

set_option maxHeartbeats 2000000 in
set_option maxRecDepth 100000 in
theorem lawNewHeap {p c : Int} {w : World} :
    Calls Try.prog 4 #[.int .i64 p, .int .i64 c] w fun e w' => e = .returned (.bool true) ∧ Below w.heap.size w w' := by
  obtain ⟨⟨q, rs⟩, hp⟩ : ∃ r, newHeap p c = r := ⟨_, rfl⟩
  have HP := Lib.hid hp
  have HS : Hid (HpS 1048576 rs) := by have := newHeap_small p c; rw [hp] at this; exact this
  obtain ⟨k, hk⟩ : ∃ k, k = cntH rs := ⟨_, rfl⟩
  have HK := Lib.hid hk
  have hkb : k ≤ 2199027449856 := by rw [hk]; have := cntH_le HS.out; unfold cntH; omega
  have hge : ¬ (1 + (k : Int) < 0) := by omega
  have hkk : (1 + (k : Int) != 1 + (k : Int)) = false := by simp
  clear hp hk
  go_enter Try.func4, Try.ntmps4
  go_wp2_with fail
  refine sNewHeap_calls.mono ?_
  rw [HP.out]
  rintro e w1 hm
  obtain ⟨a1, n1, c1, a2, n2, c2, a3, n3, c3, rfl, O1, hb1⟩ := hm.open_
  have H1 := Lib.hid (And.intro (O1.mono (S' := fun k => w.heap.size ≤ k ∧ k < w1.heap.size) (fun k hk hl => ⟨hk, hl⟩)) hb1)
  clear O1 hb1 hm
  go_wp2_with fail
  refine newHeap_calls.mono ?_
  rw [HP.out]
  rintro e w2 hm
  obtain ⟨g1, m1, d1, g2, m2, d2, g3, m3, d3, rfl, O2, hb2⟩ := hm.open_
  have RW := Row.new hb2
  have hs1 := hb2.size
  have lw := RW.lt
  have v0 := RW.cell 0
  have v1 := RW.cell 1
  have v2 := RW.cell 2
  have v3 := RW.cell 3
  have v4 := RW.cell 4
  have v5 := RW.cell 5
  simp at v0 v1 v2 v3 v4 v5 hs1
  have HH := Lib.hid (show HoldR w (w2.alloc (.cells #[.int .i64 q, .slice g1 m1 d1, .slice g2 m2 d2, .slice g3 m3 d3, .int .i64 0, .int .i64 0] 38)) w1.heap.size w2.heap.size q a1 n1 c1 a2 n2 c2 a3 n3 c3 g1 m1 d1 g2 m2 d2 g3 m3 d3 rs rs from by
    have hsz := H1.out.2.size
    have b2 := H1.out.2.trans ((below_past hb2).mono hsz)
    refine ⟨b2.alloc b2.size _, Row.below RW ((Below.refl _ _).alloc (Nat.le_refl _) _), heap_alloc_new _ _, fun k => w.heap.size ≤ k ∧ k < w1.heap.size, fun k => w1.heap.size + 1 ≤ k ∧ k < w2.heap.size, ((H1.out.1.rd.alloc _).below hb2).alloc _, (O2.mono (fun k hk hl => ⟨by simpa using hk, hl⟩)).below ((Below.refl _ _).alloc (Nat.le_refl _) _), fun k hk => ⟨by omega, by omega, by omega, fun h => by omega⟩⟩)
  clear RW O2 hb2 hm
  obtain ⟨SW, LW⟩ := HH.out.rdW
  obtain ⟨SG, LG⟩ := HH.out.rdG
  have HL := Lib.hid (And.intro LG LW)
  clear LW LG
  go_wp2_with fail
  refine (eqHR_calls HL.out.1 HL.out.2 HS.out).mono ?_
  rintro e w3 ⟨rfl, hb3⟩
  have H3 := Lib.hid (HH.out.below hb3)
  clear hb3 HH HL v0 v1 v2 v3 v4 v5 lw
  obtain ⟨lw, lg, u0, u1, u2, u3, u4, u5, v0, v1, v2, v3, v4, v5⟩ := H3.out.cells
  obtain ⟨Sg, og, hput⟩ := H3.out.own
  have HO := Lib.hid og
  have HPut := Lib.hid hput
  clear og hput
  go_wp2_with fail
  refine (markHR_calls HO.out HS.out (by omega) (by omega)).mono ?_
  rw [← HK.out]
  rintro e w4 ⟨rfl, o4, t4⟩
  have H4 := Lib.hid (HPut.out w4 _ o4 t4)
  clear o4 t4 HPut HO H3 lw lg u0 u1 u2 u3 u4 u5 v0 v1 v2 v3 v4 v5
  obtain ⟨lw, lg, u0, u1, u2, u3, u4, u5, v0, v1, v2, v3, v4, v5⟩ := H4.out.cells
  obtain ⟨SG4, LG4⟩ := H4.out.rdG
  have HL := Lib.hid LG4
  clear LG4
  go_wp2_with fail
  refine (heldHR_calls HL.out HS.out (by omega) (by omega)).mono ?_
  rw [← HK.out]
  rintro e w5 ⟨rfl, hb5⟩
  have H5 := Lib.hid (H4.out.below hb5)
  clear hb5 H4 HL lw lg u0 u1 u2 u3 u4 u5 v0 v1 v2 v3 v4 v5
  go_wp2_with fail
  refine newHeap_calls.mono ?_
  rw [HP.out]
  rintro e w6 hm
  obtain ⟨e1, f1, h1, e2, f2, h2, e3, f3, h3, rfl, O6, hb6⟩ := hm.open_
  have H6 := Lib.hid (H5.out.below hb6)
  have X6 := Lib.hid (O6.rd.alloc (.cells #[.int .i64 q, .slice e1 f1 h1, .slice e2 f2 h2, .slice e3 f3 h3, .int .i64 0, .int .i64 0] 38))
  have H6b := Lib.hid (H6.out.below ((Below.refl w6.heap.size w6).alloc (Nat.le_refl _) (.cells #[.int .i64 q, .slice e1 f1 h1, .slice e2 f2 h2, .slice e3 f3 h3, .int .i64 0, .int .i64 0] 38)))
  clear hb6 H5 O6 hm
  obtain ⟨lw, lg, u0, u1, u2, u3, u4, u5, v0, v1, v2, v3, v4, v5⟩ := H6.out.cells
  obtain ⟨SW6, LW6⟩ := H6b.out.rdW
  have HL := Lib.hid LW6
  clear LW6 H6
  go_wp2_with fail
  refine (eqHR_calls X6.out HL.out HS.out).mono ?_
  rintro e w7 ⟨rfl, hb7⟩
  have H7 := Lib.hid (H6b.out.below hb7)
  clear hb7 H6b HL X6 lw lg u0 u1 u2 u3 u4 u5 v0 v1 v2 v3 v4 v5
  obtain ⟨lw, lg, u0, u1, u2, u3, u4, u5, v0, v1, v2, v3, v4, v5⟩ := H7.out.cells
  obtain ⟨SG7, LG7⟩ := H7.out.rdG
  have HL := Lib.hid LG7
  clear LG7
  go_wp2_with fail
  refine (heldHR_calls HL.out HS.out (by omega) (by omega)).mono ?_
  rw [← HK.out]
  rintro e w8 ⟨rfl, hb8⟩
  have H8 := Lib.hid (H7.out.below hb8)
  clear hb8 H7 HL lw lg u0 u1 u2 u3 u4 u5 v0 v1 v2 v3 v4 v5
  go_wp2_with fail
  go_ret
  exact ⟨rfl, H8.out.bel⟩
end Go.Proofs.Ytcnpckaacigbfaa

/- The exact law of chapter 5: heaps compared. -/
namespace Go.Proofs.Ytcnpckaacigbfaa
open Go.RowKit

/-- A heap that came in, in a box. -/
structure InB (w W : World) (b : Nat) (pa : Option Addr) (pn pc : Nat) (wa : Option Addr) (wn wk : Nat) (ma : Option Addr) (mn mc : Nat) (h : Hp) : Prop where
  bel : Below w.heap.size w W
  row : Row W b 26 #[.slice pa pn pc, .slice wa wn wk, .slice ma mn mc]
  rd : HpR W (fun k => k < w.heap.size) pa pn pc wa wn wk ma mn mc h
theorem InB.below {w W W' : World} {b : Nat} {pa wa ma : Option Addr} {pn pc wn wk mn mc : Nat} {h : Hp} (hi : InB w W b pa pn pc wa wn wk ma mn mc h) (hb : Below W.heap.size W W') : InB w W' b pa pn pc wa wn wk ma mn mc h :=
  ⟨hi.bel.trans (hb.mono hi.bel.size), hi.row.below hb, hi.rd.below hb⟩

set_option maxHeartbeats 4000000 in
set_option maxRecDepth 100000 in
theorem lawSameHeaps {pa wa ma pa' wa' ma' : Option Addr} {pn pc wn wk mn mc pn' pc' wn' wk' mn' mc' : Nat} {g h : Hp} {S S' : Nat → Prop} {w : World} (hT : HpR w S pa pn pc wa wn wk ma mn mc g) (hU : HpR w S' pa' pn' pc' wa' wn' wk' ma' mn' mc' h) :
    Calls Try.prog 7 #[.agg #[.slice pa pn pc, .slice wa wn wk, .slice ma mn mc], .agg #[.slice pa' pn' pc', .slice wa' wn' wk', .slice ma' mn' mc']] w fun e w' => e = .returned (.bool true) ∧ Below w.heap.size w w' := by
  have hB0 : Below w.heap.size w ((w.alloc (.cells #[.slice pa pn pc, .slice wa wn wk, .slice ma mn mc] 26)).alloc (.cells #[.slice pa' pn' pc', .slice wa' wn' wk', .slice ma' mn' mc'] 26)) := ((Below.refl _ _).alloc (Nat.le_refl _) _).alloc (by simp) _
  have rw0 := heap_alloc_new w (.cells #[.slice pa pn pc, .slice wa wn wk, .slice ma mn mc] 26)
  have rw1 := heap_alloc_new (w.alloc (.cells #[.slice pa pn pc, .slice wa wn wk, .slice ma mn mc] 26)) (.cells #[.slice pa' pn' pc', .slice wa' wn' wk', .slice ma' mn' mc'] 26)
  have A0 := Lib.hid (show InB w _ w.heap.size pa pn pc wa wn wk ma mn mc g from ⟨hB0, (heap_alloc_old _ _ (by simp)).trans rw0, ((hT.mono (S' := fun k => k < w.heap.size) (fun k _ hk => hk)).alloc _).alloc _⟩)
  have D0 := Lib.hid (show InB w _ (w.heap.size + 1) pa' pn' pc' wa' wn' wk' ma' mn' mc' h from ⟨hB0, by simpa [Row] using rw1, ((hU.mono (S' := fun k => k < w.heap.size) (fun k _ hk => hk)).alloc _).alloc _⟩)
  have qlb := A0.out.row.lt
  have q0b := D0.out.row.cell 0
  have q1b := D0.out.row.cell 1
  have q2b := D0.out.row.cell 2
  have qlb := D0.out.row.lt
  simp at q0b q1b q2b
  clear hB0 rw0 rw1 hT hU qlb q0b q1b q2b
  go_enter Try.func7, Try.ntmps7
  go_wp2_with fail
  refine (szHeap_calls A0.out.rd (by omega) (by omega)).mono ?_
  rintro e w1 ⟨rfl | ⟨r, rfl, r0, r1, hs⟩, hb1⟩
  · go_wp2_with fail
    go_ret
    exact ⟨rfl, (A0.out.below hb1).bel⟩
  have HS := Lib.hid hs
  have hr : ¬ (r < 0) := by omega
  have A1 := Lib.hid (A0.out.below hb1)
  have D1 := Lib.hid (D0.out.below hb1)
  have qlb := D1.out.row.lt
  have q0b := D1.out.row.cell 0
  have q1b := D1.out.row.cell 1
  have q2b := D1.out.row.cell 2
  simp at q0b q1b q2b
  clear hs hb1 A0 D0
  go_wp2_with fail
  refine (szHeap_calls D1.out.rd r0 r1).mono ?_
  rintro e w2 ⟨rfl | ⟨r', rfl, r0', r1', hs⟩, hb2⟩
  · go_wp2_with fail
    go_ret
    exact ⟨rfl, (A1.out.below hb2).bel⟩
  have HS2 := Lib.hid hs
  have hr' : ¬ (r' < 0) := by omega
  have A2 := Lib.hid (A1.out.below hb2)
  have D2 := Lib.hid (D1.out.below hb2)
  clear hs hb2 A1 D1 qlb q0b q1b q2b
  have qla := A2.out.row.lt
  have q0a := A2.out.row.cell 0
  have q1a := A2.out.row.cell 1
  have q2a := A2.out.row.cell 2
  have qlb := D2.out.row.lt
  have q0b := D2.out.row.cell 0
  have q1b := D2.out.row.cell 1
  have q2b := D2.out.row.cell 2
  simp at q0a q1a q2a q0b q1b q2b
  have kB := Below.refl w2.heap.size w2
  obtain ⟨p, hp⟩ : ∃ p, decide (g = h) = p := ⟨_, rfl⟩
  have HP := Lib.hid hp
  clear hp
  go_wp2_with fail
  go_region_held3 (fun w' => w'.cell? ⟨w.heap.size, 0, none⟩ = some (.slice pa pn pc) ∧ w'.cell? ⟨w.heap.size, 1, none⟩ = some (.slice wa wn wk) ∧ w'.cell? ⟨w.heap.size, 2, none⟩ = some (.slice ma mn mc) ∧ w'.cell? ⟨w.heap.size + 1, 0, none⟩ = some (.slice pa' pn' pc') ∧ w'.cell? ⟨w.heap.size + 1, 1, none⟩ = some (.slice wa' wn' wk') ∧ w'.cell? ⟨w.heap.size + 1, 2, none⟩ = some (.slice ma' mn' mc') ∧ Below w2.heap.size w2 w') (first | assumption | exact ⟨q0a, q1a, q2a, q0b, q1b, q2b, kB.drew⟩)
    (first
      | (go_at_call 10; obtain ⟨y0, y1, y2, y3, y4, y5, kb⟩ := ‹_ ∧ _ ∧ _ ∧ _ ∧ _ ∧ _ ∧ Below _ _ _›; (with_reducible refine (toHeap_calls (A2.out.rd.below kb) HS.out).mono ?_); rintro e w3 hm3; obtain ⟨fa, fn, fc, ga, gn, gc, ha, hn, hc, rfl, O3, hb3⟩ := hm3.open_; have hS3 := keepHH ⟨y0, y1, y2, y3, y4, y5, kb⟩ hb3)
      | (go_at_call 10; obtain ⟨y0, y1, y2, y3, y4, y5, kb⟩ := ‹_ ∧ _ ∧ _ ∧ _ ∧ _ ∧ _ ∧ Below _ _ _›; (with_reducible refine (toHeap_calls (D2.out.rd.below kb) HS2.out).mono ?_); rintro e w4 hm4; obtain ⟨ea, en, ec, ia, iN, ic, ja, jn, jc, rfl, O4, hb4⟩ := hm4.open_; have hS4 := keepHH ⟨y0, y1, y2, y3, y4, y5, kb⟩ hb4)
      | (go_at_call 23; obtain ⟨y0, y1, y2, y3, y4, y5, kb⟩ := ‹_ ∧ _ ∧ _ ∧ _ ∧ _ ∧ _ ∧ Below _ _ _›; refine (sSameHeaps_calls ⟨O3.rd.below hb4, HS.out⟩ ⟨O4.rd, HS2.out⟩).mono ?_; rw [HP.out]; rintro e w5 ⟨rfl, hb5⟩; have hS5 := keepHH ⟨y0, y1, y2, y3, y4, y5, kb⟩ hb5))
  have A5 := Lib.hid (A2.out.below hS5.2.2.2.2.2.2)
  have D5 := Lib.hid (D2.out.below hS5.2.2.2.2.2.2)
  clear hS5 hS4 hS3 hm3 hm4 O3 O4 hb3 hb4 hb5 A2 D2 kB q0a q1a q2a q0b q1b q2b qla qlb
  have qla := A5.out.row.lt
  have q0a := A5.out.row.cell 0
  have q1a := A5.out.row.cell 1
  have q2a := A5.out.row.cell 2
  simp at q0a q1a q2a
  go_wp2_with fail
  refine (toHeap_calls A5.out.rd HS.out).mono ?_
  rintro e w6 hm
  obtain ⟨xa, xn, xc, ya, yn, yc, za, zn, zc, rfl, O6, hb6⟩ := hm.open_
  have A6 := Lib.hid ((A5.out.below hb6).below ((Below.refl w6.heap.size w6).alloc (Nat.le_refl _) (.cells #[.slice xa xn xc, .slice ya yn yc, .slice za zn zc] 31)))
  have D6' := Lib.hid (D5.out.below hb6)
  have D6 := Lib.hid (D6'.out.below ((Below.refl w6.heap.size w6).alloc (Nat.le_refl _) (.cells #[.slice xa xn xc, .slice ya yn yc, .slice za zn zc] 31)))
  have X6 := Lib.hid (O6.rd.alloc (.cells #[.slice xa xn xc, .slice ya yn yc, .slice za zn zc] 31))
  clear O6 hb6 hm A5 D5 qla q0a q1a q2a
  have qlb := D6'.out.row.lt
  have q0b := D6'.out.row.cell 0
  have q1b := D6'.out.row.cell 1
  have q2b := D6'.out.row.cell 2
  simp at q0b q1b q2b
  go_wp2_with fail
  refine (toHeap_calls D6.out.rd HS2.out).mono ?_
  rintro e w7 hm
  obtain ⟨ra, rn, rc, sa, sn, sc, ta, tn, tc, rfl, O7, hb7⟩ := hm.open_
  have RX := Row.new hb7
  have b7 := (Below.refl w7.heap.size w7).alloc (Nat.le_refl _) (.cells #[.slice ra rn rc, .slice sa sn sc, .slice ta tn tc] 31)
  have A7 := Lib.hid ((A6.out.below hb7).below b7)
  have D7 := Lib.hid ((D6.out.below hb7).below b7)
  have X7 := Lib.hid ((X6.out.below hb7).below b7)
  have Y7 := Lib.hid (O7.rd.below b7)
  have RX7 := Lib.hid (Row.below RX b7)
  have RY7 : Hid (Row _ w7.heap.size 31 #[.slice ra rn rc, .slice sa sn sc, .slice ta tn tc]) := heap_alloc_new w7 _
  have vl := RX.lt
  have v0 := RX.cell 0
  have v1 := RX.cell 1
  have v2 := RX.cell 2
  simp at v0 v1 v2
  clear O7 hb7 hm A6 D6 D6' X6 qlb q0b q1b q2b b7 RX
  go_wp2_with fail
  refine (sameHeaps_calls ⟨X7.out, HS.out⟩ ⟨Y7.out, HS2.out⟩).mono ?_
  rw [HP.out]
  rintro e w8 ⟨rfl, hb8⟩
  have A8 := Lib.hid (A7.out.below hb8)
  have D8 := Lib.hid (D7.out.below hb8)
  have X8 := Lib.hid (X7.out.below hb8)
  have Y8 := Lib.hid (Y7.out.below hb8)
  have RX8 := Lib.hid (RX7.out.below hb8)
  have RY8 := Lib.hid (Row.below RY7.out hb8)
  have hpp : (p != p) = false := by cases p <;> rfl
  clear hb8 A7 D7 X7 Y7 RX7 RY7 vl v0 v1 v2
  go_wp2_with fail
  have qla := A8.out.row.lt
  have q0a := A8.out.row.cell 0
  have q1a := A8.out.row.cell 1
  have q2a := A8.out.row.cell 2
  have qlx := RX8.out.lt
  have q0x := RX8.out.cell 0
  have q1x := RX8.out.cell 1
  have q2x := RX8.out.cell 2
  simp at q0a q1a q2a q0x q1x q2x
  have kB := Below.refl w8.heap.size w8
  go_region_held3 (fun w' => w'.cell? ⟨w6.heap.size, 0, none⟩ = some (.slice xa xn xc) ∧ w'.cell? ⟨w6.heap.size, 1, none⟩ = some (.slice ya yn yc) ∧ w'.cell? ⟨w6.heap.size, 2, none⟩ = some (.slice za zn zc) ∧ w'.cell? ⟨w.heap.size, 0, none⟩ = some (.slice pa pn pc) ∧ w'.cell? ⟨w.heap.size, 1, none⟩ = some (.slice wa wn wk) ∧ w'.cell? ⟨w.heap.size, 2, none⟩ = some (.slice ma mn mc) ∧ Below w8.heap.size w8 w') (first | assumption | exact ⟨q0x, q1x, q2x, q0a, q1a, q2a, kB.drew⟩)
    (first
      | (go_at_call 10; obtain ⟨y0, y1, y2, y3, y4, y5, kb⟩ := ‹_ ∧ _ ∧ _ ∧ _ ∧ _ ∧ _ ∧ Below _ _ _›; refine (toHeap_calls (A8.out.rd.below kb) HS.out).mono ?_; rintro e w9 hm; obtain ⟨fa, fn, fc, ga, gn, gc, ha, hn, hc, rfl, O9, hb9⟩ := hm.open_; have hS' := keepHH ⟨y0, y1, y2, y3, y4, y5, kb⟩ hb9)
      | (go_at_call 12; obtain ⟨y0, y1, y2, y3, y4, y5, kb⟩ := ‹_ ∧ _ ∧ _ ∧ _ ∧ _ ∧ _ ∧ Below _ _ _›; refine (eqHeap_calls (X8.out.below kb) O9.rd HS.out).mono ?_; rintro e w10 ⟨rfl, hb10⟩; have hS'' := keepHH ⟨y0, y1, y2, y3, y4, y5, kb⟩ hb10))
  have kb10 := hS''.2.2.2.2.2.2
  have D10 := Lib.hid (D8.out.below kb10)
  have Y10 := Lib.hid (Y8.out.below kb10)
  have RY10 := Lib.hid (RY8.out.below kb10)
  clear hS'' hS' kB kb10 hm O9 hb9 hb10 A8 D8 X8 Y8 RX8 RY8 qla q0a q1a q2a qlx q0x q1x q2x
  go_wp2_with fail
  have qla := D10.out.row.lt
  have q0a := D10.out.row.cell 0
  have q1a := D10.out.row.cell 1
  have q2a := D10.out.row.cell 2
  have qlx := RY10.out.lt
  have q0x := RY10.out.cell 0
  have q1x := RY10.out.cell 1
  have q2x := RY10.out.cell 2
  simp at q0a q1a q2a q0x q1x q2x
  have kB := Below.refl w10.heap.size w10
  go_region_held3 (fun w' => w'.cell? ⟨w7.heap.size, 0, none⟩ = some (.slice ra rn rc) ∧ w'.cell? ⟨w7.heap.size, 1, none⟩ = some (.slice sa sn sc) ∧ w'.cell? ⟨w7.heap.size, 2, none⟩ = some (.slice ta tn tc) ∧ w'.cell? ⟨w.heap.size + 1, 0, none⟩ = some (.slice pa' pn' pc') ∧ w'.cell? ⟨w.heap.size + 1, 1, none⟩ = some (.slice wa' wn' wk') ∧ w'.cell? ⟨w.heap.size + 1, 2, none⟩ = some (.slice ma' mn' mc') ∧ Below w10.heap.size w10 w') (first | assumption | exact ⟨q0x, q1x, q2x, q0a, q1a, q2a, kB.drew⟩)
    (first
      | (go_at_call 10; obtain ⟨y0, y1, y2, y3, y4, y5, kb⟩ := ‹_ ∧ _ ∧ _ ∧ _ ∧ _ ∧ _ ∧ Below _ _ _›; refine (toHeap_calls (D10.out.rd.below kb) HS2.out).mono ?_; rintro e w11 hm; obtain ⟨fa, fn, fc, ga, gn, gc, ha, hn, hc, rfl, O11, hb11⟩ := hm.open_; have hS' := keepHH ⟨y0, y1, y2, y3, y4, y5, kb⟩ hb11)
      | (go_at_call 12; obtain ⟨y0, y1, y2, y3, y4, y5, kb⟩ := ‹_ ∧ _ ∧ _ ∧ _ ∧ _ ∧ _ ∧ Below _ _ _›; refine (eqHeap_calls (Y10.out.below kb) O11.rd HS2.out).mono ?_; rintro e w12 ⟨rfl, hb12⟩; have hS'' := keepHH ⟨y0, y1, y2, y3, y4, y5, kb⟩ hb12))
  have B12 := Lib.hid (D10.out.bel.trans (hS''.2.2.2.2.2.2.mono D10.out.bel.size))
  clear hS'' hS' kB
  go_wp2_with fail
  go_ret
  exact ⟨rfl, B12.out⟩
end Go.Proofs.Ytcnpckaacigbfaa
