/- Joined texts (Spec5g, Impl6d, Impl6e, Errs6, Impl6f, Impl6g, Impl6h, Short6, Impl6i, Impl6m, Src, Src2): steps of the proofs of chapter 5's laws. -/
import Derived.Deep.RegionLaw
import Derived.WalkKit
import Derived.LaidEql
import Derived.Stop.Asserts
import Derived.RowKitTokens
import Derived.BigQuiet
import Derived.Test.YthpamclljdcjpaaGreatDoorM1
import Derived.Test.YthpamclljdcjpaaGreatDoorM2
import Derived.Test.YthpamclljdcjpaaGreatDoorM3
import Derived.Test.YthpamclljdcjpaaGreatDoorM4
import Derived.Test.YthpamclljdcjpaaGreatDoorM6
import Derived.Test.YthpamclljdcjpaaGreatDoorM8
import Derived.Test.YthpamclljdcjpaaGreatDoorM10
import Derived.Test.YthpamclljdcjpaaGreatDoorM11
set_option linter.unusedVariables false
set_option linter.unusedSimpArgs false
/- Chapter 5 of the model: a heap copied. -/
namespace Go.Proofs.YthpamclljdcjpaaGreatDoor
open Go.RowKit

/-- A heap lies in three cells at a place; its slices own their memory elsewhere. -/
structure HpAt (w : World) (S : Nat → Prop) (b : Nat) (h : Hp) : Prop where
  ex : ∃ vp np vw nw vm nm, Row w b 28 #[vp, vw, vm] ∧ HpO w S vp np vw nw vm nm h
  out : ¬ S b
theorem HpAt.turn {w w' : World} {S T : Nat → Prop} {b : Nat} {h : Hp} (ha : HpAt w S b h) (ht : Turn T w w') (hb : ¬ T b) (hd : ∀ k, S k → k < w.heap.size → ¬ T k) : HpAt w' S b h := by
  obtain ⟨vp, np, vw, nw, vm, nm, h1, h2⟩ := ha.ex
  exact ⟨⟨vp, np, vw, nw, vm, nm, ht.row h1 hb, h2.turn ht hd⟩, ha.out⟩
theorem HpAt.below {w w' : World} {S : Nat → Prop} {b : Nat} {h : Hp} (ha : HpAt w S b h) (hb : Below w.heap.size w w') : HpAt w' S b h := by
  obtain ⟨vp, np, vw, nw, vm, nm, h1, h2⟩ := ha.ex
  exact ⟨⟨vp, np, vw, nw, vm, nm, h1.below hb, h2.below hb⟩, ha.out⟩

theorem keepH2 {W a b : World} {p q : Addr} {x y : Value} (h : a.cell? p = some x ∧ a.cell? q = some y ∧ Below W.heap.size W a) (hb : Below a.heap.size a b) :
    b.cell? p = some x ∧ b.cell? q = some y ∧ Below W.heap.size W b := by
  obtain ⟨h1, h2, h4⟩ := h
  exact ⟨(hb.cell (World.block_lt_of_cell? _ _ h1)).trans h1, (hb.cell (World.block_lt_of_cell? _ _ h2)).trans h2, h4.trans (hb.mono h4.size)⟩
theorem keepD2 {W a : World} {p q : Addr} {x y : Value} (h : a.cell? p = some x ∧ a.cell? q = some y ∧ Below W.heap.size W a) : a.drew.cell? p = some x ∧ a.drew.cell? q = some y ∧ Below W.heap.size W a.drew := ⟨h.1, h.2.1, h.2.2.drew⟩
theorem keepS2 {W a : World} {p q : Addr} {x y u v t : Value} {g : Nat} (h : a.cell? p = some x ∧ a.cell? q = some y ∧ Below W.heap.size W a) (hp : W.cell? p = some x) (hq : W.cell? q = some y) (hg : W.heap.size ≤ g) :
    (((a.setCell ⟨g, 0, none⟩ u).setCell ⟨g, 1, none⟩ v).setCell ⟨g, 2, none⟩ t).cell? p = some x ∧ (((a.setCell ⟨g, 0, none⟩ u).setCell ⟨g, 1, none⟩ v).setCell ⟨g, 2, none⟩ t).cell? q = some y ∧ Below W.heap.size W (((a.setCell ⟨g, 0, none⟩ u).setCell ⟨g, 1, none⟩ v).setCell ⟨g, 2, none⟩ t) := by
  have hb : Below W.heap.size W (((a.setCell ⟨g, 0, none⟩ u).setCell ⟨g, 1, none⟩ v).setCell ⟨g, 2, none⟩ t) := ((h.2.2.setCell hg _).setCell hg _).setCell hg _
  exact ⟨(hb.cell (World.block_lt_of_cell? _ _ hp)).trans hp, (hb.cell (World.block_lt_of_cell? _ _ hq)).trans hq, hb⟩
/-- What the copy has while it grows. -/
structure CopyTo (w : World) (h : Hp) (k : Nat) (t3 : Value) (wx : World) : Prop where
  ex : ∃ g, t3 = .pointer (some ⟨g, 0, none⟩) ∧ w.heap.size < g ∧ HpAt wx (fun q => w.heap.size < q ∧ q ≠ g) g ⟨h.pages, h.words, h.mags.take k⟩
  res : Row wx w.heap.size 28 #[.slice none 0 0, .slice none 0 0, .slice none 0 0]
  bel : Below w.heap.size w wx

theorem Row.set {w : World} {g i : Nat} {t : TypeId} {cs : Array Value} (h : Row w g t cs) (u : Value) : Row (w.setCell ⟨g, i, none⟩ u) g t (cs.setIfInBounds i u) := heap_setCell_same w g i _ _ u h
theorem Row.set3 {w : World} {g : Nat} {t : TypeId} {a b c x y z : Value} (h : Row w g t #[a, b, c]) : Row (((w.setCell ⟨g, 0, none⟩ x).setCell ⟨g, 1, none⟩ y).setCell ⟨g, 2, none⟩ z) g t #[x, y, z] := by
  have := ((h.set (i := 0) x).set (i := 1) y).set (i := 2) z
  simpa using this
theorem Turn.set3 {w : World} {g : Nat} {x y z : Value} : Turn (fun k => k = g) w (((w.setCell ⟨g, 0, none⟩ x).setCell ⟨g, 1, none⟩ y).setCell ⟨g, 2, none⟩ z) :=
  ((Turn.set w ⟨g, 0, none⟩ x).trans (Turn.set _ ⟨g, 1, none⟩ y) (fun _ h _ => h)).trans (Turn.set _ ⟨g, 2, none⟩ z) (fun _ h _ => h)
theorem copy_start {w V X Y wP wW Z : World} {h : Hp} {g pn wn : Nat} {vp vw : Value} (hB0 : Below w.heap.size w V) (hVs : V.heap.size = w.heap.size + 1) (hR0 : Row V w.heap.size 28 #[.slice none 0 0, .slice none 0 0, .slice none 0 0]) (hX : Below V.heap.size V X)
    (oP : Own KPage 137 wP (fun k => X.heap.size ≤ k) vp pn h.pages) (bP : Below X.heap.size X wP) (hY : Below wP.heap.size wP Y) (oW : Own KInt 2 wW (fun k => Y.heap.size ≤ k) vw wn h.words) (bW : Below Y.heap.size Y wW) (hZ : Turn (fun k => k = g) wW Z)
    (row : Row Z g 28 #[vp, vw, .slice none 0 0]) (hg : w.heap.size < g) (h1 : X.heap.size ≤ g → wP.heap.size ≤ g) (h2 : Y.heap.size ≤ g → wW.heap.size ≤ g) : CopyTo w h 0 (.pointer (some ⟨g, 0, none⟩)) Z := by
  have s1 := hX.size
  have s2 := bP.size
  have s3 := hY.size
  have s4 := bW.size
  have bVP : Below V.heap.size V wP := hX.trans (bP.mono s1)
  have bPW : Below wP.heap.size wP wW := hY.trans (bW.mono s3)
  have bVW : Below V.heap.size V wW := bVP.trans (bPW.mono (by omega))
  have bZ : Below V.heap.size V Z := hZ.below bVW (by omega) (fun k hk => by omega)
  refine ⟨⟨g, rfl, hg, ⟨⟨_, _, _, _, _, 0, row, HpO.mk3 (A := fun k => X.heap.size ≤ k ∧ k < wP.heap.size) (B := fun k => Y.heap.size ≤ k ∧ k < wW.heap.size) (C := fun _ => False) ((oP.here.below bPW).turn hZ (fun k hk _ e => by subst e; have := h1 hk.1; omega)) (oW.here.turn hZ (fun k hk _ e => by subst e; have := h2 hk.1; omega)) Own.nil
    (fun k hk => ⟨by omega, fun e => by subst e; have := h1 hk.1; omega⟩) (fun k hk => ⟨by omega, fun e => by subst e; have := h2 hk.1; omega⟩) (fun _ h => h.elim) (fun k hk hq => by omega) (fun _ _ h => h) (fun _ _ h => h)⟩, fun hq => hq.2 rfl⟩⟩, (bZ.block _ (by omega)).trans hR0, hB0.trans (bZ.mono (by omega))⟩

theorem Row.alloc {w : World} {g : Nat} {t : TypeId} {cs : Array Value} (h : Row w g t cs) (o : Obj) : Row (w.alloc o) g t cs := Row.below h ((Below.refl _ _).alloc (Nat.le_refl _) _)
theorem copy_step {w wr wI w2 : World} {h : Hp} {g k np nw n4 : Nat} {vp vw vm v2 : Value} {o : Obj} {S1 S2 S3 : Nat → Prop} (hg : w.heap.size < g) (hRes : Row wr w.heap.size 28 #[.slice none 0 0, .slice none 0 0, .slice none 0 0]) (hBel : Below w.heap.size w wr) (hRg : Row wr g 28 #[vp, vw, vm])
    (o1 : Own KPage 137 wr S1 vp np h.pages) (o2 : Own KInt 2 wr S2 vw nw h.words) (hd : (∀ q, S1 q → w.heap.size < q ∧ q ≠ g) ∧ (∀ q, S2 q → w.heap.size < q ∧ q ≠ g) ∧ (∀ q, S3 q → w.heap.size < q ∧ q ≠ g) ∧ (∀ q, S1 q → ¬ S2 q) ∧ (∀ q, S1 q → ¬ S3 q) ∧ (∀ q, S2 q → ¬ S3 q))
    (bI : Below wr.heap.size wr wI) (t4 : Turn (fun q => S3 q ∧ q < wr.heap.size) (wI.alloc o) w2) (o4 : Own KMag 25 w2 (fun q => (S3 q ∧ q < wr.heap.size) ∨ (wr.heap.size ≤ q ∧ q < wI.heap.size) ∨ (wI.alloc o).heap.size ≤ q) v2 n4 (h.mags.take (k + 1))) :
    CopyTo w h (k + 1) (.pointer (some ⟨g, 0, none⟩)) (w2.setCell ⟨g, 2, none⟩ v2) := by
  obtain ⟨d1, d2, d3, x1, x2, x3⟩ := hd
  have hgl := hRg.lt
  have s1 := hBel.size
  have s2 := bI.size
  have s3 : wI.heap.size ≤ (wI.alloc o).heap.size := by simp
  have s4 := t4.size
  have bIA : Below wr.heap.size wr (wI.alloc o) := bI.alloc bI.size _
  have tS := Turn.set w2 ⟨g, 2, none⟩ v2
  have tt : Turn (fun q => S3 q ∧ q < wr.heap.size) wr w2 := (Turn.of_below bIA).trans t4 (fun _ h _ => h)
  have r2 := (tt.row hRg (fun hq => (d3 g hq.1).2 rfl)).set (i := 2) v2
  refine ⟨⟨g, rfl, hg, ⟨⟨vp, np, vw, nw, v2, n4, by simpa using r2, HpO.mk3 (A := fun q => S1 q ∧ q < wr.heap.size) (B := fun q => S2 q ∧ q < wr.heap.size) (C := fun q => ((S3 q ∧ q < wr.heap.size) ∨ (wr.heap.size ≤ q ∧ q < wI.heap.size) ∨ (wI.alloc o).heap.size ≤ q)) ((o1.here.turn tt (fun q hq _ h => x2 q hq.1 h.1)).turn tS (fun q hq _ e => (d1 q hq.1).2 e)) ((o2.here.turn tt (fun q hq _ h => x3 q hq.1 h.1)).turn tS (fun q hq _ e => (d2 q hq.1).2 e))
    (o4.turn tS (fun q hq _ e => ?_)) (fun q hq => d1 q hq.1) (fun q hq => d2 q hq.1) (fun q hq => ?_) (fun q hq h => x1 q hq.1 h.1) (fun q hq h => ?_) (fun q hq h => ?_)⟩, fun hq => hq.2 rfl⟩⟩, ?_, ?_⟩
  · have e : q = g := e
    rcases hq with hq | hq | hq
    · exact (d3 q hq.1).2 e
    · omega
    · omega
  · rcases hq with hq | hq | hq
    · exact d3 q hq.1
    · omega
    · omega
  · rcases h with h | h | h
    · exact x2 q hq.1 h.1
    · omega
    · omega
  · rcases h with h | h | h
    · exact x3 q hq.1 h.1
    · omega
    · omega
  · exact tS.row (tt.row hRes (fun hq => by have := (d3 _ hq.1).1; omega)) (fun e => by have e : w.heap.size = g := e; omega)
  · exact tS.below (tt.below hBel s1 (fun q hq => by have := (d3 q hq.1).1; omega)) (by have := tt.size; omega) (fun q e => by have e : q = g := e; omega)

set_option maxRecDepth 100000 in
set_option maxHeartbeats 2000000 in
theorem l5Copy_calls {pa wa ma : Option Addr} {pn pc wn wk mn mc b : Nat} {h : Hp} {S : Nat → Prop} {w : World} (hR : Row w b 28 #[.slice pa pn pc, .slice wa wn wk, .slice ma mn mc]) (hk : HpK w S pa pn pc wa wn wk ma mn mc h) :
    Calls Tryz.prog 94 #[.pointer (some ⟨b, 0, none⟩)] w (MakesHeap w h) := by
  obtain ⟨im, him, hm0, hm1, hm2⟩ := info_parts infoMg
  have HK := Lib.hid hk
  obtain ⟨n1, n2, n3, n4, n5⟩ := hk.small
  have HR := Lib.hid hR
  have HB0 := Lib.hid (show Below w.heap.size w (w.alloc (.cells #[.slice none 0 0, .slice none 0 0, .slice none 0 0] 28)) from (Below.refl _ _).alloc (Nat.le_refl _) _)
  have HR0 : Hid (Row (w.alloc (.cells #[.slice none 0 0, .slice none 0 0, .slice none 0 0] 28)) w.heap.size 28 #[.slice none 0 0, .slice none 0 0, .slice none 0 0]) := heap_alloc_new _ _
  have HbV := Lib.hid (HR.out.below HB0.out)
  have q0 := HbV.out.cell 0
  have q1 := HbV.out.cell 1
  have q2 := HbV.out.cell 2
  simp at q0 q1 q2
  clear hR hk
  go_enter Tryz.func94, Tryz.ntmps94
  go_upto_region 1 with (fail)
  obtain ⟨V, hV⟩ : ∃ V, V = w.alloc (.cells #[.slice none 0 0, .slice none 0 0, .slice none 0 0] 28) := ⟨_, rfl⟩
  rw [← hV] at HB0 HR0 HbV q0 q1 q2 ⊢
  have HVs := Lib.hid (show V.heap.size = w.heap.size + 1 by rw [hV]; simp)
  clear hV
  go_cut [3] (fun t3 wx => CopyTo w h 0 t3 wx)
  case first =>
    have kB := Below.refl V.heap.size V
    go_region_held3 (fun w' => w'.cell? ⟨b, 0, none⟩ = some (.slice pa pn pc) ∧ w'.cell? ⟨b, 1, none⟩ = some (.slice wa wn wk) ∧ Below V.heap.size V w') (first | with_reducible assumption | with_reducible exact ⟨q0, q1, kB.drew⟩ | (with_reducible refine keepH2 ?_ ((Below.refl _ _).alloc (Nat.le_refl _) _); assumption) | (with_reducible refine keepS2 ?_ q0 q1 ?_; assumption; exact hS'.2.2.size) | (with_reducible refine keepS2 ?_ q0 q1 ?_; assumption; exact Nat.le_refl _) | (with_reducible exact keepD2 (keepH2 ⟨q0, q1, kB⟩ ((Below.refl _ _).alloc (Nat.le_refl _) _))) | exact ⟨q0, q1, kB.drew⟩)
    (first
      | (go_at_call 103; obtain ⟨y0, y1, kb⟩ := ‹_ ∧ _ ∧ Below _ _ _›; refine (l4Copy_calls ((HK.out.r.pg.below HB0.out).below kb) HK.out.short n1).mono ?_; rintro e wP ⟨vP, rfl, oP, bP⟩; obtain ⟨xP, cP, rfl, _, _, _⟩ := oP.shape; have hS' := keepH2 ⟨y0, y1, kb⟩ bP; (try (have rN : Row wP V.heap.size 28 #[.slice none 0 0, .slice none 0 0, .slice none 0 0] := (bP.block V.heap.size (by simp)).trans (heap_alloc_new V _))))
      | (go_at_call 157; obtain ⟨y0, y1, kb⟩ := ‹_ ∧ _ ∧ Below _ _ _›; refine (l1Ints_calls ((HK.out.r.wd.below HB0.out).below kb) (by omega)).mono ?_; rintro e wW ⟨vW, rfl, oW, bW⟩; obtain ⟨xW, cW, rfl, _, _, _⟩ := oW.shape; have hS'' := keepH2 ⟨y0, y1, kb⟩ bW; (try (have rM := Row.new bW; have d0 := rM.cell 0; have d1 := rM.cell 1; have d2 := rM.cell 2; have f0 := frozen_of_row _ _ 0 _ _ rM; have f1 := frozen_of_row _ _ 1 _ _ rM; have f2 := frozen_of_row _ _ 2 _ _ rM; simp at d0 d1 d2)); (try (have rM := Row.below rN bW; have d0 := rM.cell 0; have d1 := rM.cell 1; have d2 := rM.cell 2; have f0 := frozen_of_row _ _ 0 _ _ rM; have f1 := frozen_of_row _ _ 1 _ _ rM; have f2 := frozen_of_row _ _ 2 _ _ rM; simp at d0 d1 d2))))
    · have hs := bW.size
      have hp := bP.size
      go_wp2_with fail
      go_meet
      case rel => exact copy_start HB0.out HVs.out HR0.out ((Below.refl _ _).drew) oP bP (Below.refl _ _) oW bW (Turn.alloc _ _ _) (heap_alloc_new _ _) (by have := HVs.out; have := kB.drew.size; simp at hp; omega) (fun _ => hs) (fun _ => Nat.le_refl _)
    · have hs := bW.size
      have hp := bP.size
      go_wp2_with fail
      go_meet
      case rel => exact copy_start HB0.out HVs.out HR0.out ((Below.refl _ _).drew) oP bP ((Below.refl _ _).alloc (Nat.le_refl _) _) oW bW Turn.set3 rM.set3 (by have := HVs.out; simp at hp; omega) (fun _ => Nat.le_refl _) (fun h => by simp at h; omega)
    · have hs := bW.size
      have hp := bP.size
      go_wp2_with fail
      go_meet
      case rel => exact copy_start HB0.out HVs.out HR0.out (((Below.refl _ _).alloc (Nat.le_refl _) _).drew) oP bP (Below.refl _ _) oW bW Turn.set3 rM.set3 (by have := HVs.out; omega) (fun h => by simp at h; omega) (fun h => by simp at hp; omega)
  case rest =>
    have HC := Lib.hid hcut
    obtain ⟨⟨g, rfl, hg, _⟩, _, _⟩ := hcut
    have HM := Lib.hid HK.out.r.mg.1
    clear q0 q1 q2
    go_wp2_with fail
    go_loopw [4] (fun i wr => ∃ k : Nat, k ≤ mn ∧ i = .int .i64 k ∧ CopyTo w h k (.pointer (some ⟨g, 0, none⟩)) wr) (fun i _ => mn - (intOf i).toNat)
    case atStart => exact ⟨0, Nat.zero_le _, rfl, HC.out⟩
    case round =>
      clear HC
      obtain ⟨k, hk, rfl, hC⟩ := hrel
      have HCt := Lib.hid hC
      obtain ⟨⟨g', e, _, hAt⟩, hres, hbel⟩ := hC
      obtain rfl : g = g' := by injection e with e; injection e with e; injection e
      have Rb := HR.out.below hbel
      have y2 := Rb.cell 2
      have yl := Rb.lt
      simp at y2
      clear Rb
      by_cases hlt : k < mn
      · obtain ⟨b0, o0, m, a0, l0, c0, rfl, d0, hp, e0, hlc0, hcm0, hu0⟩ := ((HK.out.below hbel).r.mg).mag_at hlt
        obtain ⟨vp, np, vw, nw, vm, nm, hRg, hO⟩ := hAt.ex
        obtain ⟨S1, S2, S3, o1, o2, o3, d1, d2, d3, x1, x2, x3⟩ := hO.ex
        obtain ⟨am, cm, rfl, hcm1, hcm2, _⟩ := o3.shape
        have hl0 : l0 ≤ 1099511627776 := by have := HK.out.s.k.at_ hp; have := hu0.1; omega
        have hnm : nm = k := by have := o3.1; have h2 : (h.mags.take k).length = k := by rw [List.length_take]; have := HM.out; omega
                                rw [← this]; exact h2
        subst hnm
        have z2 := hRg.cell 2
        have zl := hRg.lt
        have zf := frozen_of_row _ _ 2 _ _ hRg
        simp at z2
        have HP := Lib.hid hp
        have HU := Lib.hid hu0
        have HD := Lib.hid (And.intro d1 (And.intro d2 (And.intro d3 (And.intro x1 (And.intro x2 x3)))))
        have O1 := Lib.hid o1
        have O2 := Lib.hid o2
        have O3 := Lib.hid o3
        have HRg := Lib.hid hRg
        have HRes := Lib.hid hres
        have HBel := Lib.hid hbel
        clear o1 o2 o3 d1 d2 d3 x1 x2 x3 hp hu0 hcm0 hRg hres hbel hAt hO e
        go_wp2_with fail
        go_region_law (first
          | (go_simp; go_at_call 157; refine (l1Ints_calls (HU.out.drew) hl0).mono ?_; rintro e wI ⟨vI, rfl, oI, bI⟩; obtain ⟨xI, cI, rfl, hI1, hI2, _⟩ := oI.shape; have z3 : wI.cell? ⟨g, 2, none⟩ = some (.slice am nm cm) := (bI.cell (p := ⟨g, 2, none⟩) zl).trans z2; have zl3 : g < wI.heap.size := Nat.lt_of_lt_of_le zl bI.size)
          | (refine step_append_elem (K := KMag) (S := fun q => S3 q ∧ q < wr.heap.size) (G := fun q => wr.heap.size ≤ q ∧ q < wI.heap.size) rfl (.tmp 26) (.tmp 35) 26 (by rfl) 25 im (.slice none 0 0) 24 Tryz.underlying26 him hm0 hm1 hm2 rfl (by decide) one_mag (v := .slice am nm cm) (n := nm) (b := wI.heap.size) (c := 1) (xs := h.mags.take nm) (y := m) (cs := [.slice xI l0 cI]) (by rfl) (((O3.out.here.drew).below bI).alloc _) (by rfl) (fun j u hu => by
                cases j with
                | zero => simp at hu; subst hu; exact (Row.cell (heap_alloc_new wI (.cells #[.slice xI l0 cI] 25)) 0).trans rfl
                | succ j => simp at hu) (KMag_own_mk ((oI.here).alloc _)) (fun q hq _ h => by have := hq.1; have := h.2; omega) (by unfold maxLen; omega) (by omega) ?_
             intro v2 w2 o4 t4
             obtain ⟨a4, c4, rfl, _, _, _⟩ := o4.shape
             have R2 := t4.row ((Row.below (Row.drew HRg.out) bI).alloc _) (fun hq => (HD.out.2.2.1 g hq.1).2 rfl)
             have y3 := R2.cell 2
             have yf := frozen_of_row _ _ 2 _ _ R2
             simp at y3))
        all_goals
          have HN := Lib.hid (copy_step (k := nm) hg HRes.out HBel.out HRg.out O1.out O2.out HD.out (Below.trans ((Below.refl _ _).drew) bI) t4 (by rw [List.take_add_one, HP.out]; exact o4))
          clear R2 y3 yf t4 o4 bI oI
          go_wp2_with fail
          go_roundw
          case rel => exact ⟨nm + 1, by omega, by go_num, HN.out⟩
          case measure => simp [intOf]; omega
      · have hkm : k = mn := by omega
        have HF : Hid (HpAt wr (fun q => w.heap.size < q ∧ q ≠ g) g h) := by
          have := hAt
          rw [List.take_of_length_le (by have := HM.out; omega)] at this
          exact this
        obtain ⟨vp, np, vw, nw, vm, nm, hRg, hO⟩ := HF.out.ex
        obtain ⟨pa', pc', wa', wc', ma', mc', rfl, rfl, rfl, _⟩ := hO.shape
        have z0 := hRg.cell 0
        have z1 := hRg.cell 1
        have z2 := hRg.cell 2
        have zl := hRg.lt
        simp at z0 z1 z2
        have HO := Lib.hid hO
        have HBel := Lib.hid hbel
        clear hRg hO hAt hbel e
        go_wp2_with (refine wpList_store_row rfl 28 _ _ rfl (w.heap.size) _ rfl rfl _ _ hres (by kernel_rfl) (by rfl) (by simp [Value.oneCell']) ?_)
        refine bodyPost_ret (results_cell_row rfl _ _ (w.heap.size) _ _ _ _ rfl (setRow_heap _ _ _ _ _ _ hres) Tryz.underlying28 rfl (by kernel_rfl)) rfl ?_
        exact ⟨_, _, _, _, _, _, rfl, (HO.out.turn (Turn.setRow _ _ _) (fun q hq _ e => by have e : q = w.heap.size := e; omega)).mono (fun q hq _ => by omega), below_setRow HBel.out (Nat.le_refl _) _⟩
end Go.Proofs.YthpamclljdcjpaaGreatDoor

/- Chapter 6 of the program: a work and its heap. -/
namespace Go.Proofs.YthpamclljdcjpaaGreatDoor
open Go.RowKit

theorem WkO.heapO {w : World} {S : Nat → Prop} {B : Nat} {pa wa ma : Option Addr} {pn pc wn wc mn mc : Nat} {h : Hp} (ho : WkO w S (.slice pa pn pc) pn (.slice wa wn wc) wn (.slice ma mn mc) mn h) (hS : ∀ q, S q → q < B) :
    ∃ S3 : Nat → Prop, (∀ q, S3 q → S q) ∧ Own KPM 124 w S3 (.slice ma mn mc) mn h.mags ∧ ∀ w' va vc, Below w.heap.size w w' → Own KMag 25 w' (fun q => S3 q ∨ B ≤ q) (.slice va mn vc) mn h.mags → HpO w' (fun q => S q ∨ B ≤ q) (.slice pa pn pc) pn (.slice wa wn wc) wn (.slice va mn vc) mn h := by
  obtain ⟨S1, S2, S3, o1, o2, o3, d1, d2, d3, e1, e2, e3⟩ := ho.ex
  refine ⟨S3, d3, o3, fun w' va vc hb hO => HpO.mk3 (A := S1) (B := S2) (C := fun q => S3 q ∨ B ≤ q) (o1.turn (Turn.of_below (T := fun _ => False) hb) (fun _ _ _ h => h)) (o2.turn (Turn.of_below (T := fun _ => False) hb) (fun _ _ _ h => h)) hO (fun q hq => .inl (d1 q hq)) (fun q hq => .inl (d2 q hq)) (fun q hq => hq.elim (fun h => .inl (d3 q h)) .inr) e1 (fun q hq hq2 => ?_) (fun q hq hq2 => ?_)⟩
  · rcases hq2 with h | h
    · exact e2 q hq h
    · have := hS q (d1 q hq); omega
  · rcases hq2 with h | h
    · exact e3 q hq h
    · have := hS q (d2 q hq); omega

set_option maxRecDepth 100000 in
set_option maxHeartbeats 4000000 in
theorem heap_calls {b : Nat} {cpu : Int} {h : Hp} {S : Nat → Prop} {w : World} (ha : WkAt w S b cpu h) (hr : Right h) :
    Calls Tryz.prog 65 #[.pointer (some ⟨b, 0, none⟩)] w fun e w' => ∃ pa pn pc wa wn wc ma mn mc, e = .returned (.agg #[.slice pa pn pc, .slice wa wn wc, .slice ma mn mc]) ∧ HpO w' (fun q => (S q ∧ q < w.heap.size) ∨ w.heap.size ≤ q) (.slice pa pn pc) pn (.slice wa wn wc) wn (.slice ma mn mc) mn h ∧ Below w.heap.size w w' := by
  obtain ⟨vp, pn, vw, wn, vm, mn, hR, hO⟩ := (ha.mono (S' := fun q => S q ∧ q < w.heap.size) (fun q hq hl => ⟨hq, hl⟩) (fun hq => ha.out hq.1)).ex
  obtain ⟨S1, S2, S3, o1, o2, o3, _⟩ := hO.ex
  obtain ⟨pa, pc, rfl, _, _, _⟩ := o1.shape
  obtain ⟨wa, wc, rfl, _, _, _⟩ := o2.shape
  obtain ⟨ma, mc, rfl, _, _, _⟩ := o3.shape
  have hmn : mn ≤ 8 := by have := (mags_small hr.ok).1; have := o3.1; omega
  have HOa := Lib.hid hO
  clear hO o1 o2 o3 hr
  have hbl := hR.lt
  obtain ⟨V, hV⟩ : ∃ V, V = w.alloc (.cells #[.slice none 0 0, .slice none 0 0, .slice none 0 0] 28) := ⟨_, rfl⟩
  have hB0 : Below w.heap.size w V := by rw [hV]; exact (Below.refl _ _).alloc (Nat.le_refl _) _
  have hRV := hR.below hB0
  have HR1 : Hid (Row V w.heap.size 28 #[.slice none 0 0, .slice none 0 0, .slice none 0 0]) := by show Row _ _ _ _; rw [hV]; exact heap_alloc_new _ _
  have HB0 := Lib.hid hB0
  have HVs := Lib.hid (show V.heap.size = w.heap.size + 1 by rw [hV]; simp)
  have q1 := hRV.cell 1
  have q2 := hRV.cell 2
  have q3 := hRV.cell 3
  have ql := hRV.lt
  simp at q1 q2 q3
  obtain ⟨S3, hS3, hO3, hfin⟩ := HOa.out.heapO (B := w.heap.size) (fun q hq => hq.2)
  have HFin := Lib.hid hfin
  have HS3 := Lib.hid hS3
  have HO3 := Lib.hid (hO3.turn (Turn.of_below (T := fun _ => False) hB0) (fun _ _ _ h => h))
  clear hfin hO3 hR hB0 hRV hS3
  go_enter Tryz.func65, Tryz.ntmps65
  go_upto_region 1 with (fail)
  rw [← hV]
  clear hV
  have kB : Below V.heap.size V V.drew := (Below.refl V.heap.size V).drew
  go_region_law (go_simp; go_at_call 139; refine (lists_calls (HO3.out.below kB) (by omega)).mono ?_; rintro e wI ⟨vI, rfl, oI, bI⟩; obtain ⟨aI, cI, rfl, _, _, _⟩ := oI.shape; have hbT : Below V.heap.size V wI := kB.trans bI; have z1 := (hbT.cell (p := ⟨b, 1, none⟩) ql).trans q1; have z2 := (hbT.cell (p := ⟨b, 2, none⟩) ql).trans q2; have z3 := (hbT.cell (p := ⟨b, 3, none⟩) ql).trans q3; have hres := HR1.out.below hbT; have r0 := hres.cell 0; have r1 := hres.cell 1; have r2 := hres.cell 2; have rl := hres.lt; simp at r0 r1 r2; have f0 := frozen_of_row _ _ 0 _ _ hres; have f1 := frozen_of_row _ _ 1 _ _ hres; have f2 := frozen_of_row _ _ 2 _ _ hres; have HRes := Lib.hid hres; clear hres)
  all_goals
    have HX := Lib.hid (Row.set3 HRes.out (x := .slice pa pn pc) (y := .slice wa wn wc) (z := .slice aI mn cI))
    have T := Turn.set3 (w := wI) (g := w.heap.size) (x := .slice pa pn pc) (y := .slice wa wn wc) (z := .slice aI mn cI)
    generalize ((wI.setCell ⟨w.heap.size, 0, none⟩ (.slice pa pn pc)).setCell ⟨w.heap.size, 1, none⟩ (.slice wa wn wc)).setCell ⟨w.heap.size, 2, none⟩ (.slice aI mn cI) = X at HX T ⊢
    have hbw : Below w.heap.size w wI := HB0.out.trans (hbT.mono (by have := HVs.out; omega))
    have HBX := Lib.hid (T.below hbw hbw.size (fun q hq => by have e : q = w.heap.size := hq; omega))
    have HOX := Lib.hid ((oI.mono (S' := fun q => (S3 q ∧ q < w.heap.size) ∨ V.heap.size ≤ q) (fun q hq _ => hq.elim (fun h => .inl ⟨h, (HS3.out q h).2⟩) (fun h => .inr h))).turn T (fun q hq _ e => by
      have e : q = w.heap.size := e
      have := HVs.out
      rcases hq with hq | hq <;> omega))
    go_wp2_with fail
    refine bodyPost_ret (results_cell_row rfl _ _ (w.heap.size) _ _ _ _ rfl HX.out Tryz.underlying28 rfl (by kernel_rfl)) rfl ?_
    exact ⟨pa, pn, pc, wa, wn, wc, aI, mn, cI, rfl, HFin.out _ _ _ HBX.out (HOX.out.mono (fun q hq _ => hq.elim (fun h => .inl h.1) (fun h => .inr (by have := HVs.out; omega)))), HBX.out⟩
end Go.Proofs.YthpamclljdcjpaaGreatDoor

/- Chapter 6 of the program: a work on a heap. -/
namespace Go.Proofs.YthpamclljdcjpaaGreatDoor
open Go.RowKit

set_option maxRecDepth 100000 in
set_option maxHeartbeats 4000000 in
theorem workOn_calls {pa wa ma : Option Addr} {pn pc wn wk mn mc : Nat} {cpu : Int} {h : Hp} {S : Nat → Prop} {w : World} (hk : HpK w S pa pn pc wa wn wk ma mn mc h) (hf : heapFault h = 0) :
    Calls Tryz.prog 61 #[.agg #[.slice pa pn pc, .slice wa wn wk, .slice ma mn mc], .int .i64 cpu] w fun e w' => ∃ b, e = .returned (.pointer (some ⟨b, 0, none⟩)) ∧ w.heap.size ≤ b ∧ WkAt w' (fun q => w.heap.size ≤ q ∧ q ≠ b) b cpu h ∧ Below w.heap.size w w' := by
  have HK := Lib.hid hk
  obtain ⟨n1, n2, n3, n4, n5⟩ := hk.small
  have hwn : wn ≤ 1099511627776 := by have := hk.r.wd.1; have := hk.s.w; omega
  obtain ⟨V, hV⟩ : ∃ V, V = w.alloc (.cells #[.slice pa pn pc, .slice wa wn wk, .slice ma mn mc] 28) := ⟨_, rfl⟩
  have hB0 : Below w.heap.size w V := by rw [hV]; exact (Below.refl _ _).alloc (Nat.le_refl _) _
  have R0 : Row V w.heap.size 28 #[.slice pa pn pc, .slice wa wn wk, .slice ma mn mc] := by rw [hV]; exact heap_alloc_new w _
  have HB0 := Lib.hid hB0
  have HVs := Lib.hid (show V.heap.size = w.heap.size + 1 by rw [hV]; simp)
  have q0 := R0.cell 0
  have q1 := R0.cell 1
  have q2 := R0.cell 2
  simp at q0 q1 q2
  have kB := Below.refl V.heap.size V
  clear hk hf hB0 R0
  go_enter Tryz.func61, Tryz.ntmps61
  go_upto_region 1 with (fail)
  rw [← hV]
  clear hV
  go_region_held3 (fun w' => w'.cell? ⟨w.heap.size, 0, none⟩ = some (.slice pa pn pc) ∧ w'.cell? ⟨w.heap.size, 1, none⟩ = some (.slice wa wn wk) ∧ w'.cell? ⟨w.heap.size, 2, none⟩ = some (.slice ma mn mc) ∧ Below V.heap.size V w') (first | with_reducible assumption | with_reducible exact ⟨q0, q1, q2, kB.drew⟩ | exact ⟨q0, q1, q2, kB.drew⟩ | exact keepH hS''' ((Below.refl _ _).alloc (Nat.le_refl _) _))
  (first
    | (go_at_call 130; obtain ⟨y0, y1, y2, kb⟩ := ‹_ ∧ _ ∧ _ ∧ Below _ _ _›; refine (copyPages_calls ((HK.out.r.pg.below HB0.out).below kb) HK.out.short n1).mono ?_; rintro e wP ⟨vP, rfl, oP, bP⟩; obtain ⟨xP, cP, rfl, _, _, _⟩ := oP.shape; have hS' := keepH ⟨y0, y1, y2, kb⟩ bP)
    | (go_at_call 131; obtain ⟨y0, y1, y2, kb⟩ := ‹_ ∧ _ ∧ _ ∧ Below _ _ _›; refine (cloneI_calls ((HK.out.r.wd.below HB0.out).below kb) hwn).mono ?_; rintro e wW ⟨vW, rfl, oW, bW⟩; obtain ⟨xW, cW, rfl, _, _, _⟩ := oW.shape; have hS'' := keepH ⟨y0, y1, y2, kb⟩ bW)
    | (go_at_call 78; obtain ⟨y0, y1, y2, kb⟩ := ‹_ ∧ _ ∧ _ ∧ Below _ _ _›; refine (magazinesOf_calls ((HK.out.r.mg.below HB0.out).below kb) HK.out.s.k n3).mono ?_; rintro e wM ⟨vM, rfl, oM, bM⟩; obtain ⟨xM, cM, rfl, _, _, _⟩ := oM.shape; have hS''' := keepH ⟨y0, y1, y2, kb⟩ bM))
  obtain ⟨_, _, _, kbP⟩ := hS'
  obtain ⟨_, _, _, kbW⟩ := hS''
  obtain ⟨_, _, _, kbM⟩ := hS'''
  have hs1 := kbP.size
  have hs2 := bW.size
  have hs3 := bM.size
  have HA : Below wM.heap.size wM (wM.alloc (.cells #[.int .i64 cpu, .slice xP pn cP, .slice xW wn cW, .slice xM mn cM] 169)) := (Below.refl _ _).alloc (Nat.le_refl _) _
  have HWk := Lib.hid (show WkAt (wM.alloc (.cells #[.int .i64 cpu, .slice xP pn cP, .slice xW wn cW, .slice xM mn cM] 169)) (fun q => w.heap.size ≤ q ∧ q ≠ wM.heap.size) wM.heap.size cpu h from
    ⟨⟨_, _, _, _, _, _, heap_alloc_new wM _, WkO.mk3 (A := fun q => V.heap.size ≤ q ∧ q < wP.heap.size) (B := fun q => wP.heap.size ≤ q ∧ q < wW.heap.size) (C := fun q => wW.heap.size ≤ q ∧ q < wM.heap.size) ((oP.here.mono (S' := fun q => V.heap.size ≤ q ∧ q < wP.heap.size) (fun q hq _ => hq)).below bW |>.below bM |>.below HA) (((oW.here).below bM).below HA) ((oM.here).below HA) (fun q hq => ⟨by have := HVs.out; omega, by omega⟩) (fun q hq => ⟨by have := HVs.out; omega, by omega⟩) (fun q hq => ⟨by have := HVs.out; omega, by omega⟩) (fun q hq hq2 => by omega) (fun q hq hq2 => by omega) (fun q hq hq2 => by omega)⟩, fun hq => hq.2 rfl⟩)
  have HBz := Lib.hid (show Below w.heap.size w (wM.alloc (.cells #[.int .i64 cpu, .slice xP pn cP, .slice xW wn cW, .slice xM mn cM] 169)) from (HB0.out.trans (kbM.mono (by have := HVs.out; omega))).alloc (by have := HVs.out; omega) _)
  have hle : w.heap.size ≤ wM.heap.size := by have := HVs.out; omega
  clear oP oW oM bP bW bM kbP kbW kbM HA q0 q1 q2 kB hs1 hs2 hs3
  go_wp2_with fail
  go_ret
  exact ⟨_, rfl, hle, HWk.out, HBz.out⟩
end Go.Proofs.YthpamclljdcjpaaGreatDoor

/- Chapter 6 of the program: errors.Is and errors.As, for what its functions hand them. (EXTERNS STAY) -/
namespace Go.Proofs.YthpamclljdcjpaaGreatDoor
open Go.RowKit Go.Extern.Stop Go.Stop Go.Extern

/-- A refusal: a code, and the error that it wraps, at an address. -/
def refV (c : Int) (a : Addr) : Value := .iface 102 (.agg #[.int .i64 c, .iface 289 (.pointer (some a))])

theorem isTypeOf6 (v : Value) (w : World) : (Extern.ReflectliteType.typeOf #[.iface 289 v]).run Tryz.prog w = .ok (.iface 222 (.agg #[.pointer (some ⟨5, 289, none⟩)])) w := by kernel_rfl
def cmpE : Array Value → Sem Value := Extern.ReflectliteType.method fun t => do Extern.Rtype.noPackHeld "Comparable" t; pure (.bool (← typeInfo t).comparable)
theorem isComparable6 (w : World) : (cmpE #[.agg #[.pointer (some ⟨5, 289, none⟩)]]).run Tryz.prog w = .ok (.bool true) w := by kernel_rfl
theorem isMethodComparable6 (v : Value) (w : World) : (Go.method 422 222 v "Comparable").run Tryz.prog w = .ok (280, v) w := by kernel_rfl
theorem isComp6 : (Tryz.prog.info? 289).map (·.comparable) = some true := by kernel_rfl
theorem isSize6 : (Tryz.prog.info? 310).map (·.size) = some 1 := by kernel_rfl
theorem noIsR6 (v : Value) (xT : TypeId) (w : World) : (Instr.typeAssert (.iface 102 v) xT 273 true).run Tryz.prog w = .ok (.tuple #[.nilIface, .bool false]) w := run_typeAssert_lacksB Tryz.underlying273 (by kernel_rfl) (by kernel_rfl) v xT w
theorem hasUnwrapR6 (v : Value) (xT : TypeId) (w : World) : (Instr.typeAssert (.iface 102 v) xT 230 true).run Tryz.prog w = .ok (.tuple #[.iface 102 v, .bool true]) w := run_typeAssert_hasB Tryz.underlying230 (by kernel_rfl) v xT w
theorem methodUnwrap6 (v : Value) (w : World) : (Go.method 422 102 v "Unwrap").run Tryz.prog w = .ok (272, v) w := by kernel_rfl

/-- errors.Is(nil, x). -/
theorem is_nil6 (b : Addr) (w : World) :
    Calls Tryz.prog 159 #[.nilIface, .iface 289 (.pointer (some b))] w fun e w' => e = .returned (.bool false) ∧ w' = w := by
  have hn := run_eql_iface_nil_left (P := Tryz.prog) w 289 (.pointer (some b)) Tryz.underlying98
  go_enter Tryz.func159, Tryz.ntmps159
  go_wp2
  go_ret
  exact ⟨rfl, rfl⟩

set_option maxHeartbeats 1000000 in
theorem unwrap_calls6 (c : Int) (b : Addr) (w : World) :
    Calls Tryz.prog 272 #[.agg #[.int .i64 c, .iface 289 (.pointer (some b))]] w fun e w' => e = .returned (.iface 289 (.pointer (some b))) ∧ Below w.heap.size w w' := by
  go_enter Tryz.func272, Tryz.ntmps272
  go_wp2_with fail
  go_ret
  exact ⟨rfl, (Below.refl _ _).alloc (Nat.le_refl _) _⟩

set_option maxRecDepth 100000 in
set_option maxHeartbeats 4000000 in
/-- errors.Is(a refusal that wraps x, x). -/
theorem is_wrap6 (c : Int) (b : Addr) (w : World) :
    Calls Tryz.prog 159 #[refV c b, .iface 289 (.pointer (some b))] w fun e w' => e = .returned (.bool true) ∧ Below w.heap.size w w' := by
  obtain ⟨i, hi, hcmp⟩ := Option.map_eq_some_iff.1 isComp6
  obtain ⟨j, hj, hjs⟩ := Option.map_eq_some_iff.1 isSize6
  have h8 := @run_callFunc_extern Tryz.prog 185 _ Extern.ReflectliteType.typeOf Tryz.func185 (by kernel_rfl) (by kernel_rfl) (by kernel_rfl) (by kernel_rfl)
  have h32 := @run_callFunc_extern Tryz.prog 280 _ cmpE Tryz.func280 (by kernel_rfl) (by kernel_rfl) (by kernel_rfl) (by kernel_rfl)
  have tT := isTypeOf6
  have cT := isComparable6
  have mR := isMethodComparable6
  have nW := noIsR6
  have uW := hasUnwrapR6
  have mU := methodUnwrap6
  have heq := run_eql_iface_ptr_same (P := Tryz.prog) w b Tryz.underlying98 Tryz.underlying289 hi hcmp hj
  have hty := run_eql_iface_types (P := Tryz.prog) 102 289 (.agg #[.int .i64 c, .iface 289 (.pointer (some b))]) (.pointer (some b)) Tryz.underlying98 (by decide) w
  unfold refV
  go_enter Tryz.func159, Tryz.ntmps159
  go_wp2
  refine wp_loop_rounds 2 ?_
  rw [rounds_succ]
  go_wp2_with (go_at_call 272; refine (unwrap_calls6 _ _ _).mono ?_; rintro e w1 ⟨rfl, hb1⟩; have heq2 := run_eql_iface_ptr_same (P := Tryz.prog) w1 b Tryz.underlying98 Tryz.underlying289 hi hcmp hj)
  rw [rounds_succ]
  go_wp2_with fail
  go_ret
  exact ⟨rfl, hb1⟩
end Go.Proofs.YthpamclljdcjpaaGreatDoor

/- Chapter 6 of the program: what was found is taken, or refused. -/
namespace Go.Proofs.YthpamclljdcjpaaGreatDoor
open Go.RowKit

set_option maxRecDepth 100000 in
set_option maxHeartbeats 4000000 in
theorem taken_calls {V w : World} {S : Nat → Prop} {b np : Nat} {cpu a : Int} {h : Hp} {v : Value} {ps : List Pg} (ha : WkAt V S b cpu h) (hb : Below V.heap.size V w) (ho : Own KPage 137 w (fun q => V.heap.size ≤ q) v np ps) :
    Calls Tryz.prog 235 #[.pointer (some ⟨b, 0, none⟩), .agg #[.int .i64 0, v, .int .i64 a]] w fun e w' => e = .returned (.tuple #[.int .i64 a, .nilIface]) ∧ Works V S b cpu ⟨ps, h.words, h.mags⟩ w' := by
  obtain ⟨po, pk, rfl, _, _, _⟩ := ho.shape
  obtain ⟨W, hW⟩ : ∃ W, W = w.alloc (.cells #[.int .i64 0, .slice po np pk, .int .i64 a] 55) := ⟨_, rfl⟩
  have hbW : Below w.heap.size w W := by rw [hW]; exact (Below.refl _ _).alloc (Nat.le_refl _) _
  have hVW := hb.trans (hbW.mono hb.size)
  have HN := Lib.hid (ha.setPages hVW (ho.below hbW))
  obtain ⟨vp, np0, vw, nw, vm, nm, h1, _⟩ := ha.ex
  have hR := h1.below hVW
  have R0 : Row W w.heap.size 55 #[.int .i64 0, .slice po np pk, .int .i64 a] := by rw [hW]; exact heap_alloc_new w _
  have q0 := R0.cell 0
  have q1 := R0.cell 1
  have q2 := R0.cell 2
  have ql := R0.lt
  have z1 := hR.cell 1
  have zl := hR.lt
  have zf := frozen_of_row _ _ 1 _ _ hR
  have hne : w.heap.size ≠ b := by have := h1.lt; have := hb.size; omega
  simp at q0 q1 q2 z1
  clear ho ha hbW hVW h1 hR R0
  go_enter Tryz.func235, Tryz.ntmps235
  go_upto_region 1 with (fail)
  rw [← hW]
  clear hW
  go_wp2_with fail
  go_ret2
  exact ⟨rfl, HN.out⟩

set_option maxRecDepth 100000 in
set_option maxHeartbeats 4000000 in
theorem takenNo_calls {w : World} {b : Nat} {c a : Int} {po : Option Addr} {np pk : Nat} {a2 : Addr} (hc : c ≠ 0) (hE : w.cell? ⟨2, 0, none⟩ = some (.iface 289 (.pointer (some a2)))) :
    Calls Tryz.prog 235 #[.pointer (some ⟨b, 0, none⟩), .agg #[.int .i64 c, .slice po np pk, .int .i64 a]] w fun e w' => e = .returned (.tuple #[.int .i64 0, refV c a2]) ∧ Below w.heap.size w w' := by
  have e1 : (c == 0) = false := by simpa using hc
  have hl := World.block_lt_of_cell? _ _ hE
  clear hc
  go_enter Tryz.func235, Tryz.ntmps235
  go_wp2_with fail
  go_quiet (fail)
  go_wp2_with fail
  go_ret2
  exact ⟨rfl, below_drewN ((Below.refl _ _).alloc (Nat.le_refl _) _) _⟩
end Go.Proofs.YthpamclljdcjpaaGreatDoor

/- Chapter 6 of the program: a slot is taken, at hand or in a page; a run is taken. -/
namespace Go.Proofs.YthpamclljdcjpaaGreatDoor
open Go.RowKit

theorem Own.shrink {α : Type} {K : Lay α} {t : TypeId} {w : World} {S : Nat → Prop} {a : Option Addr} {k c : Nat} {xs : List α} (h : Own K t w S (.slice a (k + 1) c) (k + 1) xs) : Own K t w S (.slice a k c) k (xs.take k) := by
  have hl := h.1
  rcases h.2 with ⟨_, h2⟩ | ⟨g, cap, cur, F, hv, hg, hr, h1, h2, h3, hF, hD, hc⟩
  · omega
  · injection hv with e1 _ e3
    subst e1 e3
    refine ⟨by rw [List.length_take]; omega, .inr ⟨g, c, cur, F, rfl, hg, hr, by omega, h2, h3, hF, hD, fun j x hj => hc j x ?_⟩⟩
    rw [List.getElem?_take] at hj
    split at hj
    · exact hj
    · cases hj
/-- What is found at hand, or in a page. -/
def slotOut (h : Hp) (cpu c : Int) : Option (Int × Hp) := match (h.magOf cpu c).getLast? with
  | some a => some (a, h.setMag (magNo cpu c) (h.magOf cpu c).dropLast)
  | none => match slotFor h.pages c with
    | some (i, s) => some ((i : Int) * 16 + s * sizeW c, ⟨putSlot h.pages c i s, h.words, h.mags⟩)
    | none => none
def runOut (h : Hp) (n : Int) : Option (Int × Hp) := match runFrom n.toNat 0 h.pages with
  | some i => some ((i : Int) * 16, ⟨putRun h.pages i n.toNat, h.words, h.mags⟩)
  | none => none
theorem onceHp_eq (h : Hp) (cpu n : Int) : onceHp h cpu n = if 8 < n then runOut h ((n + 15) / 16) else slotOut h cpu (classW n) := rfl
/-- A place, or a refusal. -/
def TookR (w : World) (S : Nat → Prop) (b : Nat) (cpu : Int) (h : Hp) (a2 : Addr) (o : Option (Int × Hp)) (e : Ending) (w' : World) : Prop := match o with
  | some x => e = .returned (.tuple #[.int .i64 x.1, .nilIface]) ∧ Works w S b cpu x.2 w'
  | none => e = .returned (.tuple #[.int .i64 0, refV 7 a2]) ∧ Works w S b cpu h w'
theorem last_getD {m : List Int} {k : Nat} {a : Int} (hl : m.length = k + 1) (h : m.getLast? = some a) : m.getD k 0 = a ∧ m.dropLast = m.take k := by
  rw [List.getLast?_eq_getElem?, hl, Nat.add_sub_cancel] at h
  exact ⟨by rw [List.getD_eq_getElem?_getD, h]; rfl, by rw [List.dropLast_eq_take, hl, Nat.add_sub_cancel]⟩

set_option maxRecDepth 100000 in
set_option maxHeartbeats 4000000 in
theorem takeSlot_calls {w : World} {S : Nat → Prop} {b : Nat} {cpu c : Int} {h : Hp} {a2 : Addr} (ha : WkAt w S b cpu h) (hr : Right h) (h0 : 0 ≤ cpu) (h1 : 4 * cpu + 4 ≤ h.mags.length) (c0 : 0 ≤ c) (c3 : c ≤ 3) (hE : w.cell? ⟨2, 0, none⟩ = some (.iface 289 (.pointer (some a2)))) :
    Calls Tryz.prog 201 #[.pointer (some ⟨b, 0, none⟩), .int .i64 c] w (TookR w S b cpu h a2 (slotOut h cpu c)) := by
  have HA := Lib.hid ha
  obtain ⟨hj, hmo, _⟩ := magOf_at (h := h) h0 h1 c0 c3
  have hidx : cpu * 4 + c = (magNo cpu c : Int) := by unfold magNo; omega
  have hcpu : cpu ≤ 2 := by have := (mags_small hr.ok).1; omega
  obtain ⟨pa, np, pc, wa, nw, wc, g, nm, mc, mb, a, l, cc, F, m, hR, hjn, hk1, hk2, hm, hgl, hcell, hMrow, hMown, hF, hSmb, hfin⟩ := ha.magF hj
  rw [hmo] at hm
  injection hm with hm
  have hml := hMown.1
  have hlc := hMown.lst
  have HFin := Lib.hid hfin
  have HMo := Lib.hid hMown
  have HFq := Lib.hid hF
  have HM := Lib.hid hm
  obtain ⟨j, hjj⟩ : ∃ j, j = magNo cpu c := ⟨_, rfl⟩
  rw [← hjj] at hidx hcell
  have HJ := Lib.hid hjj
  have hjn' : j < nm := by rw [hjj]; exact hjn
  have HR := Lib.hid hR
  have HMr := Lib.hid hMrow
  have HRi := Lib.hid hr
  have HE := Lib.hid hE
  obtain ⟨_, hl1, hl2, hL⟩ := hlc
  clear ha hfin hMown hF hm hmo hj hjn hjj hE hr
  rcases hlast : (h.magOf cpu c).getLast? with _ | x
  · -- none at hand
    have hm0 : m = [] := by rw [← HM.out]; exact List.getLast?_eq_none_iff.1 hlast
    have hl0 : l = 0 := by rw [hm0] at hml; simpa using hml.symm
    subst hl0
    have HS := Lib.hid (show slotOut h cpu c = match slotFor h.pages c with
        | some (i, s) => some ((i : Int) * 16 + s * sizeW c, ⟨putSlot h.pages c i s, h.words, h.mags⟩)
        | none => none by unfold slotOut; rw [hlast])
    clear hlast hm0 hL hl1 hl2 hml
    go_enter Tryz.func201, Tryz.ntmps201
    go_wp2_with fail
    refine (magazineOf_calls hR hcell hidx hjn' hk1 hk2 h0 hcpu c0 c3).mono ?_
    rintro e w1 ⟨rfl, hb1⟩
    have HB1 := Lib.hid hb1
    have hMr1 := HMr.out.below hb1
    clear hb1
    go_wp2_with fail
    refine (takeNone_calls hMr1).mono ?_
    rintro e w2 ⟨rfl, rfl⟩
    have ha1 := HA.out.then HB1.out
    obtain ⟨pa', np', pc', wa', nw', wc', ma', nm', mc', hR', hLp, _, _, hp1, hp2, _⟩ := ha1.open_
    have z1 := hR'.cell 1
    have zl := hR'.lt
    simp at z1
    have HLp := Lib.hid hLp
    have hnp : np' ≤ 40 := by have := (pagesFault_ok HRi.out.pg).1; have := hLp.1; omega
    have HSh := Lib.hid (show ShortP 17592186044416 h.pages from fun p hp => Nat.le_trans (pagesFault_short HRi.out.pg p hp) (by decide))
    have hp3 : pc' ≤ 9223372036854775807 := Nat.le_trans hp2 (by decide)
    clear ha1 hR' hLp hMr1
    go_wp2_with fail
    refine (findSlot_calls (c := c) HLp.out HSh.out hp1 hp3 (by omega)).mono ?_
    have hw := within_yes1 (lo := 0) (hi := 3) (v := c) c0 c3
    rcases hs : slotFor h.pages c with _ | ⟨i, s⟩
    · have hfs : findSlot h.pages c = (7, [], 0) := by unfold findSlot; rw [if_pos HRi.out.pg, if_pos hw, hs]
      have HS2 := Lib.hid (show slotOut h cpu c = none by rw [HS.out, hs])
      rw [hfs]
      rintro e w3 ⟨v, n, rfl, ho3, hb3⟩
      obtain ⟨po, pk, rfl, _, _, _⟩ := ho3.shape
      have hB3 := HB1.out.trans (hb3.mono HB1.out.size)
      have hE3 := (hB3.cell (p := ⟨2, 0, none⟩) (World.block_lt_of_cell? _ _ HE.out)).trans HE.out
      have HB3 := Lib.hid hB3
      clear ho3 hb3 hB3 hs hfs hw
      go_wp2_with fail
      refine (takenNo_calls (by decide) hE3).mono ?_
      rintro e w4 ⟨rfl, hb4⟩
      have HB4 := Lib.hid (HB3.out.trans (hb4.mono HB3.out.size))
      clear hb4
      unfold refV
      go_wp2_with fail
      go_ret2
      rw [HS2.out]
      exact ⟨rfl, (Works.refl HA.out).below HB4.out⟩
    · have hfs : findSlot h.pages c = (0, putSlot h.pages c i s, (i : Int) * 16 + s * sizeW c) := by unfold findSlot; rw [if_pos HRi.out.pg, if_pos hw, hs]
      have HS2 := Lib.hid (show slotOut h cpu c = some ((i : Int) * 16 + s * sizeW c, ⟨putSlot h.pages c i s, h.words, h.mags⟩) by rw [HS.out, hs])
      rw [hfs]
      rintro e w3 ⟨v, n, rfl, ho3, hb3⟩
      have HB3 := Lib.hid (HB1.out.trans (hb3.mono HB1.out.size))
      have HO3 := Lib.hid (ho3.mono (S' := fun q => w.heap.size ≤ q) (fun q hq _ => Nat.le_trans HB1.out.size hq))
      obtain ⟨po, pk, rfl, _, _, _⟩ := ho3.shape
      clear ho3 hb3 hs hfs hw
      go_wp2_with fail
      refine (taken_calls HA.out HB3.out HO3.out).mono ?_
      rintro e w4 ⟨rfl, hW4⟩
      have HW4 := Lib.hid hW4
      clear hW4
      go_wp2_with fail
      go_ret2
      rw [HS2.out]
      exact ⟨rfl, HW4.out⟩
  · -- the newest one at hand
    obtain ⟨k, rfl⟩ : ∃ k, l = k + 1 := ⟨l - 1, by
      rw [HM.out] at hlast
      cases hc : m with
      | nil => rw [hc] at hlast; simp at hlast
      | cons y ys => rw [hc] at hml; simp at hml; omega⟩
    rw [HM.out] at hlast
    obtain ⟨e1, e2⟩ := last_getD hml hlast
    have HS := Lib.hid (show slotOut h cpu c = some (x, h.setMag (magNo cpu c) (m.take k)) by unfold slotOut; rw [HM.out, hlast, e2])
    have HX := Lib.hid e1
    clear hlast e1 e2 hml
    go_enter Tryz.func201, Tryz.ntmps201
    go_wp2_with fail
    refine (magazineOf_calls hR hcell hidx hjn' hk1 hk2 h0 hcpu c0 c3).mono ?_
    rintro e w1 ⟨rfl, hb1⟩
    have HB1 := Lib.hid hb1
    have hMr1 := HMr.out.below hb1
    have hL1 := hL.below hb1
    clear hb1 hL
    go_wp2_with fail
    refine (takeNewest_calls hMr1 hL1 hl1 hl2).mono ?_
    rw [HX.out]
    rintro e w2 ⟨rfl, hr2, ht2⟩
    have HW := Lib.hid (HFin.out w2 (.slice a k cc) k (m.take k) hr2 ((((HMo.out.below HB1.out).shrink).turn ht2 (fun q hq _ e => (HFq.out q hq).2.2 e)).mono (fun q hq _ => .inl hq)) ((Turn.of_below HB1.out).trans ht2 (fun q hq _ => .inl hq)))
    clear hr2 ht2 hMr1 hL1
    go_wp2_with fail
    go_ret2
    rw [HS.out]
    exact ⟨rfl, HW.out⟩
end Go.Proofs.YthpamclljdcjpaaGreatDoor

/- Chapter 6 of the program: a run is taken; a block for so many words. -/
namespace Go.Proofs.YthpamclljdcjpaaGreatDoor
open Go.RowKit

theorem takeRun_found {ps : List Pg} {m : Int} {i : Nat} (hv : pagesFault ps = 0) (h1 : 1 ≤ m) (h4 : m ≤ 4) (h : runFrom m.toNat 0 ps = some i) : takeRun ps (i : Int) m = (0, putRun ps i m.toNat, (i : Int) * 16) := by
  obtain ⟨_, hf⟩ := runFrom_in h
  rw [Nat.sub_zero] at hf
  have hl := freeN_len hf
  rw [List.length_drop] at hl
  unfold takeRun
  rw [if_pos hv, if_pos ⟨within_yes1 h1 h4, within_yes1 (by omega) (by omega)⟩, Int.toNat_natCast, if_pos hf]

set_option maxRecDepth 100000 in
set_option maxHeartbeats 4000000 in
theorem takeRunW_calls {w : World} {S : Nat → Prop} {b : Nat} {cpu m : Int} {h : Hp} {a2 : Addr} (ha : WkAt w S b cpu h) (hr : Right h) (m1 : 1 ≤ m) (m4 : m ≤ 4) (hE : w.cell? ⟨2, 0, none⟩ = some (.iface 289 (.pointer (some a2)))) :
    Calls Tryz.prog 203 #[.pointer (some ⟨b, 0, none⟩), .int .i64 m] w (TookR w S b cpu h a2 (runOut h m)) := by
  have HA := Lib.hid ha
  obtain ⟨pa, np, pc, wa, nw, wc, ma, nm, mc, hR, hLp, _, _, hp1, hp2, _⟩ := ha.open_
  have z1 := hR.cell 1
  have zl := hR.lt
  simp at z1
  have HLp := Lib.hid hLp
  have HRi := Lib.hid hr
  have HE := Lib.hid hE
  have HR := Lib.hid hR
  have hnp : np ≤ 40 := by have := (pagesFault_ok hr.pg).1; have := hLp.1; omega
  have HSh := Lib.hid (show ShortP 17592186044416 h.pages from fun p hp => Nat.le_trans (pagesFault_short hr.pg p hp) (by decide))
  have hp3 : pc ≤ 9223372036854775807 := Nat.le_trans hp2 (by decide)
  have HW := Lib.hid (within_yes1 (lo := 1) (hi := 4) (v := m) m1 m4)
  clear ha hR hLp hr hE
  go_enter Tryz.func203, Tryz.ntmps203
  go_wp2_with fail
  refine (findRun_calls (m := m) HLp.out HSh.out hp1 hp3 (by omega)).mono ?_
  rcases hs : runFrom m.toNat 0 h.pages with _ | i
  · have hfs : findRun h.pages m = (7, 0) := by unfold findRun; rw [if_pos HRi.out.pg, if_pos HW.out, hs]
    have HS2 := Lib.hid (show runOut h m = none by unfold runOut; rw [hs])
    rw [hfs]
    rintro e w1 ⟨rfl, hb1⟩
    have hE1 := (hb1.cell (p := ⟨2, 0, none⟩) (World.block_lt_of_cell? _ _ HE.out)).trans HE.out
    have hEl := World.block_lt_of_cell? _ _ hE1
    have HB1 := Lib.hid hb1
    have hbs := hb1.size
    clear hs hfs hb1
    go_wp2_with fail
    go_quiet (fail)
    go_wp2_with fail
    go_ret2
    rw [HS2.out]
    exact ⟨rfl, (Works.refl HA.out).below (below_drewN (HB1.out.alloc HB1.out.size _) _)⟩
  · have hfs : findRun h.pages m = (0, (i : Int)) := by unfold findRun; rw [if_pos HRi.out.pg, if_pos HW.out, hs]
    have HTk := Lib.hid (takeRun_found HRi.out.pg m1 m4 hs)
    have HS2 := Lib.hid (show runOut h m = some ((i : Int) * 16, ⟨putRun h.pages i m.toNat, h.words, h.mags⟩) by unfold runOut; rw [hs])
    rw [hfs]
    rintro e w1 ⟨rfl, hb1⟩
    obtain ⟨W, hW⟩ : ∃ W, W = w1.alloc (.cells #[.int .i64 0, .int .i64 (i : Int)] 45) := ⟨_, rfl⟩
    have hbW : Below w.heap.size w W := by rw [hW]; exact hb1.alloc hb1.size _
    have R1 : Row W w1.heap.size 45 #[.int .i64 0, .int .i64 (i : Int)] := by rw [hW]; exact heap_alloc_new w1 _
    have y0 := R1.cell 0
    have y1 := R1.cell 1
    have yl := R1.lt
    simp at y0 y1
    have x1 := (hbW.cell (p := ⟨b, 1, none⟩) zl).trans z1
    have xl := (HR.out.below hbW).lt
    have HBW := Lib.hid hbW
    have kB : Below W.heap.size W W.drew := (Below.refl W.heap.size W).drew
    clear hs hfs hb1 hbW R1 z1 zl
    go_upto_region 2 with (fail)
    rw [← hW]
    clear hW
    go_wp2_with fail
    go_region_law (first
      | (go_simp; go_at_call 239; refine (takeRun_calls (a := (i : Int)) (m := m) ((HLp.out.below HBW.out).below kB) HSh.out hp1 hp3 (by omega)).mono ?_; rw [HTk.out]; rintro e w3 ⟨v, n, rfl, ho3, hb3⟩; have hB3 : Below w.heap.size w w3 := HBW.out.trans ((kB.trans hb3).mono HBW.out.size); have hO3 := ho3.mono (S' := fun q => w.heap.size ≤ q) (fun q hq _ => Nat.le_trans HBW.out.size hq); obtain ⟨po, pk, rfl, _, _, _⟩ := ho3.shape)
      | (go_simp; go_at_call 235; refine (taken_calls HA.out hB3 hO3).mono ?_; rintro e w4 ⟨rfl, hW4⟩))
    all_goals
      have HW4 := Lib.hid hW4
      clear hW4
      go_wp2_with fail
      go_ret2
      rw [HS2.out]
      exact ⟨rfl, HW4.out⟩

set_option maxRecDepth 100000 in
set_option maxHeartbeats 4000000 in
theorem takeBlock_calls {w : World} {S : Nat → Prop} {b : Nat} {cpu n : Int} {h : Hp} {a2 : Addr} (ha : WkAt w S b cpu h) (hr : Right h) (h0 : 0 ≤ cpu) (h1 : 4 * cpu + 4 ≤ h.mags.length) (n1 : 1 ≤ n) (n2 : n ≤ 64) (hE : w.cell? ⟨2, 0, none⟩ = some (.iface 289 (.pointer (some a2)))) :
    Calls Tryz.prog 158 #[.pointer (some ⟨b, 0, none⟩), .int .i64 n] w (TookR w S b cpu h a2 (onceHp h cpu n)) := by
  have HA := Lib.hid ha
  have HRi := Lib.hid hr
  have HE := Lib.hid hE
  have hf1 := run_field_P1
  by_cases h8 : n ≤ 8
  · obtain ⟨c0, c3⟩ := classW_small n
    have HO := Lib.hid (show onceHp h cpu n = slotOut h cpu (classW n) by rw [onceHp_eq, if_neg (by omega)])
    have HC := Lib.hid (classOf_yes n1 h8)
    clear ha hr hE
    go_enter Tryz.func158, Tryz.ntmps158
    go_wp2_with fail
    refine (classOf_calls (c := n)).mono ?_
    rw [HC.out]
    rintro e w1 ⟨rfl, hb1⟩
    have hE1 := (hb1.cell (p := ⟨2, 0, none⟩) (World.block_lt_of_cell? _ _ HE.out)).trans HE.out
    have HB1 := Lib.hid hb1
    have HE1 := Lib.hid hE1
    clear hb1 hE1
    go_wp2_with fail
    refine (takeSlot_calls (HA.out.then HB1.out) HRi.out h0 h1 c0 c3 HE1.out).mono ?_
    rcases hso : slotOut h cpu (classW n) with _ | ⟨x, g⟩
    · have HO2 := Lib.hid (HO.out.trans hso)
      clear hso
      rintro e w2 ⟨rfl, hw2⟩
      have HW2 := Lib.hid (Works.of_below HB1.out HA.out.lt hw2)
      clear hw2
      unfold refV
      go_wp2_with fail
      go_ret2
      rw [HO2.out]
      exact ⟨rfl, HW2.out⟩
    · have HO2 := Lib.hid (HO.out.trans hso)
      clear hso
      rintro e w2 ⟨rfl, hw2⟩
      have HW2 := Lib.hid (Works.of_below HB1.out HA.out.lt hw2)
      clear hw2
      go_wp2_with fail
      go_ret2
      rw [HO2.out]
      exact ⟨rfl, HW2.out⟩
  · have HO := Lib.hid (show onceHp h cpu n = runOut h ((n + 15) / 16) by rw [onceHp_eq, if_pos (by omega)])
    have HC := Lib.hid (pagesOf_yes (show 9 ≤ n by omega) n2)
    have m1 : 1 ≤ (n + 15) / 16 := by omega
    have m4 : (n + 15) / 16 ≤ 4 := by omega
    obtain ⟨m, hm⟩ : ∃ m, m = (n + 15) / 16 := ⟨_, rfl⟩
    rw [← hm] at HO HC m1 m4
    clear ha hr hE hm
    go_enter Tryz.func158, Tryz.ntmps158
    go_wp2_with fail
    refine (pagesOf_calls (c := n)).mono ?_
    rw [HC.out]
    rintro e w1 ⟨rfl, hb1⟩
    have hE1 := (hb1.cell (p := ⟨2, 0, none⟩) (World.block_lt_of_cell? _ _ HE.out)).trans HE.out
    have HB1 := Lib.hid hb1
    have HE1 := Lib.hid hE1
    clear hb1 hE1
    go_wp2_with fail
    refine (takeRunW_calls (HA.out.then HB1.out) HRi.out m1 m4 HE1.out).mono ?_
    rcases hso : runOut h m with _ | ⟨x, g⟩
    · have HO2 := Lib.hid (HO.out.trans hso)
      clear hso
      rintro e w2 ⟨rfl, hw2⟩
      have HW2 := Lib.hid (Works.of_below HB1.out HA.out.lt hw2)
      clear hw2
      unfold refV
      go_wp2_with fail
      go_ret2
      rw [HO2.out]
      exact ⟨rfl, HW2.out⟩
    · have HO2 := Lib.hid (HO.out.trans hso)
      clear hso
      rintro e w2 ⟨rfl, hw2⟩
      have HW2 := Lib.hid (Works.of_below HB1.out HA.out.lt hw2)
      clear hw2
      go_wp2_with fail
      go_ret2
      rw [HO2.out]
      exact ⟨rfl, HW2.out⟩
end Go.Proofs.YthpamclljdcjpaaGreatDoor

/- Chapter 6: a right heap is short. -/
namespace Go.Proofs.YthpamclljdcjpaaGreatDoor
open Go.RowKit

theorem Right.short {h : Hp} (hr : Right h) : HpS 1048576 h := by
  have h40 := (pagesFault_ok hr.pg).1
  have hl := hr.len
  obtain ⟨m1, _, m3, _⟩ := mags_small hr.ok
  exact ⟨by omega, fun p hp => Nat.le_trans (pagesFault_short hr.pg p hp) (by decide), by omega, by omega, fun m hm => Nat.le_trans (m3 m hm) (by decide)⟩
end Go.Proofs.YthpamclljdcjpaaGreatDoor

/- Chapter 6 of the program: a place, where need be behind a drain. -/
namespace Go.Proofs.YthpamclljdcjpaaGreatDoor
open Go.RowKit

theorem Row.setF4 {w : World} {g : Nat} {t : TypeId} {a b c d x y z u : Value} (h : Row w g t #[a, b, c, d]) : Row ((((w.setCell ⟨g, 0, none⟩ x).setCell ⟨g, 1, none⟩ y).setCell ⟨g, 2, none⟩ z).setCell ⟨g, 3, none⟩ u) g t #[x, y, z, u] := by
  have := (((h.upd (i := 0) x).upd (i := 1) y).upd (i := 2) z).upd (i := 3) u
  simpa [Row] using this
theorem Turn.setF4 {w : World} {g : Nat} {x y z u : Value} : Turn (fun k => k = g) w ((((w.setCell ⟨g, 0, none⟩ x).setCell ⟨g, 1, none⟩ y).setCell ⟨g, 2, none⟩ z).setCell ⟨g, 3, none⟩ u) :=
  (((Turn.set w ⟨g, 0, none⟩ x).trans (Turn.set _ ⟨g, 1, none⟩ y) (fun _ h _ => h)).trans (Turn.set _ ⟨g, 2, none⟩ z) (fun _ h _ => h)).trans (Turn.set _ ⟨g, 3, none⟩ u) (fun _ h _ => h)
/-- A work becomes what another one is. -/
theorem WkAt.moved {w w1 : World} {S : Nat → Prop} {b b' : Nat} {cpu : Int} {h g : Hp} (ha : WkAt w S b cpu h) (hb : Below w.heap.size w w1) (hn : WkAt w1 (fun q => w.heap.size ≤ q ∧ q ≠ b') b' cpu g) (hb' : w.heap.size ≤ b') :
    ∃ pa np pc wa nw wc ma nm mc, Row w1 b' 169 #[.int .i64 cpu, .slice pa np pc, .slice wa nw wc, .slice ma nm mc] ∧ (∃ v1 v2 v3, Row w1 b 169 #[.int .i64 cpu, v1, v2, v3]) ∧
      Works w S b cpu g ((((w1.setCell ⟨b, 0, none⟩ (.int .i64 cpu)).setCell ⟨b, 1, none⟩ (.slice pa np pc)).setCell ⟨b, 2, none⟩ (.slice wa nw wc)).setCell ⟨b, 3, none⟩ (.slice ma nm mc)) := by
  have hbl := ha.lt
  obtain ⟨v1, _, v2, _, v3, _, hR, _⟩ := ha.ex
  have hR1 := hR.below hb
  obtain ⟨vp, np, vw, nw, vm, nm, h1, h2⟩ := hn.ex
  obtain ⟨S1, S2, S3, o1, o2, o3, d1, d2, d3, e1, e2, e3⟩ := h2.ex
  obtain ⟨pa, pc, rfl, _, _, _⟩ := o1.shape
  obtain ⟨wa, wc, rfl, _, _, _⟩ := o2.shape
  obtain ⟨ma, mc, rfl, _, _, _⟩ := o3.shape
  have T := Turn.setF4 (w := w1) (g := b) (x := .int .i64 cpu) (y := .slice pa np pc) (z := .slice wa nw wc) (u := .slice ma nm mc)
  refine ⟨pa, np, pc, wa, nw, wc, ma, nm, mc, h1, ⟨v1, v2, v3, hR1⟩, ⟨⟨_, _, _, _, _, _, Row.setF4 hR1, (h2.turn T (fun k hk _ e => by have e : k = b := e; omega)).mono (fun q hq _ => .inr hq.1)⟩, fun hq => ?_⟩, (Turn.of_below hb).trans T (fun q hq _ => .inr hq)⟩
  rcases hq with hq | hq
  · exact ha.out hq.1
  · omega

/-- A place, or a refusal, after which the work is thrown away. -/
def PlaceR (w : World) (S : Nat → Prop) (b : Nat) (cpu : Int) (a2 : Addr) (o : Option (Int × Hp)) (e : Ending) (w' : World) : Prop := match o with
  | some x => e = .returned (.tuple #[.int .i64 x.1, .nilIface]) ∧ Works w S b cpu x.2 w'
  | none => e = .returned (.tuple #[.int .i64 0, refV 7 a2]) ∧ ∃ g, Works w S b cpu g w'
theorem cell_turn {T : Nat → Prop} {w w' : World} {p : Addr} {v : Value} (ht : Turn T w w') (h : w.cell? p = some v) (hn : ¬ T p.block) : w'.cell? p = some v := by
  have hk := ht.block p.block (World.block_lt_of_cell? _ _ h) hn
  unfold World.cell? at h ⊢
  rw [hk]; exact h

set_option maxRecDepth 100000 in
set_option maxHeartbeats 8000000 in
theorem place_calls {w : World} {S : Nat → Prop} {b : Nat} {cpu n : Int} {h : Hp} {a2 : Addr} (ha : WkAt w S b cpu h) (hr : Right h) (h0 : 0 ≤ cpu) (h1 : 4 * cpu + 4 ≤ h.mags.length) (n1 : 1 ≤ n) (n2 : n ≤ 64) (hE : w.cell? ⟨2, 0, none⟩ = some (.iface 289 (.pointer (some a2)))) (hG : ∀ q, S q ∨ q = b → q ≠ 2) :
    Calls Tryz.prog 93 #[.pointer (some ⟨b, 0, none⟩), .int .i64 n] w (PlaceR w S b cpu a2 (placeHp h cpu n)) := by
  have HA := Lib.hid ha
  have HRi := Lib.hid hr
  have HE := Lib.hid hE
  have HG := Lib.hid hG
  have hEl := World.block_lt_of_cell? _ _ hE
  clear hr hE hG ha
  go_enter Tryz.func93, Tryz.ntmps93
  go_wp2_with fail
  refine (takeBlock_calls HA.out HRi.out h0 h1 n1 n2 HE.out).mono ?_
  rcases hone : onceHp h cpu n with _ | ⟨x, g⟩
  · have HO := Lib.hid (show placeHp h cpu n = onceHp (drainHp h) cpu n by unfold placeHp; rw [hone])
    clear hone
    rintro e w1 ⟨rfl, hw1⟩
    have HGe : ∀ q, ((S q ∧ q < w.heap.size) ∨ w.heap.size ≤ q) ∨ q = b → q ≠ 2 := fun q hq => by
      rcases hq with (hq | hq) | hq
      · exact HG.out q (.inl hq.1)
      · intro e; have hEl' : 2 < w.heap.size := hEl; omega
      · exact HG.out q (.inr hq)
    have hE1 : w1.cell? ⟨2, 0, none⟩ = some (.iface 289 (.pointer (some a2))) := by
      have hk := hw1.turn.block 2 hEl (fun hq => HG.out _ hq rfl)
      have h9 := HE.out
      unfold World.cell? at h9 ⊢
      rw [hk]; exact h9
    have HE1 := Lib.hid hE1
    have HW1 := Lib.hid hw1
    have HGE := Lib.hid HGe
    have hr1 := HRi.out.drain
    clear hw1 HGe
    unfold refV
    go_wp2_with fail
    refine (is_wrap6 _ _ _).mono ?_
    rintro e w2 ⟨rfl, hb2⟩
    have ha2 := HW1.out.at_.below hb2
    have HB2 := Lib.hid hb2
    have hE2 := (hb2.cell (p := ⟨2, 0, none⟩) (World.block_lt_of_cell? _ _ HE1.out)).trans HE1.out
    have HE2 := Lib.hid hE2
    have HA2 := Lib.hid ha2
    obtain ⟨_, _, _, _, _, _, hR2, _⟩ := id ha2.ex
    have q0 := hR2.cell 0
    have ql := hR2.lt
    simp at q0
    have kB : Below w2.heap.size w2 w2.drew := (Below.refl w2.heap.size w2).drew
    have HRd := Lib.hid hr1
    clear hb2 ha2 hE1 hE2 hR2 hr1
    go_wp2_with fail
    go_region_law (first
      | (go_simp; go_at_call 65; refine (heap_calls (HA2.out.below kB) HRi.out).mono ?_; rintro e w3 ⟨pa, pn, pc, wa, wn, wc, ma, mn, mc, rfl, oH, bH⟩; have b3 : Below w2.heap.size w2 w3 := kB.trans bH; have q3 := (b3.cell (p := ⟨b, 0, none⟩) ql).trans q0)
      | (go_simp; go_at_call 160; refine (drained_calls ⟨oH.rd, HRi.out.short⟩ HRi.out.ok).mono ?_; rintro e w4 hm; obtain ⟨pa', pn', pc', wa', wn', wc', ma', mn', mc', rfl, oD, bD⟩ := hm.open_; have b4 : Below w2.heap.size w2 w4 := b3.trans (bD.mono b3.size); have q4 := (b4.cell (p := ⟨b, 0, none⟩) ql).trans q0)
      | (go_simp; go_at_call 61; refine (workOn_calls ⟨oD.rd, HRd.out.short⟩ HRd.out.ok).mono ?_; rintro e w5 ⟨b', rfl, hb', wk5, b5⟩; have b25 : Below w2.heap.size w2 w5 := b4.trans (b5.mono b4.size); have hb2' : w2.heap.size ≤ b' := Nat.le_trans b4.size hb'; obtain ⟨xa, xn, xc, ya, yn, yc, za, zn, zc, hRn, ⟨v1, v2, v3, hRo⟩, hMv⟩ := HA2.out.moved b25 (wk5.mono (fun q hq _ => ⟨Nat.le_trans b4.size hq.1, hq.2⟩) (fun hq => hq.2 rfl)) hb2'; have n0 := hRn.cell 0; have n1' := hRn.cell 1; have n2' := hRn.cell 2; have n3 := hRn.cell 3; have nl := hRn.lt; have o0 := hRo.cell 0; have o1 := hRo.cell 1; have o2 := hRo.cell 2; have o3 := hRo.cell 3; have ol := hRo.lt; have f0 := frozen_of_row _ _ 0 _ _ hRo; have f1 := frozen_of_row _ _ 1 _ _ hRo; have f2 := frozen_of_row _ _ 2 _ _ hRo; have f3 := frozen_of_row _ _ 3 _ _ hRo; simp at n0 n1' n2' n3 o0 o1 o2 o3; have HMv := Lib.hid hMv; clear hMv hRn hRo wk5))
    all_goals
      generalize (((w5.setCell ⟨b, 0, none⟩ (.int .i64 cpu)).setCell ⟨b, 1, none⟩ (.slice xa xn xc)).setCell ⟨b, 2, none⟩ (.slice ya yn yc)).setCell ⟨b, 3, none⟩ (.slice za zn zc) = X at HMv ⊢
      have hWX : Works w S b cpu (drainHp h) X := (HW1.out.below HB2.out).trans (by
        refine ⟨HMv.out.at_.mono (fun q hq _ => ?_) (fun hq => ?_), HMv.out.turn⟩
        · exact hq
        · exact HMv.out.at_.out hq)
      have hEX := cell_turn hWX.turn HE.out (fun hq => HG.out _ hq rfl)
      have hmd : 4 * cpu + 4 ≤ (drainHp h).mags.length := by simpa [drainHp] using h1
      have HWX := Lib.hid hWX
      have HEX := Lib.hid hEX
      clear hWX hEX HMv q0 ql q3 q4 n0 n1' n2' n3 nl o0 o1 o2 o3 ol f0 f1 f2 f3 oH bH oD bD b3 b4 b5 b25 kB
      go_wp2_with fail
      refine (takeBlock_calls HWX.out.at_ HRd.out h0 hmd n1 n2 HEX.out).mono ?_
      rcases hone2 : onceHp (drainHp h) cpu n with _ | ⟨x, g⟩
      · have HO2 := Lib.hid (HO.out.trans hone2)
        clear hone2
        rintro e w6 ⟨rfl, hw6⟩
        have HW6 := Lib.hid (HWX.out.trans hw6)
        clear hw6
        unfold refV
        go_wp2_with fail
        go_ret2
        rw [HO2.out]
        exact ⟨rfl, _, HW6.out⟩
      · have HO2 := Lib.hid (HO.out.trans hone2)
        clear hone2
        rintro e w6 ⟨rfl, hw6⟩
        have HW6 := Lib.hid (HWX.out.trans hw6)
        clear hw6
        go_wp2_with fail
        go_ret2
        rw [HO2.out]
        exact ⟨rfl, HW6.out⟩
  · have HO := Lib.hid (show placeHp h cpu n = some (x, g) by unfold placeHp; rw [hone])
    clear hone
    rintro e w1 ⟨rfl, hw1⟩
    have hE1 : w1.cell? ⟨2, 0, none⟩ = some (.iface 289 (.pointer (some a2))) := by
      have hk := hw1.turn.block 2 hEl (fun hq => HG.out _ hq rfl)
      have h9 := HE.out
      unfold World.cell? at h9 ⊢
      rw [hk]; exact h9
    have HW1 := Lib.hid hw1
    clear hw1
    go_wp2_with fail
    refine (is_nil6 _ _).mono ?_
    rintro e w2 ⟨rfl, rfl⟩
    go_wp2_with fail
    go_ret2
    rw [HO.out]
    exact ⟨rfl, HW1.out⟩
end Go.Proofs.YthpamclljdcjpaaGreatDoor

/- Chapter 6 of the program: whether there is a place. -/
namespace Go.Proofs.YthpamclljdcjpaaGreatDoor
open Go.RowKit

set_option maxRecDepth 100000 in
set_option maxHeartbeats 4000000 in
theorem isPlaced_calls {pa wa ma : Option Addr} {pn pc wn wk mn mc : Nat} {n : Int} {h : Hp} {S : Nat → Prop} {w : World} {a2 : Addr} (hk : HpK w S pa pn pc wa wn wk ma mn mc h) (hE : w.cell? ⟨2, 0, none⟩ = some (.iface 289 (.pointer (some a2)))) :
    Calls Tryz.prog 24 #[.agg #[.slice pa pn pc, .slice wa wn wk, .slice ma mn mc], .int .i64 n] w fun e w' => e = .returned (.bool (isPlaced h n)) ∧ Below w.heap.size w w' := by
  have HK := Lib.hid hk
  have HE := Lib.hid hE
  obtain ⟨V, hV⟩ : ∃ V, V = w.alloc (.cells #[.slice pa pn pc, .slice wa wn wk, .slice ma mn mc] 28) := ⟨_, rfl⟩
  have hBV : Below w.heap.size w V := by rw [hV]; exact (Below.refl _ _).alloc (Nat.le_refl _) _
  have R0 : Row V w.heap.size 28 #[.slice pa pn pc, .slice wa wn wk, .slice ma mn mc] := by rw [hV]; exact heap_alloc_new w _
  have HBV := Lib.hid hBV
  have HR0 := Lib.hid R0
  have q0 := R0.cell 0
  have q1 := R0.cell 1
  have q2 := R0.cell 2
  have ql := R0.lt
  simp at q0 q1 q2
  clear hk hE hBV R0
  go_enter Tryz.func24, Tryz.ntmps24
  go_upto_region 1 with (fail)
  rw [← hV]
  clear hV
  go_wp2_with fail
  refine (heapFault_calls (HK.out.r.below HBV.out) HK.out.s).mono ?_
  by_cases hf : heapFault h = 0
  · rw [hf]
    rintro e w1 ⟨rfl, b1⟩
    have HR := Lib.hid (right_of hf)
    have HF := Lib.hid hf
    have HB1 := Lib.hid (HBV.out.trans (b1.mono HBV.out.size))
    have R1 := HR0.out.below b1
    have z0 := R1.cell 0
    have z1 := R1.cell 1
    have z2 := R1.cell 2
    have zl := R1.lt
    simp at z0 z1 z2
    clear b1 hf q0 q1 q2 ql
    rcases hw : within 1 64 [n] with _ | _
    · have HW := Lib.hid (show isPlaced h n = false by unfold isPlaced; rw [hw]; simp)
      have HWi := Lib.hid hw
      clear hw
      go_wp2_with fail
      refine (allWithin_calls (Ints.one (by simp)) (by omega)).mono ?_
      rw [HWi.out]
      rintro e w2 ⟨rfl, rfl⟩
      go_wp2_with fail
      go_ret
      rw [HW.out]
      exact ⟨rfl, HB1.out.alloc HB1.out.size _⟩
    · have HWi := Lib.hid hw
      have HP := Lib.hid (show isPlaced h n = (placeHp h 0 n).isSome by unfold isPlaced; simp [hw, HF.out])
      obtain ⟨n1, n2⟩ := within_range hw
      clear hw
      go_wp2_with fail
      refine (allWithin_calls (Ints.one (by simp)) (by omega)).mono ?_
      rw [HWi.out]
      rintro e w2 ⟨rfl, rfl⟩
      have HB2 := Lib.hid (HB1.out.alloc HB1.out.size (.cells #[.int .i64 n] 2))
      go_wp2_with fail
      refine (workOn_calls (cpu := 0) ((HK.out.below HB2.out)) HF.out).mono ?_
      rintro e w3 ⟨b, rfl, hb, hwk, b3⟩
      have HB3 := Lib.hid (HB2.out.trans (b3.mono HB2.out.size))
      have hE3 := (HB3.out.cell (p := ⟨2, 0, none⟩) (World.block_lt_of_cell? _ _ HE.out)).trans HE.out
      have hEl : 2 < w.heap.size := World.block_lt_of_cell? _ _ HE.out
      have hG : ∀ q, ((w1.alloc (.cells #[.int .i64 n] 2)).heap.size ≤ q ∧ q ≠ b) ∨ q = b → q ≠ 2 := fun q hq => by
        have := HB2.out.size
        rcases hq with hq | hq
        · omega
        · omega
      have hlen : 4 * (0 : Int) + 4 ≤ h.mags.length := by have := (mags_small HF.out).2.1; omega
      have HWk := Lib.hid hwk
      have HE3 := Lib.hid hE3
      have HG := Lib.hid hG
      have HbB := Lib.hid hb
      clear hwk b3 hE3 hG hb z0 z1 z2 zl
      go_wp2_with fail
      refine (place_calls HWk.out HR.out (by omega) hlen n1 n2 HE3.out HG.out).mono ?_
      rcases hp : placeHp h 0 n with _ | ⟨x, g⟩
      · rintro e w4 ⟨rfl, g, hw4⟩
        have HB4 := Lib.hid (hw4.turn.below HB3.out HB3.out.size (fun q hq => by
          have := HB2.out.size
          have := HbB.out
          rcases hq with hq | hq <;> omega))
        have HN := Lib.hid (show isPlaced h n = false by rw [HP.out, hp]; rfl)
        clear hw4 hp
        unfold refV
        go_wp2_with fail
        go_ret
        rw [HN.out]
        exact ⟨rfl, HB4.out⟩
      · rintro e w4 ⟨rfl, hw4⟩
        have HB4 := Lib.hid (hw4.turn.below HB3.out HB3.out.size (fun q hq => by
          have := HB2.out.size
          have := HbB.out
          rcases hq with hq | hq <;> omega))
        have HN := Lib.hid (show isPlaced h n = true by rw [HP.out, hp]; rfl)
        clear hw4 hp
        go_wp2_with fail
        go_ret
        rw [HN.out]
        exact ⟨rfl, HB4.out⟩
  · have HW := Lib.hid (show isPlaced h n = false by unfold isPlaced; simp [hf])
    generalize heapFault h = p at hf
    have e1 : (p == 0) = false := by simpa using hf
    have e2 : (p != 0) = true := by simpa using hf
    rintro e w1 ⟨rfl, b1⟩
    have HB1 := Lib.hid (HBV.out.trans (b1.mono HBV.out.size))
    clear b1 hf
    go_wp2_with fail
    go_ret
    rw [HW.out]
    exact ⟨rfl, HB1.out⟩
end Go.Proofs.YthpamclljdcjpaaGreatDoor

/- The source of draws, which every chapter's draws read: its bytes, one draw, one pick. -/
namespace Go.Proofs.YthpamclljdcjpaaGreatDoor
open Go.RowKit

/-- The slice of n bytes at 'ao' reads as bs. -/
def Bytes (w : World) (ao : Option Addr) (n : Nat) (bs : List Int) : Prop :=
  bs.length = n ∧ (0 < n → ∃ b off, ao = some ⟨b, off, none⟩ ∧ b < w.heap.size ∧ ∀ j, j < n → w.cell? ⟨b, off + j, none⟩ = some (.int .u8 (bs.getD j 0)) ∧ 0 ≤ bs.getD j 0 ∧ bs.getD j 0 ≤ 255)

theorem Bytes.below {w w' : World} {ao : Option Addr} {n : Nat} {bs : List Int} (h : Bytes w ao n bs) (hb : Below w.heap.size w w') : Bytes w' ao n bs := by
  refine ⟨h.1, fun hi => ?_⟩
  obtain ⟨b, off, rfl, hlt, hc⟩ := h.2 hi
  exact ⟨b, off, rfl, Nat.lt_of_lt_of_le hlt hb.size, fun j hj => by rw [hb.cell (p := ⟨b, off + j, none⟩) hlt]; exact hc j hj⟩
theorem Bytes.none_ (w : World) : Bytes w none 0 [] := ⟨rfl, fun h => absurd h (by omega)⟩
theorem Bytes.of_row {w : World} {x : Addr} {len cap : Nat} {zs : List Int} (hl : len ≤ cap) (hz : zs.length = cap) (hc : ∀ i, i < zs.length → w.cell? (x.add i) = some (.int .u8 (zs.getD i 0))) (hw : ∀ n ∈ zs, (Lit.int .u8 n).wf = true) : Bytes w (some x) len (zs.take len) := by
  refine ⟨by simp; omega, fun h0 => ?_⟩
  obtain ⟨b, off, rfl, hcell⟩ := ints_at hc (by omega)
  refine ⟨b, off, rfl, ?_, fun j hj => ?_⟩
  · exact World.block_lt_of_cell? w _ (hcell 0 (by omega))
  · have hr := byte_range (hw _ (List.getElem_mem (show j < zs.length by omega)))
    rw [hcell j (by omega)]
    have e1 : zs.getD j 0 = zs[j] := by simp [List.getD, show j < zs.length by omega]
    have e2 : (zs.take len).getD j 0 = zs[j] := by simp [List.getD, hj, show j < zs.length by omega]
    rw [e1, e2]
    exact ⟨rfl, hr⟩

/-- The source of draws in block p: its bytes, and how far it is. -/
def Src (w : World) (p k : Nat) : Prop :=
  ∃ ao n c bs, Row w p 165 #[.slice ao n c, .int .i64 (k : Int)] ∧ Bytes w ao n bs ∧ n ≤ 1048576 ∧ ∀ a, ao = some a → 0 < n → a.block < p

theorem Src.below {w w' : World} {p k : Nat} (h : Src w p k) (hb : Below w.heap.size w w') : Src w' p k := by
  obtain ⟨ao, n, c, bs, h1, h2, h3, h4⟩ := h
  exact ⟨ao, n, c, bs, h1.below hb, h2.below hb, h3, h4⟩
theorem Src.lt {w : World} {p k : Nat} (h : Src w p k) : p < w.heap.size := by
  obtain ⟨ao, n, c, bs, h1, _⟩ := h
  exact h1.lt
/-- The source behind one draw. -/
theorem Src.stored {w : World} {p k : Nat} (h : Src w p k) : Src (w.setCell ⟨p, 1, none⟩ (.int .i64 ((k + 1 : Nat) : Int))) p (k + 1) ∧ w.grownBy (w.setCell ⟨p, 1, none⟩ (.int .i64 ((k + 1 : Nat) : Int))) (some p) := by
  obtain ⟨ao, n, c, bs, h1, h2, h3, h4⟩ := h
  refine ⟨⟨ao, n, c, bs, ?_, ⟨h2.1, fun h0 => ?_⟩, h3, h4⟩, ⟨rfl, rfl, rfl, by simp, fun i _ hne => heap_setCell_other w ⟨p, 1, none⟩ i _ (fun e => hne (by simp [e]))⟩⟩
  · have := heap_setCell_same w p 1 _ _ (.int .i64 ((k + 1 : Nat) : Int)) h1
    simpa [Row] using this
  · obtain ⟨b, off, rfl, hlt, hc⟩ := h2.2 h0
    have hne := h4 _ rfl h0
    refine ⟨b, off, rfl, by simpa using hlt, fun j hj => ?_⟩
    rw [World.cell?_of_block (w := w) (a := ⟨b, off + j, none⟩) (heap_setCell_other w _ b _ (by simp at hne ⊢; omega))]
    exact hc j hj
theorem Src.drewN {w : World} {p k : Nat} (h : Src w p k) (n : Nat) : Src (w.drewN n) p k := h

theorem grown_drewN {a b : World} {row : Option Nat} (h : a.grownBy b row) (n : Nat) : a.grownBy (b.drewN n) row := ⟨h.os, h.tape, h.output, h.size, h.block⟩
/-- What one draw leaves: a number of the range, the source one further, nothing else. -/
def Draws (w : World) (p k : Nat) (n : Int) (e : Ending) (w' : World) : Prop := ∃ r : Int, e = .returned (.int .i64 r) ∧ 0 ≤ r ∧ (1 ≤ n → r < n) ∧ (n < 1 → r = 0) ∧ Src w' p (k + 1) ∧ w.grownBy w' (some p)

set_option maxHeartbeats 800000 in
theorem next_calls {p k : Nat} {n : Int} {w : World} (hs : Src w p k) (hk : k ≤ 4294967296) :
    Calls Tryz.prog 105 #[.pointer (some ⟨p, 0, none⟩), .int .i64 n] w (Draws w p k n) := by
  have HST := Lib.hid hs.stored
  obtain ⟨ao, m, c, bs, hrow, hby, hm, hne⟩ := hs
  have c0 := hrow.cell 0
  have c1 := hrow.cell 1
  simp at c0 c1
  have hfr : w.frozen? ⟨p, 1, none⟩ = false := frozen_of_row w p 1 _ _ hrow
  by_cases hn : n < 1
  · go_enter Tryz.func105, Tryz.ntmps105
    go_wp2
    go_ret
    exact ⟨0, rfl, Int.le_refl _, fun h => absurd hn (by omega), fun _ => rfl, HST.out.1, HST.out.2⟩
  · by_cases h0 : m = 0
    · subst h0
      go_enter Tryz.func105, Tryz.ntmps105
      go_wp2_with fail
      go_ret
      exact ⟨_, rfl, Int.emod_nonneg _ (by omega), fun _ => Int.emod_lt_of_pos _ (by omega), fun h => absurd h (by omega), HST.out.1, HST.out.2⟩
    · obtain ⟨b, off, rfl, hb, hc⟩ := hby.2 (by omega)
      have hpb : b ≠ p := by have := hne _ rfl (by omega); simp at this; omega
      have hm0 : ((m : Int) == 0) = false := by simp; omega
      have hx0 := hc (k % m) (Nat.mod_lt _ (by omega))
      have hx1 := hc ((k + 1) % m) (Nat.mod_lt _ (by omega))
      have hx2 := hc ((k + 2) % m) (Nat.mod_lt _ (by omega))
      obtain ⟨d0, hd0⟩ : ∃ d, d = bs.getD (k % m) 0 := ⟨_, rfl⟩
      obtain ⟨d1, hd1⟩ : ∃ d, d = bs.getD ((k + 1) % m) 0 := ⟨_, rfl⟩
      obtain ⟨d2, hd2⟩ : ∃ d, d = bs.getD ((k + 2) % m) 0 := ⟨_, rfl⟩
      rw [← hd0] at hx0; rw [← hd1] at hx1; rw [← hd2] at hx2
      clear hd0 hd1 hd2 hc hby hne
      obtain ⟨hx0, y0, y0'⟩ := hx0
      obtain ⟨hx1, y1, y1'⟩ := hx1
      obtain ⟨hx2, y2, y2'⟩ := hx2
      have lt0 : (k : Int) % (m : Int) < m := Int.emod_lt_of_pos _ (by omega)
      have ge0 : 0 ≤ (k : Int) % (m : Int) := Int.emod_nonneg _ (by omega)
      have lt1 : ((k : Int) + 1) % (m : Int) < m := Int.emod_lt_of_pos _ (by omega)
      have ge1 : 0 ≤ ((k : Int) + 1) % (m : Int) := Int.emod_nonneg _ (by omega)
      have lt2 : ((k : Int) + 2) % (m : Int) < m := Int.emod_lt_of_pos _ (by omega)
      have ge2 : 0 ≤ ((k : Int) + 2) % (m : Int) := Int.emod_nonneg _ (by omega)
      have q0 : 0 ≤ (k : Int) / (m : Int) := Int.ediv_nonneg (by omega) (by omega)
      have q1 : (k : Int) / (m : Int) ≤ k := Int.ediv_le_self _ (by omega)
      by_cases hn2 : n ≤ 200
      · go_enter Tryz.func105, Tryz.ntmps105
        go_wp2_with fail
        go_quiet (fail)
        obtain ⟨v, hv⟩ : ∃ v, v = d0 + (k : Int) / (m : Int) * 37 := ⟨_, rfl⟩
        have hv0 : 0 ≤ v := by omega
        have hv1 : v ≤ 255 + 4294967296 * 37 := by omega
        rw [← hv]
        clear hv
        go_wp2_with fail
        go_ret
        exact ⟨_, rfl, Int.emod_nonneg _ (by omega), fun _ => Int.emod_lt_of_pos _ (by omega), fun h => absurd h (by omega), HST.out.1.drewN _, grown_drewN HST.out.2 _⟩
      · by_cases hn3 : n ≤ 60000
        · go_enter Tryz.func105, Tryz.ntmps105
          go_wp2_with fail
          go_quiet (fail)
          obtain ⟨v, hv⟩ : ∃ v, v = d0 + (k : Int) / (m : Int) * 37 := ⟨_, rfl⟩
          have hv0 : 0 ≤ v := by omega
          have hv1 : v ≤ 255 + 4294967296 * 37 := by omega
          rw [← hv]
          clear hv
          go_wp2_with fail
          go_quiet (fail)
          obtain ⟨u, hu⟩ : ∃ u, u = v * 251 + d1 * 13 + (k : Int) := ⟨_, rfl⟩
          have hu0 : 0 ≤ u := by omega
          rw [← hu]
          clear hu
          go_wp2_with fail
          go_ret
          exact ⟨_, rfl, Int.emod_nonneg _ (by omega), fun _ => Int.emod_lt_of_pos _ (by omega), fun h => absurd h (by omega), HST.out.1.drewN _, grown_drewN HST.out.2 _⟩
        · go_enter Tryz.func105, Tryz.ntmps105
          go_wp2_with fail
          go_quiet (fail)
          obtain ⟨v, hv⟩ : ∃ v, v = d0 + (k : Int) / (m : Int) * 37 := ⟨_, rfl⟩
          have hv0 : 0 ≤ v := by omega
          have hv1 : v ≤ 255 + 4294967296 * 37 := by omega
          rw [← hv]
          clear hv
          go_wp2_with fail
          go_quiet (fail)
          obtain ⟨u, hu⟩ : ∃ u, u = v * 251 + d1 * 13 + (k : Int) := ⟨_, rfl⟩
          have hu0 : 0 ≤ u := by omega
          have hu1 : u ≤ 1125899906842624 := by omega
          rw [← hu]
          clear hu
          go_wp2_with fail
          go_quiet (fail)
          obtain ⟨z, hz⟩ : ∃ z, z = u * 257 + d2 := ⟨_, rfl⟩
          have hz0 : 0 ≤ z := by omega
          rw [← hz]
          clear hz
          go_wp2_with fail
          go_ret
          exact ⟨_, rfl, Int.emod_nonneg _ (by omega), fun _ => Int.emod_lt_of_pos _ (by omega), fun h => absurd h (by omega), HST.out.1.drewN _, grown_drewN HST.out.2 _⟩

/-- The source is kept where another block is written. -/
theorem Src.apart {w w' : World} {p k g : Nat} (h : Src w p k) (hg : w.grownBy w' (some g)) (hne : p < g) : Src w' p k := by
  obtain ⟨ao, n, c, bs, h1, h2, h3, h4⟩ := h
  refine ⟨ao, n, c, bs, (hg.block p h1.lt (by simp; omega)).trans h1, ⟨h2.1, fun h0 => ?_⟩, h3, h4⟩
  obtain ⟨b, off, rfl, hlt, hc⟩ := h2.2 h0
  have hb := h4 _ rfl h0
  refine ⟨b, off, rfl, Nat.lt_of_lt_of_le hlt hg.size, fun j hj => ?_⟩
  rw [World.cell?_of_block (w := w) (a := ⟨b, off + j, none⟩) (hg.block b hlt (by simp at hb ⊢; omega))]
  exact hc j hj
theorem grown_new {w0 w w' : World} {p g : Nat} (h : w0.grownBy w (some p)) (hg : w.grownBy w' (some g)) (hb : w0.heap.size ≤ g) : w0.grownBy w' (some p) :=
  ⟨hg.os.trans h.os, hg.tape.trans h.tape, hg.output.trans h.output, Nat.le_trans h.size hg.size, fun i hi hne => (hg.block i (Nat.lt_of_lt_of_le hi h.size) (by simp; omega)).trans (h.block i hi hne)⟩

/-- What a pick leaves: one of the list. -/
def Picks (w : World) (p k : Nat) (xs : List Int) (e : Ending) (w' : World) : Prop := ∃ r : Int, e = .returned (.int .i64 r) ∧ r ∈ xs ∧ Src w' p (k + 1) ∧ w.grownBy w' (some p)

theorem pick_calls {p k n c : Nat} {ao : Option Addr} {xs : List Int} {w : World} (hs : Src w p k) (hk : k ≤ 4294967296) (hi : Ints w ao n xs) (h0 : 0 < n) (hn : n ≤ 4294967296) (hne : ∀ a, ao = some a → a.block ≠ p) :
    Calls Tryz.prog 59 #[.pointer (some ⟨p, 0, none⟩), .slice ao n c] w (Picks w p k xs) := by
  have HL := Lib.hid hi.1
  go_enter Tryz.func59, Tryz.ntmps59
  go_wp2_with fail
  refine (next_calls hs hk).mono ?_
  rintro e w1 ⟨r, rfl, r0, r1, _, hs1, hg1⟩
  obtain ⟨m, rfl⟩ : ∃ m : Nat, r = m := ⟨r.toNat, by omega⟩
  have hm : m < n := by have := r1 (by omega); omega
  have hi1 := hi.grown hg1 (fun a ha _ e => hne a ha (by injection e with e; exact e.symm))
  obtain ⟨b, off, rfl, hb, hc⟩ := hi1.at_ hm
  have hmx : m < xs.length := by rw [HL.out]; exact hm
  have HS := Lib.hid hs1
  have HG := Lib.hid hg1
  clear hs1 hg1 r1 hi1
  go_wp2_with fail
  go_ret
  exact ⟨_, rfl, List.getElem_mem hmx, HS.out, HG.out⟩

theorem Ints.lit {w : World} {t : TypeId} {b n : Nat} {xs : List Int} (hb : b = w.heap.size) (hn : xs.length = n) : Ints (w.alloc (.cells (xs.map (Value.int .i64)).toArray t)) (some ⟨b, 0, none⟩) n xs := by
  subst hb
  refine ⟨hn, fun _ => ⟨w.heap.size, 0, rfl, by simp, fun j hj => ?_⟩⟩
  rw [Nat.zero_add, cell_of_row _ _ _ _ _ _ (heap_alloc_new w _)]
  simp [List.getD, hn.symm ▸ hj]

/-- A new source. -/
theorem source_calls {ao : Option Addr} {n c : Nat} {bs : List Int} {w : World} (hb : Bytes w ao n bs) (hn : n ≤ 1048576) :
    Calls Tryz.prog 54 #[.slice ao n c] w fun e w' => e = .returned (.pointer (some ⟨w.heap.size, 0, none⟩)) ∧ Src w' w.heap.size 0 ∧ Below w.heap.size w w' := by
  go_enter Tryz.func54, Tryz.ntmps54
  go_wp2
  go_ret
  refine ⟨rfl, ⟨ao, n, c, bs, heap_alloc_new w _, hb.below ((Below.refl _ _).alloc (Nat.le_refl _) _), hn, fun a ha h0 => ?_⟩, (Below.refl _ _).alloc (Nat.le_refl _) _⟩
  obtain ⟨b, off, rfl, hlt, _⟩ := hb.2 h0
  injection ha with ha
  subst ha
  exact hlt

theorem below_of_grown {w w1 w2 : World} (h : Below w.heap.size w w1) (hg : w1.grownBy w2 (some w.heap.size)) : Below w.heap.size w w2 := h.grown hg h.size (by intro k hk; simp at hk; omega)
end Go.Proofs.YthpamclljdcjpaaGreatDoor

/- The source of draws, further: one that begins later, and a chance. -/
namespace Go.Proofs.YthpamclljdcjpaaGreatDoor
open Go.RowKit

theorem later_calls {ao : Option Addr} {n c k : Nat} {bs : List Int} {w : World} (hb : Bytes w ao n bs) (hn : n ≤ 1048576) (hk : k ≤ 1000) :
    Calls Tryz.prog 106 #[.slice ao n c, .int .i64 (k : Int)] w fun e w' => e = .returned (.pointer (some ⟨w.heap.size, 0, none⟩)) ∧ Src w' w.heap.size (5 + 7 * k) ∧ Below w.heap.size w w' := by
  go_enter Tryz.func106, Tryz.ntmps106
  go_wp2
  go_ret
  refine ⟨rfl, ⟨ao, n, c, bs, heap_alloc_new w _, hb.below ((Below.refl _ _).alloc (Nat.le_refl _) _), hn, fun a ha h0 => ?_⟩, (Below.refl _ _).alloc (Nat.le_refl _) _⟩
  obtain ⟨b, off, rfl, hlt, _⟩ := hb.2 h0
  injection ha with ha
  subst ha
  exact hlt
/-- What a chance leaves. -/
def Chances (w : World) (p k : Nat) (e : Ending) (w' : World) : Prop := ∃ b : Bool, e = .returned (.bool b) ∧ Src w' p (k + 1) ∧ w.grownBy w' (some p)
theorem chance_calls {p k : Nat} {n : Int} {w : World} (hs : Src w p k) (hk : k ≤ 4294967296) :
    Calls Tryz.prog 57 #[.pointer (some ⟨p, 0, none⟩), .int .i64 n] w (Chances w p k) := by
  go_enter Tryz.func57, Tryz.ntmps57
  go_wp2_with fail
  refine (next_calls hs hk).mono ?_
  rintro e w1 ⟨r, rfl, _, _, _, hs1, hg1⟩
  have F := Lib.hid (And.intro hs1 hg1)
  clear hs1 hg1
  go_wp2_with fail
  go_ret
  exact ⟨_, rfl, F.out.1, F.out.2⟩
end Go.Proofs.YthpamclljdcjpaaGreatDoor
