/- Joined texts (Impl5e, Impl5f, Impl5g, Spec5d, Law5, Args4, Args5, Spec5e, Spec5f): steps of the proofs of chapter 5's laws. -/
import Derived.Deep.DeepCutAuto
import Derived.Deep.CutRange
import Derived.BigRegion
import Derived.Lib.SmallJoins
import Derived.Deep.Slices
import Derived.Deep.Fields
import Derived.ChangeSame
import Derived.OpenShut
import Derived.Deep.Strs
import Derived.Test.YtcnpckaacigbfaaM1
import Derived.Test.YtcnpckaacigbfaaM5
import Derived.Test.YtcnpckaacigbfaaM6
import Derived.Test.YtcnpckaacigbfaaM7
set_option linter.unusedVariables false
set_option linter.unusedSimpArgs false
/- Chapter 5 of the program: heaps with so many pages. -/
namespace Go.Proofs.Ytcnpckaacigbfaa
open Go.RowKit

theorem infoPg : (Try.prog.info? 60).map (fun i => (i.zero, i.size, i.bytes)) = some (some (.agg #[.int .i64 0, .int .i64 0, .slice none 0 0, .int .i64 0]), 4, 48) := by kernel_rfl
theorem infoMg : (Try.prog.info? 23).map (fun i => (i.zero, i.size, i.bytes)) = some (some (.slice none 0 0), 1, 24) := by kernel_rfl
/-- Two slices, newly made, of pages and of words. -/
def Made2 (W : World) (p q : Nat) (CP CW : Array Value) (vp vw : Value) (wx : World) : Prop :=
  ∃ a b, vp = .slice (some ⟨a, 0, none⟩) p p ∧ vw = .slice (some ⟨b, 0, none⟩) q q ∧ a ≠ b ∧ W.heap.size ≤ a ∧ W.heap.size ≤ b ∧ Row wx a 60 CP ∧ Row wx b 2 CW ∧ Below W.heap.size W wx

theorem Row.drew {w : World} {b : Nat} {t : TypeId} {cs : Array Value} (h : Row w b t cs) : Row w.drew b t cs := h
theorem made2_pw (V : World) (p q : Nat) (CP CW : Array Value) : Made2 V p q CP CW (.slice (some ⟨V.heap.size, 0, none⟩) p p) (.slice (some ⟨V.heap.size + 1, 0, none⟩) q q) ((V.alloc (.cells CP 60)).alloc (.cells CW 2)).drew := by
  refine ⟨_, _, rfl, rfl, by omega, Nat.le_refl _, by omega, ?_, ?_, ?_⟩
  · exact Row.drew (Row.below (heap_alloc_new V _) ((Below.refl _ _).alloc (Nat.le_refl _) _))
  · have := heap_alloc_new (V.alloc (.cells CP 60)) (.cells CW 2)
    exact Row.drew (by simpa [Row] using this)
  · exact ((((Below.refl _ _).alloc (Nat.le_refl _) _).alloc (by simp) _)).drew
theorem made2_wp (V : World) (p q : Nat) (CP CW : Array Value) : Made2 V p q CP CW (.slice (some ⟨V.heap.size + 1, 0, none⟩) p p) (.slice (some ⟨V.heap.size, 0, none⟩) q q) ((V.alloc (.cells CW 2)).alloc (.cells CP 60)).drew := by
  refine ⟨_, _, rfl, rfl, by omega, by omega, Nat.le_refl _, ?_, ?_, ?_⟩
  · have := heap_alloc_new (V.alloc (.cells CW 2)) (.cells CP 60)
    exact Row.drew (by simpa [Row] using this)
  · exact Row.drew (Row.below (heap_alloc_new V _) ((Below.refl _ _).alloc (Nat.le_refl _) _))
  · exact ((((Below.refl _ _).alloc (Nat.le_refl _) _).alloc (by simp) _)).drew

set_option maxRecDepth 100000 in
set_option maxHeartbeats 2000000 in
theorem withPages_calls {pa wa ma : Option Addr} {pn pc wn wk mn mc p : Nat} {h : Hp} {S : Nat → Prop} {w : World} (ho : HpO w S (.slice pa pn pc) pn (.slice wa wn wk) wn (.slice ma mn mc) mn h) (hp : p ≤ 40) (hS : ∀ k, S k → k < w.heap.size) :
    Calls Try.prog 52 #[.agg #[.slice pa pn pc, .slice wa wn wk, .slice ma mn mc], .int .i64 p] w fun e w' => ∃ vp vw nw, e = .returned (.agg #[vp, vw, .slice ma mn mc]) ∧ HpO w' (fun k => S k ∨ w.heap.size ≤ k) vp p vw nw (.slice ma mn mc) mn (fitHp h p) ∧ Below w.heap.size w w' := by
  obtain ⟨ip, hip, hp0, hp1, hp2⟩ := info_parts infoPg
  obtain ⟨iw, hiw, hw0, hw1, hw2⟩ := info_parts info64
  obtain ⟨q, hq⟩ : ∃ q, q = p * 16 := ⟨_, rfl⟩
  obtain ⟨CP, hCP, hmk1⟩ := make_eq (P := Try.prog) Try.underlying29 hip hp0 hp1 rfl p (by rw [hp2]; omega) (by omega)
  obtain ⟨CW, hCW, hmk2⟩ := make_eq (P := Try.prog) Try.underlying23 hiw hw0 hw1 rfl q (by rw [hw2]; omega) (by omega)
  have hq2 : (p : Int) * 16 = (q : Int) := by omega
  have HCP := Lib.hid hCP
  have HCW := Lib.hid hCW
  have HO := Lib.hid ho
  have HQ := Lib.hid hq
  clear hq ho hCP hCW
  go_enter Try.func52, Try.ntmps52
  go_upto_region 1 with (fail)
  obtain ⟨V, hV⟩ : ∃ V, V = (w.alloc (.cells #[.slice pa pn pc, .slice wa wn wk, .slice ma mn mc] 31)).alloc (.cells #[.slice none 0 0, .slice none 0 0, .slice none 0 0] 31) := ⟨_, rfl⟩
  rw [← hV]
  have HV := Lib.hid hV
  clear hV
  go_cut [5, 6] (fun vp vw wx => Made2 V p q CP CW vp vw wx)
  case first =>
    go_region
    · go_wp2_with fail
      go_meet
      case rel => exact made2_pw V p q CP CW
    · go_wp2_with fail
      go_meet
      case rel => exact made2_wp V p q CP CW
  case rest =>
    obtain ⟨a, b, rfl, rfl, hab, ha, hb, hRa, hRb, hBV⟩ := hcut
    have hB0 : Below w.heap.size w wc := by
      refine Below.trans ?_ (hBV.mono (by rw [HV.out]; simp; omega))
      rw [HV.out]
      exact ((Below.refl _ _).alloc (Nat.le_refl _) _).alloc (by simp) _
    have hVs : V.heap.size = w.heap.size + 2 := by rw [HV.out]; simp
    have hR0 : Row wc w.heap.size 31 #[.slice pa pn pc, .slice wa wn wk, .slice ma mn mc] := by
      refine (hBV.block _ (by omega)).trans ?_
      rw [HV.out]
      exact (Row.below (heap_alloc_new w _) ((Below.refl _ _).alloc (Nat.le_refl _) _))
    have hR1 : Row wc (w.heap.size + 1) 31 #[.slice none 0 0, .slice none 0 0, .slice none 0 0] := by
      refine (hBV.block _ (by omega)).trans ?_
      rw [HV.out]
      have := heap_alloc_new (w.alloc (.cells #[.slice pa pn pc, .slice wa wn wk, .slice ma mn mc] 31)) (.cells #[.slice none 0 0, .slice none 0 0, .slice none 0 0] 31)
      simpa using this
    obtain ⟨S1, S2, S3, h1, h2, h3, d1, d2, d3, e1, e2, e3⟩ := HO.out.ex
    have H1 := Lib.hid (h1.below hB0)
    have H2 := Lib.hid (h2.below hB0)
    have H3 := Lib.hid (h3.below hB0)
    have HD := Lib.hid (And.intro d1 (And.intro d2 (And.intro d3 (And.intro e1 (And.intro e2 e3)))))
    have HRa := Lib.hid hRa
    have HRb := Lib.hid hRb
    have HR1 := Lib.hid hR1
    have HB0 := Lib.hid hB0
    have q0 := hR0.cell 0
    have ql := hR0.lt
    simp at q0
    have HV2 := Lib.hid hVs
    have HSs := Lib.hid hS
    have ha' : w.heap.size + 2 ≤ a := by omega
    have hb' : w.heap.size + 2 ≤ b := by omega
    clear h1 h2 h3 d1 d2 d3 e1 e2 e3 hRa hRb hR1 hB0 hVs hBV hmk1 hmk2 hS ha hb hq2
    have hszP := Lib.hid (show (Try.prog.info? 60).map (·.size) = some KPage.sz by rw [hip, Option.map_some, hp1]; rfl)
    have hng := Lib.hid (show ¬ S1 a from fun hx => by have := HSs.out a (HD.out.1 a hx); omega)
    have hq640 : q ≤ 640 := by rw [HQ.out]; omega
    have hszW := Lib.hid (show (Try.prog.info? 2).map (·.size) = some KInt.sz by rw [hiw, Option.map_some, hw1]; rfl)
    have hngb := Lib.hid (show ¬ S2 b from fun hx => by have := HSs.out b (HD.out.2.1 b hx); omega)
    go_wp2_with (first
      | (with_reducible show wpList _ _ _ (Go.Oper.mk (some 15) (Go.Op.call _) _ _ _ _ :: _) _ _
         go_must (refine wpList_copy_fit (K := KPage) rfl (.tmp 12) (.tmp 14) 29 rfl 60 Try.underlying29 hszP.out one_page (m := p) (g := a) (n := pn) (c := pc) (ao := pa) (d := Pg.free) rfl rfl H1.out HRa.out HCP.out rfl (fun _ => KPage_own_mk (p := Pg.free) Own.nil) hng.out (by unfold maxLen; omega) ?_)
         intro w3 ho3 ht3
         have H31 := Lib.hid ho3
         have H32 := Lib.hid (H2.out.turn ht3 (fun k hk _ e => by have := HSs.out k (HD.out.2.1 k hk); omega))
         have H33 := Lib.hid (H3.out.turn ht3 (fun k hk _ e => by have := HSs.out k (HD.out.2.2.1 k hk); omega))
         have H3b := Lib.hid (ht3.row HRb.out (fun e => hab e.symm))
         have H3r := Lib.hid (ht3.row HR1.out (fun e => by omega))
         have hR3 := ht3.row hR0 (fun e => by omega)
         have HB3 := Lib.hid (ht3.below HB0.out (by have := HB0.out.size; omega) (fun k hk => by omega))
         have q1 := hR3.cell 1
         have q2 := hR3.cell 2
         have ql3 := hR3.lt
         simp at q1 q2
         clear ho3 ht3)
      | (with_reducible show wpList _ _ _ (Go.Oper.mk (some 19) (Go.Op.call _) _ _ _ _ :: _) _ _
         go_must (refine wpList_copy_fit (K := KInt) rfl (.tmp 16) (.tmp 18) 23 rfl 2 Try.underlying23 hszW.out one_int (m := q) (g := b) (n := wn) (c := wk) (ao := wa) (d := (0 : Int)) rfl rfl H32.out H3b.out HCW.out rfl (fun _ => rfl) hngb.out (by unfold maxLen; omega) ?_)
         intro w4 ho4 ht4
         have H41 := Lib.hid (H31.out.turn ht4 (fun k hk _ e => by
           rcases hk with hk | hk
           · have := HSs.out k (HD.out.1 k hk); omega
           · exact hab (hk.symm.trans e)))
         have H42 := Lib.hid ho4
         have H43 := Lib.hid (H33.out.turn ht4 (fun k hk _ e => by have := HSs.out k (HD.out.2.2.1 k hk); omega))
         have hres := ht4.row H3r.out (fun e => by omega)
         have hR4 := ht4.row hR3 (fun e => by omega)
         have HB4 := Lib.hid (ht4.below HB3.out (by have := HB3.out.size; omega) (fun k hk => by omega))
         have q5 := hR4.cell 2
         have ql4 := hR4.lt
         simp at q5
         clear ho4 ht4)
      | (refine wpList_store_row rfl 31 _ _ rfl (w.heap.size + 1) _ rfl rfl _ _ hres (by kernel_rfl) (by rfl) (by simp [Value.oneCell']) ?_))
    refine bodyPost_ret (results_cell_row rfl _ _ (w.heap.size + 1) _ _ _ _ rfl (setRow_heap _ _ _ _ _ _ hres) Try.underlying31 rfl (by kernel_rfl)) rfl ?_
    have L1 : ∀ k, S1 k → k < w.heap.size := fun k hk => HSs.out k (HD.out.1 k hk)
    have L2 : ∀ k, S2 k → k < w.heap.size := fun k hk => HSs.out k (HD.out.2.1 k hk)
    have L3 : ∀ k, S3 k → k < w.heap.size := fun k hk => HSs.out k (HD.out.2.2.1 k hk)
    have hO2 : Own KInt 2 w4 (fun k => S2 k ∨ k = b) (.slice (some ⟨b, 0, none⟩) q q) q (fitHp h p).words := by
      have := H42.out
      simp only [fitHp]; rw [← HQ.out]; exact this
    refine ⟨_, _, q, rfl, HpO.mk3 (A := fun k => (S1 k ∨ k = a)) (B := fun k => (S2 k ∨ k = b)) (C := S3) (H41.out.turn (Turn.setRow _ _ _) ?_) (hO2.turn (Turn.setRow _ _ _) ?_) (H43.out.turn (Turn.setRow _ _ _) ?_) ?_ ?_ ?_ ?_ ?_ ?_, below_setRow HB4.out (by omega) _⟩
    · rintro k (hk | rfl) _ e
      · have := L1 k hk; omega
      · omega
    · rintro k (hk | rfl) _ e
      · have := L2 k hk; omega
      · omega
    · rintro k hk _ e
      have := L3 k hk; omega
    · rintro k (hk | rfl)
      · exact .inl (HD.out.1 k hk)
      · exact .inr (by omega)
    · rintro k (hk | rfl)
      · exact .inl (HD.out.2.1 k hk)
      · exact .inr (by omega)
    · exact fun k hk => .inl (HD.out.2.2.1 k hk)
    · rintro k (hk | rfl) (hq | hq)
      · exact HD.out.2.2.2.1 k hk hq
      · have := L1 k hk; omega
      · have := L2 _ hq; omega
      · exact hab hq
    · rintro k (hk | rfl) hq
      · exact HD.out.2.2.2.2.1 k hk hq
      · have := L3 _ hq; omega
    · rintro k (hk | rfl) hq
      · exact HD.out.2.2.2.2.2 k hk hq
      · have := L3 _ hq; omega

theorem fit_new (p c : Nat) : fitHp ⟨[], [], List.replicate (4 * c) []⟩ p = newHp p c := by simp [fitHp, newHp, fitTo]
set_option maxRecDepth 100000 in
set_option maxHeartbeats 2000000 in
theorem newHeap_calls {p c : Int} {w : World} :
    Calls Try.prog 14 #[.int .i64 p, .int .i64 c] w (RetsHeap w (newHeap p c)) := by
  rcases h1 : within 0 40 [p] with _ | _
  · have HF : Hid (newHeap p c = (3, Hp.zero)) := by show _ = _; unfold newHeap; rw [if_neg (by rw [h1]; simp)]
    have hres := heap_alloc_old (w.alloc (.cells #[.int .i64 0, .slice none 0 0, .slice none 0 0, .slice none 0 0, .int .i64 0, .int .i64 0] 38)) (.cells #[.int .i64 p] 2) (r := w.heap.size) (by simp)
    rw [heap_alloc_new] at hres
    have hb : Below w.heap.size w ((w.alloc (.cells #[.int .i64 0, .slice none 0 0, .slice none 0 0, .slice none 0 0, .int .i64 0, .int .i64 0] 38)).alloc (.cells #[.int .i64 p] 2)) := ((Below.refl _ _).alloc (Nat.le_refl _) _).alloc (by simp) _
    go_enter Try.func14, Try.ntmps14
    go_wp2_with fail
    refine (allWithin_calls (Ints.one (by simp)) (by omega)).mono ?_
    rw [h1]
    rintro e w1 ⟨rfl, rfl⟩
    go_wp2_with (refine wpList_store_row rfl 38 _ _ rfl (w.heap.size) _ rfl rfl _ _ hres (by kernel_rfl) (by rfl) (by simp [Value.oneCell']) ?_)
    refine bodyPost_ret (results_cell_row rfl _ _ (w.heap.size) _ _ _ _ rfl (setRow_heap _ _ _ _ _ _ hres) Try.underlying38 rfl (by kernel_rfl)) rfl ?_
    exact heap_done hb (Nat.le_refl _) HpO.zero _ HF.out
  rcases h2 : within 1 2 [c] with _ | _
  · have HF : Hid (newHeap p c = (3, Hp.zero)) := by show _ = _; unfold newHeap; rw [if_neg (by rw [h2]; simp)]
    obtain ⟨hres, _, _, hb, _⟩ := three_new (w := w) (o1 := .cells #[.int .i64 0, .slice none 0 0, .slice none 0 0, .slice none 0 0, .int .i64 0, .int .i64 0] 38) (o2 := .cells #[.int .i64 p] 2) (o3 := .cells #[.int .i64 c] 2) (Below.refl _ _)
    go_enter Try.func14, Try.ntmps14
    go_wp2_with fail
    refine (allWithin_calls (Ints.one (by simp)) (by omega)).mono ?_
    rw [h1]
    rintro e w1 ⟨rfl, rfl⟩
    go_wp2_with fail
    refine (allWithin_calls (Ints.one (by simp)) (by omega)).mono ?_
    rw [h2]
    rintro e w2 ⟨rfl, rfl⟩
    go_wp2_with (refine wpList_store_row rfl 38 _ _ rfl (w.heap.size) _ rfl rfl _ _ hres (by kernel_rfl) (by rfl) (by simp [Value.oneCell']) ?_)
    refine bodyPost_ret (results_cell_row rfl _ _ (w.heap.size) _ _ _ _ rfl (setRow_heap _ _ _ _ _ _ hres) Try.underlying38 rfl (by kernel_rfl)) rfl ?_
    exact heap_done hb (Nat.le_refl _) HpO.zero _ HF.out
  obtain ⟨m, rfl⟩ : ∃ m : Nat, p = m := ⟨p.toNat, by have := within_range h1; omega⟩
  obtain ⟨d, rfl⟩ : ∃ d : Nat, c = d := ⟨c.toNat, by have := within_range h2; omega⟩
  have hm40 : m ≤ 40 := by have := within_range h1; omega
  have hd2 : d ≤ 2 := by have := within_range h2; omega
  have HF : Hid (newHeap (m : Int) (d : Int) = (0, newHp m d)) := by show _ = _; unfold newHeap; rw [if_pos ⟨h1, h2⟩]; rfl
  obtain ⟨im, him, hm0, hm1, hm2⟩ := info_parts infoMg
  obtain ⟨q, hq⟩ : ∃ q, q = 4 * d := ⟨_, rfl⟩
  obtain ⟨CM, hCM, hmk⟩ := make_eq (P := Try.prog) Try.underlying24 him hm0 hm1 rfl q (by rw [hm2]; omega) (by omega)
  have hq2 : (d : Int) * 4 = (q : Int) := by omega
  have HQ := Lib.hid hq
  have hq8 : q ≤ 8 := by omega
  obtain ⟨g0, g1, g2, gb, gs⟩ := three_new (w := w) (o1 := .cells #[.int .i64 0, .slice none 0 0, .slice none 0 0, .slice none 0 0, .int .i64 0, .int .i64 0] 38) (o2 := .cells #[.int .i64 m] 2) (o3 := .cells #[.int .i64 d] 2) (Below.refl _ _)
  obtain ⟨W, hW⟩ : ∃ W, W = (((w.alloc (.cells #[.int .i64 0, .slice none 0 0, .slice none 0 0, .slice none 0 0, .int .i64 0, .int .i64 0] 38)).alloc (.cells #[.int .i64 m] 2)).alloc (.cells #[.int .i64 d] 2)) := ⟨_, rfl⟩
  have hWs : W.heap.size = w.heap.size + 3 := by rw [hW]; simp
  rw [← hW] at g0 gb
  have HO0 : Hid (HpO (W.alloc (.cells CM 23)) (fun k => k = W.heap.size) (.slice none 0 0) 0 (.slice none 0 0) 0 (.slice (some ⟨W.heap.size, 0, none⟩) q q) q ⟨[], [], List.replicate (4 * d) []⟩) := by
    refine HpO.mk3 (A := fun _ => False) (B := fun _ => False) (C := fun k => k = W.heap.size) Own.nil Own.nil ?_ (fun _ h => h.elim) (fun _ h => h.elim) (fun _ h => h) (fun _ h => h.elim) (fun _ h => h.elim) (fun _ h => h.elim)
    rw [← HQ.out]
    exact Own.of_zero (K := KMag) (heap_alloc_new W _) hCM rfl (KMag_own_mk Own.nil) (by unfold maxLen; omega)
  have HG := Lib.hid (And.intro g0 gb)
  have HW := Lib.hid hW
  have HWs := Lib.hid hWs
  clear g0 g1 g2 gb gs hq hCM hW hWs
  go_enter Try.func14, Try.ntmps14
  go_wp2_with fail
  refine (allWithin_calls (Ints.one (by simp)) (by omega)).mono ?_
  rw [h1]
  rintro e w1 ⟨rfl, rfl⟩
  go_wp2_with fail
  refine (allWithin_calls (Ints.one (by simp)) (by omega)).mono ?_
  rw [h2]
  rintro e w2 ⟨rfl, rfl⟩
  rw [← HW.out]
  go_wp2_with fail
  refine (withPages_calls HO0.out hm40 (fun k hk => by simp; omega)).mono ?_
  rintro e w3 ⟨vp, vw, nw, rfl, ho3, hb3⟩
  have hres := ((hb3.block w.heap.size (by have := HWs.out; simp; omega)).trans (heap_alloc_old W _ (by have := HWs.out; omega))).trans HG.out.1
  have hb : Below w.heap.size w w3 := (HG.out.2.alloc (by have := HWs.out; omega) (.cells CM 23)).trans (hb3.mono (by have := HWs.out; simp; omega))
  rw [fit_new] at ho3
  obtain ⟨pa, pc, wa, wc, ma, mc, rfl, rfl, e3, _⟩ := ho3.shape
  have HO3 := Lib.hid (ho3.mono (S' := fun k => w.heap.size < k) (fun k hk _ => by have := HWs.out; simp at hk; omega))
  clear ho3 hb3 e3
  go_wp2_with (refine wpList_store_row rfl 38 _ _ rfl (w.heap.size) _ rfl rfl _ _ hres (by kernel_rfl) (by rfl) (by simp [Value.oneCell']) ?_)
  refine bodyPost_ret (results_cell_row rfl _ _ (w.heap.size) _ _ _ _ rfl (setRow_heap _ _ _ _ _ _ hres) Try.underlying38 rfl (by kernel_rfl)) rfl ?_
  exact heap_done hb (Nat.le_refl _) HO3.out _ HF.out
end Go.Proofs.Ytcnpckaacigbfaa

/- Chapter 5 of the program: where a block lives; how many are kept; heaps compared. -/
namespace Go.Proofs.Ytcnpckaacigbfaa
open Go.RowKit

/-- What is known of a heap ahead of a walk. -/
structure HpK (w : World) (S : Nat → Prop) (pa : Option Addr) (pn pc : Nat) (wa : Option Addr) (wn wk : Nat) (ma : Option Addr) (mn mc : Nat) (h : Hp) : Prop where
  r : HpR w S pa pn pc wa wn wk ma mn mc h
  s : HpS 1048576 h
theorem HpK.below {w w' : World} {S : Nat → Prop} {pa wa ma : Option Addr} {pn pc wn wk mn mc : Nat} {h : Hp} (hk : HpK w S pa pn pc wa wn wk ma mn mc h) (hb : Below w.heap.size w w') : HpK w' S pa pn pc wa wn wk ma mn mc h := ⟨hk.r.below hb, hk.s⟩
theorem HpK.short {w : World} {S : Nat → Prop} {pa wa ma : Option Addr} {pn pc wn wk mn mc : Nat} {h : Hp} (hk : HpK w S pa pn pc wa wn wk ma mn mc h) : ShortP 17592186044416 h.pages := fun p hp => Nat.le_trans (hk.s.u p hp) (by decide)
theorem HpK.small {w : World} {S : Nat → Prop} {pa wa ma : Option Addr} {pn pc wn wk mn mc : Nat} {h : Hp} (hk : HpK w S pa pn pc wa wn wk ma mn mc h) : pn ≤ 1048576 ∧ wn ≤ 1048576 ∧ mn ≤ 1048576 ∧ pn ≤ pc ∧ pc ≤ 9223372036854775807 := by
  have h1 := hk.r.pg.1; have h2 := hk.r.wd.1; have h3 := hk.r.mg.1
  have := hk.s.p; have := hk.s.w; have := hk.s.m
  exact ⟨by omega, by omega, by omega, hk.r.p1, Nat.le_trans hk.r.p2 (by decide)⟩

set_option maxRecDepth 100000 in
set_option maxHeartbeats 4000000 in
theorem liveAt_calls {pa wa ma : Option Addr} {pn pc wn wk mn mc : Nat} {h : Hp} {at_ : Int} {S : Nat → Prop} {w : World} (hk : HpK w S pa pn pc wa wn wk ma mn mc h) :
    Calls Try.prog 19 #[.agg #[.slice pa pn pc, .slice wa wn wk, .slice ma mn mc], .int .i64 at_] w (Pair w (liveAt h at_)) := by
  have HK := Lib.hid hk
  obtain ⟨n1, n2, n3, n4, n5⟩ := hk.small
  clear hk
  have hB0 : Below w.heap.size w ((w.alloc (.cells #[.slice pa pn pc, .slice wa wn wk, .slice ma mn mc] 31)).alloc (.cells #[.int .i64 0, .int .i64 0] 43)) := ((Below.refl _ _).alloc (Nat.le_refl _) _).alloc (by simp) _
  have HB0 := Lib.hid hB0
  clear hB0
  go_enter Try.func19, Try.ntmps19
  go_wp2_with fail
  refine (heapFault_calls (HK.out.r.below HB0.out) HK.out.s).mono ?_
  rintro e w1 ⟨rfl, hb1⟩
  obtain ⟨R0, R1, B1, _⟩ := two_new hb1
  have R0 : Row w1 w.heap.size 31 #[.slice pa pn pc, .slice wa wn wk, .slice ma mn mc] := R0
  have HR1 : Hid (Row w1 (w.heap.size + 1) 43 #[.int .i64 0, .int .i64 0]) := R1
  have HB1 := Lib.hid B1
  clear hb1 R1 B1
  have q0 := R0.cell 0
  have q1 := R0.cell 1
  have q2 := R0.cell 2
  have ql := R0.lt
  simp at q0 q1 q2
  by_cases hf : heapFault h = 0
  rotate_left
  · have HF : Hid (liveAt h at_ = (heapFault h, 0)) := by show _ = _; unfold liveAt; rw [if_neg hf]
    have hq : (heapFault h != 0) = true := by simpa using hf
    clear hf
    have hres := HR1.out
    go_wp2_with (refine wpList_store_row rfl 43 _ _ rfl (w.heap.size + 1) _ rfl rfl _ _ hres (by kernel_rfl) (by rfl) (by simp [Value.oneCell']) ?_)
    refine bodyPost_ret (results_cell_row rfl _ _ (w.heap.size + 1) _ _ _ _ rfl (setRow_heap _ _ _ _ _ _ hres) Try.underlying43 rfl (by kernel_rfl)) rfl ?_
    exact pair_done HB1.out (by omega) _ HF.out
  have HF0 : Hid (liveAt h at_ = liveIn h at_) := by show _ = _; unfold liveAt; rw [if_pos hf]
  have HFk := Lib.hid hf
  rw [hf]
  clear hf
  go_wp2_with fail
  refine (blockStart_calls (HK.out.below HB1.out).r.pg HK.out.short n4 n5 (by omega)).mono ?_
  rintro e w2 ⟨rfl, hb2⟩
  obtain ⟨⟨c, s⟩, hcs⟩ : ∃ p, blockStart h.pages at_ = p := ⟨_, rfl⟩
  have R2 := R0.below hb2
  have HB2 := Lib.hid (HB1.out.trans (hb2.mono HB1.out.size))
  have HR2 := Lib.hid (HR1.out.below hb2)
  have HCS := Lib.hid hcs
  rw [hcs]
  clear hb2 R0 q0 q1 q2 ql hcs HR1
  have q0 := R2.cell 0
  have q1 := R2.cell 1
  have q2 := R2.cell 2
  have ql := R2.lt
  simp at q0 q1 q2
  have hx : w.heap.size + 1 < w2.heap.size := HR2.out.lt
  by_cases hc : c = 0
  rotate_left
  · have HF : Hid (liveAt h at_ = (c, s)) := by
      show _ = _; rw [HF0.out]; unfold liveIn; rw [HCS.out]; simp only; rw [if_neg hc]
      have := HCS.out
      unfold blockStart at this
      split at this
      · rename_i hh; injection this with h1 h2; exact absurd h1.symm hc
      · injection this with h1 h2; rw [h2]
    have hq : (c == 0) = false := by simpa using hc
    have hres := (heap_alloc_old w2 (.cells #[.int .i64 c, .int .i64 s] 43) hx).trans HR2.out
    have hB3 := HB2.out.alloc HB2.out.size (.cells #[.int .i64 c, .int .i64 s] 43)
    clear hc
    go_wp2_with (refine wpList_store_row rfl 43 _ _ rfl (w.heap.size + 1) _ rfl rfl _ _ hres (by kernel_rfl) (by rfl) (by simp [Value.oneCell']) ?_)
    refine bodyPost_ret (results_cell_row rfl _ _ (w.heap.size + 1) _ _ _ _ rfl (setRow_heap _ _ _ _ _ _ hres) Try.underlying43 rfl (by kernel_rfl)) rfl ?_
    exact pair_done hB3 (by omega) _ HF.out
  subst hc
  go_wp2_with fail
  refine (isKept_calls ((HK.out.below HB2.out).r.mg.alloc _) (fun m hm => Nat.le_trans (HK.out.s.k m hm) (by decide)) (by omega)).mono ?_
  rintro e w3 ⟨rfl, hb3⟩
  have R3 := (Row.below (w := w2.alloc (.cells #[.int .i64 0, .int .i64 s] 43)) (Row.below R2 ((Below.refl _ _).alloc (Nat.le_refl _) _)) hb3)
  have RS := Row.new hb3
  have hres := (Row.below (HR2.out) (below_past hb3))
  have hB3 := HB2.out.trans ((below_past hb3).mono HB2.out.size)
  clear hb3 R2 q0 q1 q2 ql
  have s0 := RS.cell 0
  have s1 := RS.cell 1
  have sl := RS.lt
  simp at s0 s1
  rcases hkp : hasIn h.mags.flatten s with _ | _
  · have HF : Hid (liveAt h at_ = (0, s)) := by
      show _ = _; rw [HF0.out]; unfold liveIn Hp.kept; rw [HCS.out]; simp only; rw [if_pos trivial, if_neg (by rw [hkp]; decide)]
    clear hkp
    go_wp2_with (refine wpList_store_row rfl 43 _ _ rfl (w.heap.size + 1) _ rfl rfl _ _ hres (by kernel_rfl) (by rfl) (by simp [Value.oneCell']) ?_)
    refine bodyPost_ret (results_cell_row rfl _ _ (w.heap.size + 1) _ _ _ _ rfl (setRow_heap _ _ _ _ _ _ hres) Try.underlying43 rfl (by kernel_rfl)) rfl ?_
    exact pair_done hB3 (by omega) _ HF.out
  · have HF : Hid (liveAt h at_ = (4, 0)) := by
      show _ = _; rw [HF0.out]; unfold liveIn Hp.kept; rw [HCS.out]; simp only; rw [if_pos trivial, if_pos hkp]
    clear hkp
    go_wp2_with (refine wpList_store_row rfl 43 _ _ rfl (w.heap.size + 1) _ rfl rfl _ _ hres (by kernel_rfl) (by rfl) (by simp [Value.oneCell']) ?_)
    refine bodyPost_ret (results_cell_row rfl _ _ (w.heap.size + 1) _ _ _ _ rfl (setRow_heap _ _ _ _ _ _ hres) Try.underlying43 rfl (by kernel_rfl)) rfl ?_
    exact pair_done hB3 (by omega) _ HF.out

set_option maxRecDepth 100000 in
set_option maxHeartbeats 4000000 in
theorem heldIn_calls {pa wa ma : Option Addr} {pn pc wn wk mn mc : Nat} {h : Hp} {S : Nat → Prop} {w : World} (hk : HpK w S pa pn pc wa wn wk ma mn mc h) :
    Calls Try.prog 22 #[.agg #[.slice pa pn pc, .slice wa wn wk, .slice ma mn mc]] w (Pair w (heldIn h)) := by
  have HK := Lib.hid hk
  obtain ⟨n1, n2, n3, n4, n5⟩ := hk.small
  have HM := Lib.hid hk.r.mg.1
  clear hk
  have hB0 : Below w.heap.size w ((w.alloc (.cells #[.slice pa pn pc, .slice wa wn wk, .slice ma mn mc] 31)).alloc (.cells #[.int .i64 0, .int .i64 0] 43)) := ((Below.refl _ _).alloc (Nat.le_refl _) _).alloc (by simp) _
  have HB0 := Lib.hid hB0
  clear hB0
  go_enter Try.func22, Try.ntmps22
  go_wp2_with fail
  refine (heapFault_calls (HK.out.r.below HB0.out) HK.out.s).mono ?_
  rintro e w1 ⟨rfl, hb1⟩
  obtain ⟨R0, R1, B1, _⟩ := two_new hb1
  have R0 : Row w1 w.heap.size 31 #[.slice pa pn pc, .slice wa wn wk, .slice ma mn mc] := R0
  have HR1 : Hid (Row w1 (w.heap.size + 1) 43 #[.int .i64 0, .int .i64 0]) := R1
  have HB1 := Lib.hid B1
  clear hb1 R1 B1
  have q0 := R0.cell 0
  have q1 := R0.cell 1
  have q2 := R0.cell 2
  have ql := R0.lt
  simp at q0 q1 q2
  by_cases hf : heapFault h = 0
  rotate_left
  · have HF : Hid (heldIn h = (heapFault h, 0)) := by show _ = _; unfold heldIn; rw [if_neg hf]
    have hq : (heapFault h != 0) = true := by simpa using hf
    clear hf
    have hres := HR1.out
    go_wp2_with (refine wpList_store_row rfl 43 _ _ rfl (w.heap.size + 1) _ rfl rfl _ _ hres (by kernel_rfl) (by rfl) (by simp [Value.oneCell']) ?_)
    refine bodyPost_ret (results_cell_row rfl _ _ (w.heap.size + 1) _ _ _ _ rfl (setRow_heap _ _ _ _ _ _ hres) Try.underlying43 rfl (by kernel_rfl)) rfl ?_
    exact pair_done HB1.out (by omega) _ HF.out
  have HF0 : Hid (heldIn h = (0, (h.kept.length : Int))) := by show _ = _; unfold heldIn; rw [if_pos hf]
  have HSm := Lib.hid (mags_small hf).2.2.2
  rw [hf]
  clear hf
  go_wp2_with fail
  go_loopw [4, 6, 16] (fun z _ i wr => ∃ k s : Nat, k ≤ mn ∧ i = .int .i64 k ∧ z = .int .i64 s ∧ Hid (s = (h.mags.take k).flatten.length) ∧ Row wr (w.heap.size + 1) 43 #[.int .i64 0, .int .i64 0] ∧ Below w.heap.size w wr) (fun _ _ i _ => mn - (intOf i).toNat)
  case atStart => exact ⟨0, 0, Nat.zero_le _, rfl, rfl, by simp [Hid], HR1.out, HB1.out⟩
  case round =>
    clear R0 q0 q1 q2 ql
    obtain ⟨k, s, hk, rfl, rfl, HS, hR, hbw⟩ := hrel
    have hs : s ≤ 16 := by have := flatten_take_le h.mags k; have := HS.out; have := HSm.out; unfold Hp.kept at this; omega
    by_cases hlt : k < mn
    · obtain ⟨b0, o0, m, a0, l0, c0, rfl, d0, hp, e0, hlc0, hcm0, hu0⟩ := ((HK.out.r.mg).below hbw).mag_at hlt
      have HN : Hid (s + l0 = (h.mags.take (k + 1)).flatten.length) := by
        show _ = _; rw [flatten_snoc hp, List.length_append, ← HS.out, hu0.1]
      have hs2 : s + l0 ≤ 16 := by have := flatten_take_le h.mags (k + 1); have := HN.out; have := HSm.out; unfold Hp.kept at this; omega
      clear hp hu0 hcm0
      go_wp2_with fail
      go_roundw
      case rel => exact ⟨k + 1, s + l0, by omega, by go_num, by go_num, HN, hR, hbw⟩
      case measure => simp [intOf]; omega
    · have HF : Hid (heldIn h = (0, (s : Int))) := by
        show _ = _; rw [HF0.out]
        have := HS.out
        rw [List.take_of_length_le (by have := HM.out; omega)] at this
        unfold Hp.kept; rw [this]
      go_wp2_with (refine wpList_store_row rfl 43 _ _ rfl (w.heap.size + 1) _ rfl rfl _ _ hR (by kernel_rfl) (by rfl) (by simp [Value.oneCell']) ?_)
      refine bodyPost_ret (results_cell_row rfl _ _ (w.heap.size + 1) _ _ _ _ rfl (setRow_heap _ _ _ _ _ _ hR) Try.underlying43 rfl (by kernel_rfl)) rfl ?_
      exact pair_done hbw (by omega) _ HF.out

set_option maxRecDepth 100000 in
set_option maxHeartbeats 4000000 in
theorem sameHeaps_calls {pa wa ma pa' wa' ma' : Option Addr} {pn pc wn wk mn mc pn' pc' wn' wk' mn' mc' : Nat} {g h : Hp} {S S' : Nat → Prop} {w : World} (hg : HpK w S pa pn pc wa wn wk ma mn mc g) (hh : HpK w S' pa' pn' pc' wa' wn' wk' ma' mn' mc' h) :
    Calls Try.prog 24 #[.agg #[.slice pa pn pc, .slice wa wn wk, .slice ma mn mc], .agg #[.slice pa' pn' pc', .slice wa' wn' wk', .slice ma' mn' mc']] w fun e w' => e = .returned (.bool (decide (g = h))) ∧ Below w.heap.size w w' := by
  have HG := Lib.hid hg
  have HH := Lib.hid hh
  obtain ⟨n1, n2, n3, _, _⟩ := hg.small
  obtain ⟨m1, m2, m3, _, _⟩ := hh.small
  clear hg hh
  have hB0 : Below w.heap.size w ((w.alloc (.cells #[.slice pa pn pc, .slice wa wn wk, .slice ma mn mc] 31)).alloc (.cells #[.slice pa' pn' pc', .slice wa' wn' wk', .slice ma' mn' mc'] 31)) := ((Below.refl _ _).alloc (Nat.le_refl _) _).alloc (by simp) _
  have HB0 := Lib.hid hB0
  clear hB0
  go_enter Try.func24, Try.ntmps24
  go_wp2_with fail
  refine (samePages_calls (HG.out.below HB0.out).r.pg (HH.out.below HB0.out).r.pg HG.out.short HH.out.short (by omega) (by omega)).mono ?_
  rintro e w1 ⟨rfl, hb1⟩
  obtain ⟨R0, R1, B1, _⟩ := two_new hb1
  have R0 : Row w1 w.heap.size 31 #[.slice pa pn pc, .slice wa wn wk, .slice ma mn mc] := R0
  have R1 : Row w1 (w.heap.size + 1) 31 #[.slice pa' pn' pc', .slice wa' wn' wk', .slice ma' mn' mc'] := R1
  have HB1 := Lib.hid B1
  clear hb1 B1
  rcases hp : decide (g.pages = h.pages) with _ | _
  · have HF : Hid (decide (g = h) = false) := by show _ = _; rw [decide_eq_false_iff_not]; rintro rfl; simp at hp
    clear hp
    go_wp2_with fail
    go_ret
    exact ⟨ret_bool HF.out.symm, HB1.out⟩
  have HP := Lib.hid hp
  clear hp
  have a1 := R0.cell 1
  have b1 := R1.cell 1
  have al := R0.lt
  have bl := R1.lt
  simp at a1 b1
  go_wp2_with fail
  refine (equalI_calls ((HG.out.below HB1.out).r.wd.ints) ((HH.out.below HB1.out).r.wd.ints) (by omega) (by omega)).mono ?_
  rintro e w2 ⟨rfl, hb2⟩
  have R2 := R0.below hb2
  have R3 := R1.below hb2
  have HB2 := Lib.hid (HB1.out.trans (hb2.mono HB1.out.size))
  clear hb2 R0 R1 a1 b1 al bl
  rcases hw : decide (g.words = h.words) with _ | _
  · have HF : Hid (decide (g = h) = false) := by show _ = _; rw [decide_eq_false_iff_not]; rintro rfl; simp at hw
    clear hw
    go_wp2_with fail
    go_ret
    exact ⟨ret_bool HF.out.symm, HB2.out⟩
  have HW := Lib.hid hw
  clear hw
  have a1 := R2.cell 2
  have b1 := R3.cell 2
  have al := R2.lt
  have bl := R3.lt
  simp at a1 b1
  go_wp2_with fail
  refine (equalMags_calls (HG.out.below HB2.out).r.mg (HH.out.below HB2.out).r.mg (fun m hm => Nat.le_trans (HG.out.s.k m hm) (by decide)) (fun m hm => Nat.le_trans (HH.out.s.k m hm) (by decide)) (by omega) (by omega)).mono ?_
  rintro e w3 ⟨rfl, hb3⟩
  have HB3 := Lib.hid (HB2.out.trans (hb3.mono HB2.out.size))
  have HF : Hid (decide (g = h) = decide (g.mags = h.mags)) := by
    have h1 : g.pages = h.pages := by have := HP.out; simpa using this
    have h2 : g.words = h.words := by have := HW.out; simpa using this
    apply decide_eq_decide.2
    exact ⟨fun e => by rw [e], fun e => Hp.ext_ h1 h2 e⟩
  clear hb3
  go_wp2_with fail
  go_ret
  exact ⟨ret_bool HF.out.symm, HB3.out⟩
end Go.Proofs.Ytcnpckaacigbfaa

/- Chapter 5 of the program: the blocks that live. -/
namespace Go.Proofs.Ytcnpckaacigbfaa
open Go.RowKit

theorem Own.toI {t : TypeId} {w : World} {B n : Nat} {v : Value} {xs : List Int} (h : Own KInt t w (fun k => B ≤ k) v n xs) : OwnI w B v n xs := by
  have hl := h.1
  rcases h.2 with ⟨rfl, rfl⟩ | ⟨g, cap, cur, F, rfl, hg, hr, _⟩
  · obtain rfl := List.eq_nil_of_length_eq_zero hl
    exact OwnI.nil _ _
  · obtain ⟨hg, cur, hr, h1, h2, h3, h4⟩ := h.rowI
    exact OwnI.of_form hg hr h1 h2 (by omega) h4 hl
/-- What a list of places owns while it is made, above two blocks. -/
structure OwnB (w w' : World) (v : Value) (n k : Nat) (xs : List Int) : Prop where
  own : Own KInt 2 w' (fun q => w.heap.size + 2 ≤ q) v n xs
  le : n ≤ k
theorem OwnB.below {w w' w2 : World} {v : Value} {n k : Nat} {xs : List Int} (h : OwnB w w' v n k xs) (hb : Below w'.heap.size w' w2) : OwnB w w2 v n k xs := ⟨h.own.below hb, h.le⟩
theorem OwnB.next {w w' : World} {v : Value} {n k : Nat} {h : Hp} (ho : OwnB w w' v n k (blocksTo h k)) (hn : blocksTo h (k + 1) = blocksTo h k) : OwnB w w' v n (k + 1) (blocksTo h (k + 1)) := ⟨by rw [hn]; exact ho.own, by have := ho.le; omega⟩
theorem OwnB.shape {w w' : World} {v : Value} {n k : Nat} {xs : List Int} (h : OwnB w w' v n k xs) : ∃ a c, v = .slice a n c ∧ n ≤ k := by
  obtain ⟨a, c, e, _⟩ := h.own.shape
  exact ⟨a, c, e, h.le⟩
/-- A place at which a block begins that lives. -/
theorem live_at {h : Hp} (hv : pagesFault h.pages = 0) {a : Nat} (ha : a < h.pages.length * 16) : liveIn h (a : Int) = (0, (a : Int)) ↔ ∃ b, blockAt h.pages a = some b ∧ b.start = (a : Int) ∧ hasIn h.mags.flatten (a : Int) = false := by
  have hh : heldAt h.pages (a : Int) = match blockAt h.pages a with | some b => (0, some b) | none => (4, none) := by
    unfold heldAt; rw [if_pos hv, if_pos (within_yes1 (by omega) (by omega)), Int.toNat_natCast]; cases blockAt h.pages a <;> rfl
  unfold liveIn blockStart Hp.kept
  rw [hh]
  cases hb : blockAt h.pages a with
  | none => simp
  | some b =>
    simp only
    rw [if_pos trivial]
    cases hk : hasIn h.mags.flatten b.start with
    | true =>
      rw [if_pos rfl]
      constructor
      · intro e; injection e with e; simp at e
      · rintro ⟨b', e1, e2, e3⟩
        injection e1 with e1; subst e1
        rw [e2] at hk; rw [hk] at e3; cases e3
    | false =>
      rw [if_neg (by decide)]
      constructor
      · intro e
        injection e with _ e
        exact ⟨b, rfl, e, by rw [← e]; exact hk⟩
      · rintro ⟨b', e1, e2, e3⟩
        injection e1 with e1; subst e1
        rw [e2]

end Go.Proofs.Ytcnpckaacigbfaa

/- Chapter 5 of the model: where a block lives; the blocks that live; how many are kept; heaps compared. -/
namespace Go.Proofs.Ytcnpckaacigbfaa
open Go.RowKit

set_option maxRecDepth 100000 in
set_option maxHeartbeats 2000000 in
theorem l5Live_calls {pa wa ma : Option Addr} {pn pc wn wk mn mc b : Nat} {h : Hp} {at_ : Int} {S : Nat → Prop} {w : World} (hR : Row w b 31 #[.slice pa pn pc, .slice wa wn wk, .slice ma mn mc]) (hr : HpR w S pa pn pc wa wn wk ma mn mc h) (hf : heapFault h = 0) :
    Calls Try.prog 56 #[.pointer (some ⟨b, 0, none⟩), .int .i64 at_] w fun e w' => e = .returned (.tuple #[.int .i64 (liveIn h at_).2, .int .i64 (liveIn h at_).1]) ∧ Below w.heap.size w w' := by
  obtain ⟨⟨c, s⟩, hcs⟩ : ∃ p, blockStart h.pages at_ = p := ⟨_, rfl⟩
  have HST : Hid (Calls Try.prog 66 #[.slice pa pn pc, .int .i64 at_] w fun e w' => e = .returned (.tuple #[.int .i64 s, .int .i64 c]) ∧ w = w') := by
    have := l4Start_calls (cc := pc) (at_ := at_) hr.pg (heapFault_ok hf).1
    rw [hcs] at this
    exact this
  have HL : Hid (liveIn h at_ = if c = 0 then (if hasIn h.mags.flatten s = true then (4, 0) else (0, s)) else (c, 0)) := by
    show _ = _; unfold liveIn Hp.kept; rw [hcs]
  have HSm := Lib.hid (mags_small hf).2.2.2
  have HM8 : mn ≤ 8 := by have := (mags_small hf).1; have := hr.mg.1; omega
  have HR := Lib.hid hR
  have HMg := Lib.hid hr.mg
  have q0 := hR.cell 0
  have ql := hR.lt
  simp at q0
  clear hR hr hf hcs
  go_enter Try.func56, Try.ntmps56
  by_cases hc : c = 0
  rotate_left
  · have HF : Hid (liveIn h at_ = (c, 0)) := by show _ = _; rw [HL.out, if_neg hc]
    have hq : (c != 0) = true := by simpa using hc
    clear hc
    go_wp2_with (go_at_call 66; refine HST.out.mono ?_; rintro e w' ⟨rfl, rfl⟩)
    go_ret2
    exact ⟨ret_two (by rw [HF.out]) (by rw [HF.out]), Below.refl _ _⟩
  subst hc
  go_wp2_with (go_at_call 66; refine HST.out.mono ?_; rintro e w' ⟨rfl, rfl⟩)
  refine (l5All_calls HR.out HMg.out (by omega) (by have := HSm.out; unfold Hp.kept at this; omega)).mono ?_
  rintro e w2 ⟨v2, t2, rfl, hO2, hb2⟩
  obtain ⟨vo2, vc2, rfl, _, _, hL2⟩ := hO2.shape
  have HI2 := Lib.hid hL2.ints
  have HB2 := Lib.hid hb2
  have ht2 : t2 ≤ 16 := by have := hO2.1; have := HSm.out; unfold Hp.kept at this; omega
  clear hb2 hO2 hL2
  go_wp2_with fail
  refine (l1Has_calls HI2.out (by omega)).mono ?_
  rcases hh : hasIn h.mags.flatten s with _ | _
  · have HF : Hid (liveIn h at_ = (0, s)) := by show _ = _; rw [HL.out, if_pos trivial, if_neg (by rw [hh]; decide)]
    rintro e w3 ⟨rfl, rfl⟩
    go_wp2_with fail
    go_ret2
    exact ⟨ret_two (by rw [HF.out]) (by rw [HF.out]), HB2.out⟩
  · have HF : Hid (liveIn h at_ = (4, 0)) := by show _ = _; rw [HL.out, if_pos trivial, if_pos hh]
    rintro e w3 ⟨rfl, rfl⟩
    go_wp2_with fail
    go_ret2
    exact ⟨ret_two (by rw [HF.out]) (by rw [HF.out]), HB2.out⟩

set_option maxRecDepth 100000 in
set_option maxHeartbeats 2000000 in
theorem sLiveAt_calls {pa wa ma : Option Addr} {pn pc wn wk mn mc : Nat} {h : Hp} {at_ : Int} {S : Nat → Prop} {w : World} (hk : HpK w S pa pn pc wa wn wk ma mn mc h) :
    Calls Try.prog 18 #[.agg #[.slice pa pn pc, .slice wa wn wk, .slice ma mn mc], .int .i64 at_] w (Pair w (liveAt h at_)) := by
  have HK := Lib.hid hk
  obtain ⟨n1, n2, n3, n4, n5⟩ := hk.small
  clear hk
  obtain ⟨V, hV⟩ : ∃ V, V = (w.alloc (.cells #[.slice pa pn pc, .slice wa wn wk, .slice ma mn mc] 31)).alloc (.cells #[.int .i64 0, .int .i64 0] 43) := ⟨_, rfl⟩
  have hB0 : Below w.heap.size w V := by rw [hV]; exact ((Below.refl _ _).alloc (Nat.le_refl _) _).alloc (by simp) _
  have HB0 := Lib.hid hB0
  clear hB0
  go_enter Try.func18, Try.ntmps18
  go_wp2_with fail
  rw [← hV]
  refine (sHeapFault_calls (HK.out.r.below HB0.out) HK.out.s).mono ?_
  rintro e w1 ⟨rfl, hb1⟩
  rw [hV] at hb1
  obtain ⟨R0, R1, B1, _⟩ := two_new hb1
  have HR0 : Hid (Row w1 w.heap.size 31 #[.slice pa pn pc, .slice wa wn wk, .slice ma mn mc]) := R0
  have HR1 : Hid (Row w1 (w.heap.size + 1) 43 #[.int .i64 0, .int .i64 0]) := R1
  have HB1 := Lib.hid B1
  clear hb1 R1 B1 R0 hV
  by_cases hf : heapFault h = 0
  rotate_left
  · have HF : Hid (liveAt h at_ = (heapFault h, 0)) := by show _ = _; unfold liveAt; rw [if_neg hf]
    have hq : (heapFault h != 0) = true := by simpa using hf
    clear hf
    have hres := HR1.out
    go_wp2_with (refine wpList_store_row rfl 43 _ _ rfl (w.heap.size + 1) _ rfl rfl _ _ hres (by kernel_rfl) (by rfl) (by simp [Value.oneCell']) ?_)
    refine bodyPost_ret (results_cell_row rfl _ _ (w.heap.size + 1) _ _ _ _ rfl (setRow_heap _ _ _ _ _ _ hres) Try.underlying43 rfl (by kernel_rfl)) rfl ?_
    exact pair_done HB1.out (by omega) _ HF.out
  have HF0 : Hid (liveAt h at_ = liveIn h at_) := by show _ = _; unfold liveAt; rw [if_pos hf]
  have HFk := Lib.hid hf
  rw [hf]
  clear hf
  go_wp2_with fail
  refine (l5Live_calls HR0.out (HK.out.below HB1.out).r HFk.out).mono ?_
  rintro e w2 ⟨rfl, hb2⟩
  have HB2 := Lib.hid (HB1.out.trans (hb2.mono HB1.out.size))
  have hres := HR1.out.below hb2
  clear hb2
  obtain ⟨⟨c, s⟩, hcs⟩ : ∃ p, liveIn h at_ = p := ⟨_, rfl⟩
  have HF : Hid (liveAt h at_ = (c, s)) := HF0.out.trans hcs
  rw [hcs]
  clear hcs
  go_wp2_with (refine wpList_store_row rfl 43 _ _ rfl (w.heap.size + 1) _ rfl rfl _ _ hres (by kernel_rfl) (by rfl) (by simp [Value.oneCell']) ?_)
  refine bodyPost_ret (results_cell_row rfl _ _ (w.heap.size + 1) _ _ _ _ rfl (setRow_heap _ _ _ _ _ _ hres) Try.underlying43 rfl (by kernel_rfl)) rfl ?_
  exact pair_done HB2.out (by omega) _ HF.out

/-- What a list of places owns while it is made. -/
structure OwnC (w w' : World) (v : Value) (n k : Nat) (xs : List Int) : Prop where
  own : Own KInt 2 w' (fun q => w.heap.size ≤ q) v n xs
  le : n ≤ k
theorem OwnC.below {w w' w2 : World} {v : Value} {n k : Nat} {xs : List Int} (h : OwnC w w' v n k xs) (hb : Below w'.heap.size w' w2) : OwnC w w2 v n k xs := ⟨h.own.below hb, h.le⟩
theorem OwnC.next {w w' : World} {v : Value} {n k : Nat} {h : Hp} (ho : OwnC w w' v n k (blocksTo h k)) (hn : blocksTo h (k + 1) = blocksTo h k) : OwnC w w' v n (k + 1) (blocksTo h (k + 1)) := ⟨by rw [hn]; exact ho.own, by have := ho.le; omega⟩
theorem OwnC.shape {w w' : World} {v : Value} {n k : Nat} {xs : List Int} (h : OwnC w w' v n k xs) : ∃ a c, v = .slice a n c ∧ n ≤ k := by
  obtain ⟨a, c, e, _⟩ := h.own.shape
  exact ⟨a, c, e, h.le⟩

set_option maxRecDepth 100000 in
set_option maxHeartbeats 2000000 in
theorem sHeldIn_calls {pa wa ma : Option Addr} {pn pc wn wk mn mc : Nat} {h : Hp} {S : Nat → Prop} {w : World} (hk : HpK w S pa pn pc wa wn wk ma mn mc h) :
    Calls Try.prog 21 #[.agg #[.slice pa pn pc, .slice wa wn wk, .slice ma mn mc]] w (Pair w (heldIn h)) := by
  have HK := Lib.hid hk
  obtain ⟨n1, n2, n3, n4, n5⟩ := hk.small
  clear hk
  obtain ⟨V, hV⟩ : ∃ V, V = (w.alloc (.cells #[.slice pa pn pc, .slice wa wn wk, .slice ma mn mc] 31)).alloc (.cells #[.int .i64 0, .int .i64 0] 43) := ⟨_, rfl⟩
  have hB0 : Below w.heap.size w V := by rw [hV]; exact ((Below.refl _ _).alloc (Nat.le_refl _) _).alloc (by simp) _
  have HB0 := Lib.hid hB0
  clear hB0
  go_enter Try.func21, Try.ntmps21
  go_wp2_with fail
  rw [← hV]
  refine (sHeapFault_calls (HK.out.r.below HB0.out) HK.out.s).mono ?_
  rintro e w1 ⟨rfl, hb1⟩
  rw [hV] at hb1
  obtain ⟨R0, R1, B1, _⟩ := two_new hb1
  have HR0 : Hid (Row w1 w.heap.size 31 #[.slice pa pn pc, .slice wa wn wk, .slice ma mn mc]) := R0
  have HR1 : Hid (Row w1 (w.heap.size + 1) 43 #[.int .i64 0, .int .i64 0]) := R1
  have HB1 := Lib.hid B1
  clear hb1 R1 B1 R0 hV
  by_cases hf : heapFault h = 0
  rotate_left
  · have HF : Hid (heldIn h = (heapFault h, 0)) := by show _ = _; unfold heldIn; rw [if_neg hf]
    have hq : (heapFault h != 0) = true := by simpa using hf
    clear hf
    have hres := HR1.out
    go_wp2_with (refine wpList_store_row rfl 43 _ _ rfl (w.heap.size + 1) _ rfl rfl _ _ hres (by kernel_rfl) (by rfl) (by simp [Value.oneCell']) ?_)
    refine bodyPost_ret (results_cell_row rfl _ _ (w.heap.size + 1) _ _ _ _ rfl (setRow_heap _ _ _ _ _ _ hres) Try.underlying43 rfl (by kernel_rfl)) rfl ?_
    exact pair_done HB1.out (by omega) _ HF.out
  have HF0 : Hid (heldIn h = (0, (h.kept.length : Int))) := by show _ = _; unfold heldIn; rw [if_pos hf]
  have HSm := Lib.hid (mags_small hf).2.2.2
  rw [hf]
  clear hf
  go_wp2_with fail
  refine (l5All_calls HR0.out (HK.out.below HB1.out).r.mg (by omega) (by have := HSm.out; unfold Hp.kept at this; omega)).mono ?_
  rintro e w2 ⟨v2, t2, rfl, hO2, hb2⟩
  obtain ⟨vo2, vc2, rfl, _, _, hL2⟩ := hO2.shape
  have HF : Hid (heldIn h = (0, (t2 : Int))) := by show _ = _; rw [HF0.out]; unfold Hp.kept; rw [hO2.1]
  have HB2 := Lib.hid (HB1.out.trans (hb2.mono HB1.out.size))
  have hres := HR1.out.below hb2
  have ht2 : t2 ≤ 16 := by have := hO2.1; have := HSm.out; unfold Hp.kept at this; omega
  clear hb2 hO2 hL2
  go_wp2_with (refine wpList_store_row rfl 43 _ _ rfl (w.heap.size + 1) _ rfl rfl _ _ hres (by kernel_rfl) (by rfl) (by simp [Value.oneCell']) ?_)
  refine bodyPost_ret (results_cell_row rfl _ _ (w.heap.size + 1) _ _ _ _ rfl (setRow_heap _ _ _ _ _ _ hres) Try.underlying43 rfl (by kernel_rfl)) rfl ?_
  exact pair_done HB2.out (by omega) _ HF.out
end Go.Proofs.Ytcnpckaacigbfaa

/- The exact laws of chapter 5 that answer a code or two numbers. -/
namespace Go.Proofs.Ytcnpckaacigbfaa
open Go.RowKit

set_option maxHeartbeats 800000 in
set_option maxRecDepth 100000 in
theorem lawHeapFault {pa wa ma : Option Addr} {pn pc wn wk mn mc : Nat} {h : Hp} {S : Nat → Prop} {w : World} (hT : HpR w S pa pn pc wa wn wk ma mn mc h) :
    Calls Try.prog 3 #[.agg #[.slice pa pn pc, .slice wa wn wk, .slice ma mn mc]] w fun e w' => e = .returned (.bool true) ∧ Below w.heap.size w w' := by
  have A0 := Lib.hid (InH.start hT)
  go_enter Try.func3, Try.ntmps3
  go_wp2_with fail
  refine (szHeap_calls A0.out.rd (by omega) (by omega)).mono ?_
  rintro e w1 ⟨rfl | ⟨r, rfl, r0, r1, hs⟩, hb1⟩
  · go_wp2_with fail
    go_ret
    exact ⟨rfl, (A0.out.below hb1).bel⟩
  have HS := Lib.hid hs
  have hr : ¬ (r < 0) := by omega
  have A1 := Lib.hid (A0.out.below hb1)
  have qla := A1.out.row.lt
  have q0a := A1.out.row.cell 0
  have q1a := A1.out.row.cell 1
  have q2a := A1.out.row.cell 2
  simp at q0a q1a q2a
  clear hs hb1 A0
  go_wp2_with fail
  refine (toHeap_calls A1.out.rd HS.out).mono ?_
  rintro e w2 hm
  obtain ⟨xa, xn, xc, ya, yn, yc, za, zn, zc, rfl, O2, hb2⟩ := hm.open_
  have A2 := Lib.hid (A1.out.below hb2)
  have X2 := Lib.hid O2.rd
  clear hb2 O2 A1 hm qla q0a q1a q2a
  go_wp2_with fail
  refine (sHeapFault_calls X2.out HS.out).mono ?_
  obtain ⟨p, hp⟩ : ∃ p, heapFault h = p := ⟨_, rfl⟩
  have HP := Lib.hid hp
  rw [hp]
  clear hp
  rintro e w3 ⟨rfl, hb3⟩
  have A3 := Lib.hid (A2.out.below hb3)
  clear hb3 X2 A2
  have hpp : (p != p) = false := by simp
  have qla := A3.out.row.lt
  have q0a := A3.out.row.cell 0
  have q1a := A3.out.row.cell 1
  have q2a := A3.out.row.cell 2
  simp at q0a q1a q2a
  go_wp2_with fail
  refine (toHeap_calls A3.out.rd HS.out).mono ?_
  rintro e w4 hm
  obtain ⟨xa, xn, xc, ya, yn, yc, za, zn, zc, rfl, O4, hb4⟩ := hm.open_
  have A4 := Lib.hid (A3.out.below hb4)
  have X4 := Lib.hid O4.rd
  clear hb4 O4 A3 hm qla q0a q1a q2a
  go_wp2_with fail
  refine (heapFault_calls (X4.out.alloc _) HS.out).mono ?_
  rw [HP.out]
  rintro e w5 ⟨rfl, hb5⟩
  have RX := Lib.hid (Row.new hb5)
  have A5 := Lib.hid (A4.out.below (below_past hb5))
  have X5 := Lib.hid ((X4.out.alloc (.cells #[.slice xa xn xc, .slice ya yn yc, .slice za zn zc] 31)).below hb5)
  clear hb5 A4 X4
  have A6 := A5
  have X6 := X5
  have RX6 := RX
  clear A5 X5 RX
  have qla := A6.out.row.lt
  have q0a := A6.out.row.cell 0
  have q1a := A6.out.row.cell 1
  have q2a := A6.out.row.cell 2
  simp at q0a q1a q2a
  have qlx := RX6.out.lt
  have q0x := RX6.out.cell 0
  have q1x := RX6.out.cell 1
  have q2x := RX6.out.cell 2
  simp at q0x q1x q2x
  have kB := Below.refl w5.heap.size w5
  go_wp2_with fail
  go_region_held3 (fun w' => w'.cell? ⟨w4.heap.size, 0, none⟩ = some (.slice xa xn xc) ∧ w'.cell? ⟨w4.heap.size, 1, none⟩ = some (.slice ya yn yc) ∧ w'.cell? ⟨w4.heap.size, 2, none⟩ = some (.slice za zn zc) ∧ w'.cell? ⟨w.heap.size, 0, none⟩ = some (.slice pa pn pc) ∧ w'.cell? ⟨w.heap.size, 1, none⟩ = some (.slice wa wn wk) ∧ w'.cell? ⟨w.heap.size, 2, none⟩ = some (.slice ma mn mc) ∧ Below w5.heap.size w5 w') (first | assumption | exact ⟨q0x, q1x, q2x, q0a, q1a, q2a, kB.drew⟩)
    (first
      | (go_at_call 10; obtain ⟨y0, y1, y2, y3, y4, y5, kb⟩ := ‹_ ∧ _ ∧ _ ∧ _ ∧ _ ∧ _ ∧ Below _ _ _›; refine (toHeap_calls (A6.out.rd.below kb) HS.out).mono ?_; rintro e w7 hm; obtain ⟨fa, fn, fc, ga, gn, gc, ha, hn, hc, rfl, O7, hb7⟩ := hm.open_; have hS' := keepHH ⟨y0, y1, y2, y3, y4, y5, kb⟩ hb7)
      | (go_at_call 12; obtain ⟨y0, y1, y2, y3, y4, y5, kb⟩ := ‹_ ∧ _ ∧ _ ∧ _ ∧ _ ∧ _ ∧ Below _ _ _›; refine (eqHeap_calls (X6.out.below kb) O7.rd HS.out).mono ?_; rintro e w8 ⟨rfl, hb8⟩; have hS'' := keepHH ⟨y0, y1, y2, y3, y4, y5, kb⟩ hb8))
  have B8 := Lib.hid (A6.out.bel.trans (hS''.2.2.2.2.2.2.mono A6.out.bel.size))
  clear hS'' hS' kB
  go_wp2_with fail
  go_ret
  exact ⟨rfl, B8.out⟩

set_option maxHeartbeats 800000 in
set_option maxRecDepth 100000 in
theorem lawLiveAt {pa wa ma : Option Addr} {pn pc wn wk mn mc : Nat} {h : Hp} {at_ : Int} {S : Nat → Prop} {w : World} (hT : HpR w S pa pn pc wa wn wk ma mn mc h) :
    Calls Try.prog 5 #[.agg #[.slice pa pn pc, .slice wa wn wk, .slice ma mn mc], .int .i64 at_] w fun e w' => e = .returned (.bool true) ∧ Below w.heap.size w w' := by
  have A0 := Lib.hid (InH.start hT)
  go_enter Try.func5, Try.ntmps5
  go_wp2_with fail
  refine (szHeap_calls A0.out.rd (by omega) (by omega)).mono ?_
  rintro e w1 ⟨rfl | ⟨r, rfl, r0, r1, hs⟩, hb1⟩
  · go_wp2_with fail
    go_ret
    exact ⟨rfl, (A0.out.below hb1).bel⟩
  have HS := Lib.hid hs
  have hr : ¬ (r < 0) := by omega
  have A1 := Lib.hid (A0.out.below hb1)
  have qla := A1.out.row.lt
  have q0a := A1.out.row.cell 0
  have q1a := A1.out.row.cell 1
  have q2a := A1.out.row.cell 2
  simp at q0a q1a q2a
  clear hs hb1 A0
  go_wp2_with fail
  refine (toHeap_calls A1.out.rd HS.out).mono ?_
  rintro e w2 hm
  obtain ⟨xa, xn, xc, ya, yn, yc, za, zn, zc, rfl, O2, hb2⟩ := hm.open_
  have A2 := Lib.hid (A1.out.below hb2)
  have X2 := Lib.hid O2.rd
  clear hb2 O2 A1 hm qla q0a q1a q2a
  go_wp2_with fail
  refine (sLiveAt_calls ⟨X2.out, HS.out⟩).mono ?_
  obtain ⟨⟨p, q⟩, hp⟩ : ∃ p, liveAt h at_ = p := ⟨_, rfl⟩
  have HP := Lib.hid hp
  rw [hp]
  clear hp
  rintro e w3 ⟨rfl, hb3⟩
  have A3 := Lib.hid (A2.out.below hb3)
  clear hb3 X2 A2
  have qla := A3.out.row.lt
  have q0a := A3.out.row.cell 0
  have q1a := A3.out.row.cell 1
  have q2a := A3.out.row.cell 2
  simp at q0a q1a q2a
  go_wp2_with fail
  have A3b := Lib.hid (A3.out.below ((Below.refl w3.heap.size w3).alloc (Nat.le_refl _) (.cells #[.int .i64 p, .int .i64 q] 43)))
  refine (toHeap_calls A3b.out.rd HS.out).mono ?_
  rintro e w4 hm
  obtain ⟨xa, xn, xc, ya, yn, yc, za, zn, zc, rfl, O4, hb4⟩ := hm.open_
  have RW := Lib.hid (Row.new hb4)
  have A4 := Lib.hid (A3b.out.below hb4)
  have X4 := Lib.hid O4.rd
  clear hb4 O4 A3 A3b hm qla q0a q1a q2a
  go_wp2_with fail
  refine (liveAt_calls ⟨X4.out.alloc _, HS.out⟩).mono ?_
  rw [HP.out]
  rintro e w5 ⟨rfl, hb5⟩
  have RX := Lib.hid (Row.new hb5)
  have A5 := Lib.hid (A4.out.below (below_past hb5))
  have X5 := Lib.hid ((X4.out.alloc (.cells #[.slice xa xn xc, .slice ya yn yc, .slice za zn zc] 31)).below hb5)
  have RW5 := RW.out.below (below_past hb5)
  clear hb5 A4 X4 RW
  have lw := RW5.lt
  have v0 := RW5.cell 0
  have v1 := RW5.cell 1
  simp at v0 v1
  clear RW5
  go_wp2_with fail
  have A5b := Lib.hid (A5.out.below ((Below.refl w5.heap.size w5).alloc (Nat.le_refl _) (.cells #[.int .i64 p, .int .i64 q] 43)))
  have X5b := Lib.hid (X5.out.alloc (.cells #[.int .i64 p, .int .i64 q] 43))
  have RX5 := Lib.hid (Row.below RX.out ((Below.refl w5.heap.size w5).alloc (Nat.le_refl _) (.cells #[.int .i64 p, .int .i64 q] 43)))
  refine eqPair_calls.mono ?_
  rintro e w6 ⟨rfl, hb6⟩
  have A6 := Lib.hid (A5b.out.below hb6)
  have X6 := Lib.hid (X5b.out.below hb6)
  have RX6 := Lib.hid (RX5.out.below hb6)
  clear hb6 A5 X5 A5b X5b RX RX5 v0 v1 lw
  have qla := A6.out.row.lt
  have q0a := A6.out.row.cell 0
  have q1a := A6.out.row.cell 1
  have q2a := A6.out.row.cell 2
  simp at q0a q1a q2a
  have qlx := RX6.out.lt
  have q0x := RX6.out.cell 0
  have q1x := RX6.out.cell 1
  have q2x := RX6.out.cell 2
  simp at q0x q1x q2x
  have kB := Below.refl w6.heap.size w6
  go_wp2_with fail
  go_region_held3 (fun w' => w'.cell? ⟨w4.heap.size, 0, none⟩ = some (.slice xa xn xc) ∧ w'.cell? ⟨w4.heap.size, 1, none⟩ = some (.slice ya yn yc) ∧ w'.cell? ⟨w4.heap.size, 2, none⟩ = some (.slice za zn zc) ∧ w'.cell? ⟨w.heap.size, 0, none⟩ = some (.slice pa pn pc) ∧ w'.cell? ⟨w.heap.size, 1, none⟩ = some (.slice wa wn wk) ∧ w'.cell? ⟨w.heap.size, 2, none⟩ = some (.slice ma mn mc) ∧ Below w6.heap.size w6 w') (first | assumption | exact ⟨q0x, q1x, q2x, q0a, q1a, q2a, kB.drew⟩)
    (first
      | (go_at_call 10; obtain ⟨y0, y1, y2, y3, y4, y5, kb⟩ := ‹_ ∧ _ ∧ _ ∧ _ ∧ _ ∧ _ ∧ Below _ _ _›; refine (toHeap_calls (A6.out.rd.below kb) HS.out).mono ?_; rintro e w7 hm; obtain ⟨fa, fn, fc, ga, gn, gc, ha, hn, hc, rfl, O7, hb7⟩ := hm.open_; have hS' := keepHH ⟨y0, y1, y2, y3, y4, y5, kb⟩ hb7)
      | (go_at_call 12; obtain ⟨y0, y1, y2, y3, y4, y5, kb⟩ := ‹_ ∧ _ ∧ _ ∧ _ ∧ _ ∧ _ ∧ Below _ _ _›; refine (eqHeap_calls (X6.out.below kb) O7.rd HS.out).mono ?_; rintro e w8 ⟨rfl, hb8⟩; have hS'' := keepHH ⟨y0, y1, y2, y3, y4, y5, kb⟩ hb8))
  have B8 := Lib.hid (A6.out.bel.trans (hS''.2.2.2.2.2.2.mono A6.out.bel.size))
  clear hS'' hS' kB
  go_wp2_with fail
  go_ret
  exact ⟨rfl, B8.out⟩

set_option maxHeartbeats 800000 in
set_option maxRecDepth 100000 in
theorem lawHeldIn {pa wa ma : Option Addr} {pn pc wn wk mn mc : Nat} {h : Hp} {S : Nat → Prop} {w : World} (hT : HpR w S pa pn pc wa wn wk ma mn mc h) :
    Calls Try.prog 6 #[.agg #[.slice pa pn pc, .slice wa wn wk, .slice ma mn mc]] w fun e w' => e = .returned (.bool true) ∧ Below w.heap.size w w' := by
  have A0 := Lib.hid (InH.start hT)
  go_enter Try.func6, Try.ntmps6
  go_wp2_with fail
  refine (szHeap_calls A0.out.rd (by omega) (by omega)).mono ?_
  rintro e w1 ⟨rfl | ⟨r, rfl, r0, r1, hs⟩, hb1⟩
  · go_wp2_with fail
    go_ret
    exact ⟨rfl, (A0.out.below hb1).bel⟩
  have HS := Lib.hid hs
  have hr : ¬ (r < 0) := by omega
  have A1 := Lib.hid (A0.out.below hb1)
  have qla := A1.out.row.lt
  have q0a := A1.out.row.cell 0
  have q1a := A1.out.row.cell 1
  have q2a := A1.out.row.cell 2
  simp at q0a q1a q2a
  clear hs hb1 A0
  go_wp2_with fail
  refine (toHeap_calls A1.out.rd HS.out).mono ?_
  rintro e w2 hm
  obtain ⟨xa, xn, xc, ya, yn, yc, za, zn, zc, rfl, O2, hb2⟩ := hm.open_
  have A2 := Lib.hid (A1.out.below hb2)
  have X2 := Lib.hid O2.rd
  clear hb2 O2 A1 hm qla q0a q1a q2a
  go_wp2_with fail
  refine (sHeldIn_calls ⟨X2.out, HS.out⟩).mono ?_
  obtain ⟨⟨p, q⟩, hp⟩ : ∃ p, heldIn h = p := ⟨_, rfl⟩
  have HP := Lib.hid hp
  rw [hp]
  clear hp
  rintro e w3 ⟨rfl, hb3⟩
  have A3 := Lib.hid (A2.out.below hb3)
  clear hb3 X2 A2
  have qla := A3.out.row.lt
  have q0a := A3.out.row.cell 0
  have q1a := A3.out.row.cell 1
  have q2a := A3.out.row.cell 2
  simp at q0a q1a q2a
  go_wp2_with fail
  have A3b := Lib.hid (A3.out.below ((Below.refl w3.heap.size w3).alloc (Nat.le_refl _) (.cells #[.int .i64 p, .int .i64 q] 43)))
  refine (toHeap_calls A3b.out.rd HS.out).mono ?_
  rintro e w4 hm
  obtain ⟨xa, xn, xc, ya, yn, yc, za, zn, zc, rfl, O4, hb4⟩ := hm.open_
  have RW := Lib.hid (Row.new hb4)
  have A4 := Lib.hid (A3b.out.below hb4)
  have X4 := Lib.hid O4.rd
  clear hb4 O4 A3 A3b hm qla q0a q1a q2a
  go_wp2_with fail
  refine (heldIn_calls ⟨X4.out.alloc _, HS.out⟩).mono ?_
  rw [HP.out]
  rintro e w5 ⟨rfl, hb5⟩
  have RX := Lib.hid (Row.new hb5)
  have A5 := Lib.hid (A4.out.below (below_past hb5))
  have X5 := Lib.hid ((X4.out.alloc (.cells #[.slice xa xn xc, .slice ya yn yc, .slice za zn zc] 31)).below hb5)
  have RW5 := RW.out.below (below_past hb5)
  clear hb5 A4 X4 RW
  have lw := RW5.lt
  have v0 := RW5.cell 0
  have v1 := RW5.cell 1
  simp at v0 v1
  clear RW5
  go_wp2_with fail
  have A5b := Lib.hid (A5.out.below ((Below.refl w5.heap.size w5).alloc (Nat.le_refl _) (.cells #[.int .i64 p, .int .i64 q] 43)))
  have X5b := Lib.hid (X5.out.alloc (.cells #[.int .i64 p, .int .i64 q] 43))
  have RX5 := Lib.hid (Row.below RX.out ((Below.refl w5.heap.size w5).alloc (Nat.le_refl _) (.cells #[.int .i64 p, .int .i64 q] 43)))
  refine eqPair_calls.mono ?_
  rintro e w6 ⟨rfl, hb6⟩
  have A6 := Lib.hid (A5b.out.below hb6)
  have X6 := Lib.hid (X5b.out.below hb6)
  have RX6 := Lib.hid (RX5.out.below hb6)
  clear hb6 A5 X5 A5b X5b RX RX5 v0 v1 lw
  have qla := A6.out.row.lt
  have q0a := A6.out.row.cell 0
  have q1a := A6.out.row.cell 1
  have q2a := A6.out.row.cell 2
  simp at q0a q1a q2a
  have qlx := RX6.out.lt
  have q0x := RX6.out.cell 0
  have q1x := RX6.out.cell 1
  have q2x := RX6.out.cell 2
  simp at q0x q1x q2x
  have kB := Below.refl w6.heap.size w6
  go_wp2_with fail
  go_region_held3 (fun w' => w'.cell? ⟨w4.heap.size, 0, none⟩ = some (.slice xa xn xc) ∧ w'.cell? ⟨w4.heap.size, 1, none⟩ = some (.slice ya yn yc) ∧ w'.cell? ⟨w4.heap.size, 2, none⟩ = some (.slice za zn zc) ∧ w'.cell? ⟨w.heap.size, 0, none⟩ = some (.slice pa pn pc) ∧ w'.cell? ⟨w.heap.size, 1, none⟩ = some (.slice wa wn wk) ∧ w'.cell? ⟨w.heap.size, 2, none⟩ = some (.slice ma mn mc) ∧ Below w6.heap.size w6 w') (first | assumption | exact ⟨q0x, q1x, q2x, q0a, q1a, q2a, kB.drew⟩)
    (first
      | (go_at_call 10; obtain ⟨y0, y1, y2, y3, y4, y5, kb⟩ := ‹_ ∧ _ ∧ _ ∧ _ ∧ _ ∧ _ ∧ Below _ _ _›; refine (toHeap_calls (A6.out.rd.below kb) HS.out).mono ?_; rintro e w7 hm; obtain ⟨fa, fn, fc, ga, gn, gc, ha, hn, hc, rfl, O7, hb7⟩ := hm.open_; have hS' := keepHH ⟨y0, y1, y2, y3, y4, y5, kb⟩ hb7)
      | (go_at_call 12; obtain ⟨y0, y1, y2, y3, y4, y5, kb⟩ := ‹_ ∧ _ ∧ _ ∧ _ ∧ _ ∧ _ ∧ Below _ _ _›; refine (eqHeap_calls (X6.out.below kb) O7.rd HS.out).mono ?_; rintro e w8 ⟨rfl, hb8⟩; have hS'' := keepHH ⟨y0, y1, y2, y3, y4, y5, kb⟩ hb8))
  have B8 := Lib.hid (A6.out.bel.trans (hS''.2.2.2.2.2.2.mono A6.out.bel.size))
  clear hS'' hS' kB
  go_wp2_with fail
  go_ret
  exact ⟨rfl, B8.out⟩
end Go.Proofs.Ytcnpckaacigbfaa

/- Pages that came in, opened to what is known of them in memory. -/
namespace Go.Proofs.Ytcnpckaacigbfaa
open Go.Joins Go.ChangeShapes Go.WideShapes Go.RowKit Go.Deep
set_option linter.unusedVariables false

theorem maxLen_le : maxLen ≤ 9223372036854775807 := by decide
section
variable {H : Type} {enc : TypeId × Value → H} {P : Program} {w : World} {base : Nat} {spare : Nat → Bool} {held : Bool}
/-- A slice that came in reads as a list, where each of its elements reads. -/
theorem lst_of_trod {α : Type} {K : Lay α} {t e : TypeId} {fuel : Nat} {cs : List Value} {x : DataW H × List MemPlace} (ht : P.underlying t = some (.slice e)) (hC : P.cellsOf e = K.sz) (hz : 0 < K.sz)
    (hK : ∀ (fuel : Nat) (cs : List Value) (x : DataW H × List MemPlace), cs.length = K.sz → DataW.trod enc P w base spare held fuel e cs = some x → ∃ d, K.rd w (fun _ => True) cs d)
    (h : DataW.trod enc P w base spare held fuel t cs = some x) : ∃ a n c xs, cs = [.slice a n c] ∧ n ≤ c ∧ c ≤ maxLen ∧ Lst K w (fun _ => True) a n xs := by
  rcases open_slice ht h with h0 | ⟨a, len, cap, m, n, D, Pl, hcs, hb, hl, hm, hmm, hx, hi⟩
  · exact ⟨none, 0, 0, [], h0.1, Nat.le_refl _, Nat.zero_le _, Lst.nil⟩
  · have hel : ∀ i, i < len → ∃ cs' d, cs'.length = K.sz ∧ (∀ j, j < K.sz → w.cell? ((a.add (i * K.sz)).add j) = cs'[j]?) ∧ K.rd w (fun _ => True) cs' d := by
      intro i hi'
      have him : i < m := by rw [hmm]; split <;> omega
      obtain ⟨cs', hc, ht'⟩ := hi i him
      rw [hC] at hc
      obtain ⟨_, hcl, hat⟩ := World.cells?_some hc
      obtain ⟨d, hd⟩ := hK _ _ _ hcl ht'
      exact ⟨cs', d, hcl, fun j hj => hat j hj, hd⟩
    have hlist : ∀ k, k ≤ len → ∃ xs : List α, xs.length = k ∧ ∀ (i : Nat) (d : α), xs[i]? = some d → ∃ cs', cs'.length = K.sz ∧ (∀ j, j < K.sz → w.cell? ((a.add (i * K.sz)).add j) = cs'[j]?) ∧ K.rd w (fun _ => True) cs' d := by
      intro k
      induction k with
      | zero => exact fun _ => ⟨[], rfl, fun i d hd => by simp at hd⟩
      | succ k ih =>
        intro hk
        obtain ⟨xs, hxl, hxs⟩ := ih (by omega)
        obtain ⟨cs', d, h1, h2, h3⟩ := hel k (by omega)
        refine ⟨xs ++ [d], by simp [hxl], fun i d' hd => ?_⟩
        by_cases e : i < k
        · rw [List.getElem?_append_left (by omega)] at hd; exact hxs i d' hd
        · have hi' : i = k := by have := (List.getElem?_eq_some_iff.1 hd).1; simp at this; omega
          subst hi'
          rw [List.getElem?_append_right (by omega), hxl, Nat.sub_self] at hd
          simp at hd; subst hd
          exact ⟨cs', h1, h2, h3⟩
    obtain ⟨xs, hxl, hxs⟩ := hlist len (Nat.le_refl _)
    refine ⟨some a, len, cap, xs, hcs, hl, hm, hxl, fun h0 => ?_⟩
    obtain ⟨b, off, spot⟩ := a
    obtain ⟨cs0, d0, hl0, hc0, _⟩ := hel 0 h0
    have e0 : w.cell? (((⟨b, off, spot⟩ : Addr).add (0 * K.sz)).add 0) = some (cs0[0]'(by omega)) := by rw [hc0 0 hz]; exact List.getElem?_eq_getElem _
    have hspot : spot = none := by simpa [Addr.add] using World.cell?_spot e0
    subst hspot
    have hb' : b < w.heap.size := by
      have := World.block_lt_of_cell? w _ e0
      rwa [add_block, add_block] at this
    refine ⟨b, off, rfl, hb', trivial, fun j d hd => ?_⟩
    obtain ⟨cs', h1, h2, h3⟩ := hxs j d hd
    refine ⟨cs', h1, fun i hi' => ?_, h3⟩
    rw [← h2 i hi', Go.WideShapes.add_plain, Go.WideShapes.add_plain]
end

section
variable {H : Type} {enc : TypeId × Value → H} {P : Program} {w : World} {base : Nat} {spare : Nat → Bool} {held : Bool}
theorem four_fields {t : TypeId} {f0 f1 f2 f3 : Field} {fuel : Nat} {c0 c1 c2 c3 : Value} {x : DataW H × List MemPlace} (hs : P.underlying t = some (.struct #[f0, f1, f2, f3])) (hone : oneCellFields P #[f0, f1, f2, f3] = true)
    (h : DataW.trod enc P w base spare held fuel t [c0, c1, c2, c3] = some x) :
    ∃ (n : Nat) (y0 y1 y2 y3 : DataW H × List MemPlace), DataW.trod enc P w base spare held n f0.type [c0] = some y0 ∧ DataW.trod enc P w base spare held n f1.type [c1] = some y1 ∧ DataW.trod enc P w base spare held n f2.type [c2] = some y2 ∧ DataW.trod enc P w base spare held n f3.type [c3] = some y3 := by
  obtain ⟨y0, y1, y2, y3, n, _, _, h0, h1, h2, h3⟩ := trod_struct4 hs h
  obtain ⟨o0, k0⟩ := hone_of hone 0 f0 rfl
  obtain ⟨o1, k1⟩ := hone_of hone 1 f1 rfl
  obtain ⟨o2, k2⟩ := hone_of hone 2 f2 rfl
  obtain ⟨o3, k3⟩ := hone_of hone 3 f3 rfl
  exact ⟨n, y0, y1, y2, y3, by simpa [o0, k0] using h0, by simpa [o1, k1] using h1, by simpa [o2, k2] using h2, by simpa [o3, k3] using h3⟩
end

section
variable {H : Type} {enc : TypeId × Value → H} {w : World} {base : Nat} {spare : Nat → Bool} {held : Bool}
theorem bool_of_trod {fuel : Nat} {cs : List Value} {x : DataW H × List MemPlace} (h : DataW.trod enc Try.prog w base spare held fuel 4 cs = some x) : ∃ d, KBool.rd w (fun _ => True) cs d := by
  obtain ⟨b, rfl, _⟩ := DataW.trod_bool Try.underlying4 h
  exact ⟨b, rfl⟩
theorem page_of_trod {fuel : Nat} {cs : List Value} {x : DataW H × List MemPlace} (hl : cs.length = 4) (h : DataW.trod enc Try.prog w base spare held fuel 88 cs = some x) : ∃ d, KPage.rd w (fun _ => True) cs d := by
  match cs, hl with
  | [c0, c1, c2, c3], _ =>
    obtain ⟨n, y0, y1, y2, y3, t0, t1, t2, t3⟩ := four_fields Try.underlying88 (by kernel_rfl) h
    obtain ⟨k, h0, _⟩ := DataW.trod_int Try.underlying2 t0
    obtain ⟨c, h1, _⟩ := DataW.trod_int Try.underlying2 t1
    obtain ⟨r, h3, _⟩ := DataW.trod_int Try.underlying2 t3
    obtain ⟨a, m, cc, us, h2, hm, hc, hL⟩ := lst_of_trod (K := KBool) Try.underlying58 (by kernel_rfl) (by decide) (fun _ _ _ _ h => bool_of_trod h) t2
    simp at h0 h1 h2 h3
    subst h0 h1 h2 h3
    exact ⟨⟨k, c, us, r⟩, KPage_rd_mk (p := ⟨k, c, us, r⟩) hm hc hL⟩
set_option maxRecDepth 100000 in
/-- A list of pages that came in. -/
theorem open_pages {r : Reach} {b0 : Nat} {v : Value} {d : DataW H} {p : List MemPlace} (hv : Value.okWide Try.prog w r b0 22 v) (h : DataW.Trod enc Try.prog w base spare held 22 v d p) :
    ∃ a n c ps, v = .slice a n c ∧ Lst KPage w (fun _ => True) a n ps ∧ n ≤ 9223372036854775807 := by
  obtain ⟨a0, l0, c0, rfl⟩ := Go.WideShapes.okWide_slice Try.underlying22 hv
  obtain ⟨fuel, hf⟩ := h
  obtain ⟨a, n, c, ps, hcs, hn, hc, hL⟩ := lst_of_trod (K := KPage) Try.underlying22 (by kernel_rfl) (by rw [KPage_sz]; omega) (fun _ _ _ hl h => page_of_trod hl h) hf
  simp [Value.cells] at hcs
  obtain ⟨rfl, rfl, rfl⟩ := hcs
  exact ⟨a0, l0, c0, ps, rfl, hL, Nat.le_trans hn (Nat.le_trans hc maxLen_le)⟩
set_option maxRecDepth 100000 in
/-- A page that came in. -/
theorem open_page {r : Reach} {b0 : Nat} {v : Value} {d : DataW H} {p : List MemPlace} (hv : Value.okWide Try.prog w r b0 88 v) (h : DataW.Trod enc Try.prog w base spare held 88 v d p) :
    ∃ (q : Pg) (a : Option Addr) (n c : Nat), v = .agg #[.int .i64 q.kind, .int .i64 q.cls, .slice a n c, .int .i64 q.run] ∧ n ≤ 9223372036854775807 ∧ Lst KBool w (fun _ => True) a n q.used := by
  obtain ⟨cs, rfl, hsz⟩ := okWide_struct Try.underlying88 hv
  obtain ⟨fuel, hf⟩ := h
  obtain ⟨q, hq⟩ := page_of_trod (by have h4 : Try.prog.cellsOf 88 = 4 := (by kernel_rfl)
                                     rw [h4] at hsz; simpa [Value.cells] using hsz) hf
  obtain ⟨a, n, c, hcs, hn, hc, hL⟩ := KPage_rd hq
  obtain ⟨l⟩ := cs
  simp [Value.cells] at hcs
  subst hcs
  exact ⟨q, a, n, c, rfl, Nat.le_trans hn (Nat.le_trans hc maxLen_le), hL⟩
end
end Go.Proofs.Ytcnpckaacigbfaa

/- A heap that came in, opened to what is known of it in memory. -/
namespace Go.Proofs.Ytcnpckaacigbfaa
open Go.Joins Go.ChangeShapes Go.WideShapes Go.RowKit Go.Deep
set_option linter.unusedVariables false

section
variable {H : Type} {enc : TypeId × Value → H} {P : Program} {w : World} {base : Nat} {spare : Nat → Bool} {held : Bool}
theorem three_fields {t : TypeId} {f0 f1 f2 : Field} {fuel : Nat} {c0 c1 c2 : Value} {x : DataW H × List MemPlace} (hs : P.underlying t = some (.struct #[f0, f1, f2])) (hone : oneCellFields P #[f0, f1, f2] = true)
    (h : DataW.trod enc P w base spare held fuel t [c0, c1, c2] = some x) :
    ∃ (n : Nat) (y0 y1 y2 : DataW H × List MemPlace), DataW.trod enc P w base spare held n f0.type [c0] = some y0 ∧ DataW.trod enc P w base spare held n f1.type [c1] = some y1 ∧ DataW.trod enc P w base spare held n f2.type [c2] = some y2 := by
  obtain ⟨y0, y1, y2, n, _, _, h0, h1, h2⟩ := trod_struct3 hs h
  obtain ⟨o0, k0⟩ := hone_of hone 0 f0 rfl
  obtain ⟨o1, k1⟩ := hone_of hone 1 f1 rfl
  obtain ⟨o2, k2⟩ := hone_of hone 2 f2 rfl
  exact ⟨n, y0, y1, y2, by simpa [o0, k0] using h0, by simpa [o1, k1] using h1, by simpa [o2, k2] using h2⟩
end

section
variable {H : Type} {enc : TypeId × Value → H} {w : World} {base : Nat} {spare : Nat → Bool} {held : Bool}
theorem int_of_trod {fuel : Nat} {cs : List Value} {x : DataW H × List MemPlace} (h : DataW.trod enc Try.prog w base spare held fuel 2 cs = some x) : ∃ d, KInt.rd w (fun _ => True) cs d := by
  obtain ⟨b, rfl, _⟩ := DataW.trod_int Try.underlying2 h
  exact ⟨b, rfl⟩
theorem mag_of_trod {fuel : Nat} {cs : List Value} {x : DataW H × List MemPlace} (h : DataW.trod enc Try.prog w base spare held fuel 23 cs = some x) : ∃ d, KMag.rd w (fun _ => True) cs d := by
  obtain ⟨a, n, c, xs, rfl, hn, hc, hL⟩ := lst_of_trod (K := KInt) Try.underlying23 (by kernel_rfl) (by decide) (fun _ _ _ _ h => int_of_trod h) h
  exact ⟨xs, KMag_rd_mk hn hc hL⟩
set_option maxRecDepth 100000 in
/-- A heap that came in. -/
theorem open_heap {r : Reach} {b0 : Nat} {v : Value} {d : DataW H} {p : List MemPlace} (hv : Value.okWide Try.prog w r b0 26 v) (h : DataW.Trod enc Try.prog w base spare held 26 v d p) :
    ∃ (q : Hp) (pa : Option Addr) (pn pc : Nat) (wa : Option Addr) (wn wk : Nat) (ma : Option Addr) (mn mc : Nat), v = .agg #[.slice pa pn pc, .slice wa wn wk, .slice ma mn mc] ∧ HpR w (fun _ => True) pa pn pc wa wn wk ma mn mc q := by
  obtain ⟨cs, rfl, hsz⟩ := okWide_struct Try.underlying26 hv
  have h3 : Try.prog.cellsOf 26 = 3 := (by kernel_rfl)
  rw [h3] at hsz
  obtain ⟨fuel, hf⟩ := h
  obtain ⟨l⟩ := cs
  match l, hsz with
  | [c0, c1, c2], _ =>
    obtain ⟨n, y0, y1, y2, t0, t1, t2⟩ := three_fields Try.underlying26 (by kernel_rfl) (by simpa [Value.cells] using hf)
    obtain ⟨pa, pn, pc, ps, e0, hp1, hp2, hL0⟩ := lst_of_trod (K := KPage) Try.underlying22 (by kernel_rfl) (by rw [KPage_sz]; omega) (fun _ _ _ hl h => page_of_trod hl h) t0
    obtain ⟨wa, wn, wk, ws, e1, hw1, hw2, hL1⟩ := lst_of_trod (K := KInt) Try.underlying23 (by kernel_rfl) (by decide) (fun _ _ _ _ h => int_of_trod h) t1
    obtain ⟨ma, mn, mc, ms, e2, hm1, hm2, hL2⟩ := lst_of_trod (K := KMag) Try.underlying24 (by kernel_rfl) (by decide) (fun _ _ _ _ h => mag_of_trod h) t2
    simp at e0 e1 e2
    subst e0 e1 e2
    exact ⟨⟨ps, ws, ms⟩, pa, pn, pc, wa, wn, wk, ma, mn, mc, rfl, hL0, hL1, hL2, hp1, hp2, hw1, hw2, hm1, hm2⟩
end
end Go.Proofs.Ytcnpckaacigbfaa

/- Chapter 5 of the model: heaps compared. -/
namespace Go.Proofs.Ytcnpckaacigbfaa
open Go.RowKit

theorem drewN_drewN (w : World) (a b : Nat) : ∃ c, (w.drewN a).drewN b = w.drewN c := by
  obtain ⟨k, hk⟩ : ∃ k, k = b := ⟨_, rfl⟩
  exact ⟨b + a, by simp [World.drewN, Nat.add_comm, Nat.add_left_comm, Nat.add_assoc]⟩

set_option maxHeartbeats 2000000 in
theorem l1Same_calls {a b : Option Addr} {n m c d : Nat} {xs ys : List Int} {w : World} (ha : Ints w a n xs) (hb : Ints w b m ys) (hn : n ≤ 17592186044416) (hm : m ≤ 17592186044416) :
    Calls Try.prog 60 #[.slice a n c, .slice b m d] w fun e w' => e = .returned (.bool (decide (xs = ys))) ∧ ∃ j, w' = w.drewN j := by
  have HL := Lib.hid ha.1
  have HL2 := Lib.hid hb.1
  by_cases hnm : n = m
  rotate_left
  · have HF : Hid (decide (xs = ys) = false) := by show _ = _; rw [decide_eq_false_iff_not]; rintro rfl; exact hnm (HL.out.symm.trans HL2.out)
    have hq : ((n : Int) != (m : Int)) = true := by simp; omega
    go_enter Try.func60, Try.ntmps60
    go_wp2_with fail
    go_ret
    exact ⟨ret_bool HF.out.symm, 0, rfl⟩
  subst hnm
  have hq : ((n : Int) != (n : Int)) = false := by simp
  go_enter Try.func60, Try.ntmps60
  go_wp2_with fail
  clear hq
  go_loopw [5] (fun i wr => ∃ k : Nat, k ≤ n ∧ i = .int .i64 k ∧ Hid (SameTo xs ys k) ∧ Hid (∃ j, wr = w.drewN j)) (fun i _ => n - (intOf i).toNat)
  case atStart => exact ⟨0, Nat.zero_le _, rfl, fun j hj => by omega, 0, rfl⟩
  case round =>
    obtain ⟨k, hk, rfl, HK, HJ⟩ := hrel
    have hstep : Hid (∀ q, ∃ j, wr.drewN q = w.drewN j) := fun q => by
      obtain ⟨j, hj⟩ := HJ.out
      rw [hj]; exact drewN_drewN w j q
    have hia : Ints wr a n xs := by obtain ⟨j, hj⟩ := HJ.out; rw [hj]; exact ha.drewN j
    have hib : Ints wr b n ys := by obtain ⟨j, hj⟩ := HJ.out; rw [hj]; exact hb.drewN j
    by_cases hlt : k < n
    · obtain ⟨b0, o0, rfl, d0, e0⟩ := hia.at_ hlt
      obtain ⟨b1, o1, rfl, d1, e1⟩ := hib.at_ hlt
      have hx : xs[k]? = some (xs.getD k 0) := by rw [List.getD_eq_getElem?_getD, List.getElem?_eq_getElem (by rw [HL.out]; exact hlt)]; rfl
      have hy : ys[k]? = some (ys.getD k 0) := by rw [List.getD_eq_getElem?_getD, List.getElem?_eq_getElem (by rw [HL2.out]; exact hlt)]; rfl
      have HX := Lib.hid (And.intro hx hy)
      generalize xs.getD k 0 = x at e0 HX
      generalize ys.getD k 0 = y at e1 HX
      clear hx hy
      by_cases he : x = y
      · have HN := Lib.hid (HK.out.succ (HX.out.1.trans (by rw [he]; exact HX.out.2.symm)))
        have hq : (x != y) = false := by simp [he]
        clear he
        go_wp2_with (go_quiet (fail))
        go_roundw
        case rel => exact ⟨k + 1, by omega, by go_num, HN, hstep.out _⟩
        case measure => simp [intOf]; omega
      · have HF : Hid (decide (xs = ys) = false) := by show _ = _; rw [decide_eq_false_iff_not]; exact ne_at HX.out.1 HX.out.2 he
        have hq : (x != y) = true := by simpa using he
        clear he
        go_wp2_with (go_quiet (fail))
        go_ret
        exact ⟨ret_bool HF.out.symm, hstep.out _⟩
    · have HF : Hid (decide (xs = ys) = true) := by show _ = _; rw [decide_eq_true_iff]; exact HK.out.all (by rw [HL.out]; omega) (by rw [HL2.out]; omega)
      go_wp2_with fail
      go_ret
      exact ⟨ret_bool HF.out.symm, HJ.out⟩

set_option maxRecDepth 100000 in
set_option maxHeartbeats 4000000 in
theorem sSameHeaps_calls {pa wa ma pa' wa' ma' : Option Addr} {pn pc wn wk mn mc pn' pc' wn' wk' mn' mc' : Nat} {g h : Hp} {S S' : Nat → Prop} {w : World} (hg : HpK w S pa pn pc wa wn wk ma mn mc g) (hh : HpK w S' pa' pn' pc' wa' wn' wk' ma' mn' mc' h) :
    Calls Try.prog 23 #[.agg #[.slice pa pn pc, .slice wa wn wk, .slice ma mn mc], .agg #[.slice pa' pn' pc', .slice wa' wn' wk', .slice ma' mn' mc']] w fun e w' => e = .returned (.bool (decide (g = h))) ∧ Below w.heap.size w w' := by
  have HG := Lib.hid hg
  have HH := Lib.hid hh
  obtain ⟨n1, n2, n3, _, _⟩ := hg.small
  obtain ⟨m1, m2, m3, _, _⟩ := hh.small
  have HLm := Lib.hid (And.intro hg.r.mg.1 hh.r.mg.1)
  clear hg hh
  have hB0 : Below w.heap.size w ((w.alloc (.cells #[.slice pa pn pc, .slice wa wn wk, .slice ma mn mc] 31)).alloc (.cells #[.slice pa' pn' pc', .slice wa' wn' wk', .slice ma' mn' mc'] 31)) := ((Below.refl _ _).alloc (Nat.le_refl _) _).alloc (by simp) _
  have HB0 := Lib.hid hB0
  clear hB0
  go_enter Try.func23, Try.ntmps23
  go_wp2_with fail
  refine (sSamePages_calls (HG.out.below HB0.out).r.pg (HH.out.below HB0.out).r.pg HG.out.short HH.out.short (by omega) (by omega)).mono ?_
  rintro e w1 ⟨rfl, hb1⟩
  obtain ⟨R0, R1, B1, _⟩ := two_new hb1
  have R0 : Row w1 w.heap.size 31 #[.slice pa pn pc, .slice wa wn wk, .slice ma mn mc] := R0
  have R1 : Row w1 (w.heap.size + 1) 31 #[.slice pa' pn' pc', .slice wa' wn' wk', .slice ma' mn' mc'] := R1
  have HB1 := Lib.hid B1
  clear hb1 B1
  rcases hp : decide (g.pages = h.pages) with _ | _
  · have HF : Hid (decide (g = h) = false) := by show _ = _; rw [decide_eq_false_iff_not]; rintro rfl; simp at hp
    clear hp
    go_wp2_with fail
    go_ret
    exact ⟨ret_bool HF.out.symm, HB1.out⟩
  have HP := Lib.hid hp
  clear hp
  have a1 := R0.cell 1
  have b1 := R1.cell 1
  have al := R0.lt
  have bl := R1.lt
  simp at a1 b1
  go_wp2_with fail
  refine (l1Same_calls ((HG.out.below HB1.out).r.wd.ints) ((HH.out.below HB1.out).r.wd.ints) (by omega) (by omega)).mono ?_
  rintro e w2 ⟨rfl, j2, hw2⟩
  have hb2 : Below w1.heap.size w1 w2 := by rw [hw2]; exact below_drewN (Below.refl _ _) _
  have R2 := R0.below hb2
  have R3 := R1.below hb2
  have HB2 := Lib.hid (HB1.out.trans (hb2.mono HB1.out.size))
  clear hb2 R0 R1 a1 b1 al bl hw2
  rcases hw : decide (g.words = h.words) with _ | _
  · have HF : Hid (decide (g = h) = false) := by show _ = _; rw [decide_eq_false_iff_not]; rintro rfl; simp at hw
    clear hw
    go_wp2_with fail
    go_ret
    exact ⟨ret_bool HF.out.symm, HB2.out⟩
  have HW := Lib.hid hw
  clear hw
  have a1 := R2.cell 2
  have b1 := R3.cell 2
  have al := R2.lt
  have bl := R3.lt
  simp at a1 b1
  by_cases hnm : mn = mn'
  rotate_left
  · have HF : Hid (decide (g = h) = false) := by show _ = _; rw [decide_eq_false_iff_not]; rintro rfl; exact hnm (HLm.out.1.symm.trans HLm.out.2)
    have hq : ((mn : Int) != (mn' : Int)) = true := by simp; omega
    go_wp2_with fail
    go_ret
    exact ⟨ret_bool HF.out.symm, HB2.out⟩
  subst hnm
  have hq : ((mn : Int) != (mn : Int)) = false := by simp
  go_wp2_with fail
  have HR := Lib.hid (And.intro R2 R3)
  clear hq R2 R3 a1 b1 al bl
  go_loopw [5] (fun i wr => ∃ k : Nat, k ≤ mn ∧ i = .int .i64 k ∧ Hid (SameTo g.mags h.mags k) ∧ Below w2.heap.size w2 wr) (fun i _ => mn - (intOf i).toNat)
  case atStart => exact ⟨0, Nat.zero_le _, rfl, fun j hj => by omega, Below.refl _ _⟩
  case round =>
    obtain ⟨k, hk, rfl, HK, hbw⟩ := hrel
    have HB3 := Lib.hid (HB2.out.trans (hbw.mono HB2.out.size))
    have R4 := HR.out.1.below hbw
    have R5 := HR.out.2.below hbw
    have a1 := R4.cell 2
    have b1 := R5.cell 2
    have al := R4.lt
    have bl := R5.lt
    simp at a1 b1
    clear R4 R5
    by_cases hlt : k < mn
    · obtain ⟨b0, o0, x, a0, l0, c0, rfl, d0, hp, e0, hlc0, hcm0, hu0⟩ := ((HG.out.below HB3.out).r.mg).mag_at hlt
      obtain ⟨b7, o7, y, a7, l7, c7, rfl, d7, hp', e7, hlc7, hcm7, hu7⟩ := ((HH.out.below HB3.out).r.mg).mag_at hlt
      have HX := Lib.hid (And.intro hp hp')
      have hs0 : l0 ≤ 17592186044416 := by have := HG.out.s.k.at_ hp; have := hu0.1; omega
      have hs7 : l7 ≤ 17592186044416 := by have := HH.out.s.k.at_ hp'; have := hu7.1; omega
      have HST : Hid (∀ n0 : Nat, Calls Try.prog 60 #[.slice a0 l0 c0, .slice a7 l7 c7] (wr.drewN n0) fun e w' => e = .returned (.bool (decide (x = y))) ∧ ∃ j, w' = wr.drewN j) := fun n0 =>
        (l1Same_calls (hu0.ints.drewN n0) (hu7.ints.drewN n0) hs0 hs7).mono (by
          rintro e w' ⟨rfl, j, rfl⟩
          exact ⟨rfl, drewN_drewN _ _ _⟩)
      clear hp hp' hu0 hu7 hcm0 hcm7
      rcases he : decide (x = y) with _ | _
      · have HF : Hid (decide (g = h) = false) := by
          show _ = _; rw [decide_eq_false_iff_not]; rintro rfl
          exact ne_at HX.out.1 HX.out.2 (by simpa using he) rfl
        rw [he] at HST
        clear he
        go_wp2_with (go_quiet ((go_at_call 60; exact HST.out _)))
        go_ret
        exact ⟨ret_bool HF.out.symm, below_drewN HB3.out _⟩
      · have HN := Lib.hid (HK.out.succ (HX.out.1.trans (by rw [show x = y by simpa using he]; exact HX.out.2.symm)))
        rw [he] at HST
        clear he
        go_wp2_with (go_quiet ((go_at_call 60; exact HST.out _)))
        go_roundw
        case rel => exact ⟨k + 1, by omega, by go_num, HN, below_drewN hbw _⟩
        case measure => simp [intOf]; omega
    · have HF : Hid (decide (g = h) = true) := by
        have h1 : g.pages = h.pages := by have := HP.out; simpa using this
        have h2 : g.words = h.words := by have := HW.out; simpa using this
        show _ = _; rw [decide_eq_true_iff]
        exact Hp.ext_ h1 h2 (HK.out.all (by rw [HLm.out.1]; omega) (by rw [HLm.out.2]; omega))
      go_wp2_with fail
      go_ret
      exact ⟨ret_bool HF.out.symm, HB3.out⟩
end Go.Proofs.Ytcnpckaacigbfaa

/- Chapter 5 of the model: new heaps. -/
namespace Go.Proofs.Ytcnpckaacigbfaa
open Go.RowKit

section
variable {w : World} {o b c : Obj} {t : TypeId} {cs : Array Value}
theorem fourB : Below w.heap.size w ((((w.alloc o).alloc (.cells cs t)).alloc b).alloc c).drew := (((((Below.refl _ _).alloc (Nat.le_refl _) _).alloc (by simp) _).alloc (by simp <;> omega) _).alloc (by simp <;> omega) _).drew
theorem four0 {a : Obj} : Row ((((w.alloc (.cells cs t)).alloc a).alloc b).alloc c).drew w.heap.size t cs := by
  refine Row.drew ?_
  unfold Row
  rw [heap_alloc_old _ _ (by simp <;> omega), heap_alloc_old _ _ (by simp <;> omega), heap_alloc_old _ _ (by simp)]
  exact heap_alloc_new _ _
theorem four1 : Row ((((w.alloc o).alloc (.cells cs t)).alloc b).alloc c).drew (w.heap.size + 1) t cs := by
  refine Row.drew ?_
  unfold Row
  rw [heap_alloc_old _ _ (by simp <;> omega), heap_alloc_old _ _ (by simp)]
  have := heap_alloc_new (w.alloc o) (.cells cs t)
  simpa using this
theorem four2 : Row ((((w.alloc o).alloc b).alloc (.cells cs t)).alloc c).drew (w.heap.size + 1 + 1) t cs := by
  refine Row.drew ?_
  unfold Row
  rw [heap_alloc_old _ _ (by simp)]
  have := heap_alloc_new ((w.alloc o).alloc b) (.cells cs t)
  simpa using this
theorem four3 : Row ((((w.alloc o).alloc b).alloc c).alloc (.cells cs t)).drew (w.heap.size + 1 + 1 + 1) t cs := by
  refine Row.drew ?_
  unfold Row
  have := heap_alloc_new (((w.alloc o).alloc b).alloc c) (.cells cs t)
  simpa using this
end
/-- Three slices, newly made, are a new heap. -/
theorem made_heap {w W : World} {p c q r x y z : Nat} {CP CW CM : Array Value} {u1 : Value} {u2 : Value} {u3 : Value} (HCP : ZeroRow (Value.agg #[.int .i64 0, .int .i64 0, .slice none 0 0, .int .i64 0]).cells.toList p CP) (HCW : ZeroRow (Value.int .i64 0).cells.toList q CW) (HCM : ZeroRow (Value.slice none 0 0).cells.toList r CM)
    (hq : q = p * 16) (hr : r = 4 * c) (hp : p ≤ 40) (hc : c ≤ 2) (hx : Row W x 60 CP) (hy : Row W y 2 CW) (hz : Row W z 23 CM) (hB : Below w.heap.size w W)
    (h1 : x ≠ y) (h2 : x ≠ z) (h3 : y ≠ z) (g1 : w.heap.size ≤ x) (g2 : w.heap.size ≤ y) (g3 : w.heap.size ≤ z) (e1 : u1 = .slice (some ⟨x, 0, none⟩) p p) (e2 : u2 = .slice (some ⟨y, 0, none⟩) q q) (e3 : u3 = .slice (some ⟨z, 0, none⟩) r r) :
    MakesHeap w (newHp p c) (.returned (.agg #[u1, u2, u3])) W := by
  subst hq hr e1 e2 e3
  exact ⟨_, _, _, _, _, _, rfl, HpO.mk3 (A := fun k => k = x) (B := fun k => k = y) (C := fun k => k = z) (Own.of_zero hx HCP rfl (KPage_own_mk (p := Pg.free) Own.nil) (by unfold maxLen; omega)) (Own.of_zero hy HCW rfl rfl (by unfold maxLen; omega)) (Own.of_zero (K := KMag) hz HCM rfl (KMag_own_mk Own.nil) (by unfold maxLen; omega))
    (fun k e => by omega) (fun k e => by omega) (fun k e => by omega) (fun k e f => h1 (e.symm.trans f)) (fun k e f => h2 (e.symm.trans f)) (fun k e f => h3 (e.symm.trans f)), hB⟩

set_option maxRecDepth 100000 in
set_option maxHeartbeats 2000000 in
theorem l5New_calls {p c : Nat} {w : World} (hp : p ≤ 40) (hc : c ≤ 2) :
    Calls Try.prog 50 #[.int .i64 p, .int .i64 c] w (MakesHeap w (newHp p c)) := by
  obtain ⟨ip, hip, hp0, hp1, hp2⟩ := info_parts infoPg
  obtain ⟨iw, hiw, hw0, hw1, hw2⟩ := info_parts info64
  obtain ⟨im, him, hm0, hm1, hm2⟩ := info_parts infoMg
  obtain ⟨q, hq⟩ : ∃ q, q = p * 16 := ⟨_, rfl⟩
  obtain ⟨r, hr⟩ : ∃ r, r = 4 * c := ⟨_, rfl⟩
  obtain ⟨CP, hCP, hmk1⟩ := make_eq (P := Try.prog) Try.underlying29 hip hp0 hp1 rfl p (by rw [hp2]; omega) (by omega)
  obtain ⟨CW, hCW, hmk2⟩ := make_eq (P := Try.prog) Try.underlying23 hiw hw0 hw1 rfl q (by rw [hw2]; omega) (by omega)
  obtain ⟨CM, hCM, hmk3⟩ := make_eq (P := Try.prog) Try.underlying24 him hm0 hm1 rfl r (by rw [hm2]; omega) (by omega)
  have hq2 : (p : Int) * 16 = (q : Int) := by omega
  have hr2 : 4 * (c : Int) = (r : Int) := by omega
  have HCP := Lib.hid hCP
  have HCW := Lib.hid hCW
  have HCM := Lib.hid hCM
  have HQ := Lib.hid hq
  have HRr := Lib.hid hr
  clear hq hr hCP hCW hCM
  go_enter Try.func50, Try.ntmps50
  go_wp2_with fail
  go_region
  all_goals (
    go_wp2_with fail
    refine bodyPost_ret (results_cell_row rfl _ _ (w.heap.size) _ _ _ _ rfl four0 Try.underlying31 rfl (by kernel_rfl)) rfl ?_
    exact made_heap HCP.out HCW.out HCM.out HQ.out HRr.out hp hc (by first | exact four1 | exact four2 | exact four3) (by first | exact four1 | exact four2 | exact four3) (by first | exact four1 | exact four2 | exact four3) fourB (by omega) (by omega) (by omega) (by omega) (by omega) (by omega) rfl rfl rfl)

set_option maxRecDepth 100000 in
set_option maxHeartbeats 2000000 in
theorem sNewHeap_calls {p c : Int} {w : World} :
    Calls Try.prog 13 #[.int .i64 p, .int .i64 c] w (RetsHeap w (newHeap p c)) := by
  have hres := heap_alloc_new w (.cells #[.int .i64 0, .slice none 0 0, .slice none 0 0, .slice none 0 0, .int .i64 0, .int .i64 0] 38)
  have hb : Below w.heap.size w (w.alloc (.cells #[.int .i64 0, .slice none 0 0, .slice none 0 0, .slice none 0 0, .int .i64 0, .int .i64 0] 38)) := (Below.refl _ _).alloc (Nat.le_refl _) _
  rcases h1 : within 0 40 [p] with _ | _
  · have HF : Hid (newHeap p c = (3, Hp.zero)) := by show _ = _; unfold newHeap; rw [if_neg (by rw [h1]; simp)]
    go_enter Try.func13, Try.ntmps13
    go_wp2_with fail
    refine l1In_calls.mono ?_
    rw [h1]
    rintro e w1 ⟨rfl, rfl⟩
    go_wp2_with (refine wpList_store_row rfl 38 _ _ rfl (w.heap.size) _ rfl rfl _ _ hres (by kernel_rfl) (by rfl) (by simp [Value.oneCell']) ?_)
    refine bodyPost_ret (results_cell_row rfl _ _ (w.heap.size) _ _ _ _ rfl (setRow_heap _ _ _ _ _ _ hres) Try.underlying38 rfl (by kernel_rfl)) rfl ?_
    exact heap_done hb (Nat.le_refl _) HpO.zero _ HF.out
  rcases h2 : within 1 2 [c] with _ | _
  · have HF : Hid (newHeap p c = (3, Hp.zero)) := by show _ = _; unfold newHeap; rw [if_neg (by rw [h2]; simp)]
    go_enter Try.func13, Try.ntmps13
    go_wp2_with fail
    refine l1In_calls.mono ?_
    rw [h1]
    rintro e w1 ⟨rfl, rfl⟩
    go_wp2_with fail
    refine l1In_calls.mono ?_
    rw [h2]
    rintro e w2 ⟨rfl, rfl⟩
    go_wp2_with (refine wpList_store_row rfl 38 _ _ rfl (w.heap.size) _ rfl rfl _ _ hres (by kernel_rfl) (by rfl) (by simp [Value.oneCell']) ?_)
    refine bodyPost_ret (results_cell_row rfl _ _ (w.heap.size) _ _ _ _ rfl (setRow_heap _ _ _ _ _ _ hres) Try.underlying38 rfl (by kernel_rfl)) rfl ?_
    exact heap_done hb (Nat.le_refl _) HpO.zero _ HF.out
  obtain ⟨m, rfl⟩ : ∃ m : Nat, p = m := ⟨p.toNat, by have := within_range h1; omega⟩
  obtain ⟨d, rfl⟩ : ∃ d : Nat, c = d := ⟨c.toNat, by have := within_range h2; omega⟩
  have hm40 : m ≤ 40 := by have := within_range h1; omega
  have hd2 : d ≤ 2 := by have := within_range h2; omega
  have HF : Hid (newHeap (m : Int) (d : Int) = (0, newHp m d)) := by show _ = _; unfold newHeap; rw [if_pos ⟨h1, h2⟩]; rfl
  go_enter Try.func13, Try.ntmps13
  go_wp2_with fail
  refine l1In_calls.mono ?_
  rw [h1]
  rintro e w1 ⟨rfl, rfl⟩
  go_wp2_with fail
  refine l1In_calls.mono ?_
  rw [h2]
  rintro e w2 ⟨rfl, rfl⟩
  go_wp2_with fail
  refine (l5New_calls hm40 hd2).mono ?_
  rintro e w3 ⟨vp, np, vw, nw, vm, nm, rfl, ho3, hb3⟩
  have hres3 := Row.new hb3
  have hb4 := hb.trans (hb3.mono (by simp))
  obtain ⟨pa, pc, wa, wc, ma, mc, rfl, rfl, rfl, _⟩ := ho3.shape
  have HO3 := Lib.hid (ho3.mono (S' := fun k => w.heap.size < k) (fun k hk _ => by simp at hk; omega))
  clear ho3 hb3 hres hb
  go_wp2_with (refine wpList_store_row rfl 38 _ _ rfl (w.heap.size) _ rfl rfl _ _ hres3 (by kernel_rfl) (by rfl) (by simp [Value.oneCell']) ?_)
  refine bodyPost_ret (results_cell_row rfl _ _ (w.heap.size) _ _ _ _ rfl (setRow_heap _ _ _ _ _ _ hres3) Try.underlying38 rfl (by kernel_rfl)) rfl ?_
  exact heap_done hb4 (Nat.le_refl _) HO3.out _ HF.out
end Go.Proofs.Ytcnpckaacigbfaa
