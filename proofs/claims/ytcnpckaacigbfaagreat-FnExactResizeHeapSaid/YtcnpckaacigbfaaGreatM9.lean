/- Joined texts (Impl5e, Impl5f, Impl5g, Spec5d, Law5d): steps of the proofs of chapter 5's laws. -/
import Derived.Deep.DeepCutAuto
import Derived.Deep.CutRange
import Derived.BigRegion
import Derived.Test.YtcnpckaacigbfaaGreatM6
import Derived.Test.YtcnpckaacigbfaaGreatM7
import Derived.Test.YtcnpckaacigbfaaGreatM8
set_option linter.unusedVariables false
set_option linter.unusedSimpArgs false
/- Chapter 5 of the program: heaps with so many pages. -/
namespace Go.Proofs.YtcnpckaacigbfaaGreat
open Go.RowKit

theorem infoPg : (Tryz.prog.info? 55).map (fun i => (i.zero, i.size, i.bytes)) = some (some (.agg #[.int .i64 0, .int .i64 0, .slice none 0 0, .int .i64 0]), 4, 48) := by kernel_rfl
theorem infoMg : (Tryz.prog.info? 27).map (fun i => (i.zero, i.size, i.bytes)) = some (some (.slice none 0 0), 1, 24) := by kernel_rfl
/-- Two slices, newly made, of pages and of words. -/
def Made2 (W : World) (p q : Nat) (CP CW : Array Value) (vp vw : Value) (wx : World) : Prop :=
  ∃ a b, vp = .slice (some ⟨a, 0, none⟩) p p ∧ vw = .slice (some ⟨b, 0, none⟩) q q ∧ a ≠ b ∧ W.heap.size ≤ a ∧ W.heap.size ≤ b ∧ Row wx a 55 CP ∧ Row wx b 2 CW ∧ Below W.heap.size W wx

theorem Row.drew {w : World} {b : Nat} {t : TypeId} {cs : Array Value} (h : Row w b t cs) : Row w.drew b t cs := h
theorem made2_pw (V : World) (p q : Nat) (CP CW : Array Value) : Made2 V p q CP CW (.slice (some ⟨V.heap.size, 0, none⟩) p p) (.slice (some ⟨V.heap.size + 1, 0, none⟩) q q) ((V.alloc (.cells CP 55)).alloc (.cells CW 2)).drew := by
  refine ⟨_, _, rfl, rfl, by omega, Nat.le_refl _, by omega, ?_, ?_, ?_⟩
  · exact Row.drew (Row.below (heap_alloc_new V _) ((Below.refl _ _).alloc (Nat.le_refl _) _))
  · have := heap_alloc_new (V.alloc (.cells CP 55)) (.cells CW 2)
    exact Row.drew (by simpa [Row] using this)
  · exact ((((Below.refl _ _).alloc (Nat.le_refl _) _).alloc (by simp) _)).drew
theorem made2_wp (V : World) (p q : Nat) (CP CW : Array Value) : Made2 V p q CP CW (.slice (some ⟨V.heap.size + 1, 0, none⟩) p p) (.slice (some ⟨V.heap.size, 0, none⟩) q q) ((V.alloc (.cells CW 2)).alloc (.cells CP 55)).drew := by
  refine ⟨_, _, rfl, rfl, by omega, by omega, Nat.le_refl _, ?_, ?_, ?_⟩
  · have := heap_alloc_new (V.alloc (.cells CW 2)) (.cells CP 55)
    exact Row.drew (by simpa [Row] using this)
  · exact Row.drew (Row.below (heap_alloc_new V _) ((Below.refl _ _).alloc (Nat.le_refl _) _))
  · exact ((((Below.refl _ _).alloc (Nat.le_refl _) _).alloc (by simp) _)).drew

set_option maxRecDepth 100000 in
set_option maxHeartbeats 2000000 in
theorem withPages_calls {pa wa ma : Option Addr} {pn pc wn wk mn mc p : Nat} {h : Hp} {S : Nat → Prop} {w : World} (ho : HpO w S (.slice pa pn pc) pn (.slice wa wn wk) wn (.slice ma mn mc) mn h) (hp : p ≤ 40) (hS : ∀ k, S k → k < w.heap.size) :
    Calls Tryz.prog 47 #[.agg #[.slice pa pn pc, .slice wa wn wk, .slice ma mn mc], .int .i64 p] w fun e w' => ∃ vp vw nw, e = .returned (.agg #[vp, vw, .slice ma mn mc]) ∧ HpO w' (fun k => S k ∨ w.heap.size ≤ k) vp p vw nw (.slice ma mn mc) mn (fitHp h p) ∧ Below w.heap.size w w' := by
  obtain ⟨ip, hip, hp0, hp1, hp2⟩ := info_parts infoPg
  obtain ⟨iw, hiw, hw0, hw1, hw2⟩ := info_parts info64
  obtain ⟨q, hq⟩ : ∃ q, q = p * 16 := ⟨_, rfl⟩
  obtain ⟨CP, hCP, hmk1⟩ := make_eq (P := Tryz.prog) Tryz.underlying26 hip hp0 hp1 rfl p (by rw [hp2]; omega) (by omega)
  obtain ⟨CW, hCW, hmk2⟩ := make_eq (P := Tryz.prog) Tryz.underlying27 hiw hw0 hw1 rfl q (by rw [hw2]; omega) (by omega)
  have hq2 : (p : Int) * 16 = (q : Int) := by omega
  have HCP := Lib.hid hCP
  have HCW := Lib.hid hCW
  have HO := Lib.hid ho
  have HQ := Lib.hid hq
  clear hq ho hCP hCW
  go_enter Tryz.func47, Tryz.ntmps47
  go_upto_region 1 with (fail)
  obtain ⟨V, hV⟩ : ∃ V, V = (w.alloc (.cells #[.slice pa pn pc, .slice wa wn wk, .slice ma mn mc] 30)).alloc (.cells #[.slice none 0 0, .slice none 0 0, .slice none 0 0] 30) := ⟨_, rfl⟩
  rw [← hV]
  have HV := Lib.hid hV
  clear hV
  go_cut [5, 6] (fun vp vw wx => Made2 V p q CP CW vp vw wx)
  case first =>
    go_region
    · go_wp2_with fail
      go_meet
      case rel => exact made2_pw V p q CP CW
    · go_wp2_with fail
      go_meet
      case rel => exact made2_wp V p q CP CW
  case rest =>
    obtain ⟨a, b, rfl, rfl, hab, ha, hb, hRa, hRb, hBV⟩ := hcut
    have hB0 : Below w.heap.size w wc := by
      refine Below.trans ?_ (hBV.mono (by rw [HV.out]; simp; omega))
      rw [HV.out]
      exact ((Below.refl _ _).alloc (Nat.le_refl _) _).alloc (by simp) _
    have hVs : V.heap.size = w.heap.size + 2 := by rw [HV.out]; simp
    have hR0 : Row wc w.heap.size 30 #[.slice pa pn pc, .slice wa wn wk, .slice ma mn mc] := by
      refine (hBV.block _ (by omega)).trans ?_
      rw [HV.out]
      exact (Row.below (heap_alloc_new w _) ((Below.refl _ _).alloc (Nat.le_refl _) _))
    have hR1 : Row wc (w.heap.size + 1) 30 #[.slice none 0 0, .slice none 0 0, .slice none 0 0] := by
      refine (hBV.block _ (by omega)).trans ?_
      rw [HV.out]
      have := heap_alloc_new (w.alloc (.cells #[.slice pa pn pc, .slice wa wn wk, .slice ma mn mc] 30)) (.cells #[.slice none 0 0, .slice none 0 0, .slice none 0 0] 30)
      simpa using this
    obtain ⟨S1, S2, S3, h1, h2, h3, d1, d2, d3, e1, e2, e3⟩ := HO.out.ex
    have H1 := Lib.hid (h1.below hB0)
    have H2 := Lib.hid (h2.below hB0)
    have H3 := Lib.hid (h3.below hB0)
    have HD := Lib.hid (And.intro d1 (And.intro d2 (And.intro d3 (And.intro e1 (And.intro e2 e3)))))
    have HRa := Lib.hid hRa
    have HRb := Lib.hid hRb
    have HR1 := Lib.hid hR1
    have HB0 := Lib.hid hB0
    have q0 := hR0.cell 0
    have ql := hR0.lt
    simp at q0
    have HV2 := Lib.hid hVs
    have HSs := Lib.hid hS
    have ha' : w.heap.size + 2 ≤ a := by omega
    have hb' : w.heap.size + 2 ≤ b := by omega
    clear h1 h2 h3 d1 d2 d3 e1 e2 e3 hRa hRb hR1 hB0 hVs hBV hmk1 hmk2 hS ha hb hq2
    have hszP := Lib.hid (show (Tryz.prog.info? 55).map (·.size) = some KPage.sz by rw [hip, Option.map_some, hp1]; rfl)
    have hng := Lib.hid (show ¬ S1 a from fun hx => by have := HSs.out a (HD.out.1 a hx); omega)
    have hq640 : q ≤ 640 := by rw [HQ.out]; omega
    have hszW := Lib.hid (show (Tryz.prog.info? 2).map (·.size) = some KInt.sz by rw [hiw, Option.map_some, hw1]; rfl)
    have hngb := Lib.hid (show ¬ S2 b from fun hx => by have := HSs.out b (HD.out.2.1 b hx); omega)
    go_wp2_with (first
      | (with_reducible show wpList _ _ _ (Go.Oper.mk (some 15) (Go.Op.call _) _ _ _ _ :: _) _ _
         go_must (refine wpList_copy_fit (K := KPage) rfl (.tmp 12) (.tmp 14) 26 rfl 55 Tryz.underlying26 hszP.out one_page (m := p) (g := a) (n := pn) (c := pc) (ao := pa) (d := Pg.free) rfl rfl H1.out HRa.out HCP.out rfl (fun _ => KPage_own_mk (p := Pg.free) Own.nil) hng.out (by unfold maxLen; omega) ?_)
         intro w3 ho3 ht3
         have H31 := Lib.hid ho3
         have H32 := Lib.hid (H2.out.turn ht3 (fun k hk _ e => by have := HSs.out k (HD.out.2.1 k hk); omega))
         have H33 := Lib.hid (H3.out.turn ht3 (fun k hk _ e => by have := HSs.out k (HD.out.2.2.1 k hk); omega))
         have H3b := Lib.hid (ht3.row HRb.out (fun e => hab e.symm))
         have H3r := Lib.hid (ht3.row HR1.out (fun e => by omega))
         have hR3 := ht3.row hR0 (fun e => by omega)
         have HB3 := Lib.hid (ht3.below HB0.out (by have := HB0.out.size; omega) (fun k hk => by omega))
         have q1 := hR3.cell 1
         have q2 := hR3.cell 2
         have ql3 := hR3.lt
         simp at q1 q2
         clear ho3 ht3)
      | (with_reducible show wpList _ _ _ (Go.Oper.mk (some 19) (Go.Op.call _) _ _ _ _ :: _) _ _
         go_must (refine wpList_copy_fit (K := KInt) rfl (.tmp 16) (.tmp 18) 27 rfl 2 Tryz.underlying27 hszW.out one_int (m := q) (g := b) (n := wn) (c := wk) (ao := wa) (d := (0 : Int)) rfl rfl H32.out H3b.out HCW.out rfl (fun _ => rfl) hngb.out (by unfold maxLen; omega) ?_)
         intro w4 ho4 ht4
         have H41 := Lib.hid (H31.out.turn ht4 (fun k hk _ e => by
           rcases hk with hk | hk
           · have := HSs.out k (HD.out.1 k hk); omega
           · exact hab (hk.symm.trans e)))
         have H42 := Lib.hid ho4
         have H43 := Lib.hid (H33.out.turn ht4 (fun k hk _ e => by have := HSs.out k (HD.out.2.2.1 k hk); omega))
         have hres := ht4.row H3r.out (fun e => by omega)
         have hR4 := ht4.row hR3 (fun e => by omega)
         have HB4 := Lib.hid (ht4.below HB3.out (by have := HB3.out.size; omega) (fun k hk => by omega))
         have q5 := hR4.cell 2
         have ql4 := hR4.lt
         simp at q5
         clear ho4 ht4)
      | (refine wpList_store_row rfl 30 _ _ rfl (w.heap.size + 1) _ rfl rfl _ _ hres (by kernel_rfl) (by rfl) (by simp [Value.oneCell']) ?_))
    refine bodyPost_ret (results_cell_row rfl _ _ (w.heap.size + 1) _ _ _ _ rfl (setRow_heap _ _ _ _ _ _ hres) Tryz.underlying30 rfl (by kernel_rfl)) rfl ?_
    have L1 : ∀ k, S1 k → k < w.heap.size := fun k hk => HSs.out k (HD.out.1 k hk)
    have L2 : ∀ k, S2 k → k < w.heap.size := fun k hk => HSs.out k (HD.out.2.1 k hk)
    have L3 : ∀ k, S3 k → k < w.heap.size := fun k hk => HSs.out k (HD.out.2.2.1 k hk)
    have hO2 : Own KInt 2 w4 (fun k => S2 k ∨ k = b) (.slice (some ⟨b, 0, none⟩) q q) q (fitHp h p).words := by
      have := H42.out
      simp only [fitHp]; rw [← HQ.out]; exact this
    refine ⟨_, _, q, rfl, HpO.mk3 (A := fun k => (S1 k ∨ k = a)) (B := fun k => (S2 k ∨ k = b)) (C := S3) (H41.out.turn (Turn.setRow _ _ _) ?_) (hO2.turn (Turn.setRow _ _ _) ?_) (H43.out.turn (Turn.setRow _ _ _) ?_) ?_ ?_ ?_ ?_ ?_ ?_, below_setRow HB4.out (by omega) _⟩
    · rintro k (hk | rfl) _ e
      · have := L1 k hk; omega
      · omega
    · rintro k (hk | rfl) _ e
      · have := L2 k hk; omega
      · omega
    · rintro k hk _ e
      have := L3 k hk; omega
    · rintro k (hk | rfl)
      · exact .inl (HD.out.1 k hk)
      · exact .inr (by omega)
    · rintro k (hk | rfl)
      · exact .inl (HD.out.2.1 k hk)
      · exact .inr (by omega)
    · exact fun k hk => .inl (HD.out.2.2.1 k hk)
    · rintro k (hk | rfl) (hq | hq)
      · exact HD.out.2.2.2.1 k hk hq
      · have := L1 k hk; omega
      · have := L2 _ hq; omega
      · exact hab hq
    · rintro k (hk | rfl) hq
      · exact HD.out.2.2.2.2.1 k hk hq
      · have := L3 _ hq; omega
    · rintro k (hk | rfl) hq
      · exact HD.out.2.2.2.2.2 k hk hq
      · have := L3 _ hq; omega

theorem fit_new (p c : Nat) : fitHp ⟨[], [], List.replicate (4 * c) []⟩ p = newHp p c := by simp [fitHp, newHp, fitTo]
set_option maxRecDepth 100000 in
set_option maxHeartbeats 2000000 in
theorem newHeap_calls {p c : Int} {w : World} :
    Calls Tryz.prog 11 #[.int .i64 p, .int .i64 c] w (RetsHeap w (newHeap p c)) := by
  rcases h1 : within 0 40 [p] with _ | _
  · have HF : Hid (newHeap p c = (3, Hp.zero)) := by show _ = _; unfold newHeap; rw [if_neg (by rw [h1]; simp)]
    have hres := heap_alloc_old (w.alloc (.cells #[.int .i64 0, .slice none 0 0, .slice none 0 0, .slice none 0 0, .int .i64 0, .int .i64 0] 34)) (.cells #[.int .i64 p] 2) (r := w.heap.size) (by simp)
    rw [heap_alloc_new] at hres
    have hb : Below w.heap.size w ((w.alloc (.cells #[.int .i64 0, .slice none 0 0, .slice none 0 0, .slice none 0 0, .int .i64 0, .int .i64 0] 34)).alloc (.cells #[.int .i64 p] 2)) := ((Below.refl _ _).alloc (Nat.le_refl _) _).alloc (by simp) _
    go_enter Tryz.func11, Tryz.ntmps11
    go_wp2_with fail
    refine (allWithin_calls (Ints.one (by simp)) (by omega)).mono ?_
    rw [h1]
    rintro e w1 ⟨rfl, rfl⟩
    go_wp2_with (refine wpList_store_row rfl 34 _ _ rfl (w.heap.size) _ rfl rfl _ _ hres (by kernel_rfl) (by rfl) (by simp [Value.oneCell']) ?_)
    refine bodyPost_ret (results_cell_row rfl _ _ (w.heap.size) _ _ _ _ rfl (setRow_heap _ _ _ _ _ _ hres) Tryz.underlying34 rfl (by kernel_rfl)) rfl ?_
    exact heap_done hb (Nat.le_refl _) HpO.zero _ HF.out
  rcases h2 : within 1 2 [c] with _ | _
  · have HF : Hid (newHeap p c = (3, Hp.zero)) := by show _ = _; unfold newHeap; rw [if_neg (by rw [h2]; simp)]
    obtain ⟨hres, _, _, hb, _⟩ := three_new (w := w) (o1 := .cells #[.int .i64 0, .slice none 0 0, .slice none 0 0, .slice none 0 0, .int .i64 0, .int .i64 0] 34) (o2 := .cells #[.int .i64 p] 2) (o3 := .cells #[.int .i64 c] 2) (Below.refl _ _)
    go_enter Tryz.func11, Tryz.ntmps11
    go_wp2_with fail
    refine (allWithin_calls (Ints.one (by simp)) (by omega)).mono ?_
    rw [h1]
    rintro e w1 ⟨rfl, rfl⟩
    go_wp2_with fail
    refine (allWithin_calls (Ints.one (by simp)) (by omega)).mono ?_
    rw [h2]
    rintro e w2 ⟨rfl, rfl⟩
    go_wp2_with (refine wpList_store_row rfl 34 _ _ rfl (w.heap.size) _ rfl rfl _ _ hres (by kernel_rfl) (by rfl) (by simp [Value.oneCell']) ?_)
    refine bodyPost_ret (results_cell_row rfl _ _ (w.heap.size) _ _ _ _ rfl (setRow_heap _ _ _ _ _ _ hres) Tryz.underlying34 rfl (by kernel_rfl)) rfl ?_
    exact heap_done hb (Nat.le_refl _) HpO.zero _ HF.out
  obtain ⟨m, rfl⟩ : ∃ m : Nat, p = m := ⟨p.toNat, by have := within_range h1; omega⟩
  obtain ⟨d, rfl⟩ : ∃ d : Nat, c = d := ⟨c.toNat, by have := within_range h2; omega⟩
  have hm40 : m ≤ 40 := by have := within_range h1; omega
  have hd2 : d ≤ 2 := by have := within_range h2; omega
  have HF : Hid (newHeap (m : Int) (d : Int) = (0, newHp m d)) := by show _ = _; unfold newHeap; rw [if_pos ⟨h1, h2⟩]; rfl
  obtain ⟨im, him, hm0, hm1, hm2⟩ := info_parts infoMg
  obtain ⟨q, hq⟩ : ∃ q, q = 4 * d := ⟨_, rfl⟩
  obtain ⟨CM, hCM, hmk⟩ := make_eq (P := Tryz.prog) Tryz.underlying28 him hm0 hm1 rfl q (by rw [hm2]; omega) (by omega)
  have hq2 : (d : Int) * 4 = (q : Int) := by omega
  have HQ := Lib.hid hq
  have hq8 : q ≤ 8 := by omega
  obtain ⟨g0, g1, g2, gb, gs⟩ := three_new (w := w) (o1 := .cells #[.int .i64 0, .slice none 0 0, .slice none 0 0, .slice none 0 0, .int .i64 0, .int .i64 0] 34) (o2 := .cells #[.int .i64 m] 2) (o3 := .cells #[.int .i64 d] 2) (Below.refl _ _)
  obtain ⟨W, hW⟩ : ∃ W, W = (((w.alloc (.cells #[.int .i64 0, .slice none 0 0, .slice none 0 0, .slice none 0 0, .int .i64 0, .int .i64 0] 34)).alloc (.cells #[.int .i64 m] 2)).alloc (.cells #[.int .i64 d] 2)) := ⟨_, rfl⟩
  have hWs : W.heap.size = w.heap.size + 3 := by rw [hW]; simp
  rw [← hW] at g0 gb
  have HO0 : Hid (HpO (W.alloc (.cells CM 27)) (fun k => k = W.heap.size) (.slice none 0 0) 0 (.slice none 0 0) 0 (.slice (some ⟨W.heap.size, 0, none⟩) q q) q ⟨[], [], List.replicate (4 * d) []⟩) := by
    refine HpO.mk3 (A := fun _ => False) (B := fun _ => False) (C := fun k => k = W.heap.size) Own.nil Own.nil ?_ (fun _ h => h.elim) (fun _ h => h.elim) (fun _ h => h) (fun _ h => h.elim) (fun _ h => h.elim) (fun _ h => h.elim)
    rw [← HQ.out]
    exact Own.of_zero (K := KMag) (heap_alloc_new W _) hCM rfl (KMag_own_mk Own.nil) (by unfold maxLen; omega)
  have HG := Lib.hid (And.intro g0 gb)
  have HW := Lib.hid hW
  have HWs := Lib.hid hWs
  clear g0 g1 g2 gb gs hq hCM hW hWs
  go_enter Tryz.func11, Tryz.ntmps11
  go_wp2_with fail
  refine (allWithin_calls (Ints.one (by simp)) (by omega)).mono ?_
  rw [h1]
  rintro e w1 ⟨rfl, rfl⟩
  go_wp2_with fail
  refine (allWithin_calls (Ints.one (by simp)) (by omega)).mono ?_
  rw [h2]
  rintro e w2 ⟨rfl, rfl⟩
  rw [← HW.out]
  go_wp2_with fail
  refine (withPages_calls HO0.out hm40 (fun k hk => by simp; omega)).mono ?_
  rintro e w3 ⟨vp, vw, nw, rfl, ho3, hb3⟩
  have hres := ((hb3.block w.heap.size (by have := HWs.out; simp; omega)).trans (heap_alloc_old W _ (by have := HWs.out; omega))).trans HG.out.1
  have hb : Below w.heap.size w w3 := (HG.out.2.alloc (by have := HWs.out; omega) (.cells CM 27)).trans (hb3.mono (by have := HWs.out; simp; omega))
  rw [fit_new] at ho3
  obtain ⟨pa, pc, wa, wc, ma, mc, rfl, rfl, e3, _⟩ := ho3.shape
  have HO3 := Lib.hid (ho3.mono (S' := fun k => w.heap.size < k) (fun k hk _ => by have := HWs.out; simp at hk; omega))
  clear ho3 hb3 e3
  go_wp2_with (refine wpList_store_row rfl 34 _ _ rfl (w.heap.size) _ rfl rfl _ _ hres (by kernel_rfl) (by rfl) (by simp [Value.oneCell']) ?_)
  refine bodyPost_ret (results_cell_row rfl _ _ (w.heap.size) _ _ _ _ rfl (setRow_heap _ _ _ _ _ _ hres) Tryz.underlying34 rfl (by kernel_rfl)) rfl ?_
  exact heap_done hb (Nat.le_refl _) HO3.out _ HF.out
end Go.Proofs.YtcnpckaacigbfaaGreat

/- Chapter 5 of the program: where a block lives; how many are kept; heaps compared. -/
namespace Go.Proofs.YtcnpckaacigbfaaGreat
open Go.RowKit

/-- What is known of a heap ahead of a walk. -/
structure HpK (w : World) (S : Nat → Prop) (pa : Option Addr) (pn pc : Nat) (wa : Option Addr) (wn wk : Nat) (ma : Option Addr) (mn mc : Nat) (h : Hp) : Prop where
  r : HpR w S pa pn pc wa wn wk ma mn mc h
  s : HpS 1048576 h
theorem HpK.below {w w' : World} {S : Nat → Prop} {pa wa ma : Option Addr} {pn pc wn wk mn mc : Nat} {h : Hp} (hk : HpK w S pa pn pc wa wn wk ma mn mc h) (hb : Below w.heap.size w w') : HpK w' S pa pn pc wa wn wk ma mn mc h := ⟨hk.r.below hb, hk.s⟩
theorem HpK.short {w : World} {S : Nat → Prop} {pa wa ma : Option Addr} {pn pc wn wk mn mc : Nat} {h : Hp} (hk : HpK w S pa pn pc wa wn wk ma mn mc h) : ShortP 17592186044416 h.pages := fun p hp => Nat.le_trans (hk.s.u p hp) (by decide)
theorem HpK.small {w : World} {S : Nat → Prop} {pa wa ma : Option Addr} {pn pc wn wk mn mc : Nat} {h : Hp} (hk : HpK w S pa pn pc wa wn wk ma mn mc h) : pn ≤ 1048576 ∧ wn ≤ 1048576 ∧ mn ≤ 1048576 ∧ pn ≤ pc ∧ pc ≤ 9223372036854775807 := by
  have h1 := hk.r.pg.1; have h2 := hk.r.wd.1; have h3 := hk.r.mg.1
  have := hk.s.p; have := hk.s.w; have := hk.s.m
  exact ⟨by omega, by omega, by omega, hk.r.p1, Nat.le_trans hk.r.p2 (by decide)⟩

set_option maxRecDepth 100000 in
set_option maxHeartbeats 4000000 in
theorem liveAt_calls {pa wa ma : Option Addr} {pn pc wn wk mn mc : Nat} {h : Hp} {at_ : Int} {S : Nat → Prop} {w : World} (hk : HpK w S pa pn pc wa wn wk ma mn mc h) :
    Calls Tryz.prog 27 #[.agg #[.slice pa pn pc, .slice wa wn wk, .slice ma mn mc], .int .i64 at_] w (Pair w (liveAt h at_)) := by
  have HK := Lib.hid hk
  obtain ⟨n1, n2, n3, n4, n5⟩ := hk.small
  clear hk
  have hB0 : Below w.heap.size w ((w.alloc (.cells #[.slice pa pn pc, .slice wa wn wk, .slice ma mn mc] 30)).alloc (.cells #[.int .i64 0, .int .i64 0] 45)) := ((Below.refl _ _).alloc (Nat.le_refl _) _).alloc (by simp) _
  have HB0 := Lib.hid hB0
  clear hB0
  go_enter Tryz.func27, Tryz.ntmps27
  go_wp2_with fail
  refine (heapFault_calls (HK.out.r.below HB0.out) HK.out.s).mono ?_
  rintro e w1 ⟨rfl, hb1⟩
  obtain ⟨R0, R1, B1, _⟩ := two_new hb1
  have R0 : Row w1 w.heap.size 30 #[.slice pa pn pc, .slice wa wn wk, .slice ma mn mc] := R0
  have HR1 : Hid (Row w1 (w.heap.size + 1) 45 #[.int .i64 0, .int .i64 0]) := R1
  have HB1 := Lib.hid B1
  clear hb1 R1 B1
  have q0 := R0.cell 0
  have q1 := R0.cell 1
  have q2 := R0.cell 2
  have ql := R0.lt
  simp at q0 q1 q2
  by_cases hf : heapFault h = 0
  rotate_left
  · have HF : Hid (liveAt h at_ = (heapFault h, 0)) := by show _ = _; unfold liveAt; rw [if_neg hf]
    have hq : (heapFault h != 0) = true := by simpa using hf
    clear hf
    have hres := HR1.out
    go_wp2_with (refine wpList_store_row rfl 45 _ _ rfl (w.heap.size + 1) _ rfl rfl _ _ hres (by kernel_rfl) (by rfl) (by simp [Value.oneCell']) ?_)
    refine bodyPost_ret (results_cell_row rfl _ _ (w.heap.size + 1) _ _ _ _ rfl (setRow_heap _ _ _ _ _ _ hres) Tryz.underlying45 rfl (by kernel_rfl)) rfl ?_
    exact pair_done HB1.out (by omega) _ HF.out
  have HF0 : Hid (liveAt h at_ = liveIn h at_) := by show _ = _; unfold liveAt; rw [if_pos hf]
  have HFk := Lib.hid hf
  rw [hf]
  clear hf
  go_wp2_with fail
  refine (blockStart_calls (HK.out.below HB1.out).r.pg HK.out.short n4 n5 (by omega)).mono ?_
  rintro e w2 ⟨rfl, hb2⟩
  obtain ⟨⟨c, s⟩, hcs⟩ : ∃ p, blockStart h.pages at_ = p := ⟨_, rfl⟩
  have R2 := R0.below hb2
  have HB2 := Lib.hid (HB1.out.trans (hb2.mono HB1.out.size))
  have HR2 := Lib.hid (HR1.out.below hb2)
  have HCS := Lib.hid hcs
  rw [hcs]
  clear hb2 R0 q0 q1 q2 ql hcs HR1
  have q0 := R2.cell 0
  have q1 := R2.cell 1
  have q2 := R2.cell 2
  have ql := R2.lt
  simp at q0 q1 q2
  have hx : w.heap.size + 1 < w2.heap.size := HR2.out.lt
  by_cases hc : c = 0
  rotate_left
  · have HF : Hid (liveAt h at_ = (c, s)) := by
      show _ = _; rw [HF0.out]; unfold liveIn; rw [HCS.out]; simp only; rw [if_neg hc]
      have := HCS.out
      unfold blockStart at this
      split at this
      · rename_i hh; injection this with h1 h2; exact absurd h1.symm hc
      · injection this with h1 h2; rw [h2]
    have hq : (c == 0) = false := by simpa using hc
    have hres := (heap_alloc_old w2 (.cells #[.int .i64 c, .int .i64 s] 45) hx).trans HR2.out
    have hB3 := HB2.out.alloc HB2.out.size (.cells #[.int .i64 c, .int .i64 s] 45)
    clear hc
    go_wp2_with (refine wpList_store_row rfl 45 _ _ rfl (w.heap.size + 1) _ rfl rfl _ _ hres (by kernel_rfl) (by rfl) (by simp [Value.oneCell']) ?_)
    refine bodyPost_ret (results_cell_row rfl _ _ (w.heap.size + 1) _ _ _ _ rfl (setRow_heap _ _ _ _ _ _ hres) Tryz.underlying45 rfl (by kernel_rfl)) rfl ?_
    exact pair_done hB3 (by omega) _ HF.out
  subst hc
  go_wp2_with fail
  refine (isKept_calls ((HK.out.below HB2.out).r.mg.alloc _) (fun m hm => Nat.le_trans (HK.out.s.k m hm) (by decide)) (by omega)).mono ?_
  rintro e w3 ⟨rfl, hb3⟩
  have R3 := (Row.below (w := w2.alloc (.cells #[.int .i64 0, .int .i64 s] 45)) (Row.below R2 ((Below.refl _ _).alloc (Nat.le_refl _) _)) hb3)
  have RS := Row.new hb3
  have hres := (Row.below (HR2.out) (below_past hb3))
  have hB3 := HB2.out.trans ((below_past hb3).mono HB2.out.size)
  clear hb3 R2 q0 q1 q2 ql
  have s0 := RS.cell 0
  have s1 := RS.cell 1
  have sl := RS.lt
  simp at s0 s1
  rcases hkp : hasIn h.mags.flatten s with _ | _
  · have HF : Hid (liveAt h at_ = (0, s)) := by
      show _ = _; rw [HF0.out]; unfold liveIn Hp.kept; rw [HCS.out]; simp only; rw [if_pos trivial, if_neg (by rw [hkp]; decide)]
    clear hkp
    go_wp2_with (refine wpList_store_row rfl 45 _ _ rfl (w.heap.size + 1) _ rfl rfl _ _ hres (by kernel_rfl) (by rfl) (by simp [Value.oneCell']) ?_)
    refine bodyPost_ret (results_cell_row rfl _ _ (w.heap.size + 1) _ _ _ _ rfl (setRow_heap _ _ _ _ _ _ hres) Tryz.underlying45 rfl (by kernel_rfl)) rfl ?_
    exact pair_done hB3 (by omega) _ HF.out
  · have HF : Hid (liveAt h at_ = (4, 0)) := by
      show _ = _; rw [HF0.out]; unfold liveIn Hp.kept; rw [HCS.out]; simp only; rw [if_pos trivial, if_pos hkp]
    clear hkp
    go_wp2_with (refine wpList_store_row rfl 45 _ _ rfl (w.heap.size + 1) _ rfl rfl _ _ hres (by kernel_rfl) (by rfl) (by simp [Value.oneCell']) ?_)
    refine bodyPost_ret (results_cell_row rfl _ _ (w.heap.size + 1) _ _ _ _ rfl (setRow_heap _ _ _ _ _ _ hres) Tryz.underlying45 rfl (by kernel_rfl)) rfl ?_
    exact pair_done hB3 (by omega) _ HF.out

set_option maxRecDepth 100000 in
set_option maxHeartbeats 4000000 in
theorem heldIn_calls {pa wa ma : Option Addr} {pn pc wn wk mn mc : Nat} {h : Hp} {S : Nat → Prop} {w : World} (hk : HpK w S pa pn pc wa wn wk ma mn mc h) :
    Calls Tryz.prog 22 #[.agg #[.slice pa pn pc, .slice wa wn wk, .slice ma mn mc]] w (Pair w (heldIn h)) := by
  have HK := Lib.hid hk
  obtain ⟨n1, n2, n3, n4, n5⟩ := hk.small
  have HM := Lib.hid hk.r.mg.1
  clear hk
  have hB0 : Below w.heap.size w ((w.alloc (.cells #[.slice pa pn pc, .slice wa wn wk, .slice ma mn mc] 30)).alloc (.cells #[.int .i64 0, .int .i64 0] 45)) := ((Below.refl _ _).alloc (Nat.le_refl _) _).alloc (by simp) _
  have HB0 := Lib.hid hB0
  clear hB0
  go_enter Tryz.func22, Tryz.ntmps22
  go_wp2_with fail
  refine (heapFault_calls (HK.out.r.below HB0.out) HK.out.s).mono ?_
  rintro e w1 ⟨rfl, hb1⟩
  obtain ⟨R0, R1, B1, _⟩ := two_new hb1
  have R0 : Row w1 w.heap.size 30 #[.slice pa pn pc, .slice wa wn wk, .slice ma mn mc] := R0
  have HR1 : Hid (Row w1 (w.heap.size + 1) 45 #[.int .i64 0, .int .i64 0]) := R1
  have HB1 := Lib.hid B1
  clear hb1 R1 B1
  have q0 := R0.cell 0
  have q1 := R0.cell 1
  have q2 := R0.cell 2
  have ql := R0.lt
  simp at q0 q1 q2
  by_cases hf : heapFault h = 0
  rotate_left
  · have HF : Hid (heldIn h = (heapFault h, 0)) := by show _ = _; unfold heldIn; rw [if_neg hf]
    have hq : (heapFault h != 0) = true := by simpa using hf
    clear hf
    have hres := HR1.out
    go_wp2_with (refine wpList_store_row rfl 45 _ _ rfl (w.heap.size + 1) _ rfl rfl _ _ hres (by kernel_rfl) (by rfl) (by simp [Value.oneCell']) ?_)
    refine bodyPost_ret (results_cell_row rfl _ _ (w.heap.size + 1) _ _ _ _ rfl (setRow_heap _ _ _ _ _ _ hres) Tryz.underlying45 rfl (by kernel_rfl)) rfl ?_
    exact pair_done HB1.out (by omega) _ HF.out
  have HF0 : Hid (heldIn h = (0, (h.kept.length : Int))) := by show _ = _; unfold heldIn; rw [if_pos hf]
  have HSm := Lib.hid (mags_small hf).2.2.2
  rw [hf]
  clear hf
  go_wp2_with fail
  go_loopw [4, 6, 16] (fun z _ i wr => ∃ k s : Nat, k ≤ mn ∧ i = .int .i64 k ∧ z = .int .i64 s ∧ Hid (s = (h.mags.take k).flatten.length) ∧ Row wr (w.heap.size + 1) 45 #[.int .i64 0, .int .i64 0] ∧ Below w.heap.size w wr) (fun _ _ i _ => mn - (intOf i).toNat)
  case atStart => exact ⟨0, 0, Nat.zero_le _, rfl, rfl, by simp [Hid], HR1.out, HB1.out⟩
  case round =>
    clear R0 q0 q1 q2 ql
    obtain ⟨k, s, hk, rfl, rfl, HS, hR, hbw⟩ := hrel
    have hs : s ≤ 16 := by have := flatten_take_le h.mags k; have := HS.out; have := HSm.out; unfold Hp.kept at this; omega
    by_cases hlt : k < mn
    · obtain ⟨b0, o0, m, a0, l0, c0, rfl, d0, hp, e0, hlc0, hcm0, hu0⟩ := ((HK.out.r.mg).below hbw).mag_at hlt
      have HN : Hid (s + l0 = (h.mags.take (k + 1)).flatten.length) := by
        show _ = _; rw [flatten_snoc hp, List.length_append, ← HS.out, hu0.1]
      have hs2 : s + l0 ≤ 16 := by have := flatten_take_le h.mags (k + 1); have := HN.out; have := HSm.out; unfold Hp.kept at this; omega
      clear hp hu0 hcm0
      go_wp2_with fail
      go_roundw
      case rel => exact ⟨k + 1, s + l0, by omega, by go_num, by go_num, HN, hR, hbw⟩
      case measure => simp [intOf]; omega
    · have HF : Hid (heldIn h = (0, (s : Int))) := by
        show _ = _; rw [HF0.out]
        have := HS.out
        rw [List.take_of_length_le (by have := HM.out; omega)] at this
        unfold Hp.kept; rw [this]
      go_wp2_with (refine wpList_store_row rfl 45 _ _ rfl (w.heap.size + 1) _ rfl rfl _ _ hR (by kernel_rfl) (by rfl) (by simp [Value.oneCell']) ?_)
      refine bodyPost_ret (results_cell_row rfl _ _ (w.heap.size + 1) _ _ _ _ rfl (setRow_heap _ _ _ _ _ _ hR) Tryz.underlying45 rfl (by kernel_rfl)) rfl ?_
      exact pair_done hbw (by omega) _ HF.out

set_option maxRecDepth 100000 in
set_option maxHeartbeats 4000000 in
theorem sameHeaps_calls {pa wa ma pa' wa' ma' : Option Addr} {pn pc wn wk mn mc pn' pc' wn' wk' mn' mc' : Nat} {g h : Hp} {S S' : Nat → Prop} {w : World} (hg : HpK w S pa pn pc wa wn wk ma mn mc g) (hh : HpK w S' pa' pn' pc' wa' wn' wk' ma' mn' mc' h) :
    Calls Tryz.prog 19 #[.agg #[.slice pa pn pc, .slice wa wn wk, .slice ma mn mc], .agg #[.slice pa' pn' pc', .slice wa' wn' wk', .slice ma' mn' mc']] w fun e w' => e = .returned (.bool (decide (g = h))) ∧ Below w.heap.size w w' := by
  have HG := Lib.hid hg
  have HH := Lib.hid hh
  obtain ⟨n1, n2, n3, _, _⟩ := hg.small
  obtain ⟨m1, m2, m3, _, _⟩ := hh.small
  clear hg hh
  have hB0 : Below w.heap.size w ((w.alloc (.cells #[.slice pa pn pc, .slice wa wn wk, .slice ma mn mc] 30)).alloc (.cells #[.slice pa' pn' pc', .slice wa' wn' wk', .slice ma' mn' mc'] 30)) := ((Below.refl _ _).alloc (Nat.le_refl _) _).alloc (by simp) _
  have HB0 := Lib.hid hB0
  clear hB0
  go_enter Tryz.func19, Tryz.ntmps19
  go_wp2_with fail
  refine (samePages_calls (HG.out.below HB0.out).r.pg (HH.out.below HB0.out).r.pg HG.out.short HH.out.short (by omega) (by omega)).mono ?_
  rintro e w1 ⟨rfl, hb1⟩
  obtain ⟨R0, R1, B1, _⟩ := two_new hb1
  have R0 : Row w1 w.heap.size 30 #[.slice pa pn pc, .slice wa wn wk, .slice ma mn mc] := R0
  have R1 : Row w1 (w.heap.size + 1) 30 #[.slice pa' pn' pc', .slice wa' wn' wk', .slice ma' mn' mc'] := R1
  have HB1 := Lib.hid B1
  clear hb1 B1
  rcases hp : decide (g.pages = h.pages) with _ | _
  · have HF : Hid (decide (g = h) = false) := by show _ = _; rw [decide_eq_false_iff_not]; rintro rfl; simp at hp
    clear hp
    go_wp2_with fail
    go_ret
    exact ⟨ret_bool HF.out.symm, HB1.out⟩
  have HP := Lib.hid hp
  clear hp
  have a1 := R0.cell 1
  have b1 := R1.cell 1
  have al := R0.lt
  have bl := R1.lt
  simp at a1 b1
  go_wp2_with fail
  refine (equalI_calls ((HG.out.below HB1.out).r.wd.ints) ((HH.out.below HB1.out).r.wd.ints) (by omega) (by omega)).mono ?_
  rintro e w2 ⟨rfl, hb2⟩
  have R2 := R0.below hb2
  have R3 := R1.below hb2
  have HB2 := Lib.hid (HB1.out.trans (hb2.mono HB1.out.size))
  clear hb2 R0 R1 a1 b1 al bl
  rcases hw : decide (g.words = h.words) with _ | _
  · have HF : Hid (decide (g = h) = false) := by show _ = _; rw [decide_eq_false_iff_not]; rintro rfl; simp at hw
    clear hw
    go_wp2_with fail
    go_ret
    exact ⟨ret_bool HF.out.symm, HB2.out⟩
  have HW := Lib.hid hw
  clear hw
  have a1 := R2.cell 2
  have b1 := R3.cell 2
  have al := R2.lt
  have bl := R3.lt
  simp at a1 b1
  go_wp2_with fail
  refine (equalMags_calls (HG.out.below HB2.out).r.mg (HH.out.below HB2.out).r.mg (fun m hm => Nat.le_trans (HG.out.s.k m hm) (by decide)) (fun m hm => Nat.le_trans (HH.out.s.k m hm) (by decide)) (by omega) (by omega)).mono ?_
  rintro e w3 ⟨rfl, hb3⟩
  have HB3 := Lib.hid (HB2.out.trans (hb3.mono HB2.out.size))
  have HF : Hid (decide (g = h) = decide (g.mags = h.mags)) := by
    have h1 : g.pages = h.pages := by have := HP.out; simpa using this
    have h2 : g.words = h.words := by have := HW.out; simpa using this
    apply decide_eq_decide.2
    exact ⟨fun e => by rw [e], fun e => Hp.ext_ h1 h2 e⟩
  clear hb3
  go_wp2_with fail
  go_ret
  exact ⟨ret_bool HF.out.symm, HB3.out⟩
end Go.Proofs.YtcnpckaacigbfaaGreat

/- Chapter 5 of the program: the blocks that live. -/
namespace Go.Proofs.YtcnpckaacigbfaaGreat
open Go.RowKit

theorem Own.toI {t : TypeId} {w : World} {B n : Nat} {v : Value} {xs : List Int} (h : Own KInt t w (fun k => B ≤ k) v n xs) : OwnI w B v n xs := by
  have hl := h.1
  rcases h.2 with ⟨rfl, rfl⟩ | ⟨g, cap, cur, F, rfl, hg, hr, _⟩
  · obtain rfl := List.eq_nil_of_length_eq_zero hl
    exact OwnI.nil _ _
  · obtain ⟨hg, cur, hr, h1, h2, h3, h4⟩ := h.rowI
    exact OwnI.of_form hg hr h1 h2 (by omega) h4 hl
/-- What a list of places owns while it is made, above two blocks. -/
structure OwnB (w w' : World) (v : Value) (n k : Nat) (xs : List Int) : Prop where
  own : Own KInt 2 w' (fun q => w.heap.size + 2 ≤ q) v n xs
  le : n ≤ k
theorem OwnB.below {w w' w2 : World} {v : Value} {n k : Nat} {xs : List Int} (h : OwnB w w' v n k xs) (hb : Below w'.heap.size w' w2) : OwnB w w2 v n k xs := ⟨h.own.below hb, h.le⟩
theorem OwnB.next {w w' : World} {v : Value} {n k : Nat} {h : Hp} (ho : OwnB w w' v n k (blocksTo h k)) (hn : blocksTo h (k + 1) = blocksTo h k) : OwnB w w' v n (k + 1) (blocksTo h (k + 1)) := ⟨by rw [hn]; exact ho.own, by have := ho.le; omega⟩
theorem OwnB.shape {w w' : World} {v : Value} {n k : Nat} {xs : List Int} (h : OwnB w w' v n k xs) : ∃ a c, v = .slice a n c ∧ n ≤ k := by
  obtain ⟨a, c, e, _⟩ := h.own.shape
  exact ⟨a, c, e, h.le⟩
/-- A place at which a block begins that lives. -/
theorem live_at {h : Hp} (hv : pagesFault h.pages = 0) {a : Nat} (ha : a < h.pages.length * 16) : liveIn h (a : Int) = (0, (a : Int)) ↔ ∃ b, blockAt h.pages a = some b ∧ b.start = (a : Int) ∧ hasIn h.mags.flatten (a : Int) = false := by
  have hh : heldAt h.pages (a : Int) = match blockAt h.pages a with | some b => (0, some b) | none => (4, none) := by
    unfold heldAt; rw [if_pos hv, if_pos (within_yes1 (by omega) (by omega)), Int.toNat_natCast]; cases blockAt h.pages a <;> rfl
  unfold liveIn blockStart Hp.kept
  rw [hh]
  cases hb : blockAt h.pages a with
  | none => simp
  | some b =>
    simp only
    rw [if_pos trivial]
    cases hk : hasIn h.mags.flatten b.start with
    | true =>
      rw [if_pos rfl]
      constructor
      · intro e; injection e with e; simp at e
      · rintro ⟨b', e1, e2, e3⟩
        injection e1 with e1; subst e1
        rw [e2] at hk; rw [hk] at e3; cases e3
    | false =>
      rw [if_neg (by decide)]
      constructor
      · intro e
        injection e with _ e
        exact ⟨b, rfl, e, by rw [← e]; exact hk⟩
      · rintro ⟨b', e1, e2, e3⟩
        injection e1 with e1; subst e1
        rw [e2]

set_option maxRecDepth 100000 in
set_option maxHeartbeats 8000000 in
theorem liveBlocks_calls {pa wa ma : Option Addr} {pn pc wn wk mn mc : Nat} {h : Hp} {S : Nat → Prop} {w : World} (hk : HpK w S pa pn pc wa wn wk ma mn mc h) :
    Calls Tryz.prog 21 #[.agg #[.slice pa pn pc, .slice wa wn wk, .slice ma mn mc]] w (RetsInts w (liveBlocks h)) := by
  obtain ⟨ib, hib, hb0, hb1, hb2⟩ := info_parts info64
  have HK := Lib.hid hk
  obtain ⟨n1, n2, n3, n4, n5⟩ := hk.small
  have HP := Lib.hid hk.r.pg.1
  have HW := Lib.hid hk.r.wd.1
  clear hk
  have hB0 : Below w.heap.size w ((w.alloc (.cells #[.slice pa pn pc, .slice wa wn wk, .slice ma mn mc] 30)).alloc (.cells #[.int .i64 0, .slice none 0 0] 43)) := ((Below.refl _ _).alloc (Nat.le_refl _) _).alloc (by simp) _
  have HB0 := Lib.hid hB0
  clear hB0
  go_enter Tryz.func21, Tryz.ntmps21
  go_wp2_with fail
  refine (heapFault_calls (HK.out.r.below HB0.out) HK.out.s).mono ?_
  rintro e w1 ⟨rfl, hb1'⟩
  obtain ⟨R0, R1, B1, hs1⟩ := two_new hb1'
  have R0 : Row w1 w.heap.size 30 #[.slice pa pn pc, .slice wa wn wk, .slice ma mn mc] := R0
  have HR1 : Hid (Row w1 (w.heap.size + 1) 43 #[.int .i64 0, .slice none 0 0]) := R1
  have HB1 := Lib.hid B1
  clear hb1' R1 B1
  have q0 := R0.cell 0
  have q1 := R0.cell 1
  have q2 := R0.cell 2
  have ql := R0.lt
  simp at q0 q1 q2
  by_cases hf : heapFault h = 0
  rotate_left
  · have HF : Hid (liveBlocks h = (heapFault h, [])) := by show _ = _; unfold liveBlocks; rw [if_neg hf]
    have hq : (heapFault h != 0) = true := by simpa using hf
    clear hf
    have hres := HR1.out
    go_wp2_with (refine wpList_store_row rfl 43 _ _ rfl (w.heap.size + 1) _ rfl rfl _ _ hres (by kernel_rfl) (by rfl) (by simp [Value.oneCell']) ?_)
    refine bodyPost_ret (results_cell_row rfl _ _ (w.heap.size + 1) _ _ _ _ rfl (setRow_heap _ _ _ _ _ _ hres) Tryz.underlying43 rfl (by kernel_rfl)) rfl ?_
    exact rets_done HB1.out (by omega) (OwnI.nil _ (w.heap.size + 2)) (by omega) _ HF.out
  have HF0 : Hid (liveBlocks h = (0, blocksTo h h.words.length)) := by show _ = _; unfold liveBlocks blocksIn; rw [if_pos hf]
  have HV := Lib.hid (heapFault_ok hf).1
  have HLen := Lib.hid (heapFault_ok hf).2.1
  rw [hf]
  have hpn : pn ≤ 40 := by have := (pagesFault_ok HV.out).1; have := HP.out; omega
  have hwn : wn ≤ 640 := by have := HLen.out; have := HP.out; have := HW.out; omega
  clear hf
  go_wp2_with fail
  go_loopw [4, 5, 6, 16] (fun v _ _ i wr => ∃ k s : Nat, k ≤ wn ∧ i = .int .i64 k ∧ OwnB w wr v s k (blocksTo h k) ∧ Row wr w.heap.size 30 #[.slice pa pn pc, .slice wa wn wk, .slice ma mn mc] ∧ Row wr (w.heap.size + 1) 43 #[.int .i64 0, .slice none 0 0] ∧ Below w.heap.size w wr) (fun _ _ _ i _ => wn - (intOf i).toNat)
  case atStart => exact ⟨0, 0, Nat.zero_le _, rfl, ⟨Own.nil, Nat.le_refl _⟩, R0, HR1.out, HB1.out⟩
  case round =>
    clear R0 q0 q1 q2 ql hs1
    obtain ⟨k, t, hk, rfl, hO, hR, hR1, hbw⟩ := hrel
    by_cases hlt : k < wn
    · have hk16 : k < h.pages.length * 16 := by have := HLen.out; have := HW.out; omega
      have hk16b : k < pn * 16 := by have := HLen.out; have := HP.out; have := HW.out; omega
      have q0 := hR.cell 0
      have q1 := hR.cell 1
      have q2 := hR.cell 2
      have ql := hR.lt
      simp at q0 q1 q2
      rcases hbk : blockAt h.pages k with _ | b
      · have HBk := Lib.hid hbk
        have HN : Hid (blocksTo h (k + 1) = blocksTo h k) := by
          show _ = _; rw [blocksTo, if_neg, List.append_nil]
          intro hl
          obtain ⟨b, hb', _⟩ := (live_at HV.out hk16).1 hl
          rw [hbk] at hb'; cases hb'
        clear hbk
        go_wp2_with fail
        refine (blockAt_calls (HK.out.r.pg.below hbw) HV.out hk16b).mono ?_
        rw [HBk.out]
        rintro e w2 ⟨rfl, hb2⟩
        simp only [blkO]
        have HB2 := Lib.hid (hbw.trans (hb2.mono hbw.size))
        have HO2 := Lib.hid ((hO.below hb2).next HN.out)
        have R2 := hR.below hb2
        have HR2 := Lib.hid (hR1.below hb2)
        clear hb2 hO hR hR1 hbw q0 q1 q2 ql
        go_wp2_with fail
        go_roundw
        case rel => exact ⟨k + 1, _, by omega, by go_num, HO2.out, R2, HR2.out, HB2.out⟩
        case measure => simp [intOf]; omega
      · have HBk := Lib.hid hbk
        have hh : heldAt h.pages (k : Int) = (0, some b) := by
          unfold heldAt; rw [if_pos HV.out, if_pos (within_yes1 (by omega) (by omega)), Int.toNat_natCast, hbk]
        rcases b with ⟨i, c, s⟩ | ⟨i, m⟩
        · obtain ⟨_, _, _, hi, hs, c0, c3, p, hp, _⟩ := held_slot_info HV.out hh
          have hi40 : (i : Int) ≤ 40 := by have := (List.getElem?_eq_some_iff.1 hp).1; have := (pagesFault_ok HV.out).1; omega
          have hs15 : (s : Int) ≤ 15 := by have := Nat.div_le_self ((k : Int).toNat % 16) (sizeW c).toNat; omega
          clear hbk hh hi hs hp
          have hB := HBk.out
          by_cases hst : ((i : Int) * 16 + s * sizeW c) = (k : Int)
          · have hq : (((i : Int) * 16 + s * sizeW c) == (k : Int)) = true := by simp [hst]
            rcases hkp : hasIn h.mags.flatten (k : Int) with _ | _
            · have HL : Hid (liveIn h (k : Int) = (0, (k : Int))) := (live_at HV.out hk16).2 ⟨_, hB, hst, hkp⟩
              have HN : Hid (blocksTo h (k + 1) = blocksTo h k ++ [(k : Int)]) := by show _ = _; rw [blocksTo, if_pos HL.out]
              clear hst hB
              go_wp2_with fail
              refine (blockAt_calls (HK.out.r.pg.below hbw) HV.out hk16b).mono ?_
              rw [HBk.out]
              rintro e w2 ⟨rfl, hb2⟩
              simp only [blkO, blkV]
              have HB2 := Lib.hid (hbw.trans (hb2.mono hbw.size))
              have HO2 := Lib.hid (hO.below hb2)
              have R2 := hR.below hb2
              have HR2 := Lib.hid (hR1.below hb2)
              clear hb2 hO hR hR1 hbw q0 q1 q2 ql
              have q0 := R2.cell 0
              have q1 := R2.cell 1
              have q2 := R2.cell 2
              have ql := R2.lt
              simp at q0 q1 q2
              go_wp2_with fail
              refine (slotStart_calls c0 c3 (by omega) hi40 (by omega) hs15).mono ?_
              rintro e w3 ⟨rfl, hb3⟩
              have HB3 := Lib.hid (HB2.out.trans (hb3.mono HB2.out.size))
              have HO3 := Lib.hid (HO2.out.below hb3)
              have R3 := R2.below hb3
              have HR3 := Lib.hid (HR2.out.below hb3)
              clear hb3 R2 q0 q1 q2 ql
              have q0 := R3.cell 0
              have q1 := R3.cell 1
              have q2 := R3.cell 2
              have ql := R3.lt
              simp at q0 q1 q2
              go_wp2_with fail
              refine (isKept_calls (HK.out.below HB3.out).r.mg (fun m hm => Nat.le_trans (HK.out.s.k m hm) (by decide)) (by omega)).mono ?_
              rw [hkp]
              rintro e w4 ⟨rfl, hb4⟩
              have HB4 := Lib.hid (HB3.out.trans (hb4.mono HB3.out.size))
              have HO4 := Lib.hid (HO3.out.below hb4)
              have R4 := R3.below hb4
              have HR4 := Lib.hid (HR3.out.below hb4)
              obtain ⟨vo, vc, rfl, hsk⟩ := HO4.out.shape
              clear hb4 R3 q0 q1 q2 ql hkp hq
              have hc4 : (w4.alloc (.cells #[.int .i64 k] 2)).cell? ⟨w4.heap.size, 0, none⟩ = some (.int .i64 k) := cell_one rfl
              have HC4 := Lib.hid hc4
              clear hc4
              go_wp2_with (
                at_builtin
                go_must (refine wpList_append_elem (K := KInt) (G := fun _ => False) rfl (.tmp 37) (.tmp 39) 27 rfl 2 ib (.int .i64 0) 8 Tryz.underlying27 hib hb0 hb1 hb2 rfl (by decide) one_int (b := w4.heap.size) (c := 1) (y := (k : Int)) (cs := [.int .i64 (k : Int)]) rfl (HO4.out.own.alloc _) rfl (fun j u hu => ?_) rfl (fun _ h => h.elim) (by unfold maxLen; omega) (by omega) ?_)
                · cases j with
                  | zero => simp at hu; subst hu; exact HC4.out
                  | succ j => simp at hu
                intro v5 w5 ho5 ht5
                have H5 : Hid (OwnB w w5 v5 (t + 1) (k + 1) (blocksTo h (k + 1)) ∧ Below w.heap.size w w5 ∧ Row w5 w.heap.size 30 #[.slice pa pn pc, .slice wa wn wk, .slice ma mn mc] ∧ Row w5 (w.heap.size + 1) 43 #[.int .i64 0, .slice none 0 0]) := by
                  have hB5 := (HB4.out.alloc HB4.out.size (.cells #[.int .i64 k] 2))
                  refine ⟨⟨?_, by omega⟩, ht5.below hB5 (by have := HB4.out.size; simp; omega) (fun q hq => by omega), ht5.row (R4.below ((Below.refl _ _).alloc (Nat.le_refl _) _)) (fun hq => by omega), ht5.row (HR4.out.below ((Below.refl _ _).alloc (Nat.le_refl _) _)) (fun hq => by omega)⟩
                  rw [HN.out]
                  refine ho5.mono (fun q hq _ => ?_)
                  have := HR4.out.lt
                  rcases hq with hq | hq | hq
                  · exact hq
                  · exact hq.elim
                  · simp at hq; omega
                clear ho5 ht5)
              go_roundw
              case rel => exact ⟨k + 1, _, by omega, by go_num, H5.out.1, H5.out.2.2.1, H5.out.2.2.2, H5.out.2.1⟩
              case measure => simp [intOf]; omega
            · have HN : Hid (blocksTo h (k + 1) = blocksTo h k) := by
                show _ = _; rw [blocksTo, if_neg, List.append_nil]
                intro hl
                obtain ⟨b, _, _, hx⟩ := (live_at HV.out hk16).1 hl
                rw [hkp] at hx; cases hx
              clear hst hB
              go_wp2_with fail
              refine (blockAt_calls (HK.out.r.pg.below hbw) HV.out hk16b).mono ?_
              rw [HBk.out]
              rintro e w2 ⟨rfl, hb2⟩
              simp only [blkO, blkV]
              have HB2 := Lib.hid (hbw.trans (hb2.mono hbw.size))
              have HO2 := Lib.hid (hO.below hb2)
              have R2 := hR.below hb2
              have HR2 := Lib.hid (hR1.below hb2)
              clear hb2 hO hR hR1 hbw q0 q1 q2 ql
              have q0 := R2.cell 0
              have q1 := R2.cell 1
              have q2 := R2.cell 2
              have ql := R2.lt
              simp at q0 q1 q2
              go_wp2_with fail
              refine (slotStart_calls c0 c3 (by omega) hi40 (by omega) hs15).mono ?_
              rintro e w3 ⟨rfl, hb3⟩
              have HB3 := Lib.hid (HB2.out.trans (hb3.mono HB2.out.size))
              have HO3 := Lib.hid (HO2.out.below hb3)
              have R3 := R2.below hb3
              have HR3 := Lib.hid (HR2.out.below hb3)
              clear hb3 R2 q0 q1 q2 ql
              have q0 := R3.cell 0
              have q1 := R3.cell 1
              have q2 := R3.cell 2
              have ql := R3.lt
              simp at q0 q1 q2
              go_wp2_with fail
              refine (isKept_calls (HK.out.below HB3.out).r.mg (fun m hm => Nat.le_trans (HK.out.s.k m hm) (by decide)) (by omega)).mono ?_
              rw [hkp]
              rintro e w4 ⟨rfl, hb4⟩
              have HB4 := Lib.hid (HB3.out.trans (hb4.mono HB3.out.size))
              have HO4 := Lib.hid ((HO3.out.below hb4).next HN.out)
              have R4 := R3.below hb4
              have HR4 := Lib.hid (HR3.out.below hb4)
              clear hb4 R3 q0 q1 q2 ql hkp hq
              go_wp2_with fail
              go_roundw
              case rel => exact ⟨k + 1, _, by omega, by go_num, HO4.out, R4, HR4.out, HB4.out⟩
              case measure => simp [intOf]; omega
          · have HN : Hid (blocksTo h (k + 1) = blocksTo h k) := by
              show _ = _; rw [blocksTo, if_neg, List.append_nil]
              intro hl
              obtain ⟨b, hb', hx, _⟩ := (live_at HV.out hk16).1 hl
              rw [hB] at hb'; injection hb' with hb'; subst hb'
              exact hst hx
            have hq : (((i : Int) * 16 + s * sizeW c) == (k : Int)) = false := by simpa using hst
            clear hst hB
            go_wp2_with fail
            refine (blockAt_calls (HK.out.r.pg.below hbw) HV.out hk16b).mono ?_
            rw [HBk.out]
            rintro e w2 ⟨rfl, hb2⟩
            simp only [blkO, blkV]
            have HB2 := Lib.hid (hbw.trans (hb2.mono hbw.size))
            have HO2 := Lib.hid (hO.below hb2)
            have R2 := hR.below hb2
            have HR2 := Lib.hid (hR1.below hb2)
            clear hb2 hO hR hR1 hbw q0 q1 q2 ql
            go_wp2_with fail
            refine (slotStart_calls c0 c3 (by omega) hi40 (by omega) hs15).mono ?_
            rintro e w3 ⟨rfl, hb3⟩
            have HB3 := Lib.hid (HB2.out.trans (hb3.mono HB2.out.size))
            have HO3 := Lib.hid ((HO2.out.below hb3).next HN.out)
            have R3 := R2.below hb3
            have HR3 := Lib.hid (HR2.out.below hb3)
            clear hb3 R2
            go_wp2_with fail
            go_roundw
            case rel => exact ⟨k + 1, _, by omega, by go_num, HO3.out, R3, HR3.out, HB3.out⟩
            case measure => simp [intOf]; omega
        · obtain ⟨_, _, _, hx⟩ := held_info HV.out hh
          have hi40 : (i : Int) ≤ 40 := by
            rcases hx with ⟨i', k', s', p, e1, _⟩ | ⟨i', p, e1, hp, _⟩
            · cases e1
            · cases e1; have := (List.getElem?_eq_some_iff.1 hp).1; have := (pagesFault_ok HV.out).1; omega
          clear hbk hh hx
          have hB := HBk.out
          by_cases hst : ((i : Int) * 16) = (k : Int)
          · have hq : (((i : Int) * 16) == (k : Int)) = true := by simp [hst]
            rcases hkp : hasIn h.mags.flatten (k : Int) with _ | _
            · have HL : Hid (liveIn h (k : Int) = (0, (k : Int))) := (live_at HV.out hk16).2 ⟨_, hB, hst, hkp⟩
              have HN : Hid (blocksTo h (k + 1) = blocksTo h k ++ [(k : Int)]) := by show _ = _; rw [blocksTo, if_pos HL.out]
              clear hst hB
              go_wp2_with fail
              refine (blockAt_calls (HK.out.r.pg.below hbw) HV.out hk16b).mono ?_
              rw [HBk.out]
              rintro e w2 ⟨rfl, hb2⟩
              simp only [blkO, blkV]
              have HB2 := Lib.hid (hbw.trans (hb2.mono hbw.size))
              have HO2 := Lib.hid (hO.below hb2)
              have R2 := hR.below hb2
              have HR2 := Lib.hid (hR1.below hb2)
              clear hb2 hO hR hR1 hbw q0 q1 q2 ql
              have q0 := R2.cell 0
              have q1 := R2.cell 1
              have q2 := R2.cell 2
              have ql := R2.lt
              simp at q0 q1 q2
              go_wp2_with fail
              refine (runStart_calls (by omega) hi40).mono ?_
              rintro e w3 ⟨rfl, hb3⟩
              have HB3 := Lib.hid (HB2.out.trans (hb3.mono HB2.out.size))
              have HO3 := Lib.hid (HO2.out.below hb3)
              have R3 := R2.below hb3
              have HR3 := Lib.hid (HR2.out.below hb3)
              clear hb3 R2 q0 q1 q2 ql
              have q0 := R3.cell 0
              have q1 := R3.cell 1
              have q2 := R3.cell 2
              have ql := R3.lt
              simp at q0 q1 q2
              go_wp2_with fail
              refine (isKept_calls (HK.out.below HB3.out).r.mg (fun m hm => Nat.le_trans (HK.out.s.k m hm) (by decide)) (by omega)).mono ?_
              rw [hkp]
              rintro e w4 ⟨rfl, hb4⟩
              have HB4 := Lib.hid (HB3.out.trans (hb4.mono HB3.out.size))
              have HO4 := Lib.hid (HO3.out.below hb4)
              have R4 := R3.below hb4
              have HR4 := Lib.hid (HR3.out.below hb4)
              obtain ⟨vo, vc, rfl, hsk⟩ := HO4.out.shape
              clear hb4 R3 q0 q1 q2 ql hkp hq
              have hc4 : (w4.alloc (.cells #[.int .i64 k] 2)).cell? ⟨w4.heap.size, 0, none⟩ = some (.int .i64 k) := cell_one rfl
              have HC4 := Lib.hid hc4
              clear hc4
              go_wp2_with (
                at_builtin
                go_must (refine wpList_append_elem (K := KInt) (G := fun _ => False) rfl (.tmp 37) (.tmp 39) 27 rfl 2 ib (.int .i64 0) 8 Tryz.underlying27 hib hb0 hb1 hb2 rfl (by decide) one_int (b := w4.heap.size) (c := 1) (y := (k : Int)) (cs := [.int .i64 (k : Int)]) rfl (HO4.out.own.alloc _) rfl (fun j u hu => ?_) rfl (fun _ h => h.elim) (by unfold maxLen; omega) (by omega) ?_)
                · cases j with
                  | zero => simp at hu; subst hu; exact HC4.out
                  | succ j => simp at hu
                intro v5 w5 ho5 ht5
                have H5 : Hid (OwnB w w5 v5 (t + 1) (k + 1) (blocksTo h (k + 1)) ∧ Below w.heap.size w w5 ∧ Row w5 w.heap.size 30 #[.slice pa pn pc, .slice wa wn wk, .slice ma mn mc] ∧ Row w5 (w.heap.size + 1) 43 #[.int .i64 0, .slice none 0 0]) := by
                  have hB5 := (HB4.out.alloc HB4.out.size (.cells #[.int .i64 k] 2))
                  refine ⟨⟨?_, by omega⟩, ht5.below hB5 (by have := HB4.out.size; simp; omega) (fun q hq => by omega), ht5.row (R4.below ((Below.refl _ _).alloc (Nat.le_refl _) _)) (fun hq => by omega), ht5.row (HR4.out.below ((Below.refl _ _).alloc (Nat.le_refl _) _)) (fun hq => by omega)⟩
                  rw [HN.out]
                  refine ho5.mono (fun q hq _ => ?_)
                  have := HR4.out.lt
                  rcases hq with hq | hq | hq
                  · exact hq
                  · exact hq.elim
                  · simp at hq; omega
                clear ho5 ht5)
              go_roundw
              case rel => exact ⟨k + 1, _, by omega, by go_num, H5.out.1, H5.out.2.2.1, H5.out.2.2.2, H5.out.2.1⟩
              case measure => simp [intOf]; omega
            · have HN : Hid (blocksTo h (k + 1) = blocksTo h k) := by
                show _ = _; rw [blocksTo, if_neg, List.append_nil]
                intro hl
                obtain ⟨b, _, _, hx⟩ := (live_at HV.out hk16).1 hl
                rw [hkp] at hx; cases hx
              clear hst hB
              go_wp2_with fail
              refine (blockAt_calls (HK.out.r.pg.below hbw) HV.out hk16b).mono ?_
              rw [HBk.out]
              rintro e w2 ⟨rfl, hb2⟩
              simp only [blkO, blkV]
              have HB2 := Lib.hid (hbw.trans (hb2.mono hbw.size))
              have HO2 := Lib.hid (hO.below hb2)
              have R2 := hR.below hb2
              have HR2 := Lib.hid (hR1.below hb2)
              clear hb2 hO hR hR1 hbw q0 q1 q2 ql
              have q0 := R2.cell 0
              have q1 := R2.cell 1
              have q2 := R2.cell 2
              have ql := R2.lt
              simp at q0 q1 q2
              go_wp2_with fail
              refine (runStart_calls (by omega) hi40).mono ?_
              rintro e w3 ⟨rfl, hb3⟩
              have HB3 := Lib.hid (HB2.out.trans (hb3.mono HB2.out.size))
              have HO3 := Lib.hid (HO2.out.below hb3)
              have R3 := R2.below hb3
              have HR3 := Lib.hid (HR2.out.below hb3)
              clear hb3 R2 q0 q1 q2 ql
              have q0 := R3.cell 0
              have q1 := R3.cell 1
              have q2 := R3.cell 2
              have ql := R3.lt
              simp at q0 q1 q2
              go_wp2_with fail
              refine (isKept_calls (HK.out.below HB3.out).r.mg (fun m hm => Nat.le_trans (HK.out.s.k m hm) (by decide)) (by omega)).mono ?_
              rw [hkp]
              rintro e w4 ⟨rfl, hb4⟩
              have HB4 := Lib.hid (HB3.out.trans (hb4.mono HB3.out.size))
              have HO4 := Lib.hid ((HO3.out.below hb4).next HN.out)
              have R4 := R3.below hb4
              have HR4 := Lib.hid (HR3.out.below hb4)
              clear hb4 R3 q0 q1 q2 ql hkp hq
              go_wp2_with fail
              go_roundw
              case rel => exact ⟨k + 1, _, by omega, by go_num, HO4.out, R4, HR4.out, HB4.out⟩
              case measure => simp [intOf]; omega
          · have HN : Hid (blocksTo h (k + 1) = blocksTo h k) := by
              show _ = _; rw [blocksTo, if_neg, List.append_nil]
              intro hl
              obtain ⟨b, hb', hx, _⟩ := (live_at HV.out hk16).1 hl
              rw [hB] at hb'; injection hb' with hb'; subst hb'
              exact hst hx
            have hq : (((i : Int) * 16) == (k : Int)) = false := by simpa using hst
            clear hst hB
            go_wp2_with fail
            refine (blockAt_calls (HK.out.r.pg.below hbw) HV.out hk16b).mono ?_
            rw [HBk.out]
            rintro e w2 ⟨rfl, hb2⟩
            simp only [blkO, blkV]
            have HB2 := Lib.hid (hbw.trans (hb2.mono hbw.size))
            have HO2 := Lib.hid (hO.below hb2)
            have R2 := hR.below hb2
            have HR2 := Lib.hid (hR1.below hb2)
            clear hb2 hO hR hR1 hbw q0 q1 q2 ql
            go_wp2_with fail
            refine (runStart_calls (by omega) hi40).mono ?_
            rintro e w3 ⟨rfl, hb3⟩
            have HB3 := Lib.hid (HB2.out.trans (hb3.mono HB2.out.size))
            have HO3 := Lib.hid ((HO2.out.below hb3).next HN.out)
            have R3 := R2.below hb3
            have HR3 := Lib.hid (HR2.out.below hb3)
            clear hb3 R2
            go_wp2_with fail
            go_roundw
            case rel => exact ⟨k + 1, _, by omega, by go_num, HO3.out, R3, HR3.out, HB3.out⟩
            case measure => simp [intOf]; omega
    · have HF : Hid (liveBlocks h = (0, blocksTo h k)) := by
        show _ = _; rw [HF0.out, show h.words.length = k by have := HW.out; omega]
      have HOI := Lib.hid hO.own.toI
      obtain ⟨vo, vc, rfl, _⟩ := hO.shape
      clear hO
      go_wp2_with (refine wpList_store_row rfl 43 _ _ rfl (w.heap.size + 1) _ rfl rfl _ _ hR1 (by kernel_rfl) (by rfl) (by simp [Value.oneCell']) ?_)
      refine bodyPost_ret (results_cell_row rfl _ _ (w.heap.size + 1) _ _ _ _ rfl (setRow_heap _ _ _ _ _ _ hR1) Tryz.underlying43 rfl (by kernel_rfl)) rfl ?_
      exact rets_done hbw (by omega) HOI.out (by omega) _ HF.out
end Go.Proofs.YtcnpckaacigbfaaGreat

/- Chapter 5 of the model: where a block lives; the blocks that live; how many are kept; heaps compared. -/
namespace Go.Proofs.YtcnpckaacigbfaaGreat
open Go.RowKit

set_option maxRecDepth 100000 in
set_option maxHeartbeats 2000000 in
theorem l5Live_calls {pa wa ma : Option Addr} {pn pc wn wk mn mc b : Nat} {h : Hp} {at_ : Int} {S : Nat → Prop} {w : World} (hR : Row w b 30 #[.slice pa pn pc, .slice wa wn wk, .slice ma mn mc]) (hr : HpR w S pa pn pc wa wn wk ma mn mc h) (hf : heapFault h = 0) :
    Calls Tryz.prog 83 #[.pointer (some ⟨b, 0, none⟩), .int .i64 at_] w fun e w' => e = .returned (.tuple #[.int .i64 (liveIn h at_).2, .int .i64 (liveIn h at_).1]) ∧ Below w.heap.size w w' := by
  obtain ⟨⟨c, s⟩, hcs⟩ : ∃ p, blockStart h.pages at_ = p := ⟨_, rfl⟩
  have HST : Hid (Calls Tryz.prog 124 #[.slice pa pn pc, .int .i64 at_] w fun e w' => e = .returned (.tuple #[.int .i64 s, .int .i64 c]) ∧ w = w') := by
    have := l4Start_calls (cc := pc) (at_ := at_) hr.pg (heapFault_ok hf).1
    rw [hcs] at this
    exact this
  have HL : Hid (liveIn h at_ = if c = 0 then (if hasIn h.mags.flatten s = true then (4, 0) else (0, s)) else (c, 0)) := by
    show _ = _; unfold liveIn Hp.kept; rw [hcs]
  have HSm := Lib.hid (mags_small hf).2.2.2
  have HM8 : mn ≤ 8 := by have := (mags_small hf).1; have := hr.mg.1; omega
  have HR := Lib.hid hR
  have HMg := Lib.hid hr.mg
  have q0 := hR.cell 0
  have ql := hR.lt
  simp at q0
  clear hR hr hf hcs
  go_enter Tryz.func83, Tryz.ntmps83
  by_cases hc : c = 0
  rotate_left
  · have HF : Hid (liveIn h at_ = (c, 0)) := by show _ = _; rw [HL.out, if_neg hc]
    have hq : (c != 0) = true := by simpa using hc
    clear hc
    go_wp2_with (go_at_call 124; refine HST.out.mono ?_; rintro e w' ⟨rfl, rfl⟩)
    go_ret2
    exact ⟨ret_two (by rw [HF.out]) (by rw [HF.out]), Below.refl _ _⟩
  subst hc
  go_wp2_with (go_at_call 124; refine HST.out.mono ?_; rintro e w' ⟨rfl, rfl⟩)
  refine (l5All_calls HR.out HMg.out (by omega) (by have := HSm.out; unfold Hp.kept at this; omega)).mono ?_
  rintro e w2 ⟨v2, t2, rfl, hO2, hb2⟩
  obtain ⟨vo2, vc2, rfl, _, _, hL2⟩ := hO2.shape
  have HI2 := Lib.hid hL2.ints
  have HB2 := Lib.hid hb2
  have ht2 : t2 ≤ 16 := by have := hO2.1; have := HSm.out; unfold Hp.kept at this; omega
  clear hb2 hO2 hL2
  go_wp2_with fail
  refine (l1Has_calls HI2.out (by omega)).mono ?_
  rcases hh : hasIn h.mags.flatten s with _ | _
  · have HF : Hid (liveIn h at_ = (0, s)) := by show _ = _; rw [HL.out, if_pos trivial, if_neg (by rw [hh]; decide)]
    rintro e w3 ⟨rfl, rfl⟩
    go_wp2_with fail
    go_ret2
    exact ⟨ret_two (by rw [HF.out]) (by rw [HF.out]), HB2.out⟩
  · have HF : Hid (liveIn h at_ = (4, 0)) := by show _ = _; rw [HL.out, if_pos trivial, if_pos hh]
    rintro e w3 ⟨rfl, rfl⟩
    go_wp2_with fail
    go_ret2
    exact ⟨ret_two (by rw [HF.out]) (by rw [HF.out]), HB2.out⟩

set_option maxRecDepth 100000 in
set_option maxHeartbeats 2000000 in
theorem sLiveAt_calls {pa wa ma : Option Addr} {pn pc wn wk mn mc : Nat} {h : Hp} {at_ : Int} {S : Nat → Prop} {w : World} (hk : HpK w S pa pn pc wa wn wk ma mn mc h) :
    Calls Tryz.prog 29 #[.agg #[.slice pa pn pc, .slice wa wn wk, .slice ma mn mc], .int .i64 at_] w (Pair w (liveAt h at_)) := by
  have HK := Lib.hid hk
  obtain ⟨n1, n2, n3, n4, n5⟩ := hk.small
  clear hk
  obtain ⟨V, hV⟩ : ∃ V, V = (w.alloc (.cells #[.slice pa pn pc, .slice wa wn wk, .slice ma mn mc] 30)).alloc (.cells #[.int .i64 0, .int .i64 0] 45) := ⟨_, rfl⟩
  have hB0 : Below w.heap.size w V := by rw [hV]; exact ((Below.refl _ _).alloc (Nat.le_refl _) _).alloc (by simp) _
  have HB0 := Lib.hid hB0
  clear hB0
  go_enter Tryz.func29, Tryz.ntmps29
  go_wp2_with fail
  rw [← hV]
  refine (sHeapFault_calls (HK.out.r.below HB0.out) HK.out.s).mono ?_
  rintro e w1 ⟨rfl, hb1⟩
  rw [hV] at hb1
  obtain ⟨R0, R1, B1, _⟩ := two_new hb1
  have HR0 : Hid (Row w1 w.heap.size 30 #[.slice pa pn pc, .slice wa wn wk, .slice ma mn mc]) := R0
  have HR1 : Hid (Row w1 (w.heap.size + 1) 45 #[.int .i64 0, .int .i64 0]) := R1
  have HB1 := Lib.hid B1
  clear hb1 R1 B1 R0 hV
  by_cases hf : heapFault h = 0
  rotate_left
  · have HF : Hid (liveAt h at_ = (heapFault h, 0)) := by show _ = _; unfold liveAt; rw [if_neg hf]
    have hq : (heapFault h != 0) = true := by simpa using hf
    clear hf
    have hres := HR1.out
    go_wp2_with (refine wpList_store_row rfl 45 _ _ rfl (w.heap.size + 1) _ rfl rfl _ _ hres (by kernel_rfl) (by rfl) (by simp [Value.oneCell']) ?_)
    refine bodyPost_ret (results_cell_row rfl _ _ (w.heap.size + 1) _ _ _ _ rfl (setRow_heap _ _ _ _ _ _ hres) Tryz.underlying45 rfl (by kernel_rfl)) rfl ?_
    exact pair_done HB1.out (by omega) _ HF.out
  have HF0 : Hid (liveAt h at_ = liveIn h at_) := by show _ = _; unfold liveAt; rw [if_pos hf]
  have HFk := Lib.hid hf
  rw [hf]
  clear hf
  go_wp2_with fail
  refine (l5Live_calls HR0.out (HK.out.below HB1.out).r HFk.out).mono ?_
  rintro e w2 ⟨rfl, hb2⟩
  have HB2 := Lib.hid (HB1.out.trans (hb2.mono HB1.out.size))
  have hres := HR1.out.below hb2
  clear hb2
  obtain ⟨⟨c, s⟩, hcs⟩ : ∃ p, liveIn h at_ = p := ⟨_, rfl⟩
  have HF : Hid (liveAt h at_ = (c, s)) := HF0.out.trans hcs
  rw [hcs]
  clear hcs
  go_wp2_with (refine wpList_store_row rfl 45 _ _ rfl (w.heap.size + 1) _ rfl rfl _ _ hres (by kernel_rfl) (by rfl) (by simp [Value.oneCell']) ?_)
  refine bodyPost_ret (results_cell_row rfl _ _ (w.heap.size + 1) _ _ _ _ rfl (setRow_heap _ _ _ _ _ _ hres) Tryz.underlying45 rfl (by kernel_rfl)) rfl ?_
  exact pair_done HB2.out (by omega) _ HF.out

/-- What a list of places owns while it is made. -/
structure OwnC (w w' : World) (v : Value) (n k : Nat) (xs : List Int) : Prop where
  own : Own KInt 2 w' (fun q => w.heap.size ≤ q) v n xs
  le : n ≤ k
theorem OwnC.below {w w' w2 : World} {v : Value} {n k : Nat} {xs : List Int} (h : OwnC w w' v n k xs) (hb : Below w'.heap.size w' w2) : OwnC w w2 v n k xs := ⟨h.own.below hb, h.le⟩
theorem OwnC.next {w w' : World} {v : Value} {n k : Nat} {h : Hp} (ho : OwnC w w' v n k (blocksTo h k)) (hn : blocksTo h (k + 1) = blocksTo h k) : OwnC w w' v n (k + 1) (blocksTo h (k + 1)) := ⟨by rw [hn]; exact ho.own, by have := ho.le; omega⟩
theorem OwnC.shape {w w' : World} {v : Value} {n k : Nat} {xs : List Int} (h : OwnC w w' v n k xs) : ∃ a c, v = .slice a n c ∧ n ≤ k := by
  obtain ⟨a, c, e, _⟩ := h.own.shape
  exact ⟨a, c, e, h.le⟩

set_option maxRecDepth 100000 in
set_option maxHeartbeats 2000000 in
theorem l5Blocks_calls {pa wa ma : Option Addr} {pn pc wn wk mn mc b : Nat} {h : Hp} {S : Nat → Prop} {w : World} (hR : Row w b 30 #[.slice pa pn pc, .slice wa wn wk, .slice ma mn mc]) (hr : HpR w S pa pn pc wa wn wk ma mn mc h) (hf : heapFault h = 0) :
    Calls Tryz.prog 78 #[.pointer (some ⟨b, 0, none⟩)] w fun e w' => ∃ v n, e = .returned v ∧ Own KInt 2 w' (fun q => w.heap.size ≤ q) v n (blocksIn h) ∧ Below w.heap.size w w' := by
  obtain ⟨ib, hib, hb0, hb1, hb2⟩ := info_parts info64
  have HR := Lib.hid hr
  have HFk := Lib.hid hf
  have HW := Lib.hid hr.wd.1
  have hwn : wn ≤ 640 := by have := (heapFault_ok hf).2.1; have := (pagesFault_ok (heapFault_ok hf).1).1; have := hr.wd.1; omega
  have HRow := Lib.hid hR
  have hE : Own KInt 2 (w.alloc (.cells #[] 2)) (fun k => w.heap.size ≤ k) (.slice (some ⟨w.heap.size, 0, none⟩) 0 0) 0 (blocksTo h 0) := Own.empty (heap_alloc_new w (.cells #[] 2)) (Nat.le_refl _)
  have hB : Below w.heap.size w (w.alloc (.cells #[] 2)) := (Below.refl _ _).alloc (Nat.le_refl _) _
  have HE := Lib.hid (And.intro hE hB)
  clear hE hB hR hr hf
  go_enter Tryz.func78, Tryz.ntmps78
  go_wp2_with fail
  go_loopw [3, 4, 5, 6] (fun v i _ _ wr => ∃ k s : Nat, k ≤ wn ∧ i = .int .i64 k ∧ OwnC w wr v s k (blocksTo h k) ∧ Below w.heap.size w wr) (fun _ i _ _ _ => wn - (intOf i).toNat)
  case atStart => exact ⟨0, 0, Nat.zero_le _, rfl, ⟨HE.out.1, Nat.le_refl _⟩, HE.out.2⟩
  case round =>
    clear HE
    obtain ⟨k, t, hk, rfl, hO, hbw⟩ := hrel
    obtain ⟨vo0, vc0, rfl, _⟩ := hO.shape
    have R1 := HRow.out.below hbw
    have q1 := R1.cell 1
    have ql := R1.lt
    simp at q1
    by_cases hlt : k < wn
    · obtain ⟨⟨c, s⟩, hcs⟩ : ∃ p, liveIn h (k : Int) = p := ⟨_, rfl⟩
      have HCS := Lib.hid hcs
      have HC : Hid (Calls Tryz.prog 83 #[.pointer (some ⟨b, 0, none⟩), .int .i64 k] wr fun e w' => e = .returned (.tuple #[.int .i64 s, .int .i64 c]) ∧ Below wr.heap.size wr w') := by
        have := l5Live_calls (at_ := (k : Int)) R1 (HR.out.below hbw) HFk.out
        rw [hcs] at this; exact this
      have HB := Lib.hid hbw
      clear hcs hbw R1
      by_cases hc : c = 0
      rotate_left
      · have HN : Hid (blocksTo h (k + 1) = blocksTo h k) := by
          show _ = _; rw [blocksTo, if_neg (by rw [HCS.out]; simp; intro e; exact absurd e hc), List.append_nil]
        have hq : (c == 0) = false := by simpa using hc
        clear hc
        go_wp2_with fail
        refine HC.out.mono ?_
        rintro e w2 ⟨rfl, hb2⟩
        have HO2 := Lib.hid ((hO.below hb2).next HN.out)
        have HB2 := Lib.hid (HB.out.trans (hb2.mono HB.out.size))
        clear hb2 hO
        go_wp2_with fail
        go_roundw
        case rel => exact ⟨k + 1, _, by omega, by go_num, HO2.out, HB2.out⟩
        case measure => simp [intOf]; omega
      subst hc
      by_cases hs : s = (k : Int)
      rotate_left
      · have HN : Hid (blocksTo h (k + 1) = blocksTo h k) := by
          show _ = _; rw [blocksTo, if_neg (by rw [HCS.out]; simp; exact hs), List.append_nil]
        have hq : (s == (k : Int)) = false := by simpa using hs
        clear hs
        go_wp2_with fail
        refine HC.out.mono ?_
        rintro e w2 ⟨rfl, hb2⟩
        have HO2 := Lib.hid ((hO.below hb2).next HN.out)
        have HB2 := Lib.hid (HB.out.trans (hb2.mono HB.out.size))
        clear hb2 hO
        go_wp2_with fail
        go_roundw
        case rel => exact ⟨k + 1, _, by omega, by go_num, HO2.out, HB2.out⟩
        case measure => simp [intOf]; omega
      · have HN : Hid (blocksTo h (k + 1) = blocksTo h k ++ [(k : Int)]) := by
          show _ = _; rw [blocksTo, if_pos (by rw [HCS.out, hs])]
        subst hs
        have hq : ((k : Int) == (k : Int)) = true := by simp
        go_wp2_with fail
        refine HC.out.mono ?_
        rintro e w2 ⟨rfl, hb2⟩
        have HO2 := Lib.hid (hO.below hb2)
        have HB2 := Lib.hid (HB.out.trans (hb2.mono HB.out.size))
        have hsk := HO2.out.le
        clear hb2 hO
        have hc4 : (w2.alloc (.cells #[.int .i64 k] 2)).cell? ⟨w2.heap.size, 0, none⟩ = some (.int .i64 k) := cell_one rfl
        have HC4 := Lib.hid hc4
        clear hc4
        go_wp2_with (
          at_builtin
          go_must (refine wpList_append_elem (K := KInt) (G := fun _ => False) rfl (.tmp 30) (.tmp 32) 27 rfl 2 ib (.int .i64 0) 8 Tryz.underlying27 hib hb0 hb1 hb2 rfl (by decide) one_int (b := w2.heap.size) (c := 1) (y := (k : Int)) (cs := [.int .i64 (k : Int)]) rfl (HO2.out.own.alloc _) rfl (fun j u hu => ?_) rfl (fun _ h => h.elim) (by unfold maxLen; omega) (by omega) ?_)
          · cases j with
            | zero => simp at hu; subst hu; exact HC4.out
            | succ j => simp at hu
          intro v5 w5 ho5 ht5
          have H5 : Hid (OwnC w w5 v5 (t + 1) (k + 1) (blocksTo h (k + 1)) ∧ Below w.heap.size w w5) := by
            have hB5 := (HB2.out.alloc HB2.out.size (.cells #[.int .i64 k] 2))
            refine ⟨⟨?_, by omega⟩, ht5.below hB5 (by have := HB2.out.size; simp; omega) (fun q hq => by omega)⟩
            rw [HN.out]
            refine ho5.mono (fun q hq _ => ?_)
            have := HB2.out.size
            rcases hq with hq | hq | hq
            · exact hq
            · exact hq.elim
            · simp at hq; omega
          clear ho5 ht5)
        go_roundw
        case rel => exact ⟨k + 1, _, by omega, by go_num, H5.out.1, H5.out.2⟩
        case measure => simp [intOf]; omega
    · have HE2 : Hid (Own KInt 2 wr (fun q => w.heap.size ≤ q) (.slice vo0 t vc0) t (blocksIn h) ∧ Below w.heap.size w wr) := by
        have := hO.own
        rw [show k = h.words.length by have := HW.out; omega] at this
        exact ⟨this, hbw⟩
      clear hO hbw R1
      go_wp2_with fail
      go_ret
      exact ⟨_, _, rfl, HE2.out.1, HE2.out.2⟩

set_option maxRecDepth 100000 in
set_option maxHeartbeats 2000000 in
theorem sLiveBlocks_calls {pa wa ma : Option Addr} {pn pc wn wk mn mc : Nat} {h : Hp} {S : Nat → Prop} {w : World} (hk : HpK w S pa pn pc wa wn wk ma mn mc h) :
    Calls Tryz.prog 24 #[.agg #[.slice pa pn pc, .slice wa wn wk, .slice ma mn mc]] w (RetsInts w (liveBlocks h)) := by
  have HK := Lib.hid hk
  obtain ⟨n1, n2, n3, n4, n5⟩ := hk.small
  clear hk
  obtain ⟨V, hV⟩ : ∃ V, V = (w.alloc (.cells #[.slice pa pn pc, .slice wa wn wk, .slice ma mn mc] 30)).alloc (.cells #[.int .i64 0, .slice none 0 0] 43) := ⟨_, rfl⟩
  have hB0 : Below w.heap.size w V := by rw [hV]; exact ((Below.refl _ _).alloc (Nat.le_refl _) _).alloc (by simp) _
  have HB0 := Lib.hid hB0
  clear hB0
  go_enter Tryz.func24, Tryz.ntmps24
  go_wp2_with fail
  rw [← hV]
  refine (sHeapFault_calls (HK.out.r.below HB0.out) HK.out.s).mono ?_
  rintro e w1 ⟨rfl, hb1⟩
  rw [hV] at hb1
  obtain ⟨R0, R1, B1, hs1⟩ := two_new hb1
  have HR0 : Hid (Row w1 w.heap.size 30 #[.slice pa pn pc, .slice wa wn wk, .slice ma mn mc]) := R0
  have HR1 : Hid (Row w1 (w.heap.size + 1) 43 #[.int .i64 0, .slice none 0 0]) := R1
  have HB1 := Lib.hid B1
  clear hb1 R1 B1 R0 hV
  by_cases hf : heapFault h = 0
  rotate_left
  · have HF : Hid (liveBlocks h = (heapFault h, [])) := by show _ = _; unfold liveBlocks; rw [if_neg hf]
    have hq : (heapFault h != 0) = true := by simpa using hf
    clear hf
    have hres := HR1.out
    go_wp2_with (refine wpList_store_row rfl 43 _ _ rfl (w.heap.size + 1) _ rfl rfl _ _ hres (by kernel_rfl) (by rfl) (by simp [Value.oneCell']) ?_)
    refine bodyPost_ret (results_cell_row rfl _ _ (w.heap.size + 1) _ _ _ _ rfl (setRow_heap _ _ _ _ _ _ hres) Tryz.underlying43 rfl (by kernel_rfl)) rfl ?_
    exact rets_done HB1.out (by omega) (OwnI.nil _ (w.heap.size + 2)) (by omega) _ HF.out
  have HF : Hid (liveBlocks h = (0, blocksIn h)) := by show _ = _; unfold liveBlocks; rw [if_pos hf]
  have HFk := Lib.hid hf
  rw [hf]
  clear hf
  go_wp2_with fail
  refine (l5Blocks_calls HR0.out (HK.out.below HB1.out).r HFk.out).mono ?_
  rintro e w2 ⟨v2, t2, rfl, hO2, hb2⟩
  have HB2 := Lib.hid (HB1.out.trans (hb2.mono HB1.out.size))
  have hres := HR1.out.below hb2
  obtain ⟨vo, vc, rfl, _⟩ := hO2.shape
  have HOI := Lib.hid ((hO2.fresh (B' := w.heap.size + 2) hs1).toI)
  clear hb2 hO2
  go_wp2_with (refine wpList_store_row rfl 43 _ _ rfl (w.heap.size + 1) _ rfl rfl _ _ hres (by kernel_rfl) (by rfl) (by simp [Value.oneCell']) ?_)
  refine bodyPost_ret (results_cell_row rfl _ _ (w.heap.size + 1) _ _ _ _ rfl (setRow_heap _ _ _ _ _ _ hres) Tryz.underlying43 rfl (by kernel_rfl)) rfl ?_
  exact rets_done HB2.out (by omega) HOI.out (by omega) _ HF.out

set_option maxRecDepth 100000 in
set_option maxHeartbeats 2000000 in
theorem sHeldIn_calls {pa wa ma : Option Addr} {pn pc wn wk mn mc : Nat} {h : Hp} {S : Nat → Prop} {w : World} (hk : HpK w S pa pn pc wa wn wk ma mn mc h) :
    Calls Tryz.prog 30 #[.agg #[.slice pa pn pc, .slice wa wn wk, .slice ma mn mc]] w (Pair w (heldIn h)) := by
  have HK := Lib.hid hk
  obtain ⟨n1, n2, n3, n4, n5⟩ := hk.small
  clear hk
  obtain ⟨V, hV⟩ : ∃ V, V = (w.alloc (.cells #[.slice pa pn pc, .slice wa wn wk, .slice ma mn mc] 30)).alloc (.cells #[.int .i64 0, .int .i64 0] 45) := ⟨_, rfl⟩
  have hB0 : Below w.heap.size w V := by rw [hV]; exact ((Below.refl _ _).alloc (Nat.le_refl _) _).alloc (by simp) _
  have HB0 := Lib.hid hB0
  clear hB0
  go_enter Tryz.func30, Tryz.ntmps30
  go_wp2_with fail
  rw [← hV]
  refine (sHeapFault_calls (HK.out.r.below HB0.out) HK.out.s).mono ?_
  rintro e w1 ⟨rfl, hb1⟩
  rw [hV] at hb1
  obtain ⟨R0, R1, B1, _⟩ := two_new hb1
  have HR0 : Hid (Row w1 w.heap.size 30 #[.slice pa pn pc, .slice wa wn wk, .slice ma mn mc]) := R0
  have HR1 : Hid (Row w1 (w.heap.size + 1) 45 #[.int .i64 0, .int .i64 0]) := R1
  have HB1 := Lib.hid B1
  clear hb1 R1 B1 R0 hV
  by_cases hf : heapFault h = 0
  rotate_left
  · have HF : Hid (heldIn h = (heapFault h, 0)) := by show _ = _; unfold heldIn; rw [if_neg hf]
    have hq : (heapFault h != 0) = true := by simpa using hf
    clear hf
    have hres := HR1.out
    go_wp2_with (refine wpList_store_row rfl 45 _ _ rfl (w.heap.size + 1) _ rfl rfl _ _ hres (by kernel_rfl) (by rfl) (by simp [Value.oneCell']) ?_)
    refine bodyPost_ret (results_cell_row rfl _ _ (w.heap.size + 1) _ _ _ _ rfl (setRow_heap _ _ _ _ _ _ hres) Tryz.underlying45 rfl (by kernel_rfl)) rfl ?_
    exact pair_done HB1.out (by omega) _ HF.out
  have HF0 : Hid (heldIn h = (0, (h.kept.length : Int))) := by show _ = _; unfold heldIn; rw [if_pos hf]
  have HSm := Lib.hid (mags_small hf).2.2.2
  rw [hf]
  clear hf
  go_wp2_with fail
  refine (l5All_calls HR0.out (HK.out.below HB1.out).r.mg (by omega) (by have := HSm.out; unfold Hp.kept at this; omega)).mono ?_
  rintro e w2 ⟨v2, t2, rfl, hO2, hb2⟩
  obtain ⟨vo2, vc2, rfl, _, _, hL2⟩ := hO2.shape
  have HF : Hid (heldIn h = (0, (t2 : Int))) := by show _ = _; rw [HF0.out]; unfold Hp.kept; rw [hO2.1]
  have HB2 := Lib.hid (HB1.out.trans (hb2.mono HB1.out.size))
  have hres := HR1.out.below hb2
  have ht2 : t2 ≤ 16 := by have := hO2.1; have := HSm.out; unfold Hp.kept at this; omega
  clear hb2 hO2 hL2
  go_wp2_with (refine wpList_store_row rfl 45 _ _ rfl (w.heap.size + 1) _ rfl rfl _ _ hres (by kernel_rfl) (by rfl) (by simp [Value.oneCell']) ?_)
  refine bodyPost_ret (results_cell_row rfl _ _ (w.heap.size + 1) _ _ _ _ rfl (setRow_heap _ _ _ _ _ _ hres) Tryz.underlying45 rfl (by kernel_rfl)) rfl ?_
  exact pair_done HB2.out (by omega) _ HF.out
end Go.Proofs.YtcnpckaacigbfaaGreat

/- The exact law of chapter 5: the blocks that live. -/
namespace Go.Proofs.YtcnpckaacigbfaaGreat
open Go.RowKit

theorem length_blocksTo (h : Hp) : ∀ k, (blocksTo h k).length ≤ k
  | 0 => Nat.le_refl _
  | k + 1 => by
    have := length_blocksTo h k
    rw [blocksTo, List.length_append]
    split
    · simp; omega
    · simp; omega
theorem liveBlocks_small {h : Hp} (hs : HpS 1048576 h) : (liveBlocks h).2.length ≤ 1048576 := by
  unfold liveBlocks
  split
  · exact Nat.le_trans (length_blocksTo _ _) hs.w
  · simp
theorem Turn.of_touch {lo hi : Nat} {w w' : World} (h : Touch lo hi w w') : Turn (fun k => lo ≤ k ∧ k < hi) w w' := ⟨h.os, h.tape, h.output, h.size, fun k hk hn => h.block k hk (by omega)⟩
theorem Touch.of_turn {lo hi : Nat} {w w' : World} {T : Nat → Prop} (h : Turn T w w') (hT : ∀ k, T k → lo ≤ k ∧ k < hi) : Touch lo hi w w' := ⟨h.os, h.tape, h.output, h.size, fun k hk hn => h.block k hk (fun ht => by have := hT k ht; omega)⟩
theorem Row.at2 {w : World} {b : Nat} {t : TypeId} {u0 u1 : Value} (h : Row w b t #[u0, u1]) : b < w.heap.size ∧ w.cell? ⟨b, 0, none⟩ = some u0 ∧ w.cell? ⟨b, 1, none⟩ = some u1 := ⟨h.lt, by rw [h.cell]; rfl, by rw [h.cell]; rfl⟩

/-- Two results of words in boxes, a copy of the heap that came in, in a box, and that heap. -/
structure HoldY (w W : World) (n2 n3 n4 n5 : Nat) (q : Int) (a : Option Addr) (an ac : Nat) (g : Option Addr) (gn gc : Nat) (x1 : Option Addr) (xn1 xc1 : Nat) (x2 : Option Addr) (xn2 xc2 : Nat) (x3 : Option Addr) (xn3 xc3 : Nat) (pa : Option Addr) (pn pc : Nat) (wa : Option Addr) (wn wk : Nat) (ma : Option Addr) (mn mc : Nat) (h : Hp) (rs gs : List Int) (xs : Hp) : Prop where
  in_ : InH w W pa pn pc wa wn wk ma mn mc h
  rw_ : Row W n3 43 #[.int .i64 q, .slice a an ac]
  rg : Row W n5 43 #[.int .i64 q, .slice g gn gc]
  rx : Row W n4 30 #[.slice x1 xn1 xc1, .slice x2 xn2 xc2, .slice x3 xn3 xc3]
  ow : OwnIn W n2 n3 (.slice a an ac) an rs
  og : OwnIn W (n4 + 1) n5 (.slice g gn gc) gn gs
  ox : HpO W (fun k => n3 + 1 ≤ k ∧ k < n4) (.slice x1 xn1 xc1) xn1 (.slice x2 xn2 xc2) xn2 (.slice x3 xn3 xc3) xn3 xs
  d : w.heap.size < n2 ∧ n2 ≤ n3 ∧ n3 < n4 ∧ n4 < n5
section
variable {w W W' : World} {n2 n3 n4 n5 : Nat} {q : Int} {a g x1 x2 x3 pa wa ma : Option Addr} {an ac gn gc xn1 xc1 xn2 xc2 xn3 xc3 pn pc wn wk mn mc : Nat} {h xs : Hp} {rs gs : List Int}
theorem HoldY.below (hx : HoldY w W n2 n3 n4 n5 q a an ac g gn gc x1 xn1 xc1 x2 xn2 xc2 x3 xn3 xc3 pa pn pc wa wn wk ma mn mc h rs gs xs) (hb : Below W.heap.size W W') : HoldY w W' n2 n3 n4 n5 q a an ac g gn gc x1 xn1 xc1 x2 xn2 xc2 x3 xn3 xc3 pa pn pc wa wn wk ma mn mc h rs gs xs :=
  ⟨hx.in_.below hb, hx.rw_.below hb, hx.rg.below hb, hx.rx.below hb, hx.ow.below hb, hx.og.below hb, hx.ox.below hb, hx.d⟩
theorem HoldY.putG (hx : HoldY w W n2 n3 n4 n5 q a an ac g gn gc x1 xn1 xc1 x2 xn2 xc2 x3 xn3 xc3 pa pn pc wa wn wk ma mn mc h rs gs xs) {gs' : List Int} (ho : OwnIn W' (n4 + 1) n5 (.slice g gn gc) gn gs') (ht : Touch (n4 + 1) n5 W W') : HoldY w W' n2 n3 n4 n5 q a an ac g gn gc x1 xn1 xc1 x2 xn2 xc2 x3 xn3 xc3 pa pn pc wa wn wk ma mn mc h rs gs' xs := by
  obtain ⟨d1, d2, d3, d4⟩ := hx.d
  exact ⟨hx.in_.turn (Turn.of_touch ht) (fun k hk => by omega), hx.rw_.touch ht (by omega), hx.rg.touch ht (by omega), hx.rx.touch ht (by omega), hx.ow.touch ht (by omega), ho, hx.ox.turn (Turn.of_touch ht) (fun k hk _ h => by omega), hx.d⟩
theorem HoldY.putX (hx : HoldY w W n2 n3 n4 n5 q a an ac g gn gc x1 xn1 xc1 x2 xn2 xc2 x3 xn3 xc3 pa pn pc wa wn wk ma mn mc h rs gs xs) {xs' : Hp} (ho : HpO W' (fun k => n3 + 1 ≤ k ∧ k < n4) (.slice x1 xn1 xc1) xn1 (.slice x2 xn2 xc2) xn2 (.slice x3 xn3 xc3) xn3 xs') (ht : Turn (fun k => n3 + 1 ≤ k ∧ k < n4) W W') : HoldY w W' n2 n3 n4 n5 q a an ac g gn gc x1 xn1 xc1 x2 xn2 xc2 x3 xn3 xc3 pa pn pc wa wn wk ma mn mc h rs gs xs' := by
  obtain ⟨d1, d2, d3, d4⟩ := hx.d
  have tt : Touch (n3 + 1) n4 W W' := Touch.of_turn ht (fun k hk => hk)
  exact ⟨hx.in_.turn ht (fun k hk => by omega), hx.rw_.touch tt (by omega), hx.rg.touch tt (by omega), hx.rx.touch tt (by omega), hx.ow.touch tt (by omega), hx.og.touch tt (by omega), ho, hx.d⟩
end

set_option maxHeartbeats 800000 in
set_option maxRecDepth 100000 in
theorem lawLiveBlocks {pa wa ma : Option Addr} {pn pc wn wk mn mc : Nat} {h : Hp} {S : Nat → Prop} {w : World} (hT : HpR w S pa pn pc wa wn wk ma mn mc h) :
    Calls Tryz.prog 6 #[.agg #[.slice pa pn pc, .slice wa wn wk, .slice ma mn mc]] w fun e w' => e = .returned (.bool true) ∧ Below w.heap.size w w' := by
  have A0 := Lib.hid (InH.start hT)
  obtain ⟨⟨q, rs⟩, hp⟩ : ∃ r, liveBlocks h = r := ⟨_, rfl⟩
  have HP := Lib.hid hp
  go_enter Tryz.func6, Tryz.ntmps6
  go_wp2_with fail
  refine (szHeap_calls A0.out.rd (by omega) (by omega)).mono ?_
  rintro e w1 ⟨rfl | ⟨r, rfl, r0, r1, hs⟩, hb1⟩
  · go_wp2_with fail
    go_ret
    exact ⟨rfl, (A0.out.below hb1).bel⟩
  have HS := Lib.hid hs
  have HSr : Hid (rs.length ≤ 1048576) := by have := liveBlocks_small hs; rw [hp] at this; exact this
  obtain ⟨kx, hkx⟩ : ∃ k, k = cntH h := ⟨_, rfl⟩
  have HKx := Lib.hid hkx
  have hkxb : kx ≤ 2199027449856 := by rw [hkx]; have := cntH_le hs; unfold cntH; omega
  have hgex : ¬ (1 + (kx : Int) < 0) := by omega
  have hr : ¬ (r < 0) := by omega
  have A1 := Lib.hid (A0.out.below hb1)
  obtain ⟨la, q0a, q1a, q2a⟩ := Row.at3 A1.out.row
  clear hs hb1 A0 hkx hp
  go_wp2_with fail
  refine (toHeap_calls A1.out.rd HS.out).mono ?_
  rintro e w2 hm
  obtain ⟨y1, yn1, yc1, y2, yn2, yc2, y3, yn3, yc3, rfl, O2, hb2⟩ := hm.open_
  have A2 := Lib.hid (A1.out.below hb2)
  have X2 := Lib.hid O2.rd
  clear hb2 O2 A1 hm la q0a q1a q2a
  go_wp2_with fail
  refine (sLiveBlocks_calls ⟨X2.out, HS.out⟩).mono ?_
  rw [HP.out]
  rintro e w3 ⟨v3, an, rfl, O3, hb3⟩
  obtain ⟨a, ac, rfl, _, _, _⟩ := O3.shape
  have A3 := Lib.hid (A2.out.below hb3)
  have hs2 := A2.out.row.lt
  have hs3 := hb3.size
  have W3 := Lib.hid O3.in_
  obtain ⟨la, q0a, q1a, q2a⟩ := Row.at3 A3.out.row
  clear hb3 O3 X2 A2
  go_wp2_with fail
  have A3b := Lib.hid (A3.out.below ((Below.refl w3.heap.size w3).alloc (Nat.le_refl _) (.cells #[.int .i64 q, .slice a an ac] 43)))
  have W3b := Lib.hid (W3.out.below ((Below.refl w3.heap.size w3).alloc (Nat.le_refl _) (.cells #[.int .i64 q, .slice a an ac] 43)))
  have RW3 : Hid (Row (w3.alloc (.cells #[.int .i64 q, .slice a an ac] 43)) w3.heap.size 43 #[.int .i64 q, .slice a an ac]) := heap_alloc_new _ _
  refine (toHeap_calls A3b.out.rd HS.out).mono ?_
  rintro e w4 hm
  obtain ⟨x1, xn1, xc1, x2, xn2, xc2, x3, xn3, xc3, rfl, O4, hb4⟩ := hm.open_
  have hs4 := hb4.size
  simp at hs4
  have A4 := Lib.hid (A3b.out.below hb4)
  have W4 := Lib.hid (W3b.out.below hb4)
  have RW4 := Lib.hid (RW3.out.below hb4)
  have X4 := Lib.hid (O4.mono (S' := fun k => w3.heap.size + 1 ≤ k ∧ k < w4.heap.size) (fun k hk hl => ⟨by simpa using hk, hl⟩))
  clear hb4 O4 A3 A3b W3 W3b RW3 hm la q0a q1a q2a
  go_wp2_with fail
  have b4 := (Below.refl w4.heap.size w4).alloc (Nat.le_refl _) (.cells #[.slice x1 xn1 xc1, .slice x2 xn2 xc2, .slice x3 xn3 xc3] 30)
  have A5 := Lib.hid (A4.out.below b4)
  have W5 := Lib.hid (W4.out.below b4)
  have RW5 := Lib.hid (RW4.out.below b4)
  have X5 := Lib.hid (X4.out.below b4)
  have RX5 : Hid (Row (w4.alloc (.cells #[.slice x1 xn1 xc1, .slice x2 xn2 xc2, .slice x3 xn3 xc3] 30)) w4.heap.size 30 #[.slice x1 xn1 xc1, .slice x2 xn2 xc2, .slice x3 xn3 xc3]) := heap_alloc_new _ _
  refine (liveBlocks_calls ⟨X5.out.rd, HS.out⟩).mono ?_
  rw [HP.out]
  rintro e w5 ⟨v5, gn, rfl, O5, hb5⟩
  obtain ⟨g, gc, rfl, _, _, _⟩ := O5.shape
  have hs5 := hb5.size
  simp at hs5
  have A6 := Lib.hid (A5.out.below hb5)
  have W6 := Lib.hid (W5.out.below hb5)
  have RW6 := Lib.hid (RW5.out.below hb5)
  have X6 := Lib.hid (X5.out.below hb5)
  have RX6 := Lib.hid (RX5.out.below hb5)
  have G6 := Lib.hid (show OwnIn w5 (w4.heap.size + 1) w5.heap.size (.slice g gn gc) gn rs from by have := O5.in_; simpa using this)
  clear hb5 O5 A4 A5 W4 W5 RW4 RW5 X4 X5 RX5 b4
  obtain ⟨lw, q0w, q1w⟩ := Row.at2 RW6.out
  have b5 := (Below.refl w5.heap.size w5).alloc (Nat.le_refl _) (.cells #[.int .i64 q, .slice g gn gc] 43)
  have hgn : gn ≤ 1048576 := by have := G6.out.lohi; have := HSr.out; omega
  have han : an ≤ 1048576 := by have := W6.out.lohi; have := HSr.out; omega
  have HX := Lib.hid (show HoldY w (w5.alloc (.cells #[.int .i64 q, .slice g gn gc] 43)) w2.heap.size w3.heap.size w4.heap.size w5.heap.size q a an ac g gn gc x1 xn1 xc1 x2 xn2 xc2 x3 xn3 xc3 pa pn pc wa wn wk ma mn mc h rs rs h from
    ⟨A6.out.below b5, RW6.out.below b5, heap_alloc_new _ _, RX6.out.below b5, W6.out.below b5, G6.out.below b5, X6.out.below b5, by omega, by omega, by omega, by omega⟩)
  clear A6 W6 RW6 X6 RX6 G6 b5
  go_wp2_with fail
  refine (eqR_calls HX.out.og.ints HX.out.ow.ints (by omega)).mono ?_
  rintro e W1 ⟨rfl, hb⟩
  have H1 := Lib.hid (HX.out.below hb)
  clear hb HX lw q0w q1w
  obtain ⟨la, q0a, q1a, q2a⟩ := Row.at3 H1.out.in_.row
  obtain ⟨lx, q0x, q1x, q2x⟩ := Row.at3 H1.out.rx
  have kB := Below.refl W1.heap.size W1
  go_wp2_with fail
  go_region_held3 (fun w' => w'.cell? ⟨w4.heap.size, 0, none⟩ = some (.slice x1 xn1 xc1) ∧ w'.cell? ⟨w4.heap.size, 1, none⟩ = some (.slice x2 xn2 xc2) ∧ w'.cell? ⟨w4.heap.size, 2, none⟩ = some (.slice x3 xn3 xc3) ∧ w'.cell? ⟨w.heap.size, 0, none⟩ = some (.slice pa pn pc) ∧ w'.cell? ⟨w.heap.size, 1, none⟩ = some (.slice wa wn wk) ∧ w'.cell? ⟨w.heap.size, 2, none⟩ = some (.slice ma mn mc) ∧ Below W1.heap.size W1 w') (first | assumption | exact ⟨q0x, q1x, q2x, q0a, q1a, q2a, kB.drew⟩)
    (first
      | (go_at_call 35; obtain ⟨y0, y1, y2, y3, y4, y5, kb⟩ := ‹_ ∧ _ ∧ _ ∧ _ ∧ _ ∧ _ ∧ Below _ _ _›; refine (toHeap_calls (H1.out.in_.rd.below kb) HS.out).mono ?_; rintro e w7 hm; obtain ⟨fa, fn, fc, ga, gm, gk, ha, hn, hc, rfl, O7, hb7⟩ := hm.open_; have hS' := keepHH ⟨y0, y1, y2, y3, y4, y5, kb⟩ hb7)
      | (go_at_call 37; obtain ⟨y0, y1, y2, y3, y4, y5, kb⟩ := ‹_ ∧ _ ∧ _ ∧ _ ∧ _ ∧ _ ∧ Below _ _ _›; refine (eqHeap_calls (H1.out.ox.rd.below kb) O7.rd HS.out).mono ?_; rintro e w8 ⟨rfl, hb8⟩; have hS'' := keepHH ⟨y0, y1, y2, y3, y4, y5, kb⟩ hb8))
  have H2 := Lib.hid (H1.out.below hS''.2.2.2.2.2.2)
  clear hS'' hS' kB hb7 hb8 O7 hm H1 la q0a q1a q2a lx q0x q1x q2x
  obtain ⟨lx, q0x, q1x, q2x⟩ := Row.at3 H2.out.rx
  go_wp2_with fail
  refine (markHeap_calls H2.out.ox HS.out (by omega) (by omega)).mono ?_
  rw [← HKx.out]
  rintro e W3 ⟨rfl, o3, t3⟩
  have H3 := Lib.hid (H2.out.putX o3 t3)
  clear o3 t3 H2 lx q0x q1x q2x
  obtain ⟨lw, q0w, q1w⟩ := Row.at2 H3.out.rw_
  obtain ⟨lg, q0g, q1g⟩ := Row.at2 H3.out.rg
  go_wp2_with fail
  refine (eqR_calls H3.out.og.ints H3.out.ow.ints (by omega)).mono ?_
  rintro e W4 ⟨rfl, hb⟩
  have H4 := Lib.hid (H3.out.below hb)
  clear hb H3 lw q0w q1w lg q0g q1g
  obtain ⟨lg, q0g, q1g⟩ := Row.at2 H4.out.rg
  have hge : ¬ (1 + (gn : Int) < 0) := by omega
  have hkk : (1 + (gn : Int) != 1 + (gn : Int)) = false := by simp
  go_wp2_with fail
  refine (markR_calls H4.out.og (by omega) (by omega) (by omega)).mono ?_
  rintro e W5 ⟨rfl, o5, t5⟩
  have H5 := Lib.hid (H4.out.putG o5 t5)
  clear o5 t5 H4 lg q0g q1g
  obtain ⟨lg, q0g, q1g⟩ := Row.at2 H5.out.rg
  go_wp2_with fail
  refine (heldR_calls H5.out.og.ints (by omega) (by omega) (by omega)).mono ?_
  rintro e W6 ⟨rfl, hb⟩
  have H6 := Lib.hid (H5.out.below hb)
  clear hb H5 lg q0g q1g
  obtain ⟨la, q0a, q1a, q2a⟩ := Row.at3 H6.out.in_.row
  go_wp2_with fail
  refine (toHeap_calls H6.out.in_.rd HS.out).mono ?_
  rintro e W7 hm
  obtain ⟨y1, yn1, yc1, y2, yn2, yc2, y3, yn3, yc3, rfl, O7, hb7⟩ := hm.open_
  have H7 := Lib.hid (H6.out.below hb7)
  have X7 := Lib.hid O7.rd
  clear hb7 O7 H6 hm la q0a q1a q2a
  go_wp2_with fail
  refine (liveBlocks_calls ⟨X7.out, HS.out⟩).mono ?_
  rw [HP.out]
  rintro e W8 ⟨v8, en, rfl, O8, hb8⟩
  obtain ⟨e0, ec, rfl, _, _, _⟩ := O8.shape
  have H8 := Lib.hid (H7.out.below hb8)
  have H8b := Lib.hid (H8.out.below ((Below.refl W8.heap.size W8).alloc (Nat.le_refl _) (.cells #[.int .i64 q, .slice e0 en ec] 43)))
  have X8 := Lib.hid ((O8.in_.below ((Below.refl W8.heap.size W8).alloc (Nat.le_refl _) (.cells #[.int .i64 q, .slice e0 en ec] 43))).ints)
  have hen : en ≤ 1048576 := by have : en = rs.length := O8.in_.lohi; have := HSr.out; omega
  clear hb8 O8 H7 X7
  obtain ⟨lw, q0w, q1w⟩ := Row.at2 H8.out.rw_
  clear H8
  go_wp2_with fail
  refine (eqR_calls X8.out H8b.out.ow.ints (by omega)).mono ?_
  rintro e W9 ⟨rfl, hb⟩
  have H9 := Lib.hid (H8b.out.below hb)
  clear hb H8b X8 lw q0w q1w
  obtain ⟨lg, q0g, q1g⟩ := Row.at2 H9.out.rg
  go_wp2_with fail
  refine (heldR_calls H9.out.og.ints (by omega) (by omega) (by omega)).mono ?_
  rintro e W10 ⟨rfl, hb⟩
  have H10 := Lib.hid (H9.out.below hb)
  clear hb H9 lg q0g q1g
  go_wp2_with fail
  go_ret
  exact ⟨rfl, H10.out.in_.bel⟩
end Go.Proofs.YtcnpckaacigbfaaGreat
