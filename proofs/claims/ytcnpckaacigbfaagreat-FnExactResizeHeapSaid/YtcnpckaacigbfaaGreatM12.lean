/- Joined texts (Impl5k, Law5e): steps of the proofs of chapter 5's laws. -/
import Derived.Test.YtcnpckaacigbfaaGreatM7
import Derived.Test.YtcnpckaacigbfaaGreatM11
set_option linter.unusedVariables false
set_option linter.unusedSimpArgs false
/- Chapter 5 of the program: a heap of another size. -/
namespace Go.Proofs.YtcnpckaacigbfaaGreat
open Go.RowKit

theorem min_le_left {a b : Nat} (h : a ≤ b) : min (a : Int) (b : Int) = (a : Int) := by omega
theorem min_le_right {a b : Nat} (h : b ≤ a) : min (a : Int) (b : Int) = (b : Int) := by omega

theorem Lst.none_of {α : Type} {K : Lay α} {w : World} {S : Nat → Prop} {a : Option Addr} {n : Nat} {xs : List α} (h : n = 0) (hx : xs = []) : Lst K w S a n xs := by subst h; subst hx; exact Lst.nil
set_option maxRecDepth 100000 in
set_option maxHeartbeats 8000000 in
theorem resizeHeap_calls {pa wa ma : Option Addr} {pn pc wn wk mn mc : Nat} {h : Hp} {pp : Int} {S : Nat → Prop} {w : World} (hk : HpK w S pa pn pc wa wn wk ma mn mc h) :
    Calls Tryz.prog 32 #[.agg #[.slice pa pn pc, .slice wa wn wk, .slice ma mn mc], .int .i64 pp] w (RetsHeap w (resizeHeap h pp)) := by
  have HK := Lib.hid hk
  have HP := Lib.hid hk.r.pg.1
  clear hk
  have hB0 : Below w.heap.size w ((w.alloc (.cells #[.slice pa pn pc, .slice wa wn wk, .slice ma mn mc] 30)).alloc (.cells #[.int .i64 0, .slice none 0 0, .slice none 0 0, .slice none 0 0, .int .i64 0, .int .i64 0] 34)) := ((Below.refl _ _).alloc (Nat.le_refl _) _).alloc (by simp) _
  have HB0 := Lib.hid hB0
  clear hB0
  go_enter Tryz.func32, Tryz.ntmps32
  go_wp2_with fail
  refine (heapFault_calls (HK.out.r.below HB0.out) HK.out.s).mono ?_
  rintro e w1 ⟨rfl, hb1⟩
  obtain ⟨R0, R1, B1, hs1⟩ := two_new hb1
  have R0 : Row w1 w.heap.size 30 #[.slice pa pn pc, .slice wa wn wk, .slice ma mn mc] := R0
  have HR1 : Hid (Row w1 (w.heap.size + 1) 34 #[.int .i64 0, .slice none 0 0, .slice none 0 0, .slice none 0 0, .int .i64 0, .int .i64 0]) := R1
  have HB1 := Lib.hid B1
  clear hb1 R1 B1
  by_cases hf : heapFault h = 0
  rotate_left
  · have HF : Hid (resizeHeap h pp = (heapFault h, Hp.zero)) := by show _ = _; unfold resizeHeap; rw [if_neg hf]
    have hq : (heapFault h != 0) = true := by simpa using hf
    clear hf
    have hres := HR1.out
    go_wp2_with (refine wpList_store_row rfl 34 _ _ rfl (w.heap.size + 1) _ rfl rfl _ _ hres (by kernel_rfl) (by rfl) (by simp [Value.oneCell']) ?_)
    refine bodyPost_ret (results_cell_row rfl _ _ (w.heap.size + 1) _ _ _ _ rfl (setRow_heap _ _ _ _ _ _ hres) Tryz.underlying34 rfl (by kernel_rfl)) rfl ?_
    exact heap_done HB1.out (by omega) HpO.zero _ HF.out
  have HF0 := Lib.hid hf
  rw [hf]
  clear hf
  have R2 := R0.below ((Below.refl _ _).alloc (Nat.le_refl w1.heap.size) (.cells #[.int .i64 pp] 2))
  have HR2 := Lib.hid (HR1.out.below ((Below.refl _ _).alloc (Nat.le_refl w1.heap.size) (.cells #[.int .i64 pp] 2)))
  have HB2 := Lib.hid (HB1.out.alloc HB1.out.size (.cells #[.int .i64 pp] 2))
  rcases hw : within 0 40 [pp] with _ | _
  · have HF : Hid (resizeHeap h pp = (3, Hp.zero)) := by show _ = _; unfold resizeHeap; rw [if_pos HF0.out, if_neg (by rw [hw]; decide)]
    have hres := HR2.out
    go_wp2_with fail
    refine (allWithin_calls (Ints.one (by simp)) (by omega)).mono ?_
    rw [hw]
    rintro e w2 ⟨rfl, rfl⟩
    go_wp2_with (refine wpList_store_row rfl 34 _ _ rfl (w.heap.size + 1) _ rfl rfl _ _ hres (by kernel_rfl) (by rfl) (by simp [Value.oneCell']) ?_)
    refine bodyPost_ret (results_cell_row rfl _ _ (w.heap.size + 1) _ _ _ _ rfl (setRow_heap _ _ _ _ _ _ hres) Tryz.underlying34 rfl (by kernel_rfl)) rfl ?_
    exact heap_done HB2.out (by omega) HpO.zero _ HF.out
  have HW := Lib.hid hw
  obtain ⟨p, rfl⟩ : ∃ p : Nat, pp = p := ⟨pp.toNat, by have := within_range hw; omega⟩
  have hp40 : p ≤ 40 := by have := within_range hw; omega
  have HF1 : Hid (resizeHeap h p = if anyUsed ((drainHp h).pages.drop p) = true then (8, Hp.zero) else (0, fitHp (drainHp h) p)) := by show _ = _; unfold resizeHeap; rw [if_pos HF0.out, if_pos hw, Int.toNat_natCast]
  clear hw
  go_wp2_with fail
  refine (allWithin_calls (Ints.one (by simp)) (by omega)).mono ?_
  rw [HW.out]
  rintro e w2 ⟨rfl, rfl⟩
  have q0 := R2.cell 0
  have q1 := R2.cell 1
  have q2 := R2.cell 2
  have ql := R2.lt
  simp at q0 q1 q2
  go_wp2_with fail
  refine (drained_calls (HK.out.below HB2.out) HF0.out).mono ?_
  rintro e w3 ⟨vp, np, vw, nw, vm, nm, rfl, ho3, hb3⟩
  obtain ⟨pa2, pc2, wa2, wc2, ma2, mc2, rfl, rfl, rfl, hr3⟩ := ho3.shape
  have hnp : np ≤ 40 := by
    have h1 := hr3.pg.1
    have h2 := length_dropAll h.kept h.pages
    have h3 := (pagesFault_ok (heapFault_ok HF0.out).1).1
    simp only [drainHp] at h1
    omega
  have hnpc := hr3.p1
  have hpc2 : pc2 ≤ 9223372036854775807 := Nat.le_trans hr3.p2 (by decide)
  have hbx := (Below.refl _ _).alloc (Nat.le_refl w3.heap.size) (.cells #[.slice pa2 np pc2, .slice wa2 nw wc2, .slice ma2 nm mc2] 30)
  have HR3 := Lib.hid ((HR2.out.below hb3).below hbx)
  have R3 := Lib.hid (show Row (w3.alloc (.cells #[.slice pa2 np pc2, .slice wa2 nw wc2, .slice ma2 nm mc2] 30)) w3.heap.size 30 #[.slice pa2 np pc2, .slice wa2 nw wc2, .slice ma2 nm mc2] from heap_alloc_new w3 _)
  have HB3 := Lib.hid ((HB2.out.trans (hb3.mono HB2.out.size)).alloc (HB2.out.trans (hb3.mono HB2.out.size)).size (.cells #[.slice pa2 np pc2, .slice wa2 nw wc2, .slice ma2 nm mc2] 30))
  have hls : w.heap.size + 1 < w1.heap.size := HR1.out.lt
  have HSp : Hid ((pa2 = none ∧ pc2 = 0) ∨ ∃ g, pa2 = some ⟨g, 0, none⟩) := by
    obtain ⟨S1, S2, S3, h1, _⟩ := ho3.ex
    rcases h1.2 with ⟨e, _⟩ | ⟨g, _, _, _, e, _⟩
    · cases e; exact .inl ⟨rfl, rfl⟩
    · cases e; exact .inr ⟨g, rfl⟩
  have HO3 := Lib.hid ((ho3.below hbx).mono (S' := fun k => w.heap.size + 1 < k ∧ k < w3.heap.size + 1) (fun k hk hl => by simp at hk hl; omega))
  have HL3 := Lib.hid (hr3.pg.below hbx)
  have HN3 := Lib.hid hr3.pg.1
  clear ho3 hb3 hr3 hbx R2 q0 q1 q2 ql R0
  by_cases hlt : p < np
  · have hmin := min_le_left (Nat.le_of_lt hlt)
    obtain ⟨b, o, rfl, _, _⟩ := HL3.out.lt (by omega)
    have HLp := Lib.hid (show Lst KPage (w3.alloc (.cells #[.slice (some ⟨b, o, none⟩) np pc2, .slice wa2 nw wc2, .slice ma2 nm mc2] 30)) (fun k => (w1.alloc (.cells #[.int .i64 p] 2)).heap.size ≤ k) (some ⟨b, o + p * 4, none⟩) (np - p) ((drainHp h).pages.drop p) by
      have := HL3.out.part (i := p) (m := np - p) (by omega)
      rw [List.take_of_length_le (by rw [List.length_drop, HN3.out]; exact Nat.le_refl _)] at this
      exact this)
    have hpc3 : p < pc2 := by omega
    go_wp2_with fail
    refine (containsU_calls HLp.out (by omega)).mono ?_
    rintro e w4 ⟨rfl, hb4⟩
    have hB4 := Lib.hid (HB3.out.trans (hb4.mono HB3.out.size))
    have HR4 := Lib.hid (HR3.out.below hb4)
    have R4 := R3.out.below hb4
    have HO4 := Lib.hid (HO3.out.below hb4)
    have hs4 : w3.heap.size + 1 ≤ w4.heap.size := by have := hb4.size; simpa using this
    clear hb4
    have q0 := R4.cell 0
    have q1 := R4.cell 1
    have q2 := R4.cell 2
    have ql := R4.lt
    simp at q0 q1 q2
    rcases hu : anyUsed ((drainHp h).pages.drop p) with _ | _
    rotate_left
    · have HF : Hid (resizeHeap h p = (8, Hp.zero)) := by show _ = _; rw [HF1.out, if_pos hu]
      have hres := HR4.out
      clear hu
      go_wp2_with (refine wpList_store_row rfl 34 _ _ rfl (w.heap.size + 1) _ rfl rfl _ _ hres (by kernel_rfl) (by rfl) (by simp [Value.oneCell']) ?_)
      refine bodyPost_ret (results_cell_row rfl _ _ (w.heap.size + 1) _ _ _ _ rfl (setRow_heap _ _ _ _ _ _ hres) Tryz.underlying34 rfl (by kernel_rfl)) rfl ?_
      exact heap_done hB4.out (by omega) HpO.zero _ HF.out
    have HF : Hid (resizeHeap h p = (0, fitHp (drainHp h) p)) := by show _ = _; rw [HF1.out, if_neg (by rw [hu]; decide)]
    clear hu
    go_wp2_with fail
    refine (withPages_calls HO4.out hp40 (fun k hk => Nat.lt_of_lt_of_le hk.2 hs4)).mono ?_
    rintro e w5 ⟨vp, vw, nw, rfl, ho5, hb5⟩
    have hres := HR4.out.below hb5
    have hB5 := hB4.out.trans (hb5.mono hB4.out.size)
    obtain ⟨pa5, pc5, wa5, wc5, ma5, mc5, rfl, rfl, e5, _⟩ := ho5.shape
    have HO5 := Lib.hid (ho5.mono (S' := fun k => w.heap.size + 1 < k) (fun k hk _ => by
      have := HR4.out.lt
      rcases hk with hk | hk
      · exact hk.1
      · omega))
    clear ho5 hb5 e5 R4 q0 q1 q2 ql
    go_wp2_with (refine wpList_store_row rfl 34 _ _ rfl (w.heap.size + 1) _ rfl rfl _ _ hres (by kernel_rfl) (by rfl) (by simp [Value.oneCell']) ?_)
    refine bodyPost_ret (results_cell_row rfl _ _ (w.heap.size + 1) _ _ _ _ rfl (setRow_heap _ _ _ _ _ _ hres) Tryz.underlying34 rfl (by kernel_rfl)) rfl ?_
    exact heap_done hB5 (by omega) HO5.out _ HF.out
  · have hmin := min_le_right (show np ≤ p by omega)
    have hdr : (drainHp h).pages.drop p = [] := List.drop_of_length_le (by have := HN3.out; omega)
    have HDr := Lib.hid hdr
    clear hdr
    by_cases hcap : pc2 = np
    · obtain rfl : np = pc2 := hcap.symm
      rcases pa2 with _ | ⟨b, o, sp⟩
      · skip
        go_wp2_with fail
        refine (containsU_calls (Lst.none_of (S := fun _ => True) (by omega) HDr.out) (by omega)).mono ?_
        rintro e w4 ⟨rfl, hb4⟩
        have hB4 := Lib.hid (HB3.out.trans (hb4.mono HB3.out.size))
        have HR4 := Lib.hid (HR3.out.below hb4)
        have R4 := R3.out.below hb4
        have HO4 := Lib.hid (HO3.out.below hb4)
        have hs4 : w3.heap.size + 1 ≤ w4.heap.size := by have := hb4.size; simpa using this
        clear hb4
        have q0 := R4.cell 0
        have q1 := R4.cell 1
        have q2 := R4.cell 2
        have ql := R4.lt
        simp at q0 q1 q2
        rcases hu : anyUsed ((drainHp h).pages.drop p) with _ | _
        rotate_left
        · have HF : Hid (resizeHeap h p = (8, Hp.zero)) := by show _ = _; rw [HF1.out, if_pos hu]
          have hres := HR4.out
          clear hu
          go_wp2_with (refine wpList_store_row rfl 34 _ _ rfl (w.heap.size + 1) _ rfl rfl _ _ hres (by kernel_rfl) (by rfl) (by simp [Value.oneCell']) ?_)
          refine bodyPost_ret (results_cell_row rfl _ _ (w.heap.size + 1) _ _ _ _ rfl (setRow_heap _ _ _ _ _ _ hres) Tryz.underlying34 rfl (by kernel_rfl)) rfl ?_
          exact heap_done hB4.out (by omega) HpO.zero _ HF.out
        have HF : Hid (resizeHeap h p = (0, fitHp (drainHp h) p)) := by show _ = _; rw [HF1.out, if_neg (by rw [hu]; decide)]
        clear hu
        go_wp2_with fail
        refine (withPages_calls HO4.out hp40 (fun k hk => Nat.lt_of_lt_of_le hk.2 hs4)).mono ?_
        rintro e w5 ⟨vp, vw, nw, rfl, ho5, hb5⟩
        have hres := HR4.out.below hb5
        have hB5 := hB4.out.trans (hb5.mono hB4.out.size)
        obtain ⟨pa5, pc5, wa5, wc5, ma5, mc5, rfl, rfl, e5, _⟩ := ho5.shape
        have HO5 := Lib.hid (ho5.mono (S' := fun k => w.heap.size + 1 < k) (fun k hk _ => by
          have := HR4.out.lt
          rcases hk with hk | hk
          · exact hk.1
          · omega))
        clear ho5 hb5 e5 R4 q0 q1 q2 ql
        go_wp2_with (refine wpList_store_row rfl 34 _ _ rfl (w.heap.size + 1) _ rfl rfl _ _ hres (by kernel_rfl) (by rfl) (by simp [Value.oneCell']) ?_)
        refine bodyPost_ret (results_cell_row rfl _ _ (w.heap.size + 1) _ _ _ _ rfl (setRow_heap _ _ _ _ _ _ hres) Tryz.underlying34 rfl (by kernel_rfl)) rfl ?_
        exact heap_done hB5 (by omega) HO5.out _ HF.out
      · skip
        go_wp2_with fail
        refine (containsU_calls (Lst.none_of (S := fun _ => True) (by omega) HDr.out) (by omega)).mono ?_
        rintro e w4 ⟨rfl, hb4⟩
        have hB4 := Lib.hid (HB3.out.trans (hb4.mono HB3.out.size))
        have HR4 := Lib.hid (HR3.out.below hb4)
        have R4 := R3.out.below hb4
        have HO4 := Lib.hid (HO3.out.below hb4)
        have hs4 : w3.heap.size + 1 ≤ w4.heap.size := by have := hb4.size; simpa using this
        clear hb4
        have q0 := R4.cell 0
        have q1 := R4.cell 1
        have q2 := R4.cell 2
        have ql := R4.lt
        simp at q0 q1 q2
        rcases hu : anyUsed ((drainHp h).pages.drop p) with _ | _
        rotate_left
        · have HF : Hid (resizeHeap h p = (8, Hp.zero)) := by show _ = _; rw [HF1.out, if_pos hu]
          have hres := HR4.out
          clear hu
          go_wp2_with (refine wpList_store_row rfl 34 _ _ rfl (w.heap.size + 1) _ rfl rfl _ _ hres (by kernel_rfl) (by rfl) (by simp [Value.oneCell']) ?_)
          refine bodyPost_ret (results_cell_row rfl _ _ (w.heap.size + 1) _ _ _ _ rfl (setRow_heap _ _ _ _ _ _ hres) Tryz.underlying34 rfl (by kernel_rfl)) rfl ?_
          exact heap_done hB4.out (by omega) HpO.zero _ HF.out
        have HF : Hid (resizeHeap h p = (0, fitHp (drainHp h) p)) := by show _ = _; rw [HF1.out, if_neg (by rw [hu]; decide)]
        clear hu
        go_wp2_with fail
        refine (withPages_calls HO4.out hp40 (fun k hk => Nat.lt_of_lt_of_le hk.2 hs4)).mono ?_
        rintro e w5 ⟨vp, vw, nw, rfl, ho5, hb5⟩
        have hres := HR4.out.below hb5
        have hB5 := hB4.out.trans (hb5.mono hB4.out.size)
        obtain ⟨pa5, pc5, wa5, wc5, ma5, mc5, rfl, rfl, e5, _⟩ := ho5.shape
        have HO5 := Lib.hid (ho5.mono (S' := fun k => w.heap.size + 1 < k) (fun k hk _ => by
          have := HR4.out.lt
          rcases hk with hk | hk
          · exact hk.1
          · omega))
        clear ho5 hb5 e5 R4 q0 q1 q2 ql
        go_wp2_with (refine wpList_store_row rfl 34 _ _ rfl (w.heap.size + 1) _ rfl rfl _ _ hres (by kernel_rfl) (by rfl) (by simp [Value.oneCell']) ?_)
        refine bodyPost_ret (results_cell_row rfl _ _ (w.heap.size + 1) _ _ _ _ rfl (setRow_heap _ _ _ _ _ _ hres) Tryz.underlying34 rfl (by kernel_rfl)) rfl ?_
        exact heap_done hB5 (by omega) HO5.out _ HF.out
    · have hlt2 : np < pc2 := by omega
      rcases HSp.out with ⟨_, hx⟩ | ⟨g, rfl⟩
      · omega
      go_wp2_with fail
      refine (containsU_calls (Lst.none_of (S := fun _ => True) (by omega) HDr.out) (by omega)).mono ?_
      rintro e w4 ⟨rfl, hb4⟩
      have hB4 := Lib.hid (HB3.out.trans (hb4.mono HB3.out.size))
      have HR4 := Lib.hid (HR3.out.below hb4)
      have R4 := R3.out.below hb4
      have HO4 := Lib.hid (HO3.out.below hb4)
      have hs4 : w3.heap.size + 1 ≤ w4.heap.size := by have := hb4.size; simpa using this
      clear hb4
      have q0 := R4.cell 0
      have q1 := R4.cell 1
      have q2 := R4.cell 2
      have ql := R4.lt
      simp at q0 q1 q2
      rcases hu : anyUsed ((drainHp h).pages.drop p) with _ | _
      rotate_left
      · have HF : Hid (resizeHeap h p = (8, Hp.zero)) := by show _ = _; rw [HF1.out, if_pos hu]
        have hres := HR4.out
        clear hu
        go_wp2_with (refine wpList_store_row rfl 34 _ _ rfl (w.heap.size + 1) _ rfl rfl _ _ hres (by kernel_rfl) (by rfl) (by simp [Value.oneCell']) ?_)
        refine bodyPost_ret (results_cell_row rfl _ _ (w.heap.size + 1) _ _ _ _ rfl (setRow_heap _ _ _ _ _ _ hres) Tryz.underlying34 rfl (by kernel_rfl)) rfl ?_
        exact heap_done hB4.out (by omega) HpO.zero _ HF.out
      have HF : Hid (resizeHeap h p = (0, fitHp (drainHp h) p)) := by show _ = _; rw [HF1.out, if_neg (by rw [hu]; decide)]
      clear hu
      go_wp2_with fail
      refine (withPages_calls HO4.out hp40 (fun k hk => Nat.lt_of_lt_of_le hk.2 hs4)).mono ?_
      rintro e w5 ⟨vp, vw, nw, rfl, ho5, hb5⟩
      have hres := HR4.out.below hb5
      have hB5 := hB4.out.trans (hb5.mono hB4.out.size)
      obtain ⟨pa5, pc5, wa5, wc5, ma5, mc5, rfl, rfl, e5, _⟩ := ho5.shape
      have HO5 := Lib.hid (ho5.mono (S' := fun k => w.heap.size + 1 < k) (fun k hk _ => by
        have := HR4.out.lt
        rcases hk with hk | hk
        · exact hk.1
        · omega))
      clear ho5 hb5 e5 R4 q0 q1 q2 ql
      go_wp2_with (refine wpList_store_row rfl 34 _ _ rfl (w.heap.size + 1) _ rfl rfl _ _ hres (by kernel_rfl) (by rfl) (by simp [Value.oneCell']) ?_)
      refine bodyPost_ret (results_cell_row rfl _ _ (w.heap.size + 1) _ _ _ _ rfl (setRow_heap _ _ _ _ _ _ hres) Tryz.underlying34 rfl (by kernel_rfl)) rfl ?_
      exact heap_done hB5 (by omega) HO5.out _ HF.out
end Go.Proofs.YtcnpckaacigbfaaGreat

/- The exact laws of chapter 5: heaps drained and resized. -/
namespace Go.Proofs.YtcnpckaacigbfaaGreat
open Go.RowKit

set_option maxHeartbeats 800000 in
set_option maxRecDepth 100000 in
theorem lawDrainHeap {pa wa ma : Option Addr} {pn pc wn wk mn mc : Nat} {h : Hp} {S : Nat → Prop} {w : World} (hT : HpR w S pa pn pc wa wn wk ma mn mc h) :
    Calls Tryz.prog 7 #[.agg #[.slice pa pn pc, .slice wa wn wk, .slice ma mn mc]] w fun e w' => e = .returned (.bool true) ∧ Below w.heap.size w w' := by
  have A0 := Lib.hid (InH.start hT)
  obtain ⟨⟨q, rs⟩, hp⟩ : ∃ r, drainHeap h = r := ⟨_, rfl⟩
  have HP := Lib.hid hp
  have HSr : Hid (HpS 1048576 rs) := by have := drainHeap_small h; rw [hp] at this; exact this
  obtain ⟨k, hk⟩ : ∃ k, k = cntH rs := ⟨_, rfl⟩
  have HK := Lib.hid hk
  have hkb : k ≤ 2199027449856 := by rw [hk]; have := cntH_le HSr.out; unfold cntH; omega
  have hge : ¬ (1 + (k : Int) < 0) := by omega
  have hkk : (1 + (k : Int) != 1 + (k : Int)) = false := by simp
  clear hp hk
  go_enter Tryz.func7, Tryz.ntmps7
  go_wp2_with fail
  refine (szHeap_calls A0.out.rd (by omega) (by omega)).mono ?_
  rintro e w1 ⟨rfl | ⟨r, rfl, r0, r1, hs⟩, hb1⟩
  · go_wp2_with fail
    go_ret
    exact ⟨rfl, (A0.out.below hb1).bel⟩
  have HS := Lib.hid hs
  obtain ⟨kx, hkx⟩ : ∃ k, k = cntH h := ⟨_, rfl⟩
  have HKx := Lib.hid hkx
  have hkxb : kx ≤ 2199027449856 := by rw [hkx]; have := cntH_le hs; unfold cntH; omega
  have hgex : ¬ (1 + (kx : Int) < 0) := by omega
  have hr : ¬ (r < 0) := by omega
  have A1 := Lib.hid (A0.out.below hb1)
  obtain ⟨la, q0a, q1a, q2a⟩ := Row.at3 A1.out.row
  clear hs hb1 A0 hkx
  go_wp2_with fail
  refine (toHeap_calls A1.out.rd HS.out).mono ?_
  rintro e w2 hm
  obtain ⟨y1, yn1, yc1, y2, yn2, yc2, y3, yn3, yc3, rfl, O2, hb2⟩ := hm.open_
  have A2 := Lib.hid (A1.out.below hb2)
  have X2 := Lib.hid O2.rd
  clear hb2 O2 A1 hm la q0a q1a q2a
  go_wp2_with fail
  refine (sDrainHeap_calls ⟨X2.out, HS.out⟩).mono ?_
  rw [HP.out]
  rintro e w3 hm
  obtain ⟨a1, an1, ac1, a2, an2, ac2, a3, an3, ac3, rfl, O3, hb3⟩ := hm.open_
  have A3 := Lib.hid (A2.out.below hb3)
  have hs2 := A2.out.row.lt
  have hs3 := hb3.size
  have W3 := Lib.hid (O3.mono (S' := fun k => w2.heap.size ≤ k ∧ k < w3.heap.size) (fun k hk hl => ⟨hk, hl⟩))
  obtain ⟨la, q0a, q1a, q2a⟩ := Row.at3 A3.out.row
  clear hb3 O3 X2 A2 hm
  go_wp2_with fail
  have A3b := Lib.hid (A3.out.below ((Below.refl w3.heap.size w3).alloc (Nat.le_refl _) (.cells #[.int .i64 q, .slice a1 an1 ac1, .slice a2 an2 ac2, .slice a3 an3 ac3, .int .i64 0, .int .i64 0] 34)))
  have W3b := Lib.hid (W3.out.below ((Below.refl w3.heap.size w3).alloc (Nat.le_refl _) (.cells #[.int .i64 q, .slice a1 an1 ac1, .slice a2 an2 ac2, .slice a3 an3 ac3, .int .i64 0, .int .i64 0] 34)))
  have RW3 : Hid (Row (w3.alloc (.cells #[.int .i64 q, .slice a1 an1 ac1, .slice a2 an2 ac2, .slice a3 an3 ac3, .int .i64 0, .int .i64 0] 34)) w3.heap.size 34 #[.int .i64 q, .slice a1 an1 ac1, .slice a2 an2 ac2, .slice a3 an3 ac3, .int .i64 0, .int .i64 0]) := heap_alloc_new _ _
  refine (toHeap_calls A3b.out.rd HS.out).mono ?_
  rintro e w4 hm
  obtain ⟨x1, xn1, xc1, x2, xn2, xc2, x3, xn3, xc3, rfl, O4, hb4⟩ := hm.open_
  have hs4 := hb4.size
  simp at hs4
  have A4 := Lib.hid (A3b.out.below hb4)
  have W4 := Lib.hid (W3b.out.below hb4)
  have RW4 := Lib.hid (RW3.out.below hb4)
  have X4 := Lib.hid (O4.mono (S' := fun k => w3.heap.size + 1 ≤ k ∧ k < w4.heap.size) (fun k hk hl => ⟨by simpa using hk, hl⟩))
  clear hb4 O4 A3 A3b W3 W3b RW3 hm la q0a q1a q2a
  go_wp2_with fail
  have b4 := (Below.refl w4.heap.size w4).alloc (Nat.le_refl _) (.cells #[.slice x1 xn1 xc1, .slice x2 xn2 xc2, .slice x3 xn3 xc3] 30)
  have A5 := Lib.hid (A4.out.below b4)
  have W5 := Lib.hid (W4.out.below b4)
  have RW5 := Lib.hid (RW4.out.below b4)
  have X5 := Lib.hid (X4.out.below b4)
  have RX5 : Hid (Row (w4.alloc (.cells #[.slice x1 xn1 xc1, .slice x2 xn2 xc2, .slice x3 xn3 xc3] 30)) w4.heap.size 30 #[.slice x1 xn1 xc1, .slice x2 xn2 xc2, .slice x3 xn3 xc3]) := heap_alloc_new _ _
  refine (drainHeap_calls ⟨X5.out.rd, HS.out⟩).mono ?_
  rw [HP.out]
  rintro e w5 hm
  obtain ⟨g1, gn1, gc1, g2, gn2, gc2, g3, gn3, gc3, rfl, O5, hb5⟩ := hm.open_
  have hs5 := hb5.size
  simp at hs5
  have A6 := Lib.hid (A5.out.below hb5)
  have W6 := Lib.hid (W5.out.below hb5)
  have RW6 := Lib.hid (RW5.out.below hb5)
  have X6 := Lib.hid (X5.out.below hb5)
  have RX6 := Lib.hid (RX5.out.below hb5)
  have G6 := Lib.hid (O5.mono (S' := fun k => w4.heap.size + 1 ≤ k ∧ k < w5.heap.size) (fun k hk hl => ⟨by simpa using hk, hl⟩))
  clear hb5 O5 A4 A5 W4 W5 RW4 RW5 X4 X5 RX5 b4 hm
  obtain ⟨lw, q0w, q1w, q2w, q3w, q4w, q5w⟩ := Row.at6 RW6.out
  have b5 := (Below.refl w5.heap.size w5).alloc (Nat.le_refl _) (.cells #[.int .i64 q, .slice g1 gn1 gc1, .slice g2 gn2 gc2, .slice g3 gn3 gc3, .int .i64 0, .int .i64 0] 34)
  have HX := Lib.hid (show HoldX w (w5.alloc (.cells #[.int .i64 q, .slice g1 gn1 gc1, .slice g2 gn2 gc2, .slice g3 gn3 gc3, .int .i64 0, .int .i64 0] 34)) w3.heap.size w5.heap.size w4.heap.size q a1 an1 ac1 a2 an2 ac2 a3 an3 ac3 g1 gn1 gc1 g2 gn2 gc2 g3 gn3 gc3 x1 xn1 xc1 x2 xn2 xc2 x3 xn3 xc3 pa pn pc wa wn wk ma mn mc h rs rs h from
    ⟨A6.out.below b5, RW6.out.below b5, heap_alloc_new _ _, RX6.out.below b5, fun k => w2.heap.size ≤ k ∧ k < w3.heap.size, fun k => w4.heap.size + 1 ≤ k ∧ k < w5.heap.size, fun k => w3.heap.size + 1 ≤ k ∧ k < w4.heap.size, W6.out.rd.below b5, G6.out.below b5, X6.out.below b5, fun k hk => by
      obtain ⟨h1, h2⟩ := hk
      exact ⟨by omega, by omega, by omega, by omega, fun hh => by obtain ⟨h3, h4⟩ := hh; omega, fun hh => by obtain ⟨h3, h4⟩ := hh; omega⟩, fun k hk => by
      obtain ⟨h1, h2⟩ := hk
      exact ⟨by omega, by omega, by omega, by omega, fun hh => by obtain ⟨h3, h4⟩ := hh; omega, fun hh => by obtain ⟨h3, h4⟩ := hh; omega⟩⟩)
  clear A6 W6 RW6 X6 RX6 G6 b5
  obtain ⟨SW, LW⟩ := HX.out.rdW
  obtain ⟨SG, LG⟩ := HX.out.rdG
  have HL := Lib.hid (And.intro LG LW)
  clear LW LG
  go_wp2_with fail
  refine (eqHR_calls HL.out.1 HL.out.2 HSr.out).mono ?_
  rintro e W1 ⟨rfl, hb⟩
  have H1 := Lib.hid (HX.out.below hb)
  clear hb HX HL lw q0w q1w q2w q3w q4w q5w
  obtain ⟨la, q0a, q1a, q2a⟩ := Row.at3 H1.out.in_.row
  obtain ⟨lx, q0x, q1x, q2x⟩ := Row.at3 H1.out.rx
  have kB := Below.refl W1.heap.size W1
  obtain ⟨SX, LX⟩ := H1.out.rdX
  have HLX := Lib.hid LX
  clear LX
  go_wp2_with fail
  go_region_held3 (fun w' => w'.cell? ⟨w4.heap.size, 0, none⟩ = some (.slice x1 xn1 xc1) ∧ w'.cell? ⟨w4.heap.size, 1, none⟩ = some (.slice x2 xn2 xc2) ∧ w'.cell? ⟨w4.heap.size, 2, none⟩ = some (.slice x3 xn3 xc3) ∧ w'.cell? ⟨w.heap.size, 0, none⟩ = some (.slice pa pn pc) ∧ w'.cell? ⟨w.heap.size, 1, none⟩ = some (.slice wa wn wk) ∧ w'.cell? ⟨w.heap.size, 2, none⟩ = some (.slice ma mn mc) ∧ Below W1.heap.size W1 w') (first | assumption | exact ⟨q0x, q1x, q2x, q0a, q1a, q2a, kB.drew⟩)
    (first
      | (go_at_call 35; obtain ⟨y0, y1, y2, y3, y4, y5, kb⟩ := ‹_ ∧ _ ∧ _ ∧ _ ∧ _ ∧ _ ∧ Below _ _ _›; refine (toHeap_calls (H1.out.in_.rd.below kb) HS.out).mono ?_; rintro e w7 hm; obtain ⟨fa, fn, fc, ga, gn, gc, ha, hn, hc, rfl, O7, hb7⟩ := hm.open_; have hS' := keepHH ⟨y0, y1, y2, y3, y4, y5, kb⟩ hb7)
      | (go_at_call 37; obtain ⟨y0, y1, y2, y3, y4, y5, kb⟩ := ‹_ ∧ _ ∧ _ ∧ _ ∧ _ ∧ _ ∧ Below _ _ _›; refine (eqHeap_calls (HLX.out.below kb) O7.rd HS.out).mono ?_; rintro e w8 ⟨rfl, hb8⟩; have hS'' := keepHH ⟨y0, y1, y2, y3, y4, y5, kb⟩ hb8))
  have H2 := Lib.hid (H1.out.below hS''.2.2.2.2.2.2)
  clear hS'' hS' kB hb7 hb8 O7 hm HLX H1 la q0a q1a q2a lx q0x q1x q2x
  obtain ⟨lx, q0x, q1x, q2x⟩ := Row.at3 H2.out.rx
  obtain ⟨Sx, ox, hput⟩ := H2.out.ownX
  have HO := Lib.hid ox
  have HPut := Lib.hid hput
  clear ox hput
  go_wp2_with fail
  refine (markHeap_calls HO.out HS.out (by omega) (by omega)).mono ?_
  rw [← HKx.out]
  rintro e W3 ⟨rfl, o3, t3⟩
  have H3 := Lib.hid (HPut.out W3 _ o3 t3)
  clear o3 t3 HO HPut H2 lx q0x q1x q2x
  obtain ⟨lw, q0w, q1w, q2w, q3w, q4w, q5w⟩ := Row.at6 H3.out.rw_
  obtain ⟨lg, q0g, q1g, q2g, q3g, q4g, q5g⟩ := Row.at6 H3.out.rg
  obtain ⟨SW3, LW⟩ := H3.out.rdW
  obtain ⟨SG3, LG⟩ := H3.out.rdG
  have HL := Lib.hid (And.intro LG LW)
  clear LW LG
  go_wp2_with fail
  refine (eqHR_calls HL.out.1 HL.out.2 HSr.out).mono ?_
  rintro e W4 ⟨rfl, hb⟩
  have H4 := Lib.hid (H3.out.below hb)
  clear hb H3 HL lw q0w q1w q2w q3w q4w q5w lg q0g q1g q2g q3g q4g q5g
  obtain ⟨lg, q0g, q1g, q2g, q3g, q4g, q5g⟩ := Row.at6 H4.out.rg
  obtain ⟨Sg, og, hput⟩ := H4.out.ownG
  have HO := Lib.hid og
  have HPut := Lib.hid hput
  clear og hput
  go_wp2_with fail
  refine (markHR_calls HO.out HSr.out (by omega) (by omega)).mono ?_
  rw [← HK.out]
  rintro e W5 ⟨rfl, o5, t5⟩
  have H5 := Lib.hid (HPut.out W5 _ o5 t5)
  clear o5 t5 HO HPut H4 lg q0g q1g q2g q3g q4g q5g
  obtain ⟨lg, q0g, q1g, q2g, q3g, q4g, q5g⟩ := Row.at6 H5.out.rg
  obtain ⟨SG5, LG⟩ := H5.out.rdG
  have HL := Lib.hid LG
  clear LG
  go_wp2_with fail
  refine (heldHR_calls HL.out HSr.out (by omega) (by omega)).mono ?_
  rw [← HK.out]
  rintro e W6 ⟨rfl, hb⟩
  have H6 := Lib.hid (H5.out.below hb)
  clear hb H5 HL lg q0g q1g q2g q3g q4g q5g
  obtain ⟨la, q0a, q1a, q2a⟩ := Row.at3 H6.out.in_.row
  go_wp2_with fail
  refine (toHeap_calls H6.out.in_.rd HS.out).mono ?_
  rintro e W7 hm
  obtain ⟨y1, yn1, yc1, y2, yn2, yc2, y3, yn3, yc3, rfl, O7, hb7⟩ := hm.open_
  have H7 := Lib.hid (H6.out.below hb7)
  have X7 := Lib.hid O7.rd
  clear hb7 O7 H6 hm la q0a q1a q2a
  go_wp2_with fail
  refine (drainHeap_calls ⟨X7.out, HS.out⟩).mono ?_
  rw [HP.out]
  rintro e W8 hm
  obtain ⟨e1, en1, ec1, e2, en2, ec2, e3, en3, ec3, rfl, O8, hb8⟩ := hm.open_
  have H8 := Lib.hid (H7.out.below hb8)
  have X8 := Lib.hid (O8.rd.alloc (.cells #[.int .i64 q, .slice e1 en1 ec1, .slice e2 en2 ec2, .slice e3 en3 ec3, .int .i64 0, .int .i64 0] 34))
  have H8b := Lib.hid (H8.out.below ((Below.refl W8.heap.size W8).alloc (Nat.le_refl _) (.cells #[.int .i64 q, .slice e1 en1 ec1, .slice e2 en2 ec2, .slice e3 en3 ec3, .int .i64 0, .int .i64 0] 34)))
  clear hb8 O8 H7 X7 hm
  obtain ⟨lw, q0w, q1w, q2w, q3w, q4w, q5w⟩ := Row.at6 H8.out.rw_
  obtain ⟨SW8, LW⟩ := H8b.out.rdW
  have HL := Lib.hid LW
  clear LW H8
  go_wp2_with fail
  refine (eqHR_calls X8.out HL.out HSr.out).mono ?_
  rintro e W9 ⟨rfl, hb⟩
  have H9 := Lib.hid (H8b.out.below hb)
  clear hb H8b HL X8 lw q0w q1w q2w q3w q4w q5w
  obtain ⟨lg, q0g, q1g, q2g, q3g, q4g, q5g⟩ := Row.at6 H9.out.rg
  obtain ⟨SG9, LG⟩ := H9.out.rdG
  have HL := Lib.hid LG
  clear LG
  go_wp2_with fail
  refine (heldHR_calls HL.out HSr.out (by omega) (by omega)).mono ?_
  rw [← HK.out]
  rintro e W10 ⟨rfl, hb⟩
  have H10 := Lib.hid (H9.out.below hb)
  clear hb H9 HL lg q0g q1g q2g q3g q4g q5g
  go_wp2_with fail
  go_ret
  exact ⟨rfl, H10.out.in_.bel⟩

set_option maxHeartbeats 800000 in
set_option maxRecDepth 100000 in
theorem lawResizeHeap {pa wa ma : Option Addr} {pn pc wn wk mn mc : Nat} {h : Hp} {p : Int} {S : Nat → Prop} {w : World} (hT : HpR w S pa pn pc wa wn wk ma mn mc h) :
    Calls Tryz.prog 8 #[.agg #[.slice pa pn pc, .slice wa wn wk, .slice ma mn mc], .int .i64 p] w fun e w' => e = .returned (.bool true) ∧ Below w.heap.size w w' := by
  have A0 := Lib.hid (InH.start hT)
  obtain ⟨⟨q, rs⟩, hp⟩ : ∃ r, resizeHeap h p = r := ⟨_, rfl⟩
  have HP := Lib.hid hp
  have HSr : Hid (HpS 1048576 rs) := by have := resizeHeap_small h p; rw [hp] at this; exact this
  obtain ⟨k, hk⟩ : ∃ k, k = cntH rs := ⟨_, rfl⟩
  have HK := Lib.hid hk
  have hkb : k ≤ 2199027449856 := by rw [hk]; have := cntH_le HSr.out; unfold cntH; omega
  have hge : ¬ (1 + (k : Int) < 0) := by omega
  have hkk : (1 + (k : Int) != 1 + (k : Int)) = false := by simp
  clear hp hk
  go_enter Tryz.func8, Tryz.ntmps8
  go_wp2_with fail
  refine (szHeap_calls A0.out.rd (by omega) (by omega)).mono ?_
  rintro e w1 ⟨rfl | ⟨r, rfl, r0, r1, hs⟩, hb1⟩
  · go_wp2_with fail
    go_ret
    exact ⟨rfl, (A0.out.below hb1).bel⟩
  have HS := Lib.hid hs
  obtain ⟨kx, hkx⟩ : ∃ k, k = cntH h := ⟨_, rfl⟩
  have HKx := Lib.hid hkx
  have hkxb : kx ≤ 2199027449856 := by rw [hkx]; have := cntH_le hs; unfold cntH; omega
  have hgex : ¬ (1 + (kx : Int) < 0) := by omega
  have hr : ¬ (r < 0) := by omega
  have A1 := Lib.hid (A0.out.below hb1)
  obtain ⟨la, q0a, q1a, q2a⟩ := Row.at3 A1.out.row
  clear hs hb1 A0 hkx
  go_wp2_with fail
  refine (toHeap_calls A1.out.rd HS.out).mono ?_
  rintro e w2 hm
  obtain ⟨y1, yn1, yc1, y2, yn2, yc2, y3, yn3, yc3, rfl, O2, hb2⟩ := hm.open_
  have A2 := Lib.hid (A1.out.below hb2)
  have X2 := Lib.hid O2.rd
  clear hb2 O2 A1 hm la q0a q1a q2a
  go_wp2_with fail
  refine (sResizeHeap_calls ⟨X2.out, HS.out⟩).mono ?_
  rw [HP.out]
  rintro e w3 hm
  obtain ⟨a1, an1, ac1, a2, an2, ac2, a3, an3, ac3, rfl, O3, hb3⟩ := hm.open_
  have A3 := Lib.hid (A2.out.below hb3)
  have hs2 := A2.out.row.lt
  have hs3 := hb3.size
  have W3 := Lib.hid (O3.mono (S' := fun k => w2.heap.size ≤ k ∧ k < w3.heap.size) (fun k hk hl => ⟨hk, hl⟩))
  obtain ⟨la, q0a, q1a, q2a⟩ := Row.at3 A3.out.row
  clear hb3 O3 X2 A2 hm
  go_wp2_with fail
  have A3b := Lib.hid (A3.out.below ((Below.refl w3.heap.size w3).alloc (Nat.le_refl _) (.cells #[.int .i64 q, .slice a1 an1 ac1, .slice a2 an2 ac2, .slice a3 an3 ac3, .int .i64 0, .int .i64 0] 34)))
  have W3b := Lib.hid (W3.out.below ((Below.refl w3.heap.size w3).alloc (Nat.le_refl _) (.cells #[.int .i64 q, .slice a1 an1 ac1, .slice a2 an2 ac2, .slice a3 an3 ac3, .int .i64 0, .int .i64 0] 34)))
  have RW3 : Hid (Row (w3.alloc (.cells #[.int .i64 q, .slice a1 an1 ac1, .slice a2 an2 ac2, .slice a3 an3 ac3, .int .i64 0, .int .i64 0] 34)) w3.heap.size 34 #[.int .i64 q, .slice a1 an1 ac1, .slice a2 an2 ac2, .slice a3 an3 ac3, .int .i64 0, .int .i64 0]) := heap_alloc_new _ _
  refine (toHeap_calls A3b.out.rd HS.out).mono ?_
  rintro e w4 hm
  obtain ⟨x1, xn1, xc1, x2, xn2, xc2, x3, xn3, xc3, rfl, O4, hb4⟩ := hm.open_
  have hs4 := hb4.size
  simp at hs4
  have A4 := Lib.hid (A3b.out.below hb4)
  have W4 := Lib.hid (W3b.out.below hb4)
  have RW4 := Lib.hid (RW3.out.below hb4)
  have X4 := Lib.hid (O4.mono (S' := fun k => w3.heap.size + 1 ≤ k ∧ k < w4.heap.size) (fun k hk hl => ⟨by simpa using hk, hl⟩))
  clear hb4 O4 A3 A3b W3 W3b RW3 hm la q0a q1a q2a
  go_wp2_with fail
  have b4 := (Below.refl w4.heap.size w4).alloc (Nat.le_refl _) (.cells #[.slice x1 xn1 xc1, .slice x2 xn2 xc2, .slice x3 xn3 xc3] 30)
  have A5 := Lib.hid (A4.out.below b4)
  have W5 := Lib.hid (W4.out.below b4)
  have RW5 := Lib.hid (RW4.out.below b4)
  have X5 := Lib.hid (X4.out.below b4)
  have RX5 : Hid (Row (w4.alloc (.cells #[.slice x1 xn1 xc1, .slice x2 xn2 xc2, .slice x3 xn3 xc3] 30)) w4.heap.size 30 #[.slice x1 xn1 xc1, .slice x2 xn2 xc2, .slice x3 xn3 xc3]) := heap_alloc_new _ _
  refine (resizeHeap_calls ⟨X5.out.rd, HS.out⟩).mono ?_
  rw [HP.out]
  rintro e w5 hm
  obtain ⟨g1, gn1, gc1, g2, gn2, gc2, g3, gn3, gc3, rfl, O5, hb5⟩ := hm.open_
  have hs5 := hb5.size
  simp at hs5
  have A6 := Lib.hid (A5.out.below hb5)
  have W6 := Lib.hid (W5.out.below hb5)
  have RW6 := Lib.hid (RW5.out.below hb5)
  have X6 := Lib.hid (X5.out.below hb5)
  have RX6 := Lib.hid (RX5.out.below hb5)
  have G6 := Lib.hid (O5.mono (S' := fun k => w4.heap.size + 1 ≤ k ∧ k < w5.heap.size) (fun k hk hl => ⟨by simpa using hk, hl⟩))
  clear hb5 O5 A4 A5 W4 W5 RW4 RW5 X4 X5 RX5 b4 hm
  obtain ⟨lw, q0w, q1w, q2w, q3w, q4w, q5w⟩ := Row.at6 RW6.out
  have b5 := (Below.refl w5.heap.size w5).alloc (Nat.le_refl _) (.cells #[.int .i64 q, .slice g1 gn1 gc1, .slice g2 gn2 gc2, .slice g3 gn3 gc3, .int .i64 0, .int .i64 0] 34)
  have HX := Lib.hid (show HoldX w (w5.alloc (.cells #[.int .i64 q, .slice g1 gn1 gc1, .slice g2 gn2 gc2, .slice g3 gn3 gc3, .int .i64 0, .int .i64 0] 34)) w3.heap.size w5.heap.size w4.heap.size q a1 an1 ac1 a2 an2 ac2 a3 an3 ac3 g1 gn1 gc1 g2 gn2 gc2 g3 gn3 gc3 x1 xn1 xc1 x2 xn2 xc2 x3 xn3 xc3 pa pn pc wa wn wk ma mn mc h rs rs h from
    ⟨A6.out.below b5, RW6.out.below b5, heap_alloc_new _ _, RX6.out.below b5, fun k => w2.heap.size ≤ k ∧ k < w3.heap.size, fun k => w4.heap.size + 1 ≤ k ∧ k < w5.heap.size, fun k => w3.heap.size + 1 ≤ k ∧ k < w4.heap.size, W6.out.rd.below b5, G6.out.below b5, X6.out.below b5, fun k hk => by
      obtain ⟨h1, h2⟩ := hk
      exact ⟨by omega, by omega, by omega, by omega, fun hh => by obtain ⟨h3, h4⟩ := hh; omega, fun hh => by obtain ⟨h3, h4⟩ := hh; omega⟩, fun k hk => by
      obtain ⟨h1, h2⟩ := hk
      exact ⟨by omega, by omega, by omega, by omega, fun hh => by obtain ⟨h3, h4⟩ := hh; omega, fun hh => by obtain ⟨h3, h4⟩ := hh; omega⟩⟩)
  clear A6 W6 RW6 X6 RX6 G6 b5
  obtain ⟨SW, LW⟩ := HX.out.rdW
  obtain ⟨SG, LG⟩ := HX.out.rdG
  have HL := Lib.hid (And.intro LG LW)
  clear LW LG
  go_wp2_with fail
  refine (eqHR_calls HL.out.1 HL.out.2 HSr.out).mono ?_
  rintro e W1 ⟨rfl, hb⟩
  have H1 := Lib.hid (HX.out.below hb)
  clear hb HX HL lw q0w q1w q2w q3w q4w q5w
  obtain ⟨la, q0a, q1a, q2a⟩ := Row.at3 H1.out.in_.row
  obtain ⟨lx, q0x, q1x, q2x⟩ := Row.at3 H1.out.rx
  have kB := Below.refl W1.heap.size W1
  obtain ⟨SX, LX⟩ := H1.out.rdX
  have HLX := Lib.hid LX
  clear LX
  go_wp2_with fail
  go_region_held3 (fun w' => w'.cell? ⟨w4.heap.size, 0, none⟩ = some (.slice x1 xn1 xc1) ∧ w'.cell? ⟨w4.heap.size, 1, none⟩ = some (.slice x2 xn2 xc2) ∧ w'.cell? ⟨w4.heap.size, 2, none⟩ = some (.slice x3 xn3 xc3) ∧ w'.cell? ⟨w.heap.size, 0, none⟩ = some (.slice pa pn pc) ∧ w'.cell? ⟨w.heap.size, 1, none⟩ = some (.slice wa wn wk) ∧ w'.cell? ⟨w.heap.size, 2, none⟩ = some (.slice ma mn mc) ∧ Below W1.heap.size W1 w') (first | assumption | exact ⟨q0x, q1x, q2x, q0a, q1a, q2a, kB.drew⟩)
    (first
      | (go_at_call 35; obtain ⟨y0, y1, y2, y3, y4, y5, kb⟩ := ‹_ ∧ _ ∧ _ ∧ _ ∧ _ ∧ _ ∧ Below _ _ _›; refine (toHeap_calls (H1.out.in_.rd.below kb) HS.out).mono ?_; rintro e w7 hm; obtain ⟨fa, fn, fc, ga, gn, gc, ha, hn, hc, rfl, O7, hb7⟩ := hm.open_; have hS' := keepHH ⟨y0, y1, y2, y3, y4, y5, kb⟩ hb7)
      | (go_at_call 37; obtain ⟨y0, y1, y2, y3, y4, y5, kb⟩ := ‹_ ∧ _ ∧ _ ∧ _ ∧ _ ∧ _ ∧ Below _ _ _›; refine (eqHeap_calls (HLX.out.below kb) O7.rd HS.out).mono ?_; rintro e w8 ⟨rfl, hb8⟩; have hS'' := keepHH ⟨y0, y1, y2, y3, y4, y5, kb⟩ hb8))
  have H2 := Lib.hid (H1.out.below hS''.2.2.2.2.2.2)
  clear hS'' hS' kB hb7 hb8 O7 hm HLX H1 la q0a q1a q2a lx q0x q1x q2x
  obtain ⟨lx, q0x, q1x, q2x⟩ := Row.at3 H2.out.rx
  obtain ⟨Sx, ox, hput⟩ := H2.out.ownX
  have HO := Lib.hid ox
  have HPut := Lib.hid hput
  clear ox hput
  go_wp2_with fail
  refine (markHeap_calls HO.out HS.out (by omega) (by omega)).mono ?_
  rw [← HKx.out]
  rintro e W3 ⟨rfl, o3, t3⟩
  have H3 := Lib.hid (HPut.out W3 _ o3 t3)
  clear o3 t3 HO HPut H2 lx q0x q1x q2x
  obtain ⟨lw, q0w, q1w, q2w, q3w, q4w, q5w⟩ := Row.at6 H3.out.rw_
  obtain ⟨lg, q0g, q1g, q2g, q3g, q4g, q5g⟩ := Row.at6 H3.out.rg
  obtain ⟨SW3, LW⟩ := H3.out.rdW
  obtain ⟨SG3, LG⟩ := H3.out.rdG
  have HL := Lib.hid (And.intro LG LW)
  clear LW LG
  go_wp2_with fail
  refine (eqHR_calls HL.out.1 HL.out.2 HSr.out).mono ?_
  rintro e W4 ⟨rfl, hb⟩
  have H4 := Lib.hid (H3.out.below hb)
  clear hb H3 HL lw q0w q1w q2w q3w q4w q5w lg q0g q1g q2g q3g q4g q5g
  obtain ⟨lg, q0g, q1g, q2g, q3g, q4g, q5g⟩ := Row.at6 H4.out.rg
  obtain ⟨Sg, og, hput⟩ := H4.out.ownG
  have HO := Lib.hid og
  have HPut := Lib.hid hput
  clear og hput
  go_wp2_with fail
  refine (markHR_calls HO.out HSr.out (by omega) (by omega)).mono ?_
  rw [← HK.out]
  rintro e W5 ⟨rfl, o5, t5⟩
  have H5 := Lib.hid (HPut.out W5 _ o5 t5)
  clear o5 t5 HO HPut H4 lg q0g q1g q2g q3g q4g q5g
  obtain ⟨lg, q0g, q1g, q2g, q3g, q4g, q5g⟩ := Row.at6 H5.out.rg
  obtain ⟨SG5, LG⟩ := H5.out.rdG
  have HL := Lib.hid LG
  clear LG
  go_wp2_with fail
  refine (heldHR_calls HL.out HSr.out (by omega) (by omega)).mono ?_
  rw [← HK.out]
  rintro e W6 ⟨rfl, hb⟩
  have H6 := Lib.hid (H5.out.below hb)
  clear hb H5 HL lg q0g q1g q2g q3g q4g q5g
  obtain ⟨la, q0a, q1a, q2a⟩ := Row.at3 H6.out.in_.row
  go_wp2_with fail
  refine (toHeap_calls H6.out.in_.rd HS.out).mono ?_
  rintro e W7 hm
  obtain ⟨y1, yn1, yc1, y2, yn2, yc2, y3, yn3, yc3, rfl, O7, hb7⟩ := hm.open_
  have H7 := Lib.hid (H6.out.below hb7)
  have X7 := Lib.hid O7.rd
  clear hb7 O7 H6 hm la q0a q1a q2a
  go_wp2_with fail
  refine (resizeHeap_calls ⟨X7.out, HS.out⟩).mono ?_
  rw [HP.out]
  rintro e W8 hm
  obtain ⟨e1, en1, ec1, e2, en2, ec2, e3, en3, ec3, rfl, O8, hb8⟩ := hm.open_
  have H8 := Lib.hid (H7.out.below hb8)
  have X8 := Lib.hid (O8.rd.alloc (.cells #[.int .i64 q, .slice e1 en1 ec1, .slice e2 en2 ec2, .slice e3 en3 ec3, .int .i64 0, .int .i64 0] 34))
  have H8b := Lib.hid (H8.out.below ((Below.refl W8.heap.size W8).alloc (Nat.le_refl _) (.cells #[.int .i64 q, .slice e1 en1 ec1, .slice e2 en2 ec2, .slice e3 en3 ec3, .int .i64 0, .int .i64 0] 34)))
  clear hb8 O8 H7 X7 hm
  obtain ⟨lw, q0w, q1w, q2w, q3w, q4w, q5w⟩ := Row.at6 H8.out.rw_
  obtain ⟨SW8, LW⟩ := H8b.out.rdW
  have HL := Lib.hid LW
  clear LW H8
  go_wp2_with fail
  refine (eqHR_calls X8.out HL.out HSr.out).mono ?_
  rintro e W9 ⟨rfl, hb⟩
  have H9 := Lib.hid (H8b.out.below hb)
  clear hb H8b HL X8 lw q0w q1w q2w q3w q4w q5w
  obtain ⟨lg, q0g, q1g, q2g, q3g, q4g, q5g⟩ := Row.at6 H9.out.rg
  obtain ⟨SG9, LG⟩ := H9.out.rdG
  have HL := Lib.hid LG
  clear LG
  go_wp2_with fail
  refine (heldHR_calls HL.out HSr.out (by omega) (by omega)).mono ?_
  rw [← HK.out]
  rintro e W10 ⟨rfl, hb⟩
  have H10 := Lib.hid (H9.out.below hb)
  clear hb H9 HL lg q0g q1g q2g q3g q4g q5g
  go_wp2_with fail
  go_ret
  exact ⟨rfl, H10.out.in_.bel⟩
end Go.Proofs.YtcnpckaacigbfaaGreat
