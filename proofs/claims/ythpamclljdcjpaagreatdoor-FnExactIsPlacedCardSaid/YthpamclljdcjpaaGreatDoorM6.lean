/- Joined texts (Help5b, Help5c, Help5d, Hold5, Blk4, Run4, Spec4f, Spec4g, Spec4h): steps of the proofs of chapter 5's laws. -/
import Derived.Handy
import Derived.Deep.LoopGhost
import Derived.Test.YthpamclljdcjpaaGreatDoorM3
import Derived.Test.YthpamclljdcjpaaGreatDoorM4
import Derived.Test.YthpamclljdcjpaaGreatDoorM5
set_option linter.unusedVariables false
set_option linter.unusedSimpArgs false
/- The laws' helpers over heaps: copied, compared. -/
namespace Go.Proofs.YthpamclljdcjpaaGreatDoor
open Go.RowKit

theorem Row.upd {w : World} {g i : Nat} {t : TypeId} {cs : Array Value} (h : Row w g t cs) (u : Value) : Row (w.setCell ⟨g, i, none⟩ u) g t (cs.setIfInBounds i u) := heap_setCell_same w g i _ _ u h
set_option maxHeartbeats 2000000 in
theorem toHeap_calls {pa wa ma : Option Addr} {pn pc wn wk mn mc : Nat} {h : Hp} {S : Nat → Prop} {w : World} (hr : HpR w S pa pn pc wa wn wk ma mn mc h) (hs : HpS 1048576 h) :
    Calls Tryz.prog 40 #[.agg #[.slice pa pn pc, .slice wa wn wk, .slice ma mn mc]] w (MakesHeap w h) := by
  have HR := Lib.hid hr
  have HS := Lib.hid hs
  have n1 : pn ≤ 1048576 := by have := hr.pg.1; have := hs.p; omega
  have n2 : wn ≤ 1048576 := by have := hr.wd.1; have := hs.w; omega
  have n3 : mn ≤ 1048576 := by have := hr.mg.1; have := hs.m; omega
  clear hr hs
  go_enter Tryz.func40, Tryz.ntmps40
  go_wp2_with fail
  refine (toPgs_calls (((HR.out.pg.alloc _).alloc _).alloc _) (fun p hp => Nat.le_trans (HS.out.u p hp) (by decide)) n1).mono ?_
  rintro e w1 ⟨a1, rfl, oP, hb1⟩
  obtain ⟨R0', R1', R2', B1, hs1⟩ := three_new hb1
  have R0 : Row w1 w.heap.size 69 #[.slice pa pn pc, .slice wa wn wk, .slice ma mn mc] := R0'
  have R1 : Row w1 (w.heap.size + 1) 28 #[.slice none 0 0, .slice none 0 0, .slice none 0 0] := R1'
  have R2 : Row w1 (w.heap.size + 1 + 1) 28 #[.slice none 0 0, .slice none 0 0, .slice none 0 0] := R2'
  have oP' := oP.mono (S' := fun k => w.heap.size + 3 ≤ k) (fun k hk _ => by simpa using hk)
  obtain ⟨g, hg⟩ : ∃ g, g = w.heap.size + 1 + 1 := ⟨_, rfl⟩
  rw [← hg] at R2 ⊢
  have HG := Lib.hid hg
  have q1 := R0.cell 1
  have q2 := R0.cell 2
  have ql := R0.lt
  have z0 := R2.cell 0
  have zf := frozen_of_row _ _ 0 _ _ R2
  have zl := R2.lt
  simp at q1 q2 z0
  have s2 := R2.upd (i := 0) (.slice a1 pn pn)
  have tS1 := Turn.set w1 ⟨g, 0, none⟩ (.slice a1 pn pn)
  have HQ := Lib.hid (And.intro (tS1.row R0 (fun e => by have e : w.heap.size = g := e; omega)) (And.intro (tS1.row R1 (fun e => by have e : w.heap.size + 1 = g := e; omega)) (And.intro (show Row (w1.setCell ⟨g, 0, none⟩ (.slice a1 pn pn)) g 28 #[.slice a1 pn pn, .slice none 0 0, .slice none 0 0] by simpa using s2) (And.intro (tS1.below B1 (by omega) (fun k e => by have e : k = g := e; omega)) (And.intro (oP'.here.turn tS1 (fun k hk _ e => by have e : k = g := e; have := hk.1; omega)) (show w1.heap.size = (w1.setCell ⟨g, 0, none⟩ (.slice a1 pn pn)).heap.size by simp))))))
  clear R0' R1' R2' R0 R1 R2 s2 tS1 hb1 oP oP' B1 hs1 hg
  go_wp2_with fail
  obtain ⟨R0, R1, R2, B1, oP, hs1'⟩ := HQ.out
  generalize w1.setCell ⟨g, 0, none⟩ (.slice a1 pn pn) = v1 at R0 R1 R2 B1 oP hs1' ⊢
  clear HQ q1 q2 ql z0 zf zl
  have hgv1 := R2.lt
  refine (toW_calls (HR.out.below B1).wd (by omega)).mono ?_
  rintro e w2 ⟨vW, rfl, oW, hb2⟩
  obtain ⟨a2, c2, rfl, _, _, _⟩ := oW.shape
  have hs2 := hb2.size
  have R0 := R0.below hb2
  have R1 := R1.below hb2
  have R2 := R2.below hb2
  have q2 := R0.cell 2
  have ql := R0.lt
  have z1 := R2.cell 1
  have zf := frozen_of_row _ _ 1 _ _ R2
  have zl := R2.lt
  simp at q2 z1
  have s2 := R2.upd (i := 1) (.slice a2 wn c2)
  have tS1 := Turn.set w2 ⟨g, 1, none⟩ (.slice a2 wn c2)
  have hw1 := B1.size
  have hgl : g = w.heap.size + 1 + 1 := HG.out
  have HQ := Lib.hid (And.intro (tS1.row R0 (fun e => by have e : w.heap.size = g := e; omega)) (And.intro (tS1.row R1 (fun e => by have e : w.heap.size + 1 = g := e; omega)) (And.intro (show Row (w2.setCell ⟨g, 1, none⟩ (.slice a2 wn c2)) g 28 #[.slice a1 pn pn, .slice a2 wn c2, .slice none 0 0] by simpa using s2) (And.intro (tS1.below (B1.trans (hb2.mono hw1)) (by omega) (fun k e => by have e : k = g := e; omega)) (And.intro ((oP.below hb2).turn tS1 (fun k hk _ e => by have e : k = g := e; have := hk.1; omega)) (And.intro (oW.here.turn tS1 (fun k hk _ e => by have e : k = g := e; have := hk.1; omega)) (And.intro hs2 (show w2.heap.size = (w2.setCell ⟨g, 1, none⟩ (.slice a2 wn c2)).heap.size by simp))))))))
  clear R0 R1 R2 s2 tS1 hb2 oP oW B1 hs2 hgl hw1
  go_wp2_with fail
  obtain ⟨R0, R1, R2, B1, oP, oW, hs2, hs2'⟩ := HQ.out
  generalize w2.setCell ⟨g, 1, none⟩ (.slice a2 wn c2) = v2 at R0 R1 R2 B1 oP oW hs2' ⊢
  clear HQ q2 ql z1 zf zl
  have hgv2 := R2.lt
  refine (toMags_calls (HR.out.below B1).mg (fun m hm => Nat.le_trans (HS.out.k m hm) (by decide)) n3).mono ?_
  rintro e w3 ⟨a3, rfl, oM, hb3⟩
  have hs3 := hb3.size
  have R1 := R1.below hb3
  have R2 := R2.below hb3
  have z0 := R2.cell 0
  have z1 := R2.cell 1
  have z2 := R2.cell 2
  have zf := frozen_of_row _ _ 2 _ _ R2
  have zl := R2.lt
  simp at z0 z1 z2
  have tS1 := Turn.set w3 ⟨g, 2, none⟩ (.slice a3 mn mn)
  have hgl : g = w.heap.size + 1 + 1 := HG.out
  have hres := tS1.row R1 (fun e => by have e : w.heap.size + 1 = g := e; omega)
  have HQ := Lib.hid (And.intro (tS1.below (B1.trans (hb3.mono B1.size)) (by omega) (fun k e => by have e : k = g := e; omega)) (And.intro ((oP.below hb3).turn tS1 (fun k hk _ e => by have e : k = g := e; have := hk.1; omega)) (And.intro ((oW.below hb3).turn tS1 (fun k hk _ e => by have e : k = g := e; have := hk.1; omega)) (oM.here.turn tS1 (fun k hk _ e => by have e : k = g := e; have := hk.1; omega)))))
  have HZ := Lib.hid (And.intro hs2 (And.intro hs2' (And.intro B1.size (And.intro hs3 zl))))
  clear R0 R1 R2 oP oW oM B1 hb3 hs2 hs2' hs3 hgl tS1
  go_wp2_with (refine wpList_store_row rfl 28 _ _ rfl (w.heap.size + 1) _ rfl rfl _ _ hres (by kernel_rfl) (by rfl) (by simp [Value.oneCell']) ?_)
  refine bodyPost_ret (results_cell_row rfl _ _ (w.heap.size + 1) _ _ _ _ rfl (setRow_heap _ _ _ _ _ _ hres) Tryz.underlying28 rfl (by kernel_rfl)) rfl ?_
  obtain ⟨B, oP, oW, oM⟩ := HQ.out
  obtain ⟨k1, k2, k3, k4, _⟩ := HZ.out
  have k5 := HG.out
  refine ⟨_, pn, _, wn, _, mn, rfl, HpO.mk3 (A := fun k => w.heap.size + 3 ≤ k ∧ k < w1.heap.size) (B := fun k => v1.heap.size ≤ k ∧ k < w2.heap.size) (C := fun k => v2.heap.size ≤ k ∧ k < w3.heap.size) (oP.turn (Turn.setRow _ _ _) ?_) (oW.turn (Turn.setRow _ _ _) ?_) (oM.turn (Turn.setRow _ _ _) ?_) ?_ ?_ ?_ ?_ ?_ ?_, below_setRow B (by omega) _⟩
  · intro k hk _ e; have e : k = w.heap.size + 1 := e; omega
  · intro k hk _ e; have e : k = w.heap.size + 1 := e; omega
  · intro k hk _ e; have e : k = w.heap.size + 1 := e; omega
  · intro k hk; have := hk.1; show w.heap.size ≤ k; omega
  · intro k hk; have := hk.1; show w.heap.size ≤ k; omega
  · intro k hk; have := hk.1; show w.heap.size ≤ k; omega
  · intro k hk hq; have := hk.2; have := hq.1; omega
  · intro k hk hq; have := hk.2; have := hq.1; omega
  · intro k hk hq; have := hk.2; have := hq.1; omega
end Go.Proofs.YthpamclljdcjpaaGreatDoor

/- The laws' helpers over heaps: whether two are the same. -/
namespace Go.Proofs.YthpamclljdcjpaaGreatDoor
open Go.RowKit

/-- Two cells, and all that was there, are kept. -/
theorem keepM2 {W a b : World} {p q : Addr} {x y : Value} (h : a.cell? p = some x ∧ a.cell? q = some y ∧ Below W.heap.size W a) (hb : Below a.heap.size a b) :
    b.cell? p = some x ∧ b.cell? q = some y ∧ Below W.heap.size W b := by
  obtain ⟨h1, h2, h4⟩ := h
  exact ⟨(hb.cell (World.block_lt_of_cell? _ _ h1)).trans h1, (hb.cell (World.block_lt_of_cell? _ _ h2)).trans h2, h4.trans (hb.mono h4.size)⟩

set_option maxHeartbeats 800000 in
theorem eqMags_calls {a b : Option Addr} {n m c d : Nat} {ms : List (List Int)} {S S' : Nat → Prop} {w : World} (ha : Lst KMag w S a n ms) (hb : Lst KMag w S' b m ms) (hS : ShortM 17592186044416 ms) (hn : n ≤ 1048576) :
    Calls Tryz.prog 117 #[.slice a n c, .slice b m d] w fun e w' => e = .returned (.bool true) ∧ Below w.heap.size w w' := by
  obtain rfl : n = m := ha.1.symm.trans hb.1
  have h1 : ((n : Int) != (n : Int)) = false := by simp
  have HL := Lib.hid ha.1
  have HS := Lib.hid hS
  go_enter Tryz.func117, Tryz.ntmps117
  go_wp2
  go_loopw [5] (fun i wr => ∃ k : Nat, k ≤ n ∧ i = .int .i64 k ∧ Below w.heap.size w wr) (fun i _ => n - (intOf i).toNat)
  case atStart => exact ⟨0, Nat.zero_le _, rfl, Below.refl _ _⟩
  case round =>
    obtain ⟨k, hk, rfl, hbw⟩ := hrel
    by_cases hlt : k < n
    · obtain ⟨b0, o0, m0, a0, l0, c0, rfl, d0, hp, e0, hlc0, hcm0, hu0⟩ := (ha.below hbw).mag_at hlt
      obtain ⟨b1, o1, m1, a1, l1, c1, rfl, d1, hp', e1, hlc1, hcm1, hu1⟩ := (hb.below hbw).mag_at hlt
      obtain rfl : m0 = m1 := by rw [hp] at hp'; injection hp'
      have hl : l0 ≤ 17592186044416 := by have := HS.out.at_ hp; have := hu0.1; omega
      have kB := Below.refl wr.heap.size wr
      clear hp hp'
      go_wp2_with fail
      go_region_held3 (fun w' => w'.cell? ⟨b0, o0 + k, none⟩ = some (.slice a0 l0 c0) ∧ w'.cell? ⟨b1, o1 + k, none⟩ = some (.slice a1 l1 c1) ∧ Below wr.heap.size wr w') (first | assumption | exact ⟨e0, e1, kB.drew⟩)
        ((go_at_call 116; obtain ⟨x0, x1, kb⟩ := ‹_ ∧ _ ∧ Below _ _ _›; refine (eq_calls (hu0.below kb).ints (hu1.below kb).ints hl).mono ?_; rintro e w' ⟨rfl, b1⟩; have hS' := keepM2 ⟨x0, x1, kb⟩ b1))
      have kb2 := hbw.trans (hS'.2.2.mono hbw.size)
      clear hS'
      go_wp2_with fail
      go_roundw
      case rel => exact ⟨k + 1, by omega, by go_num, kb2⟩
      case measure => simp [intOf]; omega
    · go_wp2
      go_ret
      exact ⟨rfl, hbw⟩

set_option maxHeartbeats 800000 in
theorem eqHeap_calls {pa wa ma pa' wa' ma' : Option Addr} {pn pc wn wk mn mc pn' pc' wn' wk' mn' mc' : Nat} {h : Hp} {S S' : Nat → Prop} {w : World} (hg : HpR w S pa pn pc wa wn wk ma mn mc h) (hh : HpR w S' pa' pn' pc' wa' wn' wk' ma' mn' mc' h) (hs : HpS 1048576 h) :
    Calls Tryz.prog 43 #[.agg #[.slice pa pn pc, .slice wa wn wk, .slice ma mn mc], .agg #[.slice pa' pn' pc', .slice wa' wn' wk', .slice ma' mn' mc']] w fun e w' => e = .returned (.bool true) ∧ Below w.heap.size w w' := by
  have HG := Lib.hid hg
  have HH := Lib.hid hh
  have HS := Lib.hid hs
  have n1 : pn ≤ 1048576 := by have := hg.pg.1; have := hs.p; omega
  have n2 : wn ≤ 1048576 := by have := hg.wd.1; have := hs.w; omega
  have n3 : mn ≤ 1048576 := by have := hg.mg.1; have := hs.m; omega
  have hB0 : Below w.heap.size w ((w.alloc (.cells #[.slice pa pn pc, .slice wa wn wk, .slice ma mn mc] 28)).alloc (.cells #[.slice pa' pn' pc', .slice wa' wn' wk', .slice ma' mn' mc'] 28)) := ((Below.refl _ _).alloc (Nat.le_refl _) _).alloc (by simp) _
  have HB0 := Lib.hid hB0
  clear hg hh hs hB0
  go_enter Tryz.func43, Tryz.ntmps43
  go_wp2_with fail
  refine (eqPgs_calls (HG.out.below HB0.out).pg (HH.out.below HB0.out).pg (fun p hp => Nat.le_trans (HS.out.u p hp) (by decide)) n1).mono ?_
  rintro e w1 ⟨rfl, hb1⟩
  obtain ⟨R0, R1, B1, _⟩ := two_new hb1
  have R0 : Row w1 w.heap.size 28 #[.slice pa pn pc, .slice wa wn wk, .slice ma mn mc] := R0
  have R1 : Row w1 (w.heap.size + 1) 28 #[.slice pa' pn' pc', .slice wa' wn' wk', .slice ma' mn' mc'] := R1
  have HB1 := Lib.hid B1
  clear hb1 B1
  have a1 := R0.cell 1
  have b1 := R1.cell 1
  have al := R0.lt
  have bl := R1.lt
  simp at a1 b1
  go_wp2_with fail
  refine (eq_calls (HG.out.below HB1.out).wd.ints (HH.out.below HB1.out).wd.ints (by omega)).mono ?_
  rintro e w2 ⟨rfl, hb2⟩
  have R2 := R0.below hb2
  have R3 := R1.below hb2
  have HB2 := Lib.hid (HB1.out.trans (hb2.mono HB1.out.size))
  clear hb2 R0 R1 a1 b1 al bl
  have a1 := R2.cell 2
  have b1 := R3.cell 2
  have al := R2.lt
  have bl := R3.lt
  simp at a1 b1
  go_wp2_with fail
  refine (eqMags_calls (HG.out.below HB2.out).mg (HH.out.below HB2.out).mg (fun m hm => Nat.le_trans (HS.out.k m hm) (by decide)) n3).mono ?_
  rintro e w3 ⟨rfl, hb3⟩
  have HB3 := Lib.hid (HB2.out.trans (hb3.mono HB2.out.size))
  clear hb3
  go_wp2_with fail
  go_ret
  exact ⟨rfl, HB3.out⟩

theorem eqReply_calls {x y : Int} {w : World} :
    Calls Tryz.prog 114 #[.agg #[.int .i64 x, .int .i64 y], .agg #[.int .i64 x, .int .i64 y]] w fun e w' => e = .returned (.bool true) ∧ Below w.heap.size w w' := by
  have h1 : (x != x) = false := by simp
  have h2 : (y != y) = false := by simp
  go_enter Tryz.func114, Tryz.ntmps114
  go_wp2_with fail
  go_ret
  exact ⟨rfl, ((Below.refl _ _).alloc (Nat.le_refl _) _).alloc (by simp) _⟩

set_option maxHeartbeats 800000 in
theorem eqHR_calls {pa wa ma pa' wa' ma' : Option Addr} {pn pc wn wk mn mc pn' pc' wn' wk' mn' mc' : Nat} {q : Int} {h : Hp} {S S' : Nat → Prop} {w : World} (hg : HpR w S pa pn pc wa wn wk ma mn mc h) (hh : HpR w S' pa' pn' pc' wa' wn' wk' ma' mn' mc' h) (hs : HpS 1048576 h) :
    Calls Tryz.prog 42 #[.agg #[.int .i64 q, .slice pa pn pc, .slice wa wn wk, .slice ma mn mc, .int .i64 0, .int .i64 0], .agg #[.int .i64 q, .slice pa' pn' pc', .slice wa' wn' wk', .slice ma' mn' mc', .int .i64 0, .int .i64 0]] w fun e w' => e = .returned (.bool true) ∧ Below w.heap.size w w' := by
  have HG := Lib.hid hg
  have HH := Lib.hid hh
  have HS := Lib.hid hs
  have hq : (q != q) = false := by simp
  have hB0 : Below w.heap.size w ((w.alloc (.cells #[.int .i64 q, .slice pa pn pc, .slice wa wn wk, .slice ma mn mc, .int .i64 0, .int .i64 0] 36)).alloc (.cells #[.int .i64 q, .slice pa' pn' pc', .slice wa' wn' wk', .slice ma' mn' mc', .int .i64 0, .int .i64 0] 36)) := ((Below.refl _ _).alloc (Nat.le_refl _) _).alloc (by simp) _
  have HB0 := Lib.hid hB0
  clear hg hh hs hB0
  go_enter Tryz.func42, Tryz.ntmps42
  go_wp2_with fail
  refine (eqHeap_calls (HG.out.below HB0.out) (HH.out.below HB0.out) HS.out).mono ?_
  rintro e w1 ⟨rfl, hb1⟩
  obtain ⟨R0, R1, B1, _⟩ := two_new hb1
  have R0 : Row w1 w.heap.size 36 #[.int .i64 q, .slice pa pn pc, .slice wa wn wk, .slice ma mn mc, .int .i64 0, .int .i64 0] := R0
  have R1 : Row w1 (w.heap.size + 1) 36 #[.int .i64 q, .slice pa' pn' pc', .slice wa' wn' wk', .slice ma' mn' mc', .int .i64 0, .int .i64 0] := R1
  have HB1 := Lib.hid B1
  clear hb1 B1
  have a4 := R0.cell 4
  have a5 := R0.cell 5
  have b4 := R1.cell 4
  have b5 := R1.cell 5
  have al := R0.lt
  have bl := R1.lt
  simp at a4 a5 b4 b5
  go_wp2_with fail
  refine eqReply_calls.mono ?_
  rintro e w2 ⟨rfl, hb2⟩
  have HB2 := Lib.hid (HB1.out.trans (hb2.mono HB1.out.size))
  clear hb2
  go_wp2_with fail
  go_ret
  exact ⟨rfl, HB2.out⟩
end Go.Proofs.YthpamclljdcjpaaGreatDoor

/- The laws' helpers over heaps: marked, held. -/
namespace Go.Proofs.YthpamclljdcjpaaGreatDoor
open Go.RowKit

/-- Lists of lists that are marked from K on. -/
def marksM : List (List Int) → Int → List (List Int)
  | [], _ => []
  | m :: r, K => marks K m.length :: marksM r (K + (m.length : Int))
theorem length_marksM : ∀ (ms : List (List Int)) (K : Int), (marksM ms K).length = ms.length
  | [], _ => rfl
  | m :: r, K => by simp [marksM, length_marksM r]
theorem marksM_at : ∀ {ms : List (List Int)} {k : Nat} {m : List Int} {K : Int}, ms[k]? = some m → (marksM ms K)[k]? = some (marks (K + ((ms.take k).flatten.length : Int)) m.length)
  | [], k, m, K, h => by simp at h
  | q :: r, 0, m, K, h => by simp at h; subst h; simp [marksM]
  | q :: r, k + 1, m, K, h => by
    have := marksM_at (ms := r) (k := k) (m := m) (K := K + (q.length : Int)) (by simpa using h)
    simp only [marksM, List.getElem?_cons_succ, List.take_succ_cons, List.flatten_cons, List.length_append, this]
    congr 2; omega
def markedM (ms : List (List Int)) (K : Int) (k : Nat) : List (List Int) := (marksM ms K).take k ++ ms.drop k
theorem markedM_zero (ms : List (List Int)) (K : Int) : markedM ms K 0 = ms := by simp [markedM]
theorem markedM_full (ms : List (List Int)) (K : Int) : markedM ms K ms.length = marksM ms K := by simp [markedM, ← length_marksM ms K]
theorem markedM_at {ms : List (List Int)} {K : Int} {k : Nat} {m : List Int} (h : ms[k]? = some m) : (markedM ms K k)[k]? = some m := by
  have hk := (List.getElem?_eq_some_iff.1 h).1
  unfold markedM
  rw [List.getElem?_append_right (by simp; omega), List.length_take, length_marksM, Nat.min_eq_left (by omega), Nat.sub_self, List.getElem?_drop, Nat.add_zero, h]
theorem markedM_step {ms : List (List Int)} {K : Int} {k : Nat} {m : List Int} (h : ms[k]? = some m) : (markedM ms K k).set k (marks (K + ((ms.take k).flatten.length : Int)) m.length) = markedM ms K (k + 1) := by
  have hk := (List.getElem?_eq_some_iff.1 h).1
  have hl : ((marksM ms K).take k).length = k := by rw [List.length_take, length_marksM]; omega
  unfold markedM
  rw [List.set_append_right _ _ (by omega), hl, Nat.sub_self, drop_at h, List.set_cons_zero, List.take_add_one, marksM_at h, List.append_assoc]
  rfl
theorem flatten_bound {N : Nat} : ∀ {ms : List (List Int)}, ShortM N ms → ms.flatten.length ≤ ms.length * N
  | [], _ => by simp
  | m :: r, h => by
    have h1 := h m (by simp)
    have h2 := flatten_bound (N := N) (ms := r) (fun q hq => h q (by simp [hq]))
    simp only [List.flatten_cons, List.length_append, List.length_cons, Nat.add_mul]; omega
theorem cntM_bound {ms : List (List Int)} (h : ShortM 1048576 ms) (hn : ms.length ≤ 1048576) (k : Nat) : (ms.take k).flatten.length ≤ 1099511627776 := by
  have h1 := flatten_bound (N := 1048576) (ms := ms.take k) (fun q hq => h q (List.mem_of_mem_take hq))
  have h2 : (ms.take k).length ≤ 1048576 := by rw [List.length_take]; omega
  have := Nat.mul_le_mul_right 1048576 h2
  omega
theorem cntM_take {ms : List (List Int)} {k : Nat} {m : List Int} (h : ms[k]? = some m) : (ms.take (k + 1)).flatten.length = (ms.take k).flatten.length + m.length := by
  rw [List.take_add_one, h]; simp

set_option maxHeartbeats 1000000 in
theorem markMags_calls {v : Value} {n t : Nat} {ms : List (List Int)} {K : Int} {S : Nat → Prop} {w : World} (ho : Own KMag 25 w S v n ms) (ht : ms.flatten.length = t) (hS : ShortM 1048576 ms) (hn : n ≤ 1048576) (h0 : 0 ≤ K) (hK : K ≤ 4398046511104) :
    Calls Tryz.prog 120 #[v, .int .i64 K] w fun e w' => e = .returned (.int .i64 (K + t)) ∧ Own KMag 25 w' S v n (marksM ms K) ∧ Turn S w w' := by
  have HL := Lib.hid ho.1
  have HS := Lib.hid hS
  have HTt := Lib.hid ht
  clear ht
  obtain ⟨ao, c, rfl, hnc, hcm, _⟩ := ho.shape
  go_enter Tryz.func120, Tryz.ntmps120
  go_wp2
  go_loopw [1, 5] (fun q i wr => ∃ k r : Nat, k ≤ n ∧ i = .int .i64 k ∧ q = .int .i64 (K + r) ∧ Hid (r = (ms.take k).flatten.length) ∧ Own KMag 25 wr S (.slice ao n c) n (markedM ms K k) ∧ Turn S w wr) (fun _ i _ => n - (intOf i).toNat)
  case atStart => exact ⟨0, 0, Nat.zero_le _, rfl, by simp, by simp [Hid], by rw [markedM_zero]; exact ho, Turn.refl _ _⟩
  case round =>
    obtain ⟨k, r, hk, rfl, rfl, HR, HO, HT⟩ := hrel
    have hr : r ≤ 1099511627776 := by rw [HR.out]; exact cntM_bound HS.out (by rw [HL.out]; exact hn) k
    by_cases hlt : k < n
    · obtain ⟨g, cap, cs, F, m, he, hgS, hp, hcl, hu0, ho0, hF, hst⟩ := HO.focus hlt
      cases he
      have HP : Hid (ms[k]? = some m) := by
        have h1 : k < ms.length := by rw [HL.out]; exact hlt
        have h2 := markedM_at (K := K) (List.getElem?_eq_getElem h1)
        rw [h2] at hp
        show ms[k]? = some m
        rw [List.getElem?_eq_getElem h1]; exact hp
      obtain ⟨y0, l, rfl, hU⟩ := ho0
      obtain ⟨av, cv, rfl, hlv, hcv, _⟩ := hU.shape
      have hl : l ≤ 1048576 := by have := HS.out.at_ HP.out; have := hU.1; omega
      have HUL := Lib.hid hU.1
      obtain ⟨z1, z2, z3⟩ := hu0.cell
      have q0 := z2 0 (by simp)
      rw [show KMag.sz = 1 from rfl, Nat.mul_one] at q0 hu0 hst
      simp only [Nat.add_zero, List.getElem?_cons_zero] at q0
      clear z2 z3
      go_wp2_with fail
      refine (markW_calls hU (by omega) (by omega) (by omega)).mono ?_
      rintro e w1 ⟨rfl, ho2, ht2⟩
      have hFg : ¬ F g := fun h => (hF g h).2.1 rfl
      have U2 := hu0.turn ht2 hFg
      have hO2 := hst _ F _ (marks (K + r) l) rfl (ht2.mono (fun k hk _ => .inl hk)) U2 (KMag_own_mk ho2) (fun k h => .inl h)
      have hlm : m.length = l := HUL.out
      rw [HR.out, ← hlm, markedM_step HP.out] at hO2
      have HE := cntM_take HP.out
      rw [← HR.out, hlm] at HE
      have H2 := Lib.hid (And.intro (hO2.mono (S' := S) (fun k hk _ => hk.elim id (fun h => (hF k h).1))) (HT.trans ht2 (fun k hk _ => (hF k hk).1)))
      have H3 := Lib.hid HE.symm
      clear hO2 HE hlm U2 hst hF hU hu0 HO HT hp ho2 ht2
      go_wp2_with fail
      go_roundw
      case rel => exact ⟨k + 1, r + l, by omega, by go_num, by go_num, H3.out, H2.out.1, H2.out.2⟩
      case measure => simp [intOf]; omega
    · obtain rfl : k = n := by omega
      have HF : Hid (r = t ∧ Own KMag 25 wr S (.slice ao k c) k (marksM ms K) ∧ Turn S w wr) := by
        have h1 := markedM_full ms K
        rw [HL.out] at h1
        rw [h1] at HO
        have h2 := HR.out
        rw [List.take_of_length_le (by rw [HL.out]; omega)] at h2
        exact ⟨h2.trans HTt.out, HO, HT⟩
      clear HO HT
      go_wp2_with fail
      go_ret
      exact ⟨ret_int (by rw [HF.out.1]), HF.out.2.1, HF.out.2.2⟩

set_option maxHeartbeats 800000 in
theorem heldMags_calls {ao : Option Addr} {n c t : Nat} {ms : List (List Int)} {K : Int} {S : Nat → Prop} {w : World} (ha : Lst KMag w S ao n (marksM ms K)) (ht : ms.flatten.length = t) (hS : ShortM 1048576 ms) (hn : n ≤ 1048576) (h0 : 0 ≤ K) (hK : K ≤ 4398046511104) :
    Calls Tryz.prog 172 #[.slice ao n c, .int .i64 K] w fun e w' => e = .returned (.int .i64 (K + t)) ∧ w = w' := by
  have HL := Lib.hid ((length_marksM ms K).symm.trans ha.1)
  have HS := Lib.hid hS
  have HTt := Lib.hid ht
  clear ht
  go_enter Tryz.func172, Tryz.ntmps172
  go_wp2
  go_loop [1, 5] (fun q i => ∃ k r : Nat, k ≤ n ∧ i = .int .i64 k ∧ q = .int .i64 (K + r) ∧ Hid (r = (ms.take k).flatten.length)) (fun _ i => n - (intOf i).toNat)
  case atStart => exact ⟨0, 0, Nat.zero_le _, rfl, by simp, by simp [Hid]⟩
  case round =>
    obtain ⟨k, r, hk, rfl, rfl, HR⟩ := hrel
    have hr : r ≤ 1099511627776 := by rw [HR.out]; exact cntM_bound HS.out (by rw [HL.out]; exact hn) k
    by_cases hlt : k < n
    · have h1 : k < ms.length := by rw [HL.out]; exact hlt
      obtain ⟨b0, o0, m, a, l, c', rfl, d0, hp, e0, hlc, hcm, hu⟩ := ha.mag_at hlt
      have hp0 : ms[k]? = some ms[k] := List.getElem?_eq_getElem h1
      rw [marksM_at hp0, ← HR.out] at hp
      injection hp with hp
      subst hp
      have hl : l = ms[k].length := by have := hu.1; rw [length_marks] at this; omega
      have hl2 : l ≤ 1048576 := by have := HS.out.at_ hp0; omega
      have H3 := Lib.hid (show r + l = (ms.take (k + 1)).flatten.length by rw [cntM_take hp0, ← HR.out, hl])
      rw [← hl] at hu
      have HU := Lib.hid hu.ints
      clear hl hp0 hu
      have hge : ¬ (K + (r : Int) + l < 0) := by omega
      go_wp2_with fail
      refine (held_calls HU.out (by omega) (by omega) (by omega)).mono ?_
      rintro e w1 ⟨rfl, rfl⟩
      go_wp2_with fail
      go_round
      case rel => exact ⟨k + 1, r + l, by omega, by go_num, by go_num, H3.out⟩
      case measure => simp [intOf]; omega
    · obtain rfl : k = n := by omega
      have HF : Hid (r = t) := by
        have h2 := HR.out
        rw [List.take_of_length_le (by rw [HL.out]; omega)] at h2
        exact h2.trans HTt.out
      go_wp2_with fail
      go_ret
      exact ⟨ret_int (by rw [HF.out]), rfl⟩

/-- A heap that is marked from K on; how many marks it takes. -/
def markHp (h : Hp) (K : Int) : Hp := ⟨marksP h.pages K, marks (K + cntP h.pages) h.words.length, marksM h.mags (K + cntP h.pages + h.words.length)⟩
def cntH (h : Hp) : Nat := cntP h.pages + h.words.length + h.mags.flatten.length
theorem cntH_le {h : Hp} (hs : HpS 1048576 h) : cntP h.pages ≤ 1099514773504 ∧ h.words.length ≤ 1048576 ∧ h.mags.flatten.length ≤ 1099511627776 := by
  refine ⟨?_, hs.w, ?_⟩
  · have := cntP_bound hs.u hs.p h.pages.length; rwa [List.take_length] at this
  · have := cntM_bound hs.k hs.m h.mags.length; rwa [List.take_length] at this

set_option maxHeartbeats 800000 in
theorem markHeap_calls {vp vw vm : Value} {np nw nm : Nat} {h : Hp} {K : Int} {S : Nat → Prop} {w : World} (ho : HpO w S vp np vw nw vm nm h) (hs : HpS 1048576 h) (h0 : 0 ≤ K) (hK : K ≤ 1048576) :
    Calls Tryz.prog 44 #[.agg #[vp, vw, vm], .int .i64 K] w fun e w' => e = .returned (.int .i64 (K + cntH h)) ∧ HpO w' S vp np vw nw vm nm (markHp h K) ∧ Turn S w w' := by
  obtain ⟨S1, S2, S3, o1, o2, o3, d1, d2, d3, e1, e2, e3⟩ := ho.ex
  obtain ⟨pa, pc, rfl, _, _, _⟩ := o1.shape
  obtain ⟨wa, wc, rfl, _, _, _⟩ := o2.shape
  obtain ⟨ma, mc, rfl, _, _, _⟩ := o3.shape
  have HS := Lib.hid hs
  have n1 : np ≤ 1048576 := by have := o1.1; have := hs.p; omega
  have n2 : nw ≤ 1048576 := by have := o2.1; have := hs.w; omega
  have n3 : nm ≤ 1048576 := by have := o3.1; have := hs.m; omega
  obtain ⟨c1, hc1⟩ : ∃ c, c = cntP h.pages := ⟨_, rfl⟩
  have hc1b : c1 ≤ 1099514773504 := by rw [hc1]; exact (cntH_le hs).1
  have HC1 := Lib.hid hc1
  have HW := Lib.hid o2.1
  have O1 := Lib.hid o1.here
  have O2 := Lib.hid o2.here
  have O3 := Lib.hid o3.here
  have HD := Lib.hid (And.intro d1 (And.intro d2 (And.intro d3 (And.intro e1 (And.intro e2 e3)))))
  clear ho o1 o2 o3 d1 d2 d3 e1 e2 e3 hs hc1
  go_enter Tryz.func44, Tryz.ntmps44
  go_wp2_with fail
  have hrow : Row (w.alloc (.cells #[.slice pa np pc, .slice wa nw wc, .slice ma nm mc] 28)) w.heap.size 28 #[.slice pa np pc, .slice wa nw wc, .slice ma nm mc] := heap_alloc_new _ _
  refine (markPgs_calls (O1.out.alloc _) HS.out.u n1 h0 hK).mono ?_
  rintro e w1 ⟨rfl, p1, t1⟩
  rw [← HC1.out]
  have R1 := t1.row hrow (fun hq => by have := hq.2; omega)
  have tA := (Turn.alloc (fun q => S1 q ∧ q < w.heap.size) w (.cells #[.slice pa np pc, .slice wa nw wc, .slice ma nm mc] 28)).trans t1 (fun _ h _ => h)
  have H1 := Lib.hid (And.intro p1 (And.intro (O2.out.turn tA (fun q hq _ h => HD.out.2.2.2.1 q h.1 hq.1)) (And.intro (O3.out.turn tA (fun q hq _ h => HD.out.2.2.2.2.1 q h.1 hq.1)) tA)))
  have q1 := R1.cell 1
  have q2 := R1.cell 2
  have ql := R1.lt
  simp at q1 q2
  clear hrow p1 t1 tA
  go_wp2_with fail
  refine (markW_calls H1.out.2.1 (by omega) (by omega) (by omega)).mono ?_
  rintro e w2 ⟨rfl, p2, t2⟩
  have R2 := t2.row R1 (fun hq => by have := hq.2; omega)
  have H2 := Lib.hid (And.intro (H1.out.1.turn t2 (fun q hq _ h => HD.out.2.2.2.1 q hq.1 h.1)) (And.intro p2 (And.intro (H1.out.2.2.1.turn t2 (fun q hq _ h => HD.out.2.2.2.2.2 q h.1 hq.1)) t2)))
  clear q1 q2 ql R1 p2 t2
  have q2 := R2.cell 2
  have ql := R2.lt
  simp at q2
  go_wp2_with fail
  obtain ⟨c3, hc3⟩ : ∃ c, c = h.mags.flatten.length := ⟨_, rfl⟩
  have hc3b : c3 ≤ 1099511627776 := by rw [hc3]; exact (cntH_le HS.out).2.2
  have HC3 := Lib.hid hc3
  refine (markMags_calls H2.out.2.2.1 hc3.symm HS.out.k n3 (by omega) (by omega)).mono ?_
  rintro e w3 ⟨rfl, p3, t3⟩
  have HE : Hid (HpO w3 S (.slice pa np pc) np (.slice wa nw wc) nw (.slice ma nm mc) nm (markHp h K) ∧ Turn S w w3) := by
    obtain ⟨d1, d2, d3, e1, e2, e3⟩ := HD.out
    refine ⟨HpO.mk3 (A := fun q => S1 q ∧ q < w.heap.size) (B := fun q => S2 q ∧ q < w.heap.size) (C := fun q => S3 q ∧ q < w.heap.size) (H2.out.1.turn t3 (fun q hq _ h => e2 q hq.1 h.1)) ?_ ?_ (fun q hq => d1 q hq.1) (fun q hq => d2 q hq.1) (fun q hq => d3 q hq.1) (fun q hq h => e1 q hq.1 h.1) (fun q hq h => e2 q hq.1 h.1) (fun q hq h => e3 q hq.1 h.1), ?_⟩
    · have := H2.out.2.1.turn t3 (fun q hq _ h => e3 q hq.1 h.1)
      simp only [markHp]
      rw [← HC1.out, HW.out]; exact this
    · simp only [markHp]
      rw [← HC1.out, HW.out]; exact p3
    · exact ((H1.out.2.2.2.mono (U := S) (fun q hq _ => d1 q hq.1)).trans (H2.out.2.2.2.mono (U := S) (fun q hq _ => d2 q hq.1)) (fun q hq _ => hq)).trans (t3.mono (U := S) (fun q hq _ => d3 q hq.1)) (fun q hq _ => hq)
  clear p3 t3 hc3
  go_wp2_with fail
  go_ret
  refine ⟨ret_int ?_, HE.out.1, HE.out.2⟩
  unfold cntH
  rw [← HC1.out, HW.out, ← HC3.out]
  omega

set_option maxHeartbeats 800000 in
theorem heldHeap_calls {pa wa ma : Option Addr} {pn pc wn wk mn mc : Nat} {h : Hp} {K : Int} {S : Nat → Prop} {w : World} (hr : HpR w S pa pn pc wa wn wk ma mn mc (markHp h K)) (hs : HpS 1048576 h) (h0 : 0 ≤ K) (hK : K ≤ 1048576) :
    Calls Tryz.prog 121 #[.agg #[.slice pa pn pc, .slice wa wn wk, .slice ma mn mc], .int .i64 K] w fun e w' => e = .returned (.int .i64 (K + cntH h)) ∧ Below w.heap.size w w' := by
  have HR := Lib.hid hr
  have HS := Lib.hid hs
  have n1 : pn ≤ 1048576 := by have := hs.p; have h2 := hr.pg.1; simp only [markHp, length_marksP] at h2; omega
  have hwl : h.words.length = wn := by have h2 := hr.wd.1; simp only [markHp, length_marks] at h2; exact h2
  have n2 : wn ≤ 1048576 := by have := hs.w; omega
  have n3 : mn ≤ 1048576 := by have h2 := hr.mg.1; simp only [markHp, length_marksM] at h2; have := hs.m; omega
  obtain ⟨c1, hc1⟩ : ∃ c, c = cntP h.pages := ⟨_, rfl⟩
  have hc1b : c1 ≤ 1099514773504 := by rw [hc1]; exact (cntH_le hs).1
  have HC1 := Lib.hid hc1
  have HW := Lib.hid hwl
  clear hr hs hc1 hwl
  have g1 : ¬ (K + (c1 : Int) < 0) := by omega
  have g2 : ¬ (K + (c1 : Int) + wn < 0) := by omega
  go_enter Tryz.func121, Tryz.ntmps121
  go_wp2_with fail
  refine (heldPgs_calls (HR.out.pg.alloc _) HS.out.u n1 h0 hK).mono ?_
  rintro e w1 ⟨rfl, hb1⟩
  rw [← HC1.out]
  have R1 := Row.new hb1
  have B1 := Lib.hid (below_past hb1)
  have q1 := R1.cell 1
  have q2 := R1.cell 2
  have ql := R1.lt
  simp at q1 q2
  clear hb1 R1
  go_wp2_with fail
  refine (held_calls (K := K + c1) (by have := (HR.out.below B1.out).wd.ints; simp only [markHp] at this; rw [← HC1.out, HW.out] at this; exact this) (by omega) (by omega) (by omega)).mono ?_
  rintro e w2 ⟨rfl, rfl⟩
  go_wp2_with fail
  obtain ⟨c3, hc3⟩ : ∃ c, c = h.mags.flatten.length := ⟨_, rfl⟩
  have hc3b : c3 ≤ 1099511627776 := by rw [hc3]; exact (cntH_le HS.out).2.2
  have HC3 := Lib.hid hc3
  refine (heldMags_calls (ms := h.mags) (K := K + c1 + wn) (t := c3) (by have := (HR.out.below B1.out).mg; simp only [markHp] at this; rw [← HC1.out, HW.out] at this; exact this) hc3.symm HS.out.k n3 (by omega) (by omega)).mono ?_
  rintro e w3 ⟨rfl, rfl⟩
  clear hc3
  have g3 : ¬ (K + (c1 : Int) + wn + c3 < 0) := by omega
  go_wp2_with fail
  go_ret
  refine ⟨ret_int ?_, B1.out⟩
  unfold cntH
  rw [← HC1.out, HW.out, ← HC3.out]
  omega

set_option maxHeartbeats 800000 in
theorem markHR_calls {vp vw vm : Value} {np nw nm : Nat} {h : Hp} {q K : Int} {S : Nat → Prop} {w : World} (ho : HpO w S vp np vw nw vm nm h) (hs : HpS 1048576 h) (h0 : 0 ≤ K) (hK : K ≤ 1048576) :
    Calls Tryz.prog 45 #[.agg #[.int .i64 q, vp, vw, vm, .int .i64 0, .int .i64 0], .int .i64 K] w fun e w' => e = .returned (.int .i64 (K + cntH h)) ∧ HpO w' S vp np vw nw vm nm (markHp h K) ∧ Turn S w w' := by
  obtain ⟨pa, pc, wa, wc, ma, mc, rfl, rfl, rfl, _⟩ := ho.shape
  have HO := Lib.hid (ho.mono (S' := fun k => S k ∧ k < w.heap.size) (fun k hk hl => ⟨hk, hl⟩))
  have HS := Lib.hid hs
  clear ho hs
  go_enter Tryz.func45, Tryz.ntmps45
  go_wp2_with fail
  refine (markHeap_calls (HO.out.below ((Below.refl _ _).alloc (Nat.le_refl _) _)) HS.out h0 hK).mono ?_
  rintro e w1 ⟨rfl, ho2, ht⟩
  obtain ⟨c, hc⟩ : ∃ c, c = cntH h := ⟨_, rfl⟩
  have HC := Lib.hid hc
  rw [← hc]
  have hcb : c ≤ 2199027449856 := by rw [hc]; have := cntH_le HS.out; unfold cntH; omega
  have HO2 := Lib.hid (And.intro (ho2.mono (S' := S) (fun k hk _ => hk.1)) ((Turn.alloc S w _).trans ht (fun k hk _ => hk.1)))
  clear ho2 ht hc
  go_wp2_with fail
  go_ret
  exact ⟨ret_int (by rw [HC.out]), HO2.out.1, HO2.out.2⟩

theorem heldHR_calls {pa wa ma : Option Addr} {pn pc wn wk mn mc : Nat} {h : Hp} {q K : Int} {S : Nat → Prop} {w : World} (hr : HpR w S pa pn pc wa wn wk ma mn mc (markHp h K)) (hs : HpS 1048576 h) (h0 : 0 ≤ K) (hK : K ≤ 1048576) :
    Calls Tryz.prog 46 #[.agg #[.int .i64 q, .slice pa pn pc, .slice wa wn wk, .slice ma mn mc, .int .i64 0, .int .i64 0], .int .i64 K] w fun e w' => e = .returned (.int .i64 (K + cntH h)) ∧ Below w.heap.size w w' := by
  have HR := Lib.hid hr
  have HS := Lib.hid hs
  clear hr hs
  go_enter Tryz.func46, Tryz.ntmps46
  go_wp2_with fail
  refine (heldHeap_calls (HR.out.below ((Below.refl _ _).alloc (Nat.le_refl _) _)) HS.out h0 hK).mono ?_
  rintro e w1 ⟨rfl, hb1⟩
  obtain ⟨c, hc⟩ : ∃ c, c = cntH h := ⟨_, rfl⟩
  have HC := Lib.hid hc
  rw [← hc]
  have hcb : c ≤ 2199027449856 := by rw [hc]; have := cntH_le HS.out; unfold cntH; omega
  have hlt : ¬ (K + (c : Int) < 0) := by omega
  clear hc
  go_wp2_with fail
  go_ret
  exact ⟨ret_int (by rw [HC.out]), below_past hb1⟩
end Go.Proofs.YthpamclljdcjpaaGreatDoor

/- What the exact laws of chapter 5 have in their hands. -/
namespace Go.Proofs.YthpamclljdcjpaaGreatDoor
open Go.RowKit

theorem MakesHeap.open_ {w w' : World} {h : Hp} {e : Ending} (hm : MakesHeap w h e w') : ∃ pa pn pc wa wn wk ma mn mc, e = .returned (.agg #[.slice pa pn pc, .slice wa wn wk, .slice ma mn mc]) ∧ HpO w' (fun k => w.heap.size ≤ k) (.slice pa pn pc) pn (.slice wa wn wk) wn (.slice ma mn mc) mn h ∧ Below w.heap.size w w' := by
  obtain ⟨vp, np, vw, nw, vm, nm, rfl, ho, hb⟩ := hm
  obtain ⟨pa, pc, wa, wc, ma, mc, rfl, rfl, rfl, _⟩ := ho.shape
  exact ⟨_, _, _, _, _, _, _, _, _, rfl, ho, hb⟩
/-- The heap that came in, in its box. -/
structure InH (w W : World) (pa : Option Addr) (pn pc : Nat) (wa : Option Addr) (wn wk : Nat) (ma : Option Addr) (mn mc : Nat) (h : Hp) : Prop where
  bel : Below w.heap.size w W
  row : Row W w.heap.size 69 #[.slice pa pn pc, .slice wa wn wk, .slice ma mn mc]
  rd : HpR W (fun k => k < w.heap.size) pa pn pc wa wn wk ma mn mc h
theorem InH.below {w W W' : World} {pa wa ma : Option Addr} {pn pc wn wk mn mc : Nat} {h : Hp} (hi : InH w W pa pn pc wa wn wk ma mn mc h) (hb : Below W.heap.size W W') : InH w W' pa pn pc wa wn wk ma mn mc h :=
  ⟨hi.bel.trans (hb.mono hi.bel.size), hi.row.below hb, hi.rd.below hb⟩
theorem InH.start {w : World} {S : Nat → Prop} {pa wa ma : Option Addr} {pn pc wn wk mn mc : Nat} {h : Hp} (hT : HpR w S pa pn pc wa wn wk ma mn mc h) : InH w (w.alloc (.cells #[.slice pa pn pc, .slice wa wn wk, .slice ma mn mc] 69)) pa pn pc wa wn wk ma mn mc h :=
  ⟨(Below.refl _ _).alloc (Nat.le_refl _) _, heap_alloc_new _ _, (hT.mono (fun k _ hk => hk)).alloc _⟩
theorem InH.turn {w W W' : World} {T : Nat → Prop} {pa wa ma : Option Addr} {pn pc wn wk mn mc : Nat} {h : Hp} (hi : InH w W pa pn pc wa wn wk ma mn mc h) (ht : Turn T W W') (hT : ∀ k, T k → w.heap.size < k) : InH w W' pa pn pc wa wn wk ma mn mc h :=
  ⟨ht.below hi.bel hi.bel.size (fun k hk => Nat.le_of_lt (hT k hk)), ht.row hi.row (fun hk => Nat.lt_irrefl _ (hT _ hk)), hi.rd.turn ht (fun k hk _ h => by have := hT k h; omega)⟩
/-- Six cells, and all that was there, are kept. -/
theorem keepHH {W a b : World} {p1 p2 p3 p4 p5 p6 : Addr} {x1 x2 x3 x4 x5 x6 : Value} (h : a.cell? p1 = some x1 ∧ a.cell? p2 = some x2 ∧ a.cell? p3 = some x3 ∧ a.cell? p4 = some x4 ∧ a.cell? p5 = some x5 ∧ a.cell? p6 = some x6 ∧ Below W.heap.size W a) (hb : Below a.heap.size a b) :
    b.cell? p1 = some x1 ∧ b.cell? p2 = some x2 ∧ b.cell? p3 = some x3 ∧ b.cell? p4 = some x4 ∧ b.cell? p5 = some x5 ∧ b.cell? p6 = some x6 ∧ Below W.heap.size W b := by
  obtain ⟨h1, h2, h3, h4, h5, h6, h⟩ := h
  have k := fun (p : Addr) (x : Value) (e : a.cell? p = some x) => (hb.cell (World.block_lt_of_cell? _ _ e)).trans e
  exact ⟨k _ _ h1, k _ _ h2, k _ _ h3, k _ _ h4, k _ _ h5, k _ _ h6, h.trans (hb.mono h.size)⟩
end Go.Proofs.YthpamclljdcjpaaGreatDoor

/- Chapter 4 of the program: what holds a block. -/
namespace Go.Proofs.YthpamclljdcjpaaGreatDoor
open Go.RowKit

def blkV : Blk → Value
  | .slot i c s => .iface 206 (.agg #[.int .i64 i, .int .i64 c, .int .i64 s])
  | .run i n => .iface 204 (.agg #[.int .i64 i, .int .i64 n])
def blkO : Option Blk → Value
  | none => .nilIface
  | some b => blkV b

theorem slotSize_calls {i c s : Int} {w : World} (h0 : 0 ≤ c) (h3 : c ≤ 3) :
    Calls Tryz.prog 221 #[.agg #[.int .i64 i, .int .i64 c, .int .i64 s]] w fun e w' => e = .returned (.int .i64 (sizeW c)) ∧ Below w.heap.size w w' := by
  go_enter Tryz.func221, Tryz.ntmps221
  go_wp2_with fail
  refine (wordsOfClass_calls h0 h3).mono ?_
  rintro e w' ⟨rfl, rfl⟩
  go_wp2_with fail
  go_ret
  exact ⟨rfl, (Below.refl _ _).alloc (Nat.le_refl _) _⟩

theorem runSize_calls {i n : Int} {w : World} (h0 : 0 ≤ n) (h3 : n ≤ 4) :
    Calls Tryz.prog 276 #[.agg #[.int .i64 i, .int .i64 n]] w fun e w' => e = .returned (.int .i64 (n * 16)) ∧ Below w.heap.size w w' := by
  go_enter Tryz.func276, Tryz.ntmps276
  go_wp2_with fail
  go_ret
  exact ⟨rfl, (Below.refl _ _).alloc (Nat.le_refl _) _⟩

theorem runStart_calls {i n : Int} {w : World} (h0 : 0 ≤ i) (h3 : i ≤ 40) :
    Calls Tryz.prog 277 #[.agg #[.int .i64 i, .int .i64 n]] w fun e w' => e = .returned (.int .i64 (i * 16)) ∧ Below w.heap.size w w' := by
  go_enter Tryz.func277, Tryz.ntmps277
  go_wp2_with fail
  go_ret
  exact ⟨rfl, (Below.refl _ _).alloc (Nat.le_refl _) _⟩

/-- Three cells, and all that was there, are kept. -/
theorem keep3 {W a b : World} {p q r : Addr} {x y z : Value} (h : a.cell? p = some x ∧ a.cell? q = some y ∧ a.cell? r = some z ∧ Below W.heap.size W a) (hb : Below a.heap.size a b) : b.cell? p = some x ∧ b.cell? q = some y ∧ b.cell? r = some z ∧ Below W.heap.size W b :=
  ⟨(hb.cell (World.block_lt_of_cell? _ _ h.1)).trans h.1, (hb.cell (World.block_lt_of_cell? _ _ h.2.1)).trans h.2.1, (hb.cell (World.block_lt_of_cell? _ _ h.2.2.1)).trans h.2.2.1, h.2.2.2.trans (hb.mono h.2.2.2.size)⟩

set_option maxHeartbeats 1000000 in
theorem slotStart_calls {i c s : Int} {w : World} (h0 : 0 ≤ c) (h3 : c ≤ 3) (hi0 : 0 ≤ i) (hi : i ≤ 40) (hs0 : 0 ≤ s) (hs : s ≤ 15) :
    Calls Tryz.prog 196 #[.agg #[.int .i64 i, .int .i64 c, .int .i64 s]] w fun e w' => e = .returned (.int .i64 (i * 16 + s * sizeW c)) ∧ Below w.heap.size w w' := by
  have hsz := sizeW_small c
  have hm0 : 0 ≤ s * sizeW c := Int.mul_nonneg hs0 (by omega)
  have hm1 : s * sizeW c ≤ 120 := by
    have := Int.mul_le_mul hs hsz.2 (by omega) (by omega)
    omega
  have hw1 : IntKind.i64.wrap (i * 16) = i * 16 := by rw [IntKind.wrap_i64]; omega
  have hw2 : IntKind.i64.wrap (s * sizeW c) = s * sizeW c := by rw [IntKind.wrap_i64]; omega
  have hw3 : IntKind.i64.wrap (i * 16 + s * sizeW c) = i * 16 + s * sizeW c := by rw [IntKind.wrap_i64]; omega
  obtain ⟨o, ho⟩ : ∃ o, o = Obj.cells #[.int .i64 i, .int .i64 c, .int .i64 s] 206 := ⟨_, rfl⟩
  have hrow : Row (w.alloc o) w.heap.size 206 #[.int .i64 i, .int .i64 c, .int .i64 s] := by rw [ho]; exact heap_alloc_new _ _
  have q0 : (w.alloc o).cell? ⟨w.heap.size, 0, none⟩ = some (.int .i64 i) := by rw [hrow.cell]; rfl
  have q1 : (w.alloc o).cell? ⟨w.heap.size, 1, none⟩ = some (.int .i64 c) := by rw [hrow.cell]; rfl
  have q2 : (w.alloc o).cell? ⟨w.heap.size, 2, none⟩ = some (.int .i64 s) := by rw [hrow.cell]; rfl
  have kB : Below w.heap.size w (w.alloc o) := (Below.refl _ _).alloc (Nat.le_refl _) o
  have kS : w.heap.size < (w.alloc o).heap.size := by simp
  subst ho
  go_enter Tryz.func196, Tryz.ntmps196
  go_wp2_with fail
  go_region_held3 (fun w' => w'.cell? ⟨w.heap.size, 0, none⟩ = some (.int .i64 i) ∧ w'.cell? ⟨w.heap.size, 1, none⟩ = some (.int .i64 c) ∧ w'.cell? ⟨w.heap.size, 2, none⟩ = some (.int .i64 s) ∧ Below w.heap.size w w') (first | assumption | exact ⟨q0, q1, q2, kB.drew⟩)
    ((go_at_call 221; obtain ⟨x0, x1, x2, kb⟩ := ‹_ ∧ _ ∧ _ ∧ Below _ _ _›; refine (slotSize_calls h0 h3).mono ?_; rintro e w' ⟨rfl, b1⟩; have hS' := keep3 ⟨x0, x1, x2, kb⟩ b1))
  have kb2 := hS'.2.2.2
  clear hS'
  go_wp2_with fail
  go_ret
  exact ⟨rfl, kb2⟩
end Go.Proofs.YthpamclljdcjpaaGreatDoor

/- Chapter 4 of the program: a slot that is searched for; runs that are free. -/
namespace Go.Proofs.YthpamclljdcjpaaGreatDoor
open Go.RowKit

theorem ret_val {a b : Value} (h : a = b) : Ending.returned a = .returned b := by rw [h]
/-- What is found so far, as a block. -/
def fv (c : Int) (f : Option (Nat × Nat)) : Value := blkO (f.map fun x => Blk.slot x.1 c x.2)

set_option maxRecDepth 100000 in
set_option maxHeartbeats 2000000 in
theorem slotFor_calls {ao : Option Addr} {n cc : Nat} {c : Int} {ps : List Pg} {S : Nat → Prop} {w : World} (hT : Lst KPage w S ao n ps) (hS : ShortP 17592186044416 ps) (hn : n ≤ 17592186044416) :
    Calls Tryz.prog 250 #[.slice ao n cc, .int .i64 c] w fun e w' => e = .returned (fv c (slotFor ps c)) ∧ Below w.heap.size w w' := by
  have HL := Lib.hid hT.1
  have HS := Lib.hid hS
  go_enter Tryz.func250, Tryz.ntmps250
  go_wp2_with fail
  go_step3
  go_wp2_with fail
  go_step3
  go_wp2_with fail
  go_loopw [5, 6, 7, 8, 11] (fun v _ _ _ i wr => ∃ (k : Nat) (f : Option (Nat × Nat)), k ≤ n ∧ i = .int .i64 k ∧ v = fv c f ∧ Hid (scan c 0 none ps = scan c k f (ps.drop k)) ∧ Below w.heap.size w wr) (fun _ _ _ _ i _ => n - (intOf i).toNat)
  case atStart => exact ⟨0, none, Nat.zero_le _, rfl, rfl, rfl, Below.refl _ _⟩
  case round =>
    obtain ⟨k, f, hk, rfl, rfl, HW, hbw⟩ := hrel
    by_cases hlt : k < n
    · obtain ⟨b, off, p, a, l, cu, rfl, d0, hp, e0, e1, e2, e3, hlc, hcm, hu⟩ := (hT.below hbw).pg_at hlt
      have HWd : Hid (scan c 0 none ps = if p.kind = 1 ∧ p.cls = c ∧ 0 ≤ idxB false p.used 0 then some (k, (idxB false p.used 0).toNat) else scan c (k + 1) (if p.kind = 0 ∧ f = none then some (k, 0) else f) (ps.drop (k + 1))) := by
        have := HW.out; rw [drop_at hp, scan] at this; exact this
      have hl : l ≤ 17592186044416 := by have := HS.out.at_ hp; have := hu.1; omega
      have hB := Lib.hid (fun o => hbw.alloc hbw.size o)
      clear hp hcm
      by_cases k0 : p.kind = 0
      · rw [k0] at e0
        rcases f with _ | x
        · have HN : Hid (scan c 0 none ps = scan c (k + 1) (some (k, 0)) (ps.drop (k + 1))) := by
            have := HWd.out; rw [if_neg (by omega), if_pos ⟨k0, rfl⟩] at this; exact this
          clear k0
          simp only [fv, Option.map_none, blkO]
          go_wp2_with fail
          go_roundw
          case rel => exact ⟨k + 1, some (k, 0), by omega, by go_num, rfl, HN, hB.out _⟩
          case measure => simp [intOf]; omega
        · have HN : Hid (scan c 0 none ps = scan c (k + 1) (some x) (ps.drop (k + 1))) := by
            have := HWd.out; rw [if_neg (by omega), if_neg (by simp)] at this; exact this
          clear k0
          simp only [fv, Option.map_some, blkO, blkV]
          go_wp2_with fail
          go_roundw
          case rel => exact ⟨k + 1, some x, by omega, by go_num, rfl, HN, hB.out _⟩
          case measure => simp [intOf]; omega
      · have q0 : (p.kind == 0) = false := by simpa using k0
        have HM : Hid (¬ (p.kind = 1 ∧ p.cls = c ∧ 0 ≤ idxB false p.used 0) → scan c 0 none ps = scan c (k + 1) f (ps.drop (k + 1))) := fun h => by
          have := HWd.out; rw [if_neg h, if_neg (fun h => k0 h.1)] at this; exact this
        have HV : Hid (∃ v, v = fv c f) := ⟨_, rfl⟩
        obtain ⟨v, hv⟩ := HV.out
        rw [← hv]
        have HVV := Lib.hid hv
        clear k0 hv HV
        by_cases k1 : p.kind = 1 ∧ p.cls = c
        · obtain ⟨k1, kc⟩ := k1
          rw [k1] at e0
          rw [kc] at e1
          clear q0
          by_cases hix : 0 ≤ idxB false p.used 0
          · have HN : Hid (fv c (slotFor ps c) = .iface 206 (.agg #[.int .i64 k, .int .i64 c, .int .i64 (idxB false p.used 0)])) := by
              have := HWd.out; rw [if_pos ⟨k1, kc, hix⟩, scan_slotFor] at this
              show _ = _; rw [this]
              simp only [fv, Option.map_some, blkO, blkV, Int.toNat_of_nonneg hix]
            clear k1 kc
            go_wp2_with fail
            refine (idx_calls (hu.alloc _) hl).mono ?_
            rintro e w1 ⟨rfl, rfl⟩
            go_wp2_with fail
            try rw [Exit.noGoto_ret]
            go_ret
            exact ⟨ret_val HN.out.symm, hB.out _⟩
          · have HN := Lib.hid (HM.out (fun h => hix h.2.2))
            have hneg : ¬ (0 ≤ idxB false p.used 0) := hix
            clear k1 kc hix
            go_wp2_with fail
            refine (idx_calls (hu.alloc _) hl).mono ?_
            rintro e w1 ⟨rfl, rfl⟩
            go_wp2_with fail
            go_roundw
            case rel => exact ⟨k + 1, f, by omega, by go_num, HVV.out, HN, hB.out _⟩
            case measure => simp [intOf]; omega
        · have HN := Lib.hid (HM.out (fun h => k1 ⟨h.1, h.2.1⟩))
          by_cases k1' : p.kind = 1
          · have q1 : (p.cls == c) = false := by simp; exact fun h => k1 ⟨k1', h⟩
            rw [k1'] at e0
            clear k1 k1' q0
            go_wp2_with fail
            go_roundw
            case rel => exact ⟨k + 1, f, by omega, by go_num, HVV.out, HN, hB.out _⟩
            case measure => simp [intOf]; omega
          · have q1 : (p.kind == 1) = false := by simpa using k1'
            clear k1 k1'
            go_wp2_with fail
            go_roundw
            case rel => exact ⟨k + 1, f, by omega, by go_num, HVV.out, HN, hB.out _⟩
            case measure => simp [intOf]; omega
    · have HN : Hid (fv c (slotFor ps c) = fv c f) := by
        have := HW.out; rw [drop_end (by rw [HL.out]; omega), scan, scan_slotFor] at this; show _ = _; rw [this]
      have HV : Hid (∃ v, v = fv c f) := ⟨_, rfl⟩
      obtain ⟨v, hv⟩ := HV.out
      rw [← hv]
      have HVV := Lib.hid hv
      clear hv HV
      go_wp2_with fail
      try rw [Exit.noGoto_ret]
      go_ret
      exact ⟨ret_val (HVV.out.trans HN.out.symm), hbw⟩

theorem freeN_take : ∀ {m : Nat} {ps : List Pg}, freeN m (ps.take m) = freeN m ps
  | 0, ps => rfl
  | m + 1, [] => rfl
  | m + 1, q :: r => by rw [List.take_succ_cons, freeN, freeN, freeN_take]
theorem freeN_all {m : Nat} {ps : List Pg} (h1 : m ≤ ps.length) (h : ∀ i p, i < m → ps[i]? = some p → p.kind = 0) : freeN m ps = true := by
  induction m generalizing ps with
  | zero => rfl
  | succ m ih =>
    cases ps with
    | nil => simp at h1
    | cons q r =>
      rw [freeN, h 0 q (by omega) (by simp), ih (by simpa using h1) (fun i p hi hp => h (i + 1) p (by omega) (by simpa using hp))]; simp
theorem runFrom_skip1 {m k : Nat} {ps : List Pg} (h : freeN m (ps.drop k) = false) (hk : k < ps.length) : runFrom m k (ps.drop k) = runFrom m (k + 1) (ps.drop (k + 1)) := by
  rw [List.drop_eq_getElem_cons hk] at h ⊢
  rw [runFrom, h]; simp
theorem runFrom_hit {m k : Nat} {ps : List Pg} (h : freeN m (ps.drop k) = true) (hk : k < ps.length) : runFrom m k (ps.drop k) = some k := by
  rw [List.drop_eq_getElem_cons hk] at h ⊢
  rw [runFrom, h]; simp
/-- What 'freeRun' answers. -/
def runV (x : Option Nat) : Value := match x with
  | some i => .tuple #[.int .i64 i, .bool true]
  | none => .tuple #[.int .i64 0, .bool false]

set_option maxRecDepth 100000 in
set_option maxHeartbeats 2000000 in
theorem freeRun_calls {ao : Option Addr} {n cc m : Nat} {ps : List Pg} {S : Nat → Prop} {w : World} (hT : Lst KPage w S ao n ps) (hn : n ≤ cc) (hc : cc ≤ maxLen) (hm0 : 0 < m) (hm : m ≤ 4) :
    Calls Tryz.prog 252 #[.slice ao n cc, .int .i64 m] w fun e w' => e = .returned (runV (runFrom m 0 ps)) ∧ Below w.heap.size w w' := by
  have HL := Lib.hid hT.1
  unfold maxLen at hc
  go_enter Tryz.func252, Tryz.ntmps252
  go_wp2_with fail
  go_step3
  go_wp2_with fail
  go_step3
  go_wp2_with fail
  go_loopg [6, 8, 14] (n + 1 - m) (fun g _ _ s14 wx => ∃ k : Nat, k + g = n + 1 - m ∧ s14 = .int .i64 k ∧ Hid (runFrom m 0 ps = runFrom m k (ps.drop k)) ∧ Below w.heap.size w wx)
  case atStart => exact ⟨0, by omega, rfl, rfl, Below.refl _ _⟩
  case round =>
    obtain ⟨k, hkg, rfl, HW, hbw⟩ := hrel
    cases gk with
    | zero =>
      have hlt : ¬ ((k : Int) < (n : Int) - (m : Int) + 1) := by omega
      have HN : Hid (runFrom m 0 ps = none) := by show _ = _; rw [HW.out, runFrom_short (by rw [List.length_drop, HL.out]; omega)]
      go_wp2_with fail
      try rw [Exit.noGoto_ret]
      go_ret2
      exact ⟨by rw [HN.out]; rfl, hbw⟩
    | succ g =>
      have hlt : (k : Int) < (n : Int) - (m : Int) + 1 := by omega
      have hkm : k + m ≤ n := by omega
      obtain ⟨b, off, rfl, hbl, _⟩ := hT.lt (by omega)
      have hP := (hT.part (i := k) (m := m) (by omega)).below hbw
      rw [KPage_sz] at hP
      have hN : ((k : Int) + (m : Int)).toNat = k + m := by omega
      have hb1 : (k : Int) ≤ (k : Int) + (m : Int) := by omega
      have hb2 : (k : Int) + (m : Int) ≤ (cc : Int) := by omega
      have hkc : ¬ (cc = k) := by omega
      have hkc2 : ¬ (cc - k = 0) := by omega
      go_wp2_with fail
      have hbw0 := hbw
      obtain ⟨wo, hwo⟩ : ∃ wo : World, wo = wr := ⟨_, rfl⟩
      subst hwo
      go_loopg [8, 24] m (fun g' _ s24 wx => ∃ j : Nat, j + g' = m ∧ s24 = .int .i64 j ∧ Hid (∀ i p, i < j → (ps.drop k)[i]? = some p → p.kind = 0) ∧ Below wo.heap.size wo wx)
      case atStart => exact ⟨0, by omega, rfl, fun i p hi => by omega, Below.refl _ _⟩
      case round =>
        obtain ⟨j, hjg, rfl, HJ, hbj⟩ := hrel
        have hbw2 := hbw0.trans (hbj.mono hbw0.size)
        cases gk with
        | zero =>
          have hge : ¬ ((j : Int) < (m : Int)) := by omega
          have hfr : freeN m (ps.drop k) = true := freeN_all (by rw [List.length_drop, HL.out]; omega) (fun i p hi hp => HJ.out i p (by omega) hp)
          have HN : Hid (runFrom m 0 ps = some k) := by show _ = _; rw [HW.out, runFrom_hit hfr (by rw [HL.out]; omega)]
          clear hfr
          go_wp2_with fail
          try rw [Exit.noGoto_ret]
          go_ret2
          exact ⟨by rw [HN.out]; rfl, hbw2⟩
        | succ g' =>
          have hlt2 : (j : Int) < (m : Int) := by omega
          obtain ⟨b', off', p, a, l, c, he, d0, hp, e0, e1, e2, e3, hlc, hcm, hu⟩ := (hP.below hbj).pg_at (j := j) (by omega)
          cases he
          have hPx : (ps.drop k)[j]? = some p := by rw [List.getElem?_take] at hp; split at hp; exact hp; cases hp
          have HP := Lib.hid hPx
          have hB := Lib.hid (fun o => hbj.alloc hbj.size o)
          have hB2 := Lib.hid (fun o => hbw2.alloc hbw2.size o)
          clear hp hPx hu
          by_cases k0 : p.kind = 0
          · have HN : Hid (∀ i p, i < j + 1 → (ps.drop k)[i]? = some p → p.kind = 0) := fun i q hi hq => by
              by_cases e : i = j
              · subst e; have := HP.out.symm.trans hq; injection this with this; rw [← this]; exact k0
              · exact HJ.out i q (by omega) hq
            rw [k0] at e0
            clear k0
            go_wp2_with fail
            go_roundg g'
            case rel => exact ⟨j + 1, by omega, by go_num, HN, hB.out _⟩
            case measure => omega
          · have hq : (p.kind != 0) = true := by simpa using k0
            have HN : Hid (runFrom m 0 ps = runFrom m (k + 1) (ps.drop (k + 1))) := by
              show _ = _
              rw [HW.out, runFrom_skip1 (freeN_no (by omega) HP.out k0) (by rw [HL.out]; omega)]
            clear k0
            go_wp2_with fail
            go_roundg g
            case rel => exact ⟨k + 1, by omega, by go_num, HN, hB2.out _⟩
            case measure => omega
end Go.Proofs.YthpamclljdcjpaaGreatDoor

/- Chapter 4 of the model: a slot that is taken. -/
namespace Go.Proofs.YthpamclljdcjpaaGreatDoor
open Go.RowKit

/-- The place of the slot that is taken next, or -1; the pages with it. -/
def slotAt (ps : List Pg) (c : Int) : Int := match slotFor ps c with
  | some (i, s) => (i : Int) * 16 + s * sizeW c
  | none => -1
def slotPut (ps : List Pg) (c : Int) : List Pg := match slotFor ps c with
  | some (i, s) => putSlot ps c i s
  | none => ps
theorem slotFor_gap {ps : List Pg} {c : Int} {x : Nat × Nat} (h : gapIn c 0 ps = some x) : slotFor ps c = some x := by unfold slotFor; rw [h]
theorem slotFor_free {ps : List Pg} {c : Int} (h : gapIn c 0 ps = none) : slotFor ps c = (freeIn 0 ps).map fun i => (i, 0) := by unfold slotFor; rw [h]

set_option maxRecDepth 100000 in
set_option maxHeartbeats 2000000 in
theorem l4Slot_calls {v : Value} {n : Nat} {c : Int} {ps : List Pg} {S : Nat → Prop} {w : World} (hT : Own KPage 137 w S v n ps) (hS : ShortP 17592186044416 ps) (hn : n ≤ 17592186044416) (h0 : 0 ≤ c) (h3 : c ≤ 3) :
    Calls Tryz.prog 104 #[v, .int .i64 c] w fun e w' => e = .returned (.int .i64 (slotAt ps c)) ∧ Own KPage 137 w' (fun k => S k ∨ w.heap.size ≤ k) v n (slotPut ps c) ∧ Turn S w w' := by
  have HL := Lib.hid hT.1
  have HS := Lib.hid hS
  have hsz := sizeW_small c
  obtain ⟨ao, cc, rfl, _, _, hLst⟩ := hT.shape
  obtain ⟨ib, hib, hb0, hb1, hb2⟩ := info_parts infoBool
  go_enter Tryz.func104, Tryz.ntmps104
  go_wp2_with fail
  go_loop [5, 6] (fun i _ => ∃ k : Nat, k ≤ n ∧ i = .int .i64 k ∧ Hid (gapIn c 0 ps = gapIn c k (ps.drop k))) (fun i _ => n - (intOf i).toNat)
  case atStart => exact ⟨0, Nat.zero_le _, rfl, rfl⟩
  case round =>
    obtain ⟨k, hk, rfl, HW⟩ := hrel
    by_cases hlt : k < n
    · obtain ⟨g, cap, p, a, l, c', F, he, g0, hgS, hp, ⟨q0, q1, q2, q3⟩, ⟨f0, f1, f2, f3⟩, ⟨hU, hF, hlc, hcm⟩, hset, hus⟩ := hT.pg_at hlt
      cases he
      have HP := Lib.hid hp
      have hl : l ≤ 17592186044416 := by have := HS.out.at_ hp; have := hU.1; omega
      have HLU := Lib.hid hU.1
      have HWd : Hid (gapIn c 0 ps = if p.kind = 1 ∧ p.cls = c ∧ 0 ≤ idxB false p.used 0 then some (k, (idxB false p.used 0).toNat) else gapIn c (k + 1) (ps.drop (k + 1))) := by
        have := HW.out; rw [drop_at hp, gapIn] at this; exact this
      clear hp hcm hset
      by_cases k1 : p.kind = 1
      · rw [k1] at q0
        have k1' := Lib.hid k1
        clear k1
        by_cases kc : p.cls = c
        · rw [kc] at q1
          have kc' := Lib.hid kc
          clear kc
          go_wp2_with fail
          go_loop [6] (fun q => ∃ j : Nat, j ≤ l ∧ q = .int .i64 j ∧ Hid (idxB false p.used 0 = idxB false (p.used.drop j) j)) (fun q => l - (intOf q).toNat)
          case atStart => exact ⟨0, Nat.zero_le _, rfl, rfl⟩
          case round =>
            obtain ⟨j, hj, rfl, HJ⟩ := hrel
            by_cases hjl : j < l
            · obtain ⟨g2, cap2, hv2, hg2S, hg2, hcl, hfr, hbst⟩ := hU.bool_at hjl
              cases hv2
              have hju : j < p.used.length := by rw [HLU.out]; exact hjl
              have HJd : Hid (idxB false p.used 0 = if p.used[j] = false then (j : Int) else idxB false (p.used.drop (j + 1)) (j + 1)) := by
                have := HJ.out; rw [drop_at (List.getElem?_eq_getElem hju), idxB] at this; exact this
              have hge : p.used.getD j false = p.used[j] := by simp [List.getD, hju]
              rw [hge] at hcl
              clear hge
              rcases hv : p.used[j] with _ | _
              · rw [hv] at hcl
                have HX : Hid (slotFor ps c = some (k, j)) := by
                  have h1 := HJd.out
                  rw [if_pos hv] at h1
                  have h2 := HWd.out
                  rw [if_pos ⟨k1'.out, kc'.out, by rw [h1]; omega⟩, h1, Int.toNat_natCast] at h2
                  exact slotFor_gap h2
                have H2 := Lib.hid (hus _ _ (hbst true).2 (hbst true).1)
                have H3 : Hid (slotPut ps c = ps.set k ⟨p.kind, p.cls, p.used.set j true, p.run⟩) := by
                  show slotPut ps c = _
                  unfold slotPut; rw [HX.out]; simp only [putSlot]; rw [HP.out]; simp only [useSlot, k1'.out]; rfl
                have H4 : Hid (slotAt ps c = (k : Int) * 16 + j * sizeW c) := by show slotAt ps c = _; unfold slotAt; rw [HX.out]
                have hb1 : (j : Int) * sizeW c ≤ 281474976710656 := by
                  have := Int.mul_le_mul (show (j : Int) ≤ 17592186044416 by omega) hsz.2 (by omega) (by omega)
                  omega
                have hb0' : 0 ≤ (j : Int) * sizeW c := Int.mul_nonneg (by omega) (by omega)
                clear hbst hus HJd hU hv
                go_wp2_with fail
                refine (l3Size_calls h0 h3).mono ?_
                rintro e w' ⟨rfl, rfl⟩
                go_wp2_with fail
                go_ret
                exact ⟨ret_int H4.out.symm, by rw [H3.out]; exact H2.out.1.mono (fun q hq _ => .inl hq), H2.out.2⟩
              · rw [hv] at hcl
                have HN : Hid (idxB false p.used 0 = idxB false (p.used.drop (j + 1)) (j + 1)) := by have := HJd.out; rw [if_neg (by rw [hv]; simp)] at this; exact this
                clear hbst hus HJd hU hv
                go_wp2_with fail
                go_round
                case rel => exact ⟨j + 1, by omega, by go_num, HN⟩
                case measure => simp [intOf]; omega
            · have HN : Hid (gapIn c 0 ps = gapIn c (k + 1) (ps.drop (k + 1))) := by
                have h1 := HJ.out
                rw [drop_end (by rw [HLU.out]; omega), idxB] at h1
                have h2 := HWd.out
                rw [if_neg (by rw [h1]; omega)] at h2
                exact h2
              clear hus hU
              go_wp2_with fail
              go_round
              case rel => exact ⟨k + 1, by omega, by go_num, HN⟩
              case measure => simp [intOf]; omega
        · have hq : (p.cls != c) = true := by simpa using kc
          have HN : Hid (gapIn c 0 ps = gapIn c (k + 1) (ps.drop (k + 1))) := by have := HWd.out; rw [if_neg (fun h => kc h.2.1)] at this; exact this
          clear hus hU kc
          go_wp2_with fail
          go_round
          case rel => exact ⟨k + 1, by omega, by go_num, HN⟩
          case measure => simp [intOf]; omega
      · have hq : (p.kind != 1) = true := by simpa using k1
        have HN : Hid (gapIn c 0 ps = gapIn c (k + 1) (ps.drop (k + 1))) := by have := HWd.out; rw [if_neg (fun h => k1 h.1)] at this; exact this
        clear hus hU k1
        go_wp2_with fail
        go_round
        case rel => exact ⟨k + 1, by omega, by go_num, HN⟩
        case measure => simp [intOf]; omega
    · have HX : Hid (slotFor ps c = (freeIn 0 ps).map fun i => (i, 0)) := by
        have := HW.out; rw [drop_end (by rw [HL.out]; omega), gapIn] at this; exact slotFor_free this
      clear HW
      go_wp2_with fail
      clear hlt hk
      go_loop [7] (fun i => ∃ k : Nat, k ≤ n ∧ i = .int .i64 k ∧ Hid (freeIn 0 ps = freeIn k (ps.drop k))) (fun i => n - (intOf i).toNat)
      case atStart => exact ⟨0, Nat.zero_le _, rfl, rfl⟩
      case round =>
        obtain ⟨k, hk, rfl, HW⟩ := hrel
        by_cases hlt : k < n
        · obtain ⟨g, cap, p, a, l, c', F, he, g0, hgS, hp, ⟨q0, q1, q2, q3⟩, ⟨f0, f1, f2, f3⟩, _, hset, _⟩ := hT.pg_at hlt
          cases he
          have HP := Lib.hid hp
          have HWd : Hid (freeIn 0 ps = if p.kind = 0 then some k else freeIn (k + 1) (ps.drop (k + 1))) := by
            have := HW.out; rw [drop_at hp, freeIn] at this; exact this
          clear hp
          by_cases k0 : p.kind = 0
          · have HY : Hid (slotFor ps c = some (k, 0)) := by show slotFor ps c = _; rw [HX.out, HWd.out, if_pos k0]; rfl
            have H3 : Hid (slotPut ps c = ps.set k ⟨1, c, (List.replicate (16 / sizeW c).toNat false).set 0 true, 0⟩) := by
              show slotPut ps c = _
              unfold slotPut; rw [HY.out]; simp only [putSlot]; rw [HP.out]; simp only [useSlot, if_pos k0]
            have H4 : Hid (slotAt ps c = (k : Int) * 16) := by show slotAt ps c = _; unfold slotAt; rw [HY.out]; simp
            rw [k0] at q0
            clear k0
            obtain ⟨z, hz⟩ : ∃ z : Nat, (16 : Int) / sizeW c = z := ⟨(16 / sizeW c).toNat, by rw [Int.toNat_of_nonneg (Int.ediv_nonneg (by omega) (by omega))]⟩
            have hz16 : z ≤ 16 := by have := Int.ediv_le_self (a := 16) (sizeW c) (by omega); omega
            have hz1 : 1 ≤ z := by
              rcases (show c = 0 ∨ c = 1 ∨ c = 2 ∨ c = 3 by omega) with e | e | e | e <;> rw [e] at hz <;> simp [sizeW] at hz <;> omega
            have HZ := Lib.hid hz
            clear hz
            go_wp2_with fail
            refine (l3Slots_calls h0 h3).mono ?_
            rintro e w' ⟨rfl, rfl⟩
            rw [HZ.out]
            go_wp2_with (
              at_make
              go_must (refine wpList_make_full _ rfl _ _ 135 rfl 0 4 ib (.bool false) 1 Tryz.underlying135 hib hb0 hb1 _ _ _ _ z rfl rfl rfl rfl (by rw [hb2]; omega) (by unfold maxLen; omega) (Nat.zero_le _) ?_)
              intro w1 hown hg
              have hb : Below w.heap.size w w1 := (Below.refl _ _).grown hg (Nat.le_refl _) (by simp)
              have hU : Own KBool 4 w1 (fun q => w.heap.size ≤ q) (.slice (some ⟨w.heap.size, 0, none⟩) z z) z (List.replicate z false) := Own.of_made (z := .bool false) (by simpa [KBool] using hown) (Nat.le_refl _) rfl rfl
              have HU := Lib.hid (And.intro hU hb)
              have e0 := (hb.cell (p := ⟨g, k * 4, none⟩) g0).trans q0
              have e1 := (hb.cell (p := ⟨g, k * 4 + 1, none⟩) g0).trans q1
              have e2 := (hb.cell (p := ⟨g, k * 4 + 2, none⟩) g0).trans q2
              have e3 := (hb.cell (p := ⟨g, k * 4 + 3, none⟩) g0).trans q3
              have d0 := (hb.frozen (p := ⟨g, k * 4, none⟩) g0).trans f0
              have d1 := (hb.frozen (p := ⟨g, k * 4 + 1, none⟩) g0).trans f1
              have d2 := (hb.frozen (p := ⟨g, k * 4 + 2, none⟩) g0).trans f2
              have d3 := (hb.frozen (p := ⟨g, k * 4 + 3, none⟩) g0).trans f3
              have hst := hset w1 ⟨1, c, List.replicate z false, 0⟩ (.slice (some ⟨w.heap.size, 0, none⟩) z z) z (fun q => w.heap.size ≤ q) (Turn.of_below hb) hU (fun q hq hlt _ => by omega)
              obtain ⟨g', cap', p', a', l', c2, F', he', g0', hgS', hp', ⟨z0, z1, z2, z3⟩, _, ⟨hU', hF', _, _⟩, _, hus'⟩ := hst.1.pg_at hlt
              cases he'
              have hp2 : p' = ⟨1, c, List.replicate z false, 0⟩ := by
                rw [List.getElem?_set_self (by have := (List.getElem?_eq_some_iff.1 HP.out).1; exact this)] at hp'
                injection hp' with hp'; exact hp'.symm
              subst hp2
              have hv3 := hst.2.2.symm.trans z2
              injection hv3 with hv3
              cases hv3
              obtain ⟨g2, cap2, hv2, hg2S, hg2, hcl, hfr, hbst⟩ := hU'.bool_at (j := 0) (by omega)
              cases hv2
              have H5 := Lib.hid (And.intro (hus' _ _ (hbst true).2 (hbst true).1) hst.2.1)
              generalize (List.replicate z false).getD 0 false = u0 at hcl
              have y2 := hst.2.2
              clear hst hus' hbst hp' hU' hF' hU hown hg z0 z1 z2 z3 hset)
            go_ret
            refine ⟨ret_int H4.out.symm, ?_, ?_⟩
            · rw [H3.out, HZ.out, Int.toNat_natCast]
              have := H5.out.1.1
              rw [List.set_set] at this
              exact this
            · exact H5.out.2.trans H5.out.1.2 (fun q hq hlt => hq.elim id (fun h => by omega))
          · have HN : Hid (freeIn 0 ps = freeIn (k + 1) (ps.drop (k + 1))) := by have := HWd.out; rw [if_neg k0] at this; exact this
            have hq : (p.kind == 0) = false := by simpa using k0
            clear hset k0
            go_wp2_with fail
            go_round
            case rel => exact ⟨k + 1, by omega, by go_num, HN⟩
            case measure => simp [intOf]; omega
        · have HY : Hid (slotFor ps c = none) := by
            have := HW.out; rw [drop_end (by rw [HL.out]; omega), freeIn] at this
            show slotFor ps c = none; rw [HX.out, this]; rfl
          have H3 : Hid (slotPut ps c = ps) := by show slotPut ps c = _; unfold slotPut; rw [HY.out]
          have H4 : Hid (slotAt ps c = -1) := by show slotAt ps c = _; unfold slotAt; rw [HY.out]
          have HO := Lib.hid hT
          clear hT
          go_wp2_with fail
          go_ret
          exact ⟨ret_int H4.out.symm, by rw [H3.out]; exact HO.out.mono (fun q hq _ => .inl hq), Turn.refl _ _⟩
end Go.Proofs.YthpamclljdcjpaaGreatDoor

/- Chapter 4 of the model: its exported functions that answer a code and a number. -/
namespace Go.Proofs.YthpamclljdcjpaaGreatDoor
open Go.RowKit

theorem findRun_eq (ps : List Pg) (m : Int) (hv : pagesFault ps = 0) (h : within 1 4 [m] = true) : findRun ps m = if runAt m.toNat ps < 0 then (7, 0) else (0, runAt m.toNat ps) := by
  unfold findRun runAt
  rw [if_pos hv, if_pos h]
  cases hr : runFrom m.toNat 0 ps with
  | none => simp
  | some i => simp only; rw [if_neg (by omega)]

set_option maxHeartbeats 400000 in
theorem sFindRun_calls {m : Int} {ao : Option Addr} {n cc : Nat} {ps : List Pg} {S : Nat → Prop} {w : World} (hT : Lst KPage w S ao n ps) (hS : ShortP 17592186044416 ps) (hn : n ≤ 17592186044416) :
    Calls Tryz.prog 29 #[.slice ao n cc, .int .i64 m] w (Pair w (findRun ps m)) := by
  by_cases hv : pagesFault ps = 0
  rotate_left
  · have HR := Lib.hid (show findRun ps m = (pagesFault ps, 0) by unfold findRun; rw [if_neg hv])
    have hq : (pagesFault ps != 0) = true := by simpa using hv
    clear hv
    go_enter Tryz.func29, Tryz.ntmps29
    go_wp2_with fail
    refine (sPagesFault_calls (hT.alloc _) hS hn).mono ?_
    rintro e w1 ⟨rfl, hb1⟩
    have hres := Row.new hb1
    have hb := below_past hb1
    go_wp2_with (refine wpList_store_row rfl 45 _ _ rfl (w.heap.size) _ rfl rfl _ _ hres (by kernel_rfl) (by rfl) (by simp [Value.oneCell']) ?_)
    refine bodyPost_ret (results_cell_row rfl _ _ (w.heap.size) _ _ _ _ rfl (setRow_heap _ _ _ _ _ _ hres) Tryz.underlying45 rfl (by kernel_rfl)) rfl ?_
    exact pair_done hb (Nat.le_refl _) _ HR.out

  have HV := Lib.hid hv
  rcases hw : within 1 4 [m] with _ | _
  · have HR := Lib.hid (show findRun ps m = (3, 0) by unfold findRun; rw [if_pos hv, hw]; rfl)
    have HW := Lib.hid hw
    clear hv hw
    go_enter Tryz.func29, Tryz.ntmps29
    go_wp2_with fail
    refine (sPagesFault_calls (hT.alloc _) hS hn).mono ?_
    rintro e w1 ⟨rfl, hb1⟩
    rw [HV.out]
    have hres := Row.new hb1
    have hb := below_past hb1
    go_wp2_with fail
    refine l1In_calls.mono ?_
    rw [HW.out]
    rintro e w2 ⟨rfl, rfl⟩
    go_wp2_with (refine wpList_store_row rfl 45 _ _ rfl (w.heap.size) _ rfl rfl _ _ hres (by kernel_rfl) (by rfl) (by simp [Value.oneCell']) ?_)
    refine bodyPost_ret (results_cell_row rfl _ _ (w.heap.size) _ _ _ _ rfl (setRow_heap _ _ _ _ _ _ hres) Tryz.underlying45 rfl (by kernel_rfl)) rfl ?_
    exact pair_done hb (Nat.le_refl _) _ HR.out

  obtain ⟨k, hk⟩ : ∃ k : Nat, m = k := ⟨m.toNat, by have := within_range hw; omega⟩
  have hk1 := within_range hw
  subst hk
  have hkk : 0 < k ∧ k ≤ 17592186044416 := by omega
  have HW := Lib.hid hw
  have HR := Lib.hid (findRun_eq ps k hv hw)
  rw [Int.toNat_natCast] at HR
  clear hw hv hk1
  by_cases hneg : runAt k ps < 0
  · have HR2 : Hid (findRun ps k = (7, 0)) := by show _ = _; rw [HR.out, if_pos hneg]
    go_enter Tryz.func29, Tryz.ntmps29
    go_wp2_with fail
    refine (sPagesFault_calls (hT.alloc _) hS hn).mono ?_
    rintro e w1 ⟨rfl, hb1⟩
    rw [HV.out]
    have hres := Row.new hb1
    have hb := below_past hb1
    go_wp2_with fail
    refine l1In_calls.mono ?_
    rw [HW.out]
    rintro e w2 ⟨rfl, rfl⟩
    go_wp2_with fail
    refine (l4Run_calls ((hT.alloc _).below hb1) hn hkk.1 hkk.2).mono ?_
    rintro e w2 ⟨rfl, rfl⟩
    go_wp2_with (refine wpList_store_row rfl 45 _ _ rfl (w.heap.size) _ rfl rfl _ _ hres (by kernel_rfl) (by rfl) (by simp [Value.oneCell']) ?_)
    refine bodyPost_ret (results_cell_row rfl _ _ (w.heap.size) _ _ _ _ rfl (setRow_heap _ _ _ _ _ _ hres) Tryz.underlying45 rfl (by kernel_rfl)) rfl ?_
    exact pair_done hb (Nat.le_refl _) _ HR2.out

  · have HR2 : Hid (findRun ps k = (0, runAt k ps)) := by show _ = _; rw [HR.out, if_neg hneg]
    go_enter Tryz.func29, Tryz.ntmps29
    go_wp2_with fail
    refine (sPagesFault_calls (hT.alloc _) hS hn).mono ?_
    rintro e w1 ⟨rfl, hb1⟩
    rw [HV.out]
    have hres := Row.new hb1
    have hb := below_past hb1
    go_wp2_with fail
    refine l1In_calls.mono ?_
    rw [HW.out]
    rintro e w2 ⟨rfl, rfl⟩
    go_wp2_with fail
    refine (l4Run_calls ((hT.alloc _).below hb1) hn hkk.1 hkk.2).mono ?_
    rintro e w2 ⟨rfl, rfl⟩
    go_wp2_with (refine wpList_store_row rfl 45 _ _ rfl (w.heap.size) _ rfl rfl _ _ hres (by kernel_rfl) (by rfl) (by simp [Value.oneCell']) ?_)
    refine bodyPost_ret (results_cell_row rfl _ _ (w.heap.size) _ _ _ _ rfl (setRow_heap _ _ _ _ _ _ hres) Tryz.underlying45 rfl (by kernel_rfl)) rfl ?_
    exact pair_done hb (Nat.le_refl _) _ HR2.out

end Go.Proofs.YthpamclljdcjpaaGreatDoor

/- Chapter 4 of the model: where a block begins, how great it is. -/
namespace Go.Proofs.YthpamclljdcjpaaGreatDoor
open Go.RowKit

theorem slot_small {p : Pg} {a : Nat} (h0 : 0 ≤ p.cls) (h3 : p.cls ≤ 3) (hl : (p.used.length : Int) = 16 / sizeW p.cls) : a % 16 / (sizeW p.cls).toNat < p.used.length := by
  rcases (show p.cls = 0 ∨ p.cls = 1 ∨ p.cls = 2 ∨ p.cls = 3 by omega) with e | e | e | e <;> rw [e] at hl ⊢ <;> simp [sizeW] at hl ⊢ <;> omega
theorem slot_int {c : Int} {a : Nat} (h0 : 0 < sizeW c) : (a : Int) % 16 / sizeW c = ((a % 16 / (sizeW c).toNat : Nat) : Int) := by
  obtain ⟨z, hz⟩ : ∃ z : Nat, sizeW c = z := ⟨(sizeW c).toNat, by omega⟩
  rw [hz, Int.toNat_natCast]; push_cast; rfl

theorem ret_two {a b c d : Int} (h1 : a = c) (h2 : b = d) : Ending.returned (.tuple #[.int .i64 a, .int .i64 b]) = .returned (.tuple #[.int .i64 c, .int .i64 d]) := by rw [h1, h2]
theorem headOf_self {ps : List Pg} {k : Nat} {p : Pg} (h : ps[k]? = some p) (h3 : p.kind ≠ 3) : headOf ps k = k := by
  cases k with
  | zero => rfl
  | succ k => unfold headOf; rw [h]; simp [h3]
theorem headOf_back {ps : List Pg} {k : Nat} {p : Pg} (h : ps[k + 1]? = some p) (h3 : p.kind = 3) : headOf ps (k + 1) = headOf ps k := by
  conv => lhs; unfold headOf
  rw [h]; simp [h3]

set_option maxRecDepth 100000 in
set_option maxHeartbeats 1000000 in
theorem l4Start_calls {ao : Option Addr} {n cc : Nat} {at_ : Int} {ps : List Pg} {S : Nat → Prop} {w : World} (hT : Lst KPage w S ao n ps) (hv : pagesFault ps = 0) :
    Calls Tryz.prog 156 #[.slice ao n cc, .int .i64 at_] w fun e w' => e = .returned (.tuple #[.int .i64 (blockStart ps at_).2, .int .i64 (blockStart ps at_).1]) ∧ w = w' := by
  have HL := Lib.hid hT.1
  have HV := Lib.hid hv
  have hn : n ≤ 40 := by have := (pagesFault_ok hv).1; have := hT.1; omega
  rcases hw : within 0 ((n : Int) * 16 - 1) [at_] with _ | _
  · have HR : Hid (blockStart ps at_ = (3, 0)) := by show _ = _; unfold blockStart; rw [held_no hv (by rw [HL.out]; exact hw)]
    have HW := Lib.hid hw
    clear hw hv
    go_enter Tryz.func156, Tryz.ntmps156
    go_wp2_with fail
    refine l1In_calls.mono ?_
    rw [HW.out]
    rintro e w2 ⟨rfl, rfl⟩
    go_wp2_with fail
    go_ret2
    exact ⟨ret_two (by rw [HR.out]) (by rw [HR.out]), rfl⟩
  have hw1 := within_range hw
  obtain ⟨a, ha⟩ : ∃ a : Nat, at_ = a := ⟨at_.toNat, by omega⟩
  subst ha
  have hal : a < n * 16 := by omega
  have HW := Lib.hid hw
  obtain ⟨i, hi⟩ : ∃ i, i = a / 16 := ⟨_, rfl⟩
  have hin : i < n := by omega
  obtain ⟨b, off, p, ad, l, c, rfl, d0, hp, e0, e1, e2, e3, hlc, hcm, hu⟩ := hT.pg_at hin
  have HP := Lib.hid hp
  have hpa : ps[a / 16]? = some p := by rw [← hi]; exact hp
  have hal' : a < ps.length * 16 := by rw [HL.out]; exact hal
  have hx1 : ((a : Int) / 16).toNat = i := by omega
  have hx2 : (a : Int) / 16 = (i : Int) := by omega
  have HI := Lib.hid hi
  rcases pageFault_kind (ok_page hv hp) with k0 | k1 | k2 | k3
  · have HR : Hid (blockStart ps a = (4, 0)) := by show _ = _; unfold blockStart; rw [held_free hv hal' hpa k0]
    rw [k0] at e0
    clear hw hv hw1 hp hpa hal' k0 hi
    go_enter Tryz.func156, Tryz.ntmps156
    go_wp2_with fail
    refine l1In_calls.mono ?_
    rw [HW.out]
    rintro e w2 ⟨rfl, rfl⟩
    go_wp2_with fail
    go_ret2
    exact ⟨ret_two (by rw [HR.out]) (by rw [HR.out]), rfl⟩
  · have hk := pageFault_ok (ok_page hv hp)
    obtain ⟨_, h0, h3, _, hl, _⟩ : p.kind = 1 ∧ 0 ≤ p.cls ∧ p.cls ≤ 3 ∧ p.run = 0 ∧ (p.used.length : Int) = 16 / sizeW p.cls ∧ anyB p.used = true := by
      rcases hk with h | h | h
      · exact h
      · omega
      · omega
    have hsz := sizeW_small p.cls
    have hsl := slot_small (a := a) h0 h3 hl
    have hsi := slot_int (c := p.cls) (a := a) (by omega)
    have hH := held_slot hv hal' hpa k1
    obtain ⟨s, hs⟩ : ∃ s, s = a % 16 / (sizeW p.cls).toNat := ⟨_, rfl⟩
    rw [← hs] at hsl hsi hH
    rw [← hi] at hH
    have hll : l = p.used.length := by have := hu.1; omega
    have hs16 : s ≤ 15 := by rw [hs]; have := Nat.div_le_self (a % 16) (sizeW p.cls).toNat; omega
    rw [← hll] at hsl
    obtain ⟨b2, o2, rfl, hb2, hcl⟩ := hu.bool_at hsl
    obtain ⟨u0, hgx⟩ : ∃ u0, p.used[s]? = some u0 := ⟨_, List.getElem?_eq_getElem (by omega)⟩
    rw [List.getD_eq_getElem?_getD, hgx] at hcl
    simp only [Option.getD_some] at hcl
    rw [k1] at e0
    have hsb : 0 ≤ (s : Int) * sizeW p.cls ∧ (s : Int) * sizeW p.cls ≤ 120 := by
      have := Int.mul_le_mul (show (s : Int) ≤ 15 by omega) hsz.2 (by omega) (by omega)
      exact ⟨Int.mul_nonneg (by omega) (by omega), by omega⟩
    have HSI := Lib.hid hsi
    have HH := Lib.hid hH
    have HGX := Lib.hid hgx
    have HLL := Lib.hid hll
    obtain ⟨hsb0, hsb1⟩ := hsb
    clear hk hl hsi hH hgx hll hs hw hv hw1 hp hpa hal' k1 hi hu
    rcases u0 with _ | _
    · have HR : Hid (blockStart ps a = (4, 0)) := by
        show _ = _; unfold blockStart; rw [HH.out, HGX.out]; rfl
      go_enter Tryz.func156, Tryz.ntmps156
      go_wp2_with fail
      refine l1In_calls.mono ?_
      rw [HW.out]
      rintro e w2 ⟨rfl, rfl⟩
      go_wp2_with fail
      refine (l3Size_calls h0 h3).mono ?_
      rintro e w2 ⟨rfl, rfl⟩
      have hne : (sizeW p.cls == 0) = false := by simp; omega
      have hx := HSI.out
      go_wp2_with fail
      go_ret2
      exact ⟨ret_two (by rw [HR.out]) (by rw [HR.out]), rfl⟩
    · have HR : Hid (blockStart ps a = (0, (i : Int) * 16 + s * sizeW p.cls)) := by
        show _ = _; unfold blockStart; rw [HH.out, HGX.out]; rfl
      go_enter Tryz.func156, Tryz.ntmps156
      go_wp2_with fail
      refine l1In_calls.mono ?_
      rw [HW.out]
      rintro e w2 ⟨rfl, rfl⟩
      go_wp2_with fail
      refine (l3Size_calls h0 h3).mono ?_
      rintro e w2 ⟨rfl, rfl⟩
      have hne : (sizeW p.cls == 0) = false := by simp; omega
      have hx := HSI.out
      go_wp2_with fail
      refine (l3Size_calls h0 h3).mono ?_
      rintro e w2 ⟨rfl, rfl⟩
      go_wp2_with fail
      go_ret2
      exact ⟨ret_two (by rw [HR.out]) (by rw [HR.out]), rfl⟩
  · obtain ⟨q, hq1, hq2, hq3⟩ := held_run hv hal' hpa (.inl k2)
    have HR : Hid (blockStart ps a = (0, (headOf ps i : Int) * 16)) := by show _ = _; unfold blockStart; rw [hq3, ← hi]; rfl
    have hhi := headOf_le ps i
    rw [k2] at e0
    clear hw hv hw1 hp hpa hal' k2 hi hq1 hq2 hq3 e1 e2 e3 hu
    go_enter Tryz.func156, Tryz.ntmps156
    go_wp2_with fail
    refine l1In_calls.mono ?_
    rw [HW.out]
    rintro e w2 ⟨rfl, rfl⟩
    go_wp2_with fail
    clear e0
    go_loop [6] (fun x => ∃ m : Nat, m ≤ i ∧ x = .int .i64 m ∧ Hid (headOf ps m = headOf ps i)) (fun x => (intOf x).toNat)
    case atStart => exact ⟨i, Nat.le_refl _, rfl, rfl⟩
    case round =>
      obtain ⟨m, hm, rfl, HM⟩ := hrel
      obtain ⟨b', off', p', ad', l', c', he, d0', hp', e0', _⟩ := hT.pg_at (j := m) (by omega)
      cases he
      by_cases m3 : p'.kind = 3
      · obtain ⟨g, q, hg, _⟩ := head_of_rest HV.out hp' m3
        obtain ⟨m', rfl⟩ : ∃ m', m = m' + 1 := ⟨m - 1, by omega⟩
        have HN : Hid (headOf ps m' = headOf ps i) := by show _ = _; rw [← HM.out, headOf_back hp' m3]
        rw [m3] at e0'
        clear hp' m3 hg
        go_wp2_with fail
        go_round
        case rel => exact ⟨m', by omega, by go_num, HN⟩
        case measure => simp [intOf]
      · have HN : Hid (headOf ps i = m) := by show _ = _; rw [← HM.out, headOf_self hp' m3]
        have hq : (p'.kind == 3) = false := by simpa using m3
        clear hp' m3
        go_wp2_with fail
        go_ret2
        exact ⟨ret_two (by rw [HR.out, HN.out]) (by rw [HR.out]), rfl⟩
  · obtain ⟨q, hq1, hq2, hq3⟩ := held_run hv hal' hpa (.inr k3)
    have HR : Hid (blockStart ps a = (0, (headOf ps i : Int) * 16)) := by show _ = _; unfold blockStart; rw [hq3, ← hi]; rfl
    have hhi := headOf_le ps i
    rw [k3] at e0
    clear hw hv hw1 hp hpa hal' k3 hi hq1 hq2 hq3 e1 e2 e3 hu
    go_enter Tryz.func156, Tryz.ntmps156
    go_wp2_with fail
    refine l1In_calls.mono ?_
    rw [HW.out]
    rintro e w2 ⟨rfl, rfl⟩
    go_wp2_with fail
    clear e0
    go_loop [6] (fun x => ∃ m : Nat, m ≤ i ∧ x = .int .i64 m ∧ Hid (headOf ps m = headOf ps i)) (fun x => (intOf x).toNat)
    case atStart => exact ⟨i, Nat.le_refl _, rfl, rfl⟩
    case round =>
      obtain ⟨m, hm, rfl, HM⟩ := hrel
      obtain ⟨b', off', p', ad', l', c', he, d0', hp', e0', _⟩ := hT.pg_at (j := m) (by omega)
      cases he
      by_cases m3 : p'.kind = 3
      · obtain ⟨g, q, hg, _⟩ := head_of_rest HV.out hp' m3
        obtain ⟨m', rfl⟩ : ∃ m', m = m' + 1 := ⟨m - 1, by omega⟩
        have HN : Hid (headOf ps m' = headOf ps i) := by show _ = _; rw [← HM.out, headOf_back hp' m3]
        rw [m3] at e0'
        clear hp' m3 hg
        go_wp2_with fail
        go_round
        case rel => exact ⟨m', by omega, by go_num, HN⟩
        case measure => simp [intOf]
      · have HN : Hid (headOf ps i = m) := by show _ = _; rw [← HM.out, headOf_self hp' m3]
        have hq : (p'.kind == 3) = false := by simpa using m3
        clear hp' m3
        go_wp2_with fail
        go_ret2
        exact ⟨ret_two (by rw [HR.out, HN.out]) (by rw [HR.out]), rfl⟩

/-- How many words a block has that begins in this page. -/
def sizeIn (p : Pg) : Int := if p.kind = 1 then sizeW p.cls else p.run * 16
set_option maxHeartbeats 400000 in
theorem l4Size_calls {ao : Option Addr} {n cc st : Nat} {ps : List Pg} {p : Pg} {S : Nat → Prop} {w : World} (hT : Lst KPage w S ao n ps) (hn : n ≤ 40) (hs : st < n * 16) (hp : ps[st / 16]? = some p) (hpf : pageFault p = 0) :
    Calls Tryz.prog 97 #[.slice ao n cc, .int .i64 st] w fun e w' => e = .returned (.int .i64 (sizeIn p)) ∧ w = w' := by
  obtain ⟨i, hi⟩ : ∃ i, i = st / 16 := ⟨_, rfl⟩
  have hin : i < n := by omega
  obtain ⟨b, off, p', ad, l, c, rfl, d0, hp', e0, e1, e2, e3, hlc, hcm, hu⟩ := hT.pg_at hin
  obtain rfl : p = p' := by rw [← hi, hp'] at hp; injection hp with hp; exact hp.symm
  have hx1 : ((st : Int) / 16).toNat = i := by omega
  have hk := pageFault_ok hpf
  clear hp hp' hi hu
  by_cases h1 : p.kind = 1
  · have HF := Lib.hid (show sizeIn p = sizeW p.cls from if_pos h1)
    have h03 : 0 ≤ p.cls ∧ p.cls ≤ 3 := by omega
    rw [h1] at e0
    clear h1 hk
    go_enter Tryz.func97, Tryz.ntmps97
    go_wp2_with fail
    refine (l3Size_calls h03.1 h03.2).mono ?_
    rintro e w2 ⟨rfl, rfl⟩
    go_wp2_with fail
    go_ret
    exact ⟨ret_int HF.out.symm, rfl⟩
  · have HF := Lib.hid (show sizeIn p = p.run * 16 from if_neg h1)
    have hr0 : 0 ≤ p.run := by omega
    have hr4 : p.run ≤ 4 := by omega
    have hq : (p.kind == 1) = false := by simpa using h1
    clear h1 hk
    go_enter Tryz.func97, Tryz.ntmps97
    go_wp2_with fail
    go_ret
    exact ⟨ret_int HF.out.symm, rfl⟩

theorem blockStart_fault {ps : List Pg} {a : Int} (h : pagesFault ps ≠ 0) : blockStart ps a = (pagesFault ps, 0) := by unfold blockStart heldAt; rw [if_neg h]
theorem blockSize_fault {ps : List Pg} {a : Int} (h : (blockStart ps a).1 ≠ 0) : blockSize ps a = ((blockStart ps a).1, (blockStart ps a).2) := by
  unfold blockSize blockStart at *
  split <;> simp_all
/-- Where no code is told, something is held. -/
theorem blockStart_held {ps : List Pg} {a : Int} (h : (blockStart ps a).1 = 0) : ∃ b, heldAt ps a = (0, some b) ∧ pagesFault ps = 0 ∧ (blockStart ps a).2 = b.start := by
  have hv : pagesFault ps = 0 := by
    rcases Int.lt_trichotomy (pagesFault ps) 0 with h1 | h1 | h1
    · rw [blockStart_fault (by omega)] at h; exact h
    · exact h1
    · rw [blockStart_fault (by omega)] at h; exact h
  unfold blockStart at *
  rcases hh : heldAt ps a with ⟨c, b⟩
  rw [hh] at h
  cases b with
  | none => have := held_code hv hh; simp at h; omega
  | some b => exact ⟨b, by rw [(held_info hv hh).1], hv, rfl⟩

set_option maxHeartbeats 400000 in
theorem sBlockStart_calls {ao : Option Addr} {n cc : Nat} {at_ : Int} {ps : List Pg} {S : Nat → Prop} {w : World} (hT : Lst KPage w S ao n ps) (hS : ShortP 17592186044416 ps) (hn : n ≤ 17592186044416) :
    Calls Tryz.prog 96 #[.slice ao n cc, .int .i64 at_] w (Pair w (blockStart ps at_)) := by
  by_cases hv : pagesFault ps = 0
  rotate_left
  · have HR := Lib.hid (blockStart_fault (a := at_) hv)
    have hq : (pagesFault ps != 0) = true := by simpa using hv
    clear hv
    go_enter Tryz.func96, Tryz.ntmps96
    go_wp2_with fail
    refine (sPagesFault_calls (hT.alloc _) hS hn).mono ?_
    rintro e w1 ⟨rfl, hb1⟩
    have hres := Row.new hb1
    have hb := below_past hb1
    go_wp2_with (refine wpList_store_row rfl 45 _ _ rfl (w.heap.size) _ rfl rfl _ _ hres (by kernel_rfl) (by rfl) (by simp [Value.oneCell']) ?_)
    refine bodyPost_ret (results_cell_row rfl _ _ (w.heap.size) _ _ _ _ rfl (setRow_heap _ _ _ _ _ _ hres) Tryz.underlying45 rfl (by kernel_rfl)) rfl ?_
    exact pair_done hb (Nat.le_refl _) _ HR.out
  have HV := Lib.hid hv
  clear hv
  go_enter Tryz.func96, Tryz.ntmps96
  go_wp2_with fail
  refine (sPagesFault_calls (hT.alloc _) hS hn).mono ?_
  rintro e w1 ⟨rfl, hb1⟩
  rw [HV.out]
  have hres := Row.new hb1
  have hb := below_past hb1
  go_wp2_with fail
  refine (l4Start_calls ((hT.alloc _).below hb1) HV.out).mono ?_
  rintro e w2 ⟨rfl, rfl⟩
  go_wp2_with (refine wpList_store_row rfl 45 _ _ rfl (w.heap.size) _ rfl rfl _ _ hres (by kernel_rfl) (by rfl) (by simp [Value.oneCell']) ?_)
  refine bodyPost_ret (results_cell_row rfl _ _ (w.heap.size) _ _ _ _ rfl (setRow_heap _ _ _ _ _ _ hres) Tryz.underlying45 rfl (by kernel_rfl)) rfl ?_
  exact pair_done hb (Nat.le_refl _) _ rfl

set_option maxHeartbeats 400000 in
theorem sBlockSize_calls {ao : Option Addr} {n cc : Nat} {at_ : Int} {ps : List Pg} {S : Nat → Prop} {w : World} (hT : Lst KPage w S ao n ps) (hS : ShortP 17592186044416 ps) (hn : n ≤ 17592186044416) :
    Calls Tryz.prog 26 #[.slice ao n cc, .int .i64 at_] w (Pair w (blockSize ps at_)) := by
  by_cases hv : (blockStart ps at_).1 = 0
  rotate_left
  · have HR := Lib.hid (blockSize_fault hv)
    have hq : ((blockStart ps at_).1 != 0) = true := by simpa using hv
    clear hv
    go_enter Tryz.func26, Tryz.ntmps26
    go_wp2_with fail
    refine (sBlockStart_calls (hT.alloc _) hS hn).mono ?_
    rintro e w1 ⟨rfl, hb1⟩
    have hres := Row.new hb1
    have hb := below_past hb1
    have hlt := hres.lt
    have hres2 := (heap_alloc_old w1 (.cells #[.int .i64 (blockStart ps at_).1, .int .i64 (blockStart ps at_).2] 45) hlt).trans hres
    go_wp2_with (refine wpList_store_row rfl 45 _ _ rfl (w.heap.size) _ rfl rfl _ _ hres2 (by kernel_rfl) (by rfl) (by simp [Value.oneCell']) ?_)
    refine bodyPost_ret (results_cell_row rfl _ _ (w.heap.size) _ _ _ _ rfl (setRow_heap _ _ _ _ _ _ hres2) Tryz.underlying45 rfl (by kernel_rfl)) rfl ?_
    exact pair_done (hb.alloc hb.size _) (Nat.le_refl _) _ HR.out
  obtain ⟨b, hh, hpf, hbs⟩ := blockStart_held hv
  have hlp := (pagesFault_ok hpf).1
  have hn40 : n ≤ 40 := by have := hT.1; omega
  obtain ⟨_, ha0, hal, hi⟩ := held_info hpf hh
  have hk : ∃ (st : Nat) (p : Pg), b.start = st ∧ st < n * 16 ∧ ps[st / 16]? = some p ∧ pageFault p = 0 ∧ sizeIn p = b.size := by
    rcases hi with ⟨i, k, s, p, rfl, hp, h1, h2, h0, h3, hu, hl, _⟩ | ⟨i, p, rfl, hp, h2, _⟩
    · have hil := (List.getElem?_eq_some_iff.1 hp).1
      have hsl := (List.getElem?_eq_some_iff.1 hu).1
      have hsz := sizeW_slots h0 h3
      have hs1 := sizeW_small k
      have hs16 : (s : Int) * sizeW k + sizeW k ≤ 16 := by
        have := Int.mul_le_mul_of_nonneg_right (show (s : Int) + 1 ≤ 16 / sizeW k by omega) (show 0 ≤ sizeW k by omega)
        rw [Int.add_mul, Int.one_mul, Int.mul_comm (16 / sizeW k)] at this; omega
      have hs0 : 0 ≤ (s : Int) * sizeW k := Int.mul_nonneg (by omega) (by omega)
      have hl' := hT.1
      refine ⟨(Blk.slot i k s).start.toNat, p, ?_, ?_, ?_, ok_page hpf hp, ?_⟩
      · simp only [Blk.start]; omega
      · simp only [Blk.start]; omega
      · rw [show (Blk.slot i k s).start.toNat / 16 = i by simp only [Blk.start]; omega]; exact hp
      · simp [sizeIn, h1, h2, Blk.size]
    · have hil := (List.getElem?_eq_some_iff.1 hp).1
      have hl' := hT.1
      refine ⟨i * 16, p, by simp [Blk.start], by omega, by rw [Nat.mul_div_cancel _ (by omega)]; exact hp, ok_page hpf hp, by simp [sizeIn, h2, Blk.size]⟩
  obtain ⟨st, p, hst, hs1, hp, hpf2, hsi⟩ := hk
  have HR : Hid (blockSize ps at_ = (0, sizeIn p)) := by show _ = _; unfold blockSize; rw [hh, hsi]
  have HE := Lib.hid (hbs.trans hst)
  have HV := Lib.hid hv
  clear hv hh hpf hbs hlp hi hst hsi ha0 hal
  go_enter Tryz.func26, Tryz.ntmps26
  go_wp2_with fail
  refine (sBlockStart_calls (hT.alloc _) hS hn).mono ?_
  rintro e w1 ⟨rfl, hb1⟩
  rw [HV.out, HE.out]
  have hres := Row.new hb1
  have hb := below_past hb1
  have hlt := hres.lt
  have hres2 := (heap_alloc_old w1 (.cells #[.int .i64 0, .int .i64 st] 45) hlt).trans hres
  go_wp2_with fail
  refine (l4Size_calls (((hT.alloc _).below hb1).alloc _) hn40 hs1 hp hpf2).mono ?_
  rintro e w2 ⟨rfl, rfl⟩
  go_wp2_with (refine wpList_store_row rfl 45 _ _ rfl (w.heap.size) _ rfl rfl _ _ hres2 (by kernel_rfl) (by rfl) (by simp [Value.oneCell']) ?_)
  refine bodyPost_ret (results_cell_row rfl _ _ (w.heap.size) _ _ _ _ rfl (setRow_heap _ _ _ _ _ _ hres2) Tryz.underlying45 rfl (by kernel_rfl)) rfl ?_
  exact pair_done (hb.alloc hb.size _) (Nat.le_refl _) _ HR.out
end Go.Proofs.YthpamclljdcjpaaGreatDoor
