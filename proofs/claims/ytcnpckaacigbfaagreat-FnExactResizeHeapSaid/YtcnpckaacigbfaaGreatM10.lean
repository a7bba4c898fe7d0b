/- Joined texts (Args4, Args5, Spec5e, Spec5f, App5, Spec5g, Src, Src2, Draw4): steps of the proofs of chapter 5's laws. -/
import Derived.Lib.SmallJoins
import Derived.Deep.Slices
import Derived.Deep.Fields
import Derived.ChangeSame
import Derived.OpenShut
import Derived.Deep.Strs
import Derived.Deep.RegionLaw
import Derived.IntWalk
import Derived.Deep.RegionHeld3
import Derived.Test.YtcnpckaacigbfaaGreatM1
import Derived.Test.YtcnpckaacigbfaaGreatM2
import Derived.Test.YtcnpckaacigbfaaGreatM4
import Derived.Test.YtcnpckaacigbfaaGreatM5
import Derived.Test.YtcnpckaacigbfaaGreatM7
import Derived.Test.YtcnpckaacigbfaaGreatM9
set_option linter.unusedVariables false
set_option linter.unusedSimpArgs false
/- Pages that came in, opened to what is known of them in memory. -/
namespace Go.Proofs.YtcnpckaacigbfaaGreat
open Go.Joins Go.ChangeShapes Go.WideShapes Go.RowKit Go.Deep
set_option linter.unusedVariables false

theorem maxLen_le : maxLen ≤ 9223372036854775807 := by decide
section
variable {H : Type} {enc : TypeId × Value → H} {P : Program} {w : World} {base : Nat} {spare : Nat → Bool} {held : Bool}
/-- A slice that came in reads as a list, where each of its elements reads. -/
theorem lst_of_trod {α : Type} {K : Lay α} {t e : TypeId} {fuel : Nat} {cs : List Value} {x : DataW H × List MemPlace} (ht : P.underlying t = some (.slice e)) (hC : P.cellsOf e = K.sz) (hz : 0 < K.sz)
    (hK : ∀ (fuel : Nat) (cs : List Value) (x : DataW H × List MemPlace), cs.length = K.sz → DataW.trod enc P w base spare held fuel e cs = some x → ∃ d, K.rd w (fun _ => True) cs d)
    (h : DataW.trod enc P w base spare held fuel t cs = some x) : ∃ a n c xs, cs = [.slice a n c] ∧ n ≤ c ∧ c ≤ maxLen ∧ Lst K w (fun _ => True) a n xs := by
  rcases open_slice ht h with h0 | ⟨a, len, cap, m, n, D, Pl, hcs, hb, hl, hm, hmm, hx, hi⟩
  · exact ⟨none, 0, 0, [], h0.1, Nat.le_refl _, Nat.zero_le _, Lst.nil⟩
  · have hel : ∀ i, i < len → ∃ cs' d, cs'.length = K.sz ∧ (∀ j, j < K.sz → w.cell? ((a.add (i * K.sz)).add j) = cs'[j]?) ∧ K.rd w (fun _ => True) cs' d := by
      intro i hi'
      have him : i < m := by rw [hmm]; split <;> omega
      obtain ⟨cs', hc, ht'⟩ := hi i him
      rw [hC] at hc
      obtain ⟨_, hcl, hat⟩ := World.cells?_some hc
      obtain ⟨d, hd⟩ := hK _ _ _ hcl ht'
      exact ⟨cs', d, hcl, fun j hj => hat j hj, hd⟩
    have hlist : ∀ k, k ≤ len → ∃ xs : List α, xs.length = k ∧ ∀ (i : Nat) (d : α), xs[i]? = some d → ∃ cs', cs'.length = K.sz ∧ (∀ j, j < K.sz → w.cell? ((a.add (i * K.sz)).add j) = cs'[j]?) ∧ K.rd w (fun _ => True) cs' d := by
      intro k
      induction k with
      | zero => exact fun _ => ⟨[], rfl, fun i d hd => by simp at hd⟩
      | succ k ih =>
        intro hk
        obtain ⟨xs, hxl, hxs⟩ := ih (by omega)
        obtain ⟨cs', d, h1, h2, h3⟩ := hel k (by omega)
        refine ⟨xs ++ [d], by simp [hxl], fun i d' hd => ?_⟩
        by_cases e : i < k
        · rw [List.getElem?_append_left (by omega)] at hd; exact hxs i d' hd
        · have hi' : i = k := by have := (List.getElem?_eq_some_iff.1 hd).1; simp at this; omega
          subst hi'
          rw [List.getElem?_append_right (by omega), hxl, Nat.sub_self] at hd
          simp at hd; subst hd
          exact ⟨cs', h1, h2, h3⟩
    obtain ⟨xs, hxl, hxs⟩ := hlist len (Nat.le_refl _)
    refine ⟨some a, len, cap, xs, hcs, hl, hm, hxl, fun h0 => ?_⟩
    obtain ⟨b, off, spot⟩ := a
    obtain ⟨cs0, d0, hl0, hc0, _⟩ := hel 0 h0
    have e0 : w.cell? (((⟨b, off, spot⟩ : Addr).add (0 * K.sz)).add 0) = some (cs0[0]'(by omega)) := by rw [hc0 0 hz]; exact List.getElem?_eq_getElem _
    have hspot : spot = none := by simpa [Addr.add] using World.cell?_spot e0
    subst hspot
    have hb' : b < w.heap.size := by
      have := World.block_lt_of_cell? w _ e0
      rwa [add_block, add_block] at this
    refine ⟨b, off, rfl, hb', trivial, fun j d hd => ?_⟩
    obtain ⟨cs', h1, h2, h3⟩ := hxs j d hd
    refine ⟨cs', h1, fun i hi' => ?_, h3⟩
    rw [← h2 i hi', Go.WideShapes.add_plain, Go.WideShapes.add_plain]
end

section
variable {H : Type} {enc : TypeId × Value → H} {P : Program} {w : World} {base : Nat} {spare : Nat → Bool} {held : Bool}
theorem four_fields {t : TypeId} {f0 f1 f2 f3 : Field} {fuel : Nat} {c0 c1 c2 c3 : Value} {x : DataW H × List MemPlace} (hs : P.underlying t = some (.struct #[f0, f1, f2, f3])) (hone : oneCellFields P #[f0, f1, f2, f3] = true)
    (h : DataW.trod enc P w base spare held fuel t [c0, c1, c2, c3] = some x) :
    ∃ (n : Nat) (y0 y1 y2 y3 : DataW H × List MemPlace), DataW.trod enc P w base spare held n f0.type [c0] = some y0 ∧ DataW.trod enc P w base spare held n f1.type [c1] = some y1 ∧ DataW.trod enc P w base spare held n f2.type [c2] = some y2 ∧ DataW.trod enc P w base spare held n f3.type [c3] = some y3 := by
  obtain ⟨y0, y1, y2, y3, n, _, _, h0, h1, h2, h3⟩ := trod_struct4 hs h
  obtain ⟨o0, k0⟩ := hone_of hone 0 f0 rfl
  obtain ⟨o1, k1⟩ := hone_of hone 1 f1 rfl
  obtain ⟨o2, k2⟩ := hone_of hone 2 f2 rfl
  obtain ⟨o3, k3⟩ := hone_of hone 3 f3 rfl
  exact ⟨n, y0, y1, y2, y3, by simpa [o0, k0] using h0, by simpa [o1, k1] using h1, by simpa [o2, k2] using h2, by simpa [o3, k3] using h3⟩
end

section
variable {H : Type} {enc : TypeId × Value → H} {w : World} {base : Nat} {spare : Nat → Bool} {held : Bool}
theorem bool_of_trod {fuel : Nat} {cs : List Value} {x : DataW H × List MemPlace} (h : DataW.trod enc Tryz.prog w base spare held fuel 4 cs = some x) : ∃ d, KBool.rd w (fun _ => True) cs d := by
  obtain ⟨b, rfl, _⟩ := DataW.trod_bool Tryz.underlying4 h
  exact ⟨b, rfl⟩
theorem page_of_trod {fuel : Nat} {cs : List Value} {x : DataW H × List MemPlace} (hl : cs.length = 4) (h : DataW.trod enc Tryz.prog w base spare held fuel 157 cs = some x) : ∃ d, KPage.rd w (fun _ => True) cs d := by
  match cs, hl with
  | [c0, c1, c2, c3], _ =>
    obtain ⟨n, y0, y1, y2, y3, t0, t1, t2, t3⟩ := four_fields Tryz.underlying157 (by kernel_rfl) h
    obtain ⟨k, h0, _⟩ := DataW.trod_int Tryz.underlying2 t0
    obtain ⟨c, h1, _⟩ := DataW.trod_int Tryz.underlying2 t1
    obtain ⟨r, h3, _⟩ := DataW.trod_int Tryz.underlying2 t3
    obtain ⟨a, m, cc, us, h2, hm, hc, hL⟩ := lst_of_trod (K := KBool) Tryz.underlying53 (by kernel_rfl) (by decide) (fun _ _ _ _ h => bool_of_trod h) t2
    simp at h0 h1 h2 h3
    subst h0 h1 h2 h3
    exact ⟨⟨k, c, us, r⟩, KPage_rd_mk (p := ⟨k, c, us, r⟩) hm hc hL⟩
set_option maxRecDepth 100000 in
/-- A list of pages that came in. -/
theorem open_pages {r : Reach} {b0 : Nat} {v : Value} {d : DataW H} {p : List MemPlace} (hv : Value.okWide Tryz.prog w r b0 56 v) (h : DataW.Trod enc Tryz.prog w base spare held 56 v d p) :
    ∃ a n c ps, v = .slice a n c ∧ Lst KPage w (fun _ => True) a n ps ∧ n ≤ 9223372036854775807 := by
  obtain ⟨a0, l0, c0, rfl⟩ := Go.WideShapes.okWide_slice Tryz.underlying56 hv
  obtain ⟨fuel, hf⟩ := h
  obtain ⟨a, n, c, ps, hcs, hn, hc, hL⟩ := lst_of_trod (K := KPage) Tryz.underlying56 (by kernel_rfl) (by rw [KPage_sz]; omega) (fun _ _ _ hl h => page_of_trod hl h) hf
  simp [Value.cells] at hcs
  obtain ⟨rfl, rfl, rfl⟩ := hcs
  exact ⟨a0, l0, c0, ps, rfl, hL, Nat.le_trans hn (Nat.le_trans hc maxLen_le)⟩
set_option maxRecDepth 100000 in
/-- A page that came in. -/
theorem open_page {r : Reach} {b0 : Nat} {v : Value} {d : DataW H} {p : List MemPlace} (hv : Value.okWide Tryz.prog w r b0 157 v) (h : DataW.Trod enc Tryz.prog w base spare held 157 v d p) :
    ∃ (q : Pg) (a : Option Addr) (n c : Nat), v = .agg #[.int .i64 q.kind, .int .i64 q.cls, .slice a n c, .int .i64 q.run] ∧ n ≤ 9223372036854775807 ∧ Lst KBool w (fun _ => True) a n q.used := by
  obtain ⟨cs, rfl, hsz⟩ := okWide_struct Tryz.underlying157 hv
  obtain ⟨fuel, hf⟩ := h
  obtain ⟨q, hq⟩ := page_of_trod (by have h4 : Tryz.prog.cellsOf 157 = 4 := (by kernel_rfl)
                                     rw [h4] at hsz; simpa [Value.cells] using hsz) hf
  obtain ⟨a, n, c, hcs, hn, hc, hL⟩ := KPage_rd hq
  obtain ⟨l⟩ := cs
  simp [Value.cells] at hcs
  subst hcs
  exact ⟨q, a, n, c, rfl, Nat.le_trans hn (Nat.le_trans hc maxLen_le), hL⟩
end
end Go.Proofs.YtcnpckaacigbfaaGreat

/- A heap that came in, opened to what is known of it in memory. -/
namespace Go.Proofs.YtcnpckaacigbfaaGreat
open Go.Joins Go.ChangeShapes Go.WideShapes Go.RowKit Go.Deep
set_option linter.unusedVariables false

section
variable {H : Type} {enc : TypeId × Value → H} {P : Program} {w : World} {base : Nat} {spare : Nat → Bool} {held : Bool}
theorem three_fields {t : TypeId} {f0 f1 f2 : Field} {fuel : Nat} {c0 c1 c2 : Value} {x : DataW H × List MemPlace} (hs : P.underlying t = some (.struct #[f0, f1, f2])) (hone : oneCellFields P #[f0, f1, f2] = true)
    (h : DataW.trod enc P w base spare held fuel t [c0, c1, c2] = some x) :
    ∃ (n : Nat) (y0 y1 y2 : DataW H × List MemPlace), DataW.trod enc P w base spare held n f0.type [c0] = some y0 ∧ DataW.trod enc P w base spare held n f1.type [c1] = some y1 ∧ DataW.trod enc P w base spare held n f2.type [c2] = some y2 := by
  obtain ⟨y0, y1, y2, n, _, _, h0, h1, h2⟩ := trod_struct3 hs h
  obtain ⟨o0, k0⟩ := hone_of hone 0 f0 rfl
  obtain ⟨o1, k1⟩ := hone_of hone 1 f1 rfl
  obtain ⟨o2, k2⟩ := hone_of hone 2 f2 rfl
  exact ⟨n, y0, y1, y2, by simpa [o0, k0] using h0, by simpa [o1, k1] using h1, by simpa [o2, k2] using h2⟩
end

section
variable {H : Type} {enc : TypeId × Value → H} {w : World} {base : Nat} {spare : Nat → Bool} {held : Bool}
theorem int_of_trod {fuel : Nat} {cs : List Value} {x : DataW H × List MemPlace} (h : DataW.trod enc Tryz.prog w base spare held fuel 2 cs = some x) : ∃ d, KInt.rd w (fun _ => True) cs d := by
  obtain ⟨b, rfl, _⟩ := DataW.trod_int Tryz.underlying2 h
  exact ⟨b, rfl⟩
theorem mag_of_trod {fuel : Nat} {cs : List Value} {x : DataW H × List MemPlace} (h : DataW.trod enc Tryz.prog w base spare held fuel 27 cs = some x) : ∃ d, KMag.rd w (fun _ => True) cs d := by
  obtain ⟨a, n, c, xs, rfl, hn, hc, hL⟩ := lst_of_trod (K := KInt) Tryz.underlying27 (by kernel_rfl) (by decide) (fun _ _ _ _ h => int_of_trod h) h
  exact ⟨xs, KMag_rd_mk hn hc hL⟩
set_option maxRecDepth 100000 in
/-- A heap that came in. -/
theorem open_heap {r : Reach} {b0 : Nat} {v : Value} {d : DataW H} {p : List MemPlace} (hv : Value.okWide Tryz.prog w r b0 58 v) (h : DataW.Trod enc Tryz.prog w base spare held 58 v d p) :
    ∃ (q : Hp) (pa : Option Addr) (pn pc : Nat) (wa : Option Addr) (wn wk : Nat) (ma : Option Addr) (mn mc : Nat), v = .agg #[.slice pa pn pc, .slice wa wn wk, .slice ma mn mc] ∧ HpR w (fun _ => True) pa pn pc wa wn wk ma mn mc q := by
  obtain ⟨cs, rfl, hsz⟩ := okWide_struct Tryz.underlying58 hv
  have h3 : Tryz.prog.cellsOf 58 = 3 := (by kernel_rfl)
  rw [h3] at hsz
  obtain ⟨fuel, hf⟩ := h
  obtain ⟨l⟩ := cs
  match l, hsz with
  | [c0, c1, c2], _ =>
    obtain ⟨n, y0, y1, y2, t0, t1, t2⟩ := three_fields Tryz.underlying58 (by kernel_rfl) (by simpa [Value.cells] using hf)
    obtain ⟨pa, pn, pc, ps, e0, hp1, hp2, hL0⟩ := lst_of_trod (K := KPage) Tryz.underlying56 (by kernel_rfl) (by rw [KPage_sz]; omega) (fun _ _ _ hl h => page_of_trod hl h) t0
    obtain ⟨wa, wn, wk, ws, e1, hw1, hw2, hL1⟩ := lst_of_trod (K := KInt) Tryz.underlying27 (by kernel_rfl) (by decide) (fun _ _ _ _ h => int_of_trod h) t1
    obtain ⟨ma, mn, mc, ms, e2, hm1, hm2, hL2⟩ := lst_of_trod (K := KMag) Tryz.underlying28 (by kernel_rfl) (by decide) (fun _ _ _ _ h => mag_of_trod h) t2
    simp at e0 e1 e2
    subst e0 e1 e2
    exact ⟨⟨ps, ws, ms⟩, pa, pn, pc, wa, wn, wk, ma, mn, mc, rfl, hL0, hL1, hL2, hp1, hp2, hw1, hw2, hm1, hm2⟩
end
end Go.Proofs.YtcnpckaacigbfaaGreat

/- Chapter 5 of the model: heaps compared. -/
namespace Go.Proofs.YtcnpckaacigbfaaGreat
open Go.RowKit

theorem drewN_drewN (w : World) (a b : Nat) : ∃ c, (w.drewN a).drewN b = w.drewN c := by
  obtain ⟨k, hk⟩ : ∃ k, k = b := ⟨_, rfl⟩
  exact ⟨b + a, by simp [World.drewN, Nat.add_comm, Nat.add_left_comm, Nat.add_assoc]⟩

set_option maxHeartbeats 2000000 in
theorem l1Same_calls {a b : Option Addr} {n m c d : Nat} {xs ys : List Int} {w : World} (ha : Ints w a n xs) (hb : Ints w b m ys) (hn : n ≤ 17592186044416) (hm : m ≤ 17592186044416) :
    Calls Tryz.prog 75 #[.slice a n c, .slice b m d] w fun e w' => e = .returned (.bool (decide (xs = ys))) ∧ ∃ j, w' = w.drewN j := by
  have HL := Lib.hid ha.1
  have HL2 := Lib.hid hb.1
  by_cases hnm : n = m
  rotate_left
  · have HF : Hid (decide (xs = ys) = false) := by show _ = _; rw [decide_eq_false_iff_not]; rintro rfl; exact hnm (HL.out.symm.trans HL2.out)
    have hq : ((n : Int) != (m : Int)) = true := by simp; omega
    go_enter Tryz.func75, Tryz.ntmps75
    go_wp2_with fail
    go_ret
    exact ⟨ret_bool HF.out.symm, 0, rfl⟩
  subst hnm
  have hq : ((n : Int) != (n : Int)) = false := by simp
  go_enter Tryz.func75, Tryz.ntmps75
  go_wp2_with fail
  clear hq
  go_loopw [5] (fun i wr => ∃ k : Nat, k ≤ n ∧ i = .int .i64 k ∧ Hid (SameTo xs ys k) ∧ Hid (∃ j, wr = w.drewN j)) (fun i _ => n - (intOf i).toNat)
  case atStart => exact ⟨0, Nat.zero_le _, rfl, fun j hj => by omega, 0, rfl⟩
  case round =>
    obtain ⟨k, hk, rfl, HK, HJ⟩ := hrel
    have hstep : Hid (∀ q, ∃ j, wr.drewN q = w.drewN j) := fun q => by
      obtain ⟨j, hj⟩ := HJ.out
      rw [hj]; exact drewN_drewN w j q
    have hia : Ints wr a n xs := by obtain ⟨j, hj⟩ := HJ.out; rw [hj]; exact ha.drewN j
    have hib : Ints wr b n ys := by obtain ⟨j, hj⟩ := HJ.out; rw [hj]; exact hb.drewN j
    by_cases hlt : k < n
    · obtain ⟨b0, o0, rfl, d0, e0⟩ := hia.at_ hlt
      obtain ⟨b1, o1, rfl, d1, e1⟩ := hib.at_ hlt
      have hx : xs[k]? = some (xs.getD k 0) := by rw [List.getD_eq_getElem?_getD, List.getElem?_eq_getElem (by rw [HL.out]; exact hlt)]; rfl
      have hy : ys[k]? = some (ys.getD k 0) := by rw [List.getD_eq_getElem?_getD, List.getElem?_eq_getElem (by rw [HL2.out]; exact hlt)]; rfl
      have HX := Lib.hid (And.intro hx hy)
      generalize xs.getD k 0 = x at e0 HX
      generalize ys.getD k 0 = y at e1 HX
      clear hx hy
      by_cases he : x = y
      · have HN := Lib.hid (HK.out.succ (HX.out.1.trans (by rw [he]; exact HX.out.2.symm)))
        have hq : (x != y) = false := by simp [he]
        clear he
        go_wp2_with (go_quiet (fail))
        go_roundw
        case rel => exact ⟨k + 1, by omega, by go_num, HN, hstep.out _⟩
        case measure => simp [intOf]; omega
      · have HF : Hid (decide (xs = ys) = false) := by show _ = _; rw [decide_eq_false_iff_not]; exact ne_at HX.out.1 HX.out.2 he
        have hq : (x != y) = true := by simpa using he
        clear he
        go_wp2_with (go_quiet (fail))
        go_ret
        exact ⟨ret_bool HF.out.symm, hstep.out _⟩
    · have HF : Hid (decide (xs = ys) = true) := by show _ = _; rw [decide_eq_true_iff]; exact HK.out.all (by rw [HL.out]; omega) (by rw [HL2.out]; omega)
      go_wp2_with fail
      go_ret
      exact ⟨ret_bool HF.out.symm, HJ.out⟩

set_option maxRecDepth 100000 in
set_option maxHeartbeats 4000000 in
theorem sSameHeaps_calls {pa wa ma pa' wa' ma' : Option Addr} {pn pc wn wk mn mc pn' pc' wn' wk' mn' mc' : Nat} {g h : Hp} {S S' : Nat → Prop} {w : World} (hg : HpK w S pa pn pc wa wn wk ma mn mc g) (hh : HpK w S' pa' pn' pc' wa' wn' wk' ma' mn' mc' h) :
    Calls Tryz.prog 20 #[.agg #[.slice pa pn pc, .slice wa wn wk, .slice ma mn mc], .agg #[.slice pa' pn' pc', .slice wa' wn' wk', .slice ma' mn' mc']] w fun e w' => e = .returned (.bool (decide (g = h))) ∧ Below w.heap.size w w' := by
  have HG := Lib.hid hg
  have HH := Lib.hid hh
  obtain ⟨n1, n2, n3, _, _⟩ := hg.small
  obtain ⟨m1, m2, m3, _, _⟩ := hh.small
  have HLm := Lib.hid (And.intro hg.r.mg.1 hh.r.mg.1)
  clear hg hh
  have hB0 : Below w.heap.size w ((w.alloc (.cells #[.slice pa pn pc, .slice wa wn wk, .slice ma mn mc] 30)).alloc (.cells #[.slice pa' pn' pc', .slice wa' wn' wk', .slice ma' mn' mc'] 30)) := ((Below.refl _ _).alloc (Nat.le_refl _) _).alloc (by simp) _
  have HB0 := Lib.hid hB0
  clear hB0
  go_enter Tryz.func20, Tryz.ntmps20
  go_wp2_with fail
  refine (sSamePages_calls (HG.out.below HB0.out).r.pg (HH.out.below HB0.out).r.pg HG.out.short HH.out.short (by omega) (by omega)).mono ?_
  rintro e w1 ⟨rfl, hb1⟩
  obtain ⟨R0, R1, B1, _⟩ := two_new hb1
  have R0 : Row w1 w.heap.size 30 #[.slice pa pn pc, .slice wa wn wk, .slice ma mn mc] := R0
  have R1 : Row w1 (w.heap.size + 1) 30 #[.slice pa' pn' pc', .slice wa' wn' wk', .slice ma' mn' mc'] := R1
  have HB1 := Lib.hid B1
  clear hb1 B1
  rcases hp : decide (g.pages = h.pages) with _ | _
  · have HF : Hid (decide (g = h) = false) := by show _ = _; rw [decide_eq_false_iff_not]; rintro rfl; simp at hp
    clear hp
    go_wp2_with fail
    go_ret
    exact ⟨ret_bool HF.out.symm, HB1.out⟩
  have HP := Lib.hid hp
  clear hp
  have a1 := R0.cell 1
  have b1 := R1.cell 1
  have al := R0.lt
  have bl := R1.lt
  simp at a1 b1
  go_wp2_with fail
  refine (l1Same_calls ((HG.out.below HB1.out).r.wd.ints) ((HH.out.below HB1.out).r.wd.ints) (by omega) (by omega)).mono ?_
  rintro e w2 ⟨rfl, j2, hw2⟩
  have hb2 : Below w1.heap.size w1 w2 := by rw [hw2]; exact below_drewN (Below.refl _ _) _
  have R2 := R0.below hb2
  have R3 := R1.below hb2
  have HB2 := Lib.hid (HB1.out.trans (hb2.mono HB1.out.size))
  clear hb2 R0 R1 a1 b1 al bl hw2
  rcases hw : decide (g.words = h.words) with _ | _
  · have HF : Hid (decide (g = h) = false) := by show _ = _; rw [decide_eq_false_iff_not]; rintro rfl; simp at hw
    clear hw
    go_wp2_with fail
    go_ret
    exact ⟨ret_bool HF.out.symm, HB2.out⟩
  have HW := Lib.hid hw
  clear hw
  have a1 := R2.cell 2
  have b1 := R3.cell 2
  have al := R2.lt
  have bl := R3.lt
  simp at a1 b1
  by_cases hnm : mn = mn'
  rotate_left
  · have HF : Hid (decide (g = h) = false) := by show _ = _; rw [decide_eq_false_iff_not]; rintro rfl; exact hnm (HLm.out.1.symm.trans HLm.out.2)
    have hq : ((mn : Int) != (mn' : Int)) = true := by simp; omega
    go_wp2_with fail
    go_ret
    exact ⟨ret_bool HF.out.symm, HB2.out⟩
  subst hnm
  have hq : ((mn : Int) != (mn : Int)) = false := by simp
  go_wp2_with fail
  have HR := Lib.hid (And.intro R2 R3)
  clear hq R2 R3 a1 b1 al bl
  go_loopw [5] (fun i wr => ∃ k : Nat, k ≤ mn ∧ i = .int .i64 k ∧ Hid (SameTo g.mags h.mags k) ∧ Below w2.heap.size w2 wr) (fun i _ => mn - (intOf i).toNat)
  case atStart => exact ⟨0, Nat.zero_le _, rfl, fun j hj => by omega, Below.refl _ _⟩
  case round =>
    obtain ⟨k, hk, rfl, HK, hbw⟩ := hrel
    have HB3 := Lib.hid (HB2.out.trans (hbw.mono HB2.out.size))
    have R4 := HR.out.1.below hbw
    have R5 := HR.out.2.below hbw
    have a1 := R4.cell 2
    have b1 := R5.cell 2
    have al := R4.lt
    have bl := R5.lt
    simp at a1 b1
    clear R4 R5
    by_cases hlt : k < mn
    · obtain ⟨b0, o0, x, a0, l0, c0, rfl, d0, hp, e0, hlc0, hcm0, hu0⟩ := ((HG.out.below HB3.out).r.mg).mag_at hlt
      obtain ⟨b7, o7, y, a7, l7, c7, rfl, d7, hp', e7, hlc7, hcm7, hu7⟩ := ((HH.out.below HB3.out).r.mg).mag_at hlt
      have HX := Lib.hid (And.intro hp hp')
      have hs0 : l0 ≤ 17592186044416 := by have := HG.out.s.k.at_ hp; have := hu0.1; omega
      have hs7 : l7 ≤ 17592186044416 := by have := HH.out.s.k.at_ hp'; have := hu7.1; omega
      have HST : Hid (∀ n0 : Nat, Calls Tryz.prog 75 #[.slice a0 l0 c0, .slice a7 l7 c7] (wr.drewN n0) fun e w' => e = .returned (.bool (decide (x = y))) ∧ ∃ j, w' = wr.drewN j) := fun n0 =>
        (l1Same_calls (hu0.ints.drewN n0) (hu7.ints.drewN n0) hs0 hs7).mono (by
          rintro e w' ⟨rfl, j, rfl⟩
          exact ⟨rfl, drewN_drewN _ _ _⟩)
      clear hp hp' hu0 hu7 hcm0 hcm7
      rcases he : decide (x = y) with _ | _
      · have HF : Hid (decide (g = h) = false) := by
          show _ = _; rw [decide_eq_false_iff_not]; rintro rfl
          exact ne_at HX.out.1 HX.out.2 (by simpa using he) rfl
        rw [he] at HST
        clear he
        go_wp2_with (go_quiet ((go_at_call 75; exact HST.out _)))
        go_ret
        exact ⟨ret_bool HF.out.symm, below_drewN HB3.out _⟩
      · have HN := Lib.hid (HK.out.succ (HX.out.1.trans (by rw [show x = y by simpa using he]; exact HX.out.2.symm)))
        rw [he] at HST
        clear he
        go_wp2_with (go_quiet ((go_at_call 75; exact HST.out _)))
        go_roundw
        case rel => exact ⟨k + 1, by omega, by go_num, HN, below_drewN hbw _⟩
        case measure => simp [intOf]; omega
    · have HF : Hid (decide (g = h) = true) := by
        have h1 : g.pages = h.pages := by have := HP.out; simpa using this
        have h2 : g.words = h.words := by have := HW.out; simpa using this
        show _ = _; rw [decide_eq_true_iff]
        exact Hp.ext_ h1 h2 (HK.out.all (by rw [HLm.out.1]; omega) (by rw [HLm.out.2]; omega))
      go_wp2_with fail
      go_ret
      exact ⟨ret_bool HF.out.symm, HB3.out⟩
end Go.Proofs.YtcnpckaacigbfaaGreat

/- Chapter 5 of the model: new heaps. -/
namespace Go.Proofs.YtcnpckaacigbfaaGreat
open Go.RowKit

section
variable {w : World} {o b c : Obj} {t : TypeId} {cs : Array Value}
theorem fourB : Below w.heap.size w ((((w.alloc o).alloc (.cells cs t)).alloc b).alloc c).drew := (((((Below.refl _ _).alloc (Nat.le_refl _) _).alloc (by simp) _).alloc (by simp <;> omega) _).alloc (by simp <;> omega) _).drew
theorem four0 {a : Obj} : Row ((((w.alloc (.cells cs t)).alloc a).alloc b).alloc c).drew w.heap.size t cs := by
  refine Row.drew ?_
  unfold Row
  rw [heap_alloc_old _ _ (by simp <;> omega), heap_alloc_old _ _ (by simp <;> omega), heap_alloc_old _ _ (by simp)]
  exact heap_alloc_new _ _
theorem four1 : Row ((((w.alloc o).alloc (.cells cs t)).alloc b).alloc c).drew (w.heap.size + 1) t cs := by
  refine Row.drew ?_
  unfold Row
  rw [heap_alloc_old _ _ (by simp <;> omega), heap_alloc_old _ _ (by simp)]
  have := heap_alloc_new (w.alloc o) (.cells cs t)
  simpa using this
theorem four2 : Row ((((w.alloc o).alloc b).alloc (.cells cs t)).alloc c).drew (w.heap.size + 1 + 1) t cs := by
  refine Row.drew ?_
  unfold Row
  rw [heap_alloc_old _ _ (by simp)]
  have := heap_alloc_new ((w.alloc o).alloc b) (.cells cs t)
  simpa using this
theorem four3 : Row ((((w.alloc o).alloc b).alloc c).alloc (.cells cs t)).drew (w.heap.size + 1 + 1 + 1) t cs := by
  refine Row.drew ?_
  unfold Row
  have := heap_alloc_new (((w.alloc o).alloc b).alloc c) (.cells cs t)
  simpa using this
end
/-- Three slices, newly made, are a new heap. -/
theorem made_heap {w W : World} {p c q r x y z : Nat} {CP CW CM : Array Value} {u1 : Value} {u2 : Value} {u3 : Value} (HCP : ZeroRow (Value.agg #[.int .i64 0, .int .i64 0, .slice none 0 0, .int .i64 0]).cells.toList p CP) (HCW : ZeroRow (Value.int .i64 0).cells.toList q CW) (HCM : ZeroRow (Value.slice none 0 0).cells.toList r CM)
    (hq : q = p * 16) (hr : r = 4 * c) (hp : p ≤ 40) (hc : c ≤ 2) (hx : Row W x 55 CP) (hy : Row W y 2 CW) (hz : Row W z 27 CM) (hB : Below w.heap.size w W)
    (h1 : x ≠ y) (h2 : x ≠ z) (h3 : y ≠ z) (g1 : w.heap.size ≤ x) (g2 : w.heap.size ≤ y) (g3 : w.heap.size ≤ z) (e1 : u1 = .slice (some ⟨x, 0, none⟩) p p) (e2 : u2 = .slice (some ⟨y, 0, none⟩) q q) (e3 : u3 = .slice (some ⟨z, 0, none⟩) r r) :
    MakesHeap w (newHp p c) (.returned (.agg #[u1, u2, u3])) W := by
  subst hq hr e1 e2 e3
  exact ⟨_, _, _, _, _, _, rfl, HpO.mk3 (A := fun k => k = x) (B := fun k => k = y) (C := fun k => k = z) (Own.of_zero hx HCP rfl (KPage_own_mk (p := Pg.free) Own.nil) (by unfold maxLen; omega)) (Own.of_zero hy HCW rfl rfl (by unfold maxLen; omega)) (Own.of_zero (K := KMag) hz HCM rfl (KMag_own_mk Own.nil) (by unfold maxLen; omega))
    (fun k e => by omega) (fun k e => by omega) (fun k e => by omega) (fun k e f => h1 (e.symm.trans f)) (fun k e f => h2 (e.symm.trans f)) (fun k e f => h3 (e.symm.trans f)), hB⟩

set_option maxRecDepth 100000 in
set_option maxHeartbeats 2000000 in
theorem l5New_calls {p c : Nat} {w : World} (hp : p ≤ 40) (hc : c ≤ 2) :
    Calls Tryz.prog 54 #[.int .i64 p, .int .i64 c] w (MakesHeap w (newHp p c)) := by
  obtain ⟨ip, hip, hp0, hp1, hp2⟩ := info_parts infoPg
  obtain ⟨iw, hiw, hw0, hw1, hw2⟩ := info_parts info64
  obtain ⟨im, him, hm0, hm1, hm2⟩ := info_parts infoMg
  obtain ⟨q, hq⟩ : ∃ q, q = p * 16 := ⟨_, rfl⟩
  obtain ⟨r, hr⟩ : ∃ r, r = 4 * c := ⟨_, rfl⟩
  obtain ⟨CP, hCP, hmk1⟩ := make_eq (P := Tryz.prog) Tryz.underlying26 hip hp0 hp1 rfl p (by rw [hp2]; omega) (by omega)
  obtain ⟨CW, hCW, hmk2⟩ := make_eq (P := Tryz.prog) Tryz.underlying27 hiw hw0 hw1 rfl q (by rw [hw2]; omega) (by omega)
  obtain ⟨CM, hCM, hmk3⟩ := make_eq (P := Tryz.prog) Tryz.underlying28 him hm0 hm1 rfl r (by rw [hm2]; omega) (by omega)
  have hq2 : (p : Int) * 16 = (q : Int) := by omega
  have hr2 : 4 * (c : Int) = (r : Int) := by omega
  have HCP := Lib.hid hCP
  have HCW := Lib.hid hCW
  have HCM := Lib.hid hCM
  have HQ := Lib.hid hq
  have HRr := Lib.hid hr
  clear hq hr hCP hCW hCM
  go_enter Tryz.func54, Tryz.ntmps54
  go_wp2_with fail
  go_region
  all_goals (
    go_wp2_with fail
    refine bodyPost_ret (results_cell_row rfl _ _ (w.heap.size) _ _ _ _ rfl four0 Tryz.underlying30 rfl (by kernel_rfl)) rfl ?_
    exact made_heap HCP.out HCW.out HCM.out HQ.out HRr.out hp hc (by first | exact four1 | exact four2 | exact four3) (by first | exact four1 | exact four2 | exact four3) (by first | exact four1 | exact four2 | exact four3) fourB (by omega) (by omega) (by omega) (by omega) (by omega) (by omega) rfl rfl rfl)

set_option maxRecDepth 100000 in
set_option maxHeartbeats 2000000 in
theorem sNewHeap_calls {p c : Int} {w : World} :
    Calls Tryz.prog 15 #[.int .i64 p, .int .i64 c] w (RetsHeap w (newHeap p c)) := by
  have hres := heap_alloc_new w (.cells #[.int .i64 0, .slice none 0 0, .slice none 0 0, .slice none 0 0, .int .i64 0, .int .i64 0] 34)
  have hb : Below w.heap.size w (w.alloc (.cells #[.int .i64 0, .slice none 0 0, .slice none 0 0, .slice none 0 0, .int .i64 0, .int .i64 0] 34)) := (Below.refl _ _).alloc (Nat.le_refl _) _
  rcases h1 : within 0 40 [p] with _ | _
  · have HF : Hid (newHeap p c = (3, Hp.zero)) := by show _ = _; unfold newHeap; rw [if_neg (by rw [h1]; simp)]
    go_enter Tryz.func15, Tryz.ntmps15
    go_wp2_with fail
    refine l1In_calls.mono ?_
    rw [h1]
    rintro e w1 ⟨rfl, rfl⟩
    go_wp2_with (refine wpList_store_row rfl 34 _ _ rfl (w.heap.size) _ rfl rfl _ _ hres (by kernel_rfl) (by rfl) (by simp [Value.oneCell']) ?_)
    refine bodyPost_ret (results_cell_row rfl _ _ (w.heap.size) _ _ _ _ rfl (setRow_heap _ _ _ _ _ _ hres) Tryz.underlying34 rfl (by kernel_rfl)) rfl ?_
    exact heap_done hb (Nat.le_refl _) HpO.zero _ HF.out
  rcases h2 : within 1 2 [c] with _ | _
  · have HF : Hid (newHeap p c = (3, Hp.zero)) := by show _ = _; unfold newHeap; rw [if_neg (by rw [h2]; simp)]
    go_enter Tryz.func15, Tryz.ntmps15
    go_wp2_with fail
    refine l1In_calls.mono ?_
    rw [h1]
    rintro e w1 ⟨rfl, rfl⟩
    go_wp2_with fail
    refine l1In_calls.mono ?_
    rw [h2]
    rintro e w2 ⟨rfl, rfl⟩
    go_wp2_with (refine wpList_store_row rfl 34 _ _ rfl (w.heap.size) _ rfl rfl _ _ hres (by kernel_rfl) (by rfl) (by simp [Value.oneCell']) ?_)
    refine bodyPost_ret (results_cell_row rfl _ _ (w.heap.size) _ _ _ _ rfl (setRow_heap _ _ _ _ _ _ hres) Tryz.underlying34 rfl (by kernel_rfl)) rfl ?_
    exact heap_done hb (Nat.le_refl _) HpO.zero _ HF.out
  obtain ⟨m, rfl⟩ : ∃ m : Nat, p = m := ⟨p.toNat, by have := within_range h1; omega⟩
  obtain ⟨d, rfl⟩ : ∃ d : Nat, c = d := ⟨c.toNat, by have := within_range h2; omega⟩
  have hm40 : m ≤ 40 := by have := within_range h1; omega
  have hd2 : d ≤ 2 := by have := within_range h2; omega
  have HF : Hid (newHeap (m : Int) (d : Int) = (0, newHp m d)) := by show _ = _; unfold newHeap; rw [if_pos ⟨h1, h2⟩]; rfl
  go_enter Tryz.func15, Tryz.ntmps15
  go_wp2_with fail
  refine l1In_calls.mono ?_
  rw [h1]
  rintro e w1 ⟨rfl, rfl⟩
  go_wp2_with fail
  refine l1In_calls.mono ?_
  rw [h2]
  rintro e w2 ⟨rfl, rfl⟩
  go_wp2_with fail
  refine (l5New_calls hm40 hd2).mono ?_
  rintro e w3 ⟨vp, np, vw, nw, vm, nm, rfl, ho3, hb3⟩
  have hres3 := Row.new hb3
  have hb4 := hb.trans (hb3.mono (by simp))
  obtain ⟨pa, pc, wa, wc, ma, mc, rfl, rfl, rfl, _⟩ := ho3.shape
  have HO3 := Lib.hid (ho3.mono (S' := fun k => w.heap.size < k) (fun k hk _ => by simp at hk; omega))
  clear ho3 hb3 hres hb
  go_wp2_with (refine wpList_store_row rfl 34 _ _ rfl (w.heap.size) _ rfl rfl _ _ hres3 (by kernel_rfl) (by rfl) (by simp [Value.oneCell']) ?_)
  refine bodyPost_ret (results_cell_row rfl _ _ (w.heap.size) _ _ _ _ rfl (setRow_heap _ _ _ _ _ _ hres3) Tryz.underlying34 rfl (by kernel_rfl)) rfl ?_
  exact heap_done hb4 (Nat.le_refl _) HO3.out _ HF.out
end Go.Proofs.YtcnpckaacigbfaaGreat

/- append(out, x), one element, at a step of a region that draws its order. -/
namespace Go.Proofs.YtcnpckaacigbfaaGreat
open Go.RowKit

section
variable {P : Program} {α : Type} {K : Lay α} {w : World} {S : Nat → Prop} {ops : Array Oper} {o : Oper} {a : Act} {Q : Exit → Act → World → Prop} {K' : Act → World → Prop} {E : Prop}
theorem step_append_elem (hgd : o.guard = none) (s x : Operand) (t : TypeId) (ho : o.op = .call { callee := .builtin .append, args := #[s, x], argTypes := #[t, t] })
    (e : TypeId) (i : TypeInfo) (z : Value) (bytes : Nat) (ht : P.underlying t = some (.slice e)) (hi : P.info? e = some i) (hz : i.zero = some z)
    (hsize : i.size = K.sz) (hby : i.bytes = bytes) (hzs : z.cells.size = K.sz) (hsz : 0 < K.sz) (hone : OneC K)
    {v : Value} {n b c : Nat} {xs : List α} {y : α} {G : Nat → Prop} {cs : List Value} (hs : a.eval s = v) (hown : Own K e w S v n xs) (hx : a.eval x = .slice (some ⟨b, 0, none⟩) 1 c)
    (hcs : ∀ j u, cs[j]? = some u → w.cell? ⟨b, j, none⟩ = some u) (hy : K.own w G cs y) (hG : ∀ k, G k → k < w.heap.size → ¬ S k)
    (h63 : n + 1 ≤ maxLen) (hbytes : (n + 1) * bytes ≤ 140737488355328)
    (h : ∀ v' w', Own K e w' (fun k => S k ∨ G k ∨ w.heap.size ≤ k) v' (n + 1) (xs ++ [y]) → Turn S w w' → K' (a.put o.dst v') w') :
    if Region.wanted o (yielded ops a.tmps) = true then Oper.wp P o a w K' Q else E := by
  have hw : Region.wanted o (yielded ops a.tmps) = true := by simp [Region.wanted, hgd]
  rw [if_pos hw]
  obtain ⟨cells, hrow, hS, F, hF, hD, hc⟩ := hown.row
  have hcl : cs.length = K.sz := K.rd_len (K.own_rd hy)
  obtain ⟨v', w', h1, h2, h3, _, h5⟩ := run_append_own_at (P := P) w 0 t o.type e i z K.sz bytes ht hi hz hsize hby hzs hsz v n cells hrow ⟨b, 0, none⟩ 1 c cs (by omega) (fun j u hu => by rw [add_plain', Nat.zero_add]; exact hcs j u hu) (hone _ _ _ _ (K.own_rd hy)) h63 hbytes (Nat.zero_le _)
  unfold Oper.wp execOp
  simp only [ho, resolve, invoke, builtin, Sem.run_bind, Sem.run_pure, Result.andThen_ok, List.map_toArray, List.map_cons, List.map_nil, hs, hx, h1]
  refine h v' w' ?_ ((Turn.of_grown h3).mono (fun k hk _ => hS k hk))
  refine Own.snoc hown.1 hS hF hD hc hrow.1 hcl hy hG h2 h3 (fun g hg => ?_)
  rcases h5 with h6 | h6
  · exact .inl (by rw [← h6]; exact hg)
  · rw [hg] at h6; injection h6 with h6; exact .inr (by omega)
end
end Go.Proofs.YtcnpckaacigbfaaGreat

/- Chapter 5 of the model: a heap copied. -/
namespace Go.Proofs.YtcnpckaacigbfaaGreat
open Go.RowKit

/-- A heap lies in three cells at a place; its slices own their memory elsewhere. -/
structure HpAt (w : World) (S : Nat → Prop) (b : Nat) (h : Hp) : Prop where
  ex : ∃ vp np vw nw vm nm, Row w b 30 #[vp, vw, vm] ∧ HpO w S vp np vw nw vm nm h
  out : ¬ S b
theorem HpAt.turn {w w' : World} {S T : Nat → Prop} {b : Nat} {h : Hp} (ha : HpAt w S b h) (ht : Turn T w w') (hb : ¬ T b) (hd : ∀ k, S k → k < w.heap.size → ¬ T k) : HpAt w' S b h := by
  obtain ⟨vp, np, vw, nw, vm, nm, h1, h2⟩ := ha.ex
  exact ⟨⟨vp, np, vw, nw, vm, nm, ht.row h1 hb, h2.turn ht hd⟩, ha.out⟩
theorem HpAt.below {w w' : World} {S : Nat → Prop} {b : Nat} {h : Hp} (ha : HpAt w S b h) (hb : Below w.heap.size w w') : HpAt w' S b h := by
  obtain ⟨vp, np, vw, nw, vm, nm, h1, h2⟩ := ha.ex
  exact ⟨⟨vp, np, vw, nw, vm, nm, h1.below hb, h2.below hb⟩, ha.out⟩

theorem keepH2 {W a b : World} {p q : Addr} {x y : Value} (h : a.cell? p = some x ∧ a.cell? q = some y ∧ Below W.heap.size W a) (hb : Below a.heap.size a b) :
    b.cell? p = some x ∧ b.cell? q = some y ∧ Below W.heap.size W b := by
  obtain ⟨h1, h2, h4⟩ := h
  exact ⟨(hb.cell (World.block_lt_of_cell? _ _ h1)).trans h1, (hb.cell (World.block_lt_of_cell? _ _ h2)).trans h2, h4.trans (hb.mono h4.size)⟩
theorem keepD2 {W a : World} {p q : Addr} {x y : Value} (h : a.cell? p = some x ∧ a.cell? q = some y ∧ Below W.heap.size W a) : a.drew.cell? p = some x ∧ a.drew.cell? q = some y ∧ Below W.heap.size W a.drew := ⟨h.1, h.2.1, h.2.2.drew⟩
theorem keepS2 {W a : World} {p q : Addr} {x y u v t : Value} {g : Nat} (h : a.cell? p = some x ∧ a.cell? q = some y ∧ Below W.heap.size W a) (hp : W.cell? p = some x) (hq : W.cell? q = some y) (hg : W.heap.size ≤ g) :
    (((a.setCell ⟨g, 0, none⟩ u).setCell ⟨g, 1, none⟩ v).setCell ⟨g, 2, none⟩ t).cell? p = some x ∧ (((a.setCell ⟨g, 0, none⟩ u).setCell ⟨g, 1, none⟩ v).setCell ⟨g, 2, none⟩ t).cell? q = some y ∧ Below W.heap.size W (((a.setCell ⟨g, 0, none⟩ u).setCell ⟨g, 1, none⟩ v).setCell ⟨g, 2, none⟩ t) := by
  have hb : Below W.heap.size W (((a.setCell ⟨g, 0, none⟩ u).setCell ⟨g, 1, none⟩ v).setCell ⟨g, 2, none⟩ t) := ((h.2.2.setCell hg _).setCell hg _).setCell hg _
  exact ⟨(hb.cell (World.block_lt_of_cell? _ _ hp)).trans hp, (hb.cell (World.block_lt_of_cell? _ _ hq)).trans hq, hb⟩
/-- What the copy has while it grows. -/
structure CopyTo (w : World) (h : Hp) (k : Nat) (t3 : Value) (wx : World) : Prop where
  ex : ∃ g, t3 = .pointer (some ⟨g, 0, none⟩) ∧ w.heap.size < g ∧ HpAt wx (fun q => w.heap.size < q ∧ q ≠ g) g ⟨h.pages, h.words, h.mags.take k⟩
  res : Row wx w.heap.size 30 #[.slice none 0 0, .slice none 0 0, .slice none 0 0]
  bel : Below w.heap.size w wx

theorem Row.set {w : World} {g i : Nat} {t : TypeId} {cs : Array Value} (h : Row w g t cs) (u : Value) : Row (w.setCell ⟨g, i, none⟩ u) g t (cs.setIfInBounds i u) := heap_setCell_same w g i _ _ u h
theorem Row.set3 {w : World} {g : Nat} {t : TypeId} {a b c x y z : Value} (h : Row w g t #[a, b, c]) : Row (((w.setCell ⟨g, 0, none⟩ x).setCell ⟨g, 1, none⟩ y).setCell ⟨g, 2, none⟩ z) g t #[x, y, z] := by
  have := ((h.set (i := 0) x).set (i := 1) y).set (i := 2) z
  simpa using this
theorem Turn.set3 {w : World} {g : Nat} {x y z : Value} : Turn (fun k => k = g) w (((w.setCell ⟨g, 0, none⟩ x).setCell ⟨g, 1, none⟩ y).setCell ⟨g, 2, none⟩ z) :=
  ((Turn.set w ⟨g, 0, none⟩ x).trans (Turn.set _ ⟨g, 1, none⟩ y) (fun _ h _ => h)).trans (Turn.set _ ⟨g, 2, none⟩ z) (fun _ h _ => h)
theorem copy_start {w V X Y wP wW Z : World} {h : Hp} {g pn wn : Nat} {vp vw : Value} (hB0 : Below w.heap.size w V) (hVs : V.heap.size = w.heap.size + 1) (hR0 : Row V w.heap.size 30 #[.slice none 0 0, .slice none 0 0, .slice none 0 0]) (hX : Below V.heap.size V X)
    (oP : Own KPage 55 wP (fun k => X.heap.size ≤ k) vp pn h.pages) (bP : Below X.heap.size X wP) (hY : Below wP.heap.size wP Y) (oW : Own KInt 2 wW (fun k => Y.heap.size ≤ k) vw wn h.words) (bW : Below Y.heap.size Y wW) (hZ : Turn (fun k => k = g) wW Z)
    (row : Row Z g 30 #[vp, vw, .slice none 0 0]) (hg : w.heap.size < g) (h1 : X.heap.size ≤ g → wP.heap.size ≤ g) (h2 : Y.heap.size ≤ g → wW.heap.size ≤ g) : CopyTo w h 0 (.pointer (some ⟨g, 0, none⟩)) Z := by
  have s1 := hX.size
  have s2 := bP.size
  have s3 := hY.size
  have s4 := bW.size
  have bVP : Below V.heap.size V wP := hX.trans (bP.mono s1)
  have bPW : Below wP.heap.size wP wW := hY.trans (bW.mono s3)
  have bVW : Below V.heap.size V wW := bVP.trans (bPW.mono (by omega))
  have bZ : Below V.heap.size V Z := hZ.below bVW (by omega) (fun k hk => by omega)
  refine ⟨⟨g, rfl, hg, ⟨⟨_, _, _, _, _, 0, row, HpO.mk3 (A := fun k => X.heap.size ≤ k ∧ k < wP.heap.size) (B := fun k => Y.heap.size ≤ k ∧ k < wW.heap.size) (C := fun _ => False) ((oP.here.below bPW).turn hZ (fun k hk _ e => by subst e; have := h1 hk.1; omega)) (oW.here.turn hZ (fun k hk _ e => by subst e; have := h2 hk.1; omega)) Own.nil
    (fun k hk => ⟨by omega, fun e => by subst e; have := h1 hk.1; omega⟩) (fun k hk => ⟨by omega, fun e => by subst e; have := h2 hk.1; omega⟩) (fun _ h => h.elim) (fun k hk hq => by omega) (fun _ _ h => h) (fun _ _ h => h)⟩, fun hq => hq.2 rfl⟩⟩, (bZ.block _ (by omega)).trans hR0, hB0.trans (bZ.mono (by omega))⟩

theorem Row.alloc {w : World} {g : Nat} {t : TypeId} {cs : Array Value} (h : Row w g t cs) (o : Obj) : Row (w.alloc o) g t cs := Row.below h ((Below.refl _ _).alloc (Nat.le_refl _) _)
theorem copy_step {w wr wI w2 : World} {h : Hp} {g k np nw n4 : Nat} {vp vw vm v2 : Value} {o : Obj} {S1 S2 S3 : Nat → Prop} (hg : w.heap.size < g) (hRes : Row wr w.heap.size 30 #[.slice none 0 0, .slice none 0 0, .slice none 0 0]) (hBel : Below w.heap.size w wr) (hRg : Row wr g 30 #[vp, vw, vm])
    (o1 : Own KPage 55 wr S1 vp np h.pages) (o2 : Own KInt 2 wr S2 vw nw h.words) (hd : (∀ q, S1 q → w.heap.size < q ∧ q ≠ g) ∧ (∀ q, S2 q → w.heap.size < q ∧ q ≠ g) ∧ (∀ q, S3 q → w.heap.size < q ∧ q ≠ g) ∧ (∀ q, S1 q → ¬ S2 q) ∧ (∀ q, S1 q → ¬ S3 q) ∧ (∀ q, S2 q → ¬ S3 q))
    (bI : Below wr.heap.size wr wI) (t4 : Turn (fun q => S3 q ∧ q < wr.heap.size) (wI.alloc o) w2) (o4 : Own KMag 27 w2 (fun q => (S3 q ∧ q < wr.heap.size) ∨ (wr.heap.size ≤ q ∧ q < wI.heap.size) ∨ (wI.alloc o).heap.size ≤ q) v2 n4 (h.mags.take (k + 1))) :
    CopyTo w h (k + 1) (.pointer (some ⟨g, 0, none⟩)) (w2.setCell ⟨g, 2, none⟩ v2) := by
  obtain ⟨d1, d2, d3, x1, x2, x3⟩ := hd
  have hgl := hRg.lt
  have s1 := hBel.size
  have s2 := bI.size
  have s3 : wI.heap.size ≤ (wI.alloc o).heap.size := by simp
  have s4 := t4.size
  have bIA : Below wr.heap.size wr (wI.alloc o) := bI.alloc bI.size _
  have tS := Turn.set w2 ⟨g, 2, none⟩ v2
  have tt : Turn (fun q => S3 q ∧ q < wr.heap.size) wr w2 := (Turn.of_below bIA).trans t4 (fun _ h _ => h)
  have r2 := (tt.row hRg (fun hq => (d3 g hq.1).2 rfl)).set (i := 2) v2
  refine ⟨⟨g, rfl, hg, ⟨⟨vp, np, vw, nw, v2, n4, by simpa using r2, HpO.mk3 (A := fun q => S1 q ∧ q < wr.heap.size) (B := fun q => S2 q ∧ q < wr.heap.size) (C := fun q => ((S3 q ∧ q < wr.heap.size) ∨ (wr.heap.size ≤ q ∧ q < wI.heap.size) ∨ (wI.alloc o).heap.size ≤ q)) ((o1.here.turn tt (fun q hq _ h => x2 q hq.1 h.1)).turn tS (fun q hq _ e => (d1 q hq.1).2 e)) ((o2.here.turn tt (fun q hq _ h => x3 q hq.1 h.1)).turn tS (fun q hq _ e => (d2 q hq.1).2 e))
    (o4.turn tS (fun q hq _ e => ?_)) (fun q hq => d1 q hq.1) (fun q hq => d2 q hq.1) (fun q hq => ?_) (fun q hq h => x1 q hq.1 h.1) (fun q hq h => ?_) (fun q hq h => ?_)⟩, fun hq => hq.2 rfl⟩⟩, ?_, ?_⟩
  · have e : q = g := e
    rcases hq with hq | hq | hq
    · exact (d3 q hq.1).2 e
    · omega
    · omega
  · rcases hq with hq | hq | hq
    · exact d3 q hq.1
    · omega
    · omega
  · rcases h with h | h | h
    · exact x2 q hq.1 h.1
    · omega
    · omega
  · rcases h with h | h | h
    · exact x3 q hq.1 h.1
    · omega
    · omega
  · exact tS.row (tt.row hRes (fun hq => by have := (d3 _ hq.1).1; omega)) (fun e => by have e : w.heap.size = g := e; omega)
  · exact tS.below (tt.below hBel s1 (fun q hq => by have := (d3 q hq.1).1; omega)) (by have := tt.size; omega) (fun q e => by have e : q = g := e; omega)

set_option maxRecDepth 100000 in
set_option maxHeartbeats 2000000 in
theorem l5Copy_calls {pa wa ma : Option Addr} {pn pc wn wk mn mc b : Nat} {h : Hp} {S : Nat → Prop} {w : World} (hR : Row w b 30 #[.slice pa pn pc, .slice wa wn wk, .slice ma mn mc]) (hk : HpK w S pa pn pc wa wn wk ma mn mc h) :
    Calls Tryz.prog 52 #[.pointer (some ⟨b, 0, none⟩)] w (MakesHeap w h) := by
  obtain ⟨im, him, hm0, hm1, hm2⟩ := info_parts infoMg
  have HK := Lib.hid hk
  obtain ⟨n1, n2, n3, n4, n5⟩ := hk.small
  have HR := Lib.hid hR
  have HB0 := Lib.hid (show Below w.heap.size w (w.alloc (.cells #[.slice none 0 0, .slice none 0 0, .slice none 0 0] 30)) from (Below.refl _ _).alloc (Nat.le_refl _) _)
  have HR0 : Hid (Row (w.alloc (.cells #[.slice none 0 0, .slice none 0 0, .slice none 0 0] 30)) w.heap.size 30 #[.slice none 0 0, .slice none 0 0, .slice none 0 0]) := heap_alloc_new _ _
  have HbV := Lib.hid (HR.out.below HB0.out)
  have q0 := HbV.out.cell 0
  have q1 := HbV.out.cell 1
  have q2 := HbV.out.cell 2
  simp at q0 q1 q2
  clear hR hk
  go_enter Tryz.func52, Tryz.ntmps52
  go_upto_region 1 with (fail)
  obtain ⟨V, hV⟩ : ∃ V, V = w.alloc (.cells #[.slice none 0 0, .slice none 0 0, .slice none 0 0] 30) := ⟨_, rfl⟩
  rw [← hV] at HB0 HR0 HbV q0 q1 q2 ⊢
  have HVs := Lib.hid (show V.heap.size = w.heap.size + 1 by rw [hV]; simp)
  clear hV
  go_cut [3] (fun t3 wx => CopyTo w h 0 t3 wx)
  case first =>
    have kB := Below.refl V.heap.size V
    go_region_held3 (fun w' => w'.cell? ⟨b, 0, none⟩ = some (.slice pa pn pc) ∧ w'.cell? ⟨b, 1, none⟩ = some (.slice wa wn wk) ∧ Below V.heap.size V w') (first | with_reducible assumption | with_reducible exact ⟨q0, q1, kB.drew⟩ | (with_reducible refine keepH2 ?_ ((Below.refl _ _).alloc (Nat.le_refl _) _); assumption) | (with_reducible refine keepS2 ?_ q0 q1 ?_; assumption; exact hS'.2.2.size) | (with_reducible refine keepS2 ?_ q0 q1 ?_; assumption; exact Nat.le_refl _) | (with_reducible exact keepD2 (keepH2 ⟨q0, q1, kB⟩ ((Below.refl _ _).alloc (Nat.le_refl _) _))) | exact ⟨q0, q1, kB.drew⟩)
    (first
      | (go_at_call 110; obtain ⟨y0, y1, kb⟩ := ‹_ ∧ _ ∧ Below _ _ _›; refine (l4Copy_calls ((HK.out.r.pg.below HB0.out).below kb) HK.out.short n1).mono ?_; rintro e wP ⟨vP, rfl, oP, bP⟩; obtain ⟨xP, cP, rfl, _, _, _⟩ := oP.shape; have hS' := keepH2 ⟨y0, y1, kb⟩ bP; (try (have rN : Row wP V.heap.size 30 #[.slice none 0 0, .slice none 0 0, .slice none 0 0] := (bP.block V.heap.size (by simp)).trans (heap_alloc_new V _))))
      | (go_at_call 111; obtain ⟨y0, y1, kb⟩ := ‹_ ∧ _ ∧ Below _ _ _›; refine (l1Ints_calls ((HK.out.r.wd.below HB0.out).below kb) (by omega)).mono ?_; rintro e wW ⟨vW, rfl, oW, bW⟩; obtain ⟨xW, cW, rfl, _, _, _⟩ := oW.shape; have hS'' := keepH2 ⟨y0, y1, kb⟩ bW; (try (have rM := Row.new bW; have d0 := rM.cell 0; have d1 := rM.cell 1; have d2 := rM.cell 2; have f0 := frozen_of_row _ _ 0 _ _ rM; have f1 := frozen_of_row _ _ 1 _ _ rM; have f2 := frozen_of_row _ _ 2 _ _ rM; simp at d0 d1 d2)); (try (have rM := Row.below rN bW; have d0 := rM.cell 0; have d1 := rM.cell 1; have d2 := rM.cell 2; have f0 := frozen_of_row _ _ 0 _ _ rM; have f1 := frozen_of_row _ _ 1 _ _ rM; have f2 := frozen_of_row _ _ 2 _ _ rM; simp at d0 d1 d2))))
    · have hs := bW.size
      have hp := bP.size
      go_wp2_with fail
      go_meet
      case rel => exact copy_start HB0.out HVs.out HR0.out ((Below.refl _ _).drew) oP bP (Below.refl _ _) oW bW (Turn.alloc _ _ _) (heap_alloc_new _ _) (by have := HVs.out; have := kB.drew.size; simp at hp; omega) (fun _ => hs) (fun _ => Nat.le_refl _)
    · have hs := bW.size
      have hp := bP.size
      go_wp2_with fail
      go_meet
      case rel => exact copy_start HB0.out HVs.out HR0.out ((Below.refl _ _).drew) oP bP ((Below.refl _ _).alloc (Nat.le_refl _) _) oW bW Turn.set3 rM.set3 (by have := HVs.out; simp at hp; omega) (fun _ => Nat.le_refl _) (fun h => by simp at h; omega)
    · have hs := bW.size
      have hp := bP.size
      go_wp2_with fail
      go_meet
      case rel => exact copy_start HB0.out HVs.out HR0.out (((Below.refl _ _).alloc (Nat.le_refl _) _).drew) oP bP (Below.refl _ _) oW bW Turn.set3 rM.set3 (by have := HVs.out; omega) (fun h => by simp at h; omega) (fun h => by simp at hp; omega)
  case rest =>
    have HC := Lib.hid hcut
    obtain ⟨⟨g, rfl, hg, _⟩, _, _⟩ := hcut
    have HM := Lib.hid HK.out.r.mg.1
    clear q0 q1 q2
    go_wp2_with fail
    go_loopw [4] (fun i wr => ∃ k : Nat, k ≤ mn ∧ i = .int .i64 k ∧ CopyTo w h k (.pointer (some ⟨g, 0, none⟩)) wr) (fun i _ => mn - (intOf i).toNat)
    case atStart => exact ⟨0, Nat.zero_le _, rfl, HC.out⟩
    case round =>
      clear HC
      obtain ⟨k, hk, rfl, hC⟩ := hrel
      have HCt := Lib.hid hC
      obtain ⟨⟨g', e, _, hAt⟩, hres, hbel⟩ := hC
      obtain rfl : g = g' := by injection e with e; injection e with e; injection e
      have Rb := HR.out.below hbel
      have y2 := Rb.cell 2
      have yl := Rb.lt
      simp at y2
      clear Rb
      by_cases hlt : k < mn
      · obtain ⟨b0, o0, m, a0, l0, c0, rfl, d0, hp, e0, hlc0, hcm0, hu0⟩ := ((HK.out.below hbel).r.mg).mag_at hlt
        obtain ⟨vp, np, vw, nw, vm, nm, hRg, hO⟩ := hAt.ex
        obtain ⟨S1, S2, S3, o1, o2, o3, d1, d2, d3, x1, x2, x3⟩ := hO.ex
        obtain ⟨am, cm, rfl, hcm1, hcm2, _⟩ := o3.shape
        have hl0 : l0 ≤ 1099511627776 := by have := HK.out.s.k.at_ hp; have := hu0.1; omega
        have hnm : nm = k := by have := o3.1; have h2 : (h.mags.take k).length = k := by rw [List.length_take]; have := HM.out; omega
                                rw [← this]; exact h2
        subst hnm
        have z2 := hRg.cell 2
        have zl := hRg.lt
        have zf := frozen_of_row _ _ 2 _ _ hRg
        simp at z2
        have HP := Lib.hid hp
        have HU := Lib.hid hu0
        have HD := Lib.hid (And.intro d1 (And.intro d2 (And.intro d3 (And.intro x1 (And.intro x2 x3)))))
        have O1 := Lib.hid o1
        have O2 := Lib.hid o2
        have O3 := Lib.hid o3
        have HRg := Lib.hid hRg
        have HRes := Lib.hid hres
        have HBel := Lib.hid hbel
        clear o1 o2 o3 d1 d2 d3 x1 x2 x3 hp hu0 hcm0 hRg hres hbel hAt hO e
        go_wp2_with fail
        go_region_law (first
          | (go_simp; go_at_call 111; refine (l1Ints_calls (HU.out.drew) hl0).mono ?_; rintro e wI ⟨vI, rfl, oI, bI⟩; obtain ⟨xI, cI, rfl, hI1, hI2, _⟩ := oI.shape; have z3 : wI.cell? ⟨g, 2, none⟩ = some (.slice am nm cm) := (bI.cell (p := ⟨g, 2, none⟩) zl).trans z2; have zl3 : g < wI.heap.size := Nat.lt_of_lt_of_le zl bI.size)
          | (refine step_append_elem (K := KMag) (S := fun q => S3 q ∧ q < wr.heap.size) (G := fun q => wr.heap.size ≤ q ∧ q < wI.heap.size) rfl (.tmp 26) (.tmp 35) 28 (by rfl) 27 im (.slice none 0 0) 24 Tryz.underlying28 him hm0 hm1 hm2 rfl (by decide) one_mag (v := .slice am nm cm) (n := nm) (b := wI.heap.size) (c := 1) (xs := h.mags.take nm) (y := m) (cs := [.slice xI l0 cI]) (by rfl) (((O3.out.here.drew).below bI).alloc _) (by rfl) (fun j u hu => by
                cases j with
                | zero => simp at hu; subst hu; exact (Row.cell (heap_alloc_new wI (.cells #[.slice xI l0 cI] 27)) 0).trans rfl
                | succ j => simp at hu) (KMag_own_mk ((oI.here).alloc _)) (fun q hq _ h => by have := hq.1; have := h.2; omega) (by unfold maxLen; omega) (by omega) ?_
             intro v2 w2 o4 t4
             obtain ⟨a4, c4, rfl, _, _, _⟩ := o4.shape
             have R2 := t4.row ((Row.below (Row.drew HRg.out) bI).alloc _) (fun hq => (HD.out.2.2.1 g hq.1).2 rfl)
             have y3 := R2.cell 2
             have yf := frozen_of_row _ _ 2 _ _ R2
             simp at y3))
        all_goals
          have HN := Lib.hid (copy_step (k := nm) hg HRes.out HBel.out HRg.out O1.out O2.out HD.out (Below.trans ((Below.refl _ _).drew) bI) t4 (by rw [List.take_add_one, HP.out]; exact o4))
          clear R2 y3 yf t4 o4 bI oI
          go_wp2_with fail
          go_roundw
          case rel => exact ⟨nm + 1, by omega, by go_num, HN.out⟩
          case measure => simp [intOf]; omega
      · have hkm : k = mn := by omega
        have HF : Hid (HpAt wr (fun q => w.heap.size < q ∧ q ≠ g) g h) := by
          have := hAt
          rw [List.take_of_length_le (by have := HM.out; omega)] at this
          exact this
        obtain ⟨vp, np, vw, nw, vm, nm, hRg, hO⟩ := HF.out.ex
        obtain ⟨pa', pc', wa', wc', ma', mc', rfl, rfl, rfl, _⟩ := hO.shape
        have z0 := hRg.cell 0
        have z1 := hRg.cell 1
        have z2 := hRg.cell 2
        have zl := hRg.lt
        simp at z0 z1 z2
        have HO := Lib.hid hO
        have HBel := Lib.hid hbel
        clear hRg hO hAt hbel e
        go_wp2_with (refine wpList_store_row rfl 30 _ _ rfl (w.heap.size) _ rfl rfl _ _ hres (by kernel_rfl) (by rfl) (by simp [Value.oneCell']) ?_)
        refine bodyPost_ret (results_cell_row rfl _ _ (w.heap.size) _ _ _ _ rfl (setRow_heap _ _ _ _ _ _ hres) Tryz.underlying30 rfl (by kernel_rfl)) rfl ?_
        exact ⟨_, _, _, _, _, _, rfl, (HO.out.turn (Turn.setRow _ _ _) (fun q hq _ e => by have e : q = w.heap.size := e; omega)).mono (fun q hq _ => by omega), below_setRow HBel.out (Nat.le_refl _) _⟩
end Go.Proofs.YtcnpckaacigbfaaGreat

/- The source of draws, which every chapter's draws read: its bytes, one draw, one pick. -/
namespace Go.Proofs.YtcnpckaacigbfaaGreat
open Go.RowKit

/-- The slice of n bytes at 'ao' reads as bs. -/
def Bytes (w : World) (ao : Option Addr) (n : Nat) (bs : List Int) : Prop :=
  bs.length = n ∧ (0 < n → ∃ b off, ao = some ⟨b, off, none⟩ ∧ b < w.heap.size ∧ ∀ j, j < n → w.cell? ⟨b, off + j, none⟩ = some (.int .u8 (bs.getD j 0)) ∧ 0 ≤ bs.getD j 0 ∧ bs.getD j 0 ≤ 255)

theorem Bytes.below {w w' : World} {ao : Option Addr} {n : Nat} {bs : List Int} (h : Bytes w ao n bs) (hb : Below w.heap.size w w') : Bytes w' ao n bs := by
  refine ⟨h.1, fun hi => ?_⟩
  obtain ⟨b, off, rfl, hlt, hc⟩ := h.2 hi
  exact ⟨b, off, rfl, Nat.lt_of_lt_of_le hlt hb.size, fun j hj => by rw [hb.cell (p := ⟨b, off + j, none⟩) hlt]; exact hc j hj⟩
theorem Bytes.none_ (w : World) : Bytes w none 0 [] := ⟨rfl, fun h => absurd h (by omega)⟩
theorem Bytes.of_row {w : World} {x : Addr} {len cap : Nat} {zs : List Int} (hl : len ≤ cap) (hz : zs.length = cap) (hc : ∀ i, i < zs.length → w.cell? (x.add i) = some (.int .u8 (zs.getD i 0))) (hw : ∀ n ∈ zs, (Lit.int .u8 n).wf = true) : Bytes w (some x) len (zs.take len) := by
  refine ⟨by simp; omega, fun h0 => ?_⟩
  obtain ⟨b, off, rfl, hcell⟩ := ints_at hc (by omega)
  refine ⟨b, off, rfl, ?_, fun j hj => ?_⟩
  · exact World.block_lt_of_cell? w _ (hcell 0 (by omega))
  · have hr := byte_range (hw _ (List.getElem_mem (show j < zs.length by omega)))
    rw [hcell j (by omega)]
    have e1 : zs.getD j 0 = zs[j] := by simp [List.getD, show j < zs.length by omega]
    have e2 : (zs.take len).getD j 0 = zs[j] := by simp [List.getD, hj, show j < zs.length by omega]
    rw [e1, e2]
    exact ⟨rfl, hr⟩

/-- The source of draws in block p: its bytes, and how far it is. -/
def Src (w : World) (p k : Nat) : Prop :=
  ∃ ao n c bs, Row w p 117 #[.slice ao n c, .int .i64 (k : Int)] ∧ Bytes w ao n bs ∧ n ≤ 1048576 ∧ ∀ a, ao = some a → 0 < n → a.block < p

theorem Src.below {w w' : World} {p k : Nat} (h : Src w p k) (hb : Below w.heap.size w w') : Src w' p k := by
  obtain ⟨ao, n, c, bs, h1, h2, h3, h4⟩ := h
  exact ⟨ao, n, c, bs, h1.below hb, h2.below hb, h3, h4⟩
theorem Src.lt {w : World} {p k : Nat} (h : Src w p k) : p < w.heap.size := by
  obtain ⟨ao, n, c, bs, h1, _⟩ := h
  exact h1.lt
/-- The source behind one draw. -/
theorem Src.stored {w : World} {p k : Nat} (h : Src w p k) : Src (w.setCell ⟨p, 1, none⟩ (.int .i64 ((k + 1 : Nat) : Int))) p (k + 1) ∧ w.grownBy (w.setCell ⟨p, 1, none⟩ (.int .i64 ((k + 1 : Nat) : Int))) (some p) := by
  obtain ⟨ao, n, c, bs, h1, h2, h3, h4⟩ := h
  refine ⟨⟨ao, n, c, bs, ?_, ⟨h2.1, fun h0 => ?_⟩, h3, h4⟩, ⟨rfl, rfl, rfl, by simp, fun i _ hne => heap_setCell_other w ⟨p, 1, none⟩ i _ (fun e => hne (by simp [e]))⟩⟩
  · have := heap_setCell_same w p 1 _ _ (.int .i64 ((k + 1 : Nat) : Int)) h1
    simpa [Row] using this
  · obtain ⟨b, off, rfl, hlt, hc⟩ := h2.2 h0
    have hne := h4 _ rfl h0
    refine ⟨b, off, rfl, by simpa using hlt, fun j hj => ?_⟩
    rw [World.cell?_of_block (w := w) (a := ⟨b, off + j, none⟩) (heap_setCell_other w _ b _ (by simp at hne ⊢; omega))]
    exact hc j hj
theorem Src.drewN {w : World} {p k : Nat} (h : Src w p k) (n : Nat) : Src (w.drewN n) p k := h

theorem grown_drewN {a b : World} {row : Option Nat} (h : a.grownBy b row) (n : Nat) : a.grownBy (b.drewN n) row := ⟨h.os, h.tape, h.output, h.size, h.block⟩
/-- What one draw leaves: a number of the range, the source one further, nothing else. -/
def Draws (w : World) (p k : Nat) (n : Int) (e : Ending) (w' : World) : Prop := ∃ r : Int, e = .returned (.int .i64 r) ∧ 0 ≤ r ∧ (1 ≤ n → r < n) ∧ (n < 1 → r = 0) ∧ Src w' p (k + 1) ∧ w.grownBy w' (some p)

set_option maxHeartbeats 800000 in
theorem next_calls {p k : Nat} {n : Int} {w : World} (hs : Src w p k) (hk : k ≤ 4294967296) :
    Calls Tryz.prog 81 #[.pointer (some ⟨p, 0, none⟩), .int .i64 n] w (Draws w p k n) := by
  have HST := Lib.hid hs.stored
  obtain ⟨ao, m, c, bs, hrow, hby, hm, hne⟩ := hs
  have c0 := hrow.cell 0
  have c1 := hrow.cell 1
  simp at c0 c1
  have hfr : w.frozen? ⟨p, 1, none⟩ = false := frozen_of_row w p 1 _ _ hrow
  by_cases hn : n < 1
  · go_enter Tryz.func81, Tryz.ntmps81
    go_wp2
    go_ret
    exact ⟨0, rfl, Int.le_refl _, fun h => absurd hn (by omega), fun _ => rfl, HST.out.1, HST.out.2⟩
  · by_cases h0 : m = 0
    · subst h0
      go_enter Tryz.func81, Tryz.ntmps81
      go_wp2_with fail
      go_ret
      exact ⟨_, rfl, Int.emod_nonneg _ (by omega), fun _ => Int.emod_lt_of_pos _ (by omega), fun h => absurd h (by omega), HST.out.1, HST.out.2⟩
    · obtain ⟨b, off, rfl, hb, hc⟩ := hby.2 (by omega)
      have hpb : b ≠ p := by have := hne _ rfl (by omega); simp at this; omega
      have hm0 : ((m : Int) == 0) = false := by simp; omega
      have hx0 := hc (k % m) (Nat.mod_lt _ (by omega))
      have hx1 := hc ((k + 1) % m) (Nat.mod_lt _ (by omega))
      have hx2 := hc ((k + 2) % m) (Nat.mod_lt _ (by omega))
      obtain ⟨d0, hd0⟩ : ∃ d, d = bs.getD (k % m) 0 := ⟨_, rfl⟩
      obtain ⟨d1, hd1⟩ : ∃ d, d = bs.getD ((k + 1) % m) 0 := ⟨_, rfl⟩
      obtain ⟨d2, hd2⟩ : ∃ d, d = bs.getD ((k + 2) % m) 0 := ⟨_, rfl⟩
      rw [← hd0] at hx0; rw [← hd1] at hx1; rw [← hd2] at hx2
      clear hd0 hd1 hd2 hc hby hne
      obtain ⟨hx0, y0, y0'⟩ := hx0
      obtain ⟨hx1, y1, y1'⟩ := hx1
      obtain ⟨hx2, y2, y2'⟩ := hx2
      have lt0 : (k : Int) % (m : Int) < m := Int.emod_lt_of_pos _ (by omega)
      have ge0 : 0 ≤ (k : Int) % (m : Int) := Int.emod_nonneg _ (by omega)
      have lt1 : ((k : Int) + 1) % (m : Int) < m := Int.emod_lt_of_pos _ (by omega)
      have ge1 : 0 ≤ ((k : Int) + 1) % (m : Int) := Int.emod_nonneg _ (by omega)
      have lt2 : ((k : Int) + 2) % (m : Int) < m := Int.emod_lt_of_pos _ (by omega)
      have ge2 : 0 ≤ ((k : Int) + 2) % (m : Int) := Int.emod_nonneg _ (by omega)
      have q0 : 0 ≤ (k : Int) / (m : Int) := Int.ediv_nonneg (by omega) (by omega)
      have q1 : (k : Int) / (m : Int) ≤ k := Int.ediv_le_self _ (by omega)
      by_cases hn2 : n ≤ 200
      · go_enter Tryz.func81, Tryz.ntmps81
        go_wp2_with fail
        go_quiet (fail)
        obtain ⟨v, hv⟩ : ∃ v, v = d0 + (k : Int) / (m : Int) * 37 := ⟨_, rfl⟩
        have hv0 : 0 ≤ v := by omega
        have hv1 : v ≤ 255 + 4294967296 * 37 := by omega
        rw [← hv]
        clear hv
        go_wp2_with fail
        go_ret
        exact ⟨_, rfl, Int.emod_nonneg _ (by omega), fun _ => Int.emod_lt_of_pos _ (by omega), fun h => absurd h (by omega), HST.out.1.drewN _, grown_drewN HST.out.2 _⟩
      · by_cases hn3 : n ≤ 60000
        · go_enter Tryz.func81, Tryz.ntmps81
          go_wp2_with fail
          go_quiet (fail)
          obtain ⟨v, hv⟩ : ∃ v, v = d0 + (k : Int) / (m : Int) * 37 := ⟨_, rfl⟩
          have hv0 : 0 ≤ v := by omega
          have hv1 : v ≤ 255 + 4294967296 * 37 := by omega
          rw [← hv]
          clear hv
          go_wp2_with fail
          go_quiet (fail)
          obtain ⟨u, hu⟩ : ∃ u, u = v * 251 + d1 * 13 + (k : Int) := ⟨_, rfl⟩
          have hu0 : 0 ≤ u := by omega
          rw [← hu]
          clear hu
          go_wp2_with fail
          go_ret
          exact ⟨_, rfl, Int.emod_nonneg _ (by omega), fun _ => Int.emod_lt_of_pos _ (by omega), fun h => absurd h (by omega), HST.out.1.drewN _, grown_drewN HST.out.2 _⟩
        · go_enter Tryz.func81, Tryz.ntmps81
          go_wp2_with fail
          go_quiet (fail)
          obtain ⟨v, hv⟩ : ∃ v, v = d0 + (k : Int) / (m : Int) * 37 := ⟨_, rfl⟩
          have hv0 : 0 ≤ v := by omega
          have hv1 : v ≤ 255 + 4294967296 * 37 := by omega
          rw [← hv]
          clear hv
          go_wp2_with fail
          go_quiet (fail)
          obtain ⟨u, hu⟩ : ∃ u, u = v * 251 + d1 * 13 + (k : Int) := ⟨_, rfl⟩
          have hu0 : 0 ≤ u := by omega
          have hu1 : u ≤ 1125899906842624 := by omega
          rw [← hu]
          clear hu
          go_wp2_with fail
          go_quiet (fail)
          obtain ⟨z, hz⟩ : ∃ z, z = u * 257 + d2 := ⟨_, rfl⟩
          have hz0 : 0 ≤ z := by omega
          rw [← hz]
          clear hz
          go_wp2_with fail
          go_ret
          exact ⟨_, rfl, Int.emod_nonneg _ (by omega), fun _ => Int.emod_lt_of_pos _ (by omega), fun h => absurd h (by omega), HST.out.1.drewN _, grown_drewN HST.out.2 _⟩

/-- The source is kept where another block is written. -/
theorem Src.apart {w w' : World} {p k g : Nat} (h : Src w p k) (hg : w.grownBy w' (some g)) (hne : p < g) : Src w' p k := by
  obtain ⟨ao, n, c, bs, h1, h2, h3, h4⟩ := h
  refine ⟨ao, n, c, bs, (hg.block p h1.lt (by simp; omega)).trans h1, ⟨h2.1, fun h0 => ?_⟩, h3, h4⟩
  obtain ⟨b, off, rfl, hlt, hc⟩ := h2.2 h0
  have hb := h4 _ rfl h0
  refine ⟨b, off, rfl, Nat.lt_of_lt_of_le hlt hg.size, fun j hj => ?_⟩
  rw [World.cell?_of_block (w := w) (a := ⟨b, off + j, none⟩) (hg.block b hlt (by simp at hb ⊢; omega))]
  exact hc j hj
theorem grown_new {w0 w w' : World} {p g : Nat} (h : w0.grownBy w (some p)) (hg : w.grownBy w' (some g)) (hb : w0.heap.size ≤ g) : w0.grownBy w' (some p) :=
  ⟨hg.os.trans h.os, hg.tape.trans h.tape, hg.output.trans h.output, Nat.le_trans h.size hg.size, fun i hi hne => (hg.block i (Nat.lt_of_lt_of_le hi h.size) (by simp; omega)).trans (h.block i hi hne)⟩

/-- What a pick leaves: one of the list. -/
def Picks (w : World) (p k : Nat) (xs : List Int) (e : Ending) (w' : World) : Prop := ∃ r : Int, e = .returned (.int .i64 r) ∧ r ∈ xs ∧ Src w' p (k + 1) ∧ w.grownBy w' (some p)

theorem pick_calls {p k n c : Nat} {ao : Option Addr} {xs : List Int} {w : World} (hs : Src w p k) (hk : k ≤ 4294967296) (hi : Ints w ao n xs) (h0 : 0 < n) (hn : n ≤ 4294967296) (hne : ∀ a, ao = some a → a.block ≠ p) :
    Calls Tryz.prog 45 #[.pointer (some ⟨p, 0, none⟩), .slice ao n c] w (Picks w p k xs) := by
  have HL := Lib.hid hi.1
  go_enter Tryz.func45, Tryz.ntmps45
  go_wp2_with fail
  refine (next_calls hs hk).mono ?_
  rintro e w1 ⟨r, rfl, r0, r1, _, hs1, hg1⟩
  obtain ⟨m, rfl⟩ : ∃ m : Nat, r = m := ⟨r.toNat, by omega⟩
  have hm : m < n := by have := r1 (by omega); omega
  have hi1 := hi.grown hg1 (fun a ha _ e => hne a ha (by injection e with e; exact e.symm))
  obtain ⟨b, off, rfl, hb, hc⟩ := hi1.at_ hm
  have hmx : m < xs.length := by rw [HL.out]; exact hm
  have HS := Lib.hid hs1
  have HG := Lib.hid hg1
  clear hs1 hg1 r1 hi1
  go_wp2_with fail
  go_ret
  exact ⟨_, rfl, List.getElem_mem hmx, HS.out, HG.out⟩

theorem Ints.lit {w : World} {t : TypeId} {b n : Nat} {xs : List Int} (hb : b = w.heap.size) (hn : xs.length = n) : Ints (w.alloc (.cells (xs.map (Value.int .i64)).toArray t)) (some ⟨b, 0, none⟩) n xs := by
  subst hb
  refine ⟨hn, fun _ => ⟨w.heap.size, 0, rfl, by simp, fun j hj => ?_⟩⟩
  rw [Nat.zero_add, cell_of_row _ _ _ _ _ _ (heap_alloc_new w _)]
  simp [List.getD, hn.symm ▸ hj]

/-- A new source. -/
theorem source_calls {ao : Option Addr} {n c : Nat} {bs : List Int} {w : World} (hb : Bytes w ao n bs) (hn : n ≤ 1048576) :
    Calls Tryz.prog 44 #[.slice ao n c] w fun e w' => e = .returned (.pointer (some ⟨w.heap.size, 0, none⟩)) ∧ Src w' w.heap.size 0 ∧ Below w.heap.size w w' := by
  go_enter Tryz.func44, Tryz.ntmps44
  go_wp2
  go_ret
  refine ⟨rfl, ⟨ao, n, c, bs, heap_alloc_new w _, hb.below ((Below.refl _ _).alloc (Nat.le_refl _) _), hn, fun a ha h0 => ?_⟩, (Below.refl _ _).alloc (Nat.le_refl _) _⟩
  obtain ⟨b, off, rfl, hlt, _⟩ := hb.2 h0
  injection ha with ha
  subst ha
  exact hlt

theorem below_of_grown {w w1 w2 : World} (h : Below w.heap.size w w1) (hg : w1.grownBy w2 (some w.heap.size)) : Below w.heap.size w w2 := h.grown hg h.size (by intro k hk; simp at hk; omega)
end Go.Proofs.YtcnpckaacigbfaaGreat

/- The source of draws, further: one that begins later, and a chance. -/
namespace Go.Proofs.YtcnpckaacigbfaaGreat
open Go.RowKit

/-- What a chance leaves. -/
def Chances (w : World) (p k : Nat) (e : Ending) (w' : World) : Prop := ∃ b : Bool, e = .returned (.bool b) ∧ Src w' p (k + 1) ∧ w.grownBy w' (some p)
theorem chance_calls {p k : Nat} {n : Int} {w : World} (hs : Src w p k) (hk : k ≤ 4294967296) :
    Calls Tryz.prog 51 #[.pointer (some ⟨p, 0, none⟩), .int .i64 n] w (Chances w p k) := by
  go_enter Tryz.func51, Tryz.ntmps51
  go_wp2_with fail
  refine (next_calls hs hk).mono ?_
  rintro e w1 ⟨r, rfl, _, _, _, hs1, hg1⟩
  have F := Lib.hid (And.intro hs1 hg1)
  clear hs1 hg1
  go_wp2_with fail
  go_ret
  exact ⟨_, rfl, F.out.1, F.out.2⟩
end Go.Proofs.YtcnpckaacigbfaaGreat

/- The draws of chapter 4: pages in which some was taken and dropped. -/
namespace Go.Proofs.YtcnpckaacigbfaaGreat
open Go.RowKit

theorem l4Drop_calls {v : Value} {n st : Nat} {ps : List Pg} {S : Nat → Prop} {w : World} (hT : Own KPage 55 w S v n ps) (hn : n ≤ 17592186044416) (hst : st < 16 * n) (hR : Rough ps) :
    Calls Tryz.prog 112 #[v, .int .i64 st] w fun e w' => e = .returned (.tuple #[]) ∧ Own KPage 55 w' S v n (dropAt ps st) ∧ Turn S w w' := by
  have hl := hT.1
  have hk : st / 16 < ps.length := by omega
  have hp := List.getElem?_eq_getElem hk
  obtain ⟨_, h1, h2⟩ := hR _ _ hp
  by_cases hk1 : (ps[st / 16]).kind = 1
  · obtain ⟨c0, c3, hu⟩ := h1 hk1
    exact l4Drop_slab hT hn hst hp hk1 c0 c3 hu
  · obtain ⟨m, hr, hm⟩ := h2 hk1
    exact l4Drop_run hT hn hst hp (by simp [hk1]) hr (by omega)

/-- What draws of pages leave: pages of the call's own, the source further. -/
def DrawnPages (w : World) (p k : Nat) (m : Nat) (Q : List Pg → Prop) (e : Ending) (w' : World) : Prop :=
  ∃ v n ps k', e = .returned v ∧ Own KPage 55 w' (fun j => w.heap.size ≤ j) v n ps ∧ 1 ≤ n ∧ n ≤ m ∧ Q ps ∧ Src w' p k' ∧ k' ≤ k + 200 ∧ w.grownBy w' (some p)

/-- The same, the row full. -/
def DrawnMade (w : World) (p k : Nat) (m : Nat) (Q : List Pg → Prop) (e : Ending) (w' : World) : Prop :=
  ∃ g n ps k', e = .returned (.slice (some ⟨g, 0, none⟩) n n) ∧ Own KPage 55 w' (fun j => w.heap.size ≤ j) (.slice (some ⟨g, 0, none⟩) n n) n ps ∧ 1 ≤ n ∧ n ≤ m ∧ Q ps ∧ Src w' p k' ∧ k' ≤ k + 150 ∧ w.grownBy w' (some p)

/-- The source is kept where later blocks alone turn. -/
theorem Src.turn {w w' : World} {p k : Nat} {T : Nat → Prop} (h : Src w p k) (ht : Turn T w w') (hd : ∀ j, T j → p < j) : Src w' p k := by
  obtain ⟨ao, n, c, bs, h1, h2, h3, h4⟩ := h
  refine ⟨ao, n, c, bs, ht.row h1 (fun hx => by have := hd _ hx; omega), ⟨h2.1, fun h0 => ?_⟩, h3, h4⟩
  obtain ⟨b, off, rfl, hlt, hc⟩ := h2.2 h0
  have hb := h4 _ rfl h0
  refine ⟨b, off, rfl, Nat.lt_of_lt_of_le hlt ht.size, fun j hj => ?_⟩
  rw [World.cell?_of_block (w := w) (a := ⟨b, off + j, none⟩) (ht.block b hlt (fun hx => by have := hd _ hx; simp at hb; omega))]
  exact hc j hj
theorem Turn.of_some {w w' : World} {p : Nat} (h : w.grownBy w' (some p)) : Turn (fun j => j = p) w w' := ⟨h.os, h.tape, h.output, h.size, fun k hk hn => h.block k hk (by simp; omega)⟩
theorem grown_turn {w w1 w2 : World} {p : Nat} {T : Nat → Prop} (h : w.grownBy w1 (some p)) (ht : Turn T w1 w2) (hd : ∀ j, T j → w.heap.size ≤ j) : w.grownBy w2 (some p) :=
  ⟨ht.os.trans h.os, ht.tape.trans h.tape, ht.output.trans h.output, Nat.le_trans h.size ht.size, fun i hi hne => (ht.block i (Nat.lt_of_lt_of_le hi h.size) (fun hx => by have := hd _ hx; omega)).trans (h.block i hi hne)⟩

/-- Pages and places while they are drawn. -/
def Drawing (w : World) (p : Nat) (v : Value) (n : Nat) (vs : Value) (m k : Nat) (W : World) : Prop :=
  ∃ ps xs, ∃ SP SS : Nat → Prop, Own KPage 55 W SP v n ps ∧ Own KInt 2 W SS vs m xs ∧ (∀ j, SP j → w.heap.size ≤ j) ∧ (∀ j, SS j → w.heap.size ≤ j ∧ ¬ SP j) ∧
    Rough ps ∧ (∀ x ∈ xs, ∃ st : Nat, x = st ∧ st < 16 * n) ∧ Src W p k ∧ w.grownBy W (some p) ∧ p < w.heap.size
section
variable {w W W' : World} {p n m k : Nat} {v vs : Value}
theorem Drawing.drawn (h : Drawing w p v n vs m k W) (hs : Src W' p (k + 1)) (hg : W.grownBy W' (some p)) : Drawing w p v n vs m (k + 1) W' := by
  obtain ⟨ps, xs, SP, SS, h1, h2, h3, h4, h5, h6, h7, h8, h9⟩ := h
  have T := Turn.of_some hg
  exact ⟨ps, xs, SP, SS, h1.turn T (fun j hj _ e => by have := h3 j hj; omega), h2.turn T (fun j hj _ e => by have := (h4 j hj).1; omega), h3, h4, h5, h6, hs, grown_trans h8 hg, h9⟩
theorem Drawing.src (h : Drawing w p v n vs m k W) : Src W p k := by obtain ⟨_, _, _, _, _, _, _, _, _, _, h7, _⟩ := h; exact h7
theorem Drawing.alloc (h : Drawing w p v n vs m k W) (o : Obj) : Drawing w p v n vs m k (W.alloc o) := by
  obtain ⟨ps, xs, SP, SS, h1, h2, h3, h4, h5, h6, h7, h8, h9⟩ := h
  exact ⟨ps, xs, SP, SS, h1.alloc o, h2.alloc o, h3, h4, h5, h6, h7.below ((Below.refl _ _).alloc (Nat.le_refl _) _), grown_trans h8 (World.grownBy_alloc _ _ (some p)), h9⟩
/-- The pages turn. -/
theorem Drawing.pages (h : Drawing w p v n vs m k W) : ∃ ps, ∃ SP : Nat → Prop, Own KPage 55 W SP v n ps ∧ Rough ps ∧
    ∀ W' ps', Own KPage 55 W' (fun j => SP j ∨ W.heap.size ≤ j) v n ps' → Turn SP W W' → Rough ps' → Drawing w p v n vs m k W' := by
  obtain ⟨ps, xs, SP, SS, h1, h2, h3, h4, h5, h6, h7, h8, h9⟩ := h
  refine ⟨ps, SP, h1, h5, fun W' ps' ho ht hr => ⟨ps', xs, _, _, ho, h2.here.turn ht (fun j hj _ hx => (h4 j hj.1).2 hx), ?_, ?_, hr, h6, h7.turn ht (fun j hj => by have := h3 j hj; omega), grown_turn h8 ht h3, h9⟩⟩
  · rintro j (hj | hj)
    · exact h3 j hj
    · have := h8.size; omega
  · rintro j ⟨hj, hlt⟩
    refine ⟨(h4 j hj).1, fun hx => ?_⟩
    rcases hx with hx | hx
    · exact (h4 j hj).2 hx
    · omega
/-- The places turn. -/
theorem Drawing.starts (h : Drawing w p v n vs m k W) : ∃ xs, ∃ SS : Nat → Prop, Own KInt 2 W SS vs m xs ∧ (∀ x ∈ xs, ∃ st : Nat, x = st ∧ st < 16 * n) ∧
    ∀ W' vs' m' xs', Own KInt 2 W' (fun j => SS j ∨ W.heap.size ≤ j) vs' m' xs' → Turn SS W W' → (∀ x ∈ xs', ∃ st : Nat, x = st ∧ st < 16 * n) → Drawing w p v n vs' m' k W' := by
  obtain ⟨ps, xs, SP, SS, h1, h2, h3, h4, h5, h6, h7, h8, h9⟩ := h
  refine ⟨xs, SS, h2, h6, fun W' vs' m' xs' ho ht hr => ⟨ps, xs', _, _, h1.here.turn ht (fun j hj _ hx => (h4 j hx).2 hj.1), ho, fun j hj => h3 j hj.1, ?_, h5, hr, h7.turn ht (fun j hj => by have := (h4 j hj).1; omega), grown_turn h8 ht (fun j hj => (h4 j hj).1), h9⟩⟩
  rintro j (hj | hj)
  · exact ⟨(h4 j hj).1, fun hx => (h4 j hj).2 hx.1⟩
  · refine ⟨by have := h8.size; omega, fun hx => ?_⟩
    omega
end

/-- One place more. -/
theorem Drawing.push {w W : World} {p n m k st : Nat} {v vs : Value} (h : Drawing w p v n vs m k W) (hst : st < 16 * n) (o : Obj) : ∃ xs, ∃ SS : Nat → Prop, Own KInt 2 (W.alloc o) SS vs m xs ∧
    ∀ W' vs', Own KInt 2 W' (fun j => SS j ∨ (W.alloc o).heap.size ≤ j) vs' (m + 1) (xs ++ [(st : Int)]) → Turn SS (W.alloc o) W' → Drawing w p v n vs' (m + 1) k W' := by
  obtain ⟨xs, SS, h1, h2, h3⟩ := (h.alloc o).starts
  refine ⟨xs, SS, h1, fun W' vs' ho ht => h3 W' vs' (m + 1) _ ho ht fun x hx => ?_⟩
  rcases List.mem_append.1 hx with hx | hx
  · exact h2 x hx
  · simp at hx; exact ⟨st, hx, hst⟩

theorem sub_places {xs : List Int} {n : Nat} (h : ∀ x ∈ xs, ∃ st : Nat, x = st ∧ st < 16 * n) (y : Nat) : ∀ x ∈ ([] : List Int) ++ xs.take y ++ xs.drop (y + 1), ∃ st : Nat, x = st ∧ st < 16 * n := fun x hx => by
  rcases List.mem_append.1 hx with hx | hx
  · exact h x (List.mem_of_mem_take (by simpa using hx))
  · exact h x (List.mem_of_mem_drop hx)

set_option maxRecDepth 100000 in
set_option maxHeartbeats 2000000 in
theorem l4Draw_calls {p k : Nat} {w : World} (hs : Src w p k) (hk : k ≤ 1000000) :
    Calls Tryz.prog 138 #[.pointer (some ⟨p, 0, none⟩)] w (DrawnMade w p k 10 Rough) := by
  have hinfo : (Tryz.prog.info? 55).map (fun i => (i.zero, i.size, i.bytes)) = some (some (.agg #[.int .i64 0, .int .i64 0, .slice none 0 0, .int .i64 0]), 4, 48) := by kernel_rfl
  obtain ⟨i0, hi, hz0, hz1, hz2⟩ := info_parts hinfo
  obtain ⟨i6, hi6, hy0, hy1, hy2⟩ := info_parts info64
  have HP := Lib.hid hs.lt
  go_enter Tryz.func138, Tryz.ntmps138
  go_wp2_with fail
  refine (pick_calls (hs.below ((Below.refl _ _).alloc (Nat.le_refl _) _)) (by omega) (Ints.lit (n := 4) (xs := [1, 3, 6, 10]) (by simp) rfl) (by omega) (by omega) (by have := HP.out; simp; omega)).mono ?_
  rintro e w1 ⟨r, rfl, hr, hs1, hg1⟩
  have hr1 : 1 ≤ r ∧ r ≤ 10 := by simp at hr; omega
  obtain ⟨n, rfl⟩ : ∃ n : Nat, r = n := ⟨r.toNat, by omega⟩
  have G := grown_trans (World.grownBy_alloc w _ (some p)) hg1
  clear hr hg1
  go_wp2_with (
    at_make
    go_must (refine wpList_make_full _ rfl _ _ 26 rfl w1.heap.size 55 i0 (.agg #[.int .i64 0, .int .i64 0, .slice none 0 0, .int .i64 0]) 4 Tryz.underlying26 hi hz0 hz1 _ _ _ _ n rfl rfl rfl rfl (by rw [hz2]; omega) (by unfold maxLen; omega) (Nat.le_refl _) ?_)
    intro w2 hown hg2
    have hO : Own KPage 55 w2 (fun j => w1.heap.size = j) (.slice (some ⟨w1.heap.size, 0, none⟩) n n) n (List.replicate n Pg.free) := Own.of_made (K := KPage) (z := .agg #[.int .i64 0, .int .i64 0, .slice none 0 0, .int .i64 0]) hown rfl rfl (KPage_own_mk (p := Pg.free) Own.nil)
    have S2 : Src w2 p (k + 1) := hs1.below ((Below.refl _ _).grown hg2 (Nat.le_refl _) (by simp))
    have G2 : w.grownBy w2 (some p) := grown_trans G ⟨hg2.os, hg2.tape, hg2.output, hg2.size, fun i hi _ => hg2.block i hi (by simp)⟩
    have hz2' := hg2.size
    have hs2 : w1.heap.size < w2.heap.size := (hO.lst.2.2.2.lt (by omega)).elim fun b ⟨off, hb, hlt, he⟩ => by have := he; omega
    have hG1 := G.size
    have HD := Lib.hid (show Drawing w p (.slice (some ⟨w1.heap.size, 0, none⟩) n n) n (.slice (some ⟨w2.heap.size, 0, none⟩) 0 0) 0 (k + 1) (w2.alloc (.cells #[] 2)) from
      ⟨_, [], _, (fun j => j = w2.heap.size), hO.alloc _, Own.empty (heap_alloc_new w2 _) rfl, (fun j hj => by omega), (fun j hj => ⟨by omega, by omega⟩), Rough.free n, (fun x hx => by simp at hx), S2.below ((Below.refl _ _).alloc (Nat.le_refl _) _), grown_trans G2 (World.grownBy_alloc _ _ (some p)), HP.out⟩)
    have HN := Lib.hid (show 1 ≤ n ∧ n ≤ 10 by omega)
    clear hO S2 G2 hown hg2 hs1 G)
  refine (next_calls HD.out.src (by omega)).mono ?_
  rintro e w3 ⟨r, rfl, r0, r1, _, S3, hg3⟩
  obtain ⟨i, rfl⟩ : ∃ i : Nat, r = i := ⟨r.toNat, by omega⟩
  have hi30 : i ≤ 29 := by have := r1 (by omega); omega
  have HD3 := Lib.hid (HD.out.drawn S3 hg3)
  clear S3 hg3 r0 r1 HD
  go_wp2_with fail
  go_loopw [4, 5] (fun vs t wr => ∃ i m k' : Nat, i ≤ 29 ∧ t = .int .i64 i ∧ m + i ≤ 30 ∧ k' + 3 * i ≤ k + 100 ∧ Drawing w p (.slice (some ⟨w1.heap.size, 0, none⟩) n n) n vs m k' wr) (fun _ t _ => (intOf t).toNat)
  case atStart => exact ⟨i, 0, k + 1 + 1, hi30, rfl, by omega, by omega, HD3.out⟩
  case round =>
    clear HD3 hi30
    obtain ⟨q, m, k1, hi29, rfl, hm, hk1, hD⟩ := hrel
    have HD := Lib.hid hD
    clear hD
    by_cases hlt : 0 < q
    · have hlt' : (0 : Int) < (q : Int) := by omega
      go_wp2_with fail
      refine (next_calls HD.out.src (by omega)).mono ?_
      rintro e w4 ⟨x, rfl, x0, x1, _, S4, hg4⟩
      have HD4 := Lib.hid (HD.out.drawn S4 hg4)
      clear S4 hg4 x1 HD
      by_cases e0 : x = 0
      · subst e0
        go_wp2_with fail
        refine (next_calls HD4.out.src (by omega)).mono ?_
        rintro e w5 ⟨y, rfl, y0, y1, _, S5, hg5⟩
        obtain ⟨z, hz⟩ : ∃ z : Nat, (1 : Int) + y = z := ⟨(1 + y).toNat, by omega⟩
        have hz3 : 1 ≤ z ∧ z ≤ 3 := by have := y1 (by omega); omega
        obtain ⟨ps, SP, hO, hR, hup⟩ := (HD4.out.drawn S5 hg5).pages
        have HU := Lib.hid hup
        have HD5 := Lib.hid (HD4.out.drawn S5 hg5)
        clear S5 hg5 y1 HD4 hup
        go_wp2_with fail
        refine (l4Run_calls hO.lst.2.2.2 (by omega) (by omega) (by omega)).mono ?_
        rintro e w' ⟨rfl, rfl⟩
        rcases runAt_in (m := z) (ps := ps) (by omega) with hr | ⟨j, hr, hjn⟩
        · generalize runAt z ps = R at hr ⊢
          have hr' : ¬ (0 : Int) ≤ R := by omega
          go_wp2_with fail
          go_roundw
          case rel => exact ⟨q - 1, m, k1 + 1 + 1, by omega, by go_num, by omega, by omega, HD5.out⟩
          case measure => simp [intOf]; omega
        · rw [hr]
          have hj0 : (0 : Int) ≤ (j : Int) := by omega
          clear hr HD5
          have hj10 : j + z ≤ n := by have := hO.1; omega
          go_wp2_with fail
          refine (l4Take_calls hO (by omega) (by omega) hj10).mono ?_
          rintro e w6 ⟨rfl, hO6, hT6⟩
          have HD6 := Lib.hid (HU.out w6 _ (hO6.mono (fun j hj _ => .inl hj)) hT6 (hR.run hjn))
          clear HU hO6 hT6 hO hR
          obtain ⟨xs, SS, hX, hpush⟩ := HD6.out.push (st := j * 16) (by omega) (.cells (([(j : Int) * 16] : List Int).map (Value.int .i64)).toArray 2)
          have HPU := Lib.hid hpush
          clear hpush HD6
          go_wp2_with (
            at_builtin
            go_must (refine wpList_append_flat (K := KInt) (S' := fun _ => True) rfl (.tmp 48) (.tmp 51) 27 rfl 2 i6 (.int .i64 0) 8 Tryz.underlying27 hi6 hy0 hy1 hy2 rfl (by decide) flat_int one_int (v := u4) (n := m) (ys := [(j : Int) * 16]) (ao := some ⟨w6.heap.size, 0, none⟩) (m := 1) (c := 1) rfl hX rfl (Ints.lst (Ints.lit rfl rfl)) (by unfold maxLen; omega) (by omega) ?_)
            intro v7 w7 hO7 hT7
            have HD7 := Lib.hid (HPU.out w7 v7 (by first | exact hO7 | simpa using hO7) hT7)
            clear hO7 hT7 HPU hX)
          go_roundw
          case rel => exact ⟨q - 1, m + 1, k1 + 1 + 1, by omega, by go_num, by omega, by omega, HD7.out⟩
          case measure => simp [intOf]; omega
      · by_cases e1 : x = 1
        · subst e1
          obtain ⟨xs, SS, hX, hxs, hup⟩ := HD4.out.starts
          obtain ⟨sa, sc, rfl, hmc, hcm, hXl⟩ := hX.shape
          clear hX hxs hup hXl
          by_cases hm0 : 0 < m
          · have hm0' : (0 : Int) < (m : Int) := by omega
            go_wp2_with fail
            refine (next_calls HD4.out.src (by omega)).mono ?_
            rintro e w5 ⟨y, rfl, y0, y1, _, S5, hg5⟩
            obtain ⟨y, rfl⟩ : ∃ y' : Nat, y = y' := ⟨y.toNat, by omega⟩
            have hy : y < m := by have := y1 (by omega); omega
            have HD5 := Lib.hid (HD4.out.drawn S5 hg5)
            clear S5 hg5 y1 HD4
            obtain ⟨xs, SS, hX, hxs, hup⟩ := HD5.out.starts
            obtain ⟨b, off, rfl, hb, hc⟩ := hX.lst.2.2.2.ints.at_ hy
            obtain ⟨st, hst, hst16⟩ := hxs _ (List.getElem_mem (show y < xs.length by rw [hX.1]; exact hy))
            have hsx : xs.getD y 0 = st := by rw [List.getD_eq_getElem?_getD, List.getElem?_eq_getElem (by rw [hX.1]; exact hy)]; exact hst
            have hc' : w5.cell? ⟨b, off + y, none⟩ = some (.int .i64 st) := by rw [← hsx]; exact hc
            clear hc hsx hst hxs hup hX
            obtain ⟨ps, SP, hO, hR, hup⟩ := HD5.out.pages
            have HU := Lib.hid hup
            clear hup HD5
            go_wp2_with fail
            refine (l4Drop_calls hO (by omega) (by have := hO.1; omega) hR).mono ?_
            rintro e w6 ⟨rfl, hO6, hT6⟩
            have HD6 := Lib.hid (HU.out w6 _ (hO6.mono (fun j hj _ => .inl hj)) hT6 (hR.drop st))
            clear HU hO6 hT6 hO hR
            obtain ⟨xs, SS, hX, hxs, hup⟩ := HD6.out.starts
            have HU := Lib.hid hup
            have HX := Lib.hid hX
            have HXS := Lib.hid hxs
            have HE := Lib.hid (Own.empty (K := KInt) (t := 2) (S := fun j => j = w6.heap.size) (heap_alloc_new w6 (.cells #[] 2)) rfl)
            clear hup hX hxs hc'
            have q1 : IntKind.i64.wrap ((y : Int) + 1) = (y : Int) + 1 := IntWalk.i64_in _ (by unfold maxLen at hcm; omega)
            have q2 : (0 : Int) ≤ (y : Int) + 1 := by omega
            have q3 : ((y : Int) + 1).toNat = y + 1 := by omega
            have q4 : (y : Int) + 1 ≤ (m : Int) := by omega
            have q6 : (y : Int) ≤ (sc : Int) := by omega
            have HT1 : Hid (Lst KInt w6 (fun _ => True) (some ⟨b, off, none⟩) y (xs.take y)) := Lib.hid (by have := (HX.out.lst.2.2.2.part (i := 0) (m := y) (by omega)).mono (S' := fun _ => True) (fun _ _ _ => trivial); simpa using this)
            by_cases hcap : sc = y + 1
            · subst hcap
              obtain rfl : m = y + 1 := by omega
              have q7 : (y : Int) ≤ (y : Int) + 1 := by omega
              have HT2 : Hid (Lst KInt w6 (fun _ => True) (some ⟨b, off, none⟩) 0 (xs.drop (y + 1))) := Lib.hid (by rw [List.drop_eq_nil_of_le (by have := HX.out.1; omega)]; exact Lst.nil)
              go_wp2_with fail
              go_region_law (first
                | (refine step_append_flat (K := KInt) (S' := fun _ => True) rfl (.tmp 68) (.tmp 71) 27 (by rfl) 2 i6 (.int .i64 0) 8 Tryz.underlying27 hi6 hy0 hy1 hy2 rfl (by decide) flat_int one_int (v := .slice (some ⟨w6.heap.size, 0, none⟩) 0 0) (n := 0) (m := y) (c := (y + 1)) (xs := []) (ys := xs.take y) (ao := some ⟨b, off, none⟩) (by rfl) HE.out.drew (by rfl) (HT1.out.alloc _).drew (by unfold maxLen; omega) (by omega) ?_; intro v7 w7 hO7 hT7; have HA := Lib.hid hO7; have HB := Lib.hid (Turn.below ((Below.refl _ _).alloc (Nat.le_refl _) _) (Turn.undrew hT7) (by simp) (fun j hj => by omega) : Below w6.heap.size w6 w7); have hv7 := Lib.hid hO7.shape; clear hO7 hT7)
                | (refine step_append_flat (K := KInt) (S' := fun _ => True) rfl (.tmp 72) (.tmp 76) 27 (by rfl) 2 i6 (.int .i64 0) 8 Tryz.underlying27 hi6 hy0 hy1 hy2 rfl (by decide) flat_int one_int (v := v7) (n := 0 + y) (m := 0) (c := 0) (xs := [] ++ xs.take y) (ys := xs.drop (y + 1)) (ao := some ⟨b, off, none⟩) (by rfl) HA.out (by rfl) (HT2.out.below HB.out) (by unfold maxLen; omega) (by omega) ?_; intro v8 w8 hO8 hT8; have HD8 := Lib.hid (HU.out w8 v8 _ _ (hO8.mono (fun j hj _ => .inr (by have := HB.out.size; have := hj; simp at this; omega))) (Turn.of_below (Turn.below HB.out hT8 HB.out.size (fun j hj => by have := hj; simp at this; omega))) (sub_places HXS.out y)); clear hO8 hT8))
              all_goals
                clear HA HB hv7
                go_wp2_with fail
                go_roundw
                case rel => exact ⟨q - 1, _, k1 + 1 + 1, by omega, by go_num, by omega, by omega, HD8.out⟩
                case measure => simp [intOf]; omega
            · have HT2 : Hid (Lst KInt w6 (fun _ => True) (some ⟨b, off + (y + 1), none⟩) (m - (y + 1)) (xs.drop (y + 1))) := Lib.hid (by have := (HX.out.lst.2.2.2.part (i := y + 1) (m := m - (y + 1)) (by omega)).mono (S' := fun _ => True) (fun _ _ _ => trivial); rw [List.take_of_length_le (by rw [List.length_drop, HX.out.1]; exact Nat.le_refl _)] at this; simpa [KInt] using this)
              go_wp2_with fail
              go_region_law (first
                | (refine step_append_flat (K := KInt) (S' := fun _ => True) rfl (.tmp 68) (.tmp 71) 27 (by rfl) 2 i6 (.int .i64 0) 8 Tryz.underlying27 hi6 hy0 hy1 hy2 rfl (by decide) flat_int one_int (v := .slice (some ⟨w6.heap.size, 0, none⟩) 0 0) (n := 0) (m := y) (c := sc) (xs := []) (ys := xs.take y) (ao := some ⟨b, off, none⟩) (by rfl) HE.out.drew (by rfl) (HT1.out.alloc _).drew (by unfold maxLen; omega) (by omega) ?_; intro v7 w7 hO7 hT7; have HA := Lib.hid hO7; have HB := Lib.hid (Turn.below ((Below.refl _ _).alloc (Nat.le_refl _) _) (Turn.undrew hT7) (by simp) (fun j hj => by omega) : Below w6.heap.size w6 w7); have hv7 := Lib.hid hO7.shape; clear hO7 hT7)
                | (refine step_append_flat (K := KInt) (S' := fun _ => True) rfl (.tmp 72) (.tmp 76) 27 (by rfl) 2 i6 (.int .i64 0) 8 Tryz.underlying27 hi6 hy0 hy1 hy2 rfl (by decide) flat_int one_int (v := v7) (n := 0 + y) (m := m - (y + 1)) (c := sc - (y + 1)) (xs := [] ++ xs.take y) (ys := xs.drop (y + 1)) (ao := some ⟨b, off + (y + 1), none⟩) (by rfl) HA.out (by rfl) (HT2.out.below HB.out) (by unfold maxLen; omega) (by omega) ?_; intro v8 w8 hO8 hT8; have HD8 := Lib.hid (HU.out w8 v8 _ _ (hO8.mono (fun j hj _ => .inr (by have := HB.out.size; have := hj; simp at this; omega))) (Turn.of_below (Turn.below HB.out hT8 HB.out.size (fun j hj => by have := hj; simp at this; omega))) (sub_places HXS.out y)); clear hO8 hT8))
              all_goals
                clear HA HB hv7
                go_wp2_with fail
                go_roundw
                case rel => exact ⟨q - 1, _, k1 + 1 + 1, by omega, by go_num, by omega, by omega, HD8.out⟩
                case measure => simp [intOf]; omega
          · obtain rfl : m = 0 := by omega
            go_wp2_with fail
            go_roundw
            case rel => exact ⟨q - 1, 0, k1 + 1, by omega, by go_num, by omega, by omega, HD4.out⟩
            case measure => simp [intOf]; omega
        · have e0' : (x == 0) = false := by simpa using e0
          have e1' : (x == 1) = false := by simpa using e1
          clear x0
          go_wp2_with fail
          refine (next_calls HD4.out.src (by omega)).mono ?_
          rintro e w5 ⟨y, rfl, y0, y1, _, S5, hg5⟩
          have y3 : y ≤ 3 := by have := y1 (by omega); omega
          have HD5 := Lib.hid (HD4.out.drawn S5 hg5)
          clear S5 hg5 y1 HD4
          go_wp2_with fail
          obtain ⟨ps, SP, hO, hR, hup⟩ := HD5.out.pages
          refine (l4Slot_calls hO (fun p hp => Nat.le_trans (hR.short p hp) (by omega)) (by omega) y0 y3).mono ?_
          rintro e w6 ⟨rfl, hO6, hT6⟩
          have HD6 := Lib.hid (hup w6 _ hO6 hT6 (hR.slotPut y0 y3))
          rcases slotAt_in hR y0 y3 with hr | ⟨st, hr, hst⟩
          · generalize slotAt ps y = R at hr ⊢
            have hr' : ¬ (0 : Int) ≤ R := by omega
            clear hup hO hR hO6 hT6 HD5
            go_wp2_with fail
            go_roundw
            case rel => exact ⟨q - 1, m, k1 + 1 + 1, by omega, by go_num, by omega, by omega, HD6.out⟩
            case measure => simp [intOf]; omega
          · rw [hr]
            have hj0 : (0 : Int) ≤ (st : Int) := by omega
            have hst10 : st < 16 * n := by have := hO.1; omega
            clear hr hup hO hR hO6 hT6 HD5 hst
            obtain ⟨xs, SS, hX, hpush⟩ := HD6.out.push (st := st) (by omega) (.cells (([(st : Int)] : List Int).map (Value.int .i64)).toArray 2)
            have HPU := Lib.hid hpush
            clear hpush HD6
            go_wp2_with (
              at_builtin
              go_must (refine wpList_append_flat (K := KInt) (S' := fun _ => True) rfl (.tmp 30) (.tmp 32) 27 rfl 2 i6 (.int .i64 0) 8 Tryz.underlying27 hi6 hy0 hy1 hy2 rfl (by decide) flat_int one_int (v := u4) (n := m) (ys := [(st : Int)]) (ao := some ⟨w6.heap.size, 0, none⟩) (m := 1) (c := 1) rfl hX rfl (Ints.lst (Ints.lit rfl rfl)) (by unfold maxLen; omega) (by omega) ?_)
              intro v7 w7 hO7 hT7
              have HD7 := Lib.hid (HPU.out w7 v7 (by first | exact hO7 | simpa using hO7) hT7)
              clear hO7 hT7 HPU hX)
            go_roundw
            case rel => exact ⟨q - 1, m + 1, k1 + 1 + 1, by omega, by go_num, by omega, by omega, HD7.out⟩
            case measure => simp [intOf]; omega
    · have hlt' : ¬ (0 : Int) < (q : Int) := by omega
      obtain rfl : q = 0 := by omega
      obtain ⟨ps, SP, hO, hR, hup⟩ := HD.out.pages
      have F : Hid (DrawnMade w p k 10 Rough (.returned (.slice (some ⟨w1.heap.size, 0, none⟩) n n)) wr) := by
        obtain ⟨ps, xs, SP, SS, h1, h2, h3, h4, h5, h6, h7, h8, h9⟩ := HD.out
        exact ⟨_, n, ps, k1, rfl, h1.mono (fun j hj _ => h3 j hj), HN.out.1, HN.out.2, h5, h7, by omega, h8⟩
      clear hO hR hup HD
      go_wp2_with fail
      go_ret
      exact F.out
end Go.Proofs.YtcnpckaacigbfaaGreat
