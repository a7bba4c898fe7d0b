/- Chapter 4 of the program: a block that is taken. -/
import Derived.Test.YtkikjoalhohlgaaCopy4
import Derived.Deep.RegionHeld3
import Derived.Test.YtkikjoalhohlgaaImpl4e
import Derived.Test.YtkikjoalhohlgaaSpec4i
namespace Go.Proofs.Ytkikjoalhohlgaa
open Go.RowKit

theorem as_ss (v : Value) (w : World) : (Instr.typeAssert (.iface 107 v) 71 107 true).run Try.prog w = .ok (.tuple #[v, .bool true]) w := by kernel_rfl
theorem as_rr (v : Value) (w : World) : (Instr.typeAssert (.iface 80 v) 71 80 true).run Try.prog w = .ok (.tuple #[v, .bool true]) w := by kernel_rfl
theorem as_rs (v : Value) (w : World) : (Instr.typeAssert (.iface 80 v) 71 107 true).run Try.prog w = .ok (.tuple #[.agg #[.int .i64 0, .int .i64 0, .int .i64 0], .bool false]) w := by kernel_rfl

set_option maxRecDepth 100000 in
set_option maxHeartbeats 2000000 in
theorem withSlot_calls {a : Option Addr} {n cc i s : Nat} {c : Int} {p : Pg} {ps : List Pg} {S : Nat → Prop} {w : World} (hT : Lst KPage w S a n ps) (hS : ShortP 16 ps) (hn : n ≤ 40) (hp : ps[i]? = some p) (hk : p.kind = 1) (hc0 : 0 ≤ c) (hc3 : c ≤ 3) (hs : s < p.used.length) :
    Calls Try.prog 62 #[.slice a n cc, .iface 107 (.agg #[.int .i64 i, .int .i64 c, .int .i64 s])] w (RetsPages w (0, putSlot ps c i s, (i : Int) * 16 + s * sizeW c)) := by
  have HL := Lib.hid hT.1
  have HP := Lib.hid hp
  have HK := Lib.hid hk
  have hin : i < n := by have := (List.getElem?_eq_some_iff.1 hp).1; have := hT.1; omega
  have hs15 : s ≤ 15 := by have := hS.at_ hp; omega
  clear hp hk
  have qs := as_ss
  have qr := as_rr
  have qrs := as_rs
  go_enter Try.func62, Try.ntmps62
  go_wp2_with fail
  refine (copyPages_calls (hT.alloc _) (fun q hq => by have := hS q hq; omega) (by omega)).mono ?_
  rintro e w1 ⟨v, rfl, hown, hb1⟩
  have hres := Row.new hb1
  have hb := below_past hb1
  clear hb1
  obtain ⟨g, cap, p', a0, l, c0, F, rfl, g0, hgS, hp', ⟨q0, q1, q2, q3⟩, ⟨f0, f1, f2, f3⟩, ⟨hU, hF, hlc, hcm⟩, hset, hus⟩ := hown.pg_at (j := i) hin
  obtain rfl : p = p' := by have := HP.out; rw [hp'] at this; injection this with this; exact this.symm
  have hll : l = p.used.length := by have := hU.1; omega
  rw [HK.out] at q0
  have hsl : s < l := by omega
  obtain ⟨o, ho⟩ : ∃ o, o = Obj.cells #[.int .i64 i, .int .i64 c, .int .i64 s] 107 := ⟨_, rfl⟩
  have hbox : Row (w1.alloc o) w1.heap.size 107 #[.int .i64 i, .int .i64 c, .int .i64 s] := by rw [ho]; exact heap_alloc_new _ _
  have x2 : (w1.alloc o).cell? ⟨w1.heap.size, 2, none⟩ = some (.int .i64 s) := by rw [hbox.cell]; rfl
  have kA : Below w1.heap.size w1 (w1.alloc o) := (Below.refl _ _).alloc (Nat.le_refl _) o
  have r2 := (kA.cell (p := ⟨g, i * 4 + 2, none⟩) g0).trans q2
  obtain ⟨g2, cap2, hv2, hg2S, hg2, hcl, hfr, hbst⟩ := hU.bool_at hsl
  cases hv2
  obtain ⟨hO1, hT1⟩ := hbst true
  have hg2' := hF g2 hg2S
  have hg2g : g2 ≠ g := hg2'.2.1
  have hg2x : g2 ≠ w1.heap.size := by omega
  have hcl2 := (kA.cell (p := ⟨g2, s, none⟩) hg2).trans hcl
  have hfr2 := (kA.frozen (p := ⟨g2, s, none⟩) hg2).trans hfr
  have kA2 : Below (w1.setCell ⟨g2, s, none⟩ (.bool true)).heap.size (w1.setCell ⟨g2, s, none⟩ (.bool true)) ((w1.setCell ⟨g2, s, none⟩ (.bool true)).alloc o) := (Below.refl _ _).alloc (Nat.le_refl _) o
  have y2 : ((w1.setCell ⟨g2, s, none⟩ (.bool true)).alloc o).cell? ⟨g, i * 4 + 2, none⟩ = some (.slice (some ⟨g2, 0, none⟩) l c0) := (kA2.cell (p := ⟨g, i * 4 + 2, none⟩) (by simpa using g0)).trans ((World.cell?_setCell_other _ _ _ _ (fun e => hg2g (by injection e))).trans q2)
  have hbox2 : Row ((w1.setCell ⟨g2, s, none⟩ (.bool true)).alloc o) w1.heap.size 107 #[.int .i64 i, .int .i64 c, .int .i64 s] := by
    have h1 := heap_alloc_new (w1.setCell ⟨g2, s, none⟩ (.bool true)) o
    rw [World.size_setCell, ho] at h1; rw [ho]; exact h1
  have y5 : ((w1.setCell ⟨g2, s, none⟩ (.bool true)).alloc o).cell? ⟨w1.heap.size, 2, none⟩ = some (.int .i64 s) := by rw [hbox2.cell]; rfl
  have hN := hus _ _ hT1 hO1
  have hPut : Hid (putSlot ps c i s = ps.set i ⟨p.kind, p.cls, p.used.set s true, p.run⟩) := by
    show _ = _; unfold putSlot; rw [HP.out]; simp only [useSlot]; rw [if_neg (by rw [HK.out]; omega)]
  have hresA : Row ((w1.setCell ⟨g2, s, none⟩ (.bool true)).alloc o) w.heap.size 28 #[.int .i64 0, .slice none 0 0, .int .i64 0] := row_alloc (hT1.row hres (fun h => by have := (hF _ h).1; simp at this; omega)) o
  have hbA : Below w.heap.size w ((w1.setCell ⟨g2, s, none⟩ (.bool true)).alloc o) := (hT1.below hb hb.size (fun k hk => by have := (hF _ hk).1; simp at this; omega)).alloc (by simpa using hb.size) o
  have HN := Lib.hid (And.intro (hN.1.alloc o) (And.intro hresA hbA))
  generalize p.used.getD s false = u0 at hcl2
  clear hset hus hbst hown hU hO1 hT1 hN hresA hbA hF hcl hfr
  subst ho
  go_wp2_with fail
  go_region_held3 (fun w' => w'.cell? ⟨g, i * 4 + 2, none⟩ = some (.slice (some ⟨g2, 0, none⟩) l c0) ∧ w'.cell? ⟨w1.heap.size, 2, none⟩ = some (.int .i64 s)) (first | assumption | exact ⟨r2, x2⟩ | exact ⟨y2, y5⟩)
    (fail)
  go_wp2_with fail
  refine (slotStart_calls hc0 hc3 (by omega) (by omega) (by omega) (by omega)).mono ?_
  rintro e w3 ⟨rfl, hb3⟩
  have hb3' : Below ((w1.setCell ⟨g2, s, none⟩ (.bool true)).alloc (.cells #[.int .i64 i, .int .i64 c, .int .i64 s] 107)).heap.size ((w1.setCell ⟨g2, s, none⟩ (.bool true)).alloc (.cells #[.int .i64 i, .int .i64 c, .int .i64 s] 107)) w3 := ⟨hb3.os, hb3.tape, hb3.output, hb3.size, hb3.block⟩
  have hresB := Row.below HN.out.2.1 hb3'
  have HM : Hid (Own KPage 45 w3 (fun k => w.heap.size < k) (.slice (some ⟨g, 0, none⟩) n cap) n (putSlot ps c i s) ∧ Below w.heap.size w w3) := by
    rw [hPut.out]
    exact ⟨(HN.out.1.below hb3').mono (fun k hk _ => by simp at hk; omega), HN.out.2.2.trans (hb3'.mono HN.out.2.2.size)⟩
  clear hb3 hb3'
  go_wp2_with (refine wpList_store_row rfl 28 _ _ rfl w.heap.size _ rfl rfl _ _ hresB (by kernel_rfl) (by rfl) (by simp [Value.oneCell']) ?_)
  refine bodyPost_ret (results_cell_row rfl _ _ w.heap.size _ _ _ _ rfl (setRow_heap _ _ _ _ _ _ hresB) Try.underlying28 rfl (by kernel_rfl)) rfl ?_
  exact pages_done HM.out.2 (Nat.le_refl _) HM.out.1 _ rfl
theorem keep1 {W a b : World} {p : Addr} {x : Value} (h : a.cell? p = some x ∧ Below W.heap.size W a) (hb : Below a.heap.size a b) : b.cell? p = some x ∧ Below W.heap.size W b :=
  ⟨(hb.cell (World.block_lt_of_cell? _ _ h.1)).trans h.1, h.2.trans (hb.mono h.2.size)⟩
theorem keep1_set {W a : World} {p q : Addr} {x v : Value} (h : a.cell? p = some x ∧ Below W.heap.size W a) (hx : q.block ≠ p.block) (hg : W.heap.size ≤ q.block) : (a.setCell q v).cell? p = some x ∧ Below W.heap.size W (a.setCell q v) :=
  ⟨(World.cell?_setCell_other _ _ _ _ (fun e => hx (by rw [e]))).trans h.1, h.2.setCell hg _⟩
theorem keep1_drew {W a : World} {p : Addr} {x : Value} (h : a.cell? p = some x ∧ Below W.heap.size W a) : a.drew.cell? p = some x ∧ Below W.heap.size W a.drew := ⟨h.1, h.2.drew⟩
set_option maxRecDepth 100000 in
set_option maxHeartbeats 2000000 in
theorem withFree_calls {a : Option Addr} {n cc i : Nat} {c : Int} {p : Pg} {ps : List Pg} {S : Nat → Prop} {w : World} (hT : Lst KPage w S a n ps) (hS : ShortP 16 ps) (hn : n ≤ 40) (hp : ps[i]? = some p) (hk : p.kind = 0) (hc0 : 0 ≤ c) (hc3 : c ≤ 3) :
    Calls Try.prog 62 #[.slice a n cc, .iface 107 (.agg #[.int .i64 i, .int .i64 c, .int .i64 0])] w (RetsPages w (0, putSlot ps c i 0, (i : Int) * 16)) := by
  have HL := Lib.hid hT.1
  have HP := Lib.hid hp
  have HK := Lib.hid hk
  have hin : i < n := by have := (List.getElem?_eq_some_iff.1 hp).1; have := hT.1; omega
  clear hp hk
  have qs := as_ss
  obtain ⟨ib, hib, hb0, hb1', hb2'⟩ := info_parts infoBool
  obtain ⟨z, hz⟩ : ∃ z : Nat, (16 : Int) / sizeW c = z := ⟨(16 / sizeW c).toNat, by rw [Int.toNat_of_nonneg (Int.ediv_nonneg (by omega) (by have := sizeW_small c; omega))]⟩
  have hz16 : z ≤ 16 := by have := Int.ediv_le_self (a := 16) (sizeW c) (by omega); omega
  have hz1 : 1 ≤ z := by
    rcases (show c = 0 ∨ c = 1 ∨ c = 2 ∨ c = 3 by omega) with e | e | e | e <;> rw [e] at hz <;> simp [sizeW] at hz <;> omega
  have hmk := fun W => run_make (P := Try.prog) W 43 4 ib (.bool false) Try.underlying43 hib hb0 .i64 .i64 z z (by omega) (Int.le_refl _) (by rw [hb2']; omega) (by omega)
  simp only [Int.toNat_natCast, hb1'] at hmk
  have rf := fun W => run_field_P1 W (.int .i64 0) (.int .i64 z)
  have qr := as_rr
  have qrs := as_rs
  go_enter Try.func62, Try.ntmps62
  go_wp2_with fail
  refine (copyPages_calls (hT.alloc _) (fun q hq => by have := hS q hq; omega) (by omega)).mono ?_
  rintro e w1 ⟨v, rfl, hown, hb1⟩
  have hres := Row.new hb1
  have hb := below_past hb1
  clear hb1
  obtain ⟨g, cap, p', a0, l, c0, F, rfl, g0, hgS, hp', ⟨q0, q1, q2, q3⟩, ⟨f0, f1, f2, f3⟩, ⟨hU, hF, hlc, hcm⟩, hset, hus⟩ := hown.here.pg_at (j := i) hin
  obtain rfl : p = p' := by have := HP.out; rw [hp'] at this; injection this with this; exact this.symm
  have hll : l = p.used.length := by have := hU.1; omega
  rw [HK.out] at q0
  go_wp2_with fail
  obtain ⟨o, ho⟩ : ∃ o, o = Obj.cells #[.int .i64 i, .int .i64 c, .int .i64 0] 107 := ⟨_, rfl⟩
  have hbox : Row (w1.alloc o) w1.heap.size 107 #[.int .i64 i, .int .i64 c, .int .i64 0] := by rw [ho]; exact heap_alloc_new _ _
  have x1 : (w1.alloc o).cell? ⟨w1.heap.size, 1, none⟩ = some (.int .i64 c) := by rw [hbox.cell]; rfl
  have kA : Below w1.heap.size w1 (w1.alloc o) := (Below.refl _ _).alloc (Nat.le_refl _) o
  have hgw : w.heap.size ≤ g := by have := hgS.1; simp at this; omega
  have hgx : g ≠ w1.heap.size := by omega
  have hS0 : (w1.alloc o).drew.cell? ⟨w1.heap.size, 1, none⟩ = some (.int .i64 c) ∧ Below w.heap.size w (w1.alloc o).drew := ⟨x1, (hb.alloc hb.size o).drew⟩
  have p0 := (kA.cell (p := ⟨g, i * 4, none⟩) g0).trans q0
  have p1 := (kA.cell (p := ⟨g, i * 4 + 1, none⟩) g0).trans q1
  have p2 := (kA.cell (p := ⟨g, i * 4 + 2, none⟩) g0).trans q2
  have p3 := (kA.cell (p := ⟨g, i * 4 + 3, none⟩) g0).trans q3
  have d0 := (kA.frozen (p := ⟨g, i * 4, none⟩) g0).trans f0
  have d1 := (kA.frozen (p := ⟨g, i * 4 + 1, none⟩) g0).trans f1
  have d2 := (kA.frozen (p := ⟨g, i * 4 + 2, none⟩) g0).trans f2
  have d3 := (kA.frozen (p := ⟨g, i * 4 + 3, none⟩) g0).trans f3
  have HSET := Lib.hid hset
  have HF := Lib.hid hF
  have HRES := Lib.hid hres
  have HQ := Lib.hid (And.intro p0 (And.intro p1 (And.intro p2 (And.intro p3 (And.intro d0 (And.intro d1 (And.intro d2 (And.intro d3 (Nat.lt_of_lt_of_le g0 kA.size)))))))))
  have hsk : ∀ W, Calls Try.prog 96 #[.int .i64 c] W fun e w' => e = .returned (.agg #[.int .i64 0, .int .i64 z]) ∧ Below W.heap.size W w' := fun W => by have := slots_known (w := W) hc0 hc3; rw [hz] at this; exact this
  have HZ := Lib.hid hz
  clear hz
  subst ho
  clear q0 q1 q2 q3 f0 f1 f2 f3 p0 p1 p2 p3 d0 d1 d2 d3
  have HSK := Lib.hid hsk
  clear hsk x1
  go_region_held3 (fun w' => w'.cell? ⟨w1.heap.size, 1, none⟩ = some (.int .i64 c) ∧ Below w.heap.size w w')
    (first | with_reducible assumption | with_reducible exact hS0 | with_reducible exact keep1 (by with_reducible assumption) ((Below.refl _ _).alloc (Nat.le_refl _) _) | with_reducible exact keep1 (keep1_set (keep1_set (keep1_set (keep1_set (by with_reducible assumption) hgx hgw) hgx hgw) hgx hgw) hgx hgw) ((Below.refl _ _).alloc (Nat.le_refl _) _))
    ((go_at_call 96; have hq := hS0; refine (HSK.out _).mono ?_; rintro e w2 ⟨rfl, b1⟩; have hS' := keep1 hq b1; have HB1 := Lib.hid b1; obtain ⟨p0, p1, p2, p3, d0, d1, d2, d3, gl⟩ := HQ.out; have p0' := (b1.cell (p := ⟨g, i * 4, none⟩) gl).trans p0; have p1' := (b1.cell (p := ⟨g, i * 4 + 1, none⟩) gl).trans p1; have p2' := (b1.cell (p := ⟨g, i * 4 + 2, none⟩) gl).trans p2; have p3' := (b1.cell (p := ⟨g, i * 4 + 3, none⟩) gl).trans p3; have d0' := (b1.frozen (p := ⟨g, i * 4, none⟩) gl).trans d0; have d1' := (b1.frozen (p := ⟨g, i * 4 + 1, none⟩) gl).trans d1; have d2' := (b1.frozen (p := ⟨g, i * 4 + 2, none⟩) gl).trans d2; have d3' := (b1.frozen (p := ⟨g, i * 4 + 3, none⟩) gl).trans d3; have gl2 : g < w2.heap.size := Nat.lt_of_lt_of_le gl b1.size; clear p0 p1 p2 p3 d0 d1 d2 d3 gl hq))
  clear hS'
  have hb2 : Below w1.heap.size w1 w2 := by
    have := HB1.out
    exact below_past (o := .cells #[.int .i64 i, .int .i64 c, .int .i64 0] 107) ⟨this.os, this.tape, this.output, this.size, this.block⟩
  have hbx2 : Row w2 w1.heap.size 107 #[.int .i64 i, .int .i64 c, .int .i64 0] := by
    have h1 := HB1.out.block w1.heap.size (by simp)
    exact h1.trans (heap_alloc_new w1 (.cells #[.int .i64 i, .int .i64 c, .int .i64 0] 107))
  have hs12 : w1.heap.size < w2.heap.size := hbx2.lt
  obtain ⟨M, hM⟩ : ∃ M, M = Obj.cells (madeCells #[.bool false] z) 4 := ⟨_, rfl⟩
  have hUM : Own KBool 4 (w2.alloc M) (fun q => q = w2.heap.size) (.slice (some ⟨w2.heap.size, 0, none⟩) z z) z (List.replicate z false) := by
    rw [hM]
    refine Own.of_made (B := 0) (z := .bool false) ?_ rfl rfl rfl
    have := World.ownsRow_lit (w := w2) (base := 0) (e := 4) (size := 1) (madeCells #[.bool false] z) z (Nat.zero_le _) (by unfold maxLen; omega) (by rw [size_madeCells, Nat.mul_one])
    simpa [KBool, Value.cells] using this
  obtain ⟨hA, hB, hC⟩ := HSET.out (w2.alloc M) ⟨1, c, List.replicate z false, 0⟩ (.slice (some ⟨w2.heap.size, 0, none⟩) z z) z (fun q => q = w2.heap.size) (Turn.of_below (hb2.alloc hb2.size M)) hUM (fun q hq hlt _ => by have := hb2.size; omega)
  simp only [] at hA hB hC
  rw [World.setCell_alloc_past M g (i * 4) _ gl2, World.setCell_alloc_past M g (i * 4 + 1) _ (by simpa using gl2), World.setCell_alloc_past M g (i * 4 + 2) _ (by simpa using gl2), World.setCell_alloc_past M g (i * 4 + 3) _ (by simpa using gl2)] at hA hB hC
  rw [hM] at hA hB hC
  clear hM hUM
  generalize hW3 : ((((w2.setCell ⟨g, i * 4, none⟩ (.int .i64 1)).setCell ⟨g, i * 4 + 1, none⟩ (.int .i64 c)).setCell ⟨g, i * 4 + 2, none⟩ (.slice (some ⟨w2.heap.size, 0, none⟩) z z)).setCell ⟨g, i * 4 + 3, none⟩ (.int .i64 0)).alloc (.cells (madeCells #[.bool false] z) 4) = W3 at hA hB hC ⊢
  have hbx3 : Row W3 w1.heap.size 107 #[.int .i64 i, .int .i64 c, .int .i64 0] := by
    rw [← hW3]
    refine row_alloc ?_ _
    exact ((Turn.set4 (w1 := w2) (g := g) (o0 := i * 4) (o1 := i * 4 + 1) (o2 := i * 4 + 2) (o3 := i * 4 + 3) (a := .int .i64 1) (b := .int .i64 c) (c := .slice (some ⟨w2.heap.size, 0, none⟩) z z) (d := .int .i64 0)).row hbx2 (fun e => hgx e.symm))
  have x2 : W3.cell? ⟨w1.heap.size, 2, none⟩ = some (.int .i64 0) := by rw [hbx3.cell]; rfl
  have hres3 : Row W3 w.heap.size 28 #[.int .i64 0, .slice none 0 0, .int .i64 0] := hB.row HRES.out (fun h => by have h1 : w.heap.size + 1 ≤ w.heap.size := (by simpa using h.1); omega)
  have hb3 : Below w.heap.size w W3 := hB.below hb hb.size (fun k hk => by have h1 := hk.1; simp at h1; omega)
  obtain ⟨g', cap', p', a', l', c', F', he', g0', hgS', hp', ⟨z0, z1, z2, z3⟩, _, ⟨hU', hF', _, _⟩, _, hus'⟩ := hA.pg_at hin
  cases he'
  have hp2 : p' = ⟨1, c, List.replicate z false, 0⟩ := by
    rw [List.getElem?_set_self (by have := HL.out; omega)] at hp'
    injection hp' with hp'; exact hp'.symm
  subst hp2
  obtain ⟨g2, cap2, hv2, hg2S, hg2, hcl, hfr, hbst⟩ := hU'.bool_at (j := 0) (by have := hU'.1; simp at this; omega)
  cases hv2
  obtain ⟨hO1, hT1⟩ := hbst true
  have hg2' := hF' g2 hg2S
  have hg2g : g2 ≠ g := hg2'.2.1
  have hg2x : g2 ≠ w1.heap.size := by
    rcases hg2'.1 with h | h
    · have := h.2; omega
    · omega
  have hg2r : w.heap.size < g2 := by
    rcases hg2'.1 with h | h
    · have := h.1; simp at this; omega
    · have := hb.size; omega
  have y2 : (W3.setCell ⟨g2, 0, none⟩ (.bool true)).cell? ⟨g, i * 4 + 2, none⟩ = some (.slice (some ⟨g2, 0, none⟩) l' c') := (World.cell?_setCell_other _ _ _ _ (fun e => hg2g (by injection e))).trans z2
  have y5 : (W3.setCell ⟨g2, 0, none⟩ (.bool true)).cell? ⟨w1.heap.size, 2, none⟩ = some (.int .i64 0) := (World.cell?_setCell_other _ _ _ _ (fun e => hg2x (by injection e))).trans x2
  have hN := hus' _ _ hT1 hO1
  have hl' : 0 < l' := by have := hU'.1; simp at this; omega
  have hPut : Hid (putSlot ps c i 0 = ps.set i ⟨1, c, (List.replicate z false).set 0 true, 0⟩) := by
    show _ = _; unfold putSlot; rw [HP.out]; simp only [useSlot]; rw [if_pos HK.out, HZ.out, Int.toNat_natCast]
  have hresA : Row (W3.setCell ⟨g2, 0, none⟩ (.bool true)) w.heap.size 28 #[.int .i64 0, .slice none 0 0, .int .i64 0] := hT1.row hres3 (fun h => by
    rcases (hF' _ h).1 with h1 | h1
    · have h2 : w.heap.size + 1 ≤ w.heap.size := (by simpa using h1.1)
      omega
    · have := hb.size; omega)
  have hbA : Below w.heap.size w (W3.setCell ⟨g2, 0, none⟩ (.bool true)) := hT1.below hb3 hb3.size (fun k hk => by
    rcases (hF' _ hk).1 with h1 | h1
    · have h2 := h1.1; simp at h2; omega
    · have := hb.size; omega)
  have hset2 := hN.1
  simp only [List.set_set] at hset2
  have HN := Lib.hid (And.intro hset2 (And.intro hresA hbA))
  generalize (List.replicate z false).getD 0 false = u0 at hcl
  clear hset hus hus' hbst hown hU hU' hO1 hT1 hN hresA hbA hF' hW3 p0' p1' p2' p3' d0' d1' d2' d3' hS0 hA hB hC hset2 z0 z1 z3
  go_wp2_with fail
  go_region_held3 (fun w' => w'.cell? ⟨g, i * 4 + 2, none⟩ = some (.slice (some ⟨g2, 0, none⟩) l' c') ∧ w'.cell? ⟨w1.heap.size, 2, none⟩ = some (.int .i64 0)) (first | with_reducible assumption | with_reducible exact ⟨z2, x2⟩ | with_reducible exact ⟨y2, y5⟩ | exact ⟨z2, x2⟩ | exact ⟨y2, y5⟩)
    (fail)
  go_wp2_with fail
  refine (slotStart_calls hc0 hc3 (by omega) (by omega) (by omega) (by omega)).mono ?_
  rintro e w4 ⟨rfl, hb4⟩
  have hb4' : Below (W3.setCell ⟨g2, 0, none⟩ (.bool true)).heap.size (W3.setCell ⟨g2, 0, none⟩ (.bool true)) w4 := ⟨hb4.os, hb4.tape, hb4.output, hb4.size, hb4.block⟩
  have hresB := Row.below HN.out.2.1 hb4'
  have HM : Hid (Own KPage 45 w4 (fun k => w.heap.size < k) (.slice (some ⟨g, 0, none⟩) n cap) n (putSlot ps c i 0) ∧ Below w.heap.size w w4) := by
    rw [hPut.out]
    refine ⟨(HN.out.1.below hb4').mono (fun k hk _ => ?_), HN.out.2.2.trans (hb4'.mono HN.out.2.2.size)⟩
    rcases hk with h1 | h1
    · have h2 := h1.1; simp at h2; omega
    · have := hb.size; omega
  clear hb4 hb4'
  go_wp2_with (refine wpList_store_row rfl 28 _ _ rfl w.heap.size _ rfl rfl _ _ hresB (by kernel_rfl) (by rfl) (by simp [Value.oneCell']) ?_)
  refine bodyPost_ret (results_cell_row rfl _ _ w.heap.size _ _ _ _ rfl (setRow_heap _ _ _ _ _ _ hresB) Try.underlying28 rfl (by kernel_rfl)) rfl ?_
  exact pages_done HM.out.2 (Nat.le_refl _) HM.out.1 _ (by simp)

set_option maxRecDepth 100000 in
set_option maxHeartbeats 2000000 in
theorem withRun_calls {a : Option Addr} {n cc i m : Nat} {ps : List Pg} {S : Nat → Prop} {w : World} (hT : Lst KPage w S a n ps) (hS : ShortP 16 ps) (hn : n ≤ 40) (hm0 : 0 < m) (hm : i + m ≤ n) :
    Calls Try.prog 62 #[.slice a n cc, .iface 80 (.agg #[.int .i64 i, .int .i64 m])] w (RetsPages w (0, putRun ps i m, (i : Int) * 16)) := by
  have HL := Lib.hid hT.1
  have qr := as_rr
  have qrs := as_rs
  go_enter Try.func62, Try.ntmps62
  go_wp2_with fail
  refine (copyPages_calls (hT.alloc _) (fun q hq => by have := hS q hq; omega) (by omega)).mono ?_
  rintro e w1 ⟨v, rfl, hown, hb1⟩
  have hres := Row.new hb1
  have hb := below_past hb1
  clear hb1
  obtain ⟨vo, vc, rfl, _, _, _⟩ := hown.shape
  have ho1 := hown.here
  have hbs := hb.size
  have HI := Lib.hid (And.intro (ho1.alloc (.cells #[.int .i64 i, .int .i64 m] 80)) (And.intro (row_alloc hres (.cells #[.int .i64 i, .int .i64 m] 80)) (hb.alloc hb.size (.cells #[.int .i64 i, .int .i64 m] 80))))
  have hbox := heap_alloc_new w1 (.cells #[.int .i64 i, .int .i64 m] 80)
  have HX := Lib.hid hbox
  clear hown ho1 hbox
  go_wp2_with fail
  go_loopw [9, 47] (fun _ x wr => ∃ k : Nat, k ≤ m ∧ x = .int .i64 k ∧ Own KPage 45 wr (fun q => w.heap.size + 1 ≤ q ∧ q < w1.heap.size) (.slice vo n vc) n (setMany ps i restPg k) ∧ Row wr w1.heap.size 80 #[.int .i64 i, .int .i64 m] ∧ Row wr w.heap.size 28 #[.int .i64 0, .slice none 0 0, .int .i64 0] ∧ Below w.heap.size w wr) (fun _ x _ => m - (intOf x).toNat)
  case atStart => exact ⟨0, Nat.zero_le _, rfl, HI.out.1.mono (fun q hq _ => by simpa using hq), HX.out, HI.out.2.1, HI.out.2.2⟩
  case round =>
    obtain ⟨k, hk, rfl, hO, hB, hR, hbw⟩ := hrel
    have x0 : wr.cell? ⟨w1.heap.size, 0, none⟩ = some (.int .i64 i) := by rw [hB.cell]; rfl
    have x1 : wr.cell? ⟨w1.heap.size, 1, none⟩ = some (.int .i64 m) := by rw [hB.cell]; rfl
    by_cases hlt : k < m
    · obtain ⟨g, cap, p, a', l, c', F, he, g0, hgS, hp, ⟨q0, q1, q2, q3⟩, ⟨f0, f1, f2, f3⟩, _, hset, _⟩ := hO.pg_at (j := i + k) (by omega)
      cases he
      have hN : ((i : Int) + (k : Int)).toNat = i + k := by omega
      have hst := hset wr restPg (.slice none 0 0) 0 (fun _ => False) (Turn.refl _ _) Own.nil (fun _ h => h.elim)
      have H2 := Lib.hid (And.intro (hst.1.mono (S' := fun q => w.heap.size + 1 ≤ q ∧ q < w1.heap.size) (fun q hq _ => hq.elim id False.elim)) (And.intro (hst.2.1.row hB (fun h => by omega)) (And.intro (hst.2.1.row hR (fun h => by omega)) (hst.2.1.below hbw (by have := hbw.size; omega) (fun q hq => by omega)))))
      clear hset hst hO hp hB hR hbw
      go_wp2_with fail
      go_roundw
      case rel => exact ⟨k + 1, by omega, by go_num, H2.out.1, H2.out.2.1, H2.out.2.2.1, H2.out.2.2.2⟩
      case measure => simp [intOf]; omega
    · have hkm : k = m := by omega
      obtain ⟨g, cap, p, a', l, c', F, he, g0, hgS, hp, ⟨q0, q1, q2, q3⟩, ⟨f0, f1, f2, f3⟩, _, hset, _⟩ := hO.pg_at (j := i) (by omega)
      cases he
      have hst := hset wr (runPg m) (.slice none 0 0) 0 (fun _ => False) (Turn.refl _ _) Own.nil (fun _ h => h.elim)
      have hOF := hst.1.mono (S' := fun q => w.heap.size + 1 ≤ q ∧ q < w1.heap.size) (fun q hq _ => hq.elim id False.elim)
      rw [hkm] at hOF
      have H2 := Lib.hid (And.intro hOF (And.intro (hst.2.1.row hR (fun h => by omega)) (hst.2.1.below hbw (by have := hbw.size; omega) (fun q hq => by omega))))
      have HK := Lib.hid hkm
      clear hset hst hO hp hB hR hbw hOF hkm
      go_wp2_with fail
      refine (runStart_calls (by omega) (by omega)).mono ?_
      rintro e w4 ⟨rfl, hb4⟩
      have hresB := Row.below H2.out.2.1 hb4
      have HM : Hid (Own KPage 45 w4 (fun q => w.heap.size < q) (.slice (some ⟨g, 0, none⟩) n vc) n (putRun ps i m) ∧ Below w.heap.size w w4) :=
        ⟨(H2.out.1.below hb4).mono (fun q hq _ => by omega), H2.out.2.2.trans (hb4.mono H2.out.2.2.size)⟩
      clear hb4
      go_wp2_with (refine wpList_store_row rfl 28 _ _ rfl w.heap.size _ rfl rfl _ _ hresB (by kernel_rfl) (by rfl) (by simp [Value.oneCell']) ?_)
      refine bodyPost_ret (results_cell_row rfl _ _ w.heap.size _ _ _ _ rfl (setRow_heap _ _ _ _ _ _ hresB) Try.underlying28 rfl (by kernel_rfl)) rfl ?_
      exact pages_done HM.out.2 (Nat.le_refl _) HM.out.1 _ rfl
end Go.Proofs.Ytkikjoalhohlgaa
