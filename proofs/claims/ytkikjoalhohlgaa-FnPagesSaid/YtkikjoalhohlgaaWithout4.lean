/- Chapter 4 of the program: a block that is given back. -/
import Derived.Test.YtkikjoalhohlgaaWith4
namespace Go.Proofs.Ytkikjoalhohlgaa
open Go.RowKit

set_option maxRecDepth 100000 in
set_option maxHeartbeats 4000000 in
theorem withoutSlot_calls {a : Option Addr} {n cc i s : Nat} {c : Int} {p : Pg} {ps : List Pg} {S : Nat → Prop} {w : World} (hT : Lst KPage w S a n ps) (hS : ShortP 16 ps) (hn : n ≤ 40) (hp : ps[i]? = some p) (hk : p.kind = 1) (hc0 : 0 ≤ c) (hc3 : c ≤ 3) (hs : s < p.used.length) :
    Calls Try.prog 69 #[.slice a n cc, .iface 107 (.agg #[.int .i64 i, .int .i64 c, .int .i64 s])] w fun e w' => ∃ v, e = .returned v ∧ Own KPage 45 w' (fun k => w.heap.size ≤ k) v n (dropBlk ps (.slot i c s)) ∧ Below w.heap.size w w' := by
  have HL := Lib.hid hT.1
  have HP := Lib.hid hp
  have HK := Lib.hid hk
  have hin : i < n := by have := (List.getElem?_eq_some_iff.1 hp).1; have := hT.1; omega
  have hs15 : s ≤ 15 := by have := hS.at_ hp; omega
  clear hp hk
  have qs := as_ss
  have qr := as_rr
  have qrs := as_rs
  go_enter Try.func69, Try.ntmps69
  go_wp2_with fail
  refine (copyPages_calls hT (fun q hq => by have := hS q hq; omega) (by omega)).mono ?_
  rintro e w1 ⟨v, rfl, hown, hb1⟩
  have hb := hb1
  clear hb1
  obtain ⟨g, cap, p', a0, l, c0, F, rfl, g0, hgS, hp', ⟨q0, q1, q2, q3⟩, ⟨f0, f1, f2, f3⟩, ⟨hU, hF, hlc, hcm⟩, hset, hus⟩ := hown.pg_at (j := i) hin
  obtain rfl : p = p' := by have := HP.out; rw [hp'] at this; injection this with this; exact this.symm
  have hll : l = p.used.length := by have := hU.1; omega
  rw [HK.out] at q0
  have hsl : s < l := by omega
  have hl16 : l ≤ 16 := by have := hS.at_ HP.out; omega
  have HLL := Lib.hid hll
  clear hll
  obtain ⟨o, ho⟩ : ∃ o, o = Obj.cells #[.int .i64 i, .int .i64 c, .int .i64 s] 107 := ⟨_, rfl⟩
  have hbox : Row (w1.alloc o) w1.heap.size 107 #[.int .i64 i, .int .i64 c, .int .i64 s] := by rw [ho]; exact heap_alloc_new _ _
  have x2 : (w1.alloc o).cell? ⟨w1.heap.size, 2, none⟩ = some (.int .i64 s) := by rw [hbox.cell]; rfl
  have kA : Below w1.heap.size w1 (w1.alloc o) := (Below.refl _ _).alloc (Nat.le_refl _) o
  have r2 := (kA.cell (p := ⟨g, i * 4 + 2, none⟩) g0).trans q2
  obtain ⟨g2, cap2, hv2, hg2S, hg2, hcl, hfr, hbst⟩ := hU.bool_at hsl
  cases hv2
  obtain ⟨hO1, hT1⟩ := hbst false
  have hg2' := hF g2 hg2S
  have hg2g : g2 ≠ g := hg2'.2.1
  have hg2x : g2 ≠ w1.heap.size := by omega
  have hcl2 := (kA.cell (p := ⟨g2, s, none⟩) hg2).trans hcl
  have hfr2 := (kA.frozen (p := ⟨g2, s, none⟩) hg2).trans hfr
  have kA2 : Below (w1.setCell ⟨g2, s, none⟩ (.bool false)).heap.size (w1.setCell ⟨g2, s, none⟩ (.bool false)) ((w1.setCell ⟨g2, s, none⟩ (.bool false)).alloc o) := (Below.refl _ _).alloc (Nat.le_refl _) o
  have y2 : ((w1.setCell ⟨g2, s, none⟩ (.bool false)).alloc o).cell? ⟨g, i * 4 + 2, none⟩ = some (.slice (some ⟨g2, 0, none⟩) l c0) := (kA2.cell (p := ⟨g, i * 4 + 2, none⟩) (by simpa using g0)).trans ((World.cell?_setCell_other _ _ _ _ (fun e => hg2g (by injection e))).trans q2)
  have hbox2 : Row ((w1.setCell ⟨g2, s, none⟩ (.bool false)).alloc o) w1.heap.size 107 #[.int .i64 i, .int .i64 c, .int .i64 s] := by
    have h1 := heap_alloc_new (w1.setCell ⟨g2, s, none⟩ (.bool false)) o
    rw [World.size_setCell, ho] at h1; rw [ho]; exact h1
  have y5 : ((w1.setCell ⟨g2, s, none⟩ (.bool false)).alloc o).cell? ⟨w1.heap.size, 2, none⟩ = some (.int .i64 s) := by rw [hbox2.cell]; rfl
  have hN := hus _ _ hT1 hO1
  have hPut : Hid (dropBlk ps (.slot i c s) = ps.set i (freeSlot p s)) := by
    show _ = _; unfold dropBlk; simp only [HP.out]
  have hbA : Below w.heap.size w ((w1.setCell ⟨g2, s, none⟩ (.bool false)).alloc o) := (hT1.below hb hb.size (fun k hk => (hF _ hk).1)).alloc (by simpa using hb.size) o
  have HN := Lib.hid (And.intro (hN.1.alloc o) (And.intro (hO1.alloc o) hbA))
  generalize p.used.getD s false = u0 at hcl2
  clear hset hus hbst hown hU hO1 hT1 hN hbA hF hcl hfr
  subst ho
  go_wp2_with fail
  go_region_held3 (fun w' => w'.cell? ⟨g, i * 4 + 2, none⟩ = some (.slice (some ⟨g2, 0, none⟩) l c0) ∧ w'.cell? ⟨w1.heap.size, 2, none⟩ = some (.int .i64 s)) (first | assumption | exact ⟨r2, x2⟩ | exact ⟨y2, y5⟩)
    (fail)
  go_wp2_with fail
  have hLU : Lst KBool ((w1.setCell ⟨g2, s, none⟩ (.bool false)).alloc (.cells #[.int .i64 i, .int .i64 c, .int .i64 s] 107)).drew F (some ⟨g2, 0, none⟩) l (p.used.set s false) := HN.out.2.1.lst.2.2.2
  rcases ha : anyB (p.used.set s false) with _ | _
  · refine (containsB_calls hLU (by omega)).mono ?_
    rw [ha]
    rintro e w4 ⟨rfl, rfl⟩
    obtain ⟨g', cap', p2, a2, l2, c2, F2, he2, g02, hgS2, hp2, ⟨z0, z1, z2, z3⟩, ⟨e0, e1, e2, e3⟩, _, hset2, _⟩ := HN.out.1.pg_at (j := i) hin
    cases he2
    have HS2 := Lib.hid hset2
    clear hset2 hp2
    have hR : Hid (dropBlk ps (.slot i c s) = (ps.set i ⟨p.kind, p.cls, p.used.set s false, p.run⟩).set i Pg.free) := by
      show _ = _; rw [hPut.out, freeSlot, if_neg (by rw [ha]; simp), List.set_set]
    go_wp2_with fail
    go_ret
    obtain ⟨hA, hB, _⟩ := HS2.out ((w1.setCell ⟨g2, s, none⟩ (.bool false)).alloc (.cells #[.int .i64 i, .int .i64 c, .int .i64 s] 107)) Pg.free (.slice none 0 0) 0 (fun _ => False) (Turn.refl _ _) Own.nil (fun _ h => h.elim)
    have gl : g < (w1.setCell ⟨g2, s, none⟩ (.bool false)).heap.size := by simpa using g0
    rw [World.setCell_alloc_past _ g (i * 4) _ gl, World.setCell_alloc_past _ g (i * 4 + 1) _ (by simpa using gl), World.setCell_alloc_past _ g (i * 4 + 2) _ (by simpa using gl), World.setCell_alloc_past _ g (i * 4 + 3) _ (by simpa using gl)] at hA hB
    exact ⟨_, rfl, by rw [hR.out]; exact hA.mono (fun k hk _ => hk.elim id False.elim), (hB.below HN.out.2.2 HN.out.2.2.size (fun k hk => hk)).drew⟩
  · refine (containsB_calls hLU (by omega)).mono ?_
    rw [ha]
    rintro e w4 ⟨rfl, rfl⟩
    have hR : Hid (dropBlk ps (.slot i c s) = ps.set i ⟨p.kind, p.cls, p.used.set s false, p.run⟩) := by
      show _ = _; rw [hPut.out, freeSlot, if_pos ha]
    go_wp2_with fail
    go_ret
    exact ⟨_, rfl, by rw [hR.out]; exact HN.out.1, HN.out.2.2.drew⟩

set_option maxRecDepth 100000 in
set_option maxHeartbeats 2000000 in
theorem withoutRun_calls {a : Option Addr} {n cc i m : Nat} {ps : List Pg} {S : Nat → Prop} {w : World} (hT : Lst KPage w S a n ps) (hS : ShortP 16 ps) (hn : n ≤ 40) (hm : i + m ≤ n) :
    Calls Try.prog 69 #[.slice a n cc, .iface 80 (.agg #[.int .i64 i, .int .i64 m])] w fun e w' => ∃ v, e = .returned v ∧ Own KPage 45 w' (fun k => w.heap.size ≤ k) v n (setMany ps i Pg.free m) ∧ Below w.heap.size w w' := by
  have HL := Lib.hid hT.1
  have qr := as_rr
  have qrs := as_rs
  go_enter Try.func69, Try.ntmps69
  go_wp2_with fail
  refine (copyPages_calls hT (fun q hq => by have := hS q hq; omega) (by omega)).mono ?_
  rintro e w1 ⟨v, rfl, hown, hb⟩
  obtain ⟨vo, vc, rfl, _, _, _⟩ := hown.shape
  have ho1 := hown.here
  have hbs := hb.size
  have HI := Lib.hid (And.intro (ho1.alloc (.cells #[.int .i64 i, .int .i64 m] 80)) (hb.alloc hb.size (.cells #[.int .i64 i, .int .i64 m] 80)))
  have hbox := heap_alloc_new w1 (.cells #[.int .i64 i, .int .i64 m] 80)
  have HX := Lib.hid hbox
  clear hown ho1 hbox
  go_wp2_with fail
  go_loopw [9, 41] (fun _ x wr => ∃ k : Nat, k ≤ m ∧ x = .int .i64 k ∧ Own KPage 45 wr (fun q => w.heap.size ≤ q ∧ q < w1.heap.size) (.slice vo n vc) n (setMany ps i Pg.free k) ∧ Row wr w1.heap.size 80 #[.int .i64 i, .int .i64 m] ∧ Below w.heap.size w wr) (fun _ x _ => m - (intOf x).toNat)
  case atStart => exact ⟨0, Nat.zero_le _, rfl, HI.out.1.mono (fun q hq _ => by simpa using hq), HX.out, HI.out.2⟩
  case round =>
    obtain ⟨k, hk, rfl, hO, hB, hbw⟩ := hrel
    have x0 : wr.cell? ⟨w1.heap.size, 0, none⟩ = some (.int .i64 i) := by rw [hB.cell]; rfl
    have x1 : wr.cell? ⟨w1.heap.size, 1, none⟩ = some (.int .i64 m) := by rw [hB.cell]; rfl
    by_cases hlt : k < m
    · obtain ⟨g, cap, p, a', l, c', F, he, g0, hgS, hp, ⟨q0, q1, q2, q3⟩, ⟨f0, f1, f2, f3⟩, _, hset, _⟩ := hO.pg_at (j := i + k) (by omega)
      cases he
      have hN : ((i : Int) + (k : Int)).toNat = i + k := by omega
      have hst := hset wr Pg.free (.slice none 0 0) 0 (fun _ => False) (Turn.refl _ _) Own.nil (fun _ h => h.elim)
      have H2 := Lib.hid (And.intro (hst.1.mono (S' := fun q => w.heap.size ≤ q ∧ q < w1.heap.size) (fun q hq _ => hq.elim id False.elim)) (And.intro (hst.2.1.row hB (fun h => by omega)) (hst.2.1.below hbw (by have := hbw.size; omega) (fun q hq => by omega))))
      clear hset hst hO hp hB hbw
      go_wp2_with fail
      go_roundw
      case rel => exact ⟨k + 1, by omega, by go_num, H2.out.1, H2.out.2.1, H2.out.2.2⟩
      case measure => simp [intOf]; omega
    · have F : Hid (Own KPage 45 wr (fun q => w.heap.size ≤ q) (.slice vo n vc) n (setMany ps i Pg.free m) ∧ Below w.heap.size w wr) := by
        rw [show k = m by omega] at hO; exact ⟨hO.mono (fun q hq _ => hq.1), hbw⟩
      clear hO hB hbw
      go_wp2_with fail
      go_ret
      exact ⟨_, rfl, F.out.1, F.out.2⟩
end Go.Proofs.Ytkikjoalhohlgaa
