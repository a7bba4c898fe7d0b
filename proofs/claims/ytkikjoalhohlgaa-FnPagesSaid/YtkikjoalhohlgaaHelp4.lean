/- The laws' helpers over pages: how great they are, their copy, whether two are the same. -/
import Derived.Test.YtkikjoalhohlgaaPage
import Derived.Test.YtkikjoalhohlgaaTen
import Derived.Deep.RegionHeld3
namespace Go.Proofs.Ytkikjoalhohlgaa
open Go.RowKit

theorem szPg_calls {a : Option Addr} {n c : Nat} {r x y z : Int} {w : World} (hn : n ≤ 9223372036854775807) (h0 : 0 ≤ r) (h1 : r ≤ 1048576) :
    Calls Try.prog 46 #[.agg #[.int .i64 x, .int .i64 y, .slice a n c, .int .i64 z], .int .i64 r] w fun e w' => e = .returned (.int .i64 (if r - n < 0 then -1 else r - n)) ∧ Below w.heap.size w w' := by
  by_cases h : r - (n : Int) < 0
  · have HE := Lib.hid (show (if r - (n : Int) < 0 then (-1 : Int) else r - n) = -1 from if_pos h)
    go_enter Try.func46, Try.ntmps46
    go_wp2_with fail
    refine (szB_calls hn h0 h1).mono ?_
    rintro e w' ⟨rfl, rfl⟩
    rw [HE.out]
    go_wp2_with fail
    go_ret
    exact ⟨rfl, (Below.refl _ _).alloc (Nat.le_refl _) _⟩
  · have HE := Lib.hid (show (if r - (n : Int) < 0 then (-1 : Int) else r - n) = r - n from if_neg h)
    have hge : ¬ (r - (n : Int) < 0) := h
    go_enter Try.func46, Try.ntmps46
    go_wp2_with fail
    refine (szB_calls hn h0 h1).mono ?_
    rintro e w' ⟨rfl, rfl⟩
    rw [HE.out]
    go_wp2_with fail
    go_ret
    exact ⟨rfl, (Below.refl _ _).alloc (Nat.le_refl _) _⟩

/-- What the sizes tell: where they are not too great, no list is. -/
def SizedP (n : Nat) (ps : List Pg) (w : World) (e : Ending) (w' : World) : Prop :=
  (e = .returned (.int .i64 (-1)) ∨ ∃ r : Int, e = .returned (.int .i64 r) ∧ 0 ≤ r ∧ r ≤ 1048576 ∧ n ≤ 1048576 ∧ ShortP 1048576 ps) ∧ Below w.heap.size w w'

set_option maxHeartbeats 400000 in
theorem szPgs_calls {ao : Option Addr} {n cc : Nat} {ps : List Pg} {S : Nat → Prop} {q : Int} {w : World} (hT : Lst KPage w S ao n ps) (hn : n ≤ 9223372036854775807) (h0 : 0 ≤ q) (hq : q ≤ 1048576) :
    Calls Try.prog 49 #[.slice ao n cc, .int .i64 q] w (SizedP n ps w) := by
  have HL := Lib.hid hT.1
  by_cases h : q - (n : Int) < 0
  · go_enter Try.func49, Try.ntmps49
    go_wp2_with fail
    go_ret
    exact ⟨.inl rfl, Below.refl _ _⟩
  have hbig : n ≤ 1048576 := by omega
  go_enter Try.func49, Try.ntmps49
  go_wp2_with fail
  go_loopw [1, 5] (fun q i wr => ∃ k r : Nat, k ≤ n ∧ i = .int .i64 k ∧ r ≤ 1048576 ∧ q = .int .i64 r ∧ Hid (∀ j p, j < k → ps[j]? = some p → p.used.length ≤ 1048576) ∧ Below w.heap.size w wr) (fun _ i _ => n - (intOf i).toNat)
  case atStart => exact ⟨0, (q - n).toNat, Nat.zero_le _, rfl, by omega, by rw [Int.toNat_of_nonneg (by omega)], fun j p hj => by omega, Below.refl _ _⟩
  case round =>
    obtain ⟨k, r, hk, rfl, hr, rfl, HW, hbw⟩ := hrel
    by_cases hlt : k < n
    · obtain ⟨b, off, p, a, l, c, rfl, d0, hp, e0, e1, e2, e3, hlc, hcm, hu⟩ := (hT.below hbw).pg_at hlt
      have HU := Lib.hid hu.1
      have HP := Lib.hid hp
      have hl : l ≤ 9223372036854775807 := by unfold maxLen at hcm; omega
      clear hu hp hcm
      by_cases hneg : (r : Int) - (l : Int) < 0
      · have HE := Lib.hid (show (if (r : Int) - (l : Int) < 0 then (-1 : Int) else r - l) = -1 from if_pos hneg)
        go_wp2_with fail
        refine (szPg_calls hl (by omega) (by omega)).mono ?_
        rintro e w1 ⟨rfl, hb1⟩
        rw [HE.out]
        go_wp2_with fail
        go_ret
        exact ⟨.inl rfl, hbw.trans (hb1.mono hbw.size)⟩
      · have HE := Lib.hid (show (if (r : Int) - (l : Int) < 0 then (-1 : Int) else r - l) = ((r - l : Nat) : Int) by rw [if_neg hneg]; omega)
        have HH : Hid (∀ j p, j < k + 1 → ps[j]? = some p → p.used.length ≤ 1048576) := fun j p' hj hp' => by
          by_cases e : j = k
          · subst e
            have := HP.out.symm.trans hp'
            injection this with this; subst this
            rw [HU.out]; omega
          · exact HW.out j p' (by omega) hp'
        have hge : ¬ (((r - l : Nat) : Int) < 0) := by omega
        go_wp2_with fail
        refine (szPg_calls hl (by omega) (by omega)).mono ?_
        rintro e w1 ⟨rfl, hb1⟩
        rw [HE.out]
        go_wp2_with fail
        go_roundw
        case rel => exact ⟨k + 1, r - l, by omega, by go_num, by omega, rfl, HH, hbw.trans (hb1.mono hbw.size)⟩
        case measure => simp [intOf]; omega
    · have HF : Hid (ShortP 1048576 ps) := by
        intro p hp
        obtain ⟨j, hj, rfl⟩ := List.getElem_of_mem hp
        exact HW.out j _ (by have := HL.out; omega) (List.getElem?_eq_getElem hj)
      go_wp2_with fail
      go_ret
      exact ⟨.inr ⟨_, rfl, by omega, by omega, hbig, HF.out⟩, hbw⟩

set_option maxHeartbeats 400000 in
theorem toPg_calls {a : Option Addr} {n c : Nat} {p : Pg} {S : Nat → Prop} {w : World} (ha : Lst KBool w S a n p.used) (hx : n ≤ 17592186044416) :
    Calls Try.prog 47 #[.agg #[.int .i64 p.kind, .int .i64 p.cls, .slice a n c, .int .i64 p.run]] w fun e w' => ∃ v, e = .returned (.agg #[.int .i64 p.kind, .int .i64 p.cls, v, .int .i64 p.run]) ∧ Own KBool 4 w' (fun k => w.heap.size ≤ k) v n p.used ∧ Below w.heap.size w w' := by
  go_enter Try.func47, Try.ntmps47
  go_wp2_with fail
  refine (toB_calls (((ha.alloc _).alloc _).alloc _) hx).mono ?_
  rintro e w1 ⟨v, rfl, hown, hb1⟩
  obtain ⟨h0, h1, h2, hb, hs⟩ := three_new hb1
  obtain ⟨vo, vc, rfl, hvc, _, _⟩ := hown.shape
  have r0 := Row.cell (w := w1) h0 3
  have q0 := Row.cell (w := w1) h2 0
  have q1 := Row.cell (w := w1) h2 1
  have q2 := Row.cell (w := w1) h2 2
  have q3 := Row.cell (w := w1) h2 3
  have f2 := frozen_of_row w1 (w.heap.size + 2) 2 _ _ h2
  have f3 := frozen_of_row w1 (w.heap.size + 2) 3 _ _ h2
  simp at r0 q0 q1 q2 q3
  have HO := Lib.hid hown
  clear hb1 hown
  have hres := ((heap_setCell_other (w1.setCell ⟨w.heap.size + 1 + 1, 2, none⟩ (.slice vo n vc)) ⟨w.heap.size + 1 + 1, 3, none⟩ (w.heap.size + 1) (.int .i64 p.run) (by simp)).trans (heap_setCell_other w1 ⟨w.heap.size + 1 + 1, 2, none⟩ (w.heap.size + 1) (.slice vo n vc) (by simp))).trans h1
  go_wp2_with (refine wpList_store_row rfl 45 _ _ rfl (w.heap.size + 1) _ rfl rfl _ _ hres (by kernel_rfl) (by rfl) (by simp [Value.oneCell']) ?_)
  refine bodyPost_ret (results_cell_row rfl _ _ (w.heap.size + 1) _ _ _ _ rfl (setRow_heap _ _ _ _ _ _ hres) Try.underlying45 rfl (by kernel_rfl)) rfl ?_
  have HO2 := HO.out.mono (S' := fun k => w.heap.size + 3 ≤ k) (fun k hk _ => by simpa using hk)
  refine ⟨_, rfl, (((HO2.turn (Turn.set _ _ _) (fun k hk _ e => ?_)).turn (Turn.set _ _ _) (fun k hk _ e => ?_)).turn (Turn.setRow _ _ _) (fun k hk _ e => ?_)).fresh (by omega), below_setRow ((hb.setCell (by simp; omega) _).setCell (by simp; omega) _) (by omega) _⟩ <;> (try simp at e) <;> omega

/-- A row of pages of which the first k are owned, the others not yet made. -/
def fillP (ps : List Pg) (k : Nat) : List Pg := fillD Pg.free ps k

set_option maxHeartbeats 400000 in
theorem toPgs_calls {ao : Option Addr} {n cc : Nat} {ps : List Pg} {S : Nat → Prop} {w : World} (hT : Lst KPage w S ao n ps) (hS : ShortP 17592186044416 ps) (hn : n ≤ 1048576) :
    Calls Try.prog 50 #[.slice ao n cc] w fun e w' => ∃ a, e = .returned (.slice a n n) ∧ Own KPage 45 w' (fun k => w.heap.size ≤ k) (.slice a n n) n ps ∧ Below w.heap.size w w' := by
  have hinfo : (Try.prog.info? 45).map (fun i => (i.zero, i.size, i.bytes)) = some (some (.agg #[.int .i64 0, .int .i64 0, .slice none 0 0, .int .i64 0]), 4, 48) := by kernel_rfl
  obtain ⟨i0, hi, hz0, hz1, hz2⟩ := info_parts hinfo
  have HL := Lib.hid hT.1
  have HS := Lib.hid hS
  go_enter Try.func50, Try.ntmps50
  go_wp2_with (at_make; go_must (refine wpList_make_full _ rfl _ _ 24 rfl w.heap.size 45 i0 (.agg #[.int .i64 0, .int .i64 0, .slice none 0 0, .int .i64 0]) 4 Try.underlying24 hi hz0 hz1 _ _ _ _ n rfl rfl rfl rfl (by rw [hz2]; omega) (by unfold maxLen; omega) (Nat.le_refl _) ?_); intro w1 hown hg)
  have hb1 : Below w.heap.size w w1 := (Below.refl _ _).grown hg (Nat.le_refl _) (by simp)
  have hO : Own KPage 45 w1 (fun k => w.heap.size ≤ k) (.slice (some ⟨w.heap.size, 0, none⟩) n n) n (fillP ps 0) := by
    rw [fillP, fillD_zero, HL.out]
    exact Own.of_made (K := KPage) (z := .agg #[.int .i64 0, .int .i64 0, .slice none 0 0, .int .i64 0]) hown (Nat.le_refl _) rfl (KPage_own_mk (p := Pg.free) Own.nil)
  clear hown hg
  go_loopw [4] (fun i wr => ∃ k : Nat, k ≤ n ∧ i = .int .i64 k ∧ Own KPage 45 wr (fun k => w.heap.size ≤ k) (.slice (some ⟨w.heap.size, 0, none⟩) n n) n (fillP ps k) ∧ Below w.heap.size w wr) (fun i _ => n - (intOf i).toNat)
  case atStart => exact ⟨0, Nat.zero_le _, rfl, hO, hb1⟩
  case round =>
    obtain ⟨k, hk, rfl, hO, hbw⟩ := hrel
    by_cases hlt : k < n
    · obtain ⟨b, off, p, a, l, c, rfl, d0, hp, e0, e1, e2, e3, hlc, hcm, hu⟩ := (hT.below hbw).pg_at hlt
      have HP := Lib.hid hp
      have hl : l ≤ 17592186044416 := by have := HS.out.at_ hp; have := hu.1; omega
      clear hp
      go_wp2_with fail
      refine (toPg_calls hu hl).mono ?_
      rintro e w2 ⟨v, rfl, hown, hb2⟩
      obtain ⟨vo, vc, rfl, hvc, _, _⟩ := hown.shape
      obtain ⟨g, cap, cs, F, p0, he, hgS, hp0, hcl, hu0, ho0, hF, hst⟩ := (hO.here.below hb2).focus hlt
      obtain rfl : w.heap.size = g := by simpa [Value.ownBlock] using congrArg Value.ownBlock he
      clear he
      rw [KPage_sz] at hcl hu0 hst
      obtain ⟨c0, c1, c2, c3, rfl, g0, q0, q1, q2, q3, f0, f1, f2, f3⟩ := hu0.cells4 hcl
      have HT := Lib.hid (Turn.set4 (w1 := w2) (g := w.heap.size) (o0 := k * 4) (o1 := k * 4 + 1) (o2 := k * 4 + 2) (o3 := k * 4 + 3) (a := .int .i64 p.kind) (b := .int .i64 p.cls) (c := .slice vo l vc) (d := .int .i64 p.run))
      have hU := hown.turn HT.out (fun k hk _ e => by have := hbw.size; have := hO.shape; omega)
      have hO2 := hst _ (fun k => wr.heap.size ≤ k) (pgCells p (.slice vo l vc)) p rfl (HT.out.mono (fun k hk _ => .inr hk)) (hu0.set4 (a := .int .i64 p.kind) (b := .int .i64 p.cls) (c := .slice vo l vc) (d := .int .i64 p.run) hcl) (KPage_own_mk hU) (fun k hk => .inr (by omega))
      rw [fillP, fillD_step HP.out] at hO2
      have H2 := Lib.hid (And.intro (hO2.mono (S' := fun k => w.heap.size ≤ k) (fun k hk _ => hk.elim (fun h => h.1) (fun h => Nat.le_trans hbw.size h))) (HT.out.below (hbw.trans (hb2.mono hbw.size)) (by have := hbw.size; have := hb2.size; omega) (fun k hk => by omega)))
      clear hO2 hU hst hu0 ho0 hO hown hF hp0 hgS
      go_wp2_with fail
      go_roundw
      case rel => exact ⟨k + 1, by omega, by go_num, H2.out.1, H2.out.2⟩
      case measure => simp [intOf]; omega
    · obtain rfl : k = n := by omega
      have F : Hid (Own KPage 45 wr (fun k => w.heap.size ≤ k) (.slice (some ⟨w.heap.size, 0, none⟩) k k) k ps ∧ Below w.heap.size w wr) := by
        have := hO; rw [fillP, ← HL.out, fillD_full, HL.out] at this; exact ⟨this, hbw⟩
      clear hO hbw
      go_wp2_with fail
      go_ret
      exact ⟨_, rfl, F.out.1, F.out.2⟩
end Go.Proofs.Ytkikjoalhohlgaa
