/- Chapter 4 of the model: blocks that are dropped. -/
import Derived.Test.YtkikjoalhohlgaaSpec4d
import Derived.Deep.RegionHeld3
namespace Go.Proofs.Ytkikjoalhohlgaa
open Go.RowKit

/-- What is dropped at a place: the slot, or the run of the page. -/
def dropAt (ps : List Pg) (st : Nat) : List Pg := match ps[st / 16]? with
  | none => ps
  | some p => if p.kind = 1 then ps.set (st / 16) (freeSlot p (st % 16 / (sizeW p.cls).toNat)) else setMany ps (st / 16) Pg.free p.run.toNat

set_option maxRecDepth 100000 in
set_option maxHeartbeats 1000000 in
theorem l4Drop_slab {v : Value} {n st : Nat} {ps : List Pg} {p : Pg} {S : Nat → Prop} {w : World} (hT : Own KPage 45 w S v n ps) (hn : n ≤ 17592186044416) (hst : st < 16 * n) (hp : ps[st / 16]? = some p) (hk : p.kind = 1) (h0 : 0 ≤ p.cls) (h3 : p.cls ≤ 3) (hl : (p.used.length : Int) = 16 / sizeW p.cls) :
    Calls Try.prog 78 #[v, .int .i64 st] w fun e w' => e = .returned (.tuple #[]) ∧ Own KPage 45 w' S v n (dropAt ps st) ∧ Turn S w w' := by
  have HL := Lib.hid hT.1
  obtain ⟨i, hi⟩ : ∃ i, i = st / 16 := ⟨_, rfl⟩
  have hin : i < n := by omega
  obtain ⟨g, cap, p', a, l, c, F, rfl, g0, hgS, hp', ⟨q0, q1, q2, q3⟩, ⟨f0, f1, f2, f3⟩, ⟨hU, hF, hlc, hcm⟩, hset, hus⟩ := hT.pg_at (j := i) hin
  obtain rfl : p = p' := by rw [← hi, hp'] at hp; injection hp with hp; exact hp.symm
  have hsz := sizeW_small p.cls
  have hll : l = p.used.length := by have := hU.1; omega
  obtain ⟨s, hs⟩ : ∃ s, s = st % 16 / (sizeW p.cls).toNat := ⟨_, rfl⟩
  have hsl : s < l := by
    rw [hs, hll]
    rcases (show p.cls = 0 ∨ p.cls = 1 ∨ p.cls = 2 ∨ p.cls = 3 by omega) with e | e | e | e <;> rw [e] at hl ⊢ <;> simp [sizeW] at hl ⊢ <;> omega
  have hl16 : l ≤ 16 := by
    rw [hll]
    rcases (show p.cls = 0 ∨ p.cls = 1 ∨ p.cls = 2 ∨ p.cls = 3 by omega) with e | e | e | e <;> rw [e] at hl <;> simp [sizeW] at hl <;> omega
  have hx1 : ((st : Int) / 16).toNat = i := by omega
  have hx2 : ((st : Int) % 16 / sizeW p.cls).toNat = s := by
    obtain ⟨z, hz⟩ : ∃ z : Nat, sizeW p.cls = z := ⟨(sizeW p.cls).toNat, by omega⟩
    have h1 : ((st : Int) % 16 / (z : Int)) = ((st % 16 / z : Nat) : Int) := by push_cast; rfl
    rw [hs, hz, h1, Int.toNat_natCast, Int.toNat_natCast]
  have hx3 : 0 ≤ (st : Int) % 16 / sizeW p.cls := Int.ediv_nonneg (by omega) (by omega)
  obtain ⟨g2, cap2, hv2, hg2S, hg2, hcl, hfr, hbst⟩ := hU.bool_at hsl
  cases hv2
  obtain ⟨hO1, hT1⟩ := hbst false
  have HUS := Lib.hid (hus _ _ hT1 hO1)
  have HF := Lib.hid hF
  have hg2g : g2 ≠ g := (hF g2 hg2S).2.1
  rw [← hi] at hp
  have HD : Hid (dropAt ps st = ps.set i (freeSlot p s)) := by
    show dropAt ps st = _
    unfold dropAt; rw [← hi, hp']; simp only [hk, if_true]; rw [← hs]
  have HK := Lib.hid hk
  have HI := Lib.hid hi
  have HSS := Lib.hid hs
  have HLL := Lib.hid hll
  have HQ := Lib.hid (And.intro hO1 hT1)
  rw [hk] at q0
  clear hset hus hbst hT hU hF hp hp' hk hi hs hll hl hO1 hT1
  generalize p.used.getD s false = u0 at hcl
  go_enter Try.func78, Try.ntmps78
  go_wp2_with fail
  have hm : (st : Int).tmod 16 = (st : Int) % 16 := by rw [Int.tmod_eq_emod_of_nonneg (by omega)]
  have hm2 : ((st : Int) % 16).tdiv (sizeW p.cls) = (st : Int) % 16 / sizeW p.cls := Int.tdiv_eq_ediv_of_nonneg (by omega)
  have hm3 : IntKind.i64.wrap ((st : Int) % 16 / sizeW p.cls) = (st : Int) % 16 / sizeW p.cls := by
    rw [IntKind.wrap_i64]
    have : (st : Int) % 16 / sizeW p.cls ≤ (st : Int) % 16 := Int.ediv_le_self _ (by omega)
    omega
  have hm4 : IntKind.i64.wrap ((st : Int) % 16) = (st : Int) % 16 := by rw [IntKind.wrap_i64]; omega
  have hne : (sizeW p.cls == 0) = false := by simp; omega
  have hx4 : (st : Int) % 16 / sizeW p.cls < (l : Int) := by omega
  have hne2 : ¬ (sizeW p.cls = 0) := by omega
  have hne3 : decide (sizeW p.cls = 0) = false := by simp; omega
  have y0 : (w.setCell ⟨g2, s, none⟩ (.bool false)).cell? ⟨g, i * 4, none⟩ = some (.int .i64 1) := (World.cell?_setCell_other _ _ _ _ (fun e => hg2g (by injection e))).trans q0
  have y1 : (w.setCell ⟨g2, s, none⟩ (.bool false)).cell? ⟨g, i * 4 + 1, none⟩ = some (.int .i64 p.cls) := (World.cell?_setCell_other _ _ _ _ (fun e => hg2g (by injection e))).trans q1
  have y2 : (w.setCell ⟨g2, s, none⟩ (.bool false)).cell? ⟨g, i * 4 + 2, none⟩ = some (.slice (some ⟨g2, 0, none⟩) l c) := (World.cell?_setCell_other _ _ _ _ (fun e => hg2g (by injection e))).trans q2
  go_region_held3 (fun w' => w'.cell? ⟨g, i * 4, none⟩ = some (.int .i64 1) ∧ w'.cell? ⟨g, i * 4 + 1, none⟩ = some (.int .i64 p.cls) ∧ w'.cell? ⟨g, i * 4 + 2, none⟩ = some (.slice (some ⟨g2, 0, none⟩) l c)) (first | assumption | exact ⟨q0, q1, q2⟩ | exact ⟨y0, y1, y2⟩)
    ((go_at_call 99; refine (l3Size_calls h0 h3).mono ?_; rintro e w' ⟨rfl, rfl⟩))
  clear hm hm2 hm3 hm4 hne hne2 hne3 hx2 hx3 hx4
  rcases ha : anyB (p.used.set s false) with _ | _
  · obtain ⟨g', cap', p2, a2, l2, c2, F2, he2, g02, hgS2, hp2, ⟨z0, z1, z2, z3⟩, ⟨w0, w1, w2, w3⟩, _, hset2, _⟩ := HUS.out.1.pg_at (j := i) hin
    cases he2
    have HS2 := Lib.hid hset2
    clear hset2 hp2
    go_wp2_with fail
    refine (l4Any_calls (HQ.out.1.lst.2.2.2.below (below_drewN (Below.refl _ _) _)) (by omega)).mono ?_
    rintro e w' ⟨rfl, rfl⟩
    go_wp2_with fail
    have HR : Hid (dropAt ps st = (ps.set i ⟨p.kind, p.cls, p.used.set s false, p.run⟩).set i Pg.free) := by
      show dropAt ps st = _
      rw [HD.out, freeSlot, if_neg (by rw [ha]; simp), List.set_set]
    refine bodyPost_ret (results_none rfl _ _ _) rfl ?_
    have hst2 := fun m => HS2.out ((w.setCell ⟨g2, s, none⟩ (.bool false)).drewN m) Pg.free (.slice none 0 0) 0 (fun _ => False) ((Turn.refl _ _).drewN m) Own.nil (fun _ h => h.elim)
    exact ⟨rfl, by rw [HR.out]; exact (hst2 _).1.mono (S' := S) (fun q hq _ => hq.elim id False.elim), HUS.out.2.trans (hst2 _).2.1 (fun _ h _ => h)⟩
  · go_wp2_with fail
    refine (l4Any_calls (HQ.out.1.lst.2.2.2.below (below_drewN (Below.refl _ _) _)) (by omega)).mono ?_
    rintro e w' ⟨rfl, rfl⟩
    have F : Hid (Own KPage 45 (w.setCell ⟨g2, s, none⟩ (.bool false)) S (.slice (some ⟨g, 0, none⟩) n cap) n (dropAt ps st) ∧ Turn S w (w.setCell ⟨g2, s, none⟩ (.bool false))) := by
      rw [HD.out, freeSlot, if_pos ha]; exact HUS.out
    go_wp2_with fail
    refine bodyPost_ret (results_none rfl _ _ _) rfl ?_
    exact ⟨rfl, F.out.1, F.out.2.drewN _⟩

set_option maxRecDepth 100000 in
set_option maxHeartbeats 1000000 in
theorem l4Drop_run {v : Value} {n st m : Nat} {ps : List Pg} {p : Pg} {S : Nat → Prop} {w : World} (hT : Own KPage 45 w S v n ps) (hn : n ≤ 17592186044416) (hst : st < 16 * n) (hp : ps[st / 16]? = some p) (hk : (p.kind == 1) = false) (hr : p.run = m) (hm : st / 16 + m ≤ n) :
    Calls Try.prog 78 #[v, .int .i64 st] w fun e w' => e = .returned (.tuple #[]) ∧ Own KPage 45 w' S v n (dropAt ps st) ∧ Turn S w w' := by
  obtain ⟨i, hi⟩ : ∃ i, i = st / 16 := ⟨_, rfl⟩
  have hin : i < n := by omega
  have HD : Hid (dropAt ps st = setMany ps i Pg.free m) := by
    show dropAt ps st = _
    unfold dropAt; rw [hp]; simp only
    rw [if_neg (by simpa using hk), ← hi, hr, Int.toNat_natCast]
  obtain ⟨g, cap, p', a, l, c, F, rfl, g0, hgS, hp', ⟨q0, q1, q2, q3⟩, ⟨f0, f1, f2, f3⟩, _, hset, hus⟩ := hT.pg_at (j := i) hin
  obtain rfl : p = p' := by rw [← hi, hp'] at hp; injection hp with hp; exact hp.symm
  rw [hr] at q3
  have hx1 : ((st : Int) / 16).toNat = i := by omega
  have hx2 : (st : Int) / 16 = (i : Int) := by omega
  have hmi : i + m ≤ n := by omega
  have HI := Lib.hid hi
  clear hset hus hp hp' hi hr
  go_enter Try.func78, Try.ntmps78
  go_wp2_with fail
  go_loopw [7] (fun q wr => ∃ k : Nat, k ≤ m ∧ q = .int .i64 k ∧ Own KPage 45 wr S (.slice (some ⟨g, 0, none⟩) n cap) n (setMany ps i Pg.free k) ∧ Turn S w wr) (fun q _ => m - (intOf q).toNat)
  case atStart => exact ⟨0, Nat.zero_le _, rfl, hT, Turn.refl _ _⟩
  case round =>
    clear hT q0 q1 q2 q3 f0 f1 f2 f3 g0
    obtain ⟨k, hk', rfl, hO, ht⟩ := hrel
    by_cases hlt : k < m
    · obtain ⟨g', cap', p2, a, l, c', F, he, g0, hgS, hp, ⟨q0, q1, q2, q3⟩, ⟨f0, f1, f2, f3⟩, _, hset, _⟩ := hO.pg_at (j := i + k) (by omega)
      cases he
      have hN : ((i : Int) + (k : Int)).toNat = i + k := by omega
      have hst := hset wr Pg.free (.slice none 0 0) 0 (fun _ => False) (Turn.refl _ _) Own.nil (fun _ h => h.elim)
      have H2 := Lib.hid (And.intro (hst.1.mono (S' := S) (fun q hq _ => hq.elim id False.elim)) (ht.trans hst.2.1 (fun _ h _ => h)))
      clear hset hst hO ht hp
      go_wp2_with fail
      go_roundw
      case rel => exact ⟨k + 1, by omega, by go_num, H2.out.1, H2.out.2⟩
      case measure => simp [intOf]; omega
    · obtain rfl : k = m := by omega
      have F : Hid (Own KPage 45 wr S (.slice (some ⟨g, 0, none⟩) n cap) n (dropAt ps st) ∧ Turn S w wr) := by rw [HD.out]; exact ⟨hO, ht⟩
      clear hO ht
      go_wp2_with fail
      go_end0
      exact ⟨rfl, F.out.1, F.out.2⟩
end Go.Proofs.Ytkikjoalhohlgaa
