/- The draws of chapter 4: pages of which one is bent. -/
import Derived.Test.YtkikjoalhohlgaaDraw4
import Derived.Test.YtkikjoalhohlgaaApp2
import Derived.Test.YtkikjoalhohlgaaOwn4
namespace Go.Proofs.Ytkikjoalhohlgaa
open Go.RowKit

theorem Own.pg_put {w : World} {S : Nat → Prop} {v : Value} {n : Nat} {ps : List Pg} (h : Own KPage 45 w S v n ps) {j : Nat} (hj : j < n) :
    ∃ g cap p a l c F, v = .slice (some ⟨g, 0, none⟩) n cap ∧ g < w.heap.size ∧ S g ∧ ps[j]? = some p ∧
      (w.cell? ⟨g, j * 4, none⟩ = some (.int .i64 p.kind) ∧ w.cell? ⟨g, j * 4 + 1, none⟩ = some (.int .i64 p.cls) ∧ w.cell? ⟨g, j * 4 + 2, none⟩ = some (.slice a l c) ∧ w.cell? ⟨g, j * 4 + 3, none⟩ = some (.int .i64 p.run)) ∧
      (w.frozen? ⟨g, j * 4, none⟩ = false ∧ w.frozen? ⟨g, j * 4 + 1, none⟩ = false ∧ w.frozen? ⟨g, j * 4 + 2, none⟩ = false ∧ w.frozen? ⟨g, j * 4 + 3, none⟩ = false) ∧
      (Own KBool 4 w F (.slice a l c) l p.used ∧ (∀ k, F k → S k ∧ k ≠ g ∧ k < w.heap.size) ∧ l ≤ c ∧ c ≤ maxLen) ∧
      (∀ u, Own KPage 45 (w.setCell ⟨g, j * 4, none⟩ (.int .i64 u)) S v n (ps.set j ⟨u, p.cls, p.used, p.run⟩)) ∧
      (∀ u, Own KPage 45 (w.setCell ⟨g, j * 4 + 1, none⟩ (.int .i64 u)) S v n (ps.set j ⟨p.kind, u, p.used, p.run⟩)) ∧
      (∀ u, Own KPage 45 (w.setCell ⟨g, j * 4 + 3, none⟩ (.int .i64 u)) S v n (ps.set j ⟨p.kind, p.cls, p.used, u⟩)) ∧
      (∀ (w1 : World) (G : Nat → Prop) (vq : Value) (m : Nat) (us : List Bool), Turn F w w1 → Own KBool 4 w1 G vq m us → (∀ k, G k → F k ∨ w.heap.size ≤ k) →
        Own KPage 45 (w1.setCell ⟨g, j * 4 + 2, none⟩ vq) (fun k => S k ∨ G k) v n (ps.set j ⟨p.kind, p.cls, us, p.run⟩) ∧ Turn S w (w1.setCell ⟨g, j * 4 + 2, none⟩ vq) ∧
        g < w1.heap.size ∧ w1.cell? ⟨g, j * 4 + 2, none⟩ = some (.slice a l c) ∧ w1.frozen? ⟨g, j * 4 + 2, none⟩ = false) := by
  obtain ⟨g, cap, cs, F, p, rfl, hg, hp, hcl, hu, ho, hF, hst⟩ := h.focus hj
  obtain ⟨v0, l, rfl, hU⟩ := KPage_own ho
  obtain ⟨a, c, rfl, hlc, hcm, _⟩ := hU.shape
  rw [KPage_sz] at hu hst
  obtain ⟨c0, c1, c2, c3, hcs, g0, q0, q1, q2, q3, f0, f1, f2, f3⟩ := hu.cells4 rfl
  injection hcs with e0 hcs; injection hcs with e1 hcs; injection hcs with e2 hcs; injection hcs with e3
  subst e0 e1 e2 e3
  have hS : ∀ k, (S k ∨ F k) → k < w.heap.size → S k := fun k hk _ => hk.elim id (fun h => (hF k h).1)
  refine ⟨g, cap, p, a, l, c, F, rfl, g0, hg, hp, ⟨q0, q1, q2, q3⟩, ⟨f0, f1, f2, f3⟩, ⟨hU, hF, hlc, hcm⟩, fun u => ?_, fun u => ?_, fun u => ?_, fun w1 G vq m us hT hQ hG => ?_⟩
  · have ht := Turn.set w ⟨g, j * 4, none⟩ (.int .i64 u)
    refine (hst _ F [.int .i64 u, .int .i64 p.cls, .slice a l c, .int .i64 p.run] ⟨u, p.cls, p.used, p.run⟩ rfl (ht.mono (fun k hk _ => .inr hk)) (by simpa using hu.set (i := 0) (u := .int .i64 u) (by simp)) (KPage_own_mk (p := ⟨u, p.cls, p.used, p.run⟩) (hU.turn ht (fun k hk _ e => (hF k hk).2.1 e))) (fun k hk => .inl hk)).mono (fun k hk hl => hS k hk (by simpa using hl))
  · have ht := Turn.set w ⟨g, j * 4 + 1, none⟩ (.int .i64 u)
    refine (hst _ F [.int .i64 p.kind, .int .i64 u, .slice a l c, .int .i64 p.run] ⟨p.kind, u, p.used, p.run⟩ rfl (ht.mono (fun k hk _ => .inr hk)) (by simpa using hu.set (i := 1) (u := .int .i64 u) (by simp)) (KPage_own_mk (p := ⟨p.kind, u, p.used, p.run⟩) (hU.turn ht (fun k hk _ e => (hF k hk).2.1 e))) (fun k hk => .inl hk)).mono (fun k hk hl => hS k hk (by simpa using hl))
  · have ht := Turn.set w ⟨g, j * 4 + 3, none⟩ (.int .i64 u)
    refine (hst _ F [.int .i64 p.kind, .int .i64 p.cls, .slice a l c, .int .i64 u] ⟨p.kind, p.cls, p.used, u⟩ rfl (ht.mono (fun k hk _ => .inr hk)) (by simpa using hu.set (i := 3) (u := .int .i64 u) (by simp)) (KPage_own_mk (p := ⟨p.kind, p.cls, p.used, u⟩) (hU.turn ht (fun k hk _ e => (hF k hk).2.1 e))) (fun k hk => .inl hk)).mono (fun k hk hl => hS k hk (by simpa using hl))
  · have hu1 := hu.turn hT (fun h => (hF g h).2.1 rfl)
    have ht := Turn.set w1 ⟨g, j * 4 + 2, none⟩ vq
    have hne : ∀ k, G k → k < w1.heap.size → ¬ k = g := fun k hk _ e => by
      subst e
      rcases hG _ hk with h | h
      · exact (hF _ h).2.1 rfl
      · omega
    have ht2 : Turn (fun k => F k ∨ k = g) w (w1.setCell ⟨g, j * 4 + 2, none⟩ vq) := (hT.mono (fun k hk _ => .inl hk)).trans ht (fun k hk _ => .inr hk)
    have hc2 := hu1.cell
    refine ⟨?_, ht2.mono (fun k hk _ => hk.elim (fun h => (hF k h).1) (fun h => h ▸ hg)), hc2.1, by simpa using hc2.2.1 2 (by simp), hc2.2.2 _⟩
    exact hst _ G [.int .i64 p.kind, .int .i64 p.cls, vq, .int .i64 p.run] ⟨p.kind, p.cls, us, p.run⟩ rfl ht2 (by simpa using hu1.set (i := 2) (u := vq) (by simp)) (KPage_own_mk (p := ⟨p.kind, p.cls, us, p.run⟩) (hQ.turn ht hne)) (fun k hk => (hG k hk).imp id (fun h hh => by omega))
end Go.Proofs.Ytkikjoalhohlgaa

namespace Go.Proofs.Ytkikjoalhohlgaa
open Go.RowKit

theorem ShortP.mono {N M : Nat} {ps : List Pg} (h : ShortP N ps) (hM : N ≤ M) : ShortP M ps := fun p hp => Nat.le_trans (h p hp) hM
theorem ShortP.set {N : Nat} {ps : List Pg} {j : Nat} {x : Pg} (h : ShortP N ps) (hx : x.used.length ≤ N) : ShortP N (ps.set j x) := fun p hp => by
  rcases List.mem_or_eq_of_mem_set hp with h1 | h1
  · exact h p h1
  · subst h1; exact hx
theorem ShortP.zeros {N k : Nat} {ps : List Pg} (h : ShortP N ps) : ShortP N (ps ++ List.replicate k Pg.free) := fun p hp => by
  rcases List.mem_append.1 hp with h1 | h1
  · exact h p h1
  · rw [(List.mem_replicate.1 h1).2]; simp [Pg.free]
theorem Lst.litB {w : World} {b : Nat} {S : Nat → Prop} {xs : List Bool} {cs : Array Value} {t : TypeId} (hc : cs = (xs.map Value.bool).toArray) (hr : Row w b t cs) (hS : S b) {n : Nat} (hn : xs.length = n) : Lst KBool w S (some ⟨b, 0, none⟩) n xs := by
  subst hc
  refine ⟨hn, fun _ => ⟨b, 0, rfl, hr.lt, hS, fun j x hj => ⟨[.bool x], rfl, fun i hi => ?_, rfl⟩⟩⟩
  obtain rfl : i = 0 := by simp [KBool] at hi; omega
  rw [hr.cell]
  simp [KBool, hj]

/-- Pages while one is bent. -/
def Bent (w : World) (p g n : Nat) (ps : List Pg) (k : Nat) (W : World) : Prop :=
  ∃ S : Nat → Prop, Own KPage 45 W S (.slice (some ⟨g, 0, none⟩) n n) n ps ∧ (∀ j, S j → w.heap.size ≤ j) ∧ Src W p k ∧ w.grownBy W (some p) ∧ p < w.heap.size
section
variable {w W W' : World} {p g n k : Nat} {ps : List Pg}
theorem Bent.src (h : Bent w p g n ps k W) : Src W p k := by obtain ⟨S, h1, h2, h3, h4, h5⟩ := h; exact h3
theorem Bent.lt (h : Bent w p g n ps k W) : p < w.heap.size := by obtain ⟨S, h1, h2, h3, h4, h5⟩ := h; exact h5
theorem Bent.drawn (h : Bent w p g n ps k W) (hs : Src W' p (k + 1)) (hg : W.grownBy W' (some p)) : Bent w p g n ps (k + 1) W' := by
  obtain ⟨S, h1, h2, h3, h4, h5⟩ := h
  exact ⟨S, h1.turn (Turn.of_some hg) (fun j hj _ e => by have := h2 j hj; omega), h2, hs, grown_trans h4 hg, h5⟩
theorem Bent.alloc (h : Bent w p g n ps k W) (o : Obj) : Bent w p g n ps k (W.alloc o) := by
  obtain ⟨S, h1, h2, h3, h4, h5⟩ := h
  exact ⟨S, h1.alloc o, h2, h3.below ((Below.refl _ _).alloc (Nat.le_refl _) _), grown_trans h4 (World.grownBy_alloc _ _ (some p)), h5⟩
theorem Bent.done (h : Bent w p g n ps k W) {k0 m : Nat} (hn1 : 1 ≤ n) (hn : n ≤ m) (hQ : ShortP 17 ps) (hk : k ≤ k0 + 200) : DrawnPages w p k0 m (ShortP 17) (.returned (.slice (some ⟨g, 0, none⟩) n n)) W := by
  obtain ⟨S, h1, h2, h3, h4, h5⟩ := h
  exact ⟨_, n, ps, k, rfl, h1.mono (fun j hj _ => h2 j hj), hn1, hn, hQ, h3, hk, h4⟩
theorem Bent.pg (h : Bent w p g n ps k W) {j : Nat} (hj : j < n) : ∃ q a l c F, ps[j]? = some q ∧ g < W.heap.size ∧
      (W.cell? ⟨g, j * 4, none⟩ = some (.int .i64 q.kind) ∧ W.cell? ⟨g, j * 4 + 1, none⟩ = some (.int .i64 q.cls) ∧ W.cell? ⟨g, j * 4 + 2, none⟩ = some (.slice a l c) ∧ W.cell? ⟨g, j * 4 + 3, none⟩ = some (.int .i64 q.run)) ∧
      (W.frozen? ⟨g, j * 4, none⟩ = false ∧ W.frozen? ⟨g, j * 4 + 1, none⟩ = false ∧ W.frozen? ⟨g, j * 4 + 2, none⟩ = false ∧ W.frozen? ⟨g, j * 4 + 3, none⟩ = false) ∧
      Own KBool 4 W F (.slice a l c) l q.used ∧ l ≤ c ∧ c ≤ maxLen ∧
      (∀ u, Bent w p g n (ps.set j ⟨u, q.cls, q.used, q.run⟩) k (W.setCell ⟨g, j * 4, none⟩ (.int .i64 u))) ∧
      (∀ u, Bent w p g n (ps.set j ⟨q.kind, u, q.used, q.run⟩) k (W.setCell ⟨g, j * 4 + 1, none⟩ (.int .i64 u))) ∧
      (∀ u, Bent w p g n (ps.set j ⟨q.kind, q.cls, q.used, u⟩) k (W.setCell ⟨g, j * 4 + 3, none⟩ (.int .i64 u))) ∧
      (∀ (w1 : World) (G : Nat → Prop) (vq : Value) (m : Nat) (us : List Bool), Turn F W w1 → Own KBool 4 w1 G vq m us → (∀ k, G k → F k ∨ W.heap.size ≤ k) →
        Bent w p g n (ps.set j ⟨q.kind, q.cls, us, q.run⟩) k (w1.setCell ⟨g, j * 4 + 2, none⟩ vq) ∧ g < w1.heap.size ∧ w1.cell? ⟨g, j * 4 + 2, none⟩ = some (.slice a l c) ∧ w1.frozen? ⟨g, j * 4 + 2, none⟩ = false) := by
  obtain ⟨S, h1, h2, h3, h4, h5⟩ := h
  obtain ⟨g', cap, q, a, l, c, F, he, g0, hgS, hp, hcs, hfs, ⟨hU, hF, hlc, hcm⟩, x0, x1, x3, x2⟩ := h1.pg_put hj
  simp only [Value.slice.injEq, Option.some.injEq, Addr.mk.injEq, and_true, true_and] at he
  obtain ⟨rfl, rfl⟩ := he
  have hset : ∀ (o : Nat) (u : Value), Src (W.setCell ⟨g, o, none⟩ u) p k ∧ w.grownBy (W.setCell ⟨g, o, none⟩ u) (some p) := fun o u => by
    have ht := Turn.set W ⟨g, o, none⟩ u
    have hgw := h2 g hgS
    exact ⟨h3.turn ht (fun j hj => by have hj' : j = g := hj; omega), grown_turn h4 ht (fun j hj => by have hj' : j = g := hj; omega)⟩
  refine ⟨q, a, l, c, F, hp, g0, hcs, hfs, hU, hlc, hcm, fun u => ⟨S, x0 u, h2, (hset _ _).1, (hset _ _).2, h5⟩, fun u => ⟨S, x1 u, h2, (hset _ _).1, (hset _ _).2, h5⟩, fun u => ⟨S, x3 u, h2, (hset _ _).1, (hset _ _).2, h5⟩, fun w1 G vq m us hT hQ hG => ?_⟩
  obtain ⟨y1, y2, y3, y4, y5⟩ := x2 w1 G vq m us hT hQ hG
  refine ⟨⟨_, y1, ?_, h3.turn y2 (fun j hj => by have := h2 j hj; omega), grown_turn h4 y2 h2, h5⟩, y3, y4, y5⟩
  rintro j (hj | hj)
  · exact h2 j hj
  · rcases hG j hj with h | h
    · exact h2 j (hF j h).1
    · have := h4.size; omega
end

set_option maxRecDepth 100000 in
set_option maxHeartbeats 1600000 in
theorem l4Bent_calls {p k : Nat} {w : World} (hs : Src w p k) (hk : k ≤ 1000000) :
    Calls Try.prog 58 #[.pointer (some ⟨p, 0, none⟩)] w (DrawnPages w p k 51 (ShortP 17)) := by
  have hinfo : (Try.prog.info? 45).map (fun i => (i.zero, i.size, i.bytes)) = some (some (.agg #[.int .i64 0, .int .i64 0, .slice none 0 0, .int .i64 0]), 4, 48) := by kernel_rfl
  obtain ⟨i0, hi, hz0, hz1, hz2⟩ := info_parts hinfo
  obtain ⟨ib, hib, hb0, hb1, hb2⟩ := info_parts infoBool
  have HP := Lib.hid hs.lt
  go_enter Try.func58, Try.ntmps58
  go_wp2_with fail
  refine (l4Draw_calls hs hk).mono ?_
  rintro e w1 ⟨g, n, ps, k1, rfl, hO, hn1, hn2, hR, S1, hk1, G1⟩
  have HB1 : Hid (Bent w p g n ps k1 w1) := Lib.hid ⟨_, hO, fun _ h => h, S1, G1, HP.out⟩
  have HS := Lib.hid (hR.short.mono (show 16 ≤ 17 by decide))
  have HR := Lib.hid hR.short
  clear hO hR S1 G1
  go_wp2_with fail
  refine (next_calls HB1.out.src (by omega)).mono ?_
  rintro e w2 ⟨i, rfl, r0, r1, _, S2, hg2⟩
  obtain ⟨i, rfl⟩ : ∃ i' : Nat, i = i' := ⟨i.toNat, by omega⟩
  have hin : i < n := by have := r1 (by omega); omega
  have hin' : (i : Int) < (n : Int) := by omega
  have HB2 := Lib.hid (HB1.out.drawn S2 hg2)
  clear S2 hg2 r0 r1 HB1
  go_wp2_with fail
  refine (next_calls HB2.out.src (by omega)).mono ?_
  rintro e w3 ⟨x, rfl, x0, x1, _, S3, hg3⟩
  have x16 := x1 (by omega)
  have HB := Lib.hid (HB2.out.drawn S3 hg3)
  clear S3 hg3 x1 HB2
  by_cases hx6 : x < 6
  · rcases (show x = 0 ∨ x = 1 ∨ x = 2 ∨ x = 3 ∨ x = 4 ∨ x = 5 by omega) with e0 | e0 | e0 | e0 | e0 | e0
    · subst x
      go_wp2_with fail
      refine (pick_calls (HB.out.alloc _).src (by omega) (Ints.lit (n := 6) (xs := [0, 1, 2, 3, 4, (-1)]) (by simp) rfl) (by omega) (by omega) (by have := HB.out.src.lt; simp; omega)).mono ?_
      rintro e w4 ⟨u, rfl, hu, S4, hg4⟩
      have HB4 := Lib.hid ((HB.out.alloc _).drawn S4 hg4)
      clear hu S4 hg4
      obtain ⟨q, a, l, c, F, hp, g0, ⟨c0, c1, c2, c3⟩, ⟨f0, f1, f2, f3⟩, hU, hlc, hcm, b0, b1, b3, b2⟩ := HB4.out.pg hin
      have HD := Lib.hid ((b0 u).done (m := 51) (k0 := k) hn1 (by omega) (HS.out.set (show q.used.length ≤ 17 from HS.out.at_ hp)) (by omega))
      clear hp hU hlc hcm b0 b1 b2 b3
      go_wp2_with fail
      go_ret
      exact HD.out
    · subst x
      go_wp2_with fail
      refine (pick_calls (HB.out.alloc _).src (by omega) (Ints.lit (n := 3) (xs := [0, 1, 4]) (by simp) rfl) (by omega) (by omega) (by have := HB.out.src.lt; simp; omega)).mono ?_
      rintro e w4 ⟨u, rfl, hu, S4, hg4⟩
      have HB4 := Lib.hid ((HB.out.alloc _).drawn S4 hg4)
      clear hu S4 hg4
      obtain ⟨q, a, l, c, F, hp, g0, ⟨c0, c1, c2, c3⟩, ⟨f0, f1, f2, f3⟩, hU, hlc, hcm, b0, b1, b3, b2⟩ := HB4.out.pg hin
      have HD := Lib.hid ((b1 u).done (m := 51) (k0 := k) hn1 (by omega) (HS.out.set (show q.used.length ≤ 17 from HS.out.at_ hp)) (by omega))
      clear hp hU hlc hcm b0 b1 b2 b3
      go_wp2_with fail
      go_ret
      exact HD.out
    · subst x
      obtain ⟨q, a, l, c, F, hp, g0, ⟨c0, c1, c2, c3⟩, ⟨f0, f1, f2, f3⟩, hU, hlc, hcm, b0, b1, b3, b2⟩ := HB.out.pg hin
      have hql : q.used.length ≤ 16 := by
        have := HR.out.at_ hp; exact this
      have H2 := Lib.hid b2
      have HU := Lib.hid hU
      have hl16 : l ≤ 16 := by have := hU.1; omega
      clear b0 b1 b2 b3 hU
      go_wp2_with (
        at_builtin
        go_must (refine wpList_append_flat (K := KBool) (S' := fun _ => True) rfl (.tmp 37) (.tmp 38) 43 rfl 4 ib (.bool false) 1 Try.underlying43 hib hb0 hb1 hb2 rfl (by decide) flat_bool one_bool (v := .slice a l c) (n := l) (ys := [true]) (ao := some ⟨w3.heap.size, 0, none⟩) (m := 1) (c := 1) rfl (HU.out.alloc _) rfl (Lst.litB rfl (heap_alloc_new _ _) trivial rfl) (by unfold maxLen; omega) (by omega) ?_)
        intro v5 w5 hO5 hT5
        obtain ⟨va, vc, rfl, hvs⟩ := hO5.shape
        clear hvs
        have H3 := Lib.hid (H2.out w5 _ _ (l + 1) _ ((Turn.alloc F w3 _).trans hT5 (fun _ h _ => h)) hO5 (fun j hj => hj.imp id (fun h => by simp at h; omega)))
        obtain ⟨H31, H32, H33, H34⟩ := H3.out
        have HD := Lib.hid (H31.done (m := 51) (k0 := k) hn1 (by omega) (HS.out.set (by simp; omega)) (by omega))
        clear hO5 hT5 H31 H3 H2 HU)
      go_ret
      exact HD.out
    · subst x
      go_wp2_with fail
      refine (pick_calls (HB.out.alloc _).src (by omega) (Ints.lit (n := 4) (xs := [0, 1, 2, 5]) (by simp) rfl) (by omega) (by omega) (by have := HB.out.src.lt; simp; omega)).mono ?_
      rintro e w4 ⟨u, rfl, hu, S4, hg4⟩
      have HB4 := Lib.hid ((HB.out.alloc _).drawn S4 hg4)
      clear hu S4 hg4
      obtain ⟨q, a, l, c, F, hp, g0, ⟨c0, c1, c2, c3⟩, ⟨f0, f1, f2, f3⟩, hU, hlc, hcm, b0, b1, b3, b2⟩ := HB4.out.pg hin
      have HD := Lib.hid ((b3 u).done (m := 51) (k0 := k) hn1 (by omega) (HS.out.set (show q.used.length ≤ 17 from HS.out.at_ hp)) (by omega))
      clear hp hU hlc hcm b0 b1 b2 b3
      go_wp2_with fail
      go_ret
      exact HD.out
    · subst x
      obtain ⟨q, a, l, c, F, hp, g0, ⟨c0, c1, c2, c3⟩, ⟨f0, f1, f2, f3⟩, hU, hlc, hcm, b0, b1, b3, b2⟩ := HB.out.pg hin
      have hql : q.used.length ≤ 16 := by
        have := HR.out.at_ hp; exact this
      have H2 := Lib.hid b2
      have hl16 : l ≤ 16 := by have := hU.1; omega
      clear b0 b1 b2 b3 hU
      go_wp2_with (
        at_make
        go_must (refine wpList_make_full _ rfl _ _ 43 rfl w3.heap.size 4 ib (.bool false) 1 Try.underlying43 hib hb0 hb1 _ _ _ _ l rfl rfl rfl rfl (by rw [hb2]; omega) (by unfold maxLen; omega) (Nat.le_refl _) ?_)
        intro w5 hown hg5
        have hO5 : Own KBool 4 w5 (fun j => w3.heap.size = j) (.slice (some ⟨w3.heap.size, 0, none⟩) l l) l (List.replicate l false) := Own.of_made (K := KBool) (z := .bool false) hown rfl rfl rfl
        have H3 := Lib.hid (H2.out w5 _ _ l _ ⟨hg5.os, hg5.tape, hg5.output, hg5.size, fun i hi _ => hg5.block i hi (by simp)⟩ hO5 (fun j hj => .inr (by omega)))
        obtain ⟨H31, H32, H33, H34⟩ := H3.out
        have HD := Lib.hid (H31.done (m := 51) (k0 := k) hn1 (by omega) (HS.out.set (by simp; omega)) (by omega))
        clear hO5 hown hg5 H31 H3 H2)
      go_ret
      exact HD.out
    · subst x
      go_wp2_with fail
      refine (pick_calls (HB.out.alloc _).src (by omega) (Ints.lit (n := 3) (xs := [30, 39, 41]) (by simp) rfl) (by omega) (by omega) (by have := HB.out.src.lt; simp; omega)).mono ?_
      rintro e w4 ⟨u, rfl, hu, S4, hg4⟩
      obtain ⟨u, rfl⟩ : ∃ u' : Nat, u = u' := ⟨u.toNat, by simp at hu; omega⟩
      have hu1 : 30 ≤ u ∧ u ≤ 41 := by simp at hu; omega
      obtain ⟨S, hO, hO2, hO3, hO4, hO5⟩ := (HB.out.alloc _).drawn S4 hg4
      have H2 := Lib.hid hO2
      have H3 := Lib.hid hO3
      have H4 := Lib.hid hO4
      have HO := Lib.hid hO
      clear hu S4 hg4 hO hO2 hO3 hO4 hO5
      go_wp2_with (
        at_builtin
        go_must ((refine wpList_append_zeros (K := KPage) rfl (.tmp 63) (.tmp 66) 24 2 rfl 45 i0 (.agg #[.int .i64 0, .int .i64 0, .slice none 0 0, .int .i64 0]) 48 .i64 .i64 Try.underlying24 Try.underlying2 hi hz0 hz1 hz2 rfl (by decide) (y := Pg.free) rfl HO.out rfl (fun _ => KPage_own_mk (p := Pg.free) Own.nil) (by omega) (by unfold maxLen; omega) (by omega) ?_); intro v5 w5 hO5 hb5; have HD : Hid (DrawnPages w p k 51 (ShortP 17) (.returned v5) w5) := Lib.hid ⟨v5, n + u, _, _, rfl, hO5.mono (fun j hj _ => hj.elim (H2.out j) (fun h => by have := H4.out.size; omega)), by omega, by omega, HS.out.zeros, H3.out.below hb5, by omega, grown_turn H4.out (Turn.of_below (T := fun _ => False) hb5) (fun _ h => h.elim)⟩; clear hO5 hb5))
      go_ret
      exact HD.out
  · have HD := Lib.hid (HB.out.done (m := 51) (k0 := k) hn1 (by omega) HS.out (by omega))
    have e0 : (x == 0) = false := by rw [beq_eq_false_iff_ne]; omega
    have e1 : (x == 1) = false := by rw [beq_eq_false_iff_ne]; omega
    have e2 : (x == 2) = false := by rw [beq_eq_false_iff_ne]; omega
    have e3 : (x == 3) = false := by rw [beq_eq_false_iff_ne]; omega
    have e4 : (x == 4) = false := by rw [beq_eq_false_iff_ne]; omega
    have e5 : (x == 5) = false := by rw [beq_eq_false_iff_ne]; omega
    clear x0 x16 hx6
    go_wp2_with fail
    go_ret
    exact HD.out
end Go.Proofs.Ytkikjoalhohlgaa
