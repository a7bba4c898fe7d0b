/- Pages that are owned: one cell of one of them turned. -/
import Derived.Test.YtkikjoalhohlgaaOwn4
namespace Go.Proofs.Ytkikjoalhohlgaa
open Go.RowKit

theorem Own.pg_put {w : World} {S : Nat → Prop} {v : Value} {n : Nat} {ps : List Pg} (h : Own KPage 45 w S v n ps) {j : Nat} (hj : j < n) :
    ∃ g cap p a l c F, v = .slice (some ⟨g, 0, none⟩) n cap ∧ g < w.heap.size ∧ S g ∧ ps[j]? = some p ∧
      (w.cell? ⟨g, j * 4, none⟩ = some (.int .i64 p.kind) ∧ w.cell? ⟨g, j * 4 + 1, none⟩ = some (.int .i64 p.cls) ∧ w.cell? ⟨g, j * 4 + 2, none⟩ = some (.slice a l c) ∧ w.cell? ⟨g, j * 4 + 3, none⟩ = some (.int .i64 p.run)) ∧
      (w.frozen? ⟨g, j * 4, none⟩ = false ∧ w.frozen? ⟨g, j * 4 + 1, none⟩ = false ∧ w.frozen? ⟨g, j * 4 + 2, none⟩ = false ∧ w.frozen? ⟨g, j * 4 + 3, none⟩ = false) ∧
      (Own KBool 4 w F (.slice a l c) l p.used ∧ (∀ k, F k → S k ∧ k ≠ g ∧ k < w.heap.size) ∧ l ≤ c ∧ c ≤ maxLen) ∧
      (∀ u, Own KPage 45 (w.setCell ⟨g, j * 4, none⟩ (.int .i64 u)) S v n (ps.set j ⟨u, p.cls, p.used, p.run⟩)) ∧
      (∀ u, Own KPage 45 (w.setCell ⟨g, j * 4 + 1, none⟩ (.int .i64 u)) S v n (ps.set j ⟨p.kind, u, p.used, p.run⟩)) ∧
      (∀ u, Own KPage 45 (w.setCell ⟨g, j * 4 + 3, none⟩ (.int .i64 u)) S v n (ps.set j ⟨p.kind, p.cls, p.used, u⟩)) ∧
      (∀ (w1 : World) (G : Nat → Prop) (vq : Value) (m : Nat) (us : List Bool), Turn F w w1 → Own KBool 4 w1 G vq m us → (∀ k, G k → F k ∨ w.heap.size ≤ k) →
        Own KPage 45 (w1.setCell ⟨g, j * 4 + 2, none⟩ vq) (fun k => S k ∨ G k) v n (ps.set j ⟨p.kind, p.cls, us, p.run⟩) ∧ Turn S w (w1.setCell ⟨g, j * 4 + 2, none⟩ vq) ∧
        g < w1.heap.size ∧ w1.cell? ⟨g, j * 4 + 2, none⟩ = some (.slice a l c) ∧ w1.frozen? ⟨g, j * 4 + 2, none⟩ = false) := by
  obtain ⟨g, cap, cs, F, p, rfl, hg, hp, hcl, hu, ho, hF, hst⟩ := h.focus hj
  obtain ⟨v0, l, rfl, hU⟩ := KPage_own ho
  obtain ⟨a, c, rfl, hlc, hcm, _⟩ := hU.shape
  rw [KPage_sz] at hu hst
  obtain ⟨c0, c1, c2, c3, hcs, g0, q0, q1, q2, q3, f0, f1, f2, f3⟩ := hu.cells4 rfl
  injection hcs with e0 hcs; injection hcs with e1 hcs; injection hcs with e2 hcs; injection hcs with e3
  subst e0 e1 e2 e3
  have hS : ∀ k, (S k ∨ F k) → k < w.heap.size → S k := fun k hk _ => hk.elim id (fun h => (hF k h).1)
  refine ⟨g, cap, p, a, l, c, F, rfl, g0, hg, hp, ⟨q0, q1, q2, q3⟩, ⟨f0, f1, f2, f3⟩, ⟨hU, hF, hlc, hcm⟩, fun u => ?_, fun u => ?_, fun u => ?_, fun w1 G vq m us hT hQ hG => ?_⟩
  · have ht := Turn.set w ⟨g, j * 4, none⟩ (.int .i64 u)
    refine (hst _ F [.int .i64 u, .int .i64 p.cls, .slice a l c, .int .i64 p.run] ⟨u, p.cls, p.used, p.run⟩ rfl (ht.mono (fun k hk _ => .inr hk)) (by simpa using hu.set (i := 0) (u := .int .i64 u) (by simp)) (KPage_own_mk (p := ⟨u, p.cls, p.used, p.run⟩) (hU.turn ht (fun k hk _ e => (hF k hk).2.1 e))) (fun k hk => .inl hk)).mono (fun k hk hl => hS k hk (by simpa using hl))
  · have ht := Turn.set w ⟨g, j * 4 + 1, none⟩ (.int .i64 u)
    refine (hst _ F [.int .i64 p.kind, .int .i64 u, .slice a l c, .int .i64 p.run] ⟨p.kind, u, p.used, p.run⟩ rfl (ht.mono (fun k hk _ => .inr hk)) (by simpa using hu.set (i := 1) (u := .int .i64 u) (by simp)) (KPage_own_mk (p := ⟨p.kind, u, p.used, p.run⟩) (hU.turn ht (fun k hk _ e => (hF k hk).2.1 e))) (fun k hk => .inl hk)).mono (fun k hk hl => hS k hk (by simpa using hl))
  · have ht := Turn.set w ⟨g, j * 4 + 3, none⟩ (.int .i64 u)
    refine (hst _ F [.int .i64 p.kind, .int .i64 p.cls, .slice a l c, .int .i64 u] ⟨p.kind, p.cls, p.used, u⟩ rfl (ht.mono (fun k hk _ => .inr hk)) (by simpa using hu.set (i := 3) (u := .int .i64 u) (by simp)) (KPage_own_mk (p := ⟨p.kind, p.cls, p.used, u⟩) (hU.turn ht (fun k hk _ e => (hF k hk).2.1 e))) (fun k hk => .inl hk)).mono (fun k hk hl => hS k hk (by simpa using hl))
  · have hu1 := hu.turn hT (fun h => (hF g h).2.1 rfl)
    have ht := Turn.set w1 ⟨g, j * 4 + 2, none⟩ vq
    have hne : ∀ k, G k → k < w1.heap.size → ¬ k = g := fun k hk _ e => by
      subst e
      rcases hG _ hk with h | h
      · exact (hF _ h).2.1 rfl
      · omega
    have ht2 : Turn (fun k => F k ∨ k = g) w (w1.setCell ⟨g, j * 4 + 2, none⟩ vq) := (hT.mono (fun k hk _ => .inl hk)).trans ht (fun k hk _ => .inr hk)
    have hc2 := hu1.cell
    refine ⟨?_, ht2.mono (fun k hk _ => hk.elim (fun h => (hF k h).1) (fun h => h ▸ hg)), hc2.1, by simpa using hc2.2.1 2 (by simp), hc2.2.2 _⟩
    exact hst _ G [.int .i64 p.kind, .int .i64 p.cls, vq, .int .i64 p.run] ⟨p.kind, p.cls, us, p.run⟩ rfl ht2 (by simpa using hu1.set (i := 2) (u := vq) (by simp)) (KPage_own_mk (p := ⟨p.kind, p.cls, us, p.run⟩) (hQ.turn ht hne)) (fun k hk => (hG k hk).imp id (fun h hh => by omega))
end Go.Proofs.Ytkikjoalhohlgaa
