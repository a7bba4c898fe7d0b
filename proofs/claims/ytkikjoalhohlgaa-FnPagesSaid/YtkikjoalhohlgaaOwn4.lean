/- Pages that are owned: one of them turned. -/
import Derived.Test.YtkikjoalhohlgaaPage
namespace Go.Proofs.Ytkikjoalhohlgaa
open Go.RowKit

/-- One page of those that are owned: its cells; another one in its place; other slots in it. -/
theorem Own.pg_at {w : World} {S : Nat → Prop} {v : Value} {n : Nat} {ps : List Pg} (h : Own KPage 45 w S v n ps) {j : Nat} (hj : j < n) :
    ∃ g cap p a l c F, v = .slice (some ⟨g, 0, none⟩) n cap ∧ g < w.heap.size ∧ S g ∧ ps[j]? = some p ∧
      (w.cell? ⟨g, j * 4, none⟩ = some (.int .i64 p.kind) ∧ w.cell? ⟨g, j * 4 + 1, none⟩ = some (.int .i64 p.cls) ∧ w.cell? ⟨g, j * 4 + 2, none⟩ = some (.slice a l c) ∧ w.cell? ⟨g, j * 4 + 3, none⟩ = some (.int .i64 p.run)) ∧
      (w.frozen? ⟨g, j * 4, none⟩ = false ∧ w.frozen? ⟨g, j * 4 + 1, none⟩ = false ∧ w.frozen? ⟨g, j * 4 + 2, none⟩ = false ∧ w.frozen? ⟨g, j * 4 + 3, none⟩ = false) ∧
      (Own KBool 4 w F (.slice a l c) l p.used ∧ (∀ k, F k → S k ∧ k ≠ g ∧ k < w.heap.size) ∧ l ≤ c ∧ c ≤ maxLen) ∧
      (∀ (w1 : World) (q : Pg) (vq : Value) (m : Nat) (G : Nat → Prop), Turn (fun _ => False) w w1 → Own KBool 4 w1 G vq m q.used → (∀ k, G k → k < w.heap.size → ¬ S k) →
        Own KPage 45 ((((w1.setCell ⟨g, j * 4, none⟩ (.int .i64 q.kind)).setCell ⟨g, j * 4 + 1, none⟩ (.int .i64 q.cls)).setCell ⟨g, j * 4 + 2, none⟩ vq).setCell ⟨g, j * 4 + 3, none⟩ (.int .i64 q.run)) (fun k => S k ∨ G k) v n (ps.set j q) ∧
        Turn S w ((((w1.setCell ⟨g, j * 4, none⟩ (.int .i64 q.kind)).setCell ⟨g, j * 4 + 1, none⟩ (.int .i64 q.cls)).setCell ⟨g, j * 4 + 2, none⟩ vq).setCell ⟨g, j * 4 + 3, none⟩ (.int .i64 q.run)) ∧
        ((((w1.setCell ⟨g, j * 4, none⟩ (.int .i64 q.kind)).setCell ⟨g, j * 4 + 1, none⟩ (.int .i64 q.cls)).setCell ⟨g, j * 4 + 2, none⟩ vq).setCell ⟨g, j * 4 + 3, none⟩ (.int .i64 q.run)).cell? ⟨g, j * 4 + 2, none⟩ = some vq) ∧
      (∀ (w1 : World) (us : List Bool), Turn F w w1 → Own KBool 4 w1 F (.slice a l c) l us → Own KPage 45 w1 S v n (ps.set j ⟨p.kind, p.cls, us, p.run⟩) ∧ Turn S w w1) := by
  obtain ⟨g, cap, cs, F, p, rfl, hg, hp, hcl, hu, ho, hF, hst⟩ := h.focus hj
  obtain ⟨v0, l, rfl, hU⟩ := KPage_own ho
  obtain ⟨a, c, rfl, hlc, hcm, _⟩ := hU.shape
  rw [KPage_sz] at hu hst
  obtain ⟨c0, c1, c2, c3, hcs, g0, q0, q1, q2, q3, f0, f1, f2, f3⟩ := hu.cells4 rfl
  injection hcs with e0 hcs; injection hcs with e1 hcs; injection hcs with e2 hcs; injection hcs with e3
  subst e0 e1 e2 e3
  refine ⟨g, cap, p, a, l, c, F, rfl, g0, hg, hp, ⟨q0, q1, q2, q3⟩, ⟨f0, f1, f2, f3⟩, ⟨hU, hF, hlc, hcm⟩, fun w1 q vq m G hT hQ hG => ?_, fun w1 us hT hQ => ⟨?_, ?_⟩⟩
  · have hb := hT.none_
    have hT4 := Turn.set4 (w1 := w1) (g := g) (o0 := j * 4) (o1 := j * 4 + 1) (o2 := j * 4 + 2) (o3 := j * 4 + 3) (a := .int .i64 q.kind) (b := .int .i64 q.cls) (c := vq) (d := .int .i64 q.run)
    have hT5 : Turn (fun k => k = g) w _ := (Turn.of_below hb).trans hT4 (fun _ h _ => h)
    have hu1 := hu.turn (T := fun _ => False) hT (fun h => h)
    refine ⟨?_, hT5.mono (fun k hk _ => by rw [hk]; exact hg), (hu1.set4 rfl).cell.2.1 2 (by simp)⟩
    have hQ2 := hQ.turn hT4 (fun k hk _ e => hG k hk (by omega) (e ▸ hg))
    exact hst _ G _ q rfl (hT5.mono (fun k hk _ => .inr hk)) (hu1.set4 rfl) (KPage_own_mk hQ2) (fun k hk => .inr (fun h => hG k hk h.2 h.1))
  · have h1 := hst w1 F [.int .i64 p.kind, .int .i64 p.cls, .slice a l c, .int .i64 p.run] ⟨p.kind, p.cls, us, p.run⟩ rfl (hT.mono (fun k hk _ => .inl hk)) (hu.turn hT (fun h => (hF g h).2.1 rfl)) (KPage_own_mk (p := ⟨p.kind, p.cls, us, p.run⟩) hQ) (fun k hk => .inl hk)
    exact h1.mono (fun k hk _ => hk.elim id (fun h => (hF k h).1))
  · exact hT.mono (fun k hk _ => (hF k hk).1)
end Go.Proofs.Ytkikjoalhohlgaa
