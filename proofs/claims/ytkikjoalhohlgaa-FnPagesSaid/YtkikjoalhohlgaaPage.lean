/- Pages in memory. -/
import Derived.Test.YtkikjoalhohlgaaLeaf
namespace Go.Proofs.Ytkikjoalhohlgaa
open Go.RowKit

/-- A page, in plain words. -/
structure Pg where
  kind : Int
  cls : Int
  used : List Bool
  run : Int
theorem Pg.ext_ {p q : Pg} (h1 : p.kind = q.kind) (h2 : p.cls = q.cls) (h3 : p.used = q.used) (h4 : p.run = q.run) : p = q := by
  cases p; cases q; simp_all
instance : DecidableEq Pg := fun p q => decidable_of_iff (p.kind = q.kind ∧ p.cls = q.cls ∧ p.used = q.used ∧ p.run = q.run) ⟨fun ⟨h1, h2, h3, h4⟩ => Pg.ext_ h1 h2 h3 h4, fun h => by subst h; exact ⟨rfl, rfl, rfl, rfl⟩⟩
def Pg.free : Pg := ⟨0, 0, [], 0⟩

def KPage : Lay Pg := KMap (KPair KInt (KPair KInt (KPair (KSlice KBool 4) KInt))) fun p => (p.kind, p.cls, p.used, p.run)
theorem KPage_sz : KPage.sz = 4 := rfl
/-- The cells of a page. -/
def pgCells (p : Pg) (v : Value) : List Value := [.int .i64 p.kind, .int .i64 p.cls, v, .int .i64 p.run]

theorem KPage_rd {w : World} {S : Nat → Prop} {cs : List Value} {p : Pg} (h : KPage.rd w S cs p) : ∃ a n c, cs = [.int .i64 p.kind, .int .i64 p.cls, .slice a n c, .int .i64 p.run] ∧ n ≤ c ∧ c ≤ maxLen ∧ Lst KBool w S a n p.used := by
  obtain ⟨c1, c2, rfl, h1, c3, c4, rfl, h2, c5, c6, rfl, ⟨a, n, c, h3, hn, hc, hl⟩, h4⟩ := h
  refine ⟨a, n, c, ?_, hn, hc, hl⟩
  rw [show c1 = [.int .i64 p.kind] from h1, show c3 = [.int .i64 p.cls] from h2, h3, show c6 = [.int .i64 p.run] from h4]; rfl
theorem KPage_rd_mk {w : World} {S : Nat → Prop} {p : Pg} {a : Option Addr} {n c : Nat} (hn : n ≤ c) (hc : c ≤ maxLen) (hl : Lst KBool w S a n p.used) : KPage.rd w S [.int .i64 p.kind, .int .i64 p.cls, .slice a n c, .int .i64 p.run] p :=
  ⟨[.int .i64 p.kind], _, rfl, rfl, [.int .i64 p.cls], _, rfl, rfl, [.slice a n c], [.int .i64 p.run], rfl, ⟨a, n, c, rfl, hn, hc, hl⟩, rfl⟩
theorem KPage_own {w : World} {S : Nat → Prop} {cs : List Value} {p : Pg} (h : KPage.own w S cs p) : ∃ v n, cs = [.int .i64 p.kind, .int .i64 p.cls, v, .int .i64 p.run] ∧ Own KBool 4 w S v n p.used := by
  obtain ⟨c1, c2, _, _, rfl, h1, ⟨c3, c4, _, _, rfl, h2, ⟨c5, c6, _, _, rfl, ⟨v, n, h3, hl⟩, h4, k1, k2, _⟩, m1, m2, _⟩, n1, n2, _⟩ := h
  refine ⟨v, n, ?_, hl.mono (fun k hk _ => n2 _ (m2 _ (k1 _ hk)))⟩
  rw [show c1 = [.int .i64 p.kind] from h1, show c3 = [.int .i64 p.cls] from h2, h3, show c6 = [.int .i64 p.run] from h4]; rfl
theorem KPage_own_mk {w : World} {S : Nat → Prop} {p : Pg} {v : Value} {n : Nat} (hl : Own KBool 4 w S v n p.used) : KPage.own w S [.int .i64 p.kind, .int .i64 p.cls, v, .int .i64 p.run] p :=
  ⟨[.int .i64 p.kind], _, fun _ => False, S, rfl, rfl, ⟨[.int .i64 p.cls], _, fun _ => False, S, rfl, rfl, ⟨[v], [.int .i64 p.run], S, fun _ => False, rfl, ⟨v, n, rfl, hl⟩, rfl, fun _ h => h, fun _ h => h.elim, fun _ _ h => h.elim⟩, fun _ h => h.elim, fun _ h => h, fun _ h => h.elim⟩, fun _ h => h.elim, fun _ h => h, fun _ h => h.elim⟩

/-- A page of a list, in its cells. -/
theorem Lst.pg_at {w : World} {S : Nat → Prop} {ao : Option Addr} {n : Nat} {ps : List Pg} (h : Lst KPage w S ao n ps) {j : Nat} (hj : j < n) :
    ∃ b off p a l c, ao = some ⟨b, off, none⟩ ∧ b < w.heap.size ∧ ps[j]? = some p ∧ w.cell? ⟨b, off + j * 4, none⟩ = some (.int .i64 p.kind) ∧ w.cell? ⟨b, off + j * 4 + 1, none⟩ = some (.int .i64 p.cls) ∧ w.cell? ⟨b, off + j * 4 + 2, none⟩ = some (.slice a l c) ∧ w.cell? ⟨b, off + j * 4 + 3, none⟩ = some (.int .i64 p.run) ∧ l ≤ c ∧ c ≤ maxLen ∧ Lst KBool w S a l p.used := by
  obtain ⟨b, off, cs, p, rfl, hb, hs, hx, hl, hcs, hr⟩ := h.at_ hj
  obtain ⟨a, l, c, rfl, hlc, hcm, hu⟩ := KPage_rd hr
  have h0 := hcs 0 (by rw [KPage_sz]; omega)
  have h1 := hcs 1 (by rw [KPage_sz]; omega)
  have h2 := hcs 2 (by rw [KPage_sz]; omega)
  have h3 := hcs 3 (by rw [KPage_sz]; omega)
  rw [KPage_sz] at h0 h1 h2 h3
  exact ⟨b, off, p, a, l, c, rfl, hb, hx, h0, h1, h2, h3, hlc, hcm, hu⟩

theorem Upd.set4 {w w1 : World} {t : TypeId} {g off : Nat} {cs : List Value} {a b c d : Value} (h : Upd w w1 t g off cs) (hl : cs.length = 4) :
    Upd w ((((w1.setCell ⟨g, off, none⟩ a).setCell ⟨g, off + 1, none⟩ b).setCell ⟨g, off + 2, none⟩ c).setCell ⟨g, off + 3, none⟩ d) t g off [a, b, c, d] := by
  match cs, hl with
  | [x0, x1, x2, x3], _ => exact (((h.set (i := 0) (u := a) (by simp)).set (i := 1) (u := b) (by simp)).set (i := 2) (u := c) (by simp)).set (i := 3) (u := d) (by simp)
/-- The cells of one page of those that are owned. -/
theorem Upd.cells4 {w w1 : World} {t : TypeId} {g off : Nat} {cs : List Value} (h : Upd w w1 t g off cs) (hl : cs.length = 4) : ∃ c0 c1 c2 c3, cs = [c0, c1, c2, c3] ∧ g < w1.heap.size ∧
    w1.cell? ⟨g, off, none⟩ = some c0 ∧ w1.cell? ⟨g, off + 1, none⟩ = some c1 ∧ w1.cell? ⟨g, off + 2, none⟩ = some c2 ∧ w1.cell? ⟨g, off + 3, none⟩ = some c3 ∧
    w1.frozen? ⟨g, off, none⟩ = false ∧ w1.frozen? ⟨g, off + 1, none⟩ = false ∧ w1.frozen? ⟨g, off + 2, none⟩ = false ∧ w1.frozen? ⟨g, off + 3, none⟩ = false := by
  obtain ⟨h1, h2, h3⟩ := h.cell
  match cs, hl with
  | [x0, x1, x2, x3], _ => exact ⟨x0, x1, x2, x3, rfl, h1, h2 0 (by simp), h2 1 (by simp), h2 2 (by simp), h2 3 (by simp), h3 _, h3 _, h3 _, h3 _⟩
theorem Turn.set4 {w1 : World} {g o0 o1 o2 o3 : Nat} {a b c d : Value} : Turn (fun k => k = g) w1 ((((w1.setCell ⟨g, o0, none⟩ a).setCell ⟨g, o1, none⟩ b).setCell ⟨g, o2, none⟩ c).setCell ⟨g, o3, none⟩ d) :=
  (((Turn.set w1 ⟨g, o0, none⟩ a).trans (Turn.set _ ⟨g, o1, none⟩ b) (fun _ h _ => h)).trans (Turn.set _ ⟨g, o2, none⟩ c) (fun _ h _ => h)).trans (Turn.set _ ⟨g, o3, none⟩ d) (fun _ h _ => h)

/-- No list of slots is longer than this. -/
def ShortP (N : Nat) (ps : List Pg) : Prop := ∀ p ∈ ps, p.used.length ≤ N
theorem ShortP.at_ {N : Nat} {ps : List Pg} (h : ShortP N ps) {k : Nat} {p : Pg} (hk : ps[k]? = some p) : p.used.length ≤ N := h p (List.mem_of_getElem? hk)

/-- What a list has from one place on. -/
theorem drop_at {α : Type} {xs : List α} {k : Nat} {x : α} (h : xs[k]? = some x) : xs.drop k = x :: xs.drop (k + 1) := by
  obtain ⟨hk, rfl⟩ := List.getElem?_eq_some_iff.1 h
  exact List.drop_eq_getElem_cons hk
theorem drop_end {α : Type} {xs : List α} {k : Nat} (h : xs.length ≤ k) : xs.drop k = [] := List.drop_eq_nil_of_le h
end Go.Proofs.Ytkikjoalhohlgaa
