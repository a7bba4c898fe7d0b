/- The draws of chapter 2: what is known of a config while it is drawn. -/
import Derived.Test.YtmibekddapnaaaaSrc
import Derived.Test.YtmibekddapnaaaaHelp2b
import Derived.Test.YtmibekddapnaaaaArgs2
import Derived.Deep.AppendLies
import Derived.Deep.DeepCutAuto
import Derived.Deep.RegionHeld3
namespace Go.Proofs.Ytmibekddapnaaaa
open Go.RowKit

/-- A slice of numbers in a block of its own, of numbers alone. -/
def Lits (w : World) (a : Option Addr) (m : Nat) (xs : List Int) : Prop :=
  xs.length = m ∧ (0 < m → ∃ b cs, a = some ⟨b, 0, none⟩ ∧ Row w b 2 cs ∧ ∀ j, j < m → cs[j]? = some (.int .i64 (xs.getD j 0)))
theorem Lits.none_ (w : World) : Lits w none 0 [] := ⟨rfl, fun h => absurd h (by omega)⟩
theorem Lits.ints {w : World} {a : Option Addr} {m : Nat} {xs : List Int} (h : Lits w a m xs) : Ints w a m xs := by
  refine ⟨h.1, fun h0 => ?_⟩
  obtain ⟨b, cs, rfl, hr, hc⟩ := h.2 h0
  exact ⟨b, 0, rfl, hr.lt, fun j hj => by rw [Nat.zero_add, Row.cell hr]; exact hc j hj⟩
theorem Lits.below {w w' : World} {a : Option Addr} {m : Nat} {xs : List Int} (h : Lits w a m xs) (hb : Below w.heap.size w w') : Lits w' a m xs := by
  refine ⟨h.1, fun h0 => ?_⟩
  obtain ⟨b, cs, rfl, hr, hc⟩ := h.2 h0
  exact ⟨b, cs, rfl, hr.below hb, hc⟩
theorem Lits.kept {w w' : World} {a : Option Addr} {m g : Nat} {xs : List Int} {t : TypeId} {cs : Array Value} (h : Lits w a m xs) (hg : w.grownBy w' (some g)) (hr : Row w g t cs) (ht : t ≠ 2) : Lits w' a m xs := by
  refine ⟨h.1, fun h0 => ?_⟩
  obtain ⟨b, cs', rfl, hr', hc⟩ := h.2 h0
  refine ⟨b, cs', rfl, (hg.block b hr'.lt (fun e => ?_)).trans hr', hc⟩
  injection e with e
  subst e
  unfold Row at hr hr'
  rw [hr] at hr'
  simp only [Option.some.injEq, Obj.cells.injEq] at hr'
  exact ht hr'.2.1
theorem Lits.new {w : World} {b m : Nat} {xs : List Int} (hb : b = w.heap.size) (hm : xs.length = m) : Lits (w.alloc (.cells (xs.map (Value.int .i64)).toArray 2)) (some ⟨b, 0, none⟩) m xs := by
  subst hb
  refine ⟨hm, fun _ => ⟨w.heap.size, _, rfl, heap_alloc_new w _, fun j hj => ?_⟩⟩
  simp [List.getD, hm.symm ▸ hj]

/-- The cells of n tenants, each with at most two colours. -/
def TenCells (w : World) (n : Nat) (cells : List Value) : Prop :=
  ∀ j, j < n → ∃ a m cc xs cp, m ≤ cc ∧ m ≤ 2 ∧ cells[j * 2]? = some (.slice a m cc) ∧ cells[j * 2 + 1]? = some (.int .i64 cp) ∧ Lits w a m xs
theorem TenCells.below {w w' : World} {n : Nat} {cells : List Value} (h : TenCells w n cells) (hb : Below w.heap.size w w') : TenCells w' n cells := fun j hj => by
  obtain ⟨a, m, cc, xs, cp, h1, h2, h3, h4, h5⟩ := h j hj
  exact ⟨a, m, cc, xs, cp, h1, h2, h3, h4, h5.below hb⟩
theorem TenCells.kept {w w' : World} {n g : Nat} {cells : List Value} {t : TypeId} {cs : Array Value} (h : TenCells w n cells) (hg : w.grownBy w' (some g)) (hr : Row w g t cs) (ht : t ≠ 2) : TenCells w' n cells := fun j hj => by
  obtain ⟨a, m, cc, xs, cp, h1, h2, h3, h4, h5⟩ := h j hj
  exact ⟨a, m, cc, xs, cp, h1, h2, h3, h4, h5.kept hg hr ht⟩
theorem TenCells.one {w : World} {a : Option Addr} {m cc : Nat} {xs : List Int} {cp : Int} (h : Lits w a m xs) (hm : m ≤ cc) (h2 : m ≤ 2) : TenCells w 1 [.slice a m cc, .int .i64 cp] := fun j hj => by
  obtain rfl : j = 0 := by omega
  exact ⟨a, m, cc, xs, cp, hm, h2, rfl, rfl, h⟩
theorem TenCells.append {w : World} {n m : Nat} {cs ds : List Value} (h : TenCells w n cs) (hl : cs.length = n * 2) (h2 : TenCells w m ds) : TenCells w (n + m) (cs ++ ds) := fun j hj => by
  by_cases e : j < n
  · obtain ⟨a, k, cc, xs, cp, h1, h2, h3, h4, h5⟩ := h j e
    exact ⟨a, k, cc, xs, cp, h1, h2, by rw [List.getElem?_append_left (by omega)]; exact h3, by rw [List.getElem?_append_left (by omega)]; exact h4, h5⟩
  · obtain ⟨a, k, cc, xs, cp, h1, h2, h3, h4, h5⟩ := h2 (j - n) (by omega)
    refine ⟨a, k, cc, xs, cp, h1, h2, ?_, ?_, h5⟩
    · rw [List.getElem?_append_right (by omega), hl, show j * 2 - n * 2 = (j - n) * 2 by omega]; exact h3
    · rw [List.getElem?_append_right (by omega), hl, show j * 2 + 1 - n * 2 = (j - n) * 2 + 1 by omega]; exact h4
theorem TenCells.setCol {w : World} {n j : Nat} {cs : List Value} (h : TenCells w n cs) {a : Option Addr} {m cc : Nat} {xs : List Int} (hl : Lits w a m xs) (hm : m ≤ cc) (h2 : m ≤ 2) : TenCells w n (cs.set (j * 2) (.slice a m cc)) := fun i hi => by
  obtain ⟨a', k, cc', xs', cp, h1, h2', h3, h4, h5⟩ := h i hi
  have h4' : (cs.set (j * 2) (.slice a m cc))[i * 2 + 1]? = some (.int .i64 cp) := by rw [List.getElem?_set_ne (by omega)]; exact h4
  by_cases e : i = j
  · subst e
    have hlt : i * 2 < cs.length := (List.getElem?_eq_some_iff.1 h3).1
    exact ⟨a, m, cc, xs, cp, hm, h2, by rw [List.getElem?_set_self hlt], h4', hl⟩
  · exact ⟨a', k, cc', xs', cp, h1, h2', by rw [List.getElem?_set_ne (by omega)]; exact h3, h4', h5⟩
theorem TenCells.setCpu {w : World} {n j : Nat} {cs : List Value} (h : TenCells w n cs) (u : Int) : TenCells w n (cs.set (j * 2 + 1) (.int .i64 u)) := fun i hi => by
  obtain ⟨a', k, cc', xs', cp, h1, h2', h3, h4, h5⟩ := h i hi
  have h3' : (cs.set (j * 2 + 1) (.int .i64 u))[i * 2]? = some (.slice a' k cc') := by rw [List.getElem?_set_ne (by omega)]; exact h3
  by_cases e : i = j
  · subst e
    have hlt : i * 2 + 1 < cs.length := (List.getElem?_eq_some_iff.1 h4).1
    exact ⟨a', k, cc', xs', u, h1, h2', h3', by rw [List.getElem?_set_self hlt], h5⟩
  · exact ⟨a', k, cc', xs', cp, h1, h2', h3', by rw [List.getElem?_set_ne (by omega)]; exact h4, h5⟩

/-- A row of n tenants of the call's own. -/
def TenRow (w : World) (B : Nat) (v : Value) (n : Nat) (cells : List Value) : Prop := w.ownsRow B 67 2 v n cells ∧ TenCells w n cells
theorem TenRow.below {w w' : World} {B n : Nat} {v : Value} {cells : List Value} (h : TenRow w B v n cells) (hb : Below w.heap.size w w') : TenRow w' B v n cells :=
  ⟨h.1.kept (row := none) ⟨hb.os, hb.tape, hb.output, hb.size, fun k hk _ => hb.block k hk⟩ (by rcases hv : v.ownBlock with _ | k <;> simp), h.2.below hb⟩
theorem TenRow.kept {w w' : World} {B n g : Nat} {v : Value} {cells : List Value} {t : TypeId} {cs : Array Value} (h : TenRow w B v n cells) (hg : w.grownBy w' (some g)) (hr : Row w g t cs) (ht : t ≠ 2) (hne : t ≠ 67) : TenRow w' B v n cells := by
  refine ⟨h.1.kept hg ?_, h.2.kept hg hr ht⟩
  rcases h.1.2 with ⟨rfl, _⟩ | ⟨g', cap, cur, rfl, _, hh, _⟩
  · exact .inl rfl
  · right
    intro e
    have : g' = g := by simpa [Value.ownBlock] using e
    subst this
    unfold Row at hr
    rw [hr] at hh
    simp only [Option.some.injEq, Obj.cells.injEq] at hh
    exact hne hh.2.1
/-- A literal of one tenant. -/
theorem TenRow.lit {w : World} {B b m cc : Nat} {a : Option Addr} {xs : List Int} {cp : Int} (hB : B ≤ w.heap.size) (hb : b = w.heap.size) (hl : Lits w a m xs) (hm : m ≤ cc) (h2 : m ≤ 2) :
    TenRow (w.alloc (.cells #[.slice a m cc, .int .i64 cp] 67)) B (.slice (some ⟨b, 0, none⟩) 1 1) 1 [.slice a m cc, .int .i64 cp] := by
  subst hb
  exact ⟨⟨rfl, .inr ⟨w.heap.size, 1, _, rfl, hB, heap_alloc_new w _, Nat.le_refl _, by simp [maxLen], rfl, rfl⟩⟩, TenCells.one (hl.below ((Below.refl _ _).alloc (Nat.le_refl _) _)) hm h2⟩
theorem TenRow.form {w : World} {B n : Nat} {v : Value} {cells : List Value} (h : TenRow w B v n cells) (h0 : 0 < n) : ∃ g cap, v = .slice (some ⟨g, 0, none⟩) n cap ∧ B ≤ g ∧ g < w.heap.size ∧ n ≤ cap ∧ ∃ cur, Row w g 67 cur := by
  rcases h.1.2 with ⟨_, hn⟩ | ⟨g, cap, cur, rfl, hb, hh, hn, _⟩
  · omega
  · exact ⟨g, cap, rfl, hb, (Array.getElem?_eq_some_iff.1 hh).1, hn, cur, hh⟩
theorem TenRow.cells {w : World} {B n g cap i : Nat} {cells : List Value} (h : TenRow w B (.slice (some ⟨g, 0, none⟩) n cap) n cells) (hi : i < n * 2) : (∃ u, w.cell? ⟨g, i, none⟩ = some u) ∧ w.frozen? ⟨g, i, none⟩ = false := by
  have hl := h.1.1
  have hc := h.1.cellAt i (by omega)
  exact ⟨⟨_, by rw [hc]; exact List.getElem?_eq_getElem (by omega)⟩, h.1.frozenAt i⟩
theorem TenRow.setCpu {w : World} {B n g cap : Nat} {cells : List Value} (h : TenRow w B (.slice (some ⟨g, 0, none⟩) n cap) n cells) (hn : 0 < n) (u : Int) : TenRow (w.setCell ⟨g, 1, none⟩ (.int .i64 u)) B (.slice (some ⟨g, 0, none⟩) n cap) n (cells.set 1 (.int .i64 u)) := by
  obtain ⟨g', cap', he, _, _, _, cur, hr⟩ := h.form hn
  simp only [Value.slice.injEq, Option.some.injEq, Addr.mk.injEq, and_true, true_and] at he
  obtain ⟨rfl, rfl⟩ := he
  obtain ⟨h1, h2⟩ := h.1.stored 1 (.int .i64 u)
  exact ⟨h1, (h.2.setCpu (j := 0) u).kept h2 hr (by decide)⟩
theorem TenRow.setCol {w : World} {B n g cap m cc : Nat} {a : Option Addr} {xs : List Int} {cells : List Value} (h : TenRow w B (.slice (some ⟨g, 0, none⟩) n cap) n cells) (hn : 0 < n) (hl : Lits w a m xs) (hm : m ≤ cc) (h2 : m ≤ 2) : TenRow (w.setCell ⟨g, 0, none⟩ (.slice a m cc)) B (.slice (some ⟨g, 0, none⟩) n cap) n (cells.set 0 (.slice a m cc)) := by
  obtain ⟨g', cap', he, _, _, _, cur, hr⟩ := h.form hn
  simp only [Value.slice.injEq, Option.some.injEq, Addr.mk.injEq, and_true, true_and] at he
  obtain ⟨rfl, rfl⟩ := he
  obtain ⟨h1, h2'⟩ := h.1.stored 0 (.slice a m cc)
  exact ⟨h1, (h.2.setCol (j := 0) hl hm h2).kept h2' hr (by decide)⟩
/-- The row of tenants reads. -/
theorem TenRow.tens {w : World} {B n : Nat} {v : Value} {cells : List Value} (h : TenRow w B v n cells) : ∃ ao cap ts, v = .slice ao n cap ∧ n ≤ cap ∧ Tens w ao n ts ∧ Short 2 ts := by
  rcases Nat.eq_zero_or_pos n with rfl | h0
  · rcases h.1.2 with ⟨rfl, _⟩ | ⟨g, cap, cur, rfl, _⟩
    · exact ⟨none, 0, [], rfl, Nat.le_refl _, Tens.none_ _, fun t ht => by simp at ht⟩
    · exact ⟨_, cap, [], rfl, Nat.zero_le _, ⟨rfl, fun h => absurd h (by omega)⟩, fun t ht => by simp at ht⟩
  · obtain ⟨g, cap, rfl, _, hg, hcap, cur, hr⟩ := h.form h0
    have hl := h.1.1
    have hx : ∀ k, k ≤ n → ∃ ts : List (List Int × Int), ts.length = k ∧ Short 2 ts ∧ ∀ i, i < k → Ten w g (i * 2) (tenAt ts i) := by
      intro k
      induction k with
      | zero => exact fun _ => ⟨[], rfl, fun t ht => by simp at ht, fun i hi => by omega⟩
      | succ k ih =>
        intro hk
        obtain ⟨ts, hl', hs, hc⟩ := ih (by omega)
        obtain ⟨a, m, cc, xs, cp, h1, h2, h3, h4, h5⟩ := h.2 k (by omega)
        refine ⟨ts ++ [(xs, cp)], by simp [hl'], ?_, fun i hi => ?_⟩
        · intro t ht
          rcases List.mem_append.1 ht with h6 | h6
          · exact hs t h6
          · simp at h6; subst h6
            have := h5.1
            simp only; omega
        · by_cases e : i = k
          · subst e
            have ht : tenAt (ts ++ [(xs, cp)]) i = (xs, cp) := by simp [tenAt, List.getD, ← hl']
            rw [ht]
            exact ⟨hg, a, m, cc, h1, by rw [h.1.cellAt _ (by omega)]; exact h3, by rw [h.1.cellAt _ (by omega)]; exact h4, h5.ints⟩
          · have ht : tenAt (ts ++ [(xs, cp)]) i = tenAt ts i := by
              unfold tenAt
              rw [List.getD_eq_getElem?_getD, List.getD_eq_getElem?_getD, List.getElem?_append_left (by omega)]
            rw [ht]; exact hc i (by omega)
    obtain ⟨ts, hl', hs, hc⟩ := hx n (Nat.le_refl _)
    exact ⟨_, cap, ts, rfl, hcap, ⟨hl', fun _ => ⟨g, 0, rfl, hg, fun j hj => by rw [Nat.zero_add]; exact hc j hj⟩⟩, hs⟩
end Go.Proofs.Ytmibekddapnaaaa
