/- A config that came in, opened to what is known of it in memory. -/
import Derived.Test.YtmibekddapnaaaaTen
import Derived.Lib.SmallJoins
import Derived.Deep.Slices
import Derived.Deep.Fields
import Derived.ChangeSame
import Derived.OpenShut
namespace Go.Proofs.Ytmibekddapnaaaa
open Go.Joins Go.ChangeShapes Go.WideShapes Go.RowKit Go.Deep
set_option linter.unusedVariables false

section
variable {H : Type} {enc : TypeId × Value → H} {P : Program} {w : World} {base : Nat} {spare : Nat → Bool} {held : Bool}
/-- A slice of structs of one-cell fields: each element's fields in their cells. -/
theorem open_structs {t e : TypeId} {fs : Array Field} {fuel : Nat} {cs : List Value} {x : DataW H × List MemPlace} (ht : P.underlying t = some (.slice e)) (he : P.underlying e = some (.struct fs))
    (hone : oneCellFields P fs = true) (hC : P.cellsOf e = fs.size) (h : DataW.trod enc P w base spare held fuel t cs = some x) :
    cs = [.slice none 0 0] ∨
    ∃ (a : Addr) (len cap : Nat), cs = [.slice (some a) len cap] ∧ len ≤ cap ∧ cap ≤ maxLen ∧
      ∀ i, i < len → ∃ n, ∀ (j : Nat) (f : Field), fs[j]? = some f → ∃ (v : Value) (y : DataW H × List MemPlace), w.cell? (a.add (i * fs.size + j)) = some v ∧ DataW.trod enc P w base spare held n f.type [v] = some y := by
  rcases open_slice ht h with h0 | ⟨a, len, cap, m, n, D, Pl, hcs, hb, hl, hm, hmm, hx, hi⟩
  · exact .inl h0.1
  · refine .inr ⟨a, len, cap, hcs, hl, hm, fun i him => ?_⟩
    have him2 : i < m := by
      rw [hmm]; split <;> omega
    obtain ⟨cs', hc, ht'⟩ := hi i him2
    rw [hC] at hc
    obtain ⟨ys, n', hn', hy, hlen, hyl, hf⟩ := DataW.trod_struct he ht'
    obtain ⟨_, hcl, hat⟩ := World.cells?_some hc
    refine ⟨n', fun j f hj => ?_⟩
    obtain ⟨ho, hk⟩ := hone_of hone j f hj
    have hjl : j < fs.size := (Array.getElem?_eq_some_iff.1 hj).1
    have hcell := hat j hjl
    have hv : cs'[j]? = some (cs'[j]'(by omega)) := List.getElem?_eq_getElem (by omega)
    have h1 := hf j f hj
    rw [ho, hk] at h1
    have hone' : (cs'.drop j).take 1 = [cs'[j]'(by omega)] := by
      rw [List.drop_eq_getElem_cons (by omega)]
      rfl
    rw [hone'] at h1
    have hys : ys[j]? = some (ys[j]'(by omega)) := List.getElem?_eq_getElem (by omega)
    refine ⟨_, _, ?_, h1.trans hys⟩
    rw [← Go.Deep.add_add, hcell, hv]
end

theorem ints_of_trod {H : Type} {enc : TypeId × Value → H} {w : World} {base : Nat} {spare : Nat → Bool} {held : Bool} {fuel : Nat} {v : Value} {x : DataW H × List MemPlace}
    (h : DataW.trod enc Try.prog w base spare held fuel 29 [v] = some x) : ∃ a m c xs, v = .slice a m c ∧ m ≤ c ∧ c ≤ maxLen ∧ Ints w a m xs := by
  rcases open_ints Try.underlying29 Try.underlying2 (by kernel_rfl) h with ⟨hcs, _⟩ | ⟨x, l, c, zs, hcs, _, hl, hm, hz, _, hcell, hwz⟩
  · simp at hcs
    exact ⟨none, 0, 0, [], hcs, Nat.le_refl _, Nat.zero_le _, Ints.none_ _⟩
  · simp at hcs
    rcases Nat.eq_zero_or_pos l with rfl | h0
    · exact ⟨some x, 0, c, [], hcs, hl, hm, ⟨rfl, fun h => absurd h (by omega)⟩⟩
    · have hzl : l ≤ zs.length := by rw [hz]; split <;> omega
      obtain ⟨b, off, rfl, hc⟩ := ints_at hcell (by omega)
      refine ⟨_, l, c, zs.take l, hcs, hl, hm, by simp; omega, fun _ => ⟨b, off, rfl, World.block_lt_of_cell? w _ (hc 0 (by omega)), fun j hj => ?_⟩⟩
      rw [hc j (by omega)]; simp [List.getD, hj]

/-- The tenants of a config that came in (any element type with the two fields). -/
theorem tens_of_cells {w : World} {a : Addr} {n : Nat} (h : ∀ i, i < n → ∃ v0 c, w.cell? (a.add (i * 2)) = some v0 ∧ w.cell? (a.add (i * 2 + 1)) = some (.int .i64 c) ∧ ∃ b m cc xs, v0 = .slice b m cc ∧ m ≤ cc ∧ cc ≤ maxLen ∧ Ints w b m xs) :
    ∃ ts, Tens w (some a) n ts ∧ Short 9223372036854775807 ts := by
  have : ∀ k, k ≤ n → ∃ ts : List (List Int × Int), ts.length = k ∧ Short 9223372036854775807 ts ∧ ∀ i, i < k → ∃ b m cc, m ≤ cc ∧ w.cell? (a.add (i * 2)) = some (.slice b m cc) ∧ w.cell? (a.add (i * 2 + 1)) = some (.int .i64 (tenAt ts i).2) ∧ Ints w b m (tenAt ts i).1 := by
    intro k
    induction k with
    | zero => exact fun _ => ⟨[], rfl, fun t ht => by simp at ht, fun i hi => by omega⟩
    | succ k ih =>
      intro hk
      obtain ⟨ts, hl, hs, hc⟩ := ih (by omega)
      obtain ⟨v0, c, h0, h1, b, m, cc, xs, rfl, hm, hcc, hI⟩ := h k (by omega)
      refine ⟨ts ++ [(xs, c)], by simp [hl], ?_, fun i hi => ?_⟩
      · intro t ht
        rcases List.mem_append.1 ht with h2 | h2
        · exact hs t h2
        · simp at h2; subst h2
          have := hI.1
          unfold maxLen at hcc
          simp only; omega
      · by_cases e : i = k
        · subst e
          have ht : tenAt (ts ++ [(xs, c)]) i = (xs, c) := by simp [tenAt, List.getD, ← hl]
          exact ⟨b, m, cc, hm, h0, by rw [ht]; exact h1, by rw [ht]; exact hI⟩
        · have ht : tenAt (ts ++ [(xs, c)]) i = tenAt ts i := by
            unfold tenAt
            rw [List.getD_eq_getElem?_getD, List.getD_eq_getElem?_getD, List.getElem?_append_left (by omega)]
          rw [ht]; exact hc i (by omega)
  obtain ⟨ts, hl, hs, hc⟩ := this n (Nat.le_refl _)
  refine ⟨ts, ⟨hl, fun h0 => ?_⟩, hs⟩
  obtain ⟨b, off, spot⟩ := a
  obtain ⟨_, _, _, _, e0, _⟩ := hc 0 h0
  have hspot : spot = none := by simpa [Addr.add] using World.cell?_spot e0
  subst hspot
  have hb : b < w.heap.size := by
    have := World.block_lt_of_cell? w _ e0
    rwa [add_block] at this
  refine ⟨b, off, rfl, hb, fun j hj => ?_⟩
  obtain ⟨b', m, cc, hm, e0, e1, hI⟩ := hc j hj
  rw [Go.WideShapes.add_plain] at e0 e1
  exact ⟨hb, b', m, cc, hm, e0, by rw [Nat.add_assoc]; exact e1, hI⟩

theorem open_config {H : Type} {enc : TypeId × Value → H} {w : World} {base : Nat} {spare : Nat → Bool} {held : Bool} {r : Reach} {b0 : Nat} {v : Value} {d : DataW H} {p : List MemPlace}
    (hv : Value.okWide Try.prog w r b0 41 v) (h : DataW.Trod enc Try.prog w base spare held 41 v d p) :
    ∃ F C a n c ts, v = .agg #[.int .i64 F, .int .i64 C, .slice a n c] ∧ Tens w a n ts ∧ Short 9223372036854775807 ts ∧ n ≤ 9223372036854775807 := by
  obtain ⟨v0, v1, v2, y0, y1, y2, m, rfl, _, _, t0, t1, t2⟩ := open_agg3 Try.underlying41 (by kernel_rfl) (by kernel_rfl) hv h
  obtain ⟨F, h0, _⟩ := DataW.trod_int Try.underlying2 t0
  obtain ⟨C, h1, _⟩ := DataW.trod_int Try.underlying2 t1
  simp at h0 h1
  subst h0 h1
  rcases open_structs Try.underlying39 Try.underlying85 (by kernel_rfl) (by kernel_rfl) t2 with h2 | ⟨a, n, c, h2, hn, hc, hi⟩
  · simp at h2; subst h2
    exact ⟨F, C, none, 0, 0, [], rfl, Tens.none_ _, fun t ht => by simp at ht, Nat.zero_le _⟩
  · simp at h2; subst h2
    obtain ⟨ts, hT, hS⟩ := tens_of_cells (w := w) (a := a) (n := n) (fun i hi' => by
      obtain ⟨k, hf⟩ := hi i hi'
      obtain ⟨u0, z0, e0, f0⟩ := hf 0 _ rfl
      obtain ⟨u1, z1, e1, f1⟩ := hf 1 _ rfl
      obtain ⟨b, m, cc, xs, rfl, hm, hcc, hI⟩ := ints_of_trod f0
      obtain ⟨cp, hcp, _⟩ := DataW.trod_int Try.underlying2 f1
      simp at hcp
      subst hcp
      exact ⟨_, cp, e0, e1, b, m, cc, xs, rfl, hm, hcc, hI⟩)
    unfold maxLen at hc
    exact ⟨F, C, some a, n, c, ts, rfl, hT, hS, by omega⟩
end Go.Proofs.Ytmibekddapnaaaa
