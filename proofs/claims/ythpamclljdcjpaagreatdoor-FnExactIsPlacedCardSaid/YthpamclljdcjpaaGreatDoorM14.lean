/- Joined texts (Args4, Args5, Vars6): steps of the proofs of chapter 5's laws. -/
import Derived.Lib.SmallJoins
import Derived.Deep.Slices
import Derived.Deep.Fields
import Derived.ChangeSame
import Derived.OpenShut
import Derived.Deep.Strs
import Derived.Stop.LaidErr
import Derived.RowKitTokens
import Derived.Test.YthpamclljdcjpaaGreatDoorM1
import Derived.Test.YthpamclljdcjpaaGreatDoorM5
set_option linter.unusedVariables false
set_option linter.unusedSimpArgs false
/- Pages that came in, opened to what is known of them in memory. -/
namespace Go.Proofs.YthpamclljdcjpaaGreatDoor
open Go.Joins Go.ChangeShapes Go.WideShapes Go.RowKit Go.Deep
set_option linter.unusedVariables false

theorem maxLen_le : maxLen ≤ 9223372036854775807 := by decide
section
variable {H : Type} {enc : TypeId × Value → H} {P : Program} {w : World} {base : Nat} {spare : Nat → Bool} {held : Bool}
/-- A slice that came in reads as a list, where each of its elements reads. -/
theorem lst_of_trod {α : Type} {K : Lay α} {t e : TypeId} {fuel : Nat} {cs : List Value} {x : DataW H × List MemPlace} (ht : P.underlying t = some (.slice e)) (hC : P.cellsOf e = K.sz) (hz : 0 < K.sz)
    (hK : ∀ (fuel : Nat) (cs : List Value) (x : DataW H × List MemPlace), cs.length = K.sz → DataW.trod enc P w base spare held fuel e cs = some x → ∃ d, K.rd w (fun _ => True) cs d)
    (h : DataW.trod enc P w base spare held fuel t cs = some x) : ∃ a n c xs, cs = [.slice a n c] ∧ n ≤ c ∧ c ≤ maxLen ∧ Lst K w (fun _ => True) a n xs := by
  rcases open_slice ht h with h0 | ⟨a, len, cap, m, n, D, Pl, hcs, hb, hl, hm, hmm, hx, hi⟩
  · exact ⟨none, 0, 0, [], h0.1, Nat.le_refl _, Nat.zero_le _, Lst.nil⟩
  · have hel : ∀ i, i < len → ∃ cs' d, cs'.length = K.sz ∧ (∀ j, j < K.sz → w.cell? ((a.add (i * K.sz)).add j) = cs'[j]?) ∧ K.rd w (fun _ => True) cs' d := by
      intro i hi'
      have him : i < m := by rw [hmm]; split <;> omega
      obtain ⟨cs', hc, ht'⟩ := hi i him
      rw [hC] at hc
      obtain ⟨_, hcl, hat⟩ := World.cells?_some hc
      obtain ⟨d, hd⟩ := hK _ _ _ hcl ht'
      exact ⟨cs', d, hcl, fun j hj => hat j hj, hd⟩
    have hlist : ∀ k, k ≤ len → ∃ xs : List α, xs.length = k ∧ ∀ (i : Nat) (d : α), xs[i]? = some d → ∃ cs', cs'.length = K.sz ∧ (∀ j, j < K.sz → w.cell? ((a.add (i * K.sz)).add j) = cs'[j]?) ∧ K.rd w (fun _ => True) cs' d := by
      intro k
      induction k with
      | zero => exact fun _ => ⟨[], rfl, fun i d hd => by simp at hd⟩
      | succ k ih =>
        intro hk
        obtain ⟨xs, hxl, hxs⟩ := ih (by omega)
        obtain ⟨cs', d, h1, h2, h3⟩ := hel k (by omega)
        refine ⟨xs ++ [d], by simp [hxl], fun i d' hd => ?_⟩
        by_cases e : i < k
        · rw [List.getElem?_append_left (by omega)] at hd; exact hxs i d' hd
        · have hi' : i = k := by have := (List.getElem?_eq_some_iff.1 hd).1; simp at this; omega
          subst hi'
          rw [List.getElem?_append_right (by omega), hxl, Nat.sub_self] at hd
          simp at hd; subst hd
          exact ⟨cs', h1, h2, h3⟩
    obtain ⟨xs, hxl, hxs⟩ := hlist len (Nat.le_refl _)
    refine ⟨some a, len, cap, xs, hcs, hl, hm, hxl, fun h0 => ?_⟩
    obtain ⟨b, off, spot⟩ := a
    obtain ⟨cs0, d0, hl0, hc0, _⟩ := hel 0 h0
    have e0 : w.cell? (((⟨b, off, spot⟩ : Addr).add (0 * K.sz)).add 0) = some (cs0[0]'(by omega)) := by rw [hc0 0 hz]; exact List.getElem?_eq_getElem _
    have hspot : spot = none := by simpa [Addr.add] using World.cell?_spot e0
    subst hspot
    have hb' : b < w.heap.size := by
      have := World.block_lt_of_cell? w _ e0
      rwa [add_block, add_block] at this
    refine ⟨b, off, rfl, hb', trivial, fun j d hd => ?_⟩
    obtain ⟨cs', h1, h2, h3⟩ := hxs j d hd
    refine ⟨cs', h1, fun i hi' => ?_, h3⟩
    rw [← h2 i hi', Go.WideShapes.add_plain, Go.WideShapes.add_plain]
end

section
variable {H : Type} {enc : TypeId × Value → H} {P : Program} {w : World} {base : Nat} {spare : Nat → Bool} {held : Bool}
theorem four_fields {t : TypeId} {f0 f1 f2 f3 : Field} {fuel : Nat} {c0 c1 c2 c3 : Value} {x : DataW H × List MemPlace} (hs : P.underlying t = some (.struct #[f0, f1, f2, f3])) (hone : oneCellFields P #[f0, f1, f2, f3] = true)
    (h : DataW.trod enc P w base spare held fuel t [c0, c1, c2, c3] = some x) :
    ∃ (n : Nat) (y0 y1 y2 y3 : DataW H × List MemPlace), DataW.trod enc P w base spare held n f0.type [c0] = some y0 ∧ DataW.trod enc P w base spare held n f1.type [c1] = some y1 ∧ DataW.trod enc P w base spare held n f2.type [c2] = some y2 ∧ DataW.trod enc P w base spare held n f3.type [c3] = some y3 := by
  obtain ⟨y0, y1, y2, y3, n, _, _, h0, h1, h2, h3⟩ := trod_struct4 hs h
  obtain ⟨o0, k0⟩ := hone_of hone 0 f0 rfl
  obtain ⟨o1, k1⟩ := hone_of hone 1 f1 rfl
  obtain ⟨o2, k2⟩ := hone_of hone 2 f2 rfl
  obtain ⟨o3, k3⟩ := hone_of hone 3 f3 rfl
  exact ⟨n, y0, y1, y2, y3, by simpa [o0, k0] using h0, by simpa [o1, k1] using h1, by simpa [o2, k2] using h2, by simpa [o3, k3] using h3⟩
end

section
variable {H : Type} {enc : TypeId × Value → H} {w : World} {base : Nat} {spare : Nat → Bool} {held : Bool}
theorem bool_of_trod {fuel : Nat} {cs : List Value} {x : DataW H × List MemPlace} (h : DataW.trod enc Tryz.prog w base spare held fuel 4 cs = some x) : ∃ d, KBool.rd w (fun _ => True) cs d := by
  obtain ⟨b, rfl, _⟩ := DataW.trod_bool Tryz.underlying4 h
  exact ⟨b, rfl⟩
theorem page_of_trod {fuel : Nat} {cs : List Value} {x : DataW H × List MemPlace} (hl : cs.length = 4) (h : DataW.trod enc Tryz.prog w base spare held fuel 216 cs = some x) : ∃ d, KPage.rd w (fun _ => True) cs d := by
  match cs, hl with
  | [c0, c1, c2, c3], _ =>
    obtain ⟨n, y0, y1, y2, y3, t0, t1, t2, t3⟩ := four_fields Tryz.underlying216 (by kernel_rfl) h
    obtain ⟨k, h0, _⟩ := DataW.trod_int Tryz.underlying2 t0
    obtain ⟨c, h1, _⟩ := DataW.trod_int Tryz.underlying2 t1
    obtain ⟨r, h3, _⟩ := DataW.trod_int Tryz.underlying2 t3
    obtain ⟨a, m, cc, us, h2, hm, hc, hL⟩ := lst_of_trod (K := KBool) Tryz.underlying135 (by kernel_rfl) (by decide) (fun _ _ _ _ h => bool_of_trod h) t2
    simp at h0 h1 h2 h3
    subst h0 h1 h2 h3
    exact ⟨⟨k, c, us, r⟩, KPage_rd_mk (p := ⟨k, c, us, r⟩) hm hc hL⟩
set_option maxRecDepth 100000 in
/-- A list of pages that came in. -/
theorem open_pages {r : Reach} {b0 : Nat} {v : Value} {d : DataW H} {p : List MemPlace} (hv : Value.okWide Tryz.prog w r b0 67 v) (h : DataW.Trod enc Tryz.prog w base spare held 67 v d p) :
    ∃ a n c ps, v = .slice a n c ∧ Lst KPage w (fun _ => True) a n ps ∧ n ≤ 9223372036854775807 := by
  obtain ⟨a0, l0, c0, rfl⟩ := Go.WideShapes.okWide_slice Tryz.underlying67 hv
  obtain ⟨fuel, hf⟩ := h
  obtain ⟨a, n, c, ps, hcs, hn, hc, hL⟩ := lst_of_trod (K := KPage) Tryz.underlying67 (by kernel_rfl) (by rw [KPage_sz]; omega) (fun _ _ _ hl h => page_of_trod hl h) hf
  simp [Value.cells] at hcs
  obtain ⟨rfl, rfl, rfl⟩ := hcs
  exact ⟨a0, l0, c0, ps, rfl, hL, Nat.le_trans hn (Nat.le_trans hc maxLen_le)⟩
set_option maxRecDepth 100000 in
/-- A page that came in. -/
theorem open_page {r : Reach} {b0 : Nat} {v : Value} {d : DataW H} {p : List MemPlace} (hv : Value.okWide Tryz.prog w r b0 216 v) (h : DataW.Trod enc Tryz.prog w base spare held 216 v d p) :
    ∃ (q : Pg) (a : Option Addr) (n c : Nat), v = .agg #[.int .i64 q.kind, .int .i64 q.cls, .slice a n c, .int .i64 q.run] ∧ n ≤ 9223372036854775807 ∧ Lst KBool w (fun _ => True) a n q.used := by
  obtain ⟨cs, rfl, hsz⟩ := okWide_struct Tryz.underlying216 hv
  obtain ⟨fuel, hf⟩ := h
  obtain ⟨q, hq⟩ := page_of_trod (by have h4 : Tryz.prog.cellsOf 216 = 4 := (by kernel_rfl)
                                     rw [h4] at hsz; simpa [Value.cells] using hsz) hf
  obtain ⟨a, n, c, hcs, hn, hc, hL⟩ := KPage_rd hq
  obtain ⟨l⟩ := cs
  simp [Value.cells] at hcs
  subst hcs
  exact ⟨q, a, n, c, rfl, Nat.le_trans hn (Nat.le_trans hc maxLen_le), hL⟩
end
end Go.Proofs.YthpamclljdcjpaaGreatDoor

/- A heap that came in, opened to what is known of it in memory. -/
namespace Go.Proofs.YthpamclljdcjpaaGreatDoor
open Go.Joins Go.ChangeShapes Go.WideShapes Go.RowKit Go.Deep
set_option linter.unusedVariables false

section
variable {H : Type} {enc : TypeId × Value → H} {P : Program} {w : World} {base : Nat} {spare : Nat → Bool} {held : Bool}
theorem three_fields {t : TypeId} {f0 f1 f2 : Field} {fuel : Nat} {c0 c1 c2 : Value} {x : DataW H × List MemPlace} (hs : P.underlying t = some (.struct #[f0, f1, f2])) (hone : oneCellFields P #[f0, f1, f2] = true)
    (h : DataW.trod enc P w base spare held fuel t [c0, c1, c2] = some x) :
    ∃ (n : Nat) (y0 y1 y2 : DataW H × List MemPlace), DataW.trod enc P w base spare held n f0.type [c0] = some y0 ∧ DataW.trod enc P w base spare held n f1.type [c1] = some y1 ∧ DataW.trod enc P w base spare held n f2.type [c2] = some y2 := by
  obtain ⟨y0, y1, y2, n, _, _, h0, h1, h2⟩ := trod_struct3 hs h
  obtain ⟨o0, k0⟩ := hone_of hone 0 f0 rfl
  obtain ⟨o1, k1⟩ := hone_of hone 1 f1 rfl
  obtain ⟨o2, k2⟩ := hone_of hone 2 f2 rfl
  exact ⟨n, y0, y1, y2, by simpa [o0, k0] using h0, by simpa [o1, k1] using h1, by simpa [o2, k2] using h2⟩
end

section
variable {H : Type} {enc : TypeId × Value → H} {w : World} {base : Nat} {spare : Nat → Bool} {held : Bool}
theorem int_of_trod {fuel : Nat} {cs : List Value} {x : DataW H × List MemPlace} (h : DataW.trod enc Tryz.prog w base spare held fuel 2 cs = some x) : ∃ d, KInt.rd w (fun _ => True) cs d := by
  obtain ⟨b, rfl, _⟩ := DataW.trod_int Tryz.underlying2 h
  exact ⟨b, rfl⟩
theorem mag_of_trod {fuel : Nat} {cs : List Value} {x : DataW H × List MemPlace} (h : DataW.trod enc Tryz.prog w base spare held fuel 25 cs = some x) : ∃ d, KMag.rd w (fun _ => True) cs d := by
  obtain ⟨a, n, c, xs, rfl, hn, hc, hL⟩ := lst_of_trod (K := KInt) Tryz.underlying25 (by kernel_rfl) (by decide) (fun _ _ _ _ h => int_of_trod h) h
  exact ⟨xs, KMag_rd_mk hn hc hL⟩
set_option maxRecDepth 100000 in
/-- A heap that came in. -/
theorem open_heap {r : Reach} {b0 : Nat} {v : Value} {d : DataW H} {p : List MemPlace} (hv : Value.okWide Tryz.prog w r b0 69 v) (h : DataW.Trod enc Tryz.prog w base spare held 69 v d p) :
    ∃ (q : Hp) (pa : Option Addr) (pn pc : Nat) (wa : Option Addr) (wn wk : Nat) (ma : Option Addr) (mn mc : Nat), v = .agg #[.slice pa pn pc, .slice wa wn wk, .slice ma mn mc] ∧ HpR w (fun _ => True) pa pn pc wa wn wk ma mn mc q := by
  obtain ⟨cs, rfl, hsz⟩ := okWide_struct Tryz.underlying69 hv
  have h3 : Tryz.prog.cellsOf 69 = 3 := (by kernel_rfl)
  rw [h3] at hsz
  obtain ⟨fuel, hf⟩ := h
  obtain ⟨l⟩ := cs
  match l, hsz with
  | [c0, c1, c2], _ =>
    obtain ⟨n, y0, y1, y2, t0, t1, t2⟩ := three_fields Tryz.underlying69 (by kernel_rfl) (by simpa [Value.cells] using hf)
    obtain ⟨pa, pn, pc, ps, e0, hp1, hp2, hL0⟩ := lst_of_trod (K := KPage) Tryz.underlying67 (by kernel_rfl) (by rw [KPage_sz]; omega) (fun _ _ _ hl h => page_of_trod hl h) t0
    obtain ⟨wa, wn, wk, ws, e1, hw1, hw2, hL1⟩ := lst_of_trod (K := KInt) Tryz.underlying25 (by kernel_rfl) (by decide) (fun _ _ _ _ h => int_of_trod h) t1
    obtain ⟨ma, mn, mc, ms, e2, hm1, hm2, hL2⟩ := lst_of_trod (K := KMag) Tryz.underlying26 (by kernel_rfl) (by decide) (fun _ _ _ _ h => mag_of_trod h) t2
    simp at e0 e1 e2
    subst e0 e1 e2
    exact ⟨⟨ps, ws, ms⟩, pa, pn, pc, wa, wn, wk, ma, mn, mc, rfl, hL0, hL1, hL2, hp1, hp2, hw1, hw2, hm1, hm2⟩
end
end Go.Proofs.YthpamclljdcjpaaGreatDoor

/- A package variable reads the same where no old block is turned. -/
namespace Go.Proofs.YthpamclljdcjpaaGreatDoor
open Go.RowKit
theorem var?_below {P : Program} {w w' : World} {n : String} {cs : Array Value} (h : w.var? P n = some cs) (hb : Below w.heap.size w w') : w'.var? P n = some cs := by
  unfold World.var? at h ⊢
  cases hg : P.globalNamed n with
  | none => simp [hg] at h
  | some g =>
    simp only [hg, Option.bind_some] at h ⊢
    have hlt : g < w.heap.size := by
      rcases Nat.lt_or_ge g w.heap.size with h' | h'
      · exact h'
      · simp [Array.getElem?_eq_none h'] at h
    rw [hb.block g hlt]
    exact h
end Go.Proofs.YthpamclljdcjpaaGreatDoor
