/- Joined texts (Args2, Args7, Law7b): steps of the proofs of chapter 5's laws. -/
import Derived.Lib.SmallJoins
import Derived.Deep.Slices
import Derived.Deep.Fields
import Derived.ChangeSame
import Derived.OpenShut
import Derived.Test.YtoaeglhjaandmaaM1
import Derived.Test.YtoaeglhjaandmaaM5
set_option linter.unusedVariables false
set_option linter.unusedSimpArgs false
/- A config that came in, opened to what is known of it in memory. -/
namespace Go.Proofs.Ytoaeglhjaandmaa
open Go.Joins Go.ChangeShapes Go.WideShapes Go.RowKit Go.Deep
set_option linter.unusedVariables false

section
variable {H : Type} {enc : TypeId × Value → H} {P : Program} {w : World} {base : Nat} {spare : Nat → Bool} {held : Bool}
/-- A slice of structs of one-cell fields: each element's fields in their cells. -/
theorem open_structs {t e : TypeId} {fs : Array Field} {fuel : Nat} {cs : List Value} {x : DataW H × List MemPlace} (ht : P.underlying t = some (.slice e)) (he : P.underlying e = some (.struct fs))
    (hone : oneCellFields P fs = true) (hC : P.cellsOf e = fs.size) (h : DataW.trod enc P w base spare held fuel t cs = some x) :
    cs = [.slice none 0 0] ∨
    ∃ (a : Addr) (len cap : Nat), cs = [.slice (some a) len cap] ∧ len ≤ cap ∧ cap ≤ maxLen ∧
      ∀ i, i < len → ∃ n, ∀ (j : Nat) (f : Field), fs[j]? = some f → ∃ (v : Value) (y : DataW H × List MemPlace), w.cell? (a.add (i * fs.size + j)) = some v ∧ DataW.trod enc P w base spare held n f.type [v] = some y := by
  rcases open_slice ht h with h0 | ⟨a, len, cap, m, n, D, Pl, hcs, hb, hl, hm, hmm, hx, hi⟩
  · exact .inl h0.1
  · refine .inr ⟨a, len, cap, hcs, hl, hm, fun i him => ?_⟩
    have him2 : i < m := by
      rw [hmm]; split <;> omega
    obtain ⟨cs', hc, ht'⟩ := hi i him2
    rw [hC] at hc
    obtain ⟨ys, n', hn', hy, hlen, hyl, hf⟩ := DataW.trod_struct he ht'
    obtain ⟨_, hcl, hat⟩ := World.cells?_some hc
    refine ⟨n', fun j f hj => ?_⟩
    obtain ⟨ho, hk⟩ := hone_of hone j f hj
    have hjl : j < fs.size := (Array.getElem?_eq_some_iff.1 hj).1
    have hcell := hat j hjl
    have hv : cs'[j]? = some (cs'[j]'(by omega)) := List.getElem?_eq_getElem (by omega)
    have h1 := hf j f hj
    rw [ho, hk] at h1
    have hone' : (cs'.drop j).take 1 = [cs'[j]'(by omega)] := by
      rw [List.drop_eq_getElem_cons (by omega)]
      rfl
    rw [hone'] at h1
    have hys : ys[j]? = some (ys[j]'(by omega)) := List.getElem?_eq_getElem (by omega)
    refine ⟨_, _, ?_, h1.trans hys⟩
    rw [← Go.Deep.add_add, hcell, hv]
end

theorem ints_of_trod {H : Type} {enc : TypeId × Value → H} {w : World} {base : Nat} {spare : Nat → Bool} {held : Bool} {fuel : Nat} {v : Value} {x : DataW H × List MemPlace}
    (h : DataW.trod enc Try.prog w base spare held fuel 27 [v] = some x) : ∃ a m c xs, v = .slice a m c ∧ m ≤ c ∧ c ≤ maxLen ∧ Ints w a m xs := by
  rcases open_ints Try.underlying27 Try.underlying2 (by kernel_rfl) h with ⟨hcs, _⟩ | ⟨x, l, c, zs, hcs, _, hl, hm, hz, _, hcell, hwz⟩
  · simp at hcs
    exact ⟨none, 0, 0, [], hcs, Nat.le_refl _, Nat.zero_le _, Ints.none_ _⟩
  · simp at hcs
    rcases Nat.eq_zero_or_pos l with rfl | h0
    · exact ⟨some x, 0, c, [], hcs, hl, hm, ⟨rfl, fun h => absurd h (by omega)⟩⟩
    · have hzl : l ≤ zs.length := by rw [hz]; split <;> omega
      obtain ⟨b, off, rfl, hc⟩ := ints_at hcell (by omega)
      refine ⟨_, l, c, zs.take l, hcs, hl, hm, by simp; omega, fun _ => ⟨b, off, rfl, World.block_lt_of_cell? w _ (hc 0 (by omega)), fun j hj => ?_⟩⟩
      rw [hc j (by omega)]; simp [List.getD, hj]

/-- The tenants of a config that came in (any element type with the two fields). -/
theorem tens_of_cells {w : World} {a : Addr} {n : Nat} (h : ∀ i, i < n → ∃ v0 c, w.cell? (a.add (i * 2)) = some v0 ∧ w.cell? (a.add (i * 2 + 1)) = some (.int .i64 c) ∧ ∃ b m cc xs, v0 = .slice b m cc ∧ m ≤ cc ∧ cc ≤ maxLen ∧ Ints w b m xs) :
    ∃ ts, Tens w (some a) n ts ∧ Short 9223372036854775807 ts := by
  have : ∀ k, k ≤ n → ∃ ts : List (List Int × Int), ts.length = k ∧ Short 9223372036854775807 ts ∧ ∀ i, i < k → ∃ b m cc, m ≤ cc ∧ w.cell? (a.add (i * 2)) = some (.slice b m cc) ∧ w.cell? (a.add (i * 2 + 1)) = some (.int .i64 (tenAt ts i).2) ∧ Ints w b m (tenAt ts i).1 := by
    intro k
    induction k with
    | zero => exact fun _ => ⟨[], rfl, fun t ht => by simp at ht, fun i hi => by omega⟩
    | succ k ih =>
      intro hk
      obtain ⟨ts, hl, hs, hc⟩ := ih (by omega)
      obtain ⟨v0, c, h0, h1, b, m, cc, xs, rfl, hm, hcc, hI⟩ := h k (by omega)
      refine ⟨ts ++ [(xs, c)], by simp [hl], ?_, fun i hi => ?_⟩
      · intro t ht
        rcases List.mem_append.1 ht with h2 | h2
        · exact hs t h2
        · simp at h2; subst h2
          have := hI.1
          unfold maxLen at hcc
          simp only; omega
      · by_cases e : i = k
        · subst e
          have ht : tenAt (ts ++ [(xs, c)]) i = (xs, c) := by simp [tenAt, List.getD, ← hl]
          exact ⟨b, m, cc, hm, h0, by rw [ht]; exact h1, by rw [ht]; exact hI⟩
        · have ht : tenAt (ts ++ [(xs, c)]) i = tenAt ts i := by
            unfold tenAt
            rw [List.getD_eq_getElem?_getD, List.getD_eq_getElem?_getD, List.getElem?_append_left (by omega)]
          rw [ht]; exact hc i (by omega)
  obtain ⟨ts, hl, hs, hc⟩ := this n (Nat.le_refl _)
  refine ⟨ts, ⟨hl, fun h0 => ?_⟩, hs⟩
  obtain ⟨b, off, spot⟩ := a
  obtain ⟨_, _, _, _, e0, _⟩ := hc 0 h0
  have hspot : spot = none := by simpa [Addr.add] using World.cell?_spot e0
  subst hspot
  have hb : b < w.heap.size := by
    have := World.block_lt_of_cell? w _ e0
    rwa [add_block] at this
  refine ⟨b, off, rfl, hb, fun j hj => ?_⟩
  obtain ⟨b', m, cc, hm, e0, e1, hI⟩ := hc j hj
  rw [Go.WideShapes.add_plain] at e0 e1
  exact ⟨hb, b', m, cc, hm, e0, by rw [Nat.add_assoc]; exact e1, hI⟩

set_option maxRecDepth 100000 in
theorem open_config {H : Type} {enc : TypeId × Value → H} {w : World} {base : Nat} {spare : Nat → Bool} {held : Bool} {r : Reach} {b0 : Nat} {v : Value} {d : DataW H} {p : List MemPlace}
    (hv : Value.okWide Try.prog w r b0 45 v) (h : DataW.Trod enc Try.prog w base spare held 45 v d p) :
    ∃ F C a n c ts, v = .agg #[.int .i64 F, .int .i64 C, .slice a n c] ∧ Tens w a n ts ∧ Short 9223372036854775807 ts ∧ n ≤ 9223372036854775807 := by
  obtain ⟨v0, v1, v2, y0, y1, y2, m, rfl, _, _, t0, t1, t2⟩ := open_agg3 Try.underlying45 (by kernel_rfl) (by kernel_rfl) hv h
  obtain ⟨F, h0, _⟩ := DataW.trod_int Try.underlying2 t0
  obtain ⟨C, h1, _⟩ := DataW.trod_int Try.underlying2 t1
  simp at h0 h1
  subst h0 h1
  rcases open_structs Try.underlying43 Try.underlying128 (by kernel_rfl) (by kernel_rfl) t2 with h2 | ⟨a, n, c, h2, hn, hc, hi⟩
  · simp at h2; subst h2
    exact ⟨F, C, none, 0, 0, [], rfl, Tens.none_ _, fun t ht => by simp at ht, Nat.zero_le _⟩
  · simp at h2; subst h2
    obtain ⟨ts, hT, hS⟩ := tens_of_cells (w := w) (a := a) (n := n) (fun i hi' => by
      obtain ⟨k, hf⟩ := hi i hi'
      obtain ⟨u0, z0, e0, f0⟩ := hf 0 _ rfl
      obtain ⟨u1, z1, e1, f1⟩ := hf 1 _ rfl
      obtain ⟨b, m, cc, xs, rfl, hm, hcc, hI⟩ := ints_of_trod f0
      obtain ⟨cp, hcp, _⟩ := DataW.trod_int Try.underlying2 f1
      simp at hcp
      subst hcp
      exact ⟨_, cp, e0, e1, b, m, cc, xs, rfl, hm, hcc, hI⟩)
    unfold maxLen at hc
    exact ⟨F, C, some a, n, c, ts, rfl, hT, hS, by omega⟩
end Go.Proofs.Ytoaeglhjaandmaa

/- A table that came in, opened to what is known of it in memory. -/
namespace Go.Proofs.Ytoaeglhjaandmaa
open Go.Joins Go.ChangeShapes Go.WideShapes Go.RowKit Go.Deep
set_option linter.unusedVariables false

section
variable {H : Type} {enc : TypeId × Value → H} {P : Program} {w : World} {base : Nat} {spare : Nat → Bool} {held : Bool}
theorem two_fields {t : TypeId} {f0 f1 : Field} {fuel : Nat} {c0 c1 : Value} {x : DataW H × List MemPlace} (hs : P.underlying t = some (.struct #[f0, f1])) (hone : oneCellFields P #[f0, f1] = true)
    (h : DataW.trod enc P w base spare held fuel t [c0, c1] = some x) :
    ∃ (n : Nat) (y0 y1 : DataW H × List MemPlace), DataW.trod enc P w base spare held n f0.type [c0] = some y0 ∧ DataW.trod enc P w base spare held n f1.type [c1] = some y1 := by
  obtain ⟨y0, y1, n, _, _, h0, h1⟩ := trod_struct2 hs h
  obtain ⟨o0, k0⟩ := hone_of hone 0 f0 rfl
  obtain ⟨o1, k1⟩ := hone_of hone 1 f1 rfl
  exact ⟨n, y0, y1, by simpa [o0, k0] using h0, by simpa [o1, k1] using h1⟩
end
section
variable {H : Type} {enc : TypeId × Value → H} {w : World} {base : Nat} {spare : Nat → Bool} {held : Bool}
set_option maxRecDepth 100000 in
/-- A table that came in. -/
theorem open_table {r : Reach} {b0 : Nat} {v : Value} {d : DataW H} {p : List MemPlace} (hv : Value.okWide Try.prog w r b0 46 v) (h : DataW.Trod enc Try.prog w base spare held 46 v d p) :
    ∃ (tn : Int) (a : Option Addr) (n c : Nat) (fr : List Int), v = .agg #[.int .i64 tn, .slice a n c] ∧ Ints w a n fr ∧ n ≤ c ∧ n ≤ 9223372036854775807 := by
  obtain ⟨cs, rfl, hsz⟩ := okWide_struct Try.underlying46 hv
  have h2 : Try.prog.cellsOf 46 = 2 := (by kernel_rfl)
  rw [h2] at hsz
  obtain ⟨fuel, hf⟩ := h
  obtain ⟨l⟩ := cs
  match l, hsz with
  | [c0, c1], _ =>
    obtain ⟨n, y0, y1, t0, t1⟩ := two_fields Try.underlying46 (by kernel_rfl) (by simpa [Value.cells] using hf)
    obtain ⟨k0, e0, _⟩ := DataW.trod_int Try.underlying2 t0
    simp at e0
    subst e0
    obtain ⟨a, m, c, xs, rfl, hm, hc, hI⟩ := ints_of_trod t1
    exact ⟨k0, a, m, c, xs, rfl, hI, hm, Nat.le_trans hm (Nat.le_trans hc (by decide))⟩
end
end Go.Proofs.Ytoaeglhjaandmaa

/- The law of SameTables answers true at every argument and writes nothing that was there. -/
namespace Go.Proofs.Ytoaeglhjaandmaa
open Go.RowKit

set_option maxHeartbeats 4000000 in
set_option maxRecDepth 100000 in
theorem lawSameTables {ta tb : Option Addr} {m tc k kc : Nat} {tn un : Int} {fr gr : List Int} {w : World} (hf : Ints w ta m fr) (hm : m ≤ 9223372036854775807) (hg : Ints w tb k gr) (hk : k ≤ 9223372036854775807) :
    Calls Try.prog 10 #[.agg #[.int .i64 tn, .slice ta m tc], .agg #[.int .i64 un, .slice tb k kc]] w fun e w' => e = .returned (.bool true) ∧ Below w.heap.size w w' := by
  go_enter Try.func10, Try.ntmps10
  go_wp2_with fail
  refine (szTable_calls (r := 1048576) hm (by omega) (by omega)).mono ?_
  by_cases hbig : 1048576 - (m : Int) < 0
  · rw [if_pos hbig]
    rintro e w1 ⟨rfl, hb1⟩
    have hb := below_past (below_past hb1)
    clear hb1
    go_wp2_with fail
    go_ret
    exact ⟨rfl, hb⟩
  rw [if_neg hbig]
  rintro e w1 ⟨rfl, hb1⟩
  have hm1 : m ≤ 1048576 := by omega
  have hr : ¬ (1048576 - (m : Int) < 0) := hbig
  obtain ⟨RA1, RB1, B1, Z1⟩ := two_new hb1
  have RA1 : Row w1 w.heap.size 46 #[.int .i64 tn, .slice ta m tc] := RA1
  have RB1 : Row w1 (w.heap.size + 1) 46 #[.int .i64 un, .slice tb k kc] := RB1
  clear hb1 hbig
  obtain ⟨q, hq⟩ : ∃ q, (tn == un && decide (fr = gr)) = q := ⟨_, rfl⟩
  have HQ := Lib.hid hq
  clear hq
  have rac0 := Row.cell (RA1) 0
  have rac1 := Row.cell (RA1) 1
  have rbc0 := Row.cell (RB1) 0
  have rbc1 := Row.cell (RB1) 1
  have ral := Row.lt RA1
  have rbl := Row.lt RB1
  simp at rac0 rac1 rbc0 rbc1
  go_wp2_with fail
  refine (szTable_calls (r := 1048576 - (m : Int)) hk (by omega) (by omega)).mono ?_
  by_cases hbig : 1048576 - (m : Int) - (k : Int) < 0
  · rw [if_pos hbig]
    rintro e w2 ⟨rfl, hb2⟩
    have hb := B1.trans (hb2.mono B1.size)
    clear hb2
    go_wp2_with fail
    go_ret
    exact ⟨rfl, hb⟩
  rw [if_neg hbig]
  rintro e w2 ⟨rfl, hb2⟩
  have hk1 : k ≤ 1048576 := by omega
  have hge : ¬ (1048576 - (m : Int) - (k : Int) < 0) := hbig
  clear hbig
  clear rac0 rac1 rbc0 rbc1 ral rbl
  have RA2 := Row.below RA1 hb2
  have RB2 := Row.below RB1 hb2
  have B2 := B1.trans (hb2.mono B1.size)
  have Z2 := hb2.size
  clear RA1 RB1
  clear hb2
  have rac0 := Row.cell (RA2) 0
  have rac1 := Row.cell (RA2) 1
  have rbc0 := Row.cell (RB2) 0
  have rbc1 := Row.cell (RB2) 1
  have ral := Row.lt RA2
  have rbl := Row.lt RB2
  simp at rac0 rac1 rbc0 rbc1
  have f2 := hf.below B2
  have g2 := hg.below B2
  have kB := Below.refl w2.heap.size w2
  go_wp2_with fail
  go_region_held3 (fun w' => w'.cell? ⟨w.heap.size, 0, none⟩ = some (.int .i64 tn) ∧ w'.cell? ⟨w.heap.size, 1, none⟩ = some (.slice ta m tc) ∧ w'.cell? ⟨w.heap.size + 1, 0, none⟩ = some (.int .i64 un) ∧ w'.cell? ⟨w.heap.size + 1, 1, none⟩ = some (.slice tb k kc) ∧ Below w2.heap.size w2 w') (first | assumption | exact ⟨rac0, rac1, rbc0, rbc1, kB.drew⟩)
    (first
      | (go_at_call 29; obtain ⟨y0, y1, y2, y3, kb⟩ := ‹_ ∧ _ ∧ _ ∧ _ ∧ Below _ _ _›; with_reducible refine (toTable_calls (a := ta) (n := m) (c := tc) (tn := tn) (xs := fr) (f2.below kb) (by omega)).mono ?_; rintro e wP ⟨vP, rfl, oP, bP⟩; obtain ⟨xP, cP, rfl, hP, _, _⟩ := oP.shape; have hSP := keep4 ⟨y0, y1, y2, y3, kb⟩ bP)
      | (go_at_call 29; obtain ⟨y0, y1, y2, y3, kb⟩ := ‹_ ∧ _ ∧ _ ∧ _ ∧ Below _ _ _›; with_reducible refine (toTable_calls (a := tb) (n := k) (c := kc) (tn := un) (xs := gr) (g2.below kb) (by omega)).mono ?_; rintro e wQ ⟨vQ, rfl, oQ, bQ⟩; obtain ⟨xQ, cQ, rfl, hQ, _, _⟩ := oQ.shape; have hSQ := keep4 ⟨y0, y1, y2, y3, kb⟩ bQ)
      | (go_at_call 22; obtain ⟨y0, y1, y2, y3, kb⟩ := ‹_ ∧ _ ∧ _ ∧ _ ∧ Below _ _ _›; refine (sSameTables_calls (oP.ints.below bQ) oQ.ints (by omega) (by omega)).mono ?_; rw [HQ.out]; rintro e wS ⟨rfl, bS⟩; have hS3 := keep4 ⟨y0, y1, y2, y3, kb⟩ bS))
  obtain ⟨_, _, _, _, kb3⟩ := hS3
  clear rac0 rac1 rbc0 rbc1 ral rbl f2 g2 kB hSP hSQ oP oQ bP bQ bS
  have RA3 := Row.below RA2 kb3
  have RB3 := Row.below RB2 kb3
  have B3 := B2.trans (kb3.mono B2.size)
  have Z3 := kb3.size
  clear RA2 RB2
  have rac0 := Row.cell (RA3) 0
  have rac1 := Row.cell (RA3) 1
  have rbc0 := Row.cell (RB3) 0
  have rbc1 := Row.cell (RB3) 1
  have ral := Row.lt RA3
  have rbl := Row.lt RB3
  simp at rac0 rac1 rbc0 rbc1
  have ff := hf.below B3
  go_wp2_with fail
  refine (toTable_calls ff (by omega)).mono ?_
  rintro e w4 ⟨vX, rfl, oX, hb4⟩
  obtain ⟨Xo, Xc, rfl, hXc, _, _⟩ := oX.shape
  have OX4 := oX.in_
  clear rac0 rac1 rbc0 rbc1 ral rbl ff oX
  have RA4 := Row.below RA3 hb4
  have RB4 := Row.below RB3 hb4
  have B4 := B3.trans (hb4.mono B3.size)
  have Z4 := hb4.size
  clear RA3 RB3
  obtain ⟨w5, hw5⟩ : ∃ w5, w4.alloc (.cells #[.int .i64 tn, .slice Xo m Xc] 29) = w5 := ⟨_, rfl⟩
  have hb5 : Below w4.heap.size w4 w5 := by rw [← hw5]; exact (Below.refl _ _).alloc (Nat.le_refl _) _
  have RX5 : Row w5 w4.heap.size 29 #[.int .i64 tn, .slice Xo m Xc] := by rw [← hw5]; exact heap_alloc_new _ _
  have RA5 := Row.below RA4 hb5
  have RB5 := Row.below RB4 hb5
  have OX5 := OX4.below hb5
  have B5 := B4.trans (hb5.mono B4.size)
  have Z5 := hb5.size
  clear RA4 RB4 OX4
  clear hb4 hb5
  have rac0 := Row.cell (RA5) 0
  have rac1 := Row.cell (RA5) 1
  have rbc0 := Row.cell (RB5) 0
  have rbc1 := Row.cell (RB5) 1
  have rxc0 := Row.cell (RX5) 0
  have rxc1 := Row.cell (RX5) 1
  have ral := Row.lt RA5
  have rbl := Row.lt RB5
  have rxl := Row.lt RX5
  simp at rac0 rac1 rbc0 rbc1 rxc0 rxc1
  have ff := hg.below B5
  go_wp2_with fail
  refine (toTable_calls ff (by omega)).mono ?_
  rintro e w6 ⟨vY, rfl, oY, hb6⟩
  obtain ⟨Yo, Yc, rfl, hYc, _, _⟩ := oY.shape
  have OY6 := oY.in_
  clear rac0 rac1 rbc0 rbc1 rxc0 rxc1 ral rbl rxl ff oY
  have RA6 := Row.below RA5 hb6
  have RB6 := Row.below RB5 hb6
  have RX6 := Row.below RX5 hb6
  have OX6 := OX5.below hb6
  have B6 := B5.trans (hb6.mono B5.size)
  have Z6 := hb6.size
  clear RA5 RB5 RX5 OX5
  obtain ⟨w7, hw7⟩ : ∃ w7, w6.alloc (.cells #[.int .i64 un, .slice Yo k Yc] 29) = w7 := ⟨_, rfl⟩
  have hb7 : Below w6.heap.size w6 w7 := by rw [← hw7]; exact (Below.refl _ _).alloc (Nat.le_refl _) _
  have RY7 : Row w7 w6.heap.size 29 #[.int .i64 un, .slice Yo k Yc] := by rw [← hw7]; exact heap_alloc_new _ _
  have RA7 := Row.below RA6 hb7
  have RB7 := Row.below RB6 hb7
  have RX7 := Row.below RX6 hb7
  have OX7 := OX6.below hb7
  have OY7 := OY6.below hb7
  have B7 := B6.trans (hb7.mono B6.size)
  have Z7 := hb7.size
  clear RA6 RB6 RX6 OX6 OY6
  clear hb6 hb7
  have rac0 := Row.cell (RA7) 0
  have rac1 := Row.cell (RA7) 1
  have rbc0 := Row.cell (RB7) 0
  have rbc1 := Row.cell (RB7) 1
  have rxc0 := Row.cell (RX7) 0
  have rxc1 := Row.cell (RX7) 1
  have ryc0 := Row.cell (RY7) 0
  have ryc1 := Row.cell (RY7) 1
  have ral := Row.lt RA7
  have rbl := Row.lt RB7
  have rxl := Row.lt RX7
  have ryl := Row.lt RY7
  simp at rac0 rac1 rbc0 rbc1 rxc0 rxc1 ryc0 ryc1
  go_wp2_with fail
  refine (sameTables_calls OX7.ints OY7.ints (by omega) (by omega)).mono ?_
  rw [HQ.out]
  rintro e w8 ⟨rfl, hb8⟩
  clear rac0 rac1 rbc0 rbc1 rxc0 rxc1 ryc0 ryc1 ral rbl rxl ryl
  have RA8 := Row.below RA7 hb8
  have RB8 := Row.below RB7 hb8
  have RX8 := Row.below RX7 hb8
  have RY8 := Row.below RY7 hb8
  have OX8 := OX7.below hb8
  have OY8 := OY7.below hb8
  have B8 := B7.trans (hb8.mono B7.size)
  have Z8 := hb8.size
  clear RA7 RB7 RX7 RY7 OX7 OY7
  clear hb8
  have hqq : (q != q) = false := by simp
  have rac0 := Row.cell (RA8) 0
  have rac1 := Row.cell (RA8) 1
  have rbc0 := Row.cell (RB8) 0
  have rbc1 := Row.cell (RB8) 1
  have rxc0 := Row.cell (RX8) 0
  have rxc1 := Row.cell (RX8) 1
  have ryc0 := Row.cell (RY8) 0
  have ryc1 := Row.cell (RY8) 1
  have ral := Row.lt RA8
  have rbl := Row.lt RB8
  have rxl := Row.lt RX8
  have ryl := Row.lt RY8
  simp at rac0 rac1 rbc0 rbc1 rxc0 rxc1 ryc0 ryc1
  have fA := hf.below B8
  have kB := Below.refl w8.heap.size w8
  have OA := OX8
  go_wp2_with fail
  go_region_held3 (fun w' => w'.cell? ⟨w4.heap.size, 0, none⟩ = some (.int .i64 tn) ∧ w'.cell? ⟨w4.heap.size, 1, none⟩ = some (.slice Xo m Xc) ∧ w'.cell? ⟨w.heap.size, 0, none⟩ = some (.int .i64 tn) ∧ w'.cell? ⟨w.heap.size, 1, none⟩ = some (.slice ta m tc) ∧ Below w8.heap.size w8 w') (first | assumption | exact ⟨rxc0, rxc1, rac0, rac1, kB.drew⟩)
    (first
      | (go_at_call 29; obtain ⟨y0, y1, y2, y3, kb⟩ := ‹_ ∧ _ ∧ _ ∧ _ ∧ Below _ _ _›; refine (toTable_calls (fA.below kb) (by omega)).mono ?_; rintro e wH8 ⟨vH, rfl, oH, bH⟩; obtain ⟨xH, cH, rfl, _, _, _⟩ := oH.shape; have hH1 := keep4 ⟨y0, y1, y2, y3, kb⟩ bH)
      | (go_at_call 31; obtain ⟨y0, y1, y2, y3, kb⟩ := ‹_ ∧ _ ∧ _ ∧ _ ∧ Below _ _ _›; refine (eqTable_calls (OA.below kb).ints oH.ints (by omega)).mono ?_; rintro e wE ⟨rfl, bJ⟩; have hH2 := keep4 ⟨y0, y1, y2, y3, kb⟩ bJ))
  obtain ⟨_, _, _, _, kb9⟩ := hH2
  clear rac0 rac1 rbc0 rbc1 rxc0 rxc1 ryc0 ryc1 ral rbl rxl ryl fA kB OA hH1 oH bH bJ
  have RA9 := Row.below RA8 kb9
  have RB9 := Row.below RB8 kb9
  have RX9 := Row.below RX8 kb9
  have RY9 := Row.below RY8 kb9
  have OX9 := OX8.below kb9
  have OY9 := OY8.below kb9
  have B9 := B8.trans (kb9.mono B8.size)
  have Z9 := kb9.size
  clear RA8 RB8 RX8 RY8 OX8 OY8
  have rac0 := Row.cell (RA9) 0
  have rac1 := Row.cell (RA9) 1
  have rbc0 := Row.cell (RB9) 0
  have rbc1 := Row.cell (RB9) 1
  have rxc0 := Row.cell (RX9) 0
  have rxc1 := Row.cell (RX9) 1
  have ryc0 := Row.cell (RY9) 0
  have ryc1 := Row.cell (RY9) 1
  have ral := Row.lt RA9
  have rbl := Row.lt RB9
  have rxl := Row.lt RX9
  have ryl := Row.lt RY9
  simp at rac0 rac1 rbc0 rbc1 rxc0 rxc1 ryc0 ryc1
  have fA := hg.below B9
  have kB := Below.refl wE.heap.size wE
  have OA := OY9
  go_wp2_with fail
  go_region_held3 (fun w' => w'.cell? ⟨w6.heap.size, 0, none⟩ = some (.int .i64 un) ∧ w'.cell? ⟨w6.heap.size, 1, none⟩ = some (.slice Yo k Yc) ∧ w'.cell? ⟨w.heap.size + 1, 0, none⟩ = some (.int .i64 un) ∧ w'.cell? ⟨w.heap.size + 1, 1, none⟩ = some (.slice tb k kc) ∧ Below wE.heap.size wE w') (first | assumption | exact ⟨ryc0, ryc1, rbc0, rbc1, kB.drew⟩)
    (first
      | (go_at_call 29; obtain ⟨y0, y1, y2, y3, kb⟩ := ‹_ ∧ _ ∧ _ ∧ _ ∧ Below _ _ _›; refine (toTable_calls (fA.below kb) (by omega)).mono ?_; rintro e wH9 ⟨vH, rfl, oH, bH⟩; obtain ⟨xH, cH, rfl, _, _, _⟩ := oH.shape; have hH1 := keep4 ⟨y0, y1, y2, y3, kb⟩ bH)
      | (go_at_call 31; obtain ⟨y0, y1, y2, y3, kb⟩ := ‹_ ∧ _ ∧ _ ∧ _ ∧ Below _ _ _›; refine (eqTable_calls (OA.below kb).ints oH.ints (by omega)).mono ?_; rintro e wJ ⟨rfl, bJ⟩; have hH2 := keep4 ⟨y0, y1, y2, y3, kb⟩ bJ))
  obtain ⟨_, _, _, _, kb10⟩ := hH2
  clear rac0 rac1 rbc0 rbc1 rxc0 rxc1 ryc0 ryc1 ral rbl rxl ryl fA kB OA hH1 oH bH bJ
  have RA10 := Row.below RA9 kb10
  have RB10 := Row.below RB9 kb10
  have RX10 := Row.below RX9 kb10
  have RY10 := Row.below RY9 kb10
  have OX10 := OX9.below kb10
  have OY10 := OY9.below kb10
  have B10 := B9.trans (kb10.mono B9.size)
  have Z10 := kb10.size
  clear RA9 RB9 RX9 RY9 OX9 OY9
  go_wp2_with fail
  go_ret
  exact ⟨rfl, B10⟩
end Go.Proofs.Ytoaeglhjaandmaa
