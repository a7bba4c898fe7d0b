/- The draws of chapter 1, the second part: what the laws are handed. -/
import Derived.Test.YtfhdcbahgddlhaaDraw1
namespace Go.Proofs.Ytfhdcbahgddlhaa
open Go.RowKit

/-- What a draw of words leaves, bent or not. -/
def DrawsInts (w : World) (p k d : Nat) (e : Ending) (w' : World) : Prop :=
  ∃ ao n c xs k', e = .returned (.slice ao n c) ∧ Ints w' ao n xs ∧ n ≤ c ∧ n ≤ 656 ∧ k' ≤ k + d ∧ Src w' p k' ∧ w.grownBy w' (some p) ∧ ∀ a, ao = some a → p < a.block

theorem Ints.drop1 {w : World} {g o m : Nat} {xs : List Int} (h : Ints w (some ⟨g, o, none⟩) m xs) (hm : 1 ≤ m) : Ints w (some ⟨g, o + 1, none⟩) (m - 1) (xs.drop 1) := by
  refine ⟨by rw [List.length_drop, h.1], fun _ => ?_⟩
  obtain ⟨b, off, he, hb, hc⟩ := h.2 (by omega)
  simp only [Option.some.injEq, Addr.mk.injEq, and_true] at he
  obtain ⟨rfl, rfl⟩ := he
  refine ⟨g, o + 1, rfl, hb, fun j hj => ?_⟩
  rw [show o + 1 + j = o + (j + 1) by omega, hc (j + 1) (by omega)]
  simp [List.getD]

set_option maxHeartbeats 1600000 in
theorem bent_calls {p k : Nat} {w : World} (hs : Src w p k) (hk : k ≤ 60000) :
    Calls Try.prog 34 #[.pointer (some ⟨p, 0, none⟩)] w (DrawsInts w p k 50) := by
  obtain ⟨i0, hi, hz0, hz1, hz2⟩ := info_parts info64
  have hp := hs.lt
  go_enter Try.func34, Try.ntmps34
  go_wp2_with fail
  refine (draw_calls hs (by omega)).mono ?_
  rintro e w1 ⟨g, m, xs, k1, rfl, O1, hm1, hm2, hk1, S1, G1⟩
  have hg := O1.lt
  go_wp2_with fail
  refine (next_calls S1 (by omega)).mono ?_
  rintro e w2 ⟨r, rfl, r0, r1, _, S2, hg2⟩
  have O2 := O1.kept hg2 (.inr (by simp [Value.ownBlock]; omega))
  have G2 := grown_trans G1 hg2
  have Z2 := G2.size
  have hp2 := S2.lt
  clear O1 S1 G1 hg2
  by_cases c0 : r = 0
  · subst c0
    have F := Lib.hid (And.intro O2.ints (And.intro S2 G2))
    clear O2 S2 G2
    go_wp2_with fail
    go_ret
    exact ⟨_, _, _, _, _, rfl, F.out.1.drop1 (by omega), Nat.le_refl _, by omega, by omega, F.out.2.1, F.out.2.2, fun a ha => by injection ha with ha; subst ha; show p < g; omega⟩
  · have b0 : (r == 0) = false := by simpa using c0
    by_cases c1 : r = 1
    · subst c1
      clear c0 b0
      go_wp2_with fail
      refine (pick_calls (S2.below ((Below.refl _ _).alloc (Nat.le_refl _) _)) (by omega) (Ints.lit (n := 3) (xs := [1000000001, -1000000001, -1000000000]) (by simp) rfl) (by omega) (by omega) (by simp; omega)).mono ?_
      rintro e w6 ⟨v, rfl, _, S6, hg6⟩
      have O6 := (O2.below ((Below.refl _ _).alloc (Nat.le_refl _) _)).kept hg6 (.inr (by simp [Value.ownBlock]; omega))
      have G6 := grown_trans (grown_trans G2 (World.grownBy_alloc _ _ (some p))) hg6
      clear hg6 O2 S2 G2
      obtain ⟨hcl, hfr⟩ := O6.cell (j := 3) (by omega)
      obtain ⟨O7, hg7⟩ := O6.stored 3 v
      have S7 := S6.apart hg7 (by omega)
      have G7 : w.grownBy (w6.setCell ⟨g, 3, none⟩ (.int .i64 v)) (some p) := grown_new G6 hg7 O6.lt.1
      have F := Lib.hid (And.intro O7.ints (And.intro S7 G7))
      clear O7 S7 G7 hg7 O6 S6 G6
      go_wp2_with fail
      go_ret
      exact ⟨_, _, _, _, _, rfl, F.out.1, Nat.le_refl _, by omega, by omega, F.out.2.1, F.out.2.2, fun a ha => by injection ha with ha; subst ha; show p < g; omega⟩
    · have b1 : (r == 1) = false := by simpa using c1
      by_cases c2 : r = 2
      · subst c2
        clear c0 b0 c1 b1
        have F := Lib.hid (And.intro S2 G2)
        clear O2 S2 G2
        go_wp2_with fail
        go_ret
        exact ⟨_, _, _, _, _, rfl, Ints.none_ _, Nat.le_refl _, by omega, by omega, F.out.1, F.out.2, fun a ha => by cases ha⟩
      · have b2 : (r == 2) = false := by simpa using c2
        by_cases c3 : r = 3
        · subst c3
          clear c0 b0 c1 b1 c2 b2
          go_wp2_with fail
          refine (pick_calls (S2.below ((Below.refl _ _).alloc (Nat.le_refl _) _)) (by omega) (Ints.lit (n := 2) (xs := [40, 41]) (by simp) rfl) (by omega) (by omega) (by simp; omega)).mono ?_
          rintro e w6 ⟨v, rfl, hv, S6, hg6⟩
          obtain ⟨q, rfl⟩ : ∃ q : Nat, v = q := ⟨v.toNat, by simp at hv; omega⟩
          have hq : 40 ≤ q ∧ q ≤ 41 := by simp at hv; omega
          have G6 := grown_trans (grown_trans G2 (World.grownBy_alloc _ _ (some p))) hg6
          have Z6 := G6.size
          have hp6 := S6.lt
          clear hg6 O2 S2 G2 hv
          go_wp2_with (at_make; go_must (refine wpList_make_full _ rfl _ _ 24 rfl w.heap.size 2 i0 (.int .i64 0) 1 Try.underlying24 hi hz0 hz1 _ _ _ _ (16 * q) rfl rfl (by omega) (by omega) (by rw [hz2]; omega) (by unfold maxLen; omega) Z6 ?_); intro w7 hown hg7)
          have O7 : OwnI w7 w.heap.size (.slice (some ⟨w6.heap.size, 0, none⟩) (16 * q) (16 * q)) (16 * q) (List.replicate (16 * q) 0) := ⟨_, by simpa [toList_madeCells_one, Value.cells] using hown⟩
          have S7 : Src w7 p (k1 + 1 + 1) := S6.below ((Below.refl _ _).grown hg7 (Nat.le_refl _) (by simp))
          have G7 : w.grownBy w7 (some p) := grown_trans G6 ⟨hg7.os, hg7.tape, hg7.output, hg7.size, fun i hi _ => hg7.block i hi (by simp)⟩
          have F := Lib.hid (And.intro O7.ints (And.intro S7 G7))
          clear O7 S7 G7 hg7 hown S6 G6
          go_wp2_with fail
          go_ret
          exact ⟨_, _, _, _, _, rfl, F.out.1, Nat.le_refl _, by omega, by omega, F.out.2.1, F.out.2.2, fun a ha => by injection ha with ha; subst ha; show p < w6.heap.size; omega⟩
        · have b3 : (r == 3) = false := by simpa using c3
          have F := Lib.hid (And.intro O2.ints (And.intro S2 G2))
          clear O2 S2 G2 c0 c1 c2 c3
          go_wp2_with fail
          go_ret
          exact ⟨_, _, _, _, _, rfl, F.out.1, Nat.le_refl _, by omega, by omega, F.out.2.1, F.out.2.2, fun a ha => by injection ha with ha; subst ha; show p < g; omega⟩

/-- A new source. -/
theorem source_calls {ao : Option Addr} {n c : Nat} {bs : List Int} {w : World} (hb : Bytes w ao n bs) (hn : n ≤ 1048576) :
    Calls Try.prog 33 #[.slice ao n c] w fun e w' => e = .returned (.pointer (some ⟨w.heap.size, 0, none⟩)) ∧ Src w' w.heap.size 0 ∧ Below w.heap.size w w' := by
  go_enter Try.func33, Try.ntmps33
  go_wp2
  go_ret
  refine ⟨rfl, ⟨ao, n, c, bs, heap_alloc_new w _, hb.below ((Below.refl _ _).alloc (Nat.le_refl _) _), hn, fun a ha h0 => ?_⟩, (Below.refl _ _).alloc (Nat.le_refl _) _⟩
  obtain ⟨b, off, rfl, hlt, _⟩ := hb.2 h0
  injection ha with ha
  subst ha
  exact hlt

theorem below_of_grown {w w1 w2 : World} (h : Below w.heap.size w w1) (hg : w1.grownBy w2 (some w.heap.size)) : Below w.heap.size w w2 := h.grown hg h.size (by intro k hk; simp at hk; omega)

/-- Words and a frame. -/
def DrawnFrame (w : World) (e : Ending) (w' : World) : Prop :=
  ∃ ao n c xs f, e = .returned (.tuple #[.slice ao n c, .int .i64 f]) ∧ Ints w' ao n xs ∧ n ≤ c ∧ n ≤ 656 ∧ Below w.heap.size w w'

theorem drawFrameWords_calls {ao : Option Addr} {n c : Nat} {bs : List Int} {w : World} (hb : Bytes w ao n bs) (hn : n ≤ 1048576) :
    Calls Try.prog 40 #[.slice ao n c] w (DrawnFrame w) := by
  go_enter Try.func40, Try.ntmps40
  go_wp2_with fail
  refine (source_calls hb hn).mono ?_
  rintro e w1 ⟨rfl, S1, B1⟩
  go_wp2_with fail
  refine (bent_calls S1 (by omega)).mono ?_
  rintro e w2 ⟨a2, n2, c2, xs, k2, rfl, I2, hc2, hn2, hk2, S2, G2, hp2⟩
  have B2 := below_of_grown B1 G2
  have lp := S2.lt
  clear G2 B1 S1
  go_wp2_with fail
  refine (pick_calls (S2.below ((Below.refl _ _).alloc (Nat.le_refl _) _)) (by omega) (Ints.lit (n := 6) (xs := [0, 0, 1, 3, 4, -1]) (by simp) rfl) (by omega) (by omega) (by simp; omega)).mono ?_
  rintro e w3 ⟨v, rfl, _, _, G3⟩
  have I3 := (I2.alloc _).grown G3 (by intro a ha _ e; injection e with e; have := hp2 a ha; omega)
  have B3 := below_of_grown (B2.alloc B2.size _) G3
  have F := Lib.hid (And.intro I3 B3)
  clear I3 B3 G3 B2 I2 S2 hp2
  go_wp2_with fail
  go_ret2
  exact ⟨_, _, _, _, _, rfl, F.out.1, hc2, hn2, F.out.2⟩

theorem drawZeroFrame_calls {ao : Option Addr} {n c : Nat} {bs : List Int} {w : World} (hb : Bytes w ao n bs) (hn : n ≤ 1048576) :
    Calls Try.prog 13 #[.slice ao n c] w (DrawnFrame w) := by
  go_enter Try.func13, Try.ntmps13
  go_wp2_with fail
  refine (drawFrameWords_calls hb hn).mono ?_
  rintro e w2 ⟨a2, n2, c2, xs, f, rfl, I2, hc2, hn2, B2⟩
  have F := Lib.hid (And.intro I2 B2)
  clear I2 B2
  go_wp2_with fail
  go_ret2
  exact ⟨_, _, _, _, _, rfl, F.out.1, hc2, hn2, F.out.2⟩

theorem drawNewArena_calls {ao : Option Addr} {n c : Nat} {bs : List Int} {w : World} (hb : Bytes w ao n bs) (hn : n ≤ 1048576) :
    Calls Try.prog 15 #[.slice ao n c] w fun e w' => (∃ f : Int, f ∈ [(1 : Int), 2, 40, 41, 0] ∧ e = .returned (.int .i64 f)) ∧ Below w.heap.size w w' := by
  go_enter Try.func15, Try.ntmps15
  go_wp2_with fail
  refine (source_calls hb hn).mono ?_
  rintro e w1 ⟨rfl, S1, B1⟩
  have lp := S1.lt
  go_wp2_with fail
  refine (pick_calls (S1.below ((Below.refl _ _).alloc (Nat.le_refl _) _)) (by omega) (Ints.lit (n := 5) (xs := [1, 2, 40, 41, 0]) (by simp) rfl) (by omega) (by omega) (by simp; omega)).mono ?_
  rintro e w3 ⟨v, rfl, hv, _, G3⟩
  have F := Lib.hid (And.intro hv (below_of_grown (B1.alloc B1.size _) G3))
  clear hv G3 B1 S1
  go_wp2_with fail
  go_ret
  exact ⟨⟨v, F.out.1, rfl⟩, F.out.2⟩

/-- Words, a frame and a page. -/
def DrawnWrite (w : World) (e : Ending) (w' : World) : Prop :=
  ∃ ao n c xs f po m pc ys, e = .returned (.tuple #[.slice ao n c, .int .i64 f, .slice po m pc]) ∧ Ints w' ao n xs ∧ n ≤ c ∧ n ≤ 656 ∧ Ints w' po m ys ∧ m ≤ 16 ∧ Below w.heap.size w w'

set_option maxHeartbeats 800000 in
theorem drawWriteFrame_calls {ao : Option Addr} {n c : Nat} {bs : List Int} {w : World} (hb : Bytes w ao n bs) (hn : n ≤ 1048576) :
    Calls Try.prog 11 #[.slice ao n c] w (DrawnWrite w) := by
  obtain ⟨i0, hi, hz0, hz1, hz2⟩ := info_parts info64
  go_enter Try.func11, Try.ntmps11
  go_wp2_with fail
  refine (source_calls hb hn).mono ?_
  rintro e w1 ⟨rfl, S1, B1⟩
  go_wp2_with fail
  refine (bent_calls S1 (by omega)).mono ?_
  rintro e w2 ⟨a2, n2, c2, xs, k2, rfl, I2, hc2, hn2, hk2, S2, G2, hp2⟩
  have B2 := below_of_grown B1 G2
  have lp := S2.lt
  clear G2 B1 S1
  go_wp2_with fail
  refine (pick_calls (S2.below ((Below.refl _ _).alloc (Nat.le_refl _) _)) (by omega) (Ints.lit (n := 4) (xs := [16, 16, 16, 15]) (by simp) rfl) (by omega) (by omega) (by simp; omega)).mono ?_
  rintro e w3 ⟨v, rfl, hv, S3, G3⟩
  obtain ⟨q, rfl⟩ : ∃ q : Nat, v = q := ⟨v.toNat, by simp at hv; omega⟩
  have hq : 15 ≤ q ∧ q ≤ 16 := by simp at hv; omega
  have I3 := (I2.alloc _).grown G3 (by intro a ha _ e; injection e with e; have := hp2 a ha; omega)
  have B3 := below_of_grown (B2.alloc B2.size _) G3
  clear G3 B2 I2 S2 hv
  go_wp2_with (at_make; go_must (refine wpList_make_full _ rfl _ _ 24 rfl w3.heap.size 2 i0 (.int .i64 0) 1 Try.underlying24 hi hz0 hz1 _ _ _ _ q rfl rfl rfl rfl (by rw [hz2]; omega) (by unfold maxLen; omega) (Nat.le_refl _) ?_); intro w4 hown hg4)
  have O4 : OwnI w4 w3.heap.size (.slice (some ⟨w3.heap.size, 0, none⟩) q q) q (List.replicate q 0) := ⟨_, by simpa [toList_madeCells_one, Value.cells] using hown⟩
  have b4 := (Below.refl w3.heap.size w3).grown hg4 (Nat.le_refl _) (by simp)
  have S4 := S3.below b4
  have I4 := I3.below b4
  have B4 := B3.trans (b4.mono B3.size)
  have lp3 := S3.lt
  have hI : ∀ a, a2 = some a → 0 < n2 → some w3.heap.size ≠ some a.block := by
    intro a ha h0 e
    injection e with e
    obtain ⟨b, off, he, hb3, _⟩ := I3.2 h0
    rw [he] at ha; injection ha with ha; subst ha
    exact absurd e (Nat.ne_of_gt hb3)
  have HI := Lib.hid hI
  clear hown hg4 b4 S3 I3 B3 hI
  have hgp : w.heap.size < w3.heap.size := lp3
  refine (next_calls S4 (by omega)).mono ?_
  rintro e w5 ⟨x, rfl, x0, x1, _, S5, G5⟩
  obtain ⟨y, rfl⟩ : ∃ y : Nat, x = y := ⟨x.toNat, by omega⟩
  have hy : y < q := by have := x1 (by omega); omega
  have O5 := O4.kept G5 (.inr (by simp [Value.ownBlock]; omega))
  have I5 := I4.grown G5 (by intro a ha _ e; injection e with e; have := hp2 a ha; omega)
  have B5 := below_of_grown B4 G5
  have lp5 := S5.lt
  clear G5 x0 x1 O4 S4 I4 B4
  go_wp2_with fail
  refine (pick_calls (S5.below ((Below.refl _ _).alloc (Nat.le_refl _) _)) (by omega) (Ints.lit (n := 4) (xs := [5, -9, 1000000000, 1000000001]) (by simp) rfl) (by omega) (by omega) (by simp; omega)).mono ?_
  rintro e w6 ⟨v, rfl, _, S6, G6⟩
  have O6 := (O5.below ((Below.refl _ _).alloc (Nat.le_refl _) _)).kept G6 (.inr (by simp [Value.ownBlock]; omega))
  have I6 := (I5.alloc _).grown G6 (by intro a ha _ e; injection e with e; have := hp2 a ha; omega)
  have B6 := below_of_grown (B5.alloc B5.size _) G6
  have lp6 := S6.lt
  clear G6 O5 S5 I5 B5
  obtain ⟨hcl, hfr⟩ := O6.cell hy
  obtain ⟨O7, g7⟩ := O6.stored y v
  have S7 := S6.apart g7 hgp
  have B7 := B6.grown g7 B6.size (by intro k hk; simp at hk; omega)
  have I7 := I6.grown g7 HI.out
  have lp7 := S7.lt
  have J7 := O7.ints
  clear g7 O6 S6 I6 B6 O7
  go_wp2_with fail
  refine (pick_calls (S7.below ((Below.refl _ _).alloc (Nat.le_refl _) _)) (by omega) (Ints.lit (n := 6) (xs := [0, 0, 1, 3, 4, -1]) (by simp) rfl) (by omega) (by omega) (by simp at lp7; simp; omega)).mono ?_
  rintro e w8 ⟨u, rfl, _, _, G8⟩
  have I8 := (I7.alloc _).grown G8 (by intro a ha _ e; injection e with e; have := hp2 a ha; omega)
  have J8 := (J7.alloc _).grown G8 (by intro a ha _ e; injection ha with ha; subst ha; injection e with e; simp at e; omega)
  have B8 := below_of_grown (B7.alloc B7.size _) G8
  have F := Lib.hid (And.intro I8 (And.intro J8 B8))
  clear I8 J8 B8 G8 B7 I7 J7 S7 hp2 lp7
  go_wp2_with fail
  go_ret3
  exact ⟨_, _, _, _, _, _, _, _, _, rfl, F.out.1, hc2, hn2, F.out.2.1, by omega, F.out.2.2⟩
end Go.Proofs.Ytfhdcbahgddlhaa
