/- The source of draws, which every chapter's draws read: its bytes, one draw, one pick. -/
import Derived.Test.YtkikjoalhohlgaaShare
namespace Go.Proofs.Ytkikjoalhohlgaa
open Go.RowKit

/-- The slice of n bytes at 'ao' reads as bs. -/
def Bytes (w : World) (ao : Option Addr) (n : Nat) (bs : List Int) : Prop :=
  bs.length = n ∧ (0 < n → ∃ b off, ao = some ⟨b, off, none⟩ ∧ b < w.heap.size ∧ ∀ j, j < n → w.cell? ⟨b, off + j, none⟩ = some (.int .u8 (bs.getD j 0)) ∧ 0 ≤ bs.getD j 0 ∧ bs.getD j 0 ≤ 255)

theorem Bytes.below {w w' : World} {ao : Option Addr} {n : Nat} {bs : List Int} (h : Bytes w ao n bs) (hb : Below w.heap.size w w') : Bytes w' ao n bs := by
  refine ⟨h.1, fun hi => ?_⟩
  obtain ⟨b, off, rfl, hlt, hc⟩ := h.2 hi
  exact ⟨b, off, rfl, Nat.lt_of_lt_of_le hlt hb.size, fun j hj => by rw [hb.cell (p := ⟨b, off + j, none⟩) hlt]; exact hc j hj⟩
theorem Bytes.none_ (w : World) : Bytes w none 0 [] := ⟨rfl, fun h => absurd h (by omega)⟩
theorem Bytes.of_row {w : World} {x : Addr} {len cap : Nat} {zs : List Int} (hl : len ≤ cap) (hz : zs.length = cap) (hc : ∀ i, i < zs.length → w.cell? (x.add i) = some (.int .u8 (zs.getD i 0))) (hw : ∀ n ∈ zs, (Lit.int .u8 n).wf = true) : Bytes w (some x) len (zs.take len) := by
  refine ⟨by simp; omega, fun h0 => ?_⟩
  obtain ⟨b, off, rfl, hcell⟩ := ints_at hc (by omega)
  refine ⟨b, off, rfl, ?_, fun j hj => ?_⟩
  · exact World.block_lt_of_cell? w _ (hcell 0 (by omega))
  · have hr := byte_range (hw _ (List.getElem_mem (show j < zs.length by omega)))
    rw [hcell j (by omega)]
    have e1 : zs.getD j 0 = zs[j] := by simp [List.getD, show j < zs.length by omega]
    have e2 : (zs.take len).getD j 0 = zs[j] := by simp [List.getD, hj, show j < zs.length by omega]
    rw [e1, e2]
    exact ⟨rfl, hr⟩

/-- The source of draws in block p: its bytes, and how far it is. -/
def Src (w : World) (p k : Nat) : Prop :=
  ∃ ao n c bs, Row w p 103 #[.slice ao n c, .int .i64 (k : Int)] ∧ Bytes w ao n bs ∧ n ≤ 1048576 ∧ ∀ a, ao = some a → 0 < n → a.block < p

theorem Src.below {w w' : World} {p k : Nat} (h : Src w p k) (hb : Below w.heap.size w w') : Src w' p k := by
  obtain ⟨ao, n, c, bs, h1, h2, h3, h4⟩ := h
  exact ⟨ao, n, c, bs, h1.below hb, h2.below hb, h3, h4⟩
theorem Src.lt {w : World} {p k : Nat} (h : Src w p k) : p < w.heap.size := by
  obtain ⟨ao, n, c, bs, h1, _⟩ := h
  exact h1.lt
/-- The source behind one draw. -/
theorem Src.stored {w : World} {p k : Nat} (h : Src w p k) : Src (w.setCell ⟨p, 1, none⟩ (.int .i64 ((k + 1 : Nat) : Int))) p (k + 1) ∧ w.grownBy (w.setCell ⟨p, 1, none⟩ (.int .i64 ((k + 1 : Nat) : Int))) (some p) := by
  obtain ⟨ao, n, c, bs, h1, h2, h3, h4⟩ := h
  refine ⟨⟨ao, n, c, bs, ?_, ⟨h2.1, fun h0 => ?_⟩, h3, h4⟩, ⟨rfl, rfl, rfl, by simp, fun i _ hne => heap_setCell_other w ⟨p, 1, none⟩ i _ (fun e => hne (by simp [e]))⟩⟩
  · have := heap_setCell_same w p 1 _ _ (.int .i64 ((k + 1 : Nat) : Int)) h1
    simpa [Row] using this
  · obtain ⟨b, off, rfl, hlt, hc⟩ := h2.2 h0
    have hne := h4 _ rfl h0
    refine ⟨b, off, rfl, by simpa using hlt, fun j hj => ?_⟩
    rw [World.cell?_of_block (w := w) (a := ⟨b, off + j, none⟩) (heap_setCell_other w _ b _ (by simp at hne ⊢; omega))]
    exact hc j hj
theorem Src.drewN {w : World} {p k : Nat} (h : Src w p k) (n : Nat) : Src (w.drewN n) p k := h

theorem grown_drewN {a b : World} {row : Option Nat} (h : a.grownBy b row) (n : Nat) : a.grownBy (b.drewN n) row := ⟨h.os, h.tape, h.output, h.size, h.block⟩
/-- What one draw leaves: a number of the range, the source one further, nothing else. -/
def Draws (w : World) (p k : Nat) (n : Int) (e : Ending) (w' : World) : Prop := ∃ r : Int, e = .returned (.int .i64 r) ∧ 0 ≤ r ∧ (1 ≤ n → r < n) ∧ (n < 1 → r = 0) ∧ Src w' p (k + 1) ∧ w.grownBy w' (some p)

set_option maxHeartbeats 800000 in
theorem next_calls {p k : Nat} {n : Int} {w : World} (hs : Src w p k) (hk : k ≤ 4294967296) :
    Calls Try.prog 63 #[.pointer (some ⟨p, 0, none⟩), .int .i64 n] w (Draws w p k n) := by
  have HST := Lib.hid hs.stored
  obtain ⟨ao, m, c, bs, hrow, hby, hm, hne⟩ := hs
  have c0 := hrow.cell 0
  have c1 := hrow.cell 1
  simp at c0 c1
  have hfr : w.frozen? ⟨p, 1, none⟩ = false := frozen_of_row w p 1 _ _ hrow
  by_cases hn : n < 1
  · go_enter Try.func63, Try.ntmps63
    go_wp2
    go_ret
    exact ⟨0, rfl, Int.le_refl _, fun h => absurd hn (by omega), fun _ => rfl, HST.out.1, HST.out.2⟩
  · by_cases h0 : m = 0
    · subst h0
      go_enter Try.func63, Try.ntmps63
      go_wp2_with fail
      go_ret
      exact ⟨_, rfl, Int.emod_nonneg _ (by omega), fun _ => Int.emod_lt_of_pos _ (by omega), fun h => absurd h (by omega), HST.out.1, HST.out.2⟩
    · obtain ⟨b, off, rfl, hb, hc⟩ := hby.2 (by omega)
      have hpb : b ≠ p := by have := hne _ rfl (by omega); simp at this; omega
      have hm0 : ((m : Int) == 0) = false := by simp; omega
      have hx0 := hc (k % m) (Nat.mod_lt _ (by omega))
      have hx1 := hc ((k + 1) % m) (Nat.mod_lt _ (by omega))
      have hx2 := hc ((k + 2) % m) (Nat.mod_lt _ (by omega))
      obtain ⟨d0, hd0⟩ : ∃ d, d = bs.getD (k % m) 0 := ⟨_, rfl⟩
      obtain ⟨d1, hd1⟩ : ∃ d, d = bs.getD ((k + 1) % m) 0 := ⟨_, rfl⟩
      obtain ⟨d2, hd2⟩ : ∃ d, d = bs.getD ((k + 2) % m) 0 := ⟨_, rfl⟩
      rw [← hd0] at hx0; rw [← hd1] at hx1; rw [← hd2] at hx2
      clear hd0 hd1 hd2 hc hby hne
      obtain ⟨hx0, y0, y0'⟩ := hx0
      obtain ⟨hx1, y1, y1'⟩ := hx1
      obtain ⟨hx2, y2, y2'⟩ := hx2
      have lt0 : (k : Int) % (m : Int) < m := Int.emod_lt_of_pos _ (by omega)
      have ge0 : 0 ≤ (k : Int) % (m : Int) := Int.emod_nonneg _ (by omega)
      have lt1 : ((k : Int) + 1) % (m : Int) < m := Int.emod_lt_of_pos _ (by omega)
      have ge1 : 0 ≤ ((k : Int) + 1) % (m : Int) := Int.emod_nonneg _ (by omega)
      have lt2 : ((k : Int) + 2) % (m : Int) < m := Int.emod_lt_of_pos _ (by omega)
      have ge2 : 0 ≤ ((k : Int) + 2) % (m : Int) := Int.emod_nonneg _ (by omega)
      have q0 : 0 ≤ (k : Int) / (m : Int) := Int.ediv_nonneg (by omega) (by omega)
      have q1 : (k : Int) / (m : Int) ≤ k := Int.ediv_le_self _ (by omega)
      by_cases hn2 : n ≤ 200
      · go_enter Try.func63, Try.ntmps63
        go_wp2_with fail
        go_quiet (fail)
        obtain ⟨v, hv⟩ : ∃ v, v = d0 + (k : Int) / (m : Int) * 37 := ⟨_, rfl⟩
        have hv0 : 0 ≤ v := by omega
        have hv1 : v ≤ 255 + 4294967296 * 37 := by omega
        rw [← hv]
        clear hv
        go_wp2_with fail
        go_ret
        exact ⟨_, rfl, Int.emod_nonneg _ (by omega), fun _ => Int.emod_lt_of_pos _ (by omega), fun h => absurd h (by omega), HST.out.1.drewN _, grown_drewN HST.out.2 _⟩
      · by_cases hn3 : n ≤ 60000
        · go_enter Try.func63, Try.ntmps63
          go_wp2_with fail
          go_quiet (fail)
          obtain ⟨v, hv⟩ : ∃ v, v = d0 + (k : Int) / (m : Int) * 37 := ⟨_, rfl⟩
          have hv0 : 0 ≤ v := by omega
          have hv1 : v ≤ 255 + 4294967296 * 37 := by omega
          rw [← hv]
          clear hv
          go_wp2_with fail
          go_quiet (fail)
          obtain ⟨u, hu⟩ : ∃ u, u = v * 251 + d1 * 13 + (k : Int) := ⟨_, rfl⟩
          have hu0 : 0 ≤ u := by omega
          rw [← hu]
          clear hu
          go_wp2_with fail
          go_ret
          exact ⟨_, rfl, Int.emod_nonneg _ (by omega), fun _ => Int.emod_lt_of_pos _ (by omega), fun h => absurd h (by omega), HST.out.1.drewN _, grown_drewN HST.out.2 _⟩
        · go_enter Try.func63, Try.ntmps63
          go_wp2_with fail
          go_quiet (fail)
          obtain ⟨v, hv⟩ : ∃ v, v = d0 + (k : Int) / (m : Int) * 37 := ⟨_, rfl⟩
          have hv0 : 0 ≤ v := by omega
          have hv1 : v ≤ 255 + 4294967296 * 37 := by omega
          rw [← hv]
          clear hv
          go_wp2_with fail
          go_quiet (fail)
          obtain ⟨u, hu⟩ : ∃ u, u = v * 251 + d1 * 13 + (k : Int) := ⟨_, rfl⟩
          have hu0 : 0 ≤ u := by omega
          have hu1 : u ≤ 1125899906842624 := by omega
          rw [← hu]
          clear hu
          go_wp2_with fail
          go_quiet (fail)
          obtain ⟨z, hz⟩ : ∃ z, z = u * 257 + d2 := ⟨_, rfl⟩
          have hz0 : 0 ≤ z := by omega
          rw [← hz]
          clear hz
          go_wp2_with fail
          go_ret
          exact ⟨_, rfl, Int.emod_nonneg _ (by omega), fun _ => Int.emod_lt_of_pos _ (by omega), fun h => absurd h (by omega), HST.out.1.drewN _, grown_drewN HST.out.2 _⟩

/-- The source is kept where another block is written. -/
theorem Src.apart {w w' : World} {p k g : Nat} (h : Src w p k) (hg : w.grownBy w' (some g)) (hne : p < g) : Src w' p k := by
  obtain ⟨ao, n, c, bs, h1, h2, h3, h4⟩ := h
  refine ⟨ao, n, c, bs, (hg.block p h1.lt (by simp; omega)).trans h1, ⟨h2.1, fun h0 => ?_⟩, h3, h4⟩
  obtain ⟨b, off, rfl, hlt, hc⟩ := h2.2 h0
  have hb := h4 _ rfl h0
  refine ⟨b, off, rfl, Nat.lt_of_lt_of_le hlt hg.size, fun j hj => ?_⟩
  rw [World.cell?_of_block (w := w) (a := ⟨b, off + j, none⟩) (hg.block b hlt (by simp at hb ⊢; omega))]
  exact hc j hj
theorem grown_new {w0 w w' : World} {p g : Nat} (h : w0.grownBy w (some p)) (hg : w.grownBy w' (some g)) (hb : w0.heap.size ≤ g) : w0.grownBy w' (some p) :=
  ⟨hg.os.trans h.os, hg.tape.trans h.tape, hg.output.trans h.output, Nat.le_trans h.size hg.size, fun i hi hne => (hg.block i (Nat.lt_of_lt_of_le hi h.size) (by simp; omega)).trans (h.block i hi hne)⟩

/-- What a pick leaves: one of the list. -/
def Picks (w : World) (p k : Nat) (xs : List Int) (e : Ending) (w' : World) : Prop := ∃ r : Int, e = .returned (.int .i64 r) ∧ r ∈ xs ∧ Src w' p (k + 1) ∧ w.grownBy w' (some p)

theorem pick_calls {p k n c : Nat} {ao : Option Addr} {xs : List Int} {w : World} (hs : Src w p k) (hk : k ≤ 4294967296) (hi : Ints w ao n xs) (h0 : 0 < n) (hn : n ≤ 4294967296) (hne : ∀ a, ao = some a → a.block ≠ p) :
    Calls Try.prog 59 #[.pointer (some ⟨p, 0, none⟩), .slice ao n c] w (Picks w p k xs) := by
  have HL := Lib.hid hi.1
  go_enter Try.func59, Try.ntmps59
  go_wp2_with fail
  refine (next_calls hs hk).mono ?_
  rintro e w1 ⟨r, rfl, r0, r1, _, hs1, hg1⟩
  obtain ⟨m, rfl⟩ : ∃ m : Nat, r = m := ⟨r.toNat, by omega⟩
  have hm : m < n := by have := r1 (by omega); omega
  have hi1 := hi.grown hg1 (fun a ha _ e => hne a ha (by injection e with e; exact e.symm))
  obtain ⟨b, off, rfl, hb, hc⟩ := hi1.at_ hm
  have hmx : m < xs.length := by rw [HL.out]; exact hm
  have HS := Lib.hid hs1
  have HG := Lib.hid hg1
  clear hs1 hg1 r1 hi1
  go_wp2_with fail
  go_ret
  exact ⟨_, rfl, List.getElem_mem hmx, HS.out, HG.out⟩

theorem Ints.lit {w : World} {t : TypeId} {b n : Nat} {xs : List Int} (hb : b = w.heap.size) (hn : xs.length = n) : Ints (w.alloc (.cells (xs.map (Value.int .i64)).toArray t)) (some ⟨b, 0, none⟩) n xs := by
  subst hb
  refine ⟨hn, fun _ => ⟨w.heap.size, 0, rfl, by simp, fun j hj => ?_⟩⟩
  rw [Nat.zero_add, cell_of_row _ _ _ _ _ _ (heap_alloc_new w _)]
  simp [List.getD, hn.symm ▸ hj]

/-- A new source. -/
theorem source_calls {ao : Option Addr} {n c : Nat} {bs : List Int} {w : World} (hb : Bytes w ao n bs) (hn : n ≤ 1048576) :
    Calls Try.prog 57 #[.slice ao n c] w fun e w' => e = .returned (.pointer (some ⟨w.heap.size, 0, none⟩)) ∧ Src w' w.heap.size 0 ∧ Below w.heap.size w w' := by
  go_enter Try.func57, Try.ntmps57
  go_wp2
  go_ret
  refine ⟨rfl, ⟨ao, n, c, bs, heap_alloc_new w _, hb.below ((Below.refl _ _).alloc (Nat.le_refl _) _), hn, fun a ha h0 => ?_⟩, (Below.refl _ _).alloc (Nat.le_refl _) _⟩
  obtain ⟨b, off, rfl, hlt, _⟩ := hb.2 h0
  injection ha with ha
  subst ha
  exact hlt

theorem below_of_grown {w w1 w2 : World} (h : Below w.heap.size w w1) (hg : w1.grownBy w2 (some w.heap.size)) : Below w.heap.size w w2 := h.grown hg h.size (by intro k hk; simp at hk; omega)
end Go.Proofs.Ytkikjoalhohlgaa
