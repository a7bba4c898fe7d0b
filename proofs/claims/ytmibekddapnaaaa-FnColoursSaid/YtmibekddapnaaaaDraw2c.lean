/- The draw of a config, bent or not; what the laws are handed. -/
import Derived.Test.YtmibekddapnaaaaDraw2b
namespace Go.Proofs.Ytmibekddapnaaaa
open Go.RowKit

theorem TenRow.oneCell {w : World} {B n : Nat} {v : Value} {tc : List Value} (h : TenRow w B v n tc) : ∀ u ∈ tc, u.oneCell' = true := by
  intro u hu
  obtain ⟨i, hi, rfl⟩ := List.getElem_of_mem hu
  have hl := h.1.1
  obtain ⟨a, m, cc, xs, cp, _, _, h3, h4, _⟩ := h.2 (i / 2) (by omega)
  rcases Nat.mod_two_eq_zero_or_one i with e | e
  · rw [show i / 2 * 2 = i by omega, List.getElem?_eq_getElem hi] at h3
    injection h3 with h3; rw [h3]; rfl
  · rw [show i / 2 * 2 + 1 = i by omega, List.getElem?_eq_getElem hi] at h4
    injection h4 with h4; rw [h4]; rfl
theorem below_of_grown2 {w w1 W : World} {p : Nat} (h : Below w.heap.size w w1) (hg : w1.grownBy W (some p)) (hp : w.heap.size ≤ p) : Below w.heap.size w W := h.grown hg h.size (by intro k hk; injection hk with hk; omega)

/-- What a draw of a config for a law leaves. -/
def DrawnCfg (w : World) (u : Value) (w' : World) : Prop :=
  ∃ F C v n B tc, u = .agg #[.int .i64 F, .int .i64 C, v] ∧ TenRow w' B v n tc ∧ n ≤ 6 ∧ Below w.heap.size w w'
theorem drawn_done {w w1 W : World} {p k r c n : Nat} {F C : Int} {v : Value} {tc : List Value} (h : CfgSt w1 W p k r c F C v n tc) (hB : Below w.heap.size w w1) (hr : w.heap.size ≤ r) (hp : w.heap.size ≤ p) (hn : n ≤ 6) (cs : Array Value) :
    ∃ u, Ending.returned (.agg #[.int .i64 F, .int .i64 C, v]) = .returned u ∧ DrawnCfg w u (W.setRow r cs) := by
  obtain ⟨h1, h2, h3, h4, h5, h6, h7, h8⟩ := h
  exact ⟨_, rfl, F, C, v, n, _, tc, rfl, h3.kept (grown_setRow W r cs) h7 (by decide) (by decide), hn, below_setRow (below_of_grown2 hB h4 hp) hr cs⟩

set_option maxHeartbeats 4000000 in
theorem drawConfigFault_calls {ao : Option Addr} {nb cb : Nat} {bs : List Int} {w : World} (hb : Bytes w ao nb bs) (hn : nb ≤ 1048576) :
    Calls Try.prog 32 #[.slice ao nb cb] w fun e w' => ∃ u, e = .returned u ∧ DrawnCfg w u w' := by
  go_enter Try.func32, Try.ntmps32
  go_wp2_with fail
  refine (source_calls (hb.below ((Below.refl _ _).alloc (Nat.le_refl _) _)) hn).mono ?_
  rintro e w1 ⟨rfl, S1, B1⟩
  have Z1 : Zero w1 w.heap.size := Row.new B1
  have HB := Lib.hid (below_past B1)
  obtain ⟨p, hp⟩ : ∃ p, p = (w.alloc (.cells #[.int .i64 0, .int .i64 0, .slice none 0 0] 26)).heap.size := ⟨_, rfl⟩
  have hpp : p = w.heap.size + 1 := by rw [hp]; simp
  rw [← hp] at S1 ⊢
  have hp1 := S1.lt
  have hr0 : w.heap.size ≤ w.heap.size := Nat.le_refl _
  have hpw : w.heap.size ≤ p := by omega
  have hrp : w.heap.size < p := by omega
  clear B1 hp hpp
  go_wp2_with fail
  refine (l2Config_calls S1 (by omega)).mono ?_
  rintro e w2 ⟨F, C, v, n, tc, k, rfl, hn1, hn3, hk, S2, T2, G2⟩
  have hc0 := G2.size
  have X2 : CfgSt w1 (w2.alloc (.cells #[.int .i64 F, .int .i64 C, v] 26)) p k w.heap.size w2.heap.size F C v n tc := by
    have b := (Below.refl w2.heap.size w2).alloc (Nat.le_refl _) (.cells #[.int .i64 F, .int .i64 C, v] 26)
    have hz : Zero w2 w.heap.size := (G2.block w.heap.size (Row.lt Z1) (by simp; omega)).trans Z1
    have hzl := Row.lt hz
    exact ⟨S2.below b, heap_alloc_new w2 _, T2.below b, grown_below G2 b, hc0, hp1, Row.below hz b, by omega⟩
  obtain ⟨g, cap, rfl, hg1, hg2, hcap, cur, hcur⟩ := T2.form hn1
  obtain ⟨c, hc⟩ : ∃ c, c = w2.heap.size := ⟨_, rfl⟩
  have hgc : g ≠ c := by omega
  have hcg : c ≠ g := by omega
  have hi0 : (0 : Int) < (n : Int) := by omega
  obtain ⟨y0, y1, y2, y3, yf⟩ := X2.known
  have XX2 := Lib.hid X2
  rw [← hc] at y0 y1 y2 y3
  clear X2 T2 S2 G2 yf hcur cur hg2
  go_wp2_with fail
  rw [← hc]
  have X2 := XX2.out
  rw [← hc] at X2
  refine (next_calls X2.1 (by omega)).mono ?_
  rintro e w3 ⟨q, rfl, q0, q1, _, S3, hg3⟩
  have X3 := X2.drawn S3 hg3
  have hq := q1 (by omega)
  clear XX2 X2 S3 hg3 y0 y1 y2 y3 q1 hc hg1 Z1 S1
  obtain ⟨W, hW⟩ : ∃ W, W = w3 := ⟨_, rfl⟩
  rw [← hW] at X3 ⊢
  clear hW
  obtain ⟨y0, y1, y2, y3, yf⟩ := X3.known
  have f0 := yf 0
  have f1 := yf 1
  have f2 := yf 2
  obtain ⟨⟨u0, t0⟩, tf0⟩ := X3.2.2.1.cells (i := 0) (by omega)
  obtain ⟨⟨u1, t1⟩, tf1⟩ := X3.2.2.1.cells (i := 1) (by omega)
  have gl := World.block_lt_of_cell? _ _ t0
  have pl := X3.1.lt
  clear yf
  by_cases c0 : q = 0
  · subst c0
    go_wp2_with fail
    refine (pick_calls ((X3).alloc _).1 (by omega) (Ints.lit (n := 3) (xs := [0, 1, 41]) (by simp) rfl) (by omega) (by omega) (by simp; omega)).mono ?_
    rintro e w4 ⟨x, rfl, _, S4, hg4⟩
    have X4 := ((X3).alloc _).drawn S4 hg4
    obtain ⟨z0, z1, z2, z3, zf⟩ := X4.known
    have zf0 := zf 0
    have X5 := X4.setF x
    have hz := X5.2.2.2.2.2.2.1
    have XX := Lib.hid X5
    clear X3 X4 X5 S4 hg4 zf y1 y2 y3 f0 f1 f2
    go_wp2_with (first
      | (refine wpList_store_row rfl 26 _ _ rfl w.heap.size _ rfl rfl _ _ hz (by kernel_rfl) (by rfl) (by simp [Value.oneCell']) ?_))
    refine bodyPost_ret (results_cell_row rfl _ _ w.heap.size _ _ _ _ rfl (setRow_heap _ _ _ _ _ _ hz) Try.underlying26 rfl (by kernel_rfl)) rfl ?_
    exact drawn_done XX.out HB.out hr0 hpw (by omega) _
  have b0 : (q == 0) = false := by simpa using c0
  clear c0
  by_cases c1 : q = 1
  · subst c1
    go_wp2_with fail
    refine (pick_calls ((X3).alloc _).1 (by omega) (Ints.lit (n := 3) (xs := [0, 1, 9]) (by simp) rfl) (by omega) (by omega) (by simp; omega)).mono ?_
    rintro e w4 ⟨x, rfl, _, S4, hg4⟩
    have X4 := ((X3).alloc _).drawn S4 hg4
    obtain ⟨z0, z1, z2, z3, zf⟩ := X4.known
    have zf0 := zf 1
    have X5 := X4.setC x
    have hz := X5.2.2.2.2.2.2.1
    have XX := Lib.hid X5
    clear X3 X4 X5 S4 hg4 zf y1 y2 y3 f0 f1 f2
    go_wp2_with (first
      | (refine wpList_store_row rfl 26 _ _ rfl w.heap.size _ rfl rfl _ _ hz (by kernel_rfl) (by rfl) (by simp [Value.oneCell']) ?_))
    refine bodyPost_ret (results_cell_row rfl _ _ w.heap.size _ _ _ _ rfl (setRow_heap _ _ _ _ _ _ hz) Try.underlying26 rfl (by kernel_rfl)) rfl ?_
    exact drawn_done XX.out HB.out hr0 hpw (by omega) _
  have b1 : (q == 1) = false := by simpa using c1
  clear c1
  by_cases c2 : q = 2
  · subst c2
    go_wp2_with fail
    refine (pick_calls ((X3).alloc _).1 (by omega) (Ints.lit (n := 2) (xs := [0, 3]) (by simp) rfl) (by omega) (by omega) (by simp; omega)).mono ?_
    rintro e w4 ⟨x, rfl, _, S4, hg4⟩
    have X4 := ((X3).alloc _).drawn S4 hg4
    obtain ⟨z0, z1, z2, z3, zf⟩ := X4.known
    obtain ⟨⟨v1, k1⟩, kf1⟩ := X4.2.2.1.cells (i := 1) (by omega)
    have X5 := X4.row (by omega) (grown_set w4 ⟨g, 1, none⟩ (.int .i64 x)) (X4.2.2.1.setCpu (by omega) x)
    have hz := X5.2.2.2.2.2.2.1
    have XX := Lib.hid X5
    obtain ⟨k5, k6, k7, k8, _⟩ := X5.known
    clear X3 X4 X5 S4 hg4 zf y1 y2 y3 f0 f1 f2 t0 t1 tf0 tf1 k5
    go_wp2_with (first
      | (refine wpList_store_row rfl 26 _ _ rfl w.heap.size _ rfl rfl _ _ hz (by kernel_rfl) (by rfl) (by simp [Value.oneCell']) ?_))
    refine bodyPost_ret (results_cell_row rfl _ _ w.heap.size _ _ _ _ rfl (setRow_heap _ _ _ _ _ _ hz) Try.underlying26 rfl (by kernel_rfl)) rfl ?_
    exact drawn_done XX.out HB.out hr0 hpw (by omega) _
  have b2 : (q == 2) = false := by simpa using c2
  clear c2
  by_cases c3 : q = 3
  · subst c3
    go_wp2_with fail
    refine (pick_calls ((X3).alloc _).1 (by omega) (Ints.lit (n := 3) (xs := [-1, 0, 8]) (by simp) rfl) (by omega) (by omega) (by simp; omega)).mono ?_
    rintro e w4 ⟨x, rfl, _, S4, hg4⟩
    have X4 := ((X3).alloc _).drawn S4 hg4
    have pl4 := X4.1.lt
    go_wp2_with fail
    refine (pick_calls ((X4).alloc _).1 (by omega) (Ints.lit (n := 3) (xs := [1, 0, 2]) (by simp) rfl) (by omega) (by omega) (by simp; omega)).mono ?_
    rintro e w5 ⟨z, rfl, _, S5, hg5⟩
    have X5 := ((X4).alloc _).drawn S5 hg5
    obtain ⟨z0, z1, z2, z3, zf⟩ := X5.known
    obtain ⟨⟨v1, k1⟩, kf1⟩ := X5.2.2.1.cells (i := 0) (by omega)
    have kl := World.block_lt_of_cell? _ _ k1
    have L := Lits.new (w := w5) (xs := [x, z]) rfl rfl
    have T := (X5.alloc (.cells #[.int .i64 x, .int .i64 z] 2)).2.2.1.setCol (by omega) L (Nat.le_refl _) (Nat.le_refl _)
    have X6 := (X5.alloc (.cells #[.int .i64 x, .int .i64 z] 2)).row (by omega) (grown_set _ ⟨g, 0, none⟩ _) T
    rw [World.setCell_alloc_past _ _ _ _ kl] at X6
    have hz := X6.2.2.2.2.2.2.1
    have XX := Lib.hid X6
    clear X3 X4 X5 X6 S4 S5 hg4 hg5 zf y1 y2 y3 f0 f1 f2 t0 t1 tf0 tf1 L T
    go_wp2_with (first
      | (refine wpList_store_row rfl 26 _ _ rfl w.heap.size _ rfl rfl _ _ hz (by kernel_rfl) (by rfl) (by simp [Value.oneCell']) ?_))
    refine bodyPost_ret (results_cell_row rfl _ _ w.heap.size _ _ _ _ rfl (setRow_heap _ _ _ _ _ _ hz) Try.underlying26 rfl (by kernel_rfl)) rfl ?_
    exact drawn_done XX.out HB.out hr0 hpw (by omega) _
  have b3 : (q == 3) = false := by simpa using c3
  clear c3
  by_cases c4 : q = 4
  · subst c4
    have hinfo : (Try.prog.info? 67).map (fun i => (i.zero, i.size, i.bytes)) = some (some (.agg #[.slice none 0 0, .int .i64 0]), 2, 32) := by kernel_rfl
    obtain ⟨i0, hi, hz0, hz1, hz2⟩ := info_parts hinfo
    have hlen := Lib.hid X3.2.2.1.1.1
    have hone := Lib.hid X3.2.2.1.oneCell
    have hcl := Lib.hid (fun j u (hu : tc[j]? = some u) => show W.cell? ((⟨g, 0, none⟩ : Addr).add j) = some u by
      have hj := (List.getElem?_eq_some_iff.1 hu).1
      rw [Addr.add_mid, Nat.zero_add, X3.2.2.1.1.cellAt j (by have := hlen.out; omega)]; exact hu)
    clear hinfo
    go_wp2_with (first
      | (at_builtin; go_must (refine wpList_append_lies _ (by rfl) _ _ 24 (by rfl) w1.heap.size 67 i0 (.agg #[.slice none 0 0, .int .i64 0]) 2 32 Try.underlying24 hi hz0 hz1 hz2 (by rfl) (by omega) (.slice (some ⟨g, 0, none⟩) n cap) n tc (by rfl) X3.2.2.1.1 ⟨g, 0, none⟩ n cap tc (by rfl) hlen.out hcl.out hone.out (by omega) (by simp only [maxLen]; omega) (by omega) X3.2.2.2.1.size _ rfl ?_); intro g3 cap3 w10 hown hgrow hat hlt; obtain ⟨X10, z10, f10, w.heap.size', r1', r2'⟩ := CfgSt.appended X3 (by omega) hgrow hown X3.2.2.1.2; have hz := X10.2.2.2.2.2.2.1; have XX := Lib.hid X10; clear X10 hown hgrow hat)
      | (refine wpList_store_row rfl 26 _ _ rfl w.heap.size _ rfl rfl _ _ hz (by kernel_rfl) (by rfl) (by simp [Value.oneCell']) ?_))
    refine bodyPost_ret (results_cell_row rfl _ _ w.heap.size _ _ _ _ rfl (setRow_heap _ _ _ _ _ _ hz) Try.underlying26 rfl (by kernel_rfl)) rfl ?_
    exact drawn_done XX.out HB.out hr0 hpw (by omega) _
  have b4 : (q == 4) = false := by simpa using c4
  clear c4
  by_cases c5 : q = 5
  · subst c5
    have X5 := X3.setT (v' := .slice none 0 0) (n' := 0) (cells' := []) ⟨World.ownsRow_nil _ _ _ _, fun j hj => by omega⟩
    have hz := X5.2.2.2.2.2.2.1
    have XX := Lib.hid X5
    clear X3 X5
    go_wp2_with (first
      | (refine wpList_store_row rfl 26 _ _ rfl w.heap.size _ rfl rfl _ _ hz (by kernel_rfl) (by rfl) (by simp [Value.oneCell']) ?_))
    refine bodyPost_ret (results_cell_row rfl _ _ w.heap.size _ _ _ _ rfl (setRow_heap _ _ _ _ _ _ hz) Try.underlying26 rfl (by kernel_rfl)) rfl ?_
    exact drawn_done XX.out HB.out hr0 hpw (by omega) _
  have b5 : (q == 5) = false := by simpa using c5
  clear c5
  by_cases c6 : q = 6
  · subst c6
    have X5 := X3.row (by omega) (grown_set W ⟨g, 0, none⟩ (.slice none 0 0)) (X3.2.2.1.setCol (by omega) (Lits.none_ W) (Nat.le_refl _) (by omega))
    have hz := X5.2.2.2.2.2.2.1
    have XX := Lib.hid X5
    clear X3 X5
    go_wp2_with (first
      | (refine wpList_store_row rfl 26 _ _ rfl w.heap.size _ rfl rfl _ _ hz (by kernel_rfl) (by rfl) (by simp [Value.oneCell']) ?_))
    refine bodyPost_ret (results_cell_row rfl _ _ w.heap.size _ _ _ _ rfl (setRow_heap _ _ _ _ _ _ hz) Try.underlying26 rfl (by kernel_rfl)) rfl ?_
    exact drawn_done XX.out HB.out hr0 hpw (by omega) _
  have b6 : (q == 6) = false := by simpa using c6
  clear c6
  have hz := X3.2.2.2.2.2.2.1
  have XX := Lib.hid X3
  clear X3
  go_wp2_with (first
    | (refine wpList_store_row rfl 26 _ _ rfl w.heap.size _ rfl rfl _ _ hz (by kernel_rfl) (by rfl) (by simp [Value.oneCell']) ?_))
  refine bodyPost_ret (results_cell_row rfl _ _ w.heap.size _ _ _ _ rfl (setRow_heap _ _ _ _ _ _ hz) Try.underlying26 rfl (by kernel_rfl)) rfl ?_
  exact drawn_done XX.out HB.out hr0 hpw (by omega) _
end Go.Proofs.Ytmibekddapnaaaa
