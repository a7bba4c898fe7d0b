/- The draw of a right config. -/
import Derived.Test.YtmibekddapnaaaaDraw2
import Derived.Deep.RegionLaw
import Derived.RegionTactic
namespace Go.Proofs.Ytmibekddapnaaaa
open Go.RowKit

/-- An empty config, as a result's block holds it at first. -/
def Zero (w : World) (r : Nat) : Prop := Row w r 26 #[.int .i64 0, .int .i64 0, .slice none 0 0]
theorem Zero.kept {w w' : World} {r g : Nat} {t : TypeId} {cs : Array Value} (h : Zero w r) (hg : w.grownBy w' (some g)) (hr : Row w g t cs) (ht : t ≠ 26) : Zero w' r := by
  refine (hg.block r (Row.lt h) (fun e => ?_)).trans h
  injection e with e
  subst e
  unfold Zero Row at h
  unfold Row at hr
  rw [hr] at h
  simp only [Option.some.injEq, Obj.cells.injEq] at h
  exact ht h.2.1

/-- While a config is drawn: the source in block p, the config in block c, its tenants in a row of their own, the result's block r; of what was there the source alone has turned. -/
def CfgSt (w0 w : World) (p k r c : Nat) (F C : Int) (v : Value) (n : Nat) (cells : List Value) : Prop :=
  Src w p k ∧ Row w c 26 #[.int .i64 F, .int .i64 C, v] ∧ TenRow w w0.heap.size v n cells ∧ w0.grownBy w (some p) ∧ w0.heap.size ≤ c ∧ p < w0.heap.size ∧ Zero w r ∧ r ≠ c

theorem new_at {w : World} {o : Obj} {b : Nat} (hb : b = w.heap.size) : (w.alloc o).heap[b]? = some o := by subst hb; exact heap_alloc_new w o
theorem Ints.drew {w : World} {ao : Option Addr} {n : Nat} {xs : List Int} (h : Ints w ao n xs) : Ints w.drew ao n xs := h
theorem Lits.drew {w : World} {ao : Option Addr} {n : Nat} {xs : List Int} (h : Lits w ao n xs) : Lits w.drew ao n xs := h.below (Below.refl _ _).drew
section
variable {w0 w w' : World} {p k k' r c n n' i g cap : Nat} {F C : Int} {v v' u : Value} {cells cells' : List Value}
theorem Src.row (h : Src w p k) : ∃ cs, Row w p 82 cs := by
  obtain ⟨ao, n, c, bs, h, _⟩ := h; exact ⟨_, h⟩
theorem CfgSt.drawn (h : CfgSt w0 w p k r c F C v n cells) (hs : Src w' p k') (hg : w.grownBy w' (some p)) : CfgSt w0 w' p k' r c F C v n cells := by
  obtain ⟨h1, h2, h3, h4, h5, h6, h7, h8⟩ := h
  obtain ⟨cs, hr⟩ := h1.row
  exact ⟨hs, (hg.block c h2.lt (by simp; omega)).trans h2, h3.kept hg hr (by decide) (by decide), grown_trans h4 hg, h5, h6, h7.kept hg hr (by decide), h8⟩
theorem grown_below {row : Option Nat} (h : w0.grownBy w row) (hb : Below w.heap.size w w') : w0.grownBy w' row :=
  grown_trans h ⟨hb.os, hb.tape, hb.output, hb.size, fun k hk _ => hb.block k hk⟩
theorem CfgSt.below (h : CfgSt w0 w p k r c F C v n cells) (hb : Below w.heap.size w w') : CfgSt w0 w' p k r c F C v n cells := by
  obtain ⟨h1, h2, h3, h4, h5, h6, h7, h8⟩ := h
  exact ⟨h1.below hb, h2.below hb, h3.below hb, grown_below h4 hb, h5, h6, Row.below h7 hb, h8⟩
theorem CfgSt.alloc (h : CfgSt w0 w p k r c F C v n cells) (o : Obj) : CfgSt w0 (w.alloc o) p k r c F C v n cells := h.below ((Below.refl _ _).alloc (Nat.le_refl _) o)
theorem CfgSt.drew (h : CfgSt w0 w p k r c F C v n cells) : CfgSt w0 w.drew p k r c F C v n cells := h.below (Below.refl _ _).drew
theorem CfgSt.drewN (h : CfgSt w0 w p k r c F C v n cells) (m : Nat) : CfgSt w0 (w.drewN m) p k r c F C v n cells := h.below (below_drewN (Below.refl _ _) m)
/-- The cells of the config. -/
theorem CfgSt.known (h : CfgSt w0 w p k r c F C v n cells) :
    c < w.heap.size ∧ w.cell? ⟨c, 0, none⟩ = some (.int .i64 F) ∧ w.cell? ⟨c, 1, none⟩ = some (.int .i64 C) ∧ w.cell? ⟨c, 2, none⟩ = some v ∧ ∀ i, w.frozen? ⟨c, i, none⟩ = false := by
  obtain ⟨h1, h2, _⟩ := h
  exact ⟨h2.lt, by rw [Row.cell h2 0]; rfl, by rw [Row.cell h2 1]; rfl, by rw [Row.cell h2 2]; rfl, fun i => frozen_of_row w c i _ _ h2⟩
/-- A store into the config. -/
theorem CfgSt.set_ (h : CfgSt w0 w p k r c F C v n cells) : Src (w.setCell ⟨c, i, none⟩ u) p k ∧ Row (w.setCell ⟨c, i, none⟩ u) c 26 (#[.int .i64 F, .int .i64 C, v].setIfInBounds i u) ∧ TenRow (w.setCell ⟨c, i, none⟩ u) w0.heap.size v n cells ∧ w0.grownBy (w.setCell ⟨c, i, none⟩ u) (some p) ∧ Zero (w.setCell ⟨c, i, none⟩ u) r := by
  obtain ⟨h1, h2, h3, h4, h5, h6, h7, h8⟩ := h
  have hg := grown_set w ⟨c, i, none⟩ u
  exact ⟨h1.apart hg (by show p < c; omega), heap_setCell_same w c i _ _ u h2, h3.kept hg h2 (by decide) (by decide), grown_new h4 hg h5, (hg.block r (Row.lt h7) (by simpa using h8)).trans h7⟩
theorem CfgSt.setF (h : CfgSt w0 w p k r c F C v n cells) (x : Int) : CfgSt w0 (w.setCell ⟨c, 0, none⟩ (.int .i64 x)) p k r c x C v n cells := by
  obtain ⟨h1, h2, h3, h4, h7⟩ := h.set_ (i := 0) (u := .int .i64 x)
  exact ⟨h1, h2, h3, h4, h.2.2.2.2.1, h.2.2.2.2.2.1, h7, h.2.2.2.2.2.2.2⟩
theorem CfgSt.setC (h : CfgSt w0 w p k r c F C v n cells) (x : Int) : CfgSt w0 (w.setCell ⟨c, 1, none⟩ (.int .i64 x)) p k r c F x v n cells := by
  obtain ⟨h1, h2, h3, h4, h7⟩ := h.set_ (i := 1) (u := .int .i64 x)
  exact ⟨h1, h2, h3, h4, h.2.2.2.2.1, h.2.2.2.2.2.1, h7, h.2.2.2.2.2.2.2⟩
theorem CfgSt.setT (h : CfgSt w0 w p k r c F C v n cells) (ht : TenRow w w0.heap.size v' n' cells') : CfgSt w0 (w.setCell ⟨c, 2, none⟩ v') p k r c F C v' n' cells' := by
  obtain ⟨h1, h2, h3, h4, h7⟩ := h.set_ (i := 2) (u := v')
  exact ⟨h1, h2, ht.kept (grown_set w ⟨c, 2, none⟩ v') h.2.1 (by decide) (by decide), h4, h.2.2.2.2.1, h.2.2.2.2.2.1, h7, h.2.2.2.2.2.2.2⟩
/-- A store into the row of tenants. -/
theorem CfgSt.row (h : CfgSt w0 w p k r c F C (.slice (some ⟨g, 0, none⟩) n cap) n cells) (hn : 0 < n) (hg : w.grownBy w' (some g)) (ht : TenRow w' w0.heap.size (.slice (some ⟨g, 0, none⟩) n cap) n cells') :
    CfgSt w0 w' p k r c F C (.slice (some ⟨g, 0, none⟩) n cap) n cells' := by
  obtain ⟨h1, h2, h3, h4, h5, h6, h7, h8⟩ := h
  obtain ⟨g', cap', he, hb, _, _, cur, hr⟩ := h3.form hn
  simp only [Value.slice.injEq, Option.some.injEq, Addr.mk.injEq, and_true, true_and] at he
  obtain ⟨rfl, rfl⟩ := he
  refine ⟨h1.apart hg (by omega), (hg.block c h2.lt (fun e => ?_)).trans h2, ht, grown_new h4 hg hb, h5, h6, h7.kept hg hr (by decide), h8⟩
  injection e with e
  subst e
  unfold Row at hr h2
  rw [hr] at h2
  simp only [Option.some.injEq, Obj.cells.injEq] at h2
  exact absurd h2.2.1 (by decide)
/-- The row appended to. -/
theorem CfgSt.append {cs : List Value} (h : CfgSt w0 w p k r c F C v n cells) (hn : 0 < n) (hg : w.grownBy w' v.ownBlock) (ho : w'.ownsRow w0.heap.size 67 2 v' (n + n') (cells ++ cs)) (hc : TenCells w n' cs) :
    Src w' p k ∧ Row w' c 26 #[.int .i64 F, .int .i64 C, v] ∧ w0.grownBy w' (some p) ∧ TenRow w' w0.heap.size v' (n + n') (cells ++ cs) ∧ Zero w' r := by
  obtain ⟨h1, h2, h3, h4, h5, h6, h7, h8⟩ := h
  obtain ⟨g, cap, rfl, hb, _, _, cur, hr⟩ := h3.form hn
  have hg' : w.grownBy w' (some g) := hg
  refine ⟨h1.apart hg' (by omega), (hg'.block c h2.lt (fun e => ?_)).trans h2, grown_new h4 hg' hb, ⟨ho, (h3.2.append h3.1.1 hc).kept hg' hr (by decide)⟩, h7.kept hg' hr (by decide)⟩
  injection e with e
  subst e
  unfold Row at hr h2
  rw [hr] at h2
  simp only [Option.some.injEq, Obj.cells.injEq] at h2
  exact absurd h2.2.1 (by decide)
/-- .. and told to the config. -/
theorem CfgSt.appended {cs : List Value} (h : CfgSt w0 w p k r c F C v n cells) (hn : 0 < n) (hg : w.grownBy w' v.ownBlock) (ho : w'.ownsRow w0.heap.size 67 2 v' (n + n') (cells ++ cs)) (hc : TenCells w n' cs) :
    CfgSt w0 (w'.setCell ⟨c, 2, none⟩ v') p k r c F C v' (n + n') (cells ++ cs) ∧ w'.cell? ⟨c, 2, none⟩ = some v ∧ w'.frozen? ⟨c, 2, none⟩ = false ∧ w'.cell? ⟨c, 0, none⟩ = some (.int .i64 F) ∧ w'.cell? ⟨c, 1, none⟩ = some (.int .i64 C) ∧ c < w'.heap.size := by
  obtain ⟨a1, a2, a3, a4, a5⟩ := h.append hn hg ho hc
  obtain ⟨h1, h2, h3, h4, h5, h6, h7, h8⟩ := h
  have hs := grown_set w' ⟨c, 2, none⟩ v'
  refine ⟨⟨a1.apart hs (by show p < c; omega), heap_setCell_same w' c 2 _ _ v' a2, a4.kept hs a2 (by decide) (by decide), grown_new a3 hs h5, h5, h6, (hs.block r (Row.lt a5) (by simpa using h8)).trans a5, h8⟩, by rw [Row.cell a2 2]; rfl, frozen_of_row w' c 2 _ _ a2, by rw [Row.cell a2 0]; rfl, by rw [Row.cell a2 1]; rfl, a2.lt⟩
end

theorem grown_setRow (w : World) (g : Nat) (cs : Array Value) : w.grownBy (w.setRow g cs) (some g) :=
  ⟨rfl, rfl, rfl, (by simp), fun k _ hne => setRow_other w g k cs (fun e => hne (by rw [e]))⟩
theorem CfgSt.done {w0 w : World} {p k r c n : Nat} {F C : Int} {v : Value} {tc : List Value} (h : CfgSt w0 w p k r c F C v n tc) (hpr : p < r) (hr : w0.heap.size ≤ r) (cs : Array Value) :
    Src (w.setRow r cs) p k ∧ TenRow (w.setRow r cs) w0.heap.size v n tc ∧ w0.grownBy (w.setRow r cs) (some p) := by
  obtain ⟨h1, h2, h3, h4, h5, h6, h7, h8⟩ := h
  have hg := grown_setRow w r cs
  exact ⟨h1.apart hg hpr, h3.kept hg h7 (by decide) (by decide), grown_new h4 hg hr⟩

/-- What a draw of a config leaves. -/
def DrawsCfg (w : World) (p k d N : Nat) (e : Ending) (w' : World) : Prop :=
  ∃ F C v n cells k', e = .returned (.agg #[.int .i64 F, .int .i64 C, v]) ∧ 1 ≤ n ∧ n ≤ N ∧ k' ≤ k + d ∧ Src w' p k' ∧ TenRow w' w.heap.size v n cells ∧ w.grownBy w' (some p)

theorem draws_done {w W : World} {p k k' c n d N : Nat} {F C : Int} {v : Value} {tc : List Value} (h : CfgSt w W p k' w.heap.size c F C v n tc) (hp : p < w.heap.size) (h1 : 1 ≤ n) (h3 : n ≤ N) (hk' : k' ≤ k + d) (cs : Array Value) :
    DrawsCfg w p k d N (.returned (.agg #[.int .i64 F, .int .i64 C, v])) (W.setRow w.heap.size cs) := by
  have hd := h.done hp (Nat.le_refl _) cs
  exact ⟨_, _, _, _, _, _, rfl, h1, h3, hk', hd.1, hd.2.1, hd.2.2⟩

set_option maxHeartbeats 1600000 in
theorem l2Config_calls {p k : Nat} {w : World} (hs : Src w p k) (hk : k ≤ 60000) :
    Calls Try.prog 55 #[.pointer (some ⟨p, 0, none⟩)] w (DrawsCfg w p k 20 3) := by
  have hp := hs.lt
  go_enter Try.func55, Try.ntmps55
  go_wp2_with fail
  refine (pick_calls ((hs.below ((Below.refl _ _).alloc (Nat.le_refl _) _)).below ((Below.refl _ _).alloc (Nat.le_refl _) _)) (by omega) (Ints.lit (n := 4) (xs := [6, 12, 20, 40]) (by simp) rfl) (by omega) (by omega) (by simp; omega)).mono ?_
  rintro e w1 ⟨F, rfl, hF, S1, hg1⟩
  have Z1 : Zero w1 w.heap.size := (hg1.block w.heap.size (by simp; omega) (by simp; omega)).trans ((heap_alloc_old _ _ (by simp)).trans (heap_alloc_new w _))
  have G1 := grown_trans (grown_trans (World.grownBy_alloc w (.cells #[.int .i64 0, .int .i64 0, .slice none 0 0] 26) (some p)) (World.grownBy_alloc _ _ (some p))) hg1
  have hp1 := S1.lt
  clear hg1 hF
  go_wp2_with fail
  refine (pick_calls (S1.below ((Below.refl _ _).alloc (Nat.le_refl _) _)) (by omega) (Ints.lit (n := 3) (xs := [3, 4, 8]) (by simp) rfl) (by omega) (by omega) (by simp; omega)).mono ?_
  rintro e w2 ⟨C, rfl, hC, S2, hg2⟩
  have Z2 : Zero w2 w.heap.size := Zero.kept (row_alloc Z1 _) hg2 (S1.below ((Below.refl _ _).alloc (Nat.le_refl _) _)).row.choose_spec (by decide)
  have G2 := grown_trans (grown_trans G1 (World.grownBy_alloc _ _ (some p))) hg2
  have hp2 := S2.lt
  have hs2 := G2.size
  have hz2 := Row.lt Z2
  clear hg2 hC S1 Z1 G1 hp1
  go_wp2_with fail
  refine (pick_calls (S2.below ((((Below.refl _ _).alloc (Nat.le_refl _) _).alloc (by simp) _).alloc (by simp; omega) _)) (by omega) (Ints.lit (n := 2) (xs := [1, 2]) (by simp) rfl) (by omega) (by omega) (by simp; omega)).mono ?_
  rintro e w3 ⟨P, rfl, hP, S3, hg3⟩
  have X : CfgSt w (((w2.alloc (.cells #[.int .i64 F, .int .i64 C, .slice none 0 0] 26)).alloc (.cells #[.int .i64 0] 2)).alloc (.cells #[.int .i64 1, .int .i64 2] 2)) p (k + 1 + 1) w.heap.size w2.heap.size F C (.slice none 0 0) 0 [] := by
    have b2 := (((Below.refl w2.heap.size w2).alloc (Nat.le_refl _) (.cells #[.int .i64 F, .int .i64 C, .slice none 0 0] 26)).alloc (by simp) (.cells #[.int .i64 0] 2)).alloc (by simp; omega) (.cells #[.int .i64 1, .int .i64 2] 2)
    refine ⟨S2.below b2, ?_, ⟨World.ownsRow_nil _ _ _ _, fun j hj => by omega⟩, grown_below G2 b2, by omega, hp, Row.below Z2 b2, by omega⟩
    exact row_alloc (row_alloc (heap_alloc_new w2 _) _) _
  have L0 : Lits (((w2.alloc (.cells #[.int .i64 F, .int .i64 C, .slice none 0 0] 26)).alloc (.cells #[.int .i64 0] 2)).alloc (.cells #[.int .i64 1, .int .i64 2] 2)) (some ⟨w2.heap.size + 1, 0, none⟩) 1 [0] :=
    (Lits.new (xs := [0]) (by simp) rfl).below ((Below.refl _ _).alloc (Nat.le_refl _) _)
  have L3 := L0.kept hg3 X.1.row.choose_spec (by decide)
  have X3 := X.drawn S3 hg3
  have T3 := TenRow.lit (cp := P) (B := w.heap.size) (b := w3.heap.size) (by have := X3.2.2.2.1.size; exact this) rfl L3 (Nat.le_refl _) (by omega)
  have X4 := (X3.alloc (.cells #[.slice (some ⟨w2.heap.size + 1, 0, none⟩) 1 1, .int .i64 P] 67)).setT T3
  obtain ⟨x0, x1, x2, x3, xf⟩ := X3.known
  rw [World.setCell_alloc_past _ _ _ _ x0] at X4
  have xf2 := xf 2
  have XX := Lib.hid X4
  clear X L0 L3 X3 X4 T3 S3 hg3 hP S2 Z2 G2 x1 x2 xf hp2 hs2 hz2
  obtain ⟨c, hc⟩ : ∃ c, c = w2.heap.size := ⟨_, rfl⟩
  obtain ⟨g, hg⟩ : ∃ g, g = w3.heap.size := ⟨_, rfl⟩
  go_upto_if 19 with (first
    | (go_at_call 61; refine (chance_calls XX.out.1 (by omega)).mono ?_; rintro e w5 ⟨b5, rfl, S5, hg5⟩))
  have X5 := XX.out.drawn S5 hg5
  rw [← hc, ← hg] at X5 ⊢
  clear XX S5 hg5 x0 x3 xf2 hc hg
  go_cut [3] (fun s3 wx => s3 = .pointer (some ⟨c, 0, none⟩) ∧ ∃ cells, CfgSt w wx p (k + 4) w.heap.size c F C (.slice (some ⟨g, 0, none⟩) 1 1) 1 cells)
  case first =>
    rcases b5 with _ | _
    · have XX := Lib.hid X5
      clear X5
      go_wp2_with fail
      go_meet
      case rel => exact ⟨rfl, _, XX.out⟩
    · obtain ⟨y0, y1, y2, y3, yf⟩ := X5.known
      obtain ⟨⟨u, z0⟩, zf⟩ := X5.2.2.1.cells (i := 0) (by omega)
      have zl := World.block_lt_of_cell? _ _ z0
      have L := Lits.new (w := w5) (xs := [0, 2]) rfl rfl
      have T := (X5.alloc (.cells #[.int .i64 0, .int .i64 2] 2)).2.2.1.setCol (by omega) L (Nat.le_refl _) (Nat.le_refl _)
      have X6 := (X5.alloc (.cells #[.int .i64 0, .int .i64 2] 2)).row (by omega) (grown_set _ ⟨g, 0, none⟩ _) T
      rw [World.setCell_alloc_past _ _ _ _ zl] at X6
      have XX := Lib.hid X6
      clear X5 L T X6 yf y1 y2
      go_wp2_with fail
      go_meet
      case rel => exact ⟨rfl, _, XX.out⟩
  case rest =>
    obtain ⟨rfl, cells, X5⟩ := hcut
    go_upto_if 27 with (first
      | (go_at_call 61; refine (chance_calls X5.1 (by omega)).mono ?_; rintro e w6 ⟨b6, rfl, S6, hg6⟩))
    have X6 := X5.drawn S6 hg6
    clear X5 S6 hg6
    go_cut [3] (fun s3 wx => s3 = .pointer (some ⟨c, 0, none⟩) ∧ ∃ v n cells, (n = 1 ∨ n = 2) ∧ ∃ kk, kk ≤ k + 6 ∧ CfgSt w wx p kk w.heap.size c F C v n cells)
    case first =>
      rcases b6 with _ | _
      · obtain ⟨y0, y1, y2, y3, yf⟩ := X6.known
        have hpw := X6.1.lt
        have hinfo : (Try.prog.info? 67).map (fun i => (i.zero, i.size, i.bytes)) = some (some (.agg #[.slice none 0 0, .int .i64 0]), 2, 32) := by kernel_rfl
        obtain ⟨i0, hi, hz0, hz1, hz2⟩ := info_parts hinfo
        clear y1 y2 yf hinfo
        go_wp2_with fail
        go_region_law (first
            | (go_simp; go_at_call 33; refine (pick_calls (k := k + 4 + 1) (by first | exact ((X6.alloc _).alloc _).drew.1 | exact (X6.alloc _).drew.1) (by omega) (by first | exact (Ints.lit (n := 2) (xs := [1, 2]) (by simp) rfl).drew | exact ((Ints.lit (n := 2) (xs := [1, 2]) rfl rfl).alloc _).drew) (by omega) (by omega) (by simp; omega)).mono ?_; rintro e w7 ⟨P2, rfl, hP2, S7, hg7⟩; have X7 := CfgSt.drawn (by first | exact ((X6.alloc _).alloc _).drew | exact (X6.alloc _).drew) S7 hg7; have hS' := X7.known.2.2.2.1; have hl7 := X7.known.1; (first | (have LA : Lits w7 (some ⟨w6.heap.size, 0, none⟩) 1 [1] := (((Lits.new (w := w6) (xs := [1]) rfl rfl).below ((Below.refl _ _).alloc (Nat.le_refl _) _)).drew).kept hg7 (((X6.alloc _).alloc _).drew.1.row.choose_spec) (by decide)) | (have LB : Lits w7 (some ⟨w6.heap.size + 1, 0, none⟩) 1 [1] := ((Lits.new (w := w6.alloc (.cells #[.int .i64 1, .int .i64 2] 2)) (xs := [1]) (by simp) rfl).drew).kept hg7 (((X6.alloc _).alloc _).drew.1.row.choose_spec) (by decide)) | skip))
            | (refine step_append_lies _ (by rfl) _ _ 24 (by rfl) w.heap.size 67 i0 (.agg #[.slice none 0 0, .int .i64 0]) 2 32 Try.underlying24 hi hz0 hz1 hz2 (by rfl) (by omega) (.slice (some ⟨g, 0, none⟩) 1 1) 1 cells (by rfl) (X7.alloc _).2.2.1.1 ⟨w7.heap.size, 0, none⟩ 1 1 [.slice (some ⟨w6.heap.size, 0, none⟩) 1 1, .int .i64 P2] (by rfl) (by rfl) (World.news_of_block (new_at (by simp))) (by simp [Value.oneCell']) (by omega) (by simp [maxLen]) (by omega) (X7.alloc _).2.2.2.1.size _ rfl ?_; intro g2 cap2 w8 hown8 hgrow8 hat8 hlt8; have X8 := CfgSt.appended (X7.alloc _) (by omega) hgrow8 hown8 (TenCells.one (LA.below ((Below.refl _ _).alloc (Nat.le_refl _) _)) (Nat.le_refl _) (by omega)); obtain ⟨X8, z8, f8, _, _, _⟩ := X8)
            | (refine step_append_lies _ (by rfl) _ _ 24 (by rfl) w.heap.size 67 i0 (.agg #[.slice none 0 0, .int .i64 0]) 2 32 Try.underlying24 hi hz0 hz1 hz2 (by rfl) (by omega) (.slice (some ⟨g, 0, none⟩) 1 1) 1 cells (by rfl) (X7.alloc _).2.2.1.1 ⟨w7.heap.size, 0, none⟩ 1 1 [.slice (some ⟨w6.heap.size + 1, 0, none⟩) 1 1, .int .i64 P2] (by rfl) (by rfl) (World.news_of_block (new_at (by simp))) (by simp [Value.oneCell']) (by omega) (by simp [maxLen]) (by omega) (X7.alloc _).2.2.2.1.size _ rfl ?_; intro g2 cap2 w8 hown8 hgrow8 hat8 hlt8; have X8 := CfgSt.appended (X7.alloc _) (by omega) hgrow8 hown8 (TenCells.one (LB.below ((Below.refl _ _).alloc (Nat.le_refl _) _)) (Nat.le_refl _) (by omega)); obtain ⟨X8, z8, f8, _, _, _⟩ := X8)
            | (refine step_append_lies _ (by rfl) _ _ 24 (by rfl) w.heap.size 67 i0 (.agg #[.slice none 0 0, .int .i64 0]) 2 32 Try.underlying24 hi hz0 hz1 hz2 (by rfl) (by omega) (.slice (some ⟨g, 0, none⟩) 1 1) 1 cells (by rfl) ((X7.alloc _).alloc _).2.2.1.1 ⟨w7.heap.size + 1, 0, none⟩ 1 1 [.slice (some ⟨w7.heap.size, 0, none⟩) 1 1, .int .i64 P2] (by rfl) (by rfl) (World.news_of_block (new_at (by simp))) (by simp [Value.oneCell']) (by omega) (by simp [maxLen]) (by omega) ((X7.alloc _).alloc _).2.2.2.1.size _ rfl ?_; intro g2 cap2 w8 hown8 hgrow8 hat8 hlt8; have X8 := CfgSt.appended ((X7.alloc _).alloc _) (by omega) hgrow8 hown8 (TenCells.one ((Lits.new (w := w7) (xs := [1]) rfl rfl).below ((Below.refl _ _).alloc (Nat.le_refl _) _)) (Nat.le_refl _) (by omega)); obtain ⟨X8, z8, f8, _, _, _⟩ := X8))
        all_goals
          have XX := Lib.hid X8
          clear X8
          go_wp2_with fail
          go_meet
          exact ⟨rfl, _, 2, _, .inr rfl, _, by omega, XX.out⟩
      · have XX := Lib.hid X6
        clear X6
        go_wp2_with fail
        go_meet
        case rel => exact ⟨rfl, _, 1, _, .inl rfl, _, by omega, XX.out⟩
    case rest =>
      obtain ⟨rfl, v, n, cells, hn, kk, hkk, X⟩ := hcut
      have hn0 : 0 < n := by omega
      obtain ⟨g2, cap, rfl, hg2, hg2l, hcap, _⟩ := X.2.2.1.form hn0
      obtain ⟨y0, y1, y2, y3, yf⟩ := X.known
      have f2 := yf 2
      clear yf
      rcases hn with rfl | rfl
      · have hz := X.2.2.2.2.2.2.1
        have XX := Lib.hid X
        clear X
        go_wp2_with (refine wpList_store_row rfl 26 _ _ rfl w.heap.size _ rfl rfl _ _ hz (by kernel_rfl) (by rfl) (by simp [Value.oneCell']) ?_)
        refine bodyPost_ret (results_cell_row rfl _ _ w.heap.size _ _ _ _ rfl (setRow_heap _ _ _ _ _ _ hz) Try.underlying26 rfl (by kernel_rfl)) rfl ?_
        exact draws_done XX.out hp (by omega) (by omega) (by omega) _
      · by_cases hC3 : 3 < C
        rotate_left
        · have hz := X.2.2.2.2.2.2.1
          have XX := Lib.hid X
          clear X
          go_wp2_with (refine wpList_store_row rfl 26 _ _ rfl w.heap.size _ rfl rfl _ _ hz (by kernel_rfl) (by rfl) (by simp [Value.oneCell']) ?_)
          refine bodyPost_ret (results_cell_row rfl _ _ w.heap.size _ _ _ _ rfl (setRow_heap _ _ _ _ _ _ hz) Try.underlying26 rfl (by kernel_rfl)) rfl ?_
          exact draws_done XX.out hp (by omega) (by omega) (by omega) _
        · have hC4 : decide (3 < C) = true := by simpa using hC3
          go_wp2_with fail
          refine (chance_calls X.1 (by omega)).mono ?_
          rintro e w9 ⟨b9, rfl, S9, hg9⟩
          have X9 := X.drawn S9 hg9
          clear X S9 hg9 y1 y2 y3 f2
          rcases b9 with _ | _
          · obtain ⟨y0, y1, y2, y3, yf⟩ := X9.known
            have hz := X9.2.2.2.2.2.2.1
            have XX := Lib.hid X9
            clear X9 yf
            go_wp2_with (refine wpList_store_row rfl 26 _ _ rfl w.heap.size _ rfl rfl _ _ hz (by kernel_rfl) (by rfl) (by simp [Value.oneCell']) ?_)
            refine bodyPost_ret (results_cell_row rfl _ _ w.heap.size _ _ _ _ rfl (setRow_heap _ _ _ _ _ _ hz) Try.underlying26 rfl (by kernel_rfl)) rfl ?_
            exact draws_done XX.out hp (by omega) (by omega) (by omega) _
          · obtain ⟨y0, y1, y2, y3, yf⟩ := X9.known
            have hinfo : (Try.prog.info? 67).map (fun i => (i.zero, i.size, i.bytes)) = some (some (.agg #[.slice none 0 0, .int .i64 0]), 2, 32) := by kernel_rfl
            obtain ⟨i0, hi, hz0, hz1, hz2⟩ := info_parts hinfo
            have L9 := ((Lits.new (w := w9) (xs := [3]) rfl rfl).below ((Below.refl _ _).alloc (Nat.le_refl _) (.cells #[.slice (some ⟨w9.heap.size, 0, none⟩) 1 1, .int .i64 1] 67)))
            clear hinfo yf
            go_wp2_with (first
              | (at_builtin; go_must (refine wpList_append_lies _ (by rfl) _ _ 24 (by rfl) w.heap.size 67 i0 (.agg #[.slice none 0 0, .int .i64 0]) 2 32 Try.underlying24 hi hz0 hz1 hz2 (by rfl) (by omega) (.slice (some ⟨g2, 0, none⟩) 2 cap) 2 cells (by rfl) ((X9.alloc _).alloc _).2.2.1.1 ⟨w9.heap.size + 1, 0, none⟩ 1 1 [.slice (some ⟨w9.heap.size, 0, none⟩) 1 1, .int .i64 1] (by rfl) (by rfl) (World.news_of_block (new_at (by simp))) (by simp [Value.oneCell']) (by omega) (by simp [maxLen]) (by omega) ((X9.alloc _).alloc _).2.2.2.1.size _ rfl ?_); intro g3 cap3 w10 hown hgrow hat hlt; obtain ⟨X10, z10, f10, q0, q1, q2⟩ := CfgSt.appended ((X9.alloc _).alloc _) (by omega) hgrow hown (TenCells.one L9 (Nat.le_refl _) (by omega)); have X10 : CfgSt w (w10.setCell ⟨c, 2, none⟩ (.slice (some ⟨g3, 0, none⟩) 3 cap3)) p _ w.heap.size c F C (.slice (some ⟨g3, 0, none⟩) 3 cap3) 3 _ := X10; have hz := X10.2.2.2.2.2.2.1; have XX := Lib.hid X10; clear X10 hown hgrow hat)
              | (refine wpList_store_row rfl 26 _ _ rfl w.heap.size _ rfl rfl _ _ hz (by kernel_rfl) (by rfl) (by simp [Value.oneCell']) ?_))
            refine bodyPost_ret (results_cell_row rfl _ _ w.heap.size _ _ _ _ rfl (setRow_heap _ _ _ _ _ _ hz) Try.underlying26 rfl (by kernel_rfl)) rfl ?_
            exact draws_done XX.out hp (by omega) (by omega) (by omega) _
end Go.Proofs.Ytmibekddapnaaaa
