/- The draws of chapter 2's laws: a config and a number. -/
import Derived.Test.YtmibekddapnaaaaDraw2c
namespace Go.Proofs.Ytmibekddapnaaaa
open Go.RowKit

theorem results_row_tmp {fn : Func} {p u : Tmp} {ty : TypeId} {P : Program} (h : fn.results = #[.cell p ty, .tmp u]) (tmps : Array Value) (w : World) (g : Nat) (t : TypeId) (cs : Array Value) (fr : Nat × Nat) (fs : Array Field)
    (hp : tmps.getD p undef = .pointer (some ⟨g, 0, none⟩)) (hg : w.heap[g]? = some (.cells cs t fr))
    (hu : P.underlying ty = some (.struct fs)) (hi : (P.info? ty).map (·.size) = some cs.size) :
    (results fn tmps).run P w = .ok (.tuple #[.agg cs, tmps.getD u undef]) w := by
  have hp' : tmps[p]?.getD undef = .pointer (some ⟨g, 0, none⟩) := by simpa using hp
  simp [results, h, hp', asAddr, run_loadVar_row w g t ty cs fr _ hg hu rfl hi]

/-- What a draw of a config and a number leaves. -/
def DrawnTwo (w : World) (e : Ending) (w' : World) : Prop := ∃ u f, e = .returned (.tuple #[u, .int .i64 f]) ∧ DrawnCfg w u w'
theorem DrawnCfg.below {w w1 w2 : World} {v : Value} (h : DrawnCfg w v w1) (hb : Below w1.heap.size w1 w2) : DrawnCfg w v w2 := by
  obtain ⟨F, C, v, n, B, tc, rfl, hT, hn, hB⟩ := h
  exact ⟨F, C, v, n, B, tc, rfl, hT.below hb, hn, hB.trans (hb.mono hB.size)⟩

set_option maxHeartbeats 800000 in
theorem drawColourOf_calls {ao : Option Addr} {nb cb : Nat} {bs : List Int} {w : World} (hb : Bytes w ao nb bs) (hn : nb ≤ 1048576) :
    Calls Try.prog 38 #[.slice ao nb cb] w (DrawnTwo w) := by
  go_enter Try.func38, Try.ntmps38
  go_wp2_with fail
  refine (drawConfigFault_calls (hb.below ((Below.refl _ _).alloc (Nat.le_refl _) _)) hn).mono ?_
  rintro e w1 ⟨u, rfl, F, C, v, n, Bs, tc, rfl, hT, hn6, hB⟩
  have hz := Row.new hB
  have B1 := below_past hB
  obtain ⟨va, vn, vc, rfl⟩ : ∃ a n c, v = .slice a n c := by obtain ⟨a, c, _, h, _⟩ := hT.tens; exact ⟨a, _, c, h⟩
  have hs1 := hz.lt
  clear hB
  go_wp2_with fail
  refine (later_calls (k := 2) (hb.below B1) hn (by omega)).mono ?_
  rintro e w2 ⟨rfl, S2, B2⟩
  have hz2 := hz.below B2
  have hT2 := hT.below B2
  have hs2 := B2.size
  have sl := S2.lt
  go_wp2_with fail
  refine (pick_calls (S2.below ((Below.refl _ _).alloc (Nat.le_refl _) _)) (by omega) (Ints.lit (n := 7) (xs := [0, 1, 5, 7, 11, 40, -1]) (by simp) rfl) (by omega) (by omega) (by simp; omega)).mono ?_
  rintro e w3 ⟨x, rfl, _, _, hg3⟩
  have B3 : Below w1.heap.size w1 w3 := below_of_grown (B2.alloc B2.size _) hg3
  have hz3 := hz.below B3
  have F3 := Lib.hid (And.intro (hT.below B3) (B1.trans (B3.mono B1.size)))
  clear hg3 B2 S2 hT2 hz2 hT hz B3 B1
  go_wp2_with (refine wpList_store_row rfl 26 _ _ rfl w.heap.size _ rfl rfl _ _ hz3 (by kernel_rfl) (by rfl) (by simp [Value.oneCell']) ?_)
  refine bodyPost_ret (results_row_tmp rfl _ _ w.heap.size _ _ _ _ rfl (setRow_heap _ _ _ _ _ _ hz3) Try.underlying26 (by kernel_rfl)) rfl ?_
  exact ⟨_, _, rfl, F, C, _, n, Bs, tc, rfl, F3.out.1.kept (grown_setRow _ _ _) hz3 (by decide) (by decide), hn6, below_setRow F3.out.2 (Nat.le_refl _) _⟩

set_option maxHeartbeats 800000 in
theorem drawFramesFor_calls {ao : Option Addr} {nb cb : Nat} {bs : List Int} {w : World} (hb : Bytes w ao nb bs) (hn : nb ≤ 1048576) :
    Calls Try.prog 10 #[.slice ao nb cb] w (DrawnTwo w) := by
  go_enter Try.func10, Try.ntmps10
  go_wp2_with fail
  refine (drawConfigFault_calls (hb.below ((Below.refl _ _).alloc (Nat.le_refl _) _)) hn).mono ?_
  rintro e w1 ⟨u, rfl, F, C, v, n, Bs, tc, rfl, hT, hn6, hB⟩
  have hz := Row.new hB
  have B1 := below_past hB
  obtain ⟨va, vn, vc, rfl⟩ : ∃ a n c, v = .slice a n c := by obtain ⟨a, c, _, h, _⟩ := hT.tens; exact ⟨a, _, c, h⟩
  have hs1 := hz.lt
  clear hB
  go_wp2_with fail
  refine (later_calls (k := 2) (hb.below B1) hn (by omega)).mono ?_
  rintro e w2 ⟨rfl, S2, B2⟩
  have hz2 := hz.below B2
  have hT2 := hT.below B2
  have hs2 := B2.size
  have sl := S2.lt
  go_wp2_with fail
  refine (pick_calls (S2.below ((Below.refl _ _).alloc (Nat.le_refl _) _)) (by omega) (Ints.lit (n := 6) (xs := [0, 0, 1, 2, 3, -1]) (by simp) rfl) (by omega) (by omega) (by simp; omega)).mono ?_
  rintro e w3 ⟨x, rfl, _, _, hg3⟩
  have B3 : Below w1.heap.size w1 w3 := below_of_grown (B2.alloc B2.size _) hg3
  have hz3 := hz.below B3
  have F3 := Lib.hid (And.intro (hT.below B3) (B1.trans (B3.mono B1.size)))
  clear hg3 B2 S2 hT2 hz2 hT hz B3 B1
  go_wp2_with (refine wpList_store_row rfl 26 _ _ rfl w.heap.size _ rfl rfl _ _ hz3 (by kernel_rfl) (by rfl) (by simp [Value.oneCell']) ?_)
  refine bodyPost_ret (results_row_tmp rfl _ _ w.heap.size _ _ _ _ rfl (setRow_heap _ _ _ _ _ _ hz3) Try.underlying26 (by kernel_rfl)) rfl ?_
  exact ⟨_, _, rfl, F, C, _, n, Bs, tc, rfl, F3.out.1.kept (grown_setRow _ _ _) hz3 (by decide) (by decide), hn6, below_setRow F3.out.2 (Nat.le_refl _) _⟩

set_option maxHeartbeats 800000 in
theorem drawOwnerOf_calls {ao : Option Addr} {nb cb : Nat} {bs : List Int} {w : World} (hb : Bytes w ao nb bs) (hn : nb ≤ 1048576) :
    Calls Try.prog 12 #[.slice ao nb cb] w (DrawnTwo w) := by
  go_enter Try.func12, Try.ntmps12
  go_wp2_with fail
  refine (drawColourOf_calls (hb.below ((Below.refl _ _).alloc (Nat.le_refl _) _)) hn).mono ?_
  rintro e w1 ⟨u, f, rfl, F, C, v, n, Bs, tc, rfl, hT, hn6, hB⟩
  have hz := Row.new hB
  have B1 := below_past hB
  obtain ⟨va, vn, vc, rfl⟩ : ∃ a n c, v = .slice a n c := by obtain ⟨a, c, _, h, _⟩ := hT.tens; exact ⟨a, _, c, h⟩
  have F3 := Lib.hid (And.intro hT B1)
  clear hB hT B1
  go_wp2_with (refine wpList_store_row rfl 26 _ _ rfl w.heap.size _ rfl rfl _ _ hz (by kernel_rfl) (by rfl) (by simp [Value.oneCell']) ?_)
  refine bodyPost_ret (results_row_tmp rfl _ _ w.heap.size _ _ _ _ rfl (setRow_heap _ _ _ _ _ _ hz) Try.underlying26 (by kernel_rfl)) rfl ?_
  exact ⟨_, _, rfl, F, C, _, n, Bs, tc, rfl, F3.out.1.kept (grown_setRow _ _ _) hz (by decide) (by decide), hn6, below_setRow F3.out.2 (Nat.le_refl _) _⟩
end Go.Proofs.Ytmibekddapnaaaa
