/- Chapter 1 as the program has it, the second part: frames. -/
import Derived.Test.YtfhdcbahgddlhaaImpl1
namespace Go.Proofs.Ytfhdcbahgddlhaa
open Go.RowKit

set_option maxHeartbeats 400000 in
theorem frameAt_calls {a : Option Addr} {n c f : Nat} {xs : List Int} {w : World} (ha : Ints w a n xs) (hf : (f + 1) * 16 ≤ n) (hc : n ≤ c) (hx : n ≤ 17592186044416) :
    Calls Try.prog 48 #[.slice a n c, .int .i64 f] w fun e w' => e = .returned (.agg ((frameOf xs f).map (Value.int .i64)).toArray) ∧ Below w.heap.size w w' := by
  obtain ⟨b, off, rfl, hb, hcell⟩ := ha.2 (by omega)
  have HL := Lib.hid ha.1
  have hsa := fun w c' => run_arrayAt Try.prog w 53 2 16 Try.underlying53 (some ⟨b, off + f * 16, none⟩) (n - f * 16) c' (by omega)
  have hr : w.rangeAt b (off + f * 16) ((frameOf xs f).map (Value.int .i64)) := by
    intro j v hv
    rw [List.getElem?_map] at hv
    have hj : j < 16 := by
      rcases Nat.lt_or_ge j 16 with h | h
      · exact h
      · rw [List.getElem?_eq_none (by rw [length_frameOf (by rw [HL.out]; exact hf)]; exact h)] at hv; cases hv
    have hg := getD_frameOf (xs := xs) (f := f) hj
    rw [List.getElem?_eq_getElem (by rw [length_frameOf (by rw [HL.out]; exact hf)]; exact hj)] at hv
    simp at hv
    rw [Nat.add_assoc, hcell (f * 16 + j) (by omega), ← hg, ← hv]
    simp [List.getD, length_frameOf (show (f + 1) * 16 ≤ xs.length by rw [HL.out]; exact hf), hj]
  have hlf : ((frameOf xs f).map (Value.int .i64)).length = 16 := by rw [List.length_map, length_frameOf (by rw [HL.out]; exact hf)]
  have HR := Lib.hid hr
  have HLF := Lib.hid hlf
  clear hr hlf
  obtain ⟨cs, hcs⟩ : ∃ cs, cs = (frameOf xs f).map (Value.int .i64) := ⟨_, rfl⟩
  rw [← hcs] at HR HLF
  have hone : ∀ v ∈ cs, v.oneCell' = true := by rw [hcs]; exact ints_oneCell _ _
  rw [← hcs]
  have HO := Lib.hid hone
  have HSZ : Hid (cs.toArray.size = 16) := by have := HLF.out; simpa [Hid] using this
  clear hone hcs
  go_enter Try.func48, Try.ntmps48
  go_wp2_with (first
    | (with_reducible refine wpList_load_mid rfl 53 (.tmp 9) rfl b (off + f * 16) rfl cs _ (World.rangeAt_alloc HR.out _) Try.underlying53 rfl (by rw [HLF.out]; kernel_rfl) ?_)
    | (refine wpList_store_row rfl 53 (.tmp 4) (.tmp 10) rfl w.heap.size cs.toArray rfl rfl _ _ (heap_alloc_new _ _) (by rw [HSZ.out]; kernel_rfl) (by exact HSZ.out.symm) (all_oneCell_toArray HO.out) ?_))
  have hrow := setRow_heap (w.alloc (.cells [Value.int .i64 0, .int .i64 0, .int .i64 0, .int .i64 0, .int .i64 0, .int .i64 0, .int .i64 0, .int .i64 0, .int .i64 0, .int .i64 0, .int .i64 0, .int .i64 0, .int .i64 0, .int .i64 0, .int .i64 0, .int .i64 0].toArray 53)) w.heap.size _ cs.toArray _ _ (heap_alloc_new _ _)
  refine bodyPost_ret (results_cell_row rfl _ _ w.heap.size _ cs.toArray _ _ rfl hrow Try.underlying53 rfl (by rw [HSZ.out]; kernel_rfl)) rfl ⟨rfl, ?_⟩
  exact below_setRow ((Below.refl _ _).alloc (Nat.le_refl _) _) (Nat.le_refl _) _

theorem clone_calls {a : Option Addr} {n c : Nat} {xs : List Int} {w : World} (ha : Ints w a n xs) (h0 : 0 < n) (hx : n ≤ 17592186044416) :
    Calls Try.prog 53 #[.slice a n c] w (Makes w n xs) := by
  obtain ⟨i0, hi, hz0, hz1, hz2⟩ := info_parts info64
  obtain ⟨b, off, rfl, hb, hcell⟩ := ha.2 h0
  have HL := Lib.hid ha.1
  have HC := Lib.hid hcell
  clear hcell
  have hnil := fun u : World => Lib.run_eql_slice_nil (P := Try.prog) u 24 2 (some ⟨b, off, none⟩) n c 0 0 Try.underlying24
  have hlen : (xs.map (Value.int .i64)).length = n * 1 := by rw [List.length_map, HL.out]; omega
  have hnews : ∀ (o : Obj) j u, (xs.map (Value.int .i64))[j]? = some u → (w.alloc o).cell? ((⟨b, off, none⟩ : Addr).add j) = some u := by
    intro o j u hu
    rw [Addr.add_mid]
    have hj : j < n := by
      rcases Nat.lt_or_ge j n with h | h
      · exact h
      · rw [List.getElem?_eq_none (by rw [hlen]; omega)] at hu; cases hu
    rw [World.cell?_alloc_lt _ _ _ (by exact hb), HC.out j hj, ← hu]
    simp [List.getD, HL.out.symm ▸ hj]
  have hone := ints_oneCell .i64 xs
  have HN := Lib.hid hnews
  have HLen := Lib.hid hlen
  have HO := Lib.hid hone
  clear hnews hlen hone
  go_enter Try.func53, Try.ntmps53
  go_wp2_with (at_builtin; go_must (refine wpList_append_own _ rfl (.tmp 5) (.tmp 6) 24 rfl w.heap.size 2 i0 (.int .i64 0) 1 8 Try.underlying24 hi hz0 hz1 hz2 rfl (by decide) (.slice (some ⟨w.heap.size, 0, none⟩) 0 0) 0 [] rfl (World.ownsRow_made w #[] 0 (Nat.le_refl _) (Nat.zero_le _) rfl) ⟨b, off, none⟩ n c (xs.map (Value.int .i64)) rfl HLen.out (HN.out _) HO.out (by unfold maxLen; omega) (by omega) (by simp) ?_))
  intro v' w1 hown hg hnn
  have hb1 : Below w.heap.size w w1 := ((Below.refl _ _).alloc (Nat.le_refl _) _).grown hg (by simp) (by intro k hk; simp [Value.ownBlock] at hk; omega)
  have H1 : Hid (OwnI w1 w.heap.size v' n xs) := ⟨_, hown⟩
  clear hg hown hnn
  go_wp2
  go_ret
  exact ⟨_, rfl, H1.out, hb1⟩

theorem take_splice {α : Type} (L cs : List α) (off n : Nat) (h : off + cs.length ≤ n) : (splice L off cs).take n = splice (L.take n) off cs := by
  unfold splice
  rcases Nat.lt_or_ge L.length off with hL | hL
  · have h1 : L.take off = L := List.take_of_length_le (by omega)
    have h2 : L.take n = L := List.take_of_length_le (by omega)
    have h3 : L.drop (off + cs.length) = [] := List.drop_eq_nil_of_le (by omega)
    rw [h2, h1, h3, List.take_of_length_le (by simp; omega)]
  · rw [List.take_append, List.take_append, List.length_take, Nat.min_eq_left hL]
    rw [List.take_of_length_le (l := L.take off) (by simp; omega), List.take_take, Nat.min_eq_left (by omega), List.take_of_length_le (l := cs) (by omega), List.drop_take]
    congr 3
    omega
theorem map_splice {α β : Type} (g : α → β) (L cs : List α) (off : Nat) : (splice L off cs).map g = splice (L.map g) off (cs.map g) := by
  simp [splice, List.map_take, List.map_drop]

theorem withFrame_calls {a : Option Addr} {n c f : Nat} {xs page : List Int} {w : World} (ha : Ints w a n xs) (hf : (f + 1) * 16 ≤ n) (hp : page.length = 16) (hx : n ≤ 17592186044416) :
    Calls Try.prog 39 #[.slice a n c, .int .i64 f, .agg ((page.map (Value.int .i64)).toArray)] w (Makes w n (putFrame xs f page)) := by
  have HL := Lib.hid ha.1
  obtain ⟨cs, hcs⟩ : ∃ cs, cs = page.map (Value.int .i64) := ⟨_, rfl⟩
  have HCS : Hid (cs = page.map (Value.int .i64)) := hcs
  have HCL : Hid (cs.length = 16) := by rw [hcs, List.length_map]; exact hp
  have HCO : Hid (∀ v ∈ cs, v.oneCell' = true) := by rw [hcs]; exact ints_oneCell _ _
  rw [← hcs]
  clear hcs hp
  go_enter Try.func39, Try.ntmps39
  go_wp2_with fail
  refine (clone_calls (ha.alloc _) (by omega) hx).mono ?_
  rintro e w1 ⟨v, rfl, hown, hb1⟩
  have hb2 : Below w.heap.size w w1 := ((Below.refl _ _).alloc (Nat.le_refl _) _).trans (hb1.mono (by simp))
  obtain ⟨t, g, cap, cur, rfl, hg, hh, hnc, hcm, hcs, ht⟩ := hown.form (by omega)
  have hg : w.heap.size ≤ g := by have : (w.alloc (Obj.cells cs.toArray 53)).heap.size = w.heap.size + 1 := by simp
                                  omega
  have hsrc : w1.heap[w.heap.size]? = some (.cells cs.toArray 53 (0, 0)) := by
    rw [hb1.block _ (by simp)]; exact heap_alloc_new _ _
  have hh' : w1.heap[g]? = some (.cells cur.toList.toArray t (0, 0)) := by simpa using hh
  have HH := Lib.hid hh'
  have HT := Lib.hid ht
  have HB := Lib.hid hb2
  have HSRC : Hid (∀ j v, cs[j]? = some v → w1.cell? ((⟨w.heap.size, 0, none⟩ : Addr).add j) = some v) := by
    intro j v hv
    rw [Addr.add_mid, Nat.zero_add, cell_of_row w1 _ j _ _ _ hsrc]
    simpa using hv
  have HCU : Hid (cur.toList.length = cap) := by simpa [Hid] using hcs
  clear hb1 hown hsrc hh hh' ht hb2 hcs
  go_wp2_with fail
  have q1 : IntKind.i64.wrap ((f : Int) * 16) = (f : Int) * 16 := IntWalk.i64_in _ (by omega)
  have q2 : 0 ≤ (f : Int) * 16 := by omega
  have q3 : ((f : Int) * 16).toNat = f * 16 := by omega
  have q4 : (f : Int) * 16 ≤ n := by omega
  have q5 : ¬ cap = f * 16 := by omega
  go_region_law (refine step_copy_splice rfl (.tmp 13) (.tmp 14) 24 24 rfl 2 Try.underlying24 (by kernel_rfl) _ _ _ _ _ _ rfl rfl g (f * 16) cur.toList t HH.out cs (by rw [HCL.out]; exact (Nat.min_eq_left (by omega)).symm) (fun _ => ⟨by rfl, _, rfl, HSRC.out⟩) (by rw [HCL.out, HCU.out]; omega) HCO.out w.heap.size w HB.out.drew hg ?_; intro w4 hg4 hb4)
  all_goals
    have hh4 := hg4.out
    have HF : Hid (OwnI w4 w.heap.size (.slice (some ⟨g, 0, none⟩) n cap) n (putFrame xs f page)) := by
      have hcl := HCL.out
      have hcu := HCU.out
      refine OwnI.of_form hg hh4 hnc hcm ?_ ?_ ?_
      · rw [List.size_toArray, length_splice _ _ _ (by rw [hcl, hcu]; omega)]; exact hcu
      · rw [take_splice _ _ _ _ (by omega), HT.out, HCS.out, putFrame, map_splice]
      · have := HL.out
        rw [putFrame, length_splice _ _ _ (by have : page.length = 16 := by have := HCS.out; rw [this, List.length_map] at hcl; exact hcl
                                              omega)]
        exact this
    clear hh4 hg4
    go_wp2
    go_ret
    exact ⟨_, rfl, HF.out, hb4⟩
end Go.Proofs.Ytfhdcbahgddlhaa
