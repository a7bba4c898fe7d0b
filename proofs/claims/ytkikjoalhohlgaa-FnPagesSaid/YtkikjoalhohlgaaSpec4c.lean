/- Chapter 4 of the model: copies of pages. -/
import Derived.Test.YtkikjoalhohlgaaSpec4b
import Derived.Test.YtkikjoalhohlgaaApp
namespace Go.Proofs.Ytkikjoalhohlgaa
open Go.RowKit

theorem infoPage : (Try.prog.info? 45).map (fun i => (i.zero, i.size, i.bytes)) = some (some (.agg #[.int .i64 0, .int .i64 0, .slice none 0 0, .int .i64 0]), 4, 48) := by kernel_rfl
theorem one_page : OneC KPage := one_map _ (one_pair one_int (one_pair one_int (one_pair (one_slice _ _) one_int)))
/-- An empty slice in a new block. -/
theorem Own.empty {α : Type} {K : Lay α} {t : TypeId} {w : World} {S : Nat → Prop} {b : Nat} (hr : Row w b t #[]) (hS : S b) : Own K t w S (.slice (some ⟨b, 0, none⟩) 0 0) 0 [] :=
  ⟨rfl, .inr ⟨b, 0, #[], fun _ _ => False, rfl, hS, hr, Nat.le_refl _, Nat.zero_le _, by simp, fun _ _ h => h.elim, fun _ _ _ h => h.elim, fun j x hj => by simp at hj⟩⟩

set_option maxRecDepth 100000 in
set_option maxHeartbeats 1000000 in
theorem l4Copy_calls {ao : Option Addr} {n cc : Nat} {ps : List Pg} {S : Nat → Prop} {w : World} (hT : Lst KPage w S ao n ps) (hS : ShortP 17592186044416 ps) (hn : n ≤ 1048576) :
    Calls Try.prog 71 #[.slice ao n cc] w fun e w' => ∃ v, e = .returned v ∧ Own KPage 45 w' (fun k => w.heap.size ≤ k) v n ps ∧ Below w.heap.size w w' := by
  obtain ⟨ip, hip, hp0, hp1, hp2⟩ := info_parts infoPage
  obtain ⟨ib, hib, hb0, hb1, hb2⟩ := info_parts infoBool
  have HL := Lib.hid hT.1
  have HS := Lib.hid hS
  go_enter Try.func71, Try.ntmps71
  go_wp2_with fail
  have hown0 : Own KPage 45 (w.alloc (.cells #[] 45)) (fun k => w.heap.size ≤ k) (.slice (some ⟨w.heap.size, 0, none⟩) 0 0) 0 (ps.take 0) := by
    rw [List.take_zero]; exact Own.empty (heap_alloc_new _ _) (Nat.le_refl _)
  go_loopw [3, 4, 5] (fun v i _ wr => ∃ k : Nat, k ≤ n ∧ i = .int .i64 k ∧ Own KPage 45 wr (fun k => w.heap.size ≤ k) v k (ps.take k) ∧ Below w.heap.size w wr) (fun _ i _ _ => n - (intOf i).toNat)
  case atStart => exact ⟨0, Nat.zero_le _, rfl, hown0, (Below.refl _ _).alloc (Nat.le_refl _) _⟩
  case round =>
    clear hown0
    obtain ⟨k, hk, rfl, hO, hbw⟩ := hrel
    by_cases hlt : k < n
    · obtain ⟨b, off, p, a, l, c, rfl, d0, hp, e0, e1, e2, e3, hlc, hcm, hu⟩ := (hT.below hbw).pg_at hlt
      have HP := Lib.hid hp
      have hl : l ≤ 17592186044416 := by have := HS.out.at_ hp; have := hu.1; omega
      clear hp hcm
      obtain ⟨g, hg⟩ : ∃ g, g = wr.heap.size := ⟨_, rfl⟩
      have HG := Lib.hid hg
      have hE : Own KBool 4 ((wr.alloc (.cells #[.int .i64 p.kind, .int .i64 p.cls, .slice a l c, .int .i64 p.run] 45)).alloc (.cells #[] 4)) (fun q => q = wr.heap.size + 1) (.slice (some ⟨wr.heap.size + 1, 0, none⟩) 0 0) 0 [] :=
        Own.empty (by have := heap_alloc_new (wr.alloc (.cells #[.int .i64 p.kind, .int .i64 p.cls, .slice a l c, .int .i64 p.run] 45)) (.cells #[] 4); simpa [Row] using this) rfl
      clear hg
      go_wp2_with (first
        | (at_builtin
           refine wpList_append_flat (K := KBool) rfl (.tmp 17) (.tmp 19) 43 rfl 4 ib (.bool false) 1 Try.underlying43 hib hb0 hb1 hb2 rfl (by decide) flat_bool one_bool (v := .slice (some ⟨wr.heap.size + 1, 0, none⟩) 0 0) (n := 0) (ao := a) (m := l) (c := c) rfl hE rfl ((hu.alloc _).alloc _) (by unfold maxLen; omega) (by omega) ?_
           intro v1 w1 ho1 ht1
           have hr1 : Row w1 wr.heap.size 45 #[.int .i64 p.kind, .int .i64 p.cls, .slice a l c, .int .i64 p.run] := ht1.row (by
             have h1 := heap_alloc_new wr (.cells #[.int .i64 p.kind, .int .i64 p.cls, .slice a l c, .int .i64 p.run] 45)
             exact (heap_alloc_old _ _ (by simp)).trans h1) (fun e => by omega)
           have r0 := hr1.cell 0
           have r1 := hr1.cell 1
           have r2 := hr1.cell 2
           have r3 := hr1.cell 3
           have f2 := frozen_of_row w1 wr.heap.size 2 _ _ hr1
           have hs1 : wr.heap.size + 2 ≤ w1.heap.size := by have := ht1.size; simp at this; omega
           have hO1 := ((hO.here.alloc (.cells #[.int .i64 p.kind, .int .i64 p.cls, .slice a l c, .int .i64 p.run] 45)).alloc (.cells #[] 4)).turn ht1 (fun q hq _ e => by omega)
           simp only [Nat.zero_add, List.nil_append] at ho1
           obtain ⟨vo, vc, rfl, hvc, _, _⟩ := ho1.shape
           have H1 := Lib.hid (And.intro ho1 (And.intro hO1 ht1))
           clear ho1 hO1 ht1 hr1 hE hO
           simp at r0 r1 r2 r3)
        | (at_builtin
           have hO3 := (H1.out.2.1.turn (Turn.set w1 ⟨wr.heap.size, 2, none⟩ (.slice vo l vc)) (fun q hq _ e => by have e' : q = wr.heap.size := e; omega)).alloc (.cells #[.int .i64 p.kind, .int .i64 p.cls, .slice vo l vc, .int .i64 p.run] 45)
           have hU3 := (H1.out.1.turn (Turn.set w1 ⟨wr.heap.size, 2, none⟩ (.slice vo l vc)) (fun q hq _ e => by have e' : q = wr.heap.size := e; rcases hq with h | h <;> (try simp at h) <;> omega)).alloc (.cells #[.int .i64 p.kind, .int .i64 p.cls, .slice vo l vc, .int .i64 p.run] 45)
           have hcs : ∀ j u, [Value.int .i64 p.kind, .int .i64 p.cls, .slice vo l vc, .int .i64 p.run][j]? = some u → ((w1.setCell ⟨wr.heap.size, 2, none⟩ (.slice vo l vc)).alloc (.cells #[.int .i64 p.kind, .int .i64 p.cls, .slice vo l vc, .int .i64 p.run] 45)).cell? ⟨w1.heap.size, j, none⟩ = some u := fun j u h => by
             have h1 := heap_alloc_new (w1.setCell ⟨wr.heap.size, 2, none⟩ (.slice vo l vc)) (.cells #[.int .i64 p.kind, .int .i64 p.cls, .slice vo l vc, .int .i64 p.run] 45)
             rw [World.size_setCell] at h1
             rw [cell_of_row _ _ _ _ _ _ h1]; simpa using h
           refine wpList_append_elem (K := KPage) rfl (.tmp 22) (.tmp 24) 24 rfl 45 ip (.agg #[.int .i64 0, .int .i64 0, .slice none 0 0, .int .i64 0]) 48 Try.underlying24 hip hp0 hp1 hp2 rfl (by decide) one_page rfl hO3 rfl hcs (KPage_own_mk hU3) (fun q hq _ hs => by have h1 := hs.2; rcases hq with h | h <;> (try simp at h) <;> omega) (by unfold maxLen; omega) (by omega) ?_
           intro v2 w2 ho2 ht2
           have H2 := Lib.hid (And.intro ho2 (And.intro ht2 H1.out.2.2))
           clear ho2 ht2 hO3 hU3 hcs))
      have F : Hid (Own KPage 45 w2 (fun q => w.heap.size ≤ q) v2 (k + 1) (ps.take (k + 1)) ∧ Below w.heap.size w w2) := by
        obtain ⟨h1, h2, h3⟩ := H2.out
        refine ⟨?_, ?_⟩
        · rw [List.take_succ_eq_append_getElem (List.getElem?_eq_some_iff.1 HP.out).1, (List.getElem?_eq_some_iff.1 HP.out).2]
          exact h1.mono (fun q hq hlt => by
            have := hbw.size
            rcases hq with h | h | h
            · exact h.1
            · rcases h with h | h <;> (try simp at h) <;> omega
            · simp at h; omega)
        · refine h2.below ((((h3.below ((hbw.alloc hbw.size _).alloc (by simp; have := hbw.size; omega) _) (by simp; have := hbw.size; omega) (fun q hq => by have := hbw.size; omega)).setCell (by simpa using hbw.size) _)).alloc (by simp; have := hbw.size; omega) _) (by simp; have := hbw.size; omega) (fun q hq => hq.1)
      clear H1 H2 hbw
      go_roundw
      case rel => exact ⟨k + 1, by omega, by go_num, F.out.1, F.out.2⟩
      case measure => simp [intOf]; omega
    · obtain rfl : k = n := by omega
      have F : Hid (Own KPage 45 wr (fun q => w.heap.size ≤ q) u3 k ps ∧ Below w.heap.size w wr) := by
        rw [List.take_of_length_le (by rw [HL.out]; omega)] at hO; exact ⟨hO, hbw⟩
      clear hO hbw
      go_wp2_with fail
      go_ret
      exact ⟨_, rfl, F.out.1, F.out.2⟩
end Go.Proofs.Ytkikjoalhohlgaa
