/- append(out, xs...) at a step of a region that draws its order. -/
import Derived.Test.YtkikjoalhohlgaaApp
import Derived.Deep.RegionLaw
import Derived.Lib.AppendZerosOnto
namespace Go.Proofs.Ytkikjoalhohlgaa
open Go.RowKit

theorem Turn.drew_ (T : Nat → Prop) (w : World) : Turn T w w.drew := ⟨rfl, rfl, rfl, Nat.le_refl _, fun _ _ _ => rfl⟩
theorem Turn.undrew {T : Nat → Prop} {w w' : World} (h : Turn T w.drew w') : Turn T w w' := ⟨h.os, h.tape, h.output, h.size, h.block⟩
theorem Own.drew {α : Type} {K : Lay α} {t : TypeId} {w : World} {S : Nat → Prop} {v : Value} {n : Nat} {xs : List α} (h : Own K t w S v n xs) : Own K t w.drew S v n xs := h.turn (Turn.drew_ (fun _ => False) w) (fun _ _ _ h => h)
theorem Lst.drew {α : Type} {K : Lay α} {w : World} {S : Nat → Prop} {ao : Option Addr} {n : Nat} {xs : List α} (h : Lst K w S ao n xs) : Lst K w.drew S ao n xs := h.turn (Turn.drew_ (fun _ => False) w) (fun _ _ _ h => h)

section
variable {P : Program} {α : Type} {K : Lay α} {w : World} {S S' : Nat → Prop} {ops : Array Oper} {rest : List Oper} {o : Oper} {a : Act} {Q : Exit → Act → World → Prop} {K' : Act → World → Prop} {E : Prop}
/-- append(out, xs...), the elements flat. -/
theorem wp_append_flat (s x : Operand) (t : TypeId) (ho : o.op = .call { callee := .builtin .append, args := #[s, x], argTypes := #[t, t] })
    (e : TypeId) (i : TypeInfo) (z : Value) (bytes : Nat) (ht : P.underlying t = some (.slice e)) (hi : P.info? e = some i) (hz : i.zero = some z)
    (hsize : i.size = K.sz) (hby : i.bytes = bytes) (hzs : z.cells.size = K.sz) (hsz : 0 < K.sz) (hK : Flat K) (hone : OneC K)
    {v : Value} {n m c : Nat} {xs ys : List α} {ao : Option Addr} (hs : a.eval s = v) (hown : Own K e w S v n xs) (hx : a.eval x = .slice ao m c) (hr : Lst K w S' ao m ys)
    (h63 : n + m ≤ maxLen) (hbytes : (n + m) * bytes ≤ 140737488355328)
    (h : ∀ v' w', Own K e w' (fun k => S k ∨ w.heap.size ≤ k) v' (n + m) (xs ++ ys) → Turn S w w' → K' (a.put o.dst v') w') : Oper.wp P o a w K' Q := by
  obtain ⟨cells, hrow, hS, F, hF, hD, hc⟩ := hown.row
  obtain ⟨news, hnl, hnc, hne⟩ := hr.news
  have hxl := hown.1
  have hyl := hr.1
  have hone' : ∀ u ∈ news, u.oneCell' = true := by
    intro u hu
    obtain ⟨q, hq, rfl⟩ := List.getElem_of_mem hu
    have hqm : q / K.sz < m := Nat.div_lt_of_lt_mul (by rw [Nat.mul_comm]; omega)
    obtain ⟨cs, hcl, hcs, hrd⟩ := hne (q / K.sz) (ys[q / K.sz]'(by omega)) (List.getElem?_eq_getElem _)
    have h1 := hcs (q % K.sz) (Nat.mod_lt _ hsz)
    rw [Nat.mul_comm, Nat.div_add_mod, List.getElem?_eq_getElem hq] at h1
    exact hone _ _ _ _ hrd _ (List.mem_of_getElem? h1.symm)
  have hrun : ∃ v' w', (Builtin.append_ #[t, t] o.type #[v, .slice ao m c]).run P w = .ok v' w' ∧ w'.ownsRow 0 e K.sz v' (n + m) (cells ++ news) ∧ w.grownBy w' v.ownBlock ∧ (v'.ownBlock = v.ownBlock ∨ v'.ownBlock = some w.heap.size) := by
    cases ao with
    | none =>
      have hm : m = 0 := by
        rcases Nat.eq_zero_or_pos m with h0 | h0
        · exact h0
        · obtain ⟨_, _, h, _⟩ := hnc h0; cases h
      subst hm
      have hnn : news = [] := List.eq_nil_of_length_eq_zero (by simpa using hnl)
      subst hnn
      refine ⟨v, w, ?_, by simpa using hrow, ⟨rfl, rfl, rfl, Nat.le_refl _, fun _ _ _ => rfl⟩, .inl rfl⟩
      rcases hrow.2 with ⟨rfl, rfl⟩ | ⟨g, cap, cur, rfl, _, _, hcap, _⟩
      · simp [Builtin.append_, run_underlying ht, sizeOf, typeInfo, hi, Builtin.lenOf, Builtin.firstCells]
      · simp [Builtin.append_, run_underlying ht, sizeOf, typeInfo, hi, Builtin.lenOf, Builtin.firstCells, hcap, storeCells]
    | some ad =>
      have hcells : ∀ j u, news[j]? = some u → w.cell? (ad.add j) = some u := by
        intro j u hu
        rcases Nat.eq_zero_or_pos m with h0 | h0
        · subst h0
          have hnn : news = [] := List.eq_nil_of_length_eq_zero (by simpa using hnl)
          subst hnn; simp at hu
        · obtain ⟨b, off, he, hc'⟩ := hnc h0
          injection he with he; subst he
          rw [add_plain']; exact hc' j u hu
      obtain ⟨v', w', h1, h2, h3, _, h5⟩ := run_append_own_at (P := P) w 0 t o.type e i z K.sz bytes ht hi hz hsize hby hzs hsz v n cells hrow ad m c news hnl hcells hone' h63 hbytes (Nat.zero_le _)
      exact ⟨v', w', h1, h2, h3, h5⟩
  obtain ⟨v', w', hr1, h2, h3, h5⟩ := hrun
  unfold Oper.wp execOp
  simp only [ho, resolve, invoke, builtin, Sem.run_bind, Sem.run_pure, Result.andThen_ok, List.map_toArray, List.map_cons, List.map_nil, hs, hx, hr1]
  refine h v' w' ?_ ((Turn.of_grown h3).mono (fun k hk _ => hS k hk))
  have hcl : cells.length = n * K.sz := hrow.1
  refine Own.of_row (F := fun _ _ => False) h2 (by simp [hxl, hyl]) (fun g hg => ?_) (fun _ _ h => h.elim) (fun _ _ _ h => h.elim) (fun j y hj => ?_)
  · rcases h5 with h6 | h6
    · exact .inl (hS g (by rw [← h6]; exact hg))
    · rw [hg] at h6; injection h6 with h6; exact .inr (by omega)
  · by_cases e : j < n
    · rw [List.getElem?_append_left (by omega)] at hj
      obtain ⟨cs, h6, h7, h8⟩ := hc j y hj
      have := Nat.mul_le_mul_right K.sz (show j + 1 ≤ n by omega)
      rw [Nat.add_mul] at this
      exact ⟨cs, h6, fun i hi => by rw [List.getElem?_append_left (by omega)]; exact h7 i hi, hK w w' _ _ _ _ (K.own_rd h8)⟩
    · rw [List.getElem?_append_right (by omega)] at hj
      obtain ⟨cs, h6, h7, h8⟩ := hne _ y hj
      refine ⟨cs, h6, fun i hi => ?_, hK w w' _ _ _ _ h8⟩
      have hle := Nat.mul_le_mul_right K.sz (show n ≤ j by omega)
      rw [List.getElem?_append_right (by omega), ← h7 i hi, hcl, hxl, Nat.sub_mul]
      congr 1; omega
/-- The same at a step of a region that draws its order. -/
theorem step_append_flat (hgd : o.guard = none) (s x : Operand) (t : TypeId) (ho : o.op = .call { callee := .builtin .append, args := #[s, x], argTypes := #[t, t] })
    (e : TypeId) (i : TypeInfo) (z : Value) (bytes : Nat) (ht : P.underlying t = some (.slice e)) (hi : P.info? e = some i) (hz : i.zero = some z)
    (hsize : i.size = K.sz) (hby : i.bytes = bytes) (hzs : z.cells.size = K.sz) (hsz : 0 < K.sz) (hK : Flat K) (hone : OneC K)
    {v : Value} {n m c : Nat} {xs ys : List α} {ao : Option Addr} (hs : a.eval s = v) (hown : Own K e w S v n xs) (hx : a.eval x = .slice ao m c) (hr : Lst K w S' ao m ys)
    (h63 : n + m ≤ maxLen) (hbytes : (n + m) * bytes ≤ 140737488355328)
    (h : ∀ v' w', Own K e w' (fun k => S k ∨ w.heap.size ≤ k) v' (n + m) (xs ++ ys) → Turn S w w' → K' (a.put o.dst v') w') :
    if Region.wanted o (yielded ops a.tmps) = true then Oper.wp P o a w K' Q else E := by
  have hw : Region.wanted o (yielded ops a.tmps) = true := by simp [Region.wanted, hgd]
  rw [if_pos hw]
  exact wp_append_flat s x t ho e i z bytes ht hi hz hsize hby hzs hsz hK hone hs hown hx hr h63 hbytes h
end
end Go.Proofs.Ytkikjoalhohlgaa

namespace Go.Proofs.Ytkikjoalhohlgaa
open Go.RowKit

section
variable {P : Program} {α : Type} {K : Lay α} {w : World} {S : Nat → Prop} {ops : Array Oper} {rest : List Oper} {o : Oper} {a : Act} {Q : Exit → Act → World → Prop}
theorem wpList_append_zeros (hgd : o.guard = none) (s x : Operand) (t tn : TypeId) (ho : o.op = .call { callee := .builtin .append, args := #[s, x], argTypes := #[t, tn] })
    (e : TypeId) (i : TypeInfo) (z : Value) (bytes : Nat) (kn kq : IntKind) (ht : P.underlying t = some (.slice e)) (htn : P.underlying tn = some (.int kn)) (hi : P.info? e = some i) (hz : i.zero = some z)
    (hsize : i.size = K.sz) (hby : i.bytes = bytes) (hzs : z.cells.size = K.sz) (hsz : 0 < K.sz)
    {g n k : Nat} {xs : List α} {y : α} (hs : a.eval s = .slice (some ⟨g, 0, none⟩) n n) (hown : Own K e w S (.slice (some ⟨g, 0, none⟩) n n) n xs) (hx : a.eval x = .int kq k) (hy : ∀ w, K.own w (fun _ => False) z.cells.toList y)
    (h0 : 0 < k) (h63 : n + k ≤ maxLen) (hbytes : (n + k) * bytes ≤ 140737488355328)
    (h : ∀ v' w', Own K e w' (fun j => S j ∨ w.heap.size ≤ j) v' (n + k) (xs ++ List.replicate k y) → Below w.heap.size w w' → wpList P ops Q rest (a.put o.dst v') w') : wpList P ops Q (o :: rest) a w := by
  obtain ⟨cells, hrow, hS, F, hF, hD, hc⟩ := hown.row
  subst hby
  have hsmall : n + k ≤ 9223372036854775807 := by simp only [maxLen] at h63; omega
  have hkb : k * i.bytes ≤ 140737488355328 := Nat.le_trans (Nat.mul_le_mul_right _ (by omega)) hbytes
  have hrun := Lib.run_append_grow_zeros w t tn o.type e i z kq kn ht htn hi hz (some ⟨g, 0, none⟩) n n cells
    (run_firstCells_some (P := P) w.drew i.size n ⟨g, 0, none⟩ n n cells (by rw [hsize]; exact hrow.1) (by simpa using hrow.cells (g := g) rfl)) k h0 (by omega) (by omega) (by omega) (by omega) (growslice_fits (by omega) hbytes)
  refine wpList_plain hgd fun K' hK' => ?_
  unfold Oper.wp execOp
  simp only [ho, resolve, invoke, builtin, Sem.run_bind, Sem.run_pure, Result.andThen_ok, List.map_toArray, List.map_cons, List.map_nil, hs, hx, hrun]
  have hge := grownCap_ge w (n + k) n e
  have hle := grownCap_le_maxLen w (n + k) n e h63
  have hb : Below w.heap.size w (w.drew.alloc (.cells (cells.toArray ++ Builtin.zeroCells z.cells k ++ Builtin.zeroCells z.cells (grownCap w (n + k) n e - (n + k))) e)) := Turn.none_ ((Turn.drew_ _ w).trans (Turn.alloc _ w.drew _) (fun _ h _ => h))
  refine hK' _ _ (h _ _ ?_ hb)
  have hcl : cells.length = n * K.sz := hrow.1
  have hzl : (Builtin.zeroCells z.cells k).size = k * K.sz := by rw [size_zeroCells, hzs]
  have hzt : (Builtin.zeroCells z.cells k).toList.length = k * K.sz := hzl
  have hxl := hown.1
  refine Own.of_row (F := fun j q => q < w.heap.size ∧ F j q) (cells := cells ++ (Builtin.zeroCells z.cells k).toList) ⟨?_, .inr ⟨w.heap.size, _, _, rfl, Nat.zero_le _, heap_alloc_new w.drew _, hge, hle, ?_, ?_⟩⟩ (by simp [hxl]) (fun g' hg' => ?_) (fun j q hq => ⟨.inl (hF j q hq.2).1, fun e => ?_⟩) (fun i j q hi hj => hD i j q hi.2 hj.2) (fun j y' hj => ?_)
  · rw [List.length_append, hzt, hcl, Nat.add_mul]
  · simp only [Array.size_append, List.size_toArray, size_zeroCells, hzs, hcl, ← Nat.add_mul]; congr 1; omega
  · have e1 : (n + k) * K.sz = (cells ++ (Builtin.zeroCells z.cells k).toList).length := by rw [List.length_append, hzt, hcl, Nat.add_mul]
    simp only [Array.toList_append]
    rw [e1]; exact List.take_left
  · simp [Value.ownBlock] at hg'; exact .inr (by omega)
  · simp [Value.ownBlock] at e; omega
  · by_cases hjn : j < n
    · rw [List.getElem?_append_left (by omega)] at hj
      obtain ⟨cs, h6, h7, h8⟩ := hc j y' hj
      have := Nat.mul_le_mul_right K.sz (show j + 1 ≤ n by omega)
      rw [Nat.add_mul] at this
      refine ⟨cs, h6, fun i hi => by rw [List.getElem?_append_left (by omega)]; exact h7 i hi, ?_⟩
      exact K.own_turn (T := fun _ => False) (K.own_mono h8 (fun q hq hl => ⟨hl, hq⟩)) (Turn.of_below hb) (fun _ _ _ h => h)
    · rw [List.getElem?_append_right (by omega), List.getElem?_replicate] at hj
      split at hj
      · rename_i hjk
        injection hj with hj; subst hj
        refine ⟨z.cells.toList, by simpa using hzs, fun i hi => ?_, K.own_mono (hy _) (fun _ h _ => h.elim)⟩
        have hle := Nat.mul_le_mul_right K.sz (show n ≤ j by omega)
        rw [List.getElem?_append_right (by omega), hcl, show j * K.sz + i - n * K.sz = (j - xs.length) * K.sz + i by rw [hxl, Nat.sub_mul]; omega]
        have h2 := Nat.mul_le_mul_right K.sz (show j - xs.length + 1 ≤ k by omega)
        rw [Nat.add_mul] at h2
        have h3 : ((j - xs.length) * K.sz + i) % z.cells.size = i := by rw [hzs, Nat.mul_comm, Nat.mul_add_mod, Nat.mod_eq_of_lt hi]
        have h4 : (j - xs.length) * K.sz + i < k * z.cells.size := by rw [hzs]; omega
        simp only [hzs] at h3 h4
        simp [Builtin.zeroCells, hzs, hi]
        exact ⟨_, List.getElem?_range h4, by rw [h3]; simp [hzs, hi]⟩
      · cases hj
end
end Go.Proofs.Ytkikjoalhohlgaa
