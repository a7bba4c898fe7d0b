/- append(out, xs...) at a step of a region that draws its order. -/
import Derived.Test.YtkikjoalhohlgaaApp
import Derived.Deep.RegionLaw
namespace Go.Proofs.Ytkikjoalhohlgaa
open Go.RowKit

theorem Turn.drew_ (T : Nat → Prop) (w : World) : Turn T w w.drew := ⟨rfl, rfl, rfl, Nat.le_refl _, fun _ _ _ => rfl⟩
theorem Turn.undrew {T : Nat → Prop} {w w' : World} (h : Turn T w.drew w') : Turn T w w' := ⟨h.os, h.tape, h.output, h.size, h.block⟩
theorem Own.drew {α : Type} {K : Lay α} {t : TypeId} {w : World} {S : Nat → Prop} {v : Value} {n : Nat} {xs : List α} (h : Own K t w S v n xs) : Own K t w.drew S v n xs := h.turn (Turn.drew_ (fun _ => False) w) (fun _ _ _ h => h)
theorem Lst.drew {α : Type} {K : Lay α} {w : World} {S : Nat → Prop} {ao : Option Addr} {n : Nat} {xs : List α} (h : Lst K w S ao n xs) : Lst K w.drew S ao n xs := h.turn (Turn.drew_ (fun _ => False) w) (fun _ _ _ h => h)

section
variable {P : Program} {α : Type} {K : Lay α} {w : World} {S S' : Nat → Prop} {ops : Array Oper} {rest : List Oper} {o : Oper} {a : Act} {Q : Exit → Act → World → Prop} {K' : Act → World → Prop} {E : Prop}
/-- append(out, xs...), the elements flat. -/
theorem wp_append_flat (s x : Operand) (t : TypeId) (ho : o.op = .call { callee := .builtin .append, args := #[s, x], argTypes := #[t, t] })
    (e : TypeId) (i : TypeInfo) (z : Value) (bytes : Nat) (ht : P.underlying t = some (.slice e)) (hi : P.info? e = some i) (hz : i.zero = some z)
    (hsize : i.size = K.sz) (hby : i.bytes = bytes) (hzs : z.cells.size = K.sz) (hsz : 0 < K.sz) (hK : Flat K) (hone : OneC K)
    {v : Value} {n m c : Nat} {xs ys : List α} {ao : Option Addr} (hs : a.eval s = v) (hown : Own K e w S v n xs) (hx : a.eval x = .slice ao m c) (hr : Lst K w S' ao m ys)
    (h63 : n + m ≤ maxLen) (hbytes : (n + m) * bytes ≤ 140737488355328)
    (h : ∀ v' w', Own K e w' (fun k => S k ∨ w.heap.size ≤ k) v' (n + m) (xs ++ ys) → Turn S w w' → K' (a.put o.dst v') w') : Oper.wp P o a w K' Q := by
  obtain ⟨cells, hrow, hS, F, hF, hD, hc⟩ := hown.row
  obtain ⟨news, hnl, hnc, hne⟩ := hr.news
  have hxl := hown.1
  have hyl := hr.1
  have hone' : ∀ u ∈ news, u.oneCell' = true := by
    intro u hu
    obtain ⟨q, hq, rfl⟩ := List.getElem_of_mem hu
    have hqm : q / K.sz < m := Nat.div_lt_of_lt_mul (by rw [Nat.mul_comm]; omega)
    obtain ⟨cs, hcl, hcs, hrd⟩ := hne (q / K.sz) (ys[q / K.sz]'(by omega)) (List.getElem?_eq_getElem _)
    have h1 := hcs (q % K.sz) (Nat.mod_lt _ hsz)
    rw [Nat.mul_comm, Nat.div_add_mod, List.getElem?_eq_getElem hq] at h1
    exact hone _ _ _ _ hrd _ (List.mem_of_getElem? h1.symm)
  have hrun : ∃ v' w', (Builtin.append_ #[t, t] o.type #[v, .slice ao m c]).run P w = .ok v' w' ∧ w'.ownsRow 0 e K.sz v' (n + m) (cells ++ news) ∧ w.grownBy w' v.ownBlock ∧ (v'.ownBlock = v.ownBlock ∨ v'.ownBlock = some w.heap.size) := by
    cases ao with
    | none =>
      have hm : m = 0 := by
        rcases Nat.eq_zero_or_pos m with h0 | h0
        · exact h0
        · obtain ⟨_, _, h, _⟩ := hnc h0; cases h
      subst hm
      have hnn : news = [] := List.eq_nil_of_length_eq_zero (by simpa using hnl)
      subst hnn
      refine ⟨v, w, ?_, by simpa using hrow, ⟨rfl, rfl, rfl, Nat.le_refl _, fun _ _ _ => rfl⟩, .inl rfl⟩
      rcases hrow.2 with ⟨rfl, rfl⟩ | ⟨g, cap, cur, rfl, _, _, hcap, _⟩
      · simp [Builtin.append_, run_underlying ht, sizeOf, typeInfo, hi, Builtin.lenOf, Builtin.firstCells]
      · simp [Builtin.append_, run_underlying ht, sizeOf, typeInfo, hi, Builtin.lenOf, Builtin.firstCells, hcap, storeCells]
    | some ad =>
      have hcells : ∀ j u, news[j]? = some u → w.cell? (ad.add j) = some u := by
        intro j u hu
        rcases Nat.eq_zero_or_pos m with h0 | h0
        · subst h0
          have hnn : news = [] := List.eq_nil_of_length_eq_zero (by simpa using hnl)
          subst hnn; simp at hu
        · obtain ⟨b, off, he, hc'⟩ := hnc h0
          injection he with he; subst he
          rw [add_plain']; exact hc' j u hu
      obtain ⟨v', w', h1, h2, h3, _, h5⟩ := run_append_own_at (P := P) w 0 t o.type e i z K.sz bytes ht hi hz hsize hby hzs hsz v n cells hrow ad m c news hnl hcells hone' h63 hbytes (Nat.zero_le _)
      exact ⟨v', w', h1, h2, h3, h5⟩
  obtain ⟨v', w', hr1, h2, h3, h5⟩ := hrun
  unfold Oper.wp execOp
  simp only [ho, resolve, invoke, builtin, Sem.run_bind, Sem.run_pure, Result.andThen_ok, List.map_toArray, List.map_cons, List.map_nil, hs, hx, hr1]
  refine h v' w' ?_ ((Turn.of_grown h3).mono (fun k hk _ => hS k hk))
  have hcl : cells.length = n * K.sz := hrow.1
  refine Own.of_row (F := fun _ _ => False) h2 (by simp [hxl, hyl]) (fun g hg => ?_) (fun _ _ h => h.elim) (fun _ _ _ h => h.elim) (fun j y hj => ?_)
  · rcases h5 with h6 | h6
    · exact .inl (hS g (by rw [← h6]; exact hg))
    · rw [hg] at h6; injection h6 with h6; exact .inr (by omega)
  · by_cases e : j < n
    · rw [List.getElem?_append_left (by omega)] at hj
      obtain ⟨cs, h6, h7, h8⟩ := hc j y hj
      have := Nat.mul_le_mul_right K.sz (show j + 1 ≤ n by omega)
      rw [Nat.add_mul] at this
      exact ⟨cs, h6, fun i hi => by rw [List.getElem?_append_left (by omega)]; exact h7 i hi, hK w w' _ _ _ _ (K.own_rd h8)⟩
    · rw [List.getElem?_append_right (by omega)] at hj
      obtain ⟨cs, h6, h7, h8⟩ := hne _ y hj
      refine ⟨cs, h6, fun i hi => ?_, hK w w' _ _ _ _ h8⟩
      have hle := Nat.mul_le_mul_right K.sz (show n ≤ j by omega)
      rw [List.getElem?_append_right (by omega), ← h7 i hi, hcl, hxl, Nat.sub_mul]
      congr 1; omega
/-- The same at a step of a region that draws its order. -/
theorem step_append_flat (hgd : o.guard = none) (s x : Operand) (t : TypeId) (ho : o.op = .call { callee := .builtin .append, args := #[s, x], argTypes := #[t, t] })
    (e : TypeId) (i : TypeInfo) (z : Value) (bytes : Nat) (ht : P.underlying t = some (.slice e)) (hi : P.info? e = some i) (hz : i.zero = some z)
    (hsize : i.size = K.sz) (hby : i.bytes = bytes) (hzs : z.cells.size = K.sz) (hsz : 0 < K.sz) (hK : Flat K) (hone : OneC K)
    {v : Value} {n m c : Nat} {xs ys : List α} {ao : Option Addr} (hs : a.eval s = v) (hown : Own K e w S v n xs) (hx : a.eval x = .slice ao m c) (hr : Lst K w S' ao m ys)
    (h63 : n + m ≤ maxLen) (hbytes : (n + m) * bytes ≤ 140737488355328)
    (h : ∀ v' w', Own K e w' (fun k => S k ∨ w.heap.size ≤ k) v' (n + m) (xs ++ ys) → Turn S w w' → K' (a.put o.dst v') w') :
    if Region.wanted o (yielded ops a.tmps) = true then Oper.wp P o a w K' Q else E := by
  have hw : Region.wanted o (yielded ops a.tmps) = true := by simp [Region.wanted, hgd]
  rw [if_pos hw]
  exact wp_append_flat s x t ho e i z bytes ht hi hz hsize hby hzs hsz hK hone hs hown hx hr h63 hbytes h
end
end Go.Proofs.Ytkikjoalhohlgaa
