/- append(out, make([]T, k)...) to a slice that is full: zero elements behind. -/
import Derived.Test.YtkikjoalhohlgaaApp2
import Derived.Lib.AppendZerosOnto
namespace Go.Proofs.Ytkikjoalhohlgaa
open Go.RowKit

section
variable {P : Program} {α : Type} {K : Lay α} {w : World} {S : Nat → Prop} {ops : Array Oper} {rest : List Oper} {o : Oper} {a : Act} {Q : Exit → Act → World → Prop}
theorem wpList_append_zeros (hgd : o.guard = none) (s x : Operand) (t tn : TypeId) (ho : o.op = .call { callee := .builtin .append, args := #[s, x], argTypes := #[t, tn] })
    (e : TypeId) (i : TypeInfo) (z : Value) (bytes : Nat) (kn kq : IntKind) (ht : P.underlying t = some (.slice e)) (htn : P.underlying tn = some (.int kn)) (hi : P.info? e = some i) (hz : i.zero = some z)
    (hsize : i.size = K.sz) (hby : i.bytes = bytes) (hzs : z.cells.size = K.sz) (hsz : 0 < K.sz)
    {g n k : Nat} {xs : List α} {y : α} (hs : a.eval s = .slice (some ⟨g, 0, none⟩) n n) (hown : Own K e w S (.slice (some ⟨g, 0, none⟩) n n) n xs) (hx : a.eval x = .int kq k) (hy : ∀ w, K.own w (fun _ => False) z.cells.toList y)
    (h0 : 0 < k) (h63 : n + k ≤ maxLen) (hbytes : (n + k) * bytes ≤ 140737488355328)
    (h : ∀ v' w', Own K e w' (fun j => S j ∨ w.heap.size ≤ j) v' (n + k) (xs ++ List.replicate k y) → Below w.heap.size w w' → wpList P ops Q rest (a.put o.dst v') w') : wpList P ops Q (o :: rest) a w := by
  obtain ⟨cells, hrow, hS, F, hF, hD, hc⟩ := hown.row
  subst hby
  have hsmall : n + k ≤ 9223372036854775807 := by simp only [maxLen] at h63; omega
  have hkb : k * i.bytes ≤ 140737488355328 := Nat.le_trans (Nat.mul_le_mul_right _ (by omega)) hbytes
  have hrun := Lib.run_append_grow_zeros w t tn o.type e i z kq kn ht htn hi hz (some ⟨g, 0, none⟩) n n cells
    (run_firstCells_some (P := P) w.drew i.size n ⟨g, 0, none⟩ n n cells (by rw [hsize]; exact hrow.1) (by simpa using hrow.cells (g := g) rfl)) k h0 (by omega) (by omega) (by omega) (by omega) (growslice_fits (by omega) hbytes)
  refine wpList_plain hgd fun K' hK' => ?_
  unfold Oper.wp execOp
  simp only [ho, resolve, invoke, builtin, Sem.run_bind, Sem.run_pure, Result.andThen_ok, List.map_toArray, List.map_cons, List.map_nil, hs, hx, hrun]
  have hge := grownCap_ge w (n + k) n e
  have hle := grownCap_le_maxLen w (n + k) n e h63
  have hb : Below w.heap.size w (w.drew.alloc (.cells (cells.toArray ++ Builtin.zeroCells z.cells k ++ Builtin.zeroCells z.cells (grownCap w (n + k) n e - (n + k))) e)) := Turn.none_ ((Turn.drew_ _ w).trans (Turn.alloc _ w.drew _) (fun _ h _ => h))
  refine hK' _ _ (h _ _ ?_ hb)
  have hcl : cells.length = n * K.sz := hrow.1
  have hzl : (Builtin.zeroCells z.cells k).size = k * K.sz := by rw [size_zeroCells, hzs]
  have hzt : (Builtin.zeroCells z.cells k).toList.length = k * K.sz := hzl
  have hxl := hown.1
  refine Own.of_row (F := fun j q => q < w.heap.size ∧ F j q) (cells := cells ++ (Builtin.zeroCells z.cells k).toList) ⟨?_, .inr ⟨w.heap.size, _, _, rfl, Nat.zero_le _, heap_alloc_new w.drew _, hge, hle, ?_, ?_⟩⟩ (by simp [hxl]) (fun g' hg' => ?_) (fun j q hq => ⟨.inl (hF j q hq.2).1, fun e => ?_⟩) (fun i j q hi hj => hD i j q hi.2 hj.2) (fun j y' hj => ?_)
  · rw [List.length_append, hzt, hcl, Nat.add_mul]
  · simp only [Array.size_append, List.size_toArray, size_zeroCells, hzs, hcl, ← Nat.add_mul]; congr 1; omega
  · have e1 : (n + k) * K.sz = (cells ++ (Builtin.zeroCells z.cells k).toList).length := by rw [List.length_append, hzt, hcl, Nat.add_mul]
    simp only [Array.toList_append]
    rw [e1]; exact List.take_left
  · simp [Value.ownBlock] at hg'; exact .inr (by omega)
  · simp [Value.ownBlock] at e; omega
  · by_cases hjn : j < n
    · rw [List.getElem?_append_left (by omega)] at hj
      obtain ⟨cs, h6, h7, h8⟩ := hc j y' hj
      have := Nat.mul_le_mul_right K.sz (show j + 1 ≤ n by omega)
      rw [Nat.add_mul] at this
      refine ⟨cs, h6, fun i hi => by rw [List.getElem?_append_left (by omega)]; exact h7 i hi, ?_⟩
      exact K.own_turn (T := fun _ => False) (K.own_mono h8 (fun q hq hl => ⟨hl, hq⟩)) (Turn.of_below hb) (fun _ _ _ h => h)
    · rw [List.getElem?_append_right (by omega), List.getElem?_replicate] at hj
      split at hj
      · rename_i hjk
        injection hj with hj; subst hj
        refine ⟨z.cells.toList, by simpa using hzs, fun i hi => ?_, K.own_mono (hy _) (fun _ h _ => h.elim)⟩
        have hle := Nat.mul_le_mul_right K.sz (show n ≤ j by omega)
        rw [List.getElem?_append_right (by omega), hcl, show j * K.sz + i - n * K.sz = (j - xs.length) * K.sz + i by rw [hxl, Nat.sub_mul]; omega]
        have h2 := Nat.mul_le_mul_right K.sz (show j - xs.length + 1 ≤ k by omega)
        rw [Nat.add_mul] at h2
        have h3 : ((j - xs.length) * K.sz + i) % z.cells.size = i := by rw [hzs, Nat.mul_comm, Nat.mul_add_mod, Nat.mod_eq_of_lt hi]
        have h4 : (j - xs.length) * K.sz + i < k * z.cells.size := by rw [hzs]; omega
        simp only [hzs] at h3 h4
        simp [Builtin.zeroCells, hzs, hi]
        exact ⟨_, List.getElem?_range h4, by rw [h3]; simp [hzs, hi]⟩
      · cases hj
end
end Go.Proofs.Ytkikjoalhohlgaa
