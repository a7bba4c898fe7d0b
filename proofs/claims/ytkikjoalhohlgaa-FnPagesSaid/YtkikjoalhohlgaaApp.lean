/- Appending to what is owned: one element that owns its own, or elements that lead to nothing. -/
import Derived.Test.YtkikjoalhohlgaaLeaf
import Derived.Maps.AppendAt
namespace Go.Proofs.Ytkikjoalhohlgaa
open Go.RowKit

/-- Data that lead to no further memory. -/
def Flat {α : Type} (K : Lay α) : Prop := ∀ w w' S S' cs x, K.rd w S cs x → K.own w' S' cs x
theorem flat_int : Flat KInt := fun _ _ _ _ _ _ h => h
theorem flat_bool : Flat KBool := fun _ _ _ _ _ _ h => h
/-- Its cells are plain ones. -/
def OneC {α : Type} (K : Lay α) : Prop := ∀ w S cs x, K.rd w S cs x → ∀ c ∈ cs, c.oneCell' = true
theorem one_int : OneC KInt := fun _ _ cs x h c hc => by rw [show cs = [.int .i64 x] from h] at hc; simp at hc; subst hc; rfl
theorem one_bool : OneC KBool := fun _ _ cs x h c hc => by rw [show cs = [.bool x] from h] at hc; simp at hc; subst hc; rfl
theorem one_slice {α : Type} (K : Lay α) (t : TypeId) : OneC (KSlice K t) := fun _ _ cs x ⟨_, _, _, h, _⟩ c hc => by rw [h] at hc; simp at hc; subst hc; rfl
theorem one_pair {α β : Type} {A : Lay α} {B : Lay β} (ha : OneC A) (hb : OneC B) : OneC (KPair A B) := fun w S cs x ⟨c1, c2, h, h1, h2⟩ c hc => by
  rw [h] at hc
  rcases List.mem_append.1 hc with hc | hc
  · exact ha w S c1 _ h1 c hc
  · exact hb w S c2 _ h2 c hc
theorem one_map {α β : Type} {A : Lay α} (f : β → α) (ha : OneC A) : OneC (KMap A f) := fun w S cs x h => ha w S cs (f x) h
theorem flat_pair {α β : Type} {A : Lay α} {B : Lay β} (ha : Flat A) (hb : Flat B) : Flat (KPair A B) := fun w w' _ S' _ _ ⟨c1, c2, h, h1, h2⟩ =>
  ⟨c1, c2, fun _ => False, fun _ => False, h, ha w w' _ _ _ _ h1, hb w w' _ _ _ _ h2, fun _ h => h.elim, fun _ h => h.elim, fun _ h => h.elim⟩
theorem flat_map {α β : Type} {A : Lay α} (f : β → α) (ha : Flat A) : Flat (KMap A f) := fun w w' S S' cs x h => ha w w' S S' cs (f x) h

section
variable {α : Type} {K : Lay α} {w w' : World} {S S' : Nat → Prop}
/-- The cells of a slice that reads, one behind the other. -/
theorem Lst.news {ao : Option Addr} {n : Nat} {xs : List α} (h : Lst K w S ao n xs) : ∃ news : List Value, news.length = n * K.sz ∧ (0 < n → ∃ b off, ao = some ⟨b, off, none⟩ ∧ ∀ j u, news[j]? = some u → w.cell? ⟨b, off + j, none⟩ = some u) ∧
    ∀ j x, xs[j]? = some x → ∃ cs, cs.length = K.sz ∧ (∀ i, i < K.sz → news[j * K.sz + i]? = cs[i]?) ∧ K.rd w S cs x := by
  have hl := h.1
  rcases Nat.eq_zero_or_pos n with rfl | h0
  · exact ⟨[], by simp, fun h => absurd h (by omega), fun j x hj => by have := (List.getElem?_eq_some_iff.1 hj).1; omega⟩
  · obtain ⟨b, off, rfl, hb, hs, hc⟩ := h.2 h0
    have hcell : ∀ j, j < n * K.sz → ∃ u, w.cell? ⟨b, off + j, none⟩ = some u := by
      intro j hj
      have hz : 0 < K.sz := Nat.pos_of_ne_zero (fun e => by rw [e] at hj; simp at hj)
      have hq : j / K.sz < n := Nat.div_lt_of_lt_mul (by rw [Nat.mul_comm]; exact hj)
      obtain ⟨cs, hcl, hcs, _⟩ := hc (j / K.sz) (xs[j / K.sz]'(by omega)) (List.getElem?_eq_getElem _)
      have h1 := hcs (j % K.sz) (Nat.mod_lt _ hz)
      rw [Nat.add_assoc, Nat.mul_comm, Nat.div_add_mod, List.getElem?_eq_getElem (by rw [hcl]; exact Nat.mod_lt _ hz)] at h1
      exact ⟨_, h1⟩
    refine ⟨(List.range (n * K.sz)).map fun j => (w.cell? ⟨b, off + j, none⟩).getD undef, by simp, fun _ => ⟨b, off, rfl, fun j u hj => ?_⟩, fun j x hj => ?_⟩
    · simp only [List.getElem?_map, Option.map_eq_some_iff] at hj
      obtain ⟨j', h1, h2⟩ := hj
      obtain ⟨hlt, rfl⟩ := List.getElem?_eq_some_iff.1 h1
      simp at hlt h2
      obtain ⟨u', hu⟩ := hcell j hlt
      rw [hu] at h2 ⊢; simp at h2; rw [h2]
    · obtain ⟨cs, hcl, hcs, hr⟩ := hc j x hj
      have hjl := (List.getElem?_eq_some_iff.1 hj).1
      refine ⟨cs, hcl, fun i hi => ?_, hr⟩
      have h1 := hcs i hi
      have h2 := Nat.mul_le_mul_right K.sz (show j + 1 ≤ n by omega)
      rw [Nat.add_mul] at h2
      rw [List.getElem?_map, List.getElem?_range (by omega)]
      simp only [Option.map_some]
      rw [← Nat.add_assoc, h1, List.getElem?_eq_getElem (by omega)]; rfl
end

theorem add_plain' (b off j : Nat) : (⟨b, off, none⟩ : Addr).add j = ⟨b, off + j, none⟩ := by unfold Addr.add; split <;> simp_all

section
variable {P : Program} {α : Type} {K : Lay α} {w : World} {S S' : Nat → Prop} {ops : Array Oper} {rest : List Oper} {o : Oper} {a : Act} {Q : Exit → Act → World → Prop}
/-- append(out, xs...), the elements flat. -/
theorem wpList_append_flat (hgd : o.guard = none) (s x : Operand) (t : TypeId) (ho : o.op = .call { callee := .builtin .append, args := #[s, x], argTypes := #[t, t] })
    (e : TypeId) (i : TypeInfo) (z : Value) (bytes : Nat) (ht : P.underlying t = some (.slice e)) (hi : P.info? e = some i) (hz : i.zero = some z)
    (hsize : i.size = K.sz) (hby : i.bytes = bytes) (hzs : z.cells.size = K.sz) (hsz : 0 < K.sz) (hK : Flat K) (hone : OneC K)
    {v : Value} {n m c : Nat} {xs ys : List α} {ao : Option Addr} (hs : a.eval s = v) (hown : Own K e w S v n xs) (hx : a.eval x = .slice ao m c) (hr : Lst K w S' ao m ys)
    (h63 : n + m ≤ maxLen) (hbytes : (n + m) * bytes ≤ 140737488355328)
    (h : ∀ v' w', Own K e w' (fun k => S k ∨ w.heap.size ≤ k) v' (n + m) (xs ++ ys) → Turn S w w' → wpList P ops Q rest (a.put o.dst v') w') : wpList P ops Q (o :: rest) a w := by
  obtain ⟨cells, hrow, hS, F, hF, hD, hc⟩ := hown.row
  obtain ⟨news, hnl, hnc, hne⟩ := hr.news
  have hxl := hown.1
  have hyl := hr.1
  have hone' : ∀ u ∈ news, u.oneCell' = true := by
    intro u hu
    obtain ⟨q, hq, rfl⟩ := List.getElem_of_mem hu
    have hqm : q / K.sz < m := Nat.div_lt_of_lt_mul (by rw [Nat.mul_comm]; omega)
    obtain ⟨cs, hcl, hcs, hrd⟩ := hne (q / K.sz) (ys[q / K.sz]'(by omega)) (List.getElem?_eq_getElem _)
    have h1 := hcs (q % K.sz) (Nat.mod_lt _ hsz)
    rw [Nat.mul_comm, Nat.div_add_mod, List.getElem?_eq_getElem hq] at h1
    exact hone _ _ _ _ hrd _ (List.mem_of_getElem? h1.symm)
  have hrun : ∃ v' w', (Builtin.append_ #[t, t] o.type #[v, .slice ao m c]).run P w = .ok v' w' ∧ w'.ownsRow 0 e K.sz v' (n + m) (cells ++ news) ∧ w.grownBy w' v.ownBlock ∧ (v'.ownBlock = v.ownBlock ∨ v'.ownBlock = some w.heap.size) := by
    cases ao with
    | none =>
      have hm : m = 0 := by
        rcases Nat.eq_zero_or_pos m with h0 | h0
        · exact h0
        · obtain ⟨_, _, h, _⟩ := hnc h0; cases h
      subst hm
      have hnn : news = [] := List.eq_nil_of_length_eq_zero (by simpa using hnl)
      subst hnn
      refine ⟨v, w, ?_, by simpa using hrow, ⟨rfl, rfl, rfl, Nat.le_refl _, fun _ _ _ => rfl⟩, .inl rfl⟩
      rcases hrow.2 with ⟨rfl, rfl⟩ | ⟨g, cap, cur, rfl, _, _, hcap, _⟩
      · simp [Builtin.append_, run_underlying ht, sizeOf, typeInfo, hi, Builtin.lenOf, Builtin.firstCells]
      · simp [Builtin.append_, run_underlying ht, sizeOf, typeInfo, hi, Builtin.lenOf, Builtin.firstCells, hcap, storeCells]
    | some ad =>
      have hcells : ∀ j u, news[j]? = some u → w.cell? (ad.add j) = some u := by
        intro j u hu
        rcases Nat.eq_zero_or_pos m with h0 | h0
        · subst h0
          have hnn : news = [] := List.eq_nil_of_length_eq_zero (by simpa using hnl)
          subst hnn; simp at hu
        · obtain ⟨b, off, he, hc'⟩ := hnc h0
          injection he with he; subst he
          rw [add_plain']; exact hc' j u hu
      obtain ⟨v', w', h1, h2, h3, _, h5⟩ := run_append_own_at (P := P) w 0 t o.type e i z K.sz bytes ht hi hz hsize hby hzs hsz v n cells hrow ad m c news hnl hcells hone' h63 hbytes (Nat.zero_le _)
      exact ⟨v', w', h1, h2, h3, h5⟩
  obtain ⟨v', w', hr1, h2, h3, h5⟩ := hrun
  refine wpList_plain hgd fun K' hK' => ?_
  unfold Oper.wp execOp
  simp only [ho, resolve, invoke, builtin, Sem.run_bind, Sem.run_pure, Result.andThen_ok, List.map_toArray, List.map_cons, List.map_nil, hs, hx, hr1]
  refine hK' _ _ (h v' w' ?_ ((Turn.of_grown h3).mono (fun k hk _ => hS k hk)))
  have hcl : cells.length = n * K.sz := hrow.1
  refine Own.of_row (F := fun _ _ => False) h2 (by simp [hxl, hyl]) (fun g hg => ?_) (fun _ _ h => h.elim) (fun _ _ _ h => h.elim) (fun j y hj => ?_)
  · rcases h5 with h6 | h6
    · exact .inl (hS g (by rw [← h6]; exact hg))
    · rw [hg] at h6; injection h6 with h6; exact .inr (by omega)
  · by_cases e : j < n
    · rw [List.getElem?_append_left (by omega)] at hj
      obtain ⟨cs, h6, h7, h8⟩ := hc j y hj
      have := Nat.mul_le_mul_right K.sz (show j + 1 ≤ n by omega)
      rw [Nat.add_mul] at this
      exact ⟨cs, h6, fun i hi => by rw [List.getElem?_append_left (by omega)]; exact h7 i hi, hK w w' _ _ _ _ (K.own_rd h8)⟩
    · rw [List.getElem?_append_right (by omega)] at hj
      obtain ⟨cs, h6, h7, h8⟩ := hne _ y hj
      refine ⟨cs, h6, fun i hi => ?_, hK w w' _ _ _ _ h8⟩
      have hle := Nat.mul_le_mul_right K.sz (show n ≤ j by omega)
      rw [List.getElem?_append_right (by omega), ← h7 i hi, hcl, hxl, Nat.sub_mul]
      congr 1; omega
/-- append(out, x): one element, whose cells lie at the head of block b. -/
theorem wpList_append_elem (hgd : o.guard = none) (s x : Operand) (t : TypeId) (ho : o.op = .call { callee := .builtin .append, args := #[s, x], argTypes := #[t, t] })
    (e : TypeId) (i : TypeInfo) (z : Value) (bytes : Nat) (ht : P.underlying t = some (.slice e)) (hi : P.info? e = some i) (hz : i.zero = some z)
    (hsize : i.size = K.sz) (hby : i.bytes = bytes) (hzs : z.cells.size = K.sz) (hsz : 0 < K.sz) (hone : OneC K)
    {v : Value} {n b c : Nat} {xs : List α} {y : α} {G : Nat → Prop} {cs : List Value} (hs : a.eval s = v) (hown : Own K e w S v n xs) (hx : a.eval x = .slice (some ⟨b, 0, none⟩) 1 c)
    (hcs : ∀ j u, cs[j]? = some u → w.cell? ⟨b, j, none⟩ = some u) (hy : K.own w G cs y) (hG : ∀ k, G k → k < w.heap.size → ¬ S k)
    (h63 : n + 1 ≤ maxLen) (hbytes : (n + 1) * bytes ≤ 140737488355328)
    (h : ∀ v' w', Own K e w' (fun k => S k ∨ G k ∨ w.heap.size ≤ k) v' (n + 1) (xs ++ [y]) → Turn S w w' → wpList P ops Q rest (a.put o.dst v') w') : wpList P ops Q (o :: rest) a w := by
  obtain ⟨cells, hrow, hS, F, hF, hD, hc⟩ := hown.row
  have hcl : cs.length = K.sz := K.rd_len (K.own_rd hy)
  obtain ⟨v', w', h1, h2, h3, _, h5⟩ := run_append_own_at (P := P) w 0 t o.type e i z K.sz bytes ht hi hz hsize hby hzs hsz v n cells hrow ⟨b, 0, none⟩ 1 c cs (by omega) (fun j u hu => by rw [add_plain', Nat.zero_add]; exact hcs j u hu) (hone _ _ _ _ (K.own_rd hy)) h63 hbytes (Nat.zero_le _)
  refine wpList_plain hgd fun K' hK' => ?_
  unfold Oper.wp execOp
  simp only [ho, resolve, invoke, builtin, Sem.run_bind, Sem.run_pure, Result.andThen_ok, List.map_toArray, List.map_cons, List.map_nil, hs, hx, h1]
  refine hK' _ _ (h v' w' ?_ ((Turn.of_grown h3).mono (fun k hk _ => hS k hk)))
  refine Own.snoc hown.1 hS hF hD hc hrow.1 hcl hy hG h2 h3 (fun g hg => ?_)
  rcases h5 with h6 | h6
  · exact .inl (by rw [← h6]; exact hg)
  · rw [hg] at h6; injection h6 with h6; exact .inr (by omega)
end
end Go.Proofs.Ytkikjoalhohlgaa
