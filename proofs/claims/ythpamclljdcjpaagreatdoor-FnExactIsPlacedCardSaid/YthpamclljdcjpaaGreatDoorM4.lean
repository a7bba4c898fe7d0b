/- Joined texts (App, Spec4c, Own4, Copy4, App2, Sort5, One5, One5b): steps of the proofs of chapter 5's laws. -/
import Derived.Maps.AppendAt
import Derived.Lib.SliceRun
import Derived.Deep.RegionLaw
import Derived.Lib.AppendZerosOnto
import Derived.Shelf.SortG.Plain
import Derived.Shelf.SortG.SortNone
import Derived.IntWalk
import Derived.Test.YthpamclljdcjpaaGreatDoorM1
import Derived.Test.YthpamclljdcjpaaGreatDoorM3
set_option linter.unusedVariables false
set_option linter.unusedSimpArgs false
/- Appending to what is owned: one element that owns its own, or elements that lead to nothing. -/
namespace Go.Proofs.YthpamclljdcjpaaGreatDoor
open Go.RowKit

/-- Data that lead to no further memory. -/
def Flat {α : Type} (K : Lay α) : Prop := ∀ w w' S S' cs x, K.rd w S cs x → K.own w' S' cs x
theorem flat_int : Flat KInt := fun _ _ _ _ _ _ h => h
theorem flat_bool : Flat KBool := fun _ _ _ _ _ _ h => h
/-- Its cells are plain ones. -/
def OneC {α : Type} (K : Lay α) : Prop := ∀ w S cs x, K.rd w S cs x → ∀ c ∈ cs, c.oneCell' = true
theorem one_int : OneC KInt := fun _ _ cs x h c hc => by rw [show cs = [.int .i64 x] from h] at hc; simp at hc; subst hc; rfl
theorem one_bool : OneC KBool := fun _ _ cs x h c hc => by rw [show cs = [.bool x] from h] at hc; simp at hc; subst hc; rfl
theorem one_slice {α : Type} (K : Lay α) (t : TypeId) : OneC (KSlice K t) := fun _ _ cs x ⟨_, _, _, h, _⟩ c hc => by rw [h] at hc; simp at hc; subst hc; rfl
theorem one_pair {α β : Type} {A : Lay α} {B : Lay β} (ha : OneC A) (hb : OneC B) : OneC (KPair A B) := fun w S cs x ⟨c1, c2, h, h1, h2⟩ c hc => by
  rw [h] at hc
  rcases List.mem_append.1 hc with hc | hc
  · exact ha w S c1 _ h1 c hc
  · exact hb w S c2 _ h2 c hc
theorem one_map {α β : Type} {A : Lay α} (f : β → α) (ha : OneC A) : OneC (KMap A f) := fun w S cs x h => ha w S cs (f x) h
theorem flat_pair {α β : Type} {A : Lay α} {B : Lay β} (ha : Flat A) (hb : Flat B) : Flat (KPair A B) := fun w w' _ S' _ _ ⟨c1, c2, h, h1, h2⟩ =>
  ⟨c1, c2, fun _ => False, fun _ => False, h, ha w w' _ _ _ _ h1, hb w w' _ _ _ _ h2, fun _ h => h.elim, fun _ h => h.elim, fun _ h => h.elim⟩
theorem flat_map {α β : Type} {A : Lay α} (f : β → α) (ha : Flat A) : Flat (KMap A f) := fun w w' S S' cs x h => ha w w' S S' cs (f x) h

section
variable {α : Type} {K : Lay α} {w w' : World} {S S' : Nat → Prop}
/-- The cells of a slice that reads, one behind the other. -/
theorem Lst.news {ao : Option Addr} {n : Nat} {xs : List α} (h : Lst K w S ao n xs) : ∃ news : List Value, news.length = n * K.sz ∧ (0 < n → ∃ b off, ao = some ⟨b, off, none⟩ ∧ ∀ j u, news[j]? = some u → w.cell? ⟨b, off + j, none⟩ = some u) ∧
    ∀ j x, xs[j]? = some x → ∃ cs, cs.length = K.sz ∧ (∀ i, i < K.sz → news[j * K.sz + i]? = cs[i]?) ∧ K.rd w S cs x := by
  have hl := h.1
  rcases Nat.eq_zero_or_pos n with rfl | h0
  · exact ⟨[], by simp, fun h => absurd h (by omega), fun j x hj => by have := (List.getElem?_eq_some_iff.1 hj).1; omega⟩
  · obtain ⟨b, off, rfl, hb, hs, hc⟩ := h.2 h0
    have hcell : ∀ j, j < n * K.sz → ∃ u, w.cell? ⟨b, off + j, none⟩ = some u := by
      intro j hj
      have hz : 0 < K.sz := Nat.pos_of_ne_zero (fun e => by rw [e] at hj; simp at hj)
      have hq : j / K.sz < n := Nat.div_lt_of_lt_mul (by rw [Nat.mul_comm]; exact hj)
      obtain ⟨cs, hcl, hcs, _⟩ := hc (j / K.sz) (xs[j / K.sz]'(by omega)) (List.getElem?_eq_getElem _)
      have h1 := hcs (j % K.sz) (Nat.mod_lt _ hz)
      rw [Nat.add_assoc, Nat.mul_comm, Nat.div_add_mod, List.getElem?_eq_getElem (by rw [hcl]; exact Nat.mod_lt _ hz)] at h1
      exact ⟨_, h1⟩
    refine ⟨(List.range (n * K.sz)).map fun j => (w.cell? ⟨b, off + j, none⟩).getD undef, by simp, fun _ => ⟨b, off, rfl, fun j u hj => ?_⟩, fun j x hj => ?_⟩
    · simp only [List.getElem?_map, Option.map_eq_some_iff] at hj
      obtain ⟨j', h1, h2⟩ := hj
      obtain ⟨hlt, rfl⟩ := List.getElem?_eq_some_iff.1 h1
      simp at hlt h2
      obtain ⟨u', hu⟩ := hcell j hlt
      rw [hu] at h2 ⊢; simp at h2; rw [h2]
    · obtain ⟨cs, hcl, hcs, hr⟩ := hc j x hj
      have hjl := (List.getElem?_eq_some_iff.1 hj).1
      refine ⟨cs, hcl, fun i hi => ?_, hr⟩
      have h1 := hcs i hi
      have h2 := Nat.mul_le_mul_right K.sz (show j + 1 ≤ n by omega)
      rw [Nat.add_mul] at h2
      rw [List.getElem?_map, List.getElem?_range (by omega)]
      simp only [Option.map_some]
      rw [← Nat.add_assoc, h1, List.getElem?_eq_getElem (by omega)]; rfl
end

theorem add_plain' (b off j : Nat) : (⟨b, off, none⟩ : Addr).add j = ⟨b, off + j, none⟩ := by unfold Addr.add; split <;> simp_all

section
variable {P : Program} {α : Type} {K : Lay α} {w : World} {S S' : Nat → Prop} {ops : Array Oper} {rest : List Oper} {o : Oper} {a : Act} {Q : Exit → Act → World → Prop}
/-- append(out, xs...), the elements flat. -/
theorem wpList_append_flat (hgd : o.guard = none) (s x : Operand) (t : TypeId) (ho : o.op = .call { callee := .builtin .append, args := #[s, x], argTypes := #[t, t] })
    (e : TypeId) (i : TypeInfo) (z : Value) (bytes : Nat) (ht : P.underlying t = some (.slice e)) (hi : P.info? e = some i) (hz : i.zero = some z)
    (hsize : i.size = K.sz) (hby : i.bytes = bytes) (hzs : z.cells.size = K.sz) (hsz : 0 < K.sz) (hK : Flat K) (hone : OneC K)
    {v : Value} {n m c : Nat} {xs ys : List α} {ao : Option Addr} (hs : a.eval s = v) (hown : Own K e w S v n xs) (hx : a.eval x = .slice ao m c) (hr : Lst K w S' ao m ys)
    (h63 : n + m ≤ maxLen) (hbytes : (n + m) * bytes ≤ 140737488355328)
    (h : ∀ v' w', Own K e w' (fun k => S k ∨ w.heap.size ≤ k) v' (n + m) (xs ++ ys) → Turn S w w' → wpList P ops Q rest (a.put o.dst v') w') : wpList P ops Q (o :: rest) a w := by
  obtain ⟨cells, hrow, hS, F, hF, hD, hc⟩ := hown.row
  obtain ⟨news, hnl, hnc, hne⟩ := hr.news
  have hxl := hown.1
  have hyl := hr.1
  have hone' : ∀ u ∈ news, u.oneCell' = true := by
    intro u hu
    obtain ⟨q, hq, rfl⟩ := List.getElem_of_mem hu
    have hqm : q / K.sz < m := Nat.div_lt_of_lt_mul (by rw [Nat.mul_comm]; omega)
    obtain ⟨cs, hcl, hcs, hrd⟩ := hne (q / K.sz) (ys[q / K.sz]'(by omega)) (List.getElem?_eq_getElem _)
    have h1 := hcs (q % K.sz) (Nat.mod_lt _ hsz)
    rw [Nat.mul_comm, Nat.div_add_mod, List.getElem?_eq_getElem hq] at h1
    exact hone _ _ _ _ hrd _ (List.mem_of_getElem? h1.symm)
  have hrun : ∃ v' w', (Builtin.append_ #[t, t] o.type #[v, .slice ao m c]).run P w = .ok v' w' ∧ w'.ownsRow 0 e K.sz v' (n + m) (cells ++ news) ∧ w.grownBy w' v.ownBlock ∧ (v'.ownBlock = v.ownBlock ∨ v'.ownBlock = some w.heap.size) := by
    cases ao with
    | none =>
      have hm : m = 0 := by
        rcases Nat.eq_zero_or_pos m with h0 | h0
        · exact h0
        · obtain ⟨_, _, h, _⟩ := hnc h0; cases h
      subst hm
      have hnn : news = [] := List.eq_nil_of_length_eq_zero (by simpa using hnl)
      subst hnn
      refine ⟨v, w, ?_, by simpa using hrow, ⟨rfl, rfl, rfl, Nat.le_refl _, fun _ _ _ => rfl⟩, .inl rfl⟩
      rcases hrow.2 with ⟨rfl, rfl⟩ | ⟨g, cap, cur, rfl, _, _, hcap, _⟩
      · simp [Builtin.append_, run_underlying ht, sizeOf, typeInfo, hi, Builtin.lenOf, Builtin.firstCells]
      · simp [Builtin.append_, run_underlying ht, sizeOf, typeInfo, hi, Builtin.lenOf, Builtin.firstCells, hcap, storeCells]
    | some ad =>
      have hcells : ∀ j u, news[j]? = some u → w.cell? (ad.add j) = some u := by
        intro j u hu
        rcases Nat.eq_zero_or_pos m with h0 | h0
        · subst h0
          have hnn : news = [] := List.eq_nil_of_length_eq_zero (by simpa using hnl)
          subst hnn; simp at hu
        · obtain ⟨b, off, he, hc'⟩ := hnc h0
          injection he with he; subst he
          rw [add_plain']; exact hc' j u hu
      obtain ⟨v', w', h1, h2, h3, _, h5⟩ := run_append_own_at (P := P) w 0 t o.type e i z K.sz bytes ht hi hz hsize hby hzs hsz v n cells hrow ad m c news hnl hcells hone' h63 hbytes (Nat.zero_le _)
      exact ⟨v', w', h1, h2, h3, h5⟩
  obtain ⟨v', w', hr1, h2, h3, h5⟩ := hrun
  refine wpList_plain hgd fun K' hK' => ?_
  unfold Oper.wp execOp
  simp only [ho, resolve, invoke, builtin, Sem.run_bind, Sem.run_pure, Result.andThen_ok, List.map_toArray, List.map_cons, List.map_nil, hs, hx, hr1]
  refine hK' _ _ (h v' w' ?_ ((Turn.of_grown h3).mono (fun k hk _ => hS k hk)))
  have hcl : cells.length = n * K.sz := hrow.1
  refine Own.of_row (F := fun _ _ => False) h2 (by simp [hxl, hyl]) (fun g hg => ?_) (fun _ _ h => h.elim) (fun _ _ _ h => h.elim) (fun j y hj => ?_)
  · rcases h5 with h6 | h6
    · exact .inl (hS g (by rw [← h6]; exact hg))
    · rw [hg] at h6; injection h6 with h6; exact .inr (by omega)
  · by_cases e : j < n
    · rw [List.getElem?_append_left (by omega)] at hj
      obtain ⟨cs, h6, h7, h8⟩ := hc j y hj
      have := Nat.mul_le_mul_right K.sz (show j + 1 ≤ n by omega)
      rw [Nat.add_mul] at this
      exact ⟨cs, h6, fun i hi => by rw [List.getElem?_append_left (by omega)]; exact h7 i hi, hK w w' _ _ _ _ (K.own_rd h8)⟩
    · rw [List.getElem?_append_right (by omega)] at hj
      obtain ⟨cs, h6, h7, h8⟩ := hne _ y hj
      refine ⟨cs, h6, fun i hi => ?_, hK w w' _ _ _ _ h8⟩
      have hle := Nat.mul_le_mul_right K.sz (show n ≤ j by omega)
      rw [List.getElem?_append_right (by omega), ← h7 i hi, hcl, hxl, Nat.sub_mul]
      congr 1; omega
/-- append(out, x): one element, whose cells lie at the head of block b. -/
theorem wpList_append_elem (hgd : o.guard = none) (s x : Operand) (t : TypeId) (ho : o.op = .call { callee := .builtin .append, args := #[s, x], argTypes := #[t, t] })
    (e : TypeId) (i : TypeInfo) (z : Value) (bytes : Nat) (ht : P.underlying t = some (.slice e)) (hi : P.info? e = some i) (hz : i.zero = some z)
    (hsize : i.size = K.sz) (hby : i.bytes = bytes) (hzs : z.cells.size = K.sz) (hsz : 0 < K.sz) (hone : OneC K)
    {v : Value} {n b c : Nat} {xs : List α} {y : α} {G : Nat → Prop} {cs : List Value} (hs : a.eval s = v) (hown : Own K e w S v n xs) (hx : a.eval x = .slice (some ⟨b, 0, none⟩) 1 c)
    (hcs : ∀ j u, cs[j]? = some u → w.cell? ⟨b, j, none⟩ = some u) (hy : K.own w G cs y) (hG : ∀ k, G k → k < w.heap.size → ¬ S k)
    (h63 : n + 1 ≤ maxLen) (hbytes : (n + 1) * bytes ≤ 140737488355328)
    (h : ∀ v' w', Own K e w' (fun k => S k ∨ G k ∨ w.heap.size ≤ k) v' (n + 1) (xs ++ [y]) → Turn S w w' → wpList P ops Q rest (a.put o.dst v') w') : wpList P ops Q (o :: rest) a w := by
  obtain ⟨cells, hrow, hS, F, hF, hD, hc⟩ := hown.row
  have hcl : cs.length = K.sz := K.rd_len (K.own_rd hy)
  obtain ⟨v', w', h1, h2, h3, _, h5⟩ := run_append_own_at (P := P) w 0 t o.type e i z K.sz bytes ht hi hz hsize hby hzs hsz v n cells hrow ⟨b, 0, none⟩ 1 c cs (by omega) (fun j u hu => by rw [add_plain', Nat.zero_add]; exact hcs j u hu) (hone _ _ _ _ (K.own_rd hy)) h63 hbytes (Nat.zero_le _)
  refine wpList_plain hgd fun K' hK' => ?_
  unfold Oper.wp execOp
  simp only [ho, resolve, invoke, builtin, Sem.run_bind, Sem.run_pure, Result.andThen_ok, List.map_toArray, List.map_cons, List.map_nil, hs, hx, h1]
  refine hK' _ _ (h v' w' ?_ ((Turn.of_grown h3).mono (fun k hk _ => hS k hk)))
  refine Own.snoc hown.1 hS hF hD hc hrow.1 hcl hy hG h2 h3 (fun g hg => ?_)
  rcases h5 with h6 | h6
  · exact .inl (by rw [← h6]; exact hg)
  · rw [hg] at h6; injection h6 with h6; exact .inr (by omega)
end
end Go.Proofs.YthpamclljdcjpaaGreatDoor

/- Chapter 4 of the model: copies of pages. -/
namespace Go.Proofs.YthpamclljdcjpaaGreatDoor
open Go.RowKit

theorem infoPage : (Tryz.prog.info? 137).map (fun i => (i.zero, i.size, i.bytes)) = some (some (.agg #[.int .i64 0, .int .i64 0, .slice none 0 0, .int .i64 0]), 4, 48) := by kernel_rfl
theorem one_page : OneC KPage := one_map _ (one_pair one_int (one_pair one_int (one_pair (one_slice _ _) one_int)))
/-- An empty slice in a new block. -/
theorem Own.empty {α : Type} {K : Lay α} {t : TypeId} {w : World} {S : Nat → Prop} {b : Nat} (hr : Row w b t #[]) (hS : S b) : Own K t w S (.slice (some ⟨b, 0, none⟩) 0 0) 0 [] :=
  ⟨rfl, .inr ⟨b, 0, #[], fun _ _ => False, rfl, hS, hr, Nat.le_refl _, Nat.zero_le _, by simp, fun _ _ h => h.elim, fun _ _ _ h => h.elim, fun j x hj => by simp at hj⟩⟩

set_option maxRecDepth 100000 in
set_option maxHeartbeats 1000000 in
theorem l4Copy_calls {ao : Option Addr} {n cc : Nat} {ps : List Pg} {S : Nat → Prop} {w : World} (hT : Lst KPage w S ao n ps) (hS : ShortP 17592186044416 ps) (hn : n ≤ 1048576) :
    Calls Tryz.prog 103 #[.slice ao n cc] w fun e w' => ∃ v, e = .returned v ∧ Own KPage 137 w' (fun k => w.heap.size ≤ k) v n ps ∧ Below w.heap.size w w' := by
  obtain ⟨ip, hip, hp0, hp1, hp2⟩ := info_parts infoPage
  obtain ⟨ib, hib, hb0, hb1, hb2⟩ := info_parts infoBool
  have HL := Lib.hid hT.1
  have HS := Lib.hid hS
  go_enter Tryz.func103, Tryz.ntmps103
  go_wp2_with fail
  have hown0 : Own KPage 137 (w.alloc (.cells #[] 137)) (fun k => w.heap.size ≤ k) (.slice (some ⟨w.heap.size, 0, none⟩) 0 0) 0 (ps.take 0) := by
    rw [List.take_zero]; exact Own.empty (heap_alloc_new _ _) (Nat.le_refl _)
  go_loopw [3, 4, 5] (fun v i _ wr => ∃ k : Nat, k ≤ n ∧ i = .int .i64 k ∧ Own KPage 137 wr (fun k => w.heap.size ≤ k) v k (ps.take k) ∧ Below w.heap.size w wr) (fun _ i _ _ => n - (intOf i).toNat)
  case atStart => exact ⟨0, Nat.zero_le _, rfl, hown0, (Below.refl _ _).alloc (Nat.le_refl _) _⟩
  case round =>
    clear hown0
    obtain ⟨k, hk, rfl, hO, hbw⟩ := hrel
    by_cases hlt : k < n
    · obtain ⟨b, off, p, a, l, c, rfl, d0, hp, e0, e1, e2, e3, hlc, hcm, hu⟩ := (hT.below hbw).pg_at hlt
      have HP := Lib.hid hp
      have hl : l ≤ 17592186044416 := by have := HS.out.at_ hp; have := hu.1; omega
      clear hp hcm
      obtain ⟨g, hg⟩ : ∃ g, g = wr.heap.size := ⟨_, rfl⟩
      have HG := Lib.hid hg
      have hE : Own KBool 4 ((wr.alloc (.cells #[.int .i64 p.kind, .int .i64 p.cls, .slice a l c, .int .i64 p.run] 137)).alloc (.cells #[] 4)) (fun q => q = wr.heap.size + 1) (.slice (some ⟨wr.heap.size + 1, 0, none⟩) 0 0) 0 [] :=
        Own.empty (by have := heap_alloc_new (wr.alloc (.cells #[.int .i64 p.kind, .int .i64 p.cls, .slice a l c, .int .i64 p.run] 137)) (.cells #[] 4); simpa [Row] using this) rfl
      clear hg
      go_wp2_with (first
        | (at_builtin
           refine wpList_append_flat (K := KBool) rfl (.tmp 17) (.tmp 19) 135 rfl 4 ib (.bool false) 1 Tryz.underlying135 hib hb0 hb1 hb2 rfl (by decide) flat_bool one_bool (v := .slice (some ⟨wr.heap.size + 1, 0, none⟩) 0 0) (n := 0) (ao := a) (m := l) (c := c) rfl hE rfl ((hu.alloc _).alloc _) (by unfold maxLen; omega) (by omega) ?_
           intro v1 w1 ho1 ht1
           have hr1 : Row w1 wr.heap.size 137 #[.int .i64 p.kind, .int .i64 p.cls, .slice a l c, .int .i64 p.run] := ht1.row (by
             have h1 := heap_alloc_new wr (.cells #[.int .i64 p.kind, .int .i64 p.cls, .slice a l c, .int .i64 p.run] 137)
             exact (heap_alloc_old _ _ (by simp)).trans h1) (fun e => by omega)
           have r0 := hr1.cell 0
           have r1 := hr1.cell 1
           have r2 := hr1.cell 2
           have r3 := hr1.cell 3
           have f2 := frozen_of_row w1 wr.heap.size 2 _ _ hr1
           have hs1 : wr.heap.size + 2 ≤ w1.heap.size := by have := ht1.size; simp at this; omega
           have hO1 := ((hO.here.alloc (.cells #[.int .i64 p.kind, .int .i64 p.cls, .slice a l c, .int .i64 p.run] 137)).alloc (.cells #[] 4)).turn ht1 (fun q hq _ e => by omega)
           simp only [Nat.zero_add, List.nil_append] at ho1
           obtain ⟨vo, vc, rfl, hvc, _, _⟩ := ho1.shape
           have H1 := Lib.hid (And.intro ho1 (And.intro hO1 ht1))
           clear ho1 hO1 ht1 hr1 hE hO
           simp at r0 r1 r2 r3)
        | (at_builtin
           have hO3 := (H1.out.2.1.turn (Turn.set w1 ⟨wr.heap.size, 2, none⟩ (.slice vo l vc)) (fun q hq _ e => by have e' : q = wr.heap.size := e; omega)).alloc (.cells #[.int .i64 p.kind, .int .i64 p.cls, .slice vo l vc, .int .i64 p.run] 137)
           have hU3 := (H1.out.1.turn (Turn.set w1 ⟨wr.heap.size, 2, none⟩ (.slice vo l vc)) (fun q hq _ e => by have e' : q = wr.heap.size := e; rcases hq with h | h <;> (try simp at h) <;> omega)).alloc (.cells #[.int .i64 p.kind, .int .i64 p.cls, .slice vo l vc, .int .i64 p.run] 137)
           have hcs : ∀ j u, [Value.int .i64 p.kind, .int .i64 p.cls, .slice vo l vc, .int .i64 p.run][j]? = some u → ((w1.setCell ⟨wr.heap.size, 2, none⟩ (.slice vo l vc)).alloc (.cells #[.int .i64 p.kind, .int .i64 p.cls, .slice vo l vc, .int .i64 p.run] 137)).cell? ⟨w1.heap.size, j, none⟩ = some u := fun j u h => by
             have h1 := heap_alloc_new (w1.setCell ⟨wr.heap.size, 2, none⟩ (.slice vo l vc)) (.cells #[.int .i64 p.kind, .int .i64 p.cls, .slice vo l vc, .int .i64 p.run] 137)
             rw [World.size_setCell] at h1
             rw [cell_of_row _ _ _ _ _ _ h1]; simpa using h
           refine wpList_append_elem (K := KPage) rfl (.tmp 22) (.tmp 24) 24 rfl 137 ip (.agg #[.int .i64 0, .int .i64 0, .slice none 0 0, .int .i64 0]) 48 Tryz.underlying24 hip hp0 hp1 hp2 rfl (by decide) one_page rfl hO3 rfl hcs (KPage_own_mk hU3) (fun q hq _ hs => by have h1 := hs.2; rcases hq with h | h <;> (try simp at h) <;> omega) (by unfold maxLen; omega) (by omega) ?_
           intro v2 w2 ho2 ht2
           have H2 := Lib.hid (And.intro ho2 (And.intro ht2 H1.out.2.2))
           clear ho2 ht2 hO3 hU3 hcs))
      have F : Hid (Own KPage 137 w2 (fun q => w.heap.size ≤ q) v2 (k + 1) (ps.take (k + 1)) ∧ Below w.heap.size w w2) := by
        obtain ⟨h1, h2, h3⟩ := H2.out
        refine ⟨?_, ?_⟩
        · rw [List.take_succ_eq_append_getElem (List.getElem?_eq_some_iff.1 HP.out).1, (List.getElem?_eq_some_iff.1 HP.out).2]
          exact h1.mono (fun q hq hlt => by
            have := hbw.size
            rcases hq with h | h | h
            · exact h.1
            · rcases h with h | h <;> (try simp at h) <;> omega
            · simp at h; omega)
        · refine h2.below ((((h3.below ((hbw.alloc hbw.size _).alloc (by simp; have := hbw.size; omega) _) (by simp; have := hbw.size; omega) (fun q hq => by have := hbw.size; omega)).setCell (by simpa using hbw.size) _)).alloc (by simp; have := hbw.size; omega) _) (by simp; have := hbw.size; omega) (fun q hq => hq.1)
      clear H1 H2 hbw
      go_roundw
      case rel => exact ⟨k + 1, by omega, by go_num, F.out.1, F.out.2⟩
      case measure => simp [intOf]; omega
    · obtain rfl : k = n := by omega
      have F : Hid (Own KPage 137 wr (fun q => w.heap.size ≤ q) u3 k ps ∧ Below w.heap.size w wr) := by
        rw [List.take_of_length_le (by rw [HL.out]; omega)] at hO; exact ⟨hO, hbw⟩
      clear hO hbw
      go_wp2_with fail
      go_ret
      exact ⟨_, rfl, F.out.1, F.out.2⟩
end Go.Proofs.YthpamclljdcjpaaGreatDoor

/- Pages that are owned: one of them turned. -/
namespace Go.Proofs.YthpamclljdcjpaaGreatDoor
open Go.RowKit

/-- One page of those that are owned: its cells; another one in its place; other slots in it. -/
theorem Own.pg_at {w : World} {S : Nat → Prop} {v : Value} {n : Nat} {ps : List Pg} (h : Own KPage 137 w S v n ps) {j : Nat} (hj : j < n) :
    ∃ g cap p a l c F, v = .slice (some ⟨g, 0, none⟩) n cap ∧ g < w.heap.size ∧ S g ∧ ps[j]? = some p ∧
      (w.cell? ⟨g, j * 4, none⟩ = some (.int .i64 p.kind) ∧ w.cell? ⟨g, j * 4 + 1, none⟩ = some (.int .i64 p.cls) ∧ w.cell? ⟨g, j * 4 + 2, none⟩ = some (.slice a l c) ∧ w.cell? ⟨g, j * 4 + 3, none⟩ = some (.int .i64 p.run)) ∧
      (w.frozen? ⟨g, j * 4, none⟩ = false ∧ w.frozen? ⟨g, j * 4 + 1, none⟩ = false ∧ w.frozen? ⟨g, j * 4 + 2, none⟩ = false ∧ w.frozen? ⟨g, j * 4 + 3, none⟩ = false) ∧
      (Own KBool 4 w F (.slice a l c) l p.used ∧ (∀ k, F k → S k ∧ k ≠ g ∧ k < w.heap.size) ∧ l ≤ c ∧ c ≤ maxLen) ∧
      (∀ (w1 : World) (q : Pg) (vq : Value) (m : Nat) (G : Nat → Prop), Turn (fun _ => False) w w1 → Own KBool 4 w1 G vq m q.used → (∀ k, G k → k < w.heap.size → ¬ S k) →
        Own KPage 137 ((((w1.setCell ⟨g, j * 4, none⟩ (.int .i64 q.kind)).setCell ⟨g, j * 4 + 1, none⟩ (.int .i64 q.cls)).setCell ⟨g, j * 4 + 2, none⟩ vq).setCell ⟨g, j * 4 + 3, none⟩ (.int .i64 q.run)) (fun k => S k ∨ G k) v n (ps.set j q) ∧
        Turn S w ((((w1.setCell ⟨g, j * 4, none⟩ (.int .i64 q.kind)).setCell ⟨g, j * 4 + 1, none⟩ (.int .i64 q.cls)).setCell ⟨g, j * 4 + 2, none⟩ vq).setCell ⟨g, j * 4 + 3, none⟩ (.int .i64 q.run)) ∧
        ((((w1.setCell ⟨g, j * 4, none⟩ (.int .i64 q.kind)).setCell ⟨g, j * 4 + 1, none⟩ (.int .i64 q.cls)).setCell ⟨g, j * 4 + 2, none⟩ vq).setCell ⟨g, j * 4 + 3, none⟩ (.int .i64 q.run)).cell? ⟨g, j * 4 + 2, none⟩ = some vq) ∧
      (∀ (w1 : World) (us : List Bool), Turn F w w1 → Own KBool 4 w1 F (.slice a l c) l us → Own KPage 137 w1 S v n (ps.set j ⟨p.kind, p.cls, us, p.run⟩) ∧ Turn S w w1) := by
  obtain ⟨g, cap, cs, F, p, rfl, hg, hp, hcl, hu, ho, hF, hst⟩ := h.focus hj
  obtain ⟨v0, l, rfl, hU⟩ := KPage_own ho
  obtain ⟨a, c, rfl, hlc, hcm, _⟩ := hU.shape
  rw [KPage_sz] at hu hst
  obtain ⟨c0, c1, c2, c3, hcs, g0, q0, q1, q2, q3, f0, f1, f2, f3⟩ := hu.cells4 rfl
  injection hcs with e0 hcs; injection hcs with e1 hcs; injection hcs with e2 hcs; injection hcs with e3
  subst e0 e1 e2 e3
  refine ⟨g, cap, p, a, l, c, F, rfl, g0, hg, hp, ⟨q0, q1, q2, q3⟩, ⟨f0, f1, f2, f3⟩, ⟨hU, hF, hlc, hcm⟩, fun w1 q vq m G hT hQ hG => ?_, fun w1 us hT hQ => ⟨?_, ?_⟩⟩
  · have hb := hT.none_
    have hT4 := Turn.set4 (w1 := w1) (g := g) (o0 := j * 4) (o1 := j * 4 + 1) (o2 := j * 4 + 2) (o3 := j * 4 + 3) (a := .int .i64 q.kind) (b := .int .i64 q.cls) (c := vq) (d := .int .i64 q.run)
    have hT5 : Turn (fun k => k = g) w _ := (Turn.of_below hb).trans hT4 (fun _ h _ => h)
    have hu1 := hu.turn (T := fun _ => False) hT (fun h => h)
    refine ⟨?_, hT5.mono (fun k hk _ => by rw [hk]; exact hg), (hu1.set4 rfl).cell.2.1 2 (by simp)⟩
    have hQ2 := hQ.turn hT4 (fun k hk _ e => hG k hk (by omega) (e ▸ hg))
    exact hst _ G _ q rfl (hT5.mono (fun k hk _ => .inr hk)) (hu1.set4 rfl) (KPage_own_mk hQ2) (fun k hk => .inr (fun h => hG k hk h.2 h.1))
  · have h1 := hst w1 F [.int .i64 p.kind, .int .i64 p.cls, .slice a l c, .int .i64 p.run] ⟨p.kind, p.cls, us, p.run⟩ rfl (hT.mono (fun k hk _ => .inl hk)) (hu.turn hT (fun h => (hF g h).2.1 rfl)) (KPage_own_mk (p := ⟨p.kind, p.cls, us, p.run⟩) hQ) (fun k hk => .inl hk)
    exact h1.mono (fun k hk _ => hk.elim id (fun h => (hF k h).1))
  · exact hT.mono (fun k hk _ => (hF k hk).1)
end Go.Proofs.YthpamclljdcjpaaGreatDoor

/- Chapter 4 of the program: copies of pages. -/
namespace Go.Proofs.YthpamclljdcjpaaGreatDoor
open Go.RowKit

/-- Plain cells of which nothing is said but what they are. -/
def KRaw (n : Nat) : Lay (List Value) where
  sz := n
  rd _ _ cs x := cs = x ∧ cs.length = n ∧ ∀ c ∈ cs, c.oneCell' = true
  own _ _ cs x := cs = x ∧ cs.length = n ∧ ∀ c ∈ cs, c.oneCell' = true
  rd_len h := h.2.1
  rd_turn h _ _ := h
  rd_mono h _ := h
  own_turn h _ _ := h
  own_mono h _ := h
  own_rd h := h
theorem flat_raw (n : Nat) : Flat (KRaw n) := fun _ _ _ _ _ _ h => h
theorem one_raw (n : Nat) : OneC (KRaw n) := fun _ _ _ _ h => h.2.2
theorem exists_list {α β : Type} {P : Nat → α → β → Prop} : ∀ {xs : List α}, (∀ j x, xs[j]? = some x → ∃ y, P j x y) → ∃ ys : List β, ys.length = xs.length ∧ ∀ j x, xs[j]? = some x → ∃ y, ys[j]? = some y ∧ P j x y
  | [], _ => ⟨[], rfl, fun j x h => by simp at h⟩
  | q :: r, h => by
    obtain ⟨y, hy⟩ := h 0 q (by simp)
    obtain ⟨ys, hl, hys⟩ := exists_list (P := fun j x y => P (j + 1) x y) (xs := r) (fun j x hj => h (j + 1) x (by simpa using hj))
    refine ⟨y :: ys, by simp [hl], fun j x hj => ?_⟩
    cases j with
    | zero => simp at hj; subst hj; exact ⟨y, by simp, hy⟩
    | succ j => obtain ⟨z, hz, hp⟩ := hys j x (by simpa using hj); exact ⟨z, by simpa using hz, hp⟩
theorem Lst.raw {α : Type} {K : Lay α} {w : World} {S : Nat → Prop} {ao : Option Addr} {n : Nat} {xs : List α} (h : Lst K w S ao n xs) (h1 : OneC K) :
    ∃ cks : List (List Value), Lst (KRaw K.sz) w S ao n cks ∧ ∀ (j : Nat) (x : α), xs[j]? = some x → ∃ cs, cks[j]? = some cs ∧ K.rd w S cs x := by
  have hl := h.1
  rcases Nat.eq_zero_or_pos n with rfl | h0
  · exact ⟨[], Lst.nil, fun j x hj => by have := (List.getElem?_eq_some_iff.1 hj).1; omega⟩
  · obtain ⟨b, off, rfl, hb, hs, hc⟩ := h.2 h0
    obtain ⟨cks, hcl, hck⟩ := exists_list (P := fun j x cs => cs.length = K.sz ∧ (∀ i, i < K.sz → w.cell? ⟨b, off + j * K.sz + i, none⟩ = cs[i]?) ∧ K.rd w S cs x) (xs := xs) hc
    refine ⟨cks, ⟨by omega, fun _ => ⟨b, off, rfl, hb, hs, fun j cs hj => ?_⟩⟩, fun j x hj => ?_⟩
    · have hjl := (List.getElem?_eq_some_iff.1 hj).1
      obtain ⟨cs', h2, h3, h4, h5⟩ := hck j (xs[j]'(by omega)) (List.getElem?_eq_getElem _)
      rw [hj] at h2; injection h2 with h2; subst h2
      exact ⟨cs, h3, h4, rfl, h3, h1 _ _ _ _ h5⟩
    · obtain ⟨cs', h2, h3, h4, h5⟩ := hck j x hj
      exact ⟨cs', h2, h5⟩
theorem Own.map {α β : Type} {K : Lay α} {K' : Lay β} {t : TypeId} {w : World} {S : Nat → Prop} {v : Value} {n : Nat} {xs : List α} {ys : List β} (h : Own K t w S v n xs) (hs : K'.sz = K.sz) (hl : ys.length = n)
    (hm : ∀ (w : World) (S : Nat → Prop) (cs : List Value) (j : Nat) (x : α) (y : β), xs[j]? = some x → ys[j]? = some y → K.own w S cs x → K'.own w S cs y) : Own K' t w S v n ys := by
  have hxl := h.1
  refine ⟨hl, ?_⟩
  rcases h.2 with h2 | ⟨g, cap, cur, F, hv, hg, hr, h1, h2, h3, hF, hD, hc⟩
  · exact .inl h2
  · refine .inr ⟨g, cap, cur, F, hv, hg, hr, h1, h2, by rw [hs]; exact h3, hF, hD, fun j y hj => ?_⟩
    have hjl := (List.getElem?_eq_some_iff.1 hj).1
    have hx : xs[j]? = some (xs[j]'(by omega)) := List.getElem?_eq_getElem _
    obtain ⟨cs, hcl, hcs, ho⟩ := hc j _ hx
    exact ⟨cs, by rw [hs]; exact hcl, by rw [hs]; exact hcs, hm _ _ _ _ _ _ hx hj ho⟩

theorem nil_none {α : Type} {K : Lay α} {w : World} {S : Nat → Prop} {n : Nat} {xs : List α} (h : Lst K w S none n xs) : n = 0 ∧ xs = [] := by
  have hn : n = 0 := by
    rcases Nat.eq_zero_or_pos n with h0 | h0
    · exact h0
    · obtain ⟨_, _, he, _⟩ := h.2 h0; cases he
  exact ⟨hn, List.eq_nil_of_length_eq_zero (by rw [h.1, hn])⟩

theorem cloneB_calls {a : Option Addr} {n c : Nat} {us : List Bool} {S : Nat → Prop} {w : World} (hu : Lst KBool w S a n us) (hn : n ≤ 17592186044416) :
    Calls Tryz.prog 176 #[.slice a n c] w fun e w' => ∃ v, e = .returned v ∧ Own KBool 4 w' (fun k => w.heap.size ≤ k) v n us ∧ Below w.heap.size w w' := by
  obtain ⟨ib, hib, hb0, hb1, hb2⟩ := info_parts infoBool
  have qT : ∀ (w : World) (a : Option Addr) (n c n' c' : Nat), (binOp .eql 135 (.slice a n c) (.slice none n' c')).run Tryz.prog w = .ok (.bool a.isNone) w := fun w a n c n' c' => Lib.run_eql_slice_nil w _ _ a n c n' c' Tryz.underlying135
  rcases a with _ | ad
  · obtain ⟨rfl, rfl⟩ := nil_none hu
    go_enter Tryz.func176, Tryz.ntmps176
    go_wp2_with fail
    go_ret
    exact ⟨_, rfl, Own.nil, Below.refl _ _⟩
  · have hE : Own KBool 4 (w.alloc (.cells #[] 4)) (fun q => q = w.heap.size) (.slice (some ⟨w.heap.size, 0, none⟩) 0 0) 0 [] := Own.empty (heap_alloc_new w (.cells #[] 4)) rfl
    go_enter Tryz.func176, Tryz.ntmps176
    go_wp2_with (
      at_builtin
      refine wpList_append_flat (K := KBool) rfl (.tmp 5) (.tmp 6) 135 rfl 4 ib (.bool false) 1 Tryz.underlying135 hib hb0 hb1 hb2 rfl (by decide) flat_bool one_bool (v := .slice (some ⟨w.heap.size, 0, none⟩) 0 0) (n := 0) (ao := some ad) (m := n) (c := c) rfl hE rfl (hu.alloc _) (by unfold maxLen; omega) (by omega) ?_
      intro v1 w1 ho1 ht1
      simp only [Nat.zero_add, List.nil_append] at ho1
      have H1 := Lib.hid (And.intro ho1 ht1)
      clear ho1 ht1)
    go_ret
    refine ⟨v1, rfl, H1.out.1.mono (fun k hk _ => by rcases hk with h | h <;> (try simp at h) <;> omega), H1.out.2.below ((Below.refl _ _).alloc (Nat.le_refl _) _) (by simp) (fun k hk => by omega)⟩

/-- What a copy of pages leaves that shares what they lead to. -/
def Shallow (w : World) (S : Nat → Prop) (n : Nat) (ps : List Pg) (e : Ending) (w' : World) : Prop :=
  ∃ v cks, e = .returned v ∧ Own (KRaw 4) 137 w' (fun k => w.heap.size ≤ k) v n cks ∧ (∀ (j : Nat) (p : Pg), ps[j]? = some p → ∃ cs, cks[j]? = some cs ∧ KPage.rd w S cs p) ∧ Below w.heap.size w w'
set_option maxRecDepth 100000 in
theorem cloneP_calls {a : Option Addr} {n c : Nat} {ps : List Pg} {S : Nat → Prop} {w : World} (hT : Lst KPage w S a n ps) (hn : n ≤ 1048576) :
    Calls Tryz.prog 175 #[.slice a n c] w (Shallow w S n ps) := by
  obtain ⟨ip, hip, hp0, hp1, hp2⟩ := info_parts infoPage
  have qT : ∀ (w : World) (a : Option Addr) (n c n' c' : Nat), (binOp .eql 24 (.slice a n c) (.slice none n' c')).run Tryz.prog w = .ok (.bool a.isNone) w := fun w a n c n' c' => Lib.run_eql_slice_nil w _ _ a n c n' c' Tryz.underlying24
  obtain ⟨cks, hR, hrd⟩ := hT.raw one_page
  have HR := Lib.hid hrd
  clear hrd
  rcases a with _ | ad
  · obtain ⟨rfl, rfl⟩ := nil_none hT
    go_enter Tryz.func175, Tryz.ntmps175
    go_wp2_with fail
    go_ret
    exact ⟨_, [], rfl, Own.nil, fun j p hj => by simp at hj, Below.refl _ _⟩
  · have hE : Own (KRaw 4) 137 (w.alloc (.cells #[] 137)) (fun q => q = w.heap.size) (.slice (some ⟨w.heap.size, 0, none⟩) 0 0) 0 [] := Own.empty (heap_alloc_new w (.cells #[] 137)) rfl
    have hR2 : Lst (KRaw 4) w S (some ad) n cks := hR
    clear hR
    go_enter Tryz.func175, Tryz.ntmps175
    go_wp2_with (
      at_builtin
      refine wpList_append_flat (K := KRaw 4) rfl (.tmp 5) (.tmp 6) 24 rfl 137 ip (.agg #[.int .i64 0, .int .i64 0, .slice none 0 0, .int .i64 0]) 48 Tryz.underlying24 hip hp0 hp1 hp2 rfl (by decide) (flat_raw 4) (one_raw 4) (v := .slice (some ⟨w.heap.size, 0, none⟩) 0 0) (n := 0) (ao := some ad) (m := n) (c := c) rfl hE rfl (hR2.alloc _) (by unfold maxLen; omega) (by omega) ?_
      intro v1 w1 ho1 ht1
      simp only [Nat.zero_add, List.nil_append] at ho1
      have H1 := Lib.hid (And.intro ho1 ht1)
      clear ho1 ht1)
    go_ret
    exact ⟨v1, cks, rfl, H1.out.1.mono (fun k hk _ => by rcases hk with h | h <;> (try simp at h) <;> omega), HR.out, H1.out.2.below ((Below.refl _ _).alloc (Nat.le_refl _) _) (by simp) (fun k hk => by omega)⟩

/-- Of the pages the first k are copied whole, of the others the cells alone. -/
def KMix : Lay (Pg ⊕ List Value) := KEither KPage (KRaw 4) rfl
def mixTo (ps : List Pg) (cks : List (List Value)) (k : Nat) : List (Pg ⊕ List Value) := (ps.take k).map .inl ++ (cks.drop k).map .inr
theorem length_mixTo {ps : List Pg} {cks : List (List Value)} {k : Nat} (h : cks.length = ps.length) (hk : k ≤ ps.length) : (mixTo ps cks k).length = ps.length := by simp [mixTo]; omega
theorem mixTo_at {ps : List Pg} {cks : List (List Value)} {k : Nat} {cs : List Value} (hk : k ≤ ps.length) (h : cks[k]? = some cs) : (mixTo ps cks k)[k]? = some (.inr cs) := by
  unfold mixTo
  rw [List.getElem?_append_right (by simp; omega)]
  simp only [List.length_map, List.length_take, Nat.min_eq_left hk, Nat.sub_self, List.getElem?_map, List.getElem?_drop, Nat.add_zero, h]; rfl
theorem mixTo_step {ps : List Pg} {cks : List (List Value)} {k : Nat} {p : Pg} (h : ps[k]? = some p) (hc : k < cks.length) : (mixTo ps cks k).set k (.inl p) = mixTo ps cks (k + 1) := by
  obtain ⟨hk, rfl⟩ := List.getElem?_eq_some_iff.1 h
  unfold mixTo
  have hl : ((ps.take k).map (Sum.inl (β := List Value))).length = k := by simp; omega
  rw [List.set_append_right _ _ (by omega), hl, Nat.sub_self, List.drop_eq_getElem_cons hc, List.map_cons, List.set_cons_zero, List.take_succ_eq_append_getElem hk, List.map_append, List.append_assoc]
  rfl

set_option maxRecDepth 100000 in
set_option maxHeartbeats 2000000 in
theorem copyPages_calls {a : Option Addr} {n c : Nat} {ps : List Pg} {S : Nat → Prop} {w : World} (hT : Lst KPage w S a n ps) (hS : ShortP 17592186044416 ps) (hn : n ≤ 1048576) :
    Calls Tryz.prog 130 #[.slice a n c] w fun e w' => ∃ v, e = .returned v ∧ Own KPage 137 w' (fun k => w.heap.size ≤ k) v n ps ∧ Below w.heap.size w w' := by
  have HL := Lib.hid hT.1
  have HS := Lib.hid hS
  go_enter Tryz.func130, Tryz.ntmps130
  go_wp2_with fail
  refine (cloneP_calls hT hn).mono ?_
  rintro e w1 ⟨v, cks, rfl, hown, hrd, hb1⟩
  have HR := Lib.hid hrd
  have HC := Lib.hid hown.1
  have hM : Own KMix 137 w1 (fun k => w.heap.size ≤ k) v n (mixTo ps cks 0) :=
    hown.map rfl (by rw [length_mixTo (by rw [hown.1, HL.out]) (Nat.zero_le _), HL.out]) (fun w S cs j x y hx hy ho => by
      simp only [mixTo, List.take_zero, List.map_nil, List.nil_append, List.drop_zero, List.getElem?_map, hx, Option.map_some, Option.some.injEq] at hy
      subst hy; exact ho)
  obtain ⟨vo, vc, rfl, _, _, _⟩ := hown.shape
  clear hown hrd
  go_wp2_with fail
  go_loopw [4, 9] (fun _ i wr => ∃ k : Nat, k ≤ n ∧ i = .int .i64 k ∧ Own KMix 137 wr (fun k => w.heap.size ≤ k) (.slice vo n vc) n (mixTo ps cks k) ∧ Below w.heap.size w wr) (fun _ i _ => n - (intOf i).toNat)
  case atStart => exact ⟨0, Nat.zero_le _, rfl, hM, hb1⟩
  case round =>
    clear hM hb1
    obtain ⟨k, hk, rfl, hO, hbw⟩ := hrel
    by_cases hlt : k < n
    · obtain ⟨p, hp⟩ : ∃ p, ps[k]? = some p := ⟨_, List.getElem?_eq_getElem (by rw [HL.out]; exact hlt)⟩
      obtain ⟨cs, hcs, hrd⟩ := HR.out k p hp
      obtain ⟨a0, l, c0, rfl, hlc, hcm, hu⟩ := KPage_rd hrd
      obtain ⟨g, cap, cs', F, x, he, hgS, hx, hcl, hu0, ho0, hF, hst⟩ := hO.here.focus hlt
      cases he
      rw [mixTo_at (by rw [HL.out]; exact hk) hcs] at hx
      injection hx with hx; subst hx
      obtain rfl : cs' = [.int .i64 p.kind, .int .i64 p.cls, .slice a0 l c0, .int .i64 p.run] := ho0.1
      rw [show KMix.sz = 4 from rfl] at hu0 hst hcl
      obtain ⟨c0', c1, c2, c3, hcs', g0, q0, q1, q2, q3, f0, f1, f2, f3⟩ := hu0.cells4 hcl
      injection hcs' with e0 hcs'; injection hcs' with e1 hcs'; injection hcs' with e2 hcs'; injection hcs' with e3
      subst e0 e1 e2 e3
      have hl : l ≤ 17592186044416 := by have := HS.out.at_ hp; have := hu.1; omega
      have hu2 := hu.below hbw
      have HP := Lib.hid hp
      have HST := Lib.hid hst
      have HU := Lib.hid hu0
      clear hp hcs hrd hu hcm hst hu0 hF
      go_wp2_with fail
      refine (cloneB_calls hu2 hl).mono ?_
      rintro e w2 ⟨v2, rfl, hown2, hb2⟩
      obtain ⟨vo2, vc2, rfl, _, _, _⟩ := hown2.shape
      have r2 := (hb2.cell (p := ⟨g, k * 4 + 2, none⟩) g0).trans q2
      have d2 := (hb2.frozen (p := ⟨g, k * 4 + 2, none⟩) g0).trans f2
      have U1 := (HU.out.turn (T := fun _ => False) (Turn.of_below hb2) (fun h => h)).set (i := 2) (u := .slice vo2 l vc2) (by simp)
      have T1 : Turn (fun k => k = g) wr (w2.setCell ⟨g, k * 4 + 2, none⟩ (.slice vo2 l vc2)) := (Turn.of_below hb2).trans (Turn.set w2 ⟨g, k * 4 + 2, none⟩ (.slice vo2 l vc2)) (fun _ h _ => h)
      have ho2 := hown2.turn (Turn.set w2 ⟨g, k * 4 + 2, none⟩ (.slice vo2 l vc2)) (fun q hq _ e => by have e' : q = g := e; omega)
      have hO2 := HST.out _ (fun q => wr.heap.size ≤ q) _ (.inl p) rfl (T1.mono (fun q hq _ => .inr hq)) U1 (KPage_own_mk ho2) (fun q hq => .inr (by omega))
      rw [mixTo_step HP.out (by rw [HC.out]; exact hlt)] at hO2
      have H2 := Lib.hid (And.intro (hO2.mono (S' := fun q => w.heap.size ≤ q) (fun q hq _ => hq.elim (fun h => h.1) (fun h => Nat.le_trans hbw.size h))) (T1.below hbw hbw.size (fun q hq => by have := hgS.1; omega)))
      clear hO2 ho2 T1 U1 hown2 hb2 hO hbw hu2
      go_wp2_with fail
      go_roundw
      case rel => exact ⟨k + 1, by omega, by go_num, H2.out.1, H2.out.2⟩
      case measure => simp [intOf]; omega
    · have hkn : k = n := by omega
      have F : Hid (Own KPage 137 wr (fun q => w.heap.size ≤ q) (.slice vo n vc) n ps ∧ Below w.heap.size w wr) := by
        refine ⟨hO.map rfl HL.out (fun w S cs j x y hx hy ho => ?_), hbw⟩
        have hj := (List.getElem?_eq_some_iff.1 hy).1
        have hx2 : (mixTo ps cks k)[j]? = some (.inl y) := by
          unfold mixTo
          rw [List.getElem?_append_left (by simp; rw [hkn]; have := HL.out; omega), List.getElem?_map, List.getElem?_take, if_pos (by have := HL.out; omega), hy]; rfl
        rw [hx2] at hx; injection hx with hx; subst hx
        exact ho
      clear hO hbw
      go_wp2_with fail
      go_ret
      exact ⟨_, rfl, F.out.1, F.out.2⟩
end Go.Proofs.YthpamclljdcjpaaGreatDoor

/- append(out, xs...) at a step of a region that draws its order. -/
namespace Go.Proofs.YthpamclljdcjpaaGreatDoor
open Go.RowKit

theorem Turn.drew_ (T : Nat → Prop) (w : World) : Turn T w w.drew := ⟨rfl, rfl, rfl, Nat.le_refl _, fun _ _ _ => rfl⟩
theorem Turn.undrew {T : Nat → Prop} {w w' : World} (h : Turn T w.drew w') : Turn T w w' := ⟨h.os, h.tape, h.output, h.size, h.block⟩
theorem Own.drew {α : Type} {K : Lay α} {t : TypeId} {w : World} {S : Nat → Prop} {v : Value} {n : Nat} {xs : List α} (h : Own K t w S v n xs) : Own K t w.drew S v n xs := h.turn (Turn.drew_ (fun _ => False) w) (fun _ _ _ h => h)
theorem Lst.drew {α : Type} {K : Lay α} {w : World} {S : Nat → Prop} {ao : Option Addr} {n : Nat} {xs : List α} (h : Lst K w S ao n xs) : Lst K w.drew S ao n xs := h.turn (Turn.drew_ (fun _ => False) w) (fun _ _ _ h => h)

section
variable {P : Program} {α : Type} {K : Lay α} {w : World} {S S' : Nat → Prop} {ops : Array Oper} {rest : List Oper} {o : Oper} {a : Act} {Q : Exit → Act → World → Prop} {K' : Act → World → Prop} {E : Prop}
/-- append(out, xs...), the elements flat. -/
theorem wp_append_flat (s x : Operand) (t : TypeId) (ho : o.op = .call { callee := .builtin .append, args := #[s, x], argTypes := #[t, t] })
    (e : TypeId) (i : TypeInfo) (z : Value) (bytes : Nat) (ht : P.underlying t = some (.slice e)) (hi : P.info? e = some i) (hz : i.zero = some z)
    (hsize : i.size = K.sz) (hby : i.bytes = bytes) (hzs : z.cells.size = K.sz) (hsz : 0 < K.sz) (hK : Flat K) (hone : OneC K)
    {v : Value} {n m c : Nat} {xs ys : List α} {ao : Option Addr} (hs : a.eval s = v) (hown : Own K e w S v n xs) (hx : a.eval x = .slice ao m c) (hr : Lst K w S' ao m ys)
    (h63 : n + m ≤ maxLen) (hbytes : (n + m) * bytes ≤ 140737488355328)
    (h : ∀ v' w', Own K e w' (fun k => S k ∨ w.heap.size ≤ k) v' (n + m) (xs ++ ys) → Turn S w w' → K' (a.put o.dst v') w') : Oper.wp P o a w K' Q := by
  obtain ⟨cells, hrow, hS, F, hF, hD, hc⟩ := hown.row
  obtain ⟨news, hnl, hnc, hne⟩ := hr.news
  have hxl := hown.1
  have hyl := hr.1
  have hone' : ∀ u ∈ news, u.oneCell' = true := by
    intro u hu
    obtain ⟨q, hq, rfl⟩ := List.getElem_of_mem hu
    have hqm : q / K.sz < m := Nat.div_lt_of_lt_mul (by rw [Nat.mul_comm]; omega)
    obtain ⟨cs, hcl, hcs, hrd⟩ := hne (q / K.sz) (ys[q / K.sz]'(by omega)) (List.getElem?_eq_getElem _)
    have h1 := hcs (q % K.sz) (Nat.mod_lt _ hsz)
    rw [Nat.mul_comm, Nat.div_add_mod, List.getElem?_eq_getElem hq] at h1
    exact hone _ _ _ _ hrd _ (List.mem_of_getElem? h1.symm)
  have hrun : ∃ v' w', (Builtin.append_ #[t, t] o.type #[v, .slice ao m c]).run P w = .ok v' w' ∧ w'.ownsRow 0 e K.sz v' (n + m) (cells ++ news) ∧ w.grownBy w' v.ownBlock ∧ (v'.ownBlock = v.ownBlock ∨ v'.ownBlock = some w.heap.size) := by
    cases ao with
    | none =>
      have hm : m = 0 := by
        rcases Nat.eq_zero_or_pos m with h0 | h0
        · exact h0
        · obtain ⟨_, _, h, _⟩ := hnc h0; cases h
      subst hm
      have hnn : news = [] := List.eq_nil_of_length_eq_zero (by simpa using hnl)
      subst hnn
      refine ⟨v, w, ?_, by simpa using hrow, ⟨rfl, rfl, rfl, Nat.le_refl _, fun _ _ _ => rfl⟩, .inl rfl⟩
      rcases hrow.2 with ⟨rfl, rfl⟩ | ⟨g, cap, cur, rfl, _, _, hcap, _⟩
      · simp [Builtin.append_, run_underlying ht, sizeOf, typeInfo, hi, Builtin.lenOf, Builtin.firstCells]
      · simp [Builtin.append_, run_underlying ht, sizeOf, typeInfo, hi, Builtin.lenOf, Builtin.firstCells, hcap, storeCells]
    | some ad =>
      have hcells : ∀ j u, news[j]? = some u → w.cell? (ad.add j) = some u := by
        intro j u hu
        rcases Nat.eq_zero_or_pos m with h0 | h0
        · subst h0
          have hnn : news = [] := List.eq_nil_of_length_eq_zero (by simpa using hnl)
          subst hnn; simp at hu
        · obtain ⟨b, off, he, hc'⟩ := hnc h0
          injection he with he; subst he
          rw [add_plain']; exact hc' j u hu
      obtain ⟨v', w', h1, h2, h3, _, h5⟩ := run_append_own_at (P := P) w 0 t o.type e i z K.sz bytes ht hi hz hsize hby hzs hsz v n cells hrow ad m c news hnl hcells hone' h63 hbytes (Nat.zero_le _)
      exact ⟨v', w', h1, h2, h3, h5⟩
  obtain ⟨v', w', hr1, h2, h3, h5⟩ := hrun
  unfold Oper.wp execOp
  simp only [ho, resolve, invoke, builtin, Sem.run_bind, Sem.run_pure, Result.andThen_ok, List.map_toArray, List.map_cons, List.map_nil, hs, hx, hr1]
  refine h v' w' ?_ ((Turn.of_grown h3).mono (fun k hk _ => hS k hk))
  have hcl : cells.length = n * K.sz := hrow.1
  refine Own.of_row (F := fun _ _ => False) h2 (by simp [hxl, hyl]) (fun g hg => ?_) (fun _ _ h => h.elim) (fun _ _ _ h => h.elim) (fun j y hj => ?_)
  · rcases h5 with h6 | h6
    · exact .inl (hS g (by rw [← h6]; exact hg))
    · rw [hg] at h6; injection h6 with h6; exact .inr (by omega)
  · by_cases e : j < n
    · rw [List.getElem?_append_left (by omega)] at hj
      obtain ⟨cs, h6, h7, h8⟩ := hc j y hj
      have := Nat.mul_le_mul_right K.sz (show j + 1 ≤ n by omega)
      rw [Nat.add_mul] at this
      exact ⟨cs, h6, fun i hi => by rw [List.getElem?_append_left (by omega)]; exact h7 i hi, hK w w' _ _ _ _ (K.own_rd h8)⟩
    · rw [List.getElem?_append_right (by omega)] at hj
      obtain ⟨cs, h6, h7, h8⟩ := hne _ y hj
      refine ⟨cs, h6, fun i hi => ?_, hK w w' _ _ _ _ h8⟩
      have hle := Nat.mul_le_mul_right K.sz (show n ≤ j by omega)
      rw [List.getElem?_append_right (by omega), ← h7 i hi, hcl, hxl, Nat.sub_mul]
      congr 1; omega
/-- The same at a step of a region that draws its order. -/
theorem step_append_flat (hgd : o.guard = none) (s x : Operand) (t : TypeId) (ho : o.op = .call { callee := .builtin .append, args := #[s, x], argTypes := #[t, t] })
    (e : TypeId) (i : TypeInfo) (z : Value) (bytes : Nat) (ht : P.underlying t = some (.slice e)) (hi : P.info? e = some i) (hz : i.zero = some z)
    (hsize : i.size = K.sz) (hby : i.bytes = bytes) (hzs : z.cells.size = K.sz) (hsz : 0 < K.sz) (hK : Flat K) (hone : OneC K)
    {v : Value} {n m c : Nat} {xs ys : List α} {ao : Option Addr} (hs : a.eval s = v) (hown : Own K e w S v n xs) (hx : a.eval x = .slice ao m c) (hr : Lst K w S' ao m ys)
    (h63 : n + m ≤ maxLen) (hbytes : (n + m) * bytes ≤ 140737488355328)
    (h : ∀ v' w', Own K e w' (fun k => S k ∨ w.heap.size ≤ k) v' (n + m) (xs ++ ys) → Turn S w w' → K' (a.put o.dst v') w') :
    if Region.wanted o (yielded ops a.tmps) = true then Oper.wp P o a w K' Q else E := by
  have hw : Region.wanted o (yielded ops a.tmps) = true := by simp [Region.wanted, hgd]
  rw [if_pos hw]
  exact wp_append_flat s x t ho e i z bytes ht hi hz hsize hby hzs hsz hK hone hs hown hx hr h63 hbytes h
end
end Go.Proofs.YthpamclljdcjpaaGreatDoor

namespace Go.Proofs.YthpamclljdcjpaaGreatDoor
open Go.RowKit

section
variable {P : Program} {α : Type} {K : Lay α} {w : World} {S : Nat → Prop} {ops : Array Oper} {rest : List Oper} {o : Oper} {a : Act} {Q : Exit → Act → World → Prop}
theorem wpList_append_zeros (hgd : o.guard = none) (s x : Operand) (t tn : TypeId) (ho : o.op = .call { callee := .builtin .append, args := #[s, x], argTypes := #[t, tn] })
    (e : TypeId) (i : TypeInfo) (z : Value) (bytes : Nat) (kn kq : IntKind) (ht : P.underlying t = some (.slice e)) (htn : P.underlying tn = some (.int kn)) (hi : P.info? e = some i) (hz : i.zero = some z)
    (hsize : i.size = K.sz) (hby : i.bytes = bytes) (hzs : z.cells.size = K.sz) (hsz : 0 < K.sz)
    {g n k : Nat} {xs : List α} {y : α} (hs : a.eval s = .slice (some ⟨g, 0, none⟩) n n) (hown : Own K e w S (.slice (some ⟨g, 0, none⟩) n n) n xs) (hx : a.eval x = .int kq k) (hy : ∀ w, K.own w (fun _ => False) z.cells.toList y)
    (h0 : 0 < k) (h63 : n + k ≤ maxLen) (hbytes : (n + k) * bytes ≤ 140737488355328)
    (h : ∀ v' w', Own K e w' (fun j => S j ∨ w.heap.size ≤ j) v' (n + k) (xs ++ List.replicate k y) → Below w.heap.size w w' → wpList P ops Q rest (a.put o.dst v') w') : wpList P ops Q (o :: rest) a w := by
  obtain ⟨cells, hrow, hS, F, hF, hD, hc⟩ := hown.row
  subst hby
  have hsmall : n + k ≤ 9223372036854775807 := by simp only [maxLen] at h63; omega
  have hkb : k * i.bytes ≤ 140737488355328 := Nat.le_trans (Nat.mul_le_mul_right _ (by omega)) hbytes
  have hrun := Lib.run_append_grow_zeros w t tn o.type e i z kq kn ht htn hi hz (some ⟨g, 0, none⟩) n n cells
    (run_firstCells_some (P := P) w.drew i.size n ⟨g, 0, none⟩ n n cells (by rw [hsize]; exact hrow.1) (by simpa using hrow.cells (g := g) rfl)) k h0 (by omega) (by omega) (by omega) (by omega) (growslice_fits (by omega) hbytes)
  refine wpList_plain hgd fun K' hK' => ?_
  unfold Oper.wp execOp
  simp only [ho, resolve, invoke, builtin, Sem.run_bind, Sem.run_pure, Result.andThen_ok, List.map_toArray, List.map_cons, List.map_nil, hs, hx, hrun]
  have hge := grownCap_ge w (n + k) n e
  have hle := grownCap_le_maxLen w (n + k) n e h63
  have hb : Below w.heap.size w (w.drew.alloc (.cells (cells.toArray ++ Builtin.zeroCells z.cells k ++ Builtin.zeroCells z.cells (grownCap w (n + k) n e - (n + k))) e)) := Turn.none_ ((Turn.drew_ _ w).trans (Turn.alloc _ w.drew _) (fun _ h _ => h))
  refine hK' _ _ (h _ _ ?_ hb)
  have hcl : cells.length = n * K.sz := hrow.1
  have hzl : (Builtin.zeroCells z.cells k).size = k * K.sz := by rw [size_zeroCells, hzs]
  have hzt : (Builtin.zeroCells z.cells k).toList.length = k * K.sz := hzl
  have hxl := hown.1
  refine Own.of_row (F := fun j q => q < w.heap.size ∧ F j q) (cells := cells ++ (Builtin.zeroCells z.cells k).toList) ⟨?_, .inr ⟨w.heap.size, _, _, rfl, Nat.zero_le _, heap_alloc_new w.drew _, hge, hle, ?_, ?_⟩⟩ (by simp [hxl]) (fun g' hg' => ?_) (fun j q hq => ⟨.inl (hF j q hq.2).1, fun e => ?_⟩) (fun i j q hi hj => hD i j q hi.2 hj.2) (fun j y' hj => ?_)
  · rw [List.length_append, hzt, hcl, Nat.add_mul]
  · simp only [Array.size_append, List.size_toArray, size_zeroCells, hzs, hcl, ← Nat.add_mul]; congr 1; omega
  · have e1 : (n + k) * K.sz = (cells ++ (Builtin.zeroCells z.cells k).toList).length := by rw [List.length_append, hzt, hcl, Nat.add_mul]
    simp only [Array.toList_append]
    rw [e1]; exact List.take_left
  · simp [Value.ownBlock] at hg'; exact .inr (by omega)
  · simp [Value.ownBlock] at e; omega
  · by_cases hjn : j < n
    · rw [List.getElem?_append_left (by omega)] at hj
      obtain ⟨cs, h6, h7, h8⟩ := hc j y' hj
      have := Nat.mul_le_mul_right K.sz (show j + 1 ≤ n by omega)
      rw [Nat.add_mul] at this
      refine ⟨cs, h6, fun i hi => by rw [List.getElem?_append_left (by omega)]; exact h7 i hi, ?_⟩
      exact K.own_turn (T := fun _ => False) (K.own_mono h8 (fun q hq hl => ⟨hl, hq⟩)) (Turn.of_below hb) (fun _ _ _ h => h)
    · rw [List.getElem?_append_right (by omega), List.getElem?_replicate] at hj
      split at hj
      · rename_i hjk
        injection hj with hj; subst hj
        refine ⟨z.cells.toList, by simpa using hzs, fun i hi => ?_, K.own_mono (hy _) (fun _ h _ => h.elim)⟩
        have hle := Nat.mul_le_mul_right K.sz (show n ≤ j by omega)
        rw [List.getElem?_append_right (by omega), hcl, show j * K.sz + i - n * K.sz = (j - xs.length) * K.sz + i by rw [hxl, Nat.sub_mul]; omega]
        have h2 := Nat.mul_le_mul_right K.sz (show j - xs.length + 1 ≤ k by omega)
        rw [Nat.add_mul] at h2
        have h3 : ((j - xs.length) * K.sz + i) % z.cells.size = i := by rw [hzs, Nat.mul_comm, Nat.mul_add_mod, Nat.mod_eq_of_lt hi]
        have h4 : (j - xs.length) * K.sz + i < k * z.cells.size := by rw [hzs]; omega
        simp only [hzs] at h3 h4
        simp [Builtin.zeroCells, hzs, hi]
        exact ⟨_, List.getElem?_range h4, by rw [h3]; simp [hzs, hi]⟩
      · cases hj
end
end Go.Proofs.YthpamclljdcjpaaGreatDoor

/- slices.Sort at []int64, by the library's contract: its functions and types at this program. -/
namespace Go.Proofs.YthpamclljdcjpaaGreatDoor
open Go.Shelf Go.RowKit
def sortInts_ren : Go.Shelf.Ren := ⟨fun | 53 => 147 | 64 => 198 | 63 => 197 | 78 => 231 | 79 => 232 | 70 => 222 | 71 => 223 | 72 => 224 | 73 => 225 | 74 => 226 | 75 => 227 | 59 => 228 | 76 => 229 | 77 => 230 | 88 => 244 | 89 => 245 | 90 => 246 | 91 => 247 | 92 => 248 | 68 => 249 | 96 => 253 | n => n, fun | 22 => 25 | 23 => 2 | 3 => 3 | 51 => 242 | 0 => 0 | 67 => 265 | 69 => 267 | 4 => 4 | 61 => 257 | 60 => 256 | 44 => 262 | 5 => 5 | 9 => 9 | 75 => 278 | 79 => 282 | 83 => 286 | 84 => 287 | n => n, fun | n => n⟩
theorem sortInts : Go.Proofs.SlLaysN.n53 Tryz.prog sortInts_ren := {
  mixed := by kernel_rfl
  f53 := ⟨Tryz.f147.name, by decide, Tryz.func147.trans (congrArg some (by kernel_rfl))⟩
  f59 := ⟨Tryz.f228.name, by decide, Tryz.func228.trans (congrArg some (by kernel_rfl))⟩
  f63 := ⟨Tryz.f197.name, by decide, Tryz.func197.trans (congrArg some (by kernel_rfl))⟩
  f64 := Tryz.func198.trans (congrArg some (by kernel_rfl))
  f68 := ⟨Tryz.f249.name, by decide, Tryz.func249.trans (congrArg some (by kernel_rfl))⟩
  f70 := ⟨Tryz.f222.name, by decide, Tryz.func222.trans (congrArg some (by kernel_rfl))⟩
  f71 := ⟨Tryz.f223.name, by decide, Tryz.func223.trans (congrArg some (by kernel_rfl))⟩
  f72 := ⟨Tryz.f224.name, by decide, Tryz.func224.trans (congrArg some (by kernel_rfl))⟩
  f73 := ⟨Tryz.f225.name, by decide, Tryz.func225.trans (congrArg some (by kernel_rfl))⟩
  f74 := ⟨Tryz.f226.name, by decide, Tryz.func226.trans (congrArg some (by kernel_rfl))⟩
  f75 := ⟨Tryz.f227.name, by decide, Tryz.func227.trans (congrArg some (by kernel_rfl))⟩
  f76 := ⟨Tryz.f229.name, by decide, Tryz.func229.trans (congrArg some (by kernel_rfl))⟩
  f77 := ⟨Tryz.f230.name, by decide, Tryz.func230.trans (congrArg some (by kernel_rfl))⟩
  f78 := Tryz.func231.trans (congrArg some (by kernel_rfl))
  f79 := Tryz.func232.trans (congrArg some (by kernel_rfl))
  f88 := ⟨Tryz.f244.name, by decide, Tryz.func244.trans (congrArg some (by kernel_rfl))⟩
  f89 := Tryz.func245.trans (congrArg some (by kernel_rfl))
  f90 := Tryz.func246.trans (congrArg some (by kernel_rfl))
  f91 := ⟨Tryz.f247.name, by decide, Tryz.func247.trans (congrArg some (by kernel_rfl))⟩
  f92 := ⟨Tryz.f248.name, by decide, Tryz.func248.trans (congrArg some (by kernel_rfl))⟩
  f96 := ⟨Tryz.f253.name, by decide, Tryz.func253.trans (congrArg some (by kernel_rfl))⟩
  t0 := Tryz.underlying0
  a0 := Tryz.isAgg0
  z0 := Tryz.sizeOf0
  v0 := Tryz.zeroValue0
  t3 := Tryz.underlying3
  a3 := Tryz.isAgg3
  z3 := Tryz.sizeOf3
  v3 := Tryz.zeroValue3
  t4 := Tryz.underlying4
  a4 := Tryz.isAgg4
  z4 := Tryz.sizeOf4
  v4 := Tryz.zeroValue4
  t5 := Tryz.underlying5
  a5 := Tryz.isAgg5
  z5 := Tryz.sizeOf5
  v5 := Tryz.zeroValue5
  t9 := Tryz.underlying9
  a9 := Tryz.isAgg9
  z9 := Tryz.sizeOf9
  v9 := Tryz.zeroValue9
  t22 := Tryz.underlying25
  a22 := Tryz.isAgg25
  z22 := Tryz.sizeOf25
  v22 := Tryz.zeroValue25
  t23 := Tryz.underlying2
  a23 := Tryz.isAgg2
  z23 := Tryz.sizeOf2
  v23 := Tryz.zeroValue2
  t44 := Tryz.underlying262
  a44 := Tryz.isAgg262
  z44 := Tryz.sizeOf262
  v44 := Tryz.zeroValue262
  t51 := Tryz.underlying242
  a51 := Tryz.isAgg242
  z51 := Tryz.sizeOf242
  v51 := Tryz.zeroValue242
  t60 := Tryz.underlying256
  a60 := Tryz.isAgg256
  z60 := Tryz.sizeOf256
  v60 := Tryz.zeroValue256
  t61 := Tryz.underlying257
  a61 := Tryz.isAgg257
  z61 := Tryz.sizeOf257
  v61 := Tryz.zeroValue257
  t67 := Tryz.underlying265
  a67 := Tryz.isAgg265
  z67 := Tryz.sizeOf265
  v67 := Tryz.zeroValue265
  t69 := Tryz.underlying267
  a69 := Tryz.isAgg267
  z69 := Tryz.sizeOf267
  v69 := Tryz.zeroValue267
  t75 := Tryz.underlying278
  a75 := Tryz.isAgg278
  z75 := Tryz.sizeOf278
  v75 := Tryz.zeroValue278
  t79 := Tryz.underlying282
  a79 := Tryz.isAgg282
  z79 := Tryz.sizeOf282
  v79 := Tryz.zeroValue282
  t83 := Tryz.underlying286
  a83 := Tryz.isAgg286
  z83 := Tryz.sizeOf286
  v83 := Tryz.zeroValue286
  t84 := Tryz.underlying287
  a84 := Tryz.isAgg287
  z84 := Tryz.sizeOf287
  v84 := Tryz.zeroValue287
}

open Go.Sort in
theorem sortInts_calls {b o n c : Nat} {xs : List Int} {w : World} (hH : Holds (Value.int .i64) w b o xs.toArray) (hb : b < w.heap.size) (hl : xs.length = n) (hn : n ≤ 17592186044416) :
    Calls Tryz.prog 147 #[.slice (some ⟨b, o, none⟩) n c] w fun e w' =>
      e = .returned (.tuple #[]) ∧ ∃ n os, w' = grow (putRow (Value.int .i64) (Sort.ahead w n) b o (xs.mergeSort fun x y => decide (x ≤ y)).toArray) os := by
  subst hl
  exact AnyG.slices_Sort_int (P := Tryz.prog) (ρ := sortInts_ren) sortInts b o c xs w hH hb (by omega)
theorem sortNone_calls {a : Option Addr} {c : Nat} {w : World} :
    Calls Tryz.prog 147 #[.slice a 0 c] w fun e w' => e = .returned (.tuple #[]) ∧ w = w' := by
  exact (AnyG.slices_Sort_int_none (P := Tryz.prog) (ρ := sortInts_ren) sortInts a c w).mono fun e w' h => ⟨h.1, h.2.symm⟩
end Go.Proofs.YthpamclljdcjpaaGreatDoor

/- Slices of whole numbers as chapter 5 of the program has them: copied, looked through, compared, joined; two that are alike. -/
namespace Go.Proofs.YthpamclljdcjpaaGreatDoor
open Go.RowKit

theorem Own.ints {t : TypeId} {w : World} {S : Nat → Prop} {ao : Option Addr} {m c n : Nat} {xs : List Int} (h : Own KInt t w S (.slice ao m c) n xs) : Ints w ao n xs := h.lst.2.2.2.ints
theorem Lst.of_ints {w : World} {S : Nat → Prop} {ao : Option Addr} {n : Nat} {xs : List Int} (h : Ints w ao n xs) (hS : ∀ k, k < w.heap.size → S k) : Lst KInt w S ao n xs := h.lst.mono (fun k _ hk => hS k hk)

theorem areWords_calls {a : Option Addr} {n c : Nat} {xs : List Int} {w : World} (ha : Ints w a n xs) (hx : n ≤ 17592186044416) :
    Calls Tryz.prog 77 #[.slice a n c] w fun e w' => e = .returned (.bool (within (-1000000000) 1000000000 xs)) ∧ w = w' := by
  have HL := Lib.hid ha.1
  go_enter Tryz.func77, Tryz.ntmps77
  go_wp2_with (go_at_call 60; refine (allWithin_calls ha hx).mono ?_; rintro e w' ⟨rfl, rfl⟩)
  go_ret
  exact ⟨rfl, rfl⟩

set_option maxHeartbeats 400000 in
theorem frameAt_calls {a : Option Addr} {n c f : Nat} {xs : List Int} {w : World} (ha : Ints w a n xs) (hf : (f + 1) * 16 ≤ n) (hc : n ≤ c) (hx : n ≤ 17592186044416) :
    Calls Tryz.prog 150 #[.slice a n c, .int .i64 f] w fun e w' => e = .returned (.agg ((frameOf xs f).map (Value.int .i64)).toArray) ∧ Below w.heap.size w w' := by
  obtain ⟨b, off, rfl, hb, hcell⟩ := ha.2 (by omega)
  have HL := Lib.hid ha.1
  have hsa := fun w c' => run_arrayAt Tryz.prog w 201 2 16 Tryz.underlying201 (some ⟨b, off + f * 16, none⟩) (n - f * 16) c' (by omega)
  have hr : w.rangeAt b (off + f * 16) ((frameOf xs f).map (Value.int .i64)) := by
    intro j v hv
    rw [List.getElem?_map] at hv
    have hj : j < 16 := by
      rcases Nat.lt_or_ge j 16 with h | h
      · exact h
      · rw [List.getElem?_eq_none (by rw [length_frameOf (by rw [HL.out]; exact hf)]; exact h)] at hv; cases hv
    have hg := getD_frameOf (xs := xs) (f := f) hj
    rw [List.getElem?_eq_getElem (by rw [length_frameOf (by rw [HL.out]; exact hf)]; exact hj)] at hv
    simp at hv
    rw [Nat.add_assoc, hcell (f * 16 + j) (by omega), ← hg, ← hv]
    simp [List.getD, length_frameOf (show (f + 1) * 16 ≤ xs.length by rw [HL.out]; exact hf), hj]
  have hlf : ((frameOf xs f).map (Value.int .i64)).length = 16 := by rw [List.length_map, length_frameOf (by rw [HL.out]; exact hf)]
  have HR := Lib.hid hr
  have HLF := Lib.hid hlf
  clear hr hlf
  obtain ⟨cs, hcs⟩ : ∃ cs, cs = (frameOf xs f).map (Value.int .i64) := ⟨_, rfl⟩
  rw [← hcs] at HR HLF
  have hone : ∀ v ∈ cs, v.oneCell' = true := by rw [hcs]; exact ints_oneCell _ _
  rw [← hcs]
  have HO := Lib.hid hone
  have HSZ : Hid (cs.toArray.size = 16) := by have := HLF.out; simpa [Hid] using this
  clear hone hcs
  go_enter Tryz.func150, Tryz.ntmps150
  go_wp2_with (first
    | (with_reducible refine wpList_load_mid rfl 201 (.tmp 9) rfl b (off + f * 16) rfl cs _ (World.rangeAt_alloc HR.out _) Tryz.underlying201 rfl (by rw [HLF.out]; kernel_rfl) ?_)
    | (refine wpList_store_row rfl 201 (.tmp 4) (.tmp 10) rfl w.heap.size cs.toArray rfl rfl _ _ (heap_alloc_new _ _) (by rw [HSZ.out]; kernel_rfl) (by exact HSZ.out.symm) (all_oneCell_toArray HO.out) ?_))
  have hrow := setRow_heap (w.alloc (.cells [Value.int .i64 0, .int .i64 0, .int .i64 0, .int .i64 0, .int .i64 0, .int .i64 0, .int .i64 0, .int .i64 0, .int .i64 0, .int .i64 0, .int .i64 0, .int .i64 0, .int .i64 0, .int .i64 0, .int .i64 0, .int .i64 0].toArray 201)) w.heap.size _ cs.toArray _ _ (heap_alloc_new _ _)
  refine bodyPost_ret (results_cell_row rfl _ _ w.heap.size _ cs.toArray _ _ rfl hrow Tryz.underlying201 rfl (by rw [HSZ.out]; kernel_rfl)) rfl ⟨rfl, ?_⟩
  exact below_setRow ((Below.refl _ _).alloc (Nat.le_refl _) _) (Nat.le_refl _) _

theorem cloneI_calls {a : Option Addr} {n c : Nat} {us : List Int} {S : Nat → Prop} {w : World} (hu : Lst KInt w S a n us) (hn : n ≤ 1099511627776) :
    Calls Tryz.prog 131 #[.slice a n c] w fun e w' => ∃ v, e = .returned v ∧ Own KInt 2 w' (fun k => w.heap.size ≤ k) v n us ∧ Below w.heap.size w w' := by
  obtain ⟨ib, hib, hb0, hb1, hb2⟩ := info_parts info64
  have qT : ∀ (w : World) (a : Option Addr) (n c n' c' : Nat), (binOp .eql 25 (.slice a n c) (.slice none n' c')).run Tryz.prog w = .ok (.bool a.isNone) w := fun w a n c n' c' => Lib.run_eql_slice_nil w _ _ a n c n' c' Tryz.underlying25
  rcases a with _ | ad
  · obtain ⟨rfl, rfl⟩ := nil_none hu
    go_enter Tryz.func131, Tryz.ntmps131
    go_wp2_with fail
    go_ret
    exact ⟨_, rfl, Own.nil, Below.refl _ _⟩
  · have hE : Own KInt 2 (w.alloc (.cells #[] 2)) (fun q => q = w.heap.size) (.slice (some ⟨w.heap.size, 0, none⟩) 0 0) 0 [] := Own.empty (heap_alloc_new w (.cells #[] 2)) rfl
    go_enter Tryz.func131, Tryz.ntmps131
    go_wp2_with (
      at_builtin
      refine wpList_append_flat (K := KInt) rfl (.tmp 5) (.tmp 6) 25 rfl 2 ib (.int .i64 0) 8 Tryz.underlying25 hib hb0 hb1 hb2 rfl (by decide) flat_int one_int (v := .slice (some ⟨w.heap.size, 0, none⟩) 0 0) (n := 0) (ao := some ad) (m := n) (c := c) rfl hE rfl (hu.alloc _) (by unfold maxLen; omega) (by omega) ?_
      intro v1 w1 ho1 ht1
      simp only [Nat.zero_add, List.nil_append] at ho1
      have H1 := Lib.hid (And.intro ho1 ht1)
      clear ho1 ht1)
    go_ret
    refine ⟨v1, rfl, H1.out.1.mono (fun k hk _ => by rcases hk with h | h <;> (try simp at h) <;> omega), H1.out.2.below ((Below.refl _ _).alloc (Nat.le_refl _) _) (by simp) (fun k hk => by omega)⟩

theorem l1Ints_calls {a : Option Addr} {n c : Nat} {us : List Int} {S : Nat → Prop} {w : World} (hu : Lst KInt w S a n us) (hn : n ≤ 1099511627776) :
    Calls Tryz.prog 157 #[.slice a n c] w fun e w' => ∃ v, e = .returned v ∧ Own KInt 2 w' (fun k => w.heap.size ≤ k) v n us ∧ Below w.heap.size w w' := by
  obtain ⟨ib, hib, hb0, hb1, hb2⟩ := info_parts info64
  have hE : Own KInt 2 (w.alloc (.cells #[] 2)) (fun q => q = w.heap.size) (.slice (some ⟨w.heap.size, 0, none⟩) 0 0) 0 [] := Own.empty (heap_alloc_new w (.cells #[] 2)) rfl
  go_enter Tryz.func157, Tryz.ntmps157
  go_wp2_with (
    at_builtin
    refine wpList_append_flat (K := KInt) rfl (.tmp 3) (.tmp 4) 25 rfl 2 ib (.int .i64 0) 8 Tryz.underlying25 hib hb0 hb1 hb2 rfl (by decide) flat_int one_int (v := .slice (some ⟨w.heap.size, 0, none⟩) 0 0) (n := 0) (ao := a) (m := n) (c := c) rfl hE rfl (hu.alloc _) (by unfold maxLen; omega) (by omega) ?_
    intro v1 w1 ho1 ht1
    simp only [Nat.zero_add, List.nil_append] at ho1
    have H1 := Lib.hid (And.intro ho1 ht1)
    clear ho1 ht1)
  go_ret
  refine ⟨v1, rfl, H1.out.1.mono (fun k hk _ => by rcases hk with h | h <;> (try simp at h) <;> omega), H1.out.2.below ((Below.refl _ _).alloc (Nat.le_refl _) _) (by simp) (fun k hk => by omega)⟩

/-- The first place of a number, or -1. -/
def idxI (v : Int) : List Int → Nat → Int
  | [], _ => -1
  | x :: r, k => if x = v then k else idxI v r (k + 1)
theorem idxI_hasIn (v : Int) : ∀ (xs : List Int) (k : Nat), decide (0 ≤ idxI v xs k) = hasIn xs v
  | [], k => by simp [idxI, hasIn]
  | x :: r, k => by
    unfold idxI
    by_cases h : x = v
    · subst h; simp [hasIn]
    · rw [if_neg h, idxI_hasIn v r (k + 1)]
      simp only [hasIn, List.contains_cons]
      simp; grind
theorem idx_contains {xs : List Int} {v : Int} (h : hasIn xs v = true) : 0 ≤ idxI v xs 0 := by have := idxI_hasIn v xs 0; rw [h] at this; simpa using this
theorem idx_lacks {xs : List Int} {v : Int} (h : hasIn xs v = false) : ¬ (0 ≤ idxI v xs 0) := by have := idxI_hasIn v xs 0; rw [h] at this; simpa using this

theorem indexI_calls {a : Option Addr} {n c : Nat} {v : Int} {us : List Int} {w : World} (hu : Ints w a n us) (hn : n ≤ 17592186044416) :
    Calls Tryz.prog 199 #[.slice a n c, .int .i64 v] w fun e w' => e = .returned (.int .i64 (idxI v us 0)) ∧ w = w' := by
  have HL := Lib.hid hu.1
  go_enter Tryz.func199, Tryz.ntmps199
  go_wp2_with fail
  go_loop [5, 8] (fun _ i => ∃ k : Nat, k ≤ n ∧ i = .int .i64 k ∧ Hid (idxI v us 0 = idxI v (us.drop k) k)) (fun _ i => n - (intOf i).toNat)
  case atStart => exact ⟨0, Nat.zero_le _, rfl, rfl⟩
  case round =>
    obtain ⟨k, hk, rfl, HW⟩ := hrel
    by_cases hlt : k < n
    · obtain ⟨ba, oa, rfl, hba, hca⟩ := hu.at_ hlt
      have hx : us[k]? = some (us.getD k 0) := by rw [List.getD_eq_getElem?_getD, List.getElem?_eq_getElem (by rw [HL.out]; exact hlt)]; rfl
      generalize us.getD k 0 = u at hca hx
      have HS : Hid (idxI v us 0 = if u = v then (k : Int) else idxI v (us.drop (k + 1)) (k + 1)) := by have := HW.out; rw [drop_at hx, idxI] at this; exact this
      clear hx
      by_cases huv : u = v
      · have HF : Hid (idxI v us 0 = k) := by have := HS.out; rw [if_pos huv] at this; exact this
        have hq : (v == u) = true := by simp [huv]
        clear huv
        go_wp2_with fail
        go_ret
        exact ⟨ret_int HF.out.symm, rfl⟩
      · have HF : Hid (idxI v us 0 = idxI v (us.drop (k + 1)) (k + 1)) := by have := HS.out; rw [if_neg huv] at this; exact this
        have hq : (v == u) = false := by simpa using fun h => huv h.symm
        clear huv
        go_wp2_with fail
        go_round
        case rel => exact ⟨k + 1, by omega, by go_num, HF⟩
        case measure => simp [intOf]; omega
    · have HF : Hid (idxI v us 0 = -1) := by have := HW.out; rw [drop_end (by rw [HL.out]; omega), idxI] at this; exact this
      go_wp2_with fail
      go_ret
      exact ⟨ret_int HF.out.symm, rfl⟩

theorem containsI_calls {a : Option Addr} {n c : Nat} {v : Int} {us : List Int} {w : World} (hu : Ints w a n us) (hn : n ≤ 17592186044416) :
    Calls Tryz.prog 152 #[.slice a n c, .int .i64 v] w fun e w' => e = .returned (.bool (hasIn us v)) ∧ w = w' := by
  rcases hx : hasIn us v with _ | _
  · have h0 := idx_lacks hx
    clear hx
    go_enter Tryz.func152, Tryz.ntmps152
    go_wp2_with fail
    refine (indexI_calls hu hn).mono ?_
    rintro e w1 ⟨rfl, rfl⟩
    go_wp2_with fail
    go_ret
    exact ⟨ret_bool (by simpa using h0), rfl⟩
  · have h0 := idx_contains hx
    clear hx
    go_enter Tryz.func152, Tryz.ntmps152
    go_wp2_with fail
    refine (indexI_calls hu hn).mono ?_
    rintro e w1 ⟨rfl, rfl⟩
    go_wp2_with fail
    go_ret
    exact ⟨ret_bool (by simp), rfl⟩
end Go.Proofs.YthpamclljdcjpaaGreatDoor

/- Lists of whole numbers compared; lists of lists; slices that are joined, sorted; two that are alike. -/
namespace Go.Proofs.YthpamclljdcjpaaGreatDoor
open Go.RowKit

set_option maxHeartbeats 1000000 in
theorem equalI_calls {a b : Option Addr} {n m c d : Nat} {us vs : List Int} {w : World} (ha : Ints w a n us) (hb : Ints w b m vs) (hn : n ≤ 17592186044416) (hm : m ≤ 17592186044416) :
    Calls Tryz.prog 69 #[.slice a n c, .slice b m d] w fun e w' => e = .returned (.bool (decide (us = vs))) ∧ Below w.heap.size w w' := by
  have HL := Lib.hid ha.1
  have HL2 := Lib.hid hb.1
  by_cases hnm : n = m
  rotate_left
  · have HF : Hid (decide (us = vs) = false) := by show _ = _; rw [decide_eq_false_iff_not]; rintro rfl; exact hnm (HL.out.symm.trans HL2.out)
    have hq : ((n : Int) != (m : Int)) = true := by simp; omega
    go_enter Tryz.func69, Tryz.ntmps69
    go_wp2_with fail
    go_ret
    exact ⟨ret_bool HF.out.symm, Below.refl _ _⟩
  subst hnm
  have hq : ((n : Int) != (n : Int)) = false := by simp
  go_enter Tryz.func69, Tryz.ntmps69
  go_wp2_with fail
  go_loopw [5, 13] (fun _ i wr => ∃ k : Nat, k ≤ n ∧ i = .int .i64 k ∧ Hid (SameUpto us vs k) ∧ Below w.heap.size w wr) (fun _ i _ => n - (intOf i).toNat)
  case atStart => exact ⟨0, Nat.zero_le _, rfl, fun j hj => by omega, Below.refl _ _⟩
  case round =>
    obtain ⟨k, hk, rfl, HJ, hbw⟩ := hrel
    by_cases hlt : k < n
    · obtain ⟨g0, s0, rfl, hg0, hc0⟩ := (ha.below hbw).at_ hlt
      obtain ⟨g1, s1, rfl, hg1, hc1⟩ := (hb.below hbw).at_ hlt
      have hx0 : us[k]? = some (us.getD k 0) := by rw [List.getD_eq_getElem?_getD, List.getElem?_eq_getElem (by rw [HL.out]; exact hlt)]; rfl
      have hx1 : vs[k]? = some (vs.getD k 0) := by rw [List.getD_eq_getElem?_getD, List.getElem?_eq_getElem (by rw [HL2.out]; exact hlt)]; rfl
      have HX := Lib.hid (And.intro hx0 hx1)
      generalize us.getD k 0 = u0 at hc0 HX
      generalize vs.getD k 0 = u1 at hc1 HX
      clear hx0 hx1
      by_cases hu : u0 = u1
      · have HN := Lib.hid (HJ.out.succ (HX.out.1.trans (by rw [hu]; exact HX.out.2.symm)))
        subst hu
        have hq2 : (u0 != u0) = false := by simp
        go_wp2_with (go_quiet (fail))
        go_roundw
        case rel => exact ⟨k + 1, by omega, by go_num, HN, below_drewN hbw _⟩
        case measure => simp [intOf]; omega
      · have HF : Hid (decide (us = vs) = false) := by
          show _ = _; rw [decide_eq_false_iff_not]; exact differ_at HX.out.1 HX.out.2 hu
        have hq2 : (u0 != u1) = true := by simpa using hu
        clear hu
        go_wp2_with (go_quiet (fail))
        go_ret
        exact ⟨ret_bool HF.out.symm, below_drewN hbw _⟩
    · have HF : Hid (decide (us = vs) = true) := by show _ = _; rw [decide_eq_true_iff]; exact HJ.out.all (by rw [HL.out]; omega) (by rw [HL2.out]; omega)
      go_wp2_with fail
      go_ret
      exact ⟨ret_bool HF.out.symm, hbw⟩

/-- A magazine: a slice of whole numbers in one cell. -/
def KMag : Lay (List Int) := KSlice KInt 2
theorem KMag_sz : KMag.sz = 1 := rfl
theorem one_mag : OneC KMag := one_slice KInt _
/-- No list of lists has a longer one than this. -/
def ShortM (N : Nat) (ms : List (List Int)) : Prop := ∀ m ∈ ms, m.length ≤ N
theorem ShortM.at_ {N : Nat} {ms : List (List Int)} (h : ShortM N ms) {k : Nat} {m : List Int} (hk : ms[k]? = some m) : m.length ≤ N := h m (List.mem_of_getElem? hk)
theorem ShortM.more {N M : Nat} {ms : List (List Int)} (h : ShortM N ms) (hM : N ≤ M) : ShortM M ms := fun p hp => Nat.le_trans (h p hp) hM
/-- One list of a list of lists, in its cell. -/
theorem Lst.mag_at {w : World} {S : Nat → Prop} {ao : Option Addr} {n : Nat} {ms : List (List Int)} (h : Lst KMag w S ao n ms) {j : Nat} (hj : j < n) :
    ∃ b off m a l c, ao = some ⟨b, off, none⟩ ∧ b < w.heap.size ∧ ms[j]? = some m ∧ w.cell? ⟨b, off + j, none⟩ = some (.slice a l c) ∧ l ≤ c ∧ c ≤ maxLen ∧ Lst KInt w S a l m := by
  obtain ⟨b, off, cs, x, rfl, hb, hs, hx, hl, hcs, ⟨a, l, c, rfl, h1, h2, h3⟩⟩ := h.at_ hj
  have h0 := hcs 0 (by rw [KMag_sz]; omega)
  rw [KMag_sz, Nat.mul_one] at h0
  exact ⟨b, off, x, a, l, c, rfl, hb, hx, h0, h1, h2, h3⟩
theorem KMag_rd_mk {w : World} {S : Nat → Prop} {m : List Int} {a : Option Addr} {n c : Nat} (hn : n ≤ c) (hc : c ≤ maxLen) (hl : Lst KInt w S a n m) : KMag.rd w S [.slice a n c] m := ⟨a, n, c, rfl, hn, hc, hl⟩
theorem KMag_own_mk {w : World} {S : Nat → Prop} {m : List Int} {v : Value} {n : Nat} (hl : Own KInt 2 w S v n m) : KMag.own w S [v] m := ⟨v, n, rfl, hl⟩

set_option maxRecDepth 100000 in
set_option maxHeartbeats 2000000 in
theorem equalMags_calls {a b : Option Addr} {n m c d : Nat} {ps qs : List (List Int)} {S S' : Nat → Prop} {w : World} (ha : Lst KMag w S a n ps) (hb : Lst KMag w S' b m qs) (hS : ShortM 17592186044416 ps) (hS2 : ShortM 17592186044416 qs) (hn : n ≤ 17592186044416) (hm : m ≤ 17592186044416) :
    Calls Tryz.prog 70 #[.slice a n c, .slice b m d, .func (Fn.func 69) #[] #[]] w fun e w' => e = .returned (.bool (decide (ps = qs))) ∧ Below w.heap.size w w' := by
  have HL := Lib.hid ha.1
  have HL2 := Lib.hid hb.1
  have HS := Lib.hid hS
  have HS2 := Lib.hid hS2
  by_cases hnm : n = m
  rotate_left
  · have HF : Hid (decide (ps = qs) = false) := by show _ = _; rw [decide_eq_false_iff_not]; rintro rfl; exact hnm (HL.out.symm.trans HL2.out)
    have hq : ((n : Int) != (m : Int)) = true := by simp; omega
    go_enter Tryz.func70, Tryz.ntmps70
    go_wp2_with fail
    go_ret
    exact ⟨ret_bool HF.out.symm, Below.refl _ _⟩
  subst hnm
  have hq : ((n : Int) != (n : Int)) = false := by simp
  go_enter Tryz.func70, Tryz.ntmps70
  go_wp2_with fail
  clear hq
  go_loopw [7, 8, 9, 17] (fun _ _ _ i wr => ∃ k : Nat, k ≤ n ∧ i = .int .i64 k ∧ Hid (SameUpto ps qs k) ∧ Below w.heap.size w wr) (fun _ _ _ i _ => n - (intOf i).toNat)
  case atStart => exact ⟨0, Nat.zero_le _, rfl, fun j hj => by omega, Below.refl _ _⟩
  case round =>
    obtain ⟨k, hk, rfl, HK, hbw⟩ := hrel
    by_cases hlt : k < n
    · obtain ⟨b0, o0, p, a0, l0, c0, rfl, d0, hp, e0, hlc0, hcm0, hu0⟩ := (ha.below hbw).mag_at hlt
      obtain ⟨b1, o1, q, a1, l1, c1, rfl, d1, hp', f0, hlc1, hcm1, hu1⟩ := (hb.below hbw).mag_at hlt
      have HP := Lib.hid hp
      have HP2 := Lib.hid hp'
      have hl : l0 ≤ 17592186044416 := by have := HS.out.at_ hp; have := hu0.1; omega
      have hl1 : l1 ≤ 17592186044416 := by have := HS2.out.at_ hp'; have := hu1.1; omega
      clear hp hp' hcm0 hcm1
      rcases hd : decide (p = q) with _ | _
      · have HF : Hid (decide (ps = qs) = false) := by
          show _ = _; rw [decide_eq_false_iff_not]; exact differ_at HP.out HP2.out (by simpa using hd)
        go_wp2_with fail
        refine (equalI_calls hu0.ints hu1.ints hl hl1).mono ?_
        rw [hd]
        rintro e w1 ⟨rfl, hx⟩
        have hb2 := hbw.trans (hx.mono hbw.size)
        clear hx
        go_wp2_with fail
        go_ret
        exact ⟨ret_bool HF.out.symm, hb2⟩
      · have HN := Lib.hid (HK.out.succ (HP.out.trans (by rw [HP2.out, show p = q by simpa using hd])))
        go_wp2_with fail
        refine (equalI_calls hu0.ints hu1.ints hl hl1).mono ?_
        rw [hd]
        rintro e w1 ⟨rfl, hx⟩
        have hb2 := hbw.trans (hx.mono hbw.size)
        clear hx
        go_wp2_with fail
        go_roundw
        case rel => exact ⟨k + 1, by omega, by go_num, HN, hb2⟩
        case measure => simp [intOf]; omega
    · have HF : Hid (decide (ps = qs) = true) := by show _ = _; rw [decide_eq_true_iff]; exact HK.out.all (by rw [HL.out]; omega) (by rw [HL2.out]; omega)
      go_wp2_with fail
      go_ret
      exact ⟨ret_bool HF.out.symm, hbw⟩

set_option maxHeartbeats 400000 in
theorem isRising_calls {a : Option Addr} {n c : Nat} {xs : List Int} {w : World} (ha : Ints w a n xs) (hx : n ≤ 17592186044416) :
    Calls Tryz.prog 148 #[.slice a n c] w fun e w' => e = .returned (.bool (rising xs)) ∧ Below w.heap.size w w' := by
  have HL := Lib.hid ha.1
  go_enter Tryz.func148, Tryz.ntmps148
  go_wp2
  go_loopw [3] (fun i wr => ∃ k : Nat, 1 ≤ k ∧ (k ≤ n ∨ k = 1) ∧ i = .int .i64 k ∧ Hid (risingTo xs k) ∧ Below w.heap.size w wr) (fun i _ => n - (intOf i).toNat)
  case atStart => exact ⟨1, Nat.le_refl _, .inr rfl, rfl, fun i h1 h2 => by omega, Below.refl _ _⟩
  case round =>
    obtain ⟨k, hk1, hk, rfl, HW, hbw⟩ := hrel
    by_cases hlt : k < n
    · obtain ⟨ba, oa, rfl, hba, hca⟩ := (ha.below hbw).at_ hlt
      obtain ⟨ba', oa', he, _, hcb⟩ := (ha.below hbw).at_ (show k - 1 < n by omega)
      simp only [Option.some.injEq, Addr.mk.injEq, and_true] at he
      obtain ⟨rfl, rfl⟩ := he
      have hkx : k < xs.length := by rw [HL.out]; exact hlt
      have hkx' : k - 1 < xs.length := by omega
      have e1 : xs.getD k 0 = xs[k] := by simp [List.getD, hkx]
      have e2 : xs.getD (k - 1) 0 = xs[k - 1] := by simp [List.getD, hkx']
      have q1 : IntKind.i64.wrap ((k : Int) - 1) = (k : Int) - 1 := IntWalk.i64_in _ (by omega)
      have q2 : (0 : Int) ≤ (k : Int) - 1 := by omega
      have q3 : ((k : Int) - 1).toNat = k - 1 := by omega
      have q4 : (k : Int) - 1 < (n : Int) := by omega
      by_cases hlv : xs[k] ≤ xs[k - 1]
      · have HF := Lib.hid (rising_no hk1 hkx (by rw [e1, e2]; omega))
        clear e1 e2
        go_wp2_with (go_quiet (fail))
        go_ret
        exact ⟨ret_bool HF.out.symm, below_drewN hbw _⟩
      · have HS := Lib.hid (risingTo_succ HW.out (by rw [e1, e2]; omega))
        clear e1 e2
        go_wp2_with (go_quiet (fail))
        go_roundw
        case rel => exact ⟨k + 1, by omega, by omega, by go_num, HS, below_drewN hbw _⟩
        case measure => simp [intOf]; omega
    · have HF := Lib.hid (show rising xs = true by
        rw [rising_iff]
        intro i i1 i2
        exact HW.out i i1 (by have := HL.out; omega))
      go_wp2
      go_ret
      exact ⟨ret_bool HF.out.symm, hbw⟩

/-- Two of these are the same. -/
def alike (xs : List Int) : Bool := !decide xs.Nodup
theorem pairwise_rising {xs : List Int} (h : xs.Pairwise (· < ·)) : rising xs = true := by
  rw [rising_iff]
  intro i h1 h2
  have := List.pairwise_iff_getElem.1 h (i - 1) i (by omega) h2 (by omega)
  simpa [List.getD, h2, show i - 1 < xs.length by omega] using this
theorem rising_pairwise {xs : List Int} (h : rising xs = true) : xs.Pairwise (· < ·) := by
  rw [rising_iff] at h
  have key : ∀ d i, i + d + 1 < xs.length → xs.getD i 0 < xs.getD (i + d + 1) 0 := by
    intro d
    induction d with
    | zero => intro i hi; have := h (i + 1) (by omega) (by omega); simpa using this
    | succ d ih => intro i hi; have h1 := ih i (by omega); have h2 := h (i + (d + 1) + 1) (by omega) (by omega); simp only [Nat.add_sub_cancel] at h2; exact Int.lt_trans h1 h2
  refine List.pairwise_iff_getElem.2 fun i j hi hj hij => ?_
  have := key (j - i - 1) i (by omega)
  rw [show i + (j - i - 1) + 1 = j by omega] at this
  simpa [List.getD, hi, hj] using this
theorem rising_sorted (xs : List Int) : rising (xs.mergeSort fun x y => decide (x ≤ y)) = decide xs.Nodup := by
  have hp := List.mergeSort_perm xs (fun x y => decide (x ≤ y))
  have hs : (xs.mergeSort fun x y => decide (x ≤ y)).Pairwise (fun x y => decide (x ≤ y) = true) := List.pairwise_mergeSort (fun a b c h1 h2 => by simp at *; omega) (fun a b => by simp; omega) xs
  rcases hr : rising (xs.mergeSort fun x y => decide (x ≤ y)) with _ | _
  · symm
    rw [decide_eq_false_iff_not]
    intro hn
    have hn2 := hp.nodup_iff.2 hn
    have : (xs.mergeSort fun x y => decide (x ≤ y)).Pairwise (· < ·) := by
      refine (hs.and (List.nodup_iff_pairwise_ne.1 hn2)).imp ?_
      rintro a b ⟨h1, h2⟩
      simp at h1; omega
    rw [pairwise_rising this] at hr; cases hr
  · symm
    rw [decide_eq_true_iff]
    exact hp.nodup_iff.1 ((rising_pairwise hr).imp fun h => by omega)
end Go.Proofs.YthpamclljdcjpaaGreatDoor
