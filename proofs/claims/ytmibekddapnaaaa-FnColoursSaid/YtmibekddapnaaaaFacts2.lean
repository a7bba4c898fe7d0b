/- Chapter 2, plain facts on colours, and the comparison of results of two numbers. -/
import Derived.Test.YtmibekddapnaaaaSpec2c
import Derived.Laws.StructEq
namespace Go.Proofs.Ytmibekddapnaaaa
open Go.RowKit

theorem run_eqPair (x y : Int) (d : Nat) (u : World) : (Op.equalIn (d + 2) 34 (.agg #[.int .i64 x, .int .i64 y]) (.agg #[.int .i64 x, .int .i64 y])).run Try.prog u = .ok true u := by
  rw [run_equalIn_struct u (d + 1) _ _ _ (by kernel_rfl) (by kernel_rfl)]
  have hf : Try.prog.fieldsOf 34 = #[{ name := "Code", type := 2, offset := 0, embedded := false, tag := "", pkgPath := "", byteOffset := 0 }, { name := "Value", type := 2, offset := 1, embedded := false, tag := "", pkgPath := "", byteOffset := 8 }] := by kernel_rfl
  rw [hf]
  have p0 := run_part_plain (P := Try.prog) u (e := 2) (by kernel_rfl) (xs := #[.int .i64 x, .int .i64 y]) (off := 0) (v := .int .i64 x) (by simp)
  have p1 := run_part_plain (P := Try.prog) u (e := 2) (by kernel_rfl) (xs := #[.int .i64 x, .int .i64 y]) (off := 1) (v := .int .i64 y) (by simp)
  simp [Op.eqFields, p0, p1, run_equalIn_int u d 2 .i64 .i64 _ _ Try.underlying2]
theorem run_neqPair (x y : Int) (u : World) : (binOp .neq 34 (.agg #[.int .i64 x, .int .i64 y]) (.agg #[.int .i64 x, .int .i64 y])).run Try.prog u = .ok (.bool false) u := by
  rw [run_neq_struct, run_eqPair]; rfl
theorem run_eqlPair (x y : Int) (u : World) : (binOp .eql 34 (.agg #[.int .i64 x, .int .i64 y]) (.agg #[.int .i64 x, .int .i64 y])).run Try.prog u = .ok (.bool true) u := by
  rw [run_eql_struct, run_eqPair]; rfl

theorem head_holders {ts : List (List Int × Int)} {c : Int} : ∀ {n : Nat} {t : Int}, (holdersTo ts c n).head? = some t → ∃ k : Nat, t = k ∧ k < n ∧ hasColour (tenAt ts k) c = true := by
  intro n t h
  have hm : t ∈ holdersTo ts c n := List.mem_of_mem_head? h
  unfold holdersTo at hm
  simp only [List.mem_map, List.mem_filter, List.mem_range] at hm
  obtain ⟨k, ⟨hk, hc⟩, rfl⟩ := hm
  exact ⟨k, rfl, hk, hc⟩
/-- The owner's frames have the frame. -/
theorem owner_has {F C f t : Int} {ts : List (List Int × Int)} (h : ownerOf F C ts f = (0, t)) : hasIn (framesFor F C ts t).2 f = true := by
  unfold ownerOf at h
  split at h
  · rename_i h0
    obtain ⟨hc, hcf, h1, h2⟩ := colourOf_ok h0
    have hk := configFault_ok hcf
    rw [hc] at h
    simp only at h
    split at h
    · rename_i t' ht
      simp only [Prod.mk.injEq, true_and] at h
      subst h
      obtain ⟨k, rfl, hk1, hk2⟩ := head_holders ht
      unfold framesFor
      rw [if_pos hcf, if_pos (by rw [within_one]; simp; omega)]
      unfold hasIn
      rw [List.contains_iff_mem, mem_framesTo]
      simp only [Int.toNat_natCast]
      exact ⟨h1, by omega, hk2⟩
    · simp at h
  · rename_i h0
    simp only [Prod.mk.injEq] at h
    exact absurd h.1 h0
/-- Each of a tenant's frames is owned by it. -/
theorem frames_owned {F C t : Int} {ts : List (List Int × Int)} (h : (framesFor F C ts t).1 = 0) : ∀ f ∈ (framesFor F C ts t).2, ownerOf F C ts f = (0, t) := by
  intro f hf
  unfold framesFor at h hf
  split at h
  · rename_i hcf
    rw [if_pos hcf] at hf
    have hk := configFault_ok hcf
    split at h
    · rename_i hw
      rw [if_pos hw] at hf
      rw [within_one] at hw
      simp at hw
      rw [mem_framesTo] at hf
      obtain ⟨h1, h2, h3⟩ := hf
      obtain ⟨k, rfl⟩ : ∃ k : Nat, t = k := ⟨t.toNat, by omega⟩
      simp only [Int.toNat_natCast] at h3
      have hcol : colourOf F C ts f = (0, f % C) := by
        unfold colourOf
        rw [if_pos hcf, if_pos (by rw [within_one]; simp; omega)]
      refine ownerOf_found hcol (by omega) (fun j hj => ?_) h3
      rcases hb : hasColour (tenAt ts j) (f % C) with _ | _
      · rfl
      · have : shared ts = true := (shared_iff ts).2 ⟨k, j, f % C, by omega, hj, by unfold hasColour hasIn at h3; rwa [List.contains_iff_mem] at h3, hb⟩
        rw [hk.2.2.2.2.2.2.2] at this; cases this
    · simp at h
  · rename_i hcf; exact absurd h hcf
end Go.Proofs.Ytmibekddapnaaaa
