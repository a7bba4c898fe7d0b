/- The choice out of n that the bytes of a law make. -/
import Derived.Test.YtkikjoalhohlgaaSrc
namespace Go.Proofs.Ytkikjoalhohlgaa
open Go.RowKit

/-- What the choice leaves. -/
def Chosen (w : World) (n : Int) (e : Ending) (w' : World) : Prop := ∃ r : Int, e = .returned (.int .i64 r) ∧ 0 ≤ r ∧ (1 ≤ n → r < n) ∧ (n < 1 → r = 0) ∧ Below w.heap.size w w'
theorem Chosen.mk {w w' : World} {n r : Int} (h0 : 0 ≤ r) (h1 : 1 ≤ n → r < n) (h2 : n < 1 → r = 0) (hb : Below w.heap.size w w') : Chosen w n (.returned (.int .i64 r)) w' := ⟨r, rfl, h0, h1, h2, hb⟩
theorem below_drewN (w : World) (n : Nat) : Below w.heap.size w (w.drewN n) := ⟨rfl, rfl, rfl, Nat.le_refl _, fun _ _ => rfl⟩

set_option maxHeartbeats 1600000 in
theorem lwAt_calls {ao : Option Addr} {m c k : Nat} {bs : List Int} {n : Int} {w : World} (hb : Bytes w ao m bs) (hm : m ≤ 1048576) (hk : k ≤ 1000) :
    Calls Try.prog 33 #[.slice ao m c, .int .i64 k, .int .i64 n] w (Chosen w n) := by
  by_cases hn : n ≤ 1
  · go_enter Try.func33, Try.ntmps33
    go_wp2
    go_ret
    exact Chosen.mk (Int.le_refl _) (fun h => by omega) (fun _ => rfl) (Below.refl _ _)
  · by_cases h0 : m = 0
    · subst h0
      go_enter Try.func33, Try.ntmps33
      go_wp2_with fail
      go_ret
      exact Chosen.mk (Int.emod_nonneg _ (by omega)) (fun _ => Int.emod_lt_of_pos _ (by omega)) (fun h => by omega) (Below.refl _ _)
    · obtain ⟨b, off, rfl, hbl, hc⟩ := hb.2 (by omega)
      have hm0 : ((m : Int) == 0) = false := by simp; omega
      have hx0 := hc (k % m) (Nat.mod_lt _ (by omega))
      have hx1 := hc ((k + 1) % m) (Nat.mod_lt _ (by omega))
      obtain ⟨d0, hd0⟩ : ∃ d, d = bs.getD (k % m) 0 := ⟨_, rfl⟩
      obtain ⟨d1, hd1⟩ : ∃ d, d = bs.getD ((k + 1) % m) 0 := ⟨_, rfl⟩
      rw [← hd0] at hx0; rw [← hd1] at hx1
      clear hd0 hd1 hc hb
      obtain ⟨hx0, y0, y0'⟩ := hx0
      obtain ⟨hx1, y1, y1'⟩ := hx1
      have lt0 : (k : Int) % (m : Int) < m := Int.emod_lt_of_pos _ (by omega)
      have ge0 : 0 ≤ (k : Int) % (m : Int) := Int.emod_nonneg _ (by omega)
      have lt1 : ((k : Int) + 1) % (m : Int) < m := Int.emod_lt_of_pos _ (by omega)
      have ge1 : 0 ≤ ((k : Int) + 1) % (m : Int) := Int.emod_nonneg _ (by omega)
      have q0 : 0 ≤ (k : Int) / (m : Int) := Int.ediv_nonneg (by omega) (by omega)
      have q1 : (k : Int) / (m : Int) ≤ k := Int.ediv_le_self _ (by omega)
      by_cases hn2 : n ≤ 200
      · go_enter Try.func33, Try.ntmps33
        go_wp2_with fail
        go_quiet (fail)
        obtain ⟨v, hv⟩ : ∃ v, v = d0 + (k : Int) / (m : Int) * 3 := ⟨_, rfl⟩
        have hv0 : 0 ≤ v := by omega
        have hv1 : v ≤ 255 + 4294967296 * 37 := by omega
        rw [← hv]
        clear hv
        go_wp2_with fail
        go_ret
        exact Chosen.mk (Int.emod_nonneg _ (by omega)) (fun _ => Int.emod_lt_of_pos _ (by omega)) (fun h => by omega) (below_drewN _ _)
      · go_enter Try.func33, Try.ntmps33
        go_wp2_with fail
        go_quiet (fail)
        obtain ⟨v, hv⟩ : ∃ v, v = d0 + (k : Int) / (m : Int) * 3 := ⟨_, rfl⟩
        have hv0 : 0 ≤ v := by omega
        have hv1 : v ≤ 255 + 4294967296 * 37 := by omega
        rw [← hv]
        clear hv
        go_wp2_with fail
        try go_quiet (fail)
        obtain ⟨u, hu⟩ : ∃ u, u = v * 251 + d1 := ⟨_, rfl⟩
        have hu0 : 0 ≤ u := by omega
        rw [← hu]
        clear hu
        go_wp2_with fail
        go_ret
        exact Chosen.mk (Int.emod_nonneg _ (by omega)) (fun _ => Int.emod_lt_of_pos _ (by omega)) (fun h => by omega) (by first | exact below_drewN _ _ | exact (below_drewN _ _).trans (below_drewN _ _))
theorem lwAt2_calls {ao : Option Addr} {m c : Nat} {bs : List Int} {n : Int} {w : World} (hb : Bytes w ao m bs) (hm : m ≤ 1048576) :
    Calls Try.prog 33 #[.slice ao m c, .int .i64 2, .int .i64 n] w (Chosen w n) := lwAt_calls (k := 2) hb hm (by omega)
end Go.Proofs.Ytkikjoalhohlgaa
