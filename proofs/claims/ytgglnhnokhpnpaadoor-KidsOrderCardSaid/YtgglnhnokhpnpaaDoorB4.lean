/- Plain facts for bellwetherlaw03.RingOwners; Owner of a list of two. -/
import Derived.Test.YtgglnhnokhpnpaaDoorB1
namespace Go.Proofs.YtgglnhnokhpnpaaDoor
open Go.RowKit

/-- Some ints and then some others. -/
def both (P Q : Nat → Int) (n : Nat) (i : Nat) : Int := if i < n then P i else Q (i - n)
theorem both_l {P Q : Nat → Int} {n i : Nat} (h : i < n) : both P Q n i = P i := if_pos h
theorem both_r {P Q : Nat → Int} {n : Nat} (i : Nat) : both P Q n (n + i) = Q i := by
  unfold both
  rw [if_neg (by omega), Nat.add_sub_cancel_left]
theorem iL_one (F : Nat → Int) (n : Nat) : ∀ u ∈ iL F n, u.oneCell' = true := by
  intro u hu
  unfold iL at hu
  obtain ⟨j, _, rfl⟩ := List.mem_map.1 hu
  rfl
theorem iL_congr {F G : Nat → Int} {n : Nat} (h : ∀ j, j < n → F j = G j) : iL F n = iL G n := by
  unfold iL
  refine List.map_congr_left fun j hj => ?_
  rw [h j (List.mem_range.1 hj)]
theorem iL_add (F : Nat → Int) (n : Nat) : ∀ k, iL F (n + k) = iL F n ++ iL (fun i => F (n + i)) k
  | 0 => by simp [iL]
  | k + 1 => by
    rw [← Nat.add_assoc, iL_succ, iL_succ, iL_add F n k, List.append_assoc]
theorem iL_both (P Q : Nat → Int) (n k : Nat) : iL P n ++ iL Q k = iL (both P Q n) (n + k) := by
  rw [iL_add, iL_congr (F := P) (G := both P Q n) fun j hj => (both_l hj).symm, iL_congr (F := Q) (G := fun i => both P Q n (n + i)) fun j _ => (both_r j).symm]

/-- The owner of both is the nearer one of both owners. -/
theorem own_both (T : Int) (P Q : Nat → Int) (m k : Nat) (kT : IsT T) (hP : ∀ i, IsN (P i)) (hQ : ∀ i, IsN (Q i)) :
    own T (both P Q (m + 1)) (m + 1 + k) = if gp T (own T Q k) < gp T (own T P m) then own T Q k else own T P m := by
  have hB : ∀ i, IsN (both P Q (m + 1) i) := fun i => by unfold both; split; exact hP _; exact hQ _
  obtain ⟨i, hi, ei⟩ := own_met T (both P Q (m + 1)) (m + 1 + k)
  have kz : IsN (own T (both P Q (m + 1)) (m + 1 + k)) := by rw [ei]; exact hB i
  obtain ⟨jp, hjp, ep⟩ := own_met T P m
  obtain ⟨jq, hjq, eq⟩ := own_met T Q k
  have kp : IsN (own T P m) := by rw [ep]; exact hP jp
  have kq : IsN (own T Q k) := by rw [eq]; exact hQ jq
  have l1 := own_least T (both P Q (m + 1)) (m + 1 + k) jp (by omega)
  have l2 := own_least T (both P Q (m + 1)) (m + 1 + k) (m + 1 + jq) (by omega)
  rw [both_l (by omega), ← ep] at l1
  rw [both_r, ← eq] at l2
  have hor : gp T (own T P m) ≤ gp T (own T (both P Q (m + 1)) (m + 1 + k)) ∨ gp T (own T Q k) ≤ gp T (own T (both P Q (m + 1)) (m + 1 + k)) := by
    by_cases h : i < m + 1
    · have := own_least T P m i (by omega)
      rw [ei, both_l h]
      exact .inl this
    · obtain ⟨d, rfl⟩ : ∃ d, i = m + 1 + d := ⟨i - (m + 1), by omega⟩
      have := own_least T Q k d (by omega)
      rw [ei, both_r]
      exact .inr this
  split
  · exact gp_inj kT kz kq (by omega)
  · exact gp_inj kT kz kp (by omega)

theorem own_both' (T : Int) (P Q : Nat → Int) (n k : Nat) (kT : IsT T) (hP : ∀ i, IsN (P i)) (hQ : ∀ i, IsN (Q i)) (hn : 0 < n) (hk : 0 < k) :
    own T (both P Q n) (n + k - 1) = if gp T (own T Q (k - 1)) < gp T (own T P (n - 1)) then own T Q (k - 1) else own T P (n - 1) := by
  obtain ⟨m, rfl⟩ : ∃ m, n = m + 1 := ⟨n - 1, by omega⟩
  obtain ⟨l, rfl⟩ : ∃ m, k = m + 1 := ⟨k - 1, by omega⟩
  exact own_both T P Q m l kT hP hQ
theorem owner_pos (t : Int) (v : Value) (n : Nat) (F : Nat → Int) (ht : IsT t) (w : World) (hG : Glob w) (h : ISl w v n F) (h0 : 0 < n) (hn : NodesTo F n) :
    Calls Tryd.prog 35 #[.int .i64 t, v] w fun e w' => e = .returned (.tuple #[.int .i64 (own t F (n - 1)), .int .i64 0]) ∧ w' = w := by
  obtain ⟨m, rfl⟩ : ∃ m, n = m + 1 := ⟨n - 1, by omega⟩
  exact owner_is t v m F ht w hG h hn
theorem owner2 (t x y z : Int) (ht : IsT t) (kx : IsN x) (ky : IsN y) (hz : (if gp t y < gp t x then y else x) = z) (w : World) (hG : Glob w) :
    Calls Tryd.prog 35 #[.int .i64 t, .slice (some ⟨w.heap.size, 0, none⟩) 2 2] (w.alloc (.cells #[.int .i64 x, .int .i64 y] 3)) fun e w' => e = .returned (.tuple #[.int .i64 z, .int .i64 0]) ∧ w' = w.alloc (.cells #[.int .i64 x, .int .i64 y] 3) := by
  have h := owner_is t _ 1 (fun i => [x, y].getD i 0) ht _ (hG.alloc _) (isl_lit w [x, y] 3 2 rfl (by unfold maxLen; omega)) (by
    intro i hi
    match i, hi with
    | 0, _ => exact kx
    | 1, _ => exact ky)
  have e : own t (fun i => [x, y].getD i 0) 1 = z := by rw [← hz]; rfl
  rw [e] at h
  exact h
theorem isl_cells {w : World} {g o n c : Nat} {F : Nat → Int} (h : ISl w (.slice (some ⟨g, o, none⟩) n c) n F) : ∀ j u, (iL F n)[j]? = some u → w.cell? ((⟨g, o, none⟩ : Addr).add j) = some u := by
  intro j u hu
  have hj : j < n := by
    have := (List.getElem?_eq_some_iff.1 hu).1
    rwa [iL_length] at this
  rw [iL_get F n j hj] at hu
  rcases h with ⟨rfl, _⟩ | ⟨b, off, cap, hv, _, _, _, hc⟩
  · omega
  · injection hv with hv1
    injection hv1 with hv1
    injection hv1 with hg ho
    subst hg
    subst ho
    rw [Addr.add_lit, hc j hj, hu]
theorem owns_zero (w : World) (t : TypeId) : (w.alloc (.cells #[] t)).ownsRow w.heap.size t 1 (.slice (some ⟨w.heap.size, 0, none⟩) 0 0) 0 [] :=
  ⟨rfl, .inr ⟨w.heap.size, 0, #[], rfl, Nat.le_refl _, heap_alloc_new _ _, Nat.le_refl _, Nat.zero_le _, rfl, rfl⟩⟩
end Go.Proofs.YtgglnhnokhpnpaaDoor
