/- Walks of layer 2's and layer 3's functions: keys, gaps, who is nearer. -/
import Derived.Test.YtgglnhnokhpnpaaDoorRows
import Derived.WalkKit
import Derived.ProofKit
import Derived.OpenShut
import Derived.Deep.DeepMust
namespace Go.Proofs.YtgglnhnokhpnpaaDoor
open Go.RowKit

/-- The nodes' keys. -/
def nodeL : List Int := [2342812313538366385, 1863050908023769503, 81111313352671826, 2434324899588211290, 2454816673080883147, 1342378062264523301, 820659310660760249, 2006264061484817761]
/-- The topics' keys. -/
def topicL : List Int := [1462484242049070477, 1775212608919665246, 3535639072113518480, 3725500155902745375]
/-- The key of a node. -/
def nk (n : Int) : Int := nodeL.getD n.toNat 0
/-- The key of a topic. -/
def tk (n : Int) : Int := topicL.getD n.toNat 0
/-- The number of a node. -/
abbrev IsN (n : Int) : Prop := 0 ≤ n ∧ n < 8
/-- The number of a topic. -/
abbrev IsT (n : Int) : Prop := 0 ≤ n ∧ n < 4
/-- How far a node stands behind a topic. -/
def gp (t n : Int) : Int := (nk n - tk t) % 4611686018427387904

/-- The two package variables hold the keys. -/
structure Glob (w : World) : Prop where
  size : 1 < w.heap.size
  n : ∀ i : Nat, i < 8 → w.cell? ⟨1, i, none⟩ = some (.int .i64 (nodeL.getD i 0))
  t : ∀ i : Nat, i < 4 → w.cell? ⟨0, i, none⟩ = some (.int .i64 (topicL.getD i 0))
theorem Glob.below {w w' : World} {B : Nat} (h : Glob w) (hb : Below B w w') (hB : 1 < B) : Glob w' :=
  ⟨Nat.lt_of_lt_of_le h.size hb.size, fun i hi => (hb.cell (p := ⟨1, i, none⟩) hB).trans (h.n i hi), fun i hi => (hb.cell (p := ⟨0, i, none⟩) (by show 0 < B; omega)).trans (h.t i hi)⟩

theorem onring_low (d : Int) (h : d < 0) (h2 : -4611686018427387904 ≤ d) (w : World) :
    Calls Tryd.prog 51 #[.int .i64 d] w fun e w' => e = .returned (.int .i64 (d + 4611686018427387904)) ∧ w' = w := by
  go_enter Tryd.func51, Tryd.ntmps51
  go_wp2
  go_ret
  exact ⟨rfl, rfl⟩
theorem onring_high (d : Int) (h : 0 ≤ d) (w : World) :
    Calls Tryd.prog 51 #[.int .i64 d] w fun e w' => e = .returned (.int .i64 d) ∧ w' = w := by
  go_enter Tryd.func51, Tryd.ntmps51
  go_wp2
  go_ret
  exact ⟨rfl, rfl⟩
theorem check_in (k : Int) (h : 0 ≤ k) (h2 : k < 4611686018427387904) (w : World) :
    Calls Tryd.prog 50 #[.int .i64 k] w fun e w' => e = .returned (.int .i64 0) ∧ w' = w := by
  go_enter Tryd.func50, Tryd.ntmps50
  go_wp2
  go_ret
  exact ⟨rfl, rfl⟩
/-- A key. -/
abbrev Key (k : Int) : Prop := 0 ≤ k ∧ k < 4611686018427387904
theorem behind_is (k n : Int) (hk : Key k) (hn : Key n) (w : World) :
    Calls Tryd.prog 43 #[.int .i64 k, .int .i64 n] w fun e w' => e = .returned (.tuple #[.int .i64 ((n - k) % 4611686018427387904), .int .i64 0]) ∧ w' = w := by
  obtain ⟨hk1, hk2⟩ := hk
  obtain ⟨hn1, hn2⟩ := hn
  have hw : IntKind.i64.wrap (n - k) = n - k := by rw [IntWalk.i64_left, IntWalk.wrap64_in _ (by omega)]
  by_cases h : n < k
  · have he : (n - k) % 4611686018427387904 = n - k + 4611686018427387904 := by omega
    rw [he]
    clear he
    go_enter Tryd.func43, Tryd.ntmps43
    go_wp2_with (first
      | (go_at_call 50; refine (check_in _ (by assumption) (by assumption) _).mono ?_; rintro e w1 ⟨rfl, rfl⟩)
      | (go_at_call 51; refine (onring_low (n - k) (by omega) (by omega) _).mono ?_; rintro e w1 ⟨rfl, rfl⟩))
    go_ret2
    exact ⟨rfl, rfl⟩
  · have he : (n - k) % 4611686018427387904 = n - k := by omega
    rw [he]
    clear he
    go_enter Tryd.func43, Tryd.ntmps43
    go_wp2_with (first
      | (go_at_call 50; refine (check_in _ (by assumption) (by assumption) _).mono ?_; rintro e w1 ⟨rfl, rfl⟩)
      | (go_at_call 51; refine (onring_high (n - k) (by omega) _).mono ?_; rintro e w1 ⟨rfl, rfl⟩))
    go_ret2
    exact ⟨rfl, rfl⟩

theorem node_in (n : Nat) (h : n < 8) (w : World) (hG : Glob w) :
    Calls Tryd.prog 42 #[.int .i64 n] w fun e w' => e = .returned (.tuple #[.int .i64 (nodeL.getD n 0), .int .i64 0]) ∧ w' = w := by
  have hc := hG.n n h
  have hs := hG.size
  clear hG
  generalize nodeL.getD n 0 = v at *
  go_enter Tryd.func42, Tryd.ntmps42
  go_wp2
  go_ret2
  exact ⟨rfl, rfl⟩
theorem topic_in (n : Nat) (h : n < 4) (w : World) (hG : Glob w) :
    Calls Tryd.prog 41 #[.int .i64 n] w fun e w' => e = .returned (.tuple #[.int .i64 (topicL.getD n 0), .int .i64 0]) ∧ w' = w := by
  have hc := hG.t n h
  have hs := hG.size
  clear hG
  generalize topicL.getD n 0 = v at *
  go_enter Tryd.func41, Tryd.ntmps41
  go_wp2
  go_ret2
  exact ⟨rfl, rfl⟩
theorem node_is (n : Int) (h : IsN n) (w : World) (hG : Glob w) :
    Calls Tryd.prog 42 #[.int .i64 n] w fun e w' => e = .returned (.tuple #[.int .i64 (nk n), .int .i64 0]) ∧ w' = w := by
  obtain ⟨h1, h2⟩ := h
  obtain ⟨m, rfl⟩ := Int.eq_ofNat_of_zero_le h1
  exact node_in m (by omega) w hG
theorem topic_is (n : Int) (h : IsT n) (w : World) (hG : Glob w) :
    Calls Tryd.prog 41 #[.int .i64 n] w fun e w' => e = .returned (.tuple #[.int .i64 (tk n), .int .i64 0]) ∧ w' = w := by
  obtain ⟨h1, h2⟩ := h
  obtain ⟨m, rfl⟩ := Int.eq_ofNat_of_zero_le h1
  exact topic_in m (by omega) w hG
theorem node_no (n : Int) (h : ¬ IsN n) (w : World) :
    Calls Tryd.prog 42 #[.int .i64 n] w fun e w' => e = .returned (.tuple #[.int .i64 0, .int .i64 1]) ∧ w' = w := by
  unfold IsN at h
  by_cases h1 : n < 0
  · clear h
    go_enter Tryd.func42, Tryd.ntmps42
    go_wp2
    go_ret2
    exact ⟨rfl, rfl⟩
  · have h2 : 8 ≤ n := by omega
    clear h
    go_enter Tryd.func42, Tryd.ntmps42
    go_wp2
    go_ret2
    exact ⟨rfl, rfl⟩
theorem topic_no (n : Int) (h : ¬ IsT n) (w : World) :
    Calls Tryd.prog 41 #[.int .i64 n] w fun e w' => e = .returned (.tuple #[.int .i64 0, .int .i64 1]) ∧ w' = w := by
  unfold IsT at h
  by_cases h1 : n < 0
  · clear h
    go_enter Tryd.func41, Tryd.ntmps41
    go_wp2
    go_ret2
    exact ⟨rfl, rfl⟩
  · have h2 : 4 ≤ n := by omega
    clear h
    go_enter Tryd.func41, Tryd.ntmps41
    go_wp2
    go_ret2
    exact ⟨rfl, rfl⟩

theorem nk_key (n : Int) (h : IsN n) : Key (nk n) := by
  obtain ⟨h1, h2⟩ := h
  obtain ⟨m, rfl⟩ := Int.eq_ofNat_of_zero_le h1
  match m, h2 with
  | 0, _ | 1, _ | 2, _ | 3, _ | 4, _ | 5, _ | 6, _ | 7, _ => exact ⟨by decide, by decide⟩
theorem tk_key (n : Int) (h : IsT n) : Key (tk n) := by
  obtain ⟨h1, h2⟩ := h
  obtain ⟨m, rfl⟩ := Int.eq_ofNat_of_zero_le h1
  match m, h2 with
  | 0, _ | 1, _ | 2, _ | 3, _ => exact ⟨by decide, by decide⟩

theorem gap_is (t n : Int) (ht : IsT t) (hn : IsN n) (w : World) (hG : Glob w) :
    Calls Tryd.prog 34 #[.int .i64 t, .int .i64 n] w fun e w' => e = .returned (.tuple #[.int .i64 (gp t n), .int .i64 0]) ∧ w' = w := by
  have kt := tk_key t ht
  have kn := nk_key n hn
  unfold gp
  generalize hT : tk t = T at *
  generalize hN : nk n = N at *
  go_enter Tryd.func34, Tryd.ntmps34
  go_wp2_with (first
    | (go_at_call 41; refine (topic_is _ (by assumption) _ (by assumption)).mono ?_; rw [hT]; rintro e w1 ⟨rfl, rfl⟩)
    | (go_at_call 42; refine (node_is _ (by assumption) _ (by assumption)).mono ?_; rw [hN]; rintro e w1 ⟨rfl, rfl⟩)
    | (go_at_call 43; refine (behind_is _ _ (by assumption) (by assumption) _).mono ?_; rintro e w1 ⟨rfl, rfl⟩))
  go_ret2
  exact ⟨rfl, rfl⟩
end Go.Proofs.YtgglnhnokhpnpaaDoor
