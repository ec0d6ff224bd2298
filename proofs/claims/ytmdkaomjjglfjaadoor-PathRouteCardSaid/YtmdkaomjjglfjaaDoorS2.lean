/- Walk of bellwetherlaw11.Some: live nodes of the bits of a number, and one of them. -/
import Derived.Test.YtmdkaomjjglfjaaDoorS1
namespace Go.Proofs.YtmdkaomjjglfjaaDoor
open Go.RowKit

theorem modU (x : Int) (n : Int) (h : 0 < n) (h2 : n ≤ 1000000) : wrap64 ((IntKind.u64.wrap x).tmod n) = (x % 18446744073709551616) % n := by
  have e1 : IntKind.u64.wrap x = x % 18446744073709551616 := rfl
  rw [e1, Int.tmod_eq_emod_of_nonneg (by omega)]
  have h3 := Int.emod_lt_of_pos (x % 18446744073709551616) h
  have h4 := Int.emod_nonneg (x % 18446744073709551616) (show n ≠ 0 by omega)
  unfold wrap64
  omega
theorem modN (x : Int) (n : Nat) (h : 0 < n) (h2 : n ≤ 1000000) : ∃ q : Nat, wrap64 ((IntKind.u64.wrap x).tmod n) = q ∧ q < n := by
  have h3 := Int.emod_lt_of_pos (x % 18446744073709551616) (show (0:Int) < n by omega)
  have h4 := Int.emod_nonneg (x % 18446744073709551616) (show (n:Int) ≠ 0 by omega)
  refine ⟨((x % 18446744073709551616) % n).toNat, ?_, by omega⟩
  rw [modU x n (by omega) (by omega)]
  omega
/-- Is a bit set? -/
def bt (B k : Nat) : Bool := ((1 + (B : Int)) / 2 ^ k).tmod 2 == 1
/-- The bits of a number that are set. -/
def sm (B : Nat) : Nat → List Int
  | 0 => []
  | k + 1 => if bt B k = true then sm B k ++ [(k : Int)] else sm B k
theorem sm_yes {B k : Nat} (h : bt B k = true) : sm B (k + 1) = sm B k ++ [(k : Int)] := by rw [sm, if_pos h]
theorem sm_no {B k : Nat} (h : bt B k = false) : sm B (k + 1) = sm B k := by rw [sm, if_neg (by rw [h]; simp)]
theorem sm_low (B : Nat) : ∀ k, ∀ x ∈ sm B k, 0 ≤ x ∧ x < k
  | 0, x, hx => by cases hx
  | k + 1, x, hx => by
    have ih := sm_low B k
    rw [sm] at hx
    split at hx
    · rw [List.mem_append, List.mem_singleton] at hx
      rcases hx with hx | rfl
      · have := ih x hx; push_cast; omega
      · push_cast; omega
    · have := ih x hx; push_cast; omega
theorem sm_rise (B : Nat) : ∀ k, (sm B k).Pairwise (fun x y => x < y)
  | 0 => List.Pairwise.nil
  | k + 1 => by
    have ih := sm_rise B k
    rw [sm]
    split
    · rw [List.pairwise_append]
      refine ⟨ih, by simp, ?_⟩
      intro x hx y hy
      rw [List.mem_singleton] at hy
      subst hy
      exact (sm_low B k x hx).2
    · exact ih
theorem sm_len (B : Nat) : ∀ k, (sm B k).length ≤ k
  | 0 => Nat.le_refl _
  | k + 1 => by
    have ih := sm_len B k
    rw [sm]
    split
    · rw [List.length_append, List.length_singleton]; omega
    · omega
theorem sm_ris (B : Nat) : Ris (sm B 8) := ⟨sm_rise B 8, fun x hx => sm_low B 8 x hx⟩
theorem sm_ne (B : Nat) (h : B < 255) : sm B 8 ≠ [] := by
  have : ∀ q : Fin 255, (sm q.val 8).isEmpty = false := by decide +kernel
  intro e
  have h1 := this ⟨B, h⟩
  rw [show (⟨B, h⟩ : Fin 255).val = B from rfl, e] at h1
  cases h1
set_option maxHeartbeats 2000000 in
theorem some_is (bits self : Int) (w : World) :
    Calls Tryd.prog 17 #[.int .i64 bits, .int .i64 self] w fun e w' => ∃ v L s, e = .returned (.tuple #[v, .int .i64 s]) ∧ OL w' w.heap.size v L ∧ Ris L ∧ s ∈ L ∧ Below w.heap.size w w' := by
  obtain ⟨B, hB, hB2⟩ : ∃ q : Nat, wrap64 ((IntKind.u64.wrap bits).tmod 255) = q ∧ q < 255 := modN bits 255 (by omega) (by omega)
  have NE := hide (sm_ne B hB2)
  go_enter Tryd.func17, Tryd.ntmps17
  go_wp2
  rw [hB]
  go_loopw [6, 7] (fun xv xi w2 => ∃ k : Nat, k ≤ 8 ∧ xi = .int .i64 k ∧ Hid (OL w2 w.heap.size xv (sm B k)) ∧ Hid (Below w.heap.size w w2)) (fun _ i _ => 8 - (intOf i).toNat)
  case atStart => exact ⟨0, by omega, rfl, hide (OL.nil _ _), hide (Below.refl _ _)⟩
  case round =>
    obtain ⟨k, hk, rfl, HO, HB⟩ := hrel
    by_cases hlt : k < 8
    · have HT := hide (show (sm B k).length ≤ 1000000 from Nat.le_trans (sm_len B k) (by omega))
      cases hb : bt B k with
      | true =>
        have Y := hide (sm_yes hb)
        have hb2 : (((1 + (B : Int)) / 2 ^ k).tmod 2 == 1) = true := hb
        clear hb
        go_wp2_with (at_builtin; refine wpList_snoc (by simp [Region.wanted]) (.tmp 22) (.tmp 24) rfl w.heap.size _ (sm B k) (k : Int) rfl ((unhide HO).alloc _) _ rfl (cell_one (k : Int) _ 3) (unhide HT) (by have := (unhide HB).size; simp; omega) ?_; intro v4 w4 o4 b4; have O4 := hide o4; have B4 := hide (((unhide HB).alloc (unhide HB).size _).trans b4); clear o4 b4)
        go_roundw
        case rel => exact ⟨k + 1, by omega, by go_num, by rw [unhide Y]; exact O4, B4⟩
        case measure => simp [intOf]; omega
      | false =>
        have Y := hide (sm_no hb)
        have hb2 : (((1 + (B : Int)) / 2 ^ k).tmod 2 == 1) = false := hb
        clear hb
        go_wp2
        go_roundw
        case rel => exact ⟨k + 1, by omega, by go_num, by rw [unhide Y]; exact HO, HB⟩
        case measure => simp [intOf]; omega
    · obtain rfl : k = 8 := by omega
      clear NE
      have hne := sm_ne B hB2
      have hR := sm_ris B
      have hl := List.length_pos_iff.2 hne
      have hl8 := sm_len B 8
      obtain ⟨L, hL⟩ : ∃ L, sm B 8 = L := ⟨_, rfl⟩
      rw [hL] at HO hne hR hl hl8
      have HR := hide hR
      obtain ⟨n, hn⟩ : ∃ n, L.length = n := ⟨_, rfl⟩
      rw [hn] at hl hl8
      obtain ⟨N, hN, hN2⟩ := modN self n hl (by omega)
      have hm : zF L N ∈ L := zF_mem (by omega)
      have hi := (unhide HO).il
      unfold IL at hi
      rw [hn] at hi
      rcases id hi with ⟨h0, _⟩ | ⟨g, o, c, rfl, hle, hc, hg, hcell⟩
      · omega
      · unfold maxLen at hc
        have k1 := hcell N hN2
        have hNz : (N : Int) < (n : Int) := by omega
        have hnz : ((n : Int) == 0) = false := beq_false_of_ne (by omega)
        have hw : IntKind.u64.wrap (n : Int) = (n : Int) := by rw [show IntKind.u64.wrap (n : Int) = (n : Int) % 18446744073709551616 from rfl]; omega
        have HM := hide hm
        clear hcell hR hm hi hL hne
        have HN := hide hn
        clear hn
        generalize zF L N = x at *
        go_wp2
        go_quiet (fail)
        go_wp2
        go_ret2
        exact ⟨_, L, x, rfl, (unhide HO).below (below_drewN (Below.refl _ _) _) (Nat.le_refl _), unhide HR, unhide HM, below_drewN (unhide HB) _⟩
end Go.Proofs.YtmdkaomjjglfjaaDoor
