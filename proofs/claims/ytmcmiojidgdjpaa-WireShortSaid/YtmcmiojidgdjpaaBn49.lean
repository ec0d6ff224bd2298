/- Walk of Good, all kinds. A right message of Good's, and what is not right. -/
import Derived.Test.YtmcmiojidgdjpaaBn46
import Derived.Test.YtmcmiojidgdjpaaBn45
import Derived.Test.YtmcmiojidgdjpaaBn47
import Derived.Test.YtmcmiojidgdjpaaBn48
import Derived.Test.YtmcmiojidgdjpaaBn20
namespace Go.Proofs.Ytmcmiojidgdjpaa
open Go.RowKit

theorem modN (x : Int) (n : Nat) (h : 0 < n) (h2 : n ≤ 1000000) : ∃ q : Nat, wrap64 ((IntKind.u64.wrap x).tmod n) = q ∧ q < n := by
  have e1 : IntKind.u64.wrap x = x % 18446744073709551616 := rfl
  have h3 := Int.emod_lt_of_pos (x % 18446744073709551616) (show (0:Int) < n by omega)
  have h4 := Int.emod_nonneg (x % 18446744073709551616) (show (n:Int) ≠ 0 by omega)
  refine ⟨((x % 18446744073709551616) % n).toNat, ?_, by omega⟩
  rw [e1, Int.tmod_eq_emod_of_nonneg (by omega)]
  unfold wrap64
  omega
theorem good_any (kind n v : Int) : ∃ k N V : Nat, 1 ≤ k ∧ k ≤ 13 ∧ N < 1000 ∧ V < 1000 ∧ wrap64 ((IntKind.u64.wrap n).tmod 1000) = N ∧
    ∀ w, Calls Try.prog 18 #[.int .i64 kind, .int .i64 n, .int .i64 v] w fun e w' => ∃ p t, e = .returned (mv (gd k N V) p t) ∧ Sl .i64 w' p (gp k N).length (lF (gp k N)) ∧ Sl .i64 w' t (gt k N).length (lF (gt k N)) ∧ Below w.heap.size w w' := by
  obtain ⟨K, hK, lK⟩ := modN kind 13 (by omega) (by omega)
  obtain ⟨N, hN, lN⟩ := modN n 1000 (by omega) (by omega)
  obtain ⟨V, hV, lV⟩ := modN v 1000 (by omega) (by omega)
  refine ⟨K + 1, N, V, by omega, by omega, lN, lV, hN, fun w => ?_⟩
  match K, lK, hK with
  | 0, _, hK => exact good_1 kind n v N V w hN hV lN lV hK
  | 1, _, hK => exact good_2 kind n v N V w hN hV lN lV hK
  | 2, _, hK => exact good_3 kind n v N V w hN hV lN lV hK
  | 3, _, hK => exact good_4 kind n v N V w hN hV lN lV hK
  | 4, _, hK => exact good_5 kind n v N V w hN hV lN lV hK
  | 5, _, hK => exact good_6 kind n v N V w hN hV lN lV hK
  | 6, _, hK => exact good_7 kind n v N V w hN hV lN lV hK
  | 7, _, hK => exact good_8 kind n v N V w hN hV lN lV hK
  | 8, _, hK => exact good_9 kind n v N V w hN hV lN lV hK
  | 9, _, hK => exact good_10 kind n v N V w hN hV lN lV hK
  | 10, _, hK => exact good_11 kind n v N V w hN hV lN lV hK
  | 11, _, hK => exact good_12 kind n v N V w hN hV lN lV hK
  | 12, _, hK => exact good_13 kind n v N V w hN hV lN lV hK
end Go.Proofs.Ytmcmiojidgdjpaa
namespace Go.Proofs.Ytmcmiojidgdjpaa
open Go.RowKit

theorem good_law (kind n v : Int) : ∃ (m : Mg) (F G : Nat → Int) (a b : Nat), a ≤ 2 ∧ b ≤ 2 ∧ chkB m F a G b = true ∧
    ∀ w, Calls Try.prog 18 #[.int .i64 kind, .int .i64 n, .int .i64 v] w fun e w' => ∃ p c t d, e = .returned (mv m (.slice p a c) (.slice t b d)) ∧ Sl .i64 w' (.slice p a c) a F ∧ Sl .i64 w' (.slice t b d) b G ∧ Below w.heap.size w w' := by
  obtain ⟨k, N, V, h1, h2, lN, lV, _, h⟩ := good_any kind n v
  have q1 : (0 : Int) ≤ N ∧ (N : Int) < 1000 := by omega
  have q2 : (0 : Int) ≤ V ∧ (V : Int) < 1000 := by omega
  refine ⟨gd k N V, lF (gp k N), lF (gt k N), (gp k N).length, (gt k N).length, ?_, ?_, ?_, fun w => (h w).mono ?_⟩
  · unfold gp
    split <;> simp
  · unfold gt
    split <;> simp
  · match k, h1, h2 with
    | 1, _, _ => exact right_1 N V q1 q2
    | 2, _, _ => exact right_2 N V q1 q2
    | 3, _, _ => exact right_3 N V q1 q2
    | 4, _, _ => exact right_4 N V q1 q2
    | 5, _, _ => exact right_5 N V q1 q2
    | 6, _, _ => exact right_6 N V q1 q2
    | 7, _, _ => exact right_7 N V q1 q2
    | 8, _, _ => exact right_8 N V q1 q2
    | 9, _, _ => exact right_9 N V q1 q2
    | 10, _, _ => exact right_10 N V q1 q2
    | 11, _, _ => exact right_11 N V q1 q2
    | 12, _, _ => exact right_12 N V q1 q2
    | 13, _, _ => exact right_13 N V q1 q2
  · rintro e w' ⟨p, t, rfl, s1, s2, b⟩
    obtain ⟨p', c, rfl, _, _⟩ := s1.shape
    obtain ⟨t', d, rfl, _, _⟩ := s2.shape
    exact ⟨p', c, t', d, rfl, s1, s2, b⟩
end Go.Proofs.Ytmcmiojidgdjpaa
