/- Plain facts for the statements that ask along Far. -/
import Derived.Test.YtgglnhnokhpnpaaDoorO3
import Derived.Test.YtgglnhnokhpnpaaDoorM2
import Derived.Test.YtgglnhnokhpnpaaDoorB1
namespace Go.Proofs.YtgglnhnokhpnpaaDoor
open Go.RowKit

theorem modU (x : Int) (n : Int) (h : 0 < n) (h2 : n ≤ 1000000) : wrap64 ((IntKind.u64.wrap x).tmod n) = (x % 18446744073709551616) % n := by
  have e1 : IntKind.u64.wrap x = x % 18446744073709551616 := rfl
  rw [e1, Int.tmod_eq_emod_of_nonneg (by omega)]
  have h3 := Int.emod_lt_of_pos (x % 18446744073709551616) h
  have h4 := Int.emod_nonneg (x % 18446744073709551616) (show n ≠ 0 by omega)
  unfold wrap64
  omega
theorem modN (x : Int) (n : Nat) (h : 0 < n) (h2 : n ≤ 1000000) : ∃ q : Nat, wrap64 ((IntKind.u64.wrap x).tmod n) = q ∧ q < n := by
  have h3 := Int.emod_lt_of_pos (x % 18446744073709551616) (show (0:Int) < n by omega)
  have h4 := Int.emod_nonneg (x % 18446744073709551616) (show (n:Int) ≠ 0 by omega)
  refine ⟨((x % 18446744073709551616) % n).toNat, ?_, by omega⟩
  rw [modU x n (by omega) (by omega)]
  omega
theorem wrapN {n : Nat} (h : n ≤ 1000000) : IntKind.u64.wrap (n : Int) = (n : Int) := by
  rw [show IntKind.u64.wrap (n : Int) = (n : Int) % 18446744073709551616 from rfl]; omega
/-- What Far brings, all that a statement asks of it. -/
structure FarOf (t s : Int) (F : List Int) : Prop where
  topic : IsT t
  node : IsN s
  len : F.length ≤ 7
  one : ∀ i, i < F.length → IsN (zF F i) ∧ gp t s < gp t (zF F i) ∧ nb t s (zF F i) = true
  up : ∀ i k, i < k → k < F.length → gp t (zF F i) < gp t (zF F k)
theorem far_of {t s : Int} (ht : IsT t) (hs : IsN s) : FarOf t s (farK t s 8) :=
  ⟨ht, hs, (far_is ht hs).2.2, fun _ hi => far_may ht hs (zF_mem hi), fun _ _ h1 h2 => far_up ht hs h1 h2⟩
theorem FarOf.apart {t s : Int} {F : List Int} (h : FarOf t s F) {i k : Nat} (hi : i < F.length) (hk : k < F.length) (hne : i ≠ k) : zF F i ≠ zF F k := fun e => by
  by_cases h1 : i < k
  · have := h.up i k h1 hk; rw [e] at this; omega
  · have := h.up k i (by omega) hi; rw [e] at this; omega
theorem far_call {t s : Int} (_ : IsT t) (_ : IsN s) {f : Nat} (hf : (farK t s 8).length = f) (w : World) (hG : Glob w) :
    Calls Tryd.prog 23 #[.int .i64 t, .int .i64 s] w fun e w' => ∃ q c, e = .returned (.slice q f c) ∧ IL w' (.slice q f c) (farK t s 8) ∧ Below w.heap.size w w' := by
  refine (far_k t s w hG).mono ?_
  rintro e w' ⟨v', rfl, ho, hb⟩
  obtain ⟨q, c, rfl⟩ := il_form ho.il
  subst hf
  exact ⟨q, c, rfl, ho.il, hb⟩
theorem rk_nil {t s lim : Int} (ht : IsT t) (hs : IsN s) (h1 : 1 ≤ lim) (h2 : lim ≤ 4) : rk t s lim [] = true :=
  rk_gd.2 ⟨ht, hs, h1, h2, by simp; omega, Gd.nil t s⟩
theorem may_yes {t s n inc : Int} (h : nb t s n = true) (h1 : 1 ≤ inc) (h2 : inc ≤ 1073741824) : may t s n inc = true := by
  unfold may okI
  rw [h]
  simp [h1, h2]
/-- The first one that asks. -/
theorem ask_first {t lim n inc : Int} (h : 1 ≤ lim) : askL t lim [] n inc = [(n, inc, 0)] ∧ askW t lim [] n = 0 ∧ askT t lim [] n = 0 := by
  obtain ⟨e1, e2, e3⟩ := ask_in (t := t) (lim := lim) (L := []) (n := n) inc (.inr (by simp; omega))
  exact ⟨by rw [e1]; rfl, e2, e3⟩
/-- One child: a farther one asks, a nearer one asks. -/
theorem hs_one (x y i a : Int) (h : x ≠ y) : hs [(x, i, a)] y = false := by simp [hs, h]
theorem ask_far {t x y i a inc : Int} (hne : x ≠ y) (h : nb t x y = true) : askL t 1 [(x, i, a)] y inc = [(x, i, a)] ∧ askW t 1 [(x, i, a)] y = y + 1 ∧ askT t 1 [(x, i, a)] y = x + 1 :=
  ask_off inc (by rw [hs_one x y i a hne]; simp) h
theorem ask_near1 {t x y i a inc : Int} (hne : x ≠ y) (h : nb t x y = false) : askL t 1 [(x, i, a)] y inc = [(y, inc, 0)] ∧ askW t 1 [(x, i, a)] y = x + 1 ∧ askT t 1 [(x, i, a)] y = y + 1 := by
  obtain ⟨e1, e2, e3⟩ := ask_out (t := t) (lim := 1) (L := [(x, i, a)]) (n := y) inc (by rw [hs_one x y i a hne]; simp) h
  refine ⟨?_, e2, e3⟩
  rw [e1]
  have e4 : dr [(x, i, a)] (kz [(x, i, a)] ([(x, i, a)].length - 1)).1 = [] := by
    show dr [(x, i, a)] x = []
    simp [dr]
  rw [e4]
  rfl
theorem gd_one {t s x i : Int} (hx : IsN x) (hg : gp t s < gp t x) (h1 : 1 ≤ i) (h2 : i ≤ 1073741824) : Gd t s [(x, i, 0)] :=
  ⟨fun y hy => by
    obtain rfl := List.mem_singleton.1 hy
    exact ⟨hx, h1, h2, Int.le_refl 0, (show (0 : Int) ≤ 6 by omega), hg⟩, List.pairwise_singleton ..⟩
end Go.Proofs.YtgglnhnokhpnpaaDoor
