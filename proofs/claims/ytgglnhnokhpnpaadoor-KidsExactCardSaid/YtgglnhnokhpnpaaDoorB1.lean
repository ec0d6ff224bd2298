/- Rows of ints of the call's own; plain facts on gaps. -/
import Derived.Test.YtgglnhnokhpnpaaDoorA4
namespace Go.Proofs.YtgglnhnokhpnpaaDoor
open Go.RowKit

theorem mod8 (x : Int) : wrap64 ((IntKind.u64.wrap x).tmod 8) = x % 8 := by
  have e1 : IntKind.u64.wrap x = x % 18446744073709551616 := rfl
  rw [e1, Int.tmod_eq_emod_of_nonneg (by omega)]
  unfold wrap64
  omega
theorem mod4 (x : Int) : wrap64 ((IntKind.u64.wrap x).tmod 4) = x % 4 := by
  have e1 : IntKind.u64.wrap x = x % 18446744073709551616 := rfl
  rw [e1, Int.tmod_eq_emod_of_nonneg (by omega)]
  unfold wrap64
  omega
theorem mod8_node (x : Int) : IsN (x % 8) := ⟨by omega, by omega⟩
theorem mod4_topic (x : Int) : IsT (x % 4) := ⟨by omega, by omega⟩

/-- The first n of some ints, as values. -/
def iL (F : Nat → Int) (n : Nat) : List Value := (List.range n).map fun j => .int .i64 (F j)
theorem iL_succ (F : Nat → Int) (n : Nat) : iL F (n + 1) = iL F n ++ [.int .i64 (F n)] := by simp [iL, List.range_succ]
theorem iL_length (F : Nat → Int) (n : Nat) : (iL F n).length = n := by simp [iL]
theorem iL_get (F : Nat → Int) (n i : Nat) (h : i < n) : (iL F n)[i]? = some (.int .i64 (F i)) := by simp [iL, h]
theorem isl_of_owns {w : World} {B n : Nat} {v : Value} {F : Nat → Int} (h : w.ownsRow B 3 1 v n (iL F n)) : ISl w v n F := by
  rcases h.2 with ⟨rfl, rfl⟩ | ⟨g, cap, cur, rfl, hb, hg, hc, hm, _, _⟩
  · exact .inl ⟨rfl, .inl rfl⟩
  · refine .inr ⟨g, 0, cap, rfl, hc, hm, (Array.getElem?_eq_some_iff.1 hg).1, fun j hj => ?_⟩
    rw [Nat.zero_add, h.cellAt j (by omega), iL_get F n j hj]

theorem gp_inj_nat : ∀ t, t < 4 → ∀ a, a < 8 → ∀ b, b < 8 → gp (t : Nat) (a : Nat) = gp (t : Nat) (b : Nat) → a = b := by decide +kernel
theorem gp_inj {t a b : Int} (ht : IsT t) (ha : IsN a) (hb : IsN b) (h : gp t a = gp t b) : a = b := by
  obtain ⟨t1, t2⟩ := ht
  obtain ⟨a1, a2⟩ := ha
  obtain ⟨b1, b2⟩ := hb
  obtain ⟨t, rfl⟩ := Int.eq_ofNat_of_zero_le t1
  obtain ⟨a, rfl⟩ := Int.eq_ofNat_of_zero_le a1
  obtain ⟨b, rfl⟩ := Int.eq_ofNat_of_zero_le b1
  exact congrArg _ (gp_inj_nat t (by omega) a (by omega) b (by omega) h)
end Go.Proofs.YtgglnhnokhpnpaaDoor
