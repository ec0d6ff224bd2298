/- Walks of key.Between and of bellwetherlaw03.RingGaps. -/
import Derived.Test.YtgglnhnokhpnpaaDoorB1
namespace Go.Proofs.YtgglnhnokhpnpaaDoor
open Go.RowKit

theorem behind_gp (t n : Int) (ht : IsT t) (hn : IsN n) (w : World) :
    Calls Tryd.prog 43 #[.int .i64 (tk t), .int .i64 (nk n)] w fun e w' => e = .returned (.tuple #[.int .i64 (gp t n), .int .i64 0]) ∧ w' = w :=
  behind_is _ _ (tk_key t ht) (nk_key n hn) w
theorem gp_pos_nat : ∀ t, t < 4 → ∀ a, a < 8 → 0 < gp (t : Nat) (a : Nat) := by decide +kernel
theorem gp_pos {t a : Int} (ht : IsT t) (ha : IsN a) : 0 < gp t a := by
  obtain ⟨t1, t2⟩ := ht
  obtain ⟨a1, a2⟩ := ha
  obtain ⟨t, rfl⟩ := Int.eq_ofNat_of_zero_le t1
  obtain ⟨a, rfl⟩ := Int.eq_ofNat_of_zero_le a1
  exact gp_pos_nat t (by omega) a (by omega)
end Go.Proofs.YtgglnhnokhpnpaaDoor
