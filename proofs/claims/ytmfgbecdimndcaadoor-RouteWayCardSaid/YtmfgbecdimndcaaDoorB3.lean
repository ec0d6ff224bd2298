/- Walks of key.Between and of bellwetherlaw03.RingGaps. -/
import Derived.Test.YtmfgbecdimndcaaDoorB1
namespace Go.Proofs.YtmfgbecdimndcaaDoor
open Go.RowKit

theorem behind_gp (t n : Int) (ht : IsT t) (hn : IsN n) (w : World) :
    Calls Tryd.prog 29 #[.int .i64 (tk t), .int .i64 (nk n)] w fun e w' => e = .returned (.tuple #[.int .i64 (gp t n), .int .i64 0]) ∧ w' = w :=
  behind_is _ _ (tk_key t ht) (nk_key n hn) w
theorem gp_pos_nat : ∀ t, t < 4 → ∀ a, a < 8 → 0 < gp (t : Nat) (a : Nat) := by decide +kernel
theorem gp_pos {t a : Int} (ht : IsT t) (ha : IsN a) : 0 < gp t a := by
  obtain ⟨t1, t2⟩ := ht
  obtain ⟨a1, a2⟩ := ha
  obtain ⟨t, rfl⟩ := Int.eq_ofNat_of_zero_le t1
  obtain ⟨a, rfl⟩ := Int.eq_ofNat_of_zero_le a1
  exact gp_pos_nat t (by omega) a (by omega)
theorem between_f (t n o : Int) (ht : IsT t) (hn : IsN n) (ho : IsN o) (h : gp t o < gp t n) (w : World) :
    Calls Tryd.prog 27 #[.int .i64 (tk t), .int .i64 (nk n), .int .i64 (nk o)] w fun e w' => e = .returned (.bool false) ∧ w' = w := by
  have hp := gp_pos ht ho
  have hp2 := gp_pos ht hn
  have c1 := behind_gp t n ht hn
  have c2 := behind_gp t o ht ho
  generalize gp t o = x at *
  generalize gp t n = y at *
  generalize tk t = k at *
  generalize nk n = p at *
  generalize nk o = q at *
  have hxz : (x == 0) = false := beq_false_of_ne (by omega)
  have hle : decide (y ≤ x) = false := decide_eq_false (by omega)
  have m1 := trivial
  go_enter Tryd.func27, Tryd.ntmps27
  go_wp2_with (first
    | (clear m1; go_at_call 29; refine (c1 _).mono ?_; rintro e w1 ⟨rfl, rfl⟩)
    | (go_at_call 29; refine (c2 _).mono ?_; rintro e w1 ⟨rfl, rfl⟩))
  go_ret
  exact ⟨by rw [← hle]; rfl, rfl⟩

end Go.Proofs.YtmfgbecdimndcaaDoor
