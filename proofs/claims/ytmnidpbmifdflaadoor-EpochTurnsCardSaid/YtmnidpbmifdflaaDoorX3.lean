/- Walk of bellwetherlaw14.EpochTurns. -/
import Derived.Test.YtmnidpbmifdflaaDoorD1
import Derived.Test.YtmnidpbmifdflaaDoorX2
import Derived.Deep.Cut
namespace Go.Proofs.YtmnidpbmifdflaaDoor
open Go.ChangeShapes Go.WideShapes Go.ChangeAt Go.RowKit

theorem row_cell {w : World} {a : Option Addr} {len cap : Nat} {zs : List Int} (h : IsRow w a len cap zs) {k : Nat} (hk : k < len) :
    ∃ b off x, a = some ⟨b, off, none⟩ ∧ len ≤ cap ∧ cap ≤ 9223372036854775807 ∧ b < w.heap.size ∧ w.cell? ⟨b, off + k, none⟩ = some (.int .i64 x) := by
  rcases h with ⟨_, rfl, _, _⟩ | ⟨x, rfl, h1, h2, h3, h4, _⟩
  · omega
  · obtain ⟨b, off, spot⟩ := x
    have h0 := h4 0 (by omega)
    have hspot : spot = none := by simpa [Addr.add] using World.cell?_spot h0
    subst hspot
    have hc0 := block_lt_of_cell h0
    have hc := h4 k (by omega)
    unfold maxLen at h2
    refine ⟨b, off, zs.getD k 0, rfl, h1, by omega, by simpa [Addr.add] using hc0, ?_⟩
    rwa [Addr.add_lit] at hc
theorem who_mid (t : Int) (_ : 0 ≤ t) (_ : t ≤ 4000) (w : World) :
    Calls Tryd.prog 6 #[.int .i64 (t + 8 - t % 16)] w fun e w' => e = .returned (.tuple #[.int .i64 0, .int .i64 1]) ∧ w' = w :=
  who_no _ (fun h => by have := h.2; omega) w
set_option maxRecDepth 100000 in
theorem turns_core (a : Option Addr) (len cap : Nat) (zs : List Int) (w : World) (hG : Glob w) (hR : IsRow w a len cap zs) :
    Calls Tryd.prog 5 #[.slice a len cap] w fun e w' => e = .returned (.bool true) ∧ w' = w := by
  by_cases hl : 200 < len
  · go_enter Tryd.func5, Tryd.ntmps5
    go_wp2
    go_ret
    exact ⟨rfl, rfl⟩
  · go_enter Tryd.func5, Tryd.ntmps5
    go_wp2
    go_loop [3, 4] (fun xt xi => ∃ (k : Nat) (t : Int), k ≤ len ∧ xt = .int .i64 t ∧ xi = .int .i64 k ∧ 0 ≤ t ∧ t ≤ 16 * k) (fun _ i => len - (intOf i).toNat)
    case atStart => exact ⟨0, 0, by omega, rfl, rfl, by omega, by omega⟩
    case round =>
      obtain ⟨k, t, hk, rfl, rfl, t1, t2⟩ := hrel
      by_cases hlt : k < len
      · obtain ⟨b, off, x, rfl, c1, c2, c3, c4⟩ := row_cell hR hlt
        obtain ⟨N, hN, iN⟩ := mod8 x
        have iT : Tp t := ⟨t1, by omega⟩
        obtain ⟨x1, x2, x3⟩ := nx_above N t iN iT
        have x4 : nx N t ≤ 1073741824 := by omega
        have x5 := nx_ep N t iN iT x4
        generalize hX : nx N t = X at x1 x2 x3 x5
        clear hR
        go_upto_region 8 with fail
        rw [hN]
        go_wp2_with (first
          | (go_at_call 7; refine (next_ok _ _ (by assumption) (by assumption) (by assumption) _ (by assumption)).mono ?_; rw [hX]; rintro e w1 ⟨rfl, rfl⟩)
          | (go_at_call 6; refine (who_ok _ (by assumption) _ (by assumption)).mono ?_; rw [x3]; rintro e w1 ⟨rfl, rfl⟩))
        go_round
        case rel => exact ⟨k + 1, X, by omega, rfl, by go_num, by omega, by omega⟩
        case measure => simp [intOf]; omega
      · obtain rfl : k = len := by omega
        have t3 : t ≤ 4000 := by omega
        clear hR
        go_wp2_with (first
          | (go_at_call 7; refine (next_last _ (by assumption)).mono ?_; rintro e w1 ⟨rfl, rfl⟩)
          | (go_at_call 6; refine (who_mid _ (by assumption) (by assumption) _).mono ?_; rintro e w1 ⟨rfl, rfl⟩)
          | (go_at_call 11; refine (wakes_is _ (by assumption)).mono ?_; rintro e w1 ⟨rfl, rfl⟩))
        go_ret
        exact ⟨rfl, rfl⟩
theorem turns_walk (a : Option Addr) (len cap : Nat) (zs : List Int) (w : World) (hG : Glob w) (hR : IsRow w a len cap zs) :
    Calls Tryd.prog 5 #[.slice a len cap] w fun e w' => e = .returned (.bool true) ∧ Below w.heap.size w w' := by
  refine (turns_core a len cap zs w hG hR).mono ?_
  rintro e w' ⟨rfl, rfl⟩
  exact ⟨rfl, Below.refl _ _⟩
end Go.Proofs.YtmnidpbmifdflaaDoor
