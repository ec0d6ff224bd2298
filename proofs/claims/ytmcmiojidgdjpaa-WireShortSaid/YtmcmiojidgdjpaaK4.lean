/- Walk of keep.Msg, all ways. -/
import Derived.Test.YtmcmiojidgdjpaaK1
import Derived.Test.YtmcmiojidgdjpaaK2
import Derived.Test.YtmcmiojidgdjpaaK3
namespace Go.Proofs.Ytmcmiojidgdjpaa
open Go.RowKit

theorem eqM_false (a b : Mg) (j : Nat) (hj : j < 14) (h : (fld a j == fld b j) = false) : eqM a b = false := by
  unfold eqM
  rw [List.all_eq_false]
  exact ⟨j, List.mem_range.2 hj, by simp [h]⟩
theorem keepMsg_any (m m' : Mg) (F G F' G' : Nat → Int) (p t p' t' : Value) (n k n' k' : Nat) (w : World) (hp : Sl .i64 w p n F) (ht : Sl .i64 w t k G) (hp' : Sl .i64 w p' n' F') (ht' : Sl .i64 w t' k' G') :
    Calls Try.prog 13 #[mv m p t, mv m' p' t'] w fun e w' => e = .returned (.bool (samB m F n G k m' F' n' G' k')) ∧ Below w.heap.size w w' := by
  cases e0 : (m.kd == m'.kd) with
  | false =>
    rw [show samB m F n G k m' F' n' G' k' = false by rw [samB, eqM_false m m' 0 (by omega) e0]; rfl]
    exact keep_0 m m' F G F' G' p t p' t' n k n' k' w hp ht hp' ht' e0
  | true =>
  cases e1 : (m.fr == m'.fr) with
  | false =>
    rw [show samB m F n G k m' F' n' G' k' = false by rw [samB, eqM_false m m' 1 (by omega) e1]; rfl]
    exact keep_1 m m' F G F' G' p t p' t' n k n' k' w hp ht hp' ht' e0 e1
  | true =>
  cases e2 : (m.fi == m'.fi) with
  | false =>
    rw [show samB m F n G k m' F' n' G' k' = false by rw [samB, eqM_false m m' 2 (by omega) e2]; rfl]
    exact keep_2 m m' F G F' G' p t p' t' n k n' k' w hp ht hp' ht' e0 e1 e2
  | true =>
  cases e3 : (m.tw == m'.tw) with
  | false =>
    rw [show samB m F n G k m' F' n' G' k' = false by rw [samB, eqM_false m m' 3 (by omega) e3]; rfl]
    exact keep_3 m m' F G F' G' p t p' t' n k n' k' w hp ht hp' ht' e0 e1 e2 e3
  | true =>
  cases e4 : (m.ti == m'.ti) with
  | false =>
    rw [show samB m F n G k m' F' n' G' k' = false by rw [samB, eqM_false m m' 4 (by omega) e4]; rfl]
    exact keep_4 m m' F G F' G' p t p' t' n k n' k' w hp ht hp' ht' e0 e1 e2 e3 e4
  | true =>
  cases e5 : (m.tp == m'.tp) with
  | false =>
    rw [show samB m F n G k m' F' n' G' k' = false by rw [samB, eqM_false m m' 5 (by omega) e5]; rfl]
    exact keep_5 m m' F G F' G' p t p' t' n k n' k' w hp ht hp' ht' e0 e1 e2 e3 e4 e5
  | true =>
  cases e6 : (m.ep == m'.ep) with
  | false =>
    rw [show samB m F n G k m' F' n' G' k' = false by rw [samB, eqM_false m m' 6 (by omega) e6]; rfl]
    exact keep_6 m m' F G F' G' p t p' t' n k n' k' w hp ht hp' ht' e0 e1 e2 e3 e4 e5 e6
  | true =>
  cases e7 : (m.sq == m'.sq) with
  | false =>
    rw [show samB m F n G k m' F' n' G' k' = false by rw [samB, eqM_false m m' 7 (by omega) e7]; rfl]
    exact keep_7 m m' F G F' G' p t p' t' n k n' k' w hp ht hp' ht' e0 e1 e2 e3 e4 e5 e6 e7
  | true =>
  cases e8 : (m.la == m'.la) with
  | false =>
    rw [show samB m F n G k m' F' n' G' k' = false by rw [samB, eqM_false m m' 8 (by omega) e8]; rfl]
    exact keep_8 m m' F G F' G' p t p' t' n k n' k' w hp ht hp' ht' e0 e1 e2 e3 e4 e5 e6 e7 e8
  | true =>
  cases e9 : (m.va == m'.va) with
  | false =>
    rw [show samB m F n G k m' F' n' G' k' = false by rw [samB, eqM_false m m' 9 (by omega) e9]; rfl]
    exact keep_9 m m' F G F' G' p t p' t' n k n' k' w hp ht hp' ht' e0 e1 e2 e3 e4 e5 e6 e7 e8 e9
  | true =>
  cases e10 : (m.no == m'.no) with
  | false =>
    rw [show samB m F n G k m' F' n' G' k' = false by rw [samB, eqM_false m m' 10 (by omega) e10]; rfl]
    exact keep_10 m m' F G F' G' p t p' t' n k n' k' w hp ht hp' ht' e0 e1 e2 e3 e4 e5 e6 e7 e8 e9 e10
  | true =>
  cases e11 : (m.ic == m'.ic) with
  | false =>
    rw [show samB m F n G k m' F' n' G' k' = false by rw [samB, eqM_false m m' 11 (by omega) e11]; rfl]
    exact keep_11 m m' F G F' G' p t p' t' n k n' k' w hp ht hp' ht' e0 e1 e2 e3 e4 e5 e6 e7 e8 e9 e10 e11
  | true =>
  cases e12 : (m.ct == m'.ct) with
  | false =>
    rw [show samB m F n G k m' F' n' G' k' = false by rw [samB, eqM_false m m' 12 (by omega) e12]; rfl]
    exact keep_12 m m' F G F' G' p t p' t' n k n' k' w hp ht hp' ht' e0 e1 e2 e3 e4 e5 e6 e7 e8 e9 e10 e11 e12
  | true =>
  cases e13 : (m.hp == m'.hp) with
  | false =>
    rw [show samB m F n G k m' F' n' G' k' = false by rw [samB, eqM_false m m' 13 (by omega) e13]; rfl]
    exact keep_13 m m' F G F' G' p t p' t' n k n' k' w hp ht hp' ht' e0 e1 e2 e3 e4 e5 e6 e7 e8 e9 e10 e11 e12 e13
  | true =>
  have em : eqM m m' = true := by
    unfold eqM
    rw [List.all_eq_true]
    intro i hi
    match i, List.mem_range.1 hi with
    | 0, _ => exact e0
    | 1, _ => exact e1
    | 2, _ => exact e2
    | 3, _ => exact e3
    | 4, _ => exact e4
    | 5, _ => exact e5
    | 6, _ => exact e6
    | 7, _ => exact e7
    | 8, _ => exact e8
    | 9, _ => exact e9
    | 10, _ => exact e10
    | 11, _ => exact e11
    | 12, _ => exact e12
    | 13, _ => exact e13
  cases x1 : eqB F n F' n' with
  | false =>
    rw [show samB m F n G k m' F' n' G' k' = false by rw [samB, em, x1]; rfl]
    exact keep_14 m m' F G F' G' p t p' t' n k n' k' w hp ht hp' ht' e0 e1 e2 e3 e4 e5 e6 e7 e8 e9 e10 e11 e12 e13 x1
  | true =>
    rw [show samB m F n G k m' F' n' G' k' = eqB G k G' k' by rw [samB, em, x1]; rfl]
    exact keep_15 m m' F G F' G' p t p' t' n k n' k' w hp ht hp' ht' e0 e1 e2 e3 e4 e5 e6 e7 e8 e9 e10 e11 e12 e13 x1
end Go.Proofs.Ytmcmiojidgdjpaa
