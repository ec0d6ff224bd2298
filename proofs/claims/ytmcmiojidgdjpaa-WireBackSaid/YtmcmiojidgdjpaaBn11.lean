/- Walks of numbersRight and nodesRight. -/
import Derived.Test.YtmcmiojidgdjpaaBn10
import Derived.Test.YtmcmiojidgdjpaaBn4
namespace Go.Proofs.Ytmcmiojidgdjpaa
open Go.RowKit

/-- The fields in their order. -/
def fld (m : Mg) (j : Nat) : Int := [m.kd, m.fr, m.fi, m.tw, m.ti, m.tp, m.ep, m.sq, m.la, m.va, m.no, m.ic, m.ct, m.hp].getD j 0
theorem fld_nv (m : Mg) (j : Nat) (h : j < 14) : (#[.int .i64 m.kd, .int .i64 m.fr, .int .i64 m.fi, .int .i64 m.tw, .int .i64 m.ti, .int .i64 m.tp, .int .i64 m.ep, .int .i64 m.sq, .int .i64 m.la, .int .i64 m.va, .int .i64 m.no, .int .i64 m.ic, .int .i64 m.ct, .int .i64 m.hp] : Array Value)[j]? = some (.int .i64 (fld m j)) := by
  match j, h with
  | 0, _ | 1, _ | 2, _ | 3, _ | 4, _ | 5, _ | 6, _ | 7, _ | 8, _ | 9, _ | 10, _ | 11, _ | 12, _ | 13, _ => rfl
/-- Each number lies where one of its kind may. -/
def allTo (n : Nat) (f g h : Nat → Int) : Bool := decide (∀ j, j < n → f j ≤ g j ∧ g j ≤ h j)
def numB (m : Mg) : Bool := allTo 14 (fld (lo m)) (fld m) (fld (hi m))
theorem run_index40 (cs : Array Value) (k : Nat) (x : Int) (h : cs[k]? = some (.int .i64 x)) (hk : k < 14) (w : World) : (Instr.index 65 (.agg cs) (.int .i64 (k : Int))).run Try.prog w = .ok (.int .i64 x) w := by
  have h1 : (0 : Int) ≤ k ∧ (k : Int) < 14 := by omega
  simp [Instr.index, go_sem, h1, h]
  intro q
  omega
set_option maxRecDepth 100000 in
set_option maxHeartbeats 1000000 in
theorem numbersRight_any (m : Mg) (p t : Value) (w : World) : Calls Try.prog 44 #[mv m p t] w fun e w' => e = .returned (.bool (numB m)) ∧ Below w.heap.size w w' := by
  have m1 := trivial
  have CM := hide (fun w => numbers_any m p t w)
  have CL := hide (fun w => limits_any m p t w)
  have CN := hide (fun a w => numbers_any a (.slice none 0 0) (.slice none 0 0) w)
  have FM := hide (fld_nv m)
  have FL := hide (fld_nv (lo m))
  have FH := hide (fld_nv (hi m))
  have hN : numB m = allTo 14 (fld (lo m)) (fld m) (fld (hi m)) := rfl
  have HN := hide hN
  clear hN
  unfold mv nv at CM CN
  unfold mv at CL
  unfold mv
  generalize numB m = R at *
  generalize hfl : fld (lo m) = fL at *
  generalize hfh : fld (hi m) = fH at *
  generalize hfm : fld m = fM at *
  generalize lo m = L at *
  generalize hi m = H at *
  clear hfl hfh hfm
  go_enter Try.func44, Try.ntmps44
  go_wp2_with (go_at_call 57; refine ((unhide CL) _).mono ?_; rintro e w1 ⟨rfl, b1⟩; have B1 := hide (below_of ((Below.refl _ _).alloc (Nat.le_refl _) _) b1); have g0 := hide ((b1.block w.heap.size (by simp)).trans (heap_alloc_new _ _)); have L1 : Hid (w.heap.size < w1.heap.size) := hide (by have := b1.size; simp at this; omega); clear b1)
  have e3 := (heap_alloc2_old w1 (.cells #[.int .i64 L.kd, .int .i64 L.fr, .int .i64 L.fi, .int .i64 L.tw, .int .i64 L.ti, .int .i64 L.tp, .int .i64 L.ep, .int .i64 L.sq, .int .i64 L.la, .int .i64 L.va, .int .i64 L.no, .int .i64 L.ic, .int .i64 L.ct, .int .i64 L.hp, .slice none 0 0, .slice none 0 0] 24) (.cells #[.int .i64 H.kd, .int .i64 H.fr, .int .i64 H.fi, .int .i64 H.tw, .int .i64 H.ti, .int .i64 H.tp, .int .i64 H.ep, .int .i64 H.sq, .int .i64 H.la, .int .i64 H.va, .int .i64 H.no, .int .i64 H.ic, .int .i64 H.ct, .int .i64 H.hp, .slice none 0 0, .slice none 0 0] 24))
  have e4 := (heap_alloc2_new w1 (.cells #[.int .i64 L.kd, .int .i64 L.fr, .int .i64 L.fi, .int .i64 L.tw, .int .i64 L.ti, .int .i64 L.tp, .int .i64 L.ep, .int .i64 L.sq, .int .i64 L.la, .int .i64 L.va, .int .i64 L.no, .int .i64 L.ic, .int .i64 L.ct, .int .i64 L.hp, .slice none 0 0, .slice none 0 0] 24) (.cells #[.int .i64 H.kd, .int .i64 H.fr, .int .i64 H.fi, .int .i64 H.tw, .int .i64 H.ti, .int .i64 H.tp, .int .i64 H.ep, .int .i64 H.sq, .int .i64 H.la, .int .i64 H.va, .int .i64 H.no, .int .i64 H.ic, .int .i64 H.ct, .int .i64 H.hp, .slice none 0 0, .slice none 0 0] 24))
  refine region2 _ _ _ _ _ _ _ _ _ _ _ _ _ _ _ _ _ w1.heap.size (w1.heap.size + 1) #[.int .i64 L.kd, .int .i64 L.fr, .int .i64 L.fi, .int .i64 L.tw, .int .i64 L.ti, .int .i64 L.tp, .int .i64 L.ep, .int .i64 L.sq, .int .i64 L.la, .int .i64 L.va, .int .i64 L.no, .int .i64 L.ic, .int .i64 L.ct, .int .i64 L.hp, .slice none 0 0, .slice none 0 0] #[.int .i64 H.kd, .int .i64 H.fr, .int .i64 H.fi, .int .i64 H.tw, .int .i64 H.ti, .int .i64 H.tp, .int .i64 H.ep, .int .i64 H.sq, .int .i64 H.la, .int .i64 H.va, .int .i64 H.no, .int .i64 H.ic, .int .i64 H.ct, .int .i64 H.hp, .slice none 0 0, .slice none 0 0] #[.int .i64 L.kd, .int .i64 L.fr, .int .i64 L.fi, .int .i64 L.tw, .int .i64 L.ti, .int .i64 L.tp, .int .i64 L.ep, .int .i64 L.sq, .int .i64 L.la, .int .i64 L.va, .int .i64 L.no, .int .i64 L.ic, .int .i64 L.ct, .int .i64 L.hp] #[.int .i64 H.kd, .int .i64 H.fr, .int .i64 H.fi, .int .i64 H.tw, .int .i64 H.ti, .int .i64 H.tp, .int .i64 H.ep, .int .i64 H.sq, .int .i64 H.la, .int .i64 H.va, .int .i64 H.no, .int .i64 H.ic, .int .i64 H.ct, .int .i64 H.hp] _ e3 e4 rfl rfl rfl rfl (by simp [Value.oneCell']) (by simp [Value.oneCell']) (unhide CN L) (unhide CN H) ?_
  intro g5 g6 w2 b2 l5 l6 h5 h6
  have B2 := hide (below_of (((unhide B1).alloc (by have := unhide L1; omega) _).alloc (by have := unhide L1; simp; omega) _) b2)
  have lt := unhide L1
  have G0 := hide ((b2.block w.heap.size (by simp; omega)).trans ((Below.heap_alloc _ _ w.heap.size (by simp; omega)).trans ((Below.heap_alloc _ _ w.heap.size lt).trans (unhide g0))))
  have l5' : w1.heap.size + 1 < g5 := by simp at l5; omega
  have l6' : w1.heap.size + 1 < g6 := by simp at l6; omega
  have H5 := hide h5
  have H6 := hide h6
  have LA := hide (show w.heap.size < g5 ∧ w.heap.size < g6 by omega)
  clear e3 e4 b2 l5 l6 h5 h6 lt l5' l6' CL CN
  unfold ac2
  dsimp only
  go_wp2_with (first
    | (refine wpList_load_row rfl 24 (.tmp 1) rfl w.heap.size rfl 24 #[.int .i64 m.kd, .int .i64 m.fr, .int .i64 m.fi, .int .i64 m.tw, .int .i64 m.ti, .int .i64 m.tp, .int .i64 m.ep, .int .i64 m.sq, .int .i64 m.la, .int .i64 m.va, .int .i64 m.no, .int .i64 m.ic, .int .i64 m.ct, .int .i64 m.hp, p, t] (0, 0) _ (unhide G0) Try.underlying24 rfl info24 ?_)
    | (go_at_call 58; refine (unhide CM _).mono ?_; rintro e w3 ⟨rfl, b3⟩; have l2 := (Array.getElem?_eq_some_iff.1 (unhide H5)).1; have l3 := (Array.getElem?_eq_some_iff.1 (unhide H6)).1; have K5 := hide ((b3.block g5 l2).trans (unhide H5)); have K6 := hide ((b3.block g6 l3).trans (unhide H6)); have B3 := hide (below_of (unhide B2) b3); clear l2 l3 b3))
  go_loop [20] (fun xi => ∃ k : Nat, k ≤ 14 ∧ xi = .int .i64 k ∧ ∀ j, j < k → fL j ≤ fM j ∧ fM j ≤ fH j) (fun i => 14 - (intOf i).toNat)
  case atStart => exact ⟨0, by omega, rfl, fun i hi => by omega⟩
  case round =>
    obtain ⟨k, hk, rfl, hall⟩ := hrel
    have HA := hide hall
    clear hall
    by_cases hlt : k < 14
    · have cm := unhide FM k hlt
      have ci := run_index40 _ k _ cm hlt
      clear cm
      have cl := mv_cell (unhide K5) k _ (unhide FL k hlt)
      have ch := mv_cell (unhide K6) k _ (unhide FH k hlt)
      generalize hx : fM k = x at *
      generalize hy : fL k = y at *
      generalize hz : fH k = z at *
      have HX := hide hx
      have HY := hide hy
      have HZ := hide hz
      clear hx hy hz
      by_cases h1 : x < y
      · have d1 : decide (x < y) = true := decide_eq_true h1
        go_wp2
        go_ret
        refine ⟨?_, unhide B3⟩
        rw [unhide HN, allTo, decide_eq_false (fun q => by have := (q k hlt).1; rw [unhide HX, unhide HY] at this; omega)]
        rfl
      · have d1 : decide (x < y) = false := decide_eq_false h1
        by_cases h2 : z < x
        · have d2 : decide (z < x) = true := decide_eq_true h2
          go_wp2
          go_ret
          refine ⟨?_, unhide B3⟩
          rw [unhide HN, allTo, decide_eq_false (fun q => by have := (q k hlt).2; rw [unhide HX, unhide HZ] at this; omega)]
          rfl
        · have d2 : decide (z < x) = false := decide_eq_false h2
          go_wp2
          go_round
          case rel =>
            refine ⟨k + 1, by omega, by go_num, fun j hj => ?_⟩
            by_cases e : j = k
            · rw [e, unhide HX, unhide HY, unhide HZ]; omega
            · exact unhide HA j (by omega)
          case measure => simp [intOf]; omega
    · go_wp2
      go_ret
      refine ⟨?_, unhide B3⟩
      rw [unhide HN, allTo, decide_eq_true (fun j hj => unhide HA j (by omega))]
      rfl
end Go.Proofs.Ytmcmiojidgdjpaa
