/- Walks of keep.Push and keep.Again. -/
import Derived.Test.YtofaoagmchokmaaA2
import Derived.Test.YtofaoagmchokmaaA3
import Derived.Lib.MinMax
namespace Go.Proofs.Ytofaoagmchokmaa
open Go.RowKit

/-- What is there once one was pushed. -/
def pu (L : List It) (want limit value : Int) : List It := (L ++ [(want, value)]).drop ((L.length : Int) + 1 - limit).toNat
/-- The last number that is gone, of n that are kept. -/
def agG (n : Nat) (want frm : Int) : Int := if frm < want - n then want - n - 1 else 0
/-- What is told again from a number on. -/
def agL (L : List It) (want frm : Int) : List It := (L.drop (frm - (want - L.length)).toNat).take 8
theorem kl_upto (q : Option Addr) (n c : Nat) (x : Int) (h0 : 0 ≤ x) (h1 : x ≤ (n : Int)) (h2 : n ≤ c) : ∃ a2 c2, (∀ w, (Instr.slice 22 (.slice q n c) none (some (.int .i64 x)) none).run Try.prog w = .ok (.slice a2 x.toNat c2) w) ∧
    ∀ (w : World) (L : List It), KL w (.slice q n c) L → KL w (.slice a2 x.toNat c2) (L.take x.toNat) := by
  obtain ⟨i, hi, hz0, hz1, hz2⟩ := info_parts info41
  have hu : Try.prog.underlying 22 = some (.slice 41) := Try.underlying22
  have z3 : ∀ w, (Go.sizeOf 41).run Try.prog w = .ok 2 w := fun w => by simp [Go.sizeOf, typeInfo, hi, hz1]
  have e0 : (if c = 0 then q else q.map (·.add (0 * 2))) = q := by
    split
    · rfl
    · cases q with
      | none => rfl
      | some a => simp [Addr.add]
  have hrun : ∀ w, (Instr.slice 22 (.slice q n c) none (some (.int .i64 x)) none).run Try.prog w = .ok (.slice q x.toNat c) w := by
    intro w
    rw [run_slice_h (P := Try.prog) (w := w) 22 _ _ _ (by rw [hu]; rfl) .i64 x h0 (by omega)]
    simp only [show Try.prog.elem 22 = 41 from rfl, z3, Result.andThen, sliced, e0, Nat.sub_zero]
  exact ⟨_, _, hrun, fun w L h => kl_take h (by omega)⟩
theorem run_max0 (m limit : Int) (ts : Array TypeId) (t : TypeId) (w : World) : (Builtin.max_ ts t #[.int .i64 0, .int .i64 (m - limit)]).run Try.prog w = .ok (.int .i64 ((m - limit).toNat : Int)) w := by
  rw [run_max_int2]
  congr 2
  split <;> omega
theorem run_max1 (m limit : Int) (ts : Array TypeId) (t : TypeId) (w : World) : (Builtin.max_ ts t #[.int .i64 (m - limit), .int .i64 0]).run Try.prog w = .ok (.int .i64 ((m - limit).toNat : Int)) w := by
  rw [run_max_int2]
  congr 2
  split <;> omega
theorem run_min8 (m : Nat) (ts : Array TypeId) (t : TypeId) (w : World) : (Builtin.min_ ts t #[.int .i64 (m : Int), .int .i64 8]).run Try.prog w = .ok (.int .i64 ((min m 8 : Nat) : Int)) w := by
  rw [run_min_int2]
  congr 2
  split <;> omega
set_option maxRecDepth 100000 in
theorem push_no (L : List It) (want limit value : Int) (v : Value) (w : World) (h : KL w v L) (hr : ¬ Rt L want limit) :
    Calls Try.prog 7 #[v, .int .i64 want, .int .i64 limit, .int .i64 value] w fun e w' => e = .returned (.tuple #[.slice none 0 0, .int .i64 1]) ∧ Below w.heap.size w w' := by
  have CK := hide (check_no L want limit v w h hr)
  clear h hr
  go_enter Try.func7, Try.ntmps7
  go_wp2_with (go_at_call 11; refine (unhide CK).mono ?_; rintro e w1 ⟨rfl, b1⟩; have B1 := hide b1; clear b1)
  go_ret2
  exact ⟨rfl, unhide B1⟩
set_option maxRecDepth 100000 in
theorem push_value (L : List It) (want limit value : Int) (v : Value) (w : World) (h : KL w v L) (hr : Rt L want limit) (hv : ¬ isV value) :
    Calls Try.prog 7 #[v, .int .i64 want, .int .i64 limit, .int .i64 value] w fun e w' => e = .returned (.tuple #[.slice none 0 0, .int .i64 1]) ∧ Below w.heap.size w w' := by
  have CK := hide (check_ok L want limit v w h hr)
  have VK := hide (fun W => value_no value hv W)
  clear h hr hv
  go_enter Try.func7, Try.ntmps7
  go_wp2_with (first | (go_at_call 11; refine (unhide CK).mono ?_; rintro e w1 ⟨rfl, b1⟩; have B1 := hide b1; clear b1) | (go_at_call 16; refine (unhide VK _).mono ?_; rintro e w1 ⟨rfl, rfl⟩))
  go_ret2
  exact ⟨rfl, unhide B1⟩
set_option maxRecDepth 100000 in
theorem push_quota (L : List It) (limit value : Int) (v : Value) (w : World) (h : KL w v L) (hr : Rt L 1073741824 limit) (hv : isV value) :
    Calls Try.prog 7 #[v, .int .i64 1073741824, .int .i64 limit, .int .i64 value] w fun e w' => e = .returned (.tuple #[.slice none 0 0, .int .i64 11]) ∧ Below w.heap.size w w' := by
  have CK := hide (check_ok L 1073741824 limit v w h hr)
  have VK := hide (fun W => value_yes value hv W)
  clear h hr hv
  go_enter Try.func7, Try.ntmps7
  go_wp2_with (first | (go_at_call 11; refine (unhide CK).mono ?_; rintro e w1 ⟨rfl, b1⟩; have B1 := hide b1; clear b1) | (go_at_call 16; refine (unhide VK _).mono ?_; rintro e w1 ⟨rfl, rfl⟩))
  go_ret2
  exact ⟨rfl, unhide B1⟩
set_option maxHeartbeats 1000000 in
set_option maxRecDepth 100000 in
theorem push_ok (L : List It) (want limit value : Int) (v : Value) (w : World) (h : KL w v L) (hr : Rt L want limit) (hv : isV value) (hw : want < 1073741824) :
    Calls Try.prog 7 #[v, .int .i64 want, .int .i64 limit, .int .i64 value] w fun e w' => ∃ v', e = .returned (.tuple #[v', .int .i64 0]) ∧ KL w' v' (pu L want limit value) ∧ Below w.heap.size w w' := by
  obtain ⟨r1, r2, r3, r4, r5, r6, -⟩ := id hr
  have CK := hide (check_ok L want limit v w h hr)
  have VK := hide (fun W => value_yes value hv W)
  have CC := hide (fun W (hb : Below w.heap.size w W) => clone_k L v W (h.below hb (Nat.le_refl _)) (by omega))
  have e1 : (want == 1073741824) = false := by simp; omega
  have LN := hide (show L.length ≤ 1000000 by omega)
  have HP := hide (show pu L want limit value = (L ++ [(want, value)]).drop ((L.length : Int) + 1 - limit).toNat from rfl)
  have H5 := hide r5
  clear h hr hv r5 r6
  generalize pu L want limit value = PU at *
  go_enter Try.func7, Try.ntmps7
  go_upto_region 9 with (first | (go_at_call 11; refine (unhide CK).mono ?_; rintro e w1 ⟨rfl, b1⟩; have B1 := hide b1; clear b1) | (go_at_call 16; refine (unhide VK _).mono ?_; rintro e w1 ⟨rfl, rfl⟩) | (go_at_call 17; refine (unhide CC _ (unhide B1)).mono ?_; rintro e w3 ⟨v3, rfl, o3, b3⟩; have O3 := hide (o3.mono (unhide B1).size); have B3 := hide (below_of (unhide B1) b3); clear o3 b3) | (at_builtin; refine wpList_addK (by simp [Region.wanted]) _ _ rfl w.heap.size _ _ L [(want, value)] rfl ((unhide O3).alloc _) rfl (kl_lit _ _ _ _ rfl) (unhide LN) (by simp) (by have := (unhide B3).size; simp; omega) ?_; intro v4 w4 o4 b4; have O4 := hide o4.kl; have B4 := hide ((below_alloc (unhide B3) _).trans b4); clear o4 b4))
  obtain ⟨q4, c4, rfl⟩ := kl_form (unhide O4)
  obtain ⟨m, hm⟩ : ∃ m, (L ++ [(want, value)]).length = m := ⟨_, rfl⟩
  have HM := hide (show m = L.length + 1 by rw [← hm]; simp)
  rw [hm] at O4 ⊢
  have hmx := run_max0 (m : Int) limit
  have m17 : m ≤ 17 := by have := unhide HM; have := unhide H5; omega
  have hX := hide (show ((m : Int) - limit).toNat = ((L.length : Int) + 1 - limit).toNat by rw [unhide HM]; simp)
  have x1 : ((m : Int) - limit).toNat ≤ m := by omega
  clear hm
  generalize ((m : Int) - limit).toNat = X at *
  obtain ⟨a2, c2, hs, hk⟩ := kl_at q4 m c4 (X : Int) (by omega) (by omega)
  simp only [Int.toNat_natCast] at hs hk
  have HK := hide hk
  clear hk
  go_wp2
  go_ret2
  exact ⟨_, rfl, by rw [unhide HP, ← unhide hX]; exact unhide HK _ _ (unhide O4), unhide B4⟩
set_option maxRecDepth 100000 in
theorem again_no (L : List It) (want limit frm : Int) (v : Value) (w : World) (h : KL w v L) (hr : ¬ Rt L want limit) :
    Calls Try.prog 8 #[v, .int .i64 want, .int .i64 limit, .int .i64 frm] w fun e w' => e = .returned (.tuple #[.int .i64 0, .slice none 0 0, .int .i64 1]) ∧ Below w.heap.size w w' := by
  have CK := hide (check_no L want limit v w h hr)
  clear h hr
  go_enter Try.func8, Try.ntmps8
  go_wp2_with (go_at_call 11; refine (unhide CK).mono ?_; rintro e w1 ⟨rfl, b1⟩; have B1 := hide b1; clear b1)
  go_ret3
  exact ⟨rfl, unhide B1⟩
set_option maxRecDepth 100000 in
theorem again_arg (L : List It) (want limit frm : Int) (v : Value) (w : World) (h : KL w v L) (hr : Rt L want limit) (hf : frm < 1) :
    Calls Try.prog 8 #[v, .int .i64 want, .int .i64 limit, .int .i64 frm] w fun e w' => e = .returned (.tuple #[.int .i64 0, .slice none 0 0, .int .i64 1]) ∧ Below w.heap.size w w' := by
  have CK := hide (check_ok L want limit v w h hr)
  clear h hr
  go_enter Try.func8, Try.ntmps8
  go_wp2_with (go_at_call 11; refine (unhide CK).mono ?_; rintro e w1 ⟨rfl, b1⟩; have B1 := hide b1; clear b1)
  go_ret3
  exact ⟨rfl, unhide B1⟩
set_option maxRecDepth 100000 in
theorem again_far (L : List It) (want limit frm : Int) (v : Value) (w : World) (h : KL w v L) (hr : Rt L want limit) (hf : 1 ≤ frm) (hw : want ≤ frm) :
    Calls Try.prog 8 #[v, .int .i64 want, .int .i64 limit, .int .i64 frm] w fun e w' => e = .returned (.tuple #[.int .i64 0, .slice none 0 0, .int .i64 0]) ∧ Below w.heap.size w w' := by
  have CK := hide (check_ok L want limit v w h hr)
  clear h hr
  go_enter Try.func8, Try.ntmps8
  go_wp2_with (go_at_call 11; refine (unhide CK).mono ?_; rintro e w1 ⟨rfl, b1⟩; have B1 := hide b1; clear b1)
  go_ret3
  exact ⟨rfl, unhide B1⟩
set_option maxHeartbeats 1000000 in
set_option maxRecDepth 100000 in
theorem again_ok (L : List It) (want limit frm : Int) (v : Value) (w : World) (h : KL w v L) (hr : Rt L want limit) (hf : 1 ≤ frm) (hw : frm < want) :
    Calls Try.prog 8 #[v, .int .i64 want, .int .i64 limit, .int .i64 frm] w fun e w' => ∃ v', e = .returned (.tuple #[.int .i64 (agG L.length want frm), v', .int .i64 0]) ∧ KL w' v' (agL L want frm) ∧ Below w.heap.size w w' := by
  obtain ⟨hr1, hr2, hr3, hr4, hr5, hr6, -⟩ := id hr
  have CK := hide (check_ok L want limit v w h hr)
  have hL16 : L.length ≤ 16 := by omega
  obtain ⟨q, c, rfl⟩ := kl_form h
  have hnc := (kl_cap h).2.1
  have key : ∀ X : Nat, X ≤ L.length → ∃ a2 c2 a3 c3, (∀ w, (Instr.slice 22 (.slice q L.length c) (some (.int .i64 (X : Int))) none none).run Try.prog w = .ok (.slice a2 (L.length - X) c2) w) ∧
      (∀ w, (Instr.slice 22 (.slice a2 (L.length - X) c2) none (some (.int .i64 ((min (L.length - X) 8 : Nat) : Int))) none).run Try.prog w = .ok (.slice a3 (min (L.length - X) 8) c3) w) ∧
      ∀ W, Below w.heap.size w W → Calls Try.prog 17 #[.slice a3 (min (L.length - X) 8) c3] W fun e w' => ∃ v', e = .returned v' ∧ KO w' W.heap.size v' ((L.drop X).take 8) ∧ Below W.heap.size W w' := by
    intro X hX
    obtain ⟨a2, c2, hs, hk⟩ := kl_at q L.length c (X : Int) (by omega) (by omega)
    simp only [Int.toNat_natCast] at hs hk
    have h2 := hk w L h
    obtain ⟨a3, c3, hs3, hk3⟩ := kl_upto a2 (L.length - X) c2 ((min (L.length - X) 8 : Nat) : Int) (by omega) (by omega) (kl_cap h2).2.1
    simp only [Int.toNat_natCast] at hs3 hk3
    have h3 := hk3 w _ h2
    have e : (L.drop X).take (min (L.length - X) 8) = (L.drop X).take 8 := by
      have hl : (L.drop X).length = L.length - X := List.length_drop
      by_cases g : L.length - X ≤ 8
      · rw [List.take_of_length_le (by omega), List.take_of_length_le (by omega)]
      · rw [Nat.min_eq_right (by omega)]
    rw [e] at h3
    exact ⟨a2, c2, a3, c3, hs, hs3, fun W hb => clone_k _ _ W (h3.below hb (Nat.le_refl _)) (by rw [List.length_take]; omega)⟩
  by_cases g : frm < want - L.length
  · obtain ⟨a2, c2, a3, c3, hs, hs3, hc3⟩ := key 0 (by omega)
    have HC := hide hc3
    have HG := hide (show agG L.length want frm = want - L.length - 1 by unfold agG; rw [if_pos g])
    have HP := hide (show agL L want frm = (L.drop 0).take 8 by unfold agL; rw [show (frm - (want - L.length)).toNat = 0 by omega])
    generalize agG L.length want frm = G at *
    generalize agL L want frm = PP at *
    generalize (L.drop 0).take 8 = QQ at *
    clear hc3 key h hr
    generalize L.length = n at *
    rw [Nat.sub_zero] at hs hs3 HC
    rw [show ((0 : Nat) : Int) = 0 from rfl] at hs
    have hm8 := run_min8 n
    generalize min n 8 = M at *
    go_enter Try.func8, Try.ntmps8
    go_wp2_with (first | (go_at_call 11; refine (unhide CK).mono ?_; rintro e w1 ⟨rfl, b1⟩; have B1 := hide b1; clear b1) | (go_at_call 18; refine (first_is _ _ _ _ hr1 hr2 hL16 _).mono ?_; rintro e w1 ⟨rfl, rfl⟩) | (go_at_call 17; refine (unhide HC _ (unhide B1)).mono ?_; rintro e w3 ⟨v3, rfl, o3, b3⟩; have O3 := hide o3.kl; have B3 := hide (below_of (unhide B1) b3); clear o3 b3))
    go_ret3
    exact ⟨_, by rw [unhide HG]; rfl, by rw [unhide HP]; exact unhide O3, unhide B3⟩
  · obtain ⟨X, hX⟩ : ∃ X, (frm - (want - L.length)).toNat = X := ⟨_, rfl⟩
    obtain ⟨a2, c2, a3, c3, hs, hs3, hc3⟩ := key X (by omega)
    have HC := hide hc3
    have HG := hide (show agG L.length want frm = 0 by unfold agG; rw [if_neg g])
    have HP := hide (show agL L want frm = (L.drop X).take 8 by unfold agL; rw [hX])
    rw [show (X : Int) = frm - (want - L.length) by omega] at hs
    generalize agG L.length want frm = G at *
    generalize agL L want frm = PP at *
    generalize (L.drop X).take 8 = QQ at *
    clear hc3 key h hr
    generalize L.length = n at *
    have hm8 := run_min8 (n - X)
    have hnX : n - X ≤ 16 := by omega
    clear hX
    generalize min (n - X) 8 = M at *
    generalize n - X = nX at *
    go_enter Try.func8, Try.ntmps8
    go_wp2_with (first | (go_at_call 11; refine (unhide CK).mono ?_; rintro e w1 ⟨rfl, b1⟩; have B1 := hide b1; clear b1) | (go_at_call 18; refine (first_is _ _ _ _ hr1 hr2 hL16 _).mono ?_; rintro e w1 ⟨rfl, rfl⟩) | (go_at_call 17; refine (unhide HC _ (unhide B1)).mono ?_; rintro e w3 ⟨v3, rfl, o3, b3⟩; have O3 := hide o3.kl; have B3 := hide (below_of (unhide B1) b3); clear o3 b3))
    go_ret3
    exact ⟨_, by rw [unhide HG]; rfl, by rw [unhide HP]; exact unhide O3, unhide B3⟩
end Go.Proofs.Ytofaoagmchokmaa
