/- PathExact: a path that is not right. -/
import Derived.Test.YtmdkaomjjglfjaaDoorW1
import Derived.Test.YtmdkaomjjglfjaaDoorK5
import Derived.Test.YtmdkaomjjglfjaaDoorX0
namespace Go.Proofs.YtmdkaomjjglfjaaDoor
open Go.RowKit

set_option maxRecDepth 100000 in
set_option maxHeartbeats 4000000 in
theorem exact_11 (t s d : Int) (L : List Int) (M : List (List Int)) (v2 v4 : Value) (w : World) (hG : Glob w) (hI : IL w v2 L) (hM : LL w v4 M) (hl : L.length ≤ 30) (hm0 : M.length ≤ 20) (hm1 : ∀ k, k < M.length → (zL M k).length ≤ 20) (hto : IsT t) (hno : IsN s) (hP : pth t s L 8 ≠ 0) (hd : d < 1) :
    Calls Tryd.prog 3 #[.int .i64 t, .int .i64 s, v2, .int .i64 d, v4] w fun e w' => e = .returned (.bool true) ∧ Below w.heap.size w w' := by
  have hc8 : chk t s L 8 = pth t s L 8 := chk_pth ⟨hto, hno⟩ (by omega) (by omega)
  have hA : adE t s L = pth t s L 8 := by unfold adE; rw [hc8, if_neg (fun q => hP q.1)]
  have hE : adE t s L ≠ 0 := by rw [hA]; exact hP
  have hC : chk t s L d = 1 := by unfold chk; rw [if_neg (fun q => q ⟨hto, hno⟩), if_pos (.inl hd)]
  obtain ⟨n, hn⟩ : ∃ n, L.length = n := ⟨_, rfl⟩
  obtain ⟨m, hm⟩ : ∃ m, M.length = m := ⟨_, rfl⟩
  rw [hn] at hl
  have cT := hide (twin_n L n v2 w hI hn (by omega))
  have cW := hide (fun (w3 : World) (hb : Below w.heap.size w w3) => whole_is t M v4 w3 (hG.below hb hG.size) (hM.below hb (Nat.le_refl _)))
  have cR := hide (fun (w3 : World) (hb : Below w.heap.size w w3) => rwhole_is M v4 w3 (hM.below hb (Nat.le_refl _)))
  have cI := hide (fun (v1 : Value) (w3 : World) (h1 : IL w3 v1 L) (hb : Below w.heap.size w w3) => ints_same L v1 v2 w3 h1 (hI.below hb (Nat.le_refl _)))
  have cC := hide (fun (v1 : Value) (w3 : World) (h1 : IL w3 v1 L) (hb : Below w.heap.size w w3) => check_p t s L d v1 w3 (hG.below hb hG.size) h1)
  have cP := hide (fun (dd : Int) (w3 : World) (hb : Below w.heap.size w w3) => rpath_is t s L dd v2 w3 (hI.below hb (Nat.le_refl _)))
  have cK := hide (fun (w3 : World) (hb : Below w.heap.size w w3) => wakes_any w3 (hG.below hb hG.size))
  have cA := hide (fun (v1 : Value) (w3 : World) (h1 : IL w3 v1 L) (hb : Below w.heap.size w w3) => add_no t s L v1 w3 (hG.below hb hG.size) h1 hE)
  rw [hA] at cA
  rw [hC] at cC
  have cTo := hide (istopic_t t hto)
  have cNo := hide (isnode_t s hno)
  have cP8 := hide (fun (w3 : World) hb => unhide cP 8 w3 hb)
  obtain ⟨P8, hP8⟩ : ∃ z, pth t s L 8 = z := ⟨_, rfl⟩
  rw [hP8] at cP8 cA hP
  have e1 : (P8 == 0) = false := beq_false_of_ne hP
  have e2 : (P8 != 0) = true := by simpa using hP
  have e3 : (P8 != P8) = false := by simp
  clear hP8 hP hA
  have d1 : decide (1 ≤ d) = false := decide_eq_false (by omega)
  clear hd
  clear cP hC hE hc8 hto hno
  have m1 := trivial
  have m2 := trivial
  have HG := hide hG
  have HI := hide hI
  have HM := hide hM
  have HMM := hide (show m ≤ M.length by omega)
  have HM1 := hide (fun k (hk : k < m) => hm1 k (by omega))
  obtain ⟨p2, k2, rfl⟩ := il_form hI
  obtain ⟨p4, k4, rfl⟩ := ll_form hM
  rw [hn] at cT cI cP8 HI ⊢
  rw [hm] at cW cR HM hm0 ⊢
  obtain ⟨WH, hWH⟩ : ∃ b, wh M = b := ⟨_, rfl⟩
  rw [hWH] at cW cR
  have bW : (WH != WH) = false := by cases WH <;> rfl
  have b1 : decide (30 < n) = false := decide_eq_false (by omega)
  have b2 : decide (20 < m) = false := decide_eq_false (by omega)
  clear hG hI hM hm1 hm hWH
  go_enter Tryd.func3, Tryd.ntmps3
  go_wp2
  go_loop [11] (fun xi => ∃ k : Nat, k ≤ m ∧ xi = .int .i64 k) (fun i => m - (intOf i).toNat)
  case atStart => exact ⟨0, by omega, rfl⟩
  case round =>
    obtain ⟨k, hk, rfl⟩ := hrel
    by_cases hlt : k < m
    · obtain ⟨b, off, q1, c1, rfl, hle, hc, hb, hck, -⟩ := ll_cell (unhide HM) hlt (unhide HMM)
      have h20 := unhide HM1 k hlt
      have b3 : decide (20 < (zL M k).length) = false := decide_eq_false (by omega)
      generalize (zL M k).length = p at *
      go_wp2
      go_round
      case rel => exact ⟨k + 1, by omega, by go_num⟩
      case measure => simp [intOf]; omega
    · obtain rfl : m = k := by omega
      go_wp2_with (first
        | (go_at_call 6; refine (unhide cT).mono ?_; rintro e w1 ⟨p1, k1, rfl, ho, hb⟩; have O1 := hide ho; have B := hide hb; clear ho hb)
        | (go_at_call 7; refine (unhide cA _ _ (unhide O1) (unhide B)).mono ?_; rintro e w1 ⟨rfl, rfl⟩)
        | (go_at_call 8; refine (unhide cW _ (unhide B)).mono ?_; rintro e w1 ⟨rfl, rfl⟩)
        | (go_at_call 9; refine (unhide cR _ (unhide B)).mono ?_; rintro e w1 ⟨rfl, rfl⟩)
        | (go_at_call 10; refine (unhide cI _ _ (unhide O1) (unhide B)).mono ?_; rintro e w3 ⟨rfl, hb⟩; replace O1 := hide ((unhide O1).below hb (Nat.le_refl _)); replace B := hide ((unhide B).trans (hb.mono (unhide B).size)); clear hb)
        | (go_at_call 11; refine (unhide cTo _).mono ?_; rintro e w1 ⟨rfl, rfl⟩)
        | (go_at_call 12; refine (unhide cNo _).mono ?_; rintro e w1 ⟨rfl, rfl⟩)
        | (clear m2; go_at_call 13; refine (unhide cP8 _ (unhide B)).mono ?_; rintro e w4 ⟨rfl, hb⟩; replace O1 := hide ((unhide O1).below hb (Nat.le_refl _)); replace B := hide ((unhide B).trans (hb.mono (unhide B).size)); clear hb)
        | (go_at_call 14; refine (unhide cC _ _ (unhide O1) (unhide B)).mono ?_; rintro e w1 ⟨rfl, rfl⟩)
        | (go_at_call 15; refine (unhide cK _ (unhide B)).mono ?_; rintro e w5 ⟨rfl, hb⟩; replace B := hide ((unhide B).trans (hb.mono (unhide B).size)); clear hb))
      go_ret
      exact ⟨rfl, unhide B⟩
set_option maxRecDepth 100000 in
set_option maxHeartbeats 4000000 in
theorem exact_12 (t s d : Int) (L : List Int) (M : List (List Int)) (v2 v4 : Value) (w : World) (hG : Glob w) (hI : IL w v2 L) (hM : LL w v4 M) (hl : L.length ≤ 30) (hm0 : M.length ≤ 20) (hm1 : ∀ k, k < M.length → (zL M k).length ≤ 20) (hto : IsT t) (hno : IsN s) (hP : pth t s L 8 ≠ 0) (hd : 8 < d) :
    Calls Tryd.prog 3 #[.int .i64 t, .int .i64 s, v2, .int .i64 d, v4] w fun e w' => e = .returned (.bool true) ∧ Below w.heap.size w w' := by
  have hc8 : chk t s L 8 = pth t s L 8 := chk_pth ⟨hto, hno⟩ (by omega) (by omega)
  have hA : adE t s L = pth t s L 8 := by unfold adE; rw [hc8, if_neg (fun q => hP q.1)]
  have hE : adE t s L ≠ 0 := by rw [hA]; exact hP
  have hC : chk t s L d = 1 := by unfold chk; rw [if_neg (fun q => q ⟨hto, hno⟩), if_pos (.inr (.inl hd))]
  obtain ⟨n, hn⟩ : ∃ n, L.length = n := ⟨_, rfl⟩
  obtain ⟨m, hm⟩ : ∃ m, M.length = m := ⟨_, rfl⟩
  rw [hn] at hl
  have cT := hide (twin_n L n v2 w hI hn (by omega))
  have cW := hide (fun (w3 : World) (hb : Below w.heap.size w w3) => whole_is t M v4 w3 (hG.below hb hG.size) (hM.below hb (Nat.le_refl _)))
  have cR := hide (fun (w3 : World) (hb : Below w.heap.size w w3) => rwhole_is M v4 w3 (hM.below hb (Nat.le_refl _)))
  have cI := hide (fun (v1 : Value) (w3 : World) (h1 : IL w3 v1 L) (hb : Below w.heap.size w w3) => ints_same L v1 v2 w3 h1 (hI.below hb (Nat.le_refl _)))
  have cC := hide (fun (v1 : Value) (w3 : World) (h1 : IL w3 v1 L) (hb : Below w.heap.size w w3) => check_p t s L d v1 w3 (hG.below hb hG.size) h1)
  have cP := hide (fun (dd : Int) (w3 : World) (hb : Below w.heap.size w w3) => rpath_is t s L dd v2 w3 (hI.below hb (Nat.le_refl _)))
  have cK := hide (fun (w3 : World) (hb : Below w.heap.size w w3) => wakes_any w3 (hG.below hb hG.size))
  have cA := hide (fun (v1 : Value) (w3 : World) (h1 : IL w3 v1 L) (hb : Below w.heap.size w w3) => add_no t s L v1 w3 (hG.below hb hG.size) h1 hE)
  rw [hA] at cA
  rw [hC] at cC
  have cTo := hide (istopic_t t hto)
  have cNo := hide (isnode_t s hno)
  have cP8 := hide (fun (w3 : World) hb => unhide cP 8 w3 hb)
  obtain ⟨P8, hP8⟩ : ∃ z, pth t s L 8 = z := ⟨_, rfl⟩
  rw [hP8] at cP8 cA hP
  have e1 : (P8 == 0) = false := beq_false_of_ne hP
  have e2 : (P8 != 0) = true := by simpa using hP
  have e3 : (P8 != P8) = false := by simp
  clear hP8 hP hA
  have d1 : decide (1 ≤ d) = true := decide_eq_true (by omega)
  have d2 : decide (d ≤ 8) = false := decide_eq_false (by omega)
  clear hd
  clear cP hC hE hc8 hto hno
  have m1 := trivial
  have m2 := trivial
  have HG := hide hG
  have HI := hide hI
  have HM := hide hM
  have HMM := hide (show m ≤ M.length by omega)
  have HM1 := hide (fun k (hk : k < m) => hm1 k (by omega))
  obtain ⟨p2, k2, rfl⟩ := il_form hI
  obtain ⟨p4, k4, rfl⟩ := ll_form hM
  rw [hn] at cT cI cP8 HI ⊢
  rw [hm] at cW cR HM hm0 ⊢
  obtain ⟨WH, hWH⟩ : ∃ b, wh M = b := ⟨_, rfl⟩
  rw [hWH] at cW cR
  have bW : (WH != WH) = false := by cases WH <;> rfl
  have b1 : decide (30 < n) = false := decide_eq_false (by omega)
  have b2 : decide (20 < m) = false := decide_eq_false (by omega)
  clear hG hI hM hm1 hm hWH
  go_enter Tryd.func3, Tryd.ntmps3
  go_wp2
  go_loop [11] (fun xi => ∃ k : Nat, k ≤ m ∧ xi = .int .i64 k) (fun i => m - (intOf i).toNat)
  case atStart => exact ⟨0, by omega, rfl⟩
  case round =>
    obtain ⟨k, hk, rfl⟩ := hrel
    by_cases hlt : k < m
    · obtain ⟨b, off, q1, c1, rfl, hle, hc, hb, hck, -⟩ := ll_cell (unhide HM) hlt (unhide HMM)
      have h20 := unhide HM1 k hlt
      have b3 : decide (20 < (zL M k).length) = false := decide_eq_false (by omega)
      generalize (zL M k).length = p at *
      go_wp2
      go_round
      case rel => exact ⟨k + 1, by omega, by go_num⟩
      case measure => simp [intOf]; omega
    · obtain rfl : m = k := by omega
      go_wp2_with (first
        | (go_at_call 6; refine (unhide cT).mono ?_; rintro e w1 ⟨p1, k1, rfl, ho, hb⟩; have O1 := hide ho; have B := hide hb; clear ho hb)
        | (go_at_call 7; refine (unhide cA _ _ (unhide O1) (unhide B)).mono ?_; rintro e w1 ⟨rfl, rfl⟩)
        | (go_at_call 8; refine (unhide cW _ (unhide B)).mono ?_; rintro e w1 ⟨rfl, rfl⟩)
        | (go_at_call 9; refine (unhide cR _ (unhide B)).mono ?_; rintro e w1 ⟨rfl, rfl⟩)
        | (go_at_call 10; refine (unhide cI _ _ (unhide O1) (unhide B)).mono ?_; rintro e w3 ⟨rfl, hb⟩; replace O1 := hide ((unhide O1).below hb (Nat.le_refl _)); replace B := hide ((unhide B).trans (hb.mono (unhide B).size)); clear hb)
        | (go_at_call 11; refine (unhide cTo _).mono ?_; rintro e w1 ⟨rfl, rfl⟩)
        | (go_at_call 12; refine (unhide cNo _).mono ?_; rintro e w1 ⟨rfl, rfl⟩)
        | (clear m2; go_at_call 13; refine (unhide cP8 _ (unhide B)).mono ?_; rintro e w4 ⟨rfl, hb⟩; replace O1 := hide ((unhide O1).below hb (Nat.le_refl _)); replace B := hide ((unhide B).trans (hb.mono (unhide B).size)); clear hb)
        | (go_at_call 14; refine (unhide cC _ _ (unhide O1) (unhide B)).mono ?_; rintro e w1 ⟨rfl, rfl⟩)
        | (go_at_call 15; refine (unhide cK _ (unhide B)).mono ?_; rintro e w5 ⟨rfl, hb⟩; replace B := hide ((unhide B).trans (hb.mono (unhide B).size)); clear hb))
      go_ret
      exact ⟨rfl, unhide B⟩
set_option maxRecDepth 100000 in
set_option maxHeartbeats 4000000 in
theorem exact_13 (t s d : Int) (L : List Int) (M : List (List Int)) (v2 v4 : Value) (w : World) (hG : Glob w) (hI : IL w v2 L) (hM : LL w v4 M) (hl : L.length ≤ 30) (hm0 : M.length ≤ 20) (hm1 : ∀ k, k < M.length → (zL M k).length ≤ 20) (hto : IsT t) (hno : IsN s) (hP : pth t s L 8 ≠ 0) (hd1 : 1 ≤ d) (hd2 : d ≤ 8) :
    Calls Tryd.prog 3 #[.int .i64 t, .int .i64 s, v2, .int .i64 d, v4] w fun e w' => e = .returned (.bool true) ∧ Below w.heap.size w w' := by
  have hc8 : chk t s L 8 = pth t s L 8 := chk_pth ⟨hto, hno⟩ (by omega) (by omega)
  have hA : adE t s L = pth t s L 8 := by unfold adE; rw [hc8, if_neg (fun q => hP q.1)]
  have hE : adE t s L ≠ 0 := by rw [hA]; exact hP
  have hC : chk t s L d = pth t s L d := chk_pth ⟨hto, hno⟩ hd1 hd2
  obtain ⟨n, hn⟩ : ∃ n, L.length = n := ⟨_, rfl⟩
  obtain ⟨m, hm⟩ : ∃ m, M.length = m := ⟨_, rfl⟩
  rw [hn] at hl
  have cT := hide (twin_n L n v2 w hI hn (by omega))
  have cW := hide (fun (w3 : World) (hb : Below w.heap.size w w3) => whole_is t M v4 w3 (hG.below hb hG.size) (hM.below hb (Nat.le_refl _)))
  have cR := hide (fun (w3 : World) (hb : Below w.heap.size w w3) => rwhole_is M v4 w3 (hM.below hb (Nat.le_refl _)))
  have cI := hide (fun (v1 : Value) (w3 : World) (h1 : IL w3 v1 L) (hb : Below w.heap.size w w3) => ints_same L v1 v2 w3 h1 (hI.below hb (Nat.le_refl _)))
  have cC := hide (fun (v1 : Value) (w3 : World) (h1 : IL w3 v1 L) (hb : Below w.heap.size w w3) => check_p t s L d v1 w3 (hG.below hb hG.size) h1)
  have cP := hide (fun (dd : Int) (w3 : World) (hb : Below w.heap.size w w3) => rpath_is t s L dd v2 w3 (hI.below hb (Nat.le_refl _)))
  have cK := hide (fun (w3 : World) (hb : Below w.heap.size w w3) => wakes_any w3 (hG.below hb hG.size))
  have cA := hide (fun (v1 : Value) (w3 : World) (h1 : IL w3 v1 L) (hb : Below w.heap.size w w3) => add_no t s L v1 w3 (hG.below hb hG.size) h1 hE)
  rw [hA] at cA
  rw [hC] at cC
  have cTo := hide (istopic_t t hto)
  have cNo := hide (isnode_t s hno)
  have cP8 := hide (fun (w3 : World) hb => unhide cP 8 w3 hb)
  have cPd := hide (fun (w3 : World) hb => unhide cP d w3 hb)
  obtain ⟨P8, hP8⟩ : ∃ z, pth t s L 8 = z := ⟨_, rfl⟩
  rw [hP8] at cP8 cA hP
  have e1 : (P8 == 0) = false := beq_false_of_ne hP
  have e2 : (P8 != 0) = true := by simpa using hP
  have e3 : (P8 != P8) = false := by simp
  clear hP8 hP hA
  have d1 : decide (1 ≤ d) = true := decide_eq_true hd1
  have d2 : decide (d ≤ 8) = true := decide_eq_true hd2
  obtain ⟨PD, hPD⟩ : ∃ z, pth t s L d = z := ⟨_, rfl⟩
  rw [hPD] at cPd cC
  have e4 : (PD != PD) = false := by simp
  clear hPD hd1 hd2
  clear cP hC hE hc8 hto hno
  have m1 := trivial
  have m2 := trivial
  have HG := hide hG
  have HI := hide hI
  have HM := hide hM
  have HMM := hide (show m ≤ M.length by omega)
  have HM1 := hide (fun k (hk : k < m) => hm1 k (by omega))
  obtain ⟨p2, k2, rfl⟩ := il_form hI
  obtain ⟨p4, k4, rfl⟩ := ll_form hM
  rw [hn] at cT cI cP8 cPd HI ⊢
  rw [hm] at cW cR HM hm0 ⊢
  obtain ⟨WH, hWH⟩ : ∃ b, wh M = b := ⟨_, rfl⟩
  rw [hWH] at cW cR
  have bW : (WH != WH) = false := by cases WH <;> rfl
  have b1 : decide (30 < n) = false := decide_eq_false (by omega)
  have b2 : decide (20 < m) = false := decide_eq_false (by omega)
  clear hG hI hM hm1 hm hWH
  go_enter Tryd.func3, Tryd.ntmps3
  go_wp2
  go_loop [11] (fun xi => ∃ k : Nat, k ≤ m ∧ xi = .int .i64 k) (fun i => m - (intOf i).toNat)
  case atStart => exact ⟨0, by omega, rfl⟩
  case round =>
    obtain ⟨k, hk, rfl⟩ := hrel
    by_cases hlt : k < m
    · obtain ⟨b, off, q1, c1, rfl, hle, hc, hb, hck, -⟩ := ll_cell (unhide HM) hlt (unhide HMM)
      have h20 := unhide HM1 k hlt
      have b3 : decide (20 < (zL M k).length) = false := decide_eq_false (by omega)
      generalize (zL M k).length = p at *
      go_wp2
      go_round
      case rel => exact ⟨k + 1, by omega, by go_num⟩
      case measure => simp [intOf]; omega
    · obtain rfl : m = k := by omega
      go_wp2_with (first
        | (go_at_call 6; refine (unhide cT).mono ?_; rintro e w1 ⟨p1, k1, rfl, ho, hb⟩; have O1 := hide ho; have B := hide hb; clear ho hb)
        | (go_at_call 7; refine (unhide cA _ _ (unhide O1) (unhide B)).mono ?_; rintro e w1 ⟨rfl, rfl⟩)
        | (go_at_call 8; refine (unhide cW _ (unhide B)).mono ?_; rintro e w1 ⟨rfl, rfl⟩)
        | (go_at_call 9; refine (unhide cR _ (unhide B)).mono ?_; rintro e w1 ⟨rfl, rfl⟩)
        | (go_at_call 10; refine (unhide cI _ _ (unhide O1) (unhide B)).mono ?_; rintro e w3 ⟨rfl, hb⟩; replace O1 := hide ((unhide O1).below hb (Nat.le_refl _)); replace B := hide ((unhide B).trans (hb.mono (unhide B).size)); clear hb)
        | (go_at_call 11; refine (unhide cTo _).mono ?_; rintro e w1 ⟨rfl, rfl⟩)
        | (go_at_call 12; refine (unhide cNo _).mono ?_; rintro e w1 ⟨rfl, rfl⟩)
        | (clear m2; go_at_call 13; refine (unhide cP8 _ (unhide B)).mono ?_; rintro e w4 ⟨rfl, hb⟩; replace O1 := hide ((unhide O1).below hb (Nat.le_refl _)); replace B := hide ((unhide B).trans (hb.mono (unhide B).size)); clear hb)
        | (go_at_call 13; refine (unhide cPd _ (unhide B)).mono ?_; rintro e w4 ⟨rfl, hb⟩; replace O1 := hide ((unhide O1).below hb (Nat.le_refl _)); replace B := hide ((unhide B).trans (hb.mono (unhide B).size)); clear hb)
        | (go_at_call 14; refine (unhide cC _ _ (unhide O1) (unhide B)).mono ?_; rintro e w1 ⟨rfl, rfl⟩)
        | (go_at_call 15; refine (unhide cK _ (unhide B)).mono ?_; rintro e w5 ⟨rfl, hb⟩; replace B := hide ((unhide B).trans (hb.mono (unhide B).size)); clear hb))
      go_ret
      exact ⟨rfl, unhide B⟩
end Go.Proofs.YtmdkaomjjglfjaaDoor
