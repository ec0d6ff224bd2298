/- Walk of CrcExact. -/
import Derived.Test.YtfkhapliblnacaaX2
import Derived.Test.YtfkhapliblnacaaD1
namespace Go.Proofs.Ytfkhapliblnacaa
open Go.RowKit

theorem exact_long (p : Option Addr) (n cap : Nat) (w : World) (h1 : n ≤ maxLen) (h : 400 < n) :
    Calls Try.prog 3 #[.slice p n cap] w fun e w' => e = .returned (.bool true) ∧ Below w.heap.size w w' := by
  unfold maxLen at h1
  have d1 : decide ((400 : Int) < (n : Int)) = true := decide_eq_true (by omega)
  go_enter Try.func3, Try.ntmps3
  go_wp2
  go_ret
  exact ⟨rfl, Below.refl _ _⟩
set_option maxRecDepth 100000 in
set_option maxHeartbeats 1000000 in
theorem exact_ok (D : Nat → Nat) (p : Option Addr) (n cap : Nat) (w : World) (hb : Bs w (.slice p n cap) n D) (hD : ∀ i, i < n → D i < 256) (hn : n ≤ 400) :
    Calls Try.prog 3 #[.slice p n cap] w fun e w' => e = .returned (.bool true) ∧ Below w.heap.size w w' := by
  obtain ⟨k, c, hO, hP⟩ := open_both D n hD (by omega)
  have c1 : Hid (Calls Try.prog 6 #[.slice p n cap] w fun e w' => ∃ v', e = .returned v' ∧ Bs w' v' n D ∧ Below w.heap.size w w') := by
    refine hide ((twin_any _ _ n w hb (by omega)).mono ?_)
    rintro e w' ⟨v', rfl, o, bl⟩
    exact ⟨v', rfl, sl_of_owns o, bl⟩
  have c2 := hide hO
  have c3 : Hid (∀ w1, Below w.heap.size w w1 → Calls Try.prog 8 #[.slice p n cap] w1 fun e w' => ∃ v', e = .returned (.tuple #[v', .int .i64 c]) ∧ Bs w' v' k D ∧ Below w1.heap.size w1 w') := hide fun w1 h => hP _ w1 (Sl.below hb h (Nat.le_refl _))
  have c4 : Hid (∀ v w1, Bs w1 v n D → Calls Try.prog 9 #[v] w1 fun e w' => e = .returned (.int .i64 ((sumN D n : Nat) : Int)) ∧ w' = w1) := hide fun v w1 h => sum_is D v n w1 h hD
  have c5 : Hid (∀ w1, Below w.heap.size w w1 → Calls Try.prog 10 #[.slice p n cap] w1 fun e w' => e = .returned (.int .i64 ((sumN D n : Nat) : Int)) ∧ w' = w1) := hide fun w1 h => refCrc_is D _ n w1 (Sl.below hb h (Nat.le_refl _)) hD
  have c6 : Hid (∀ v w1, Bs w1 v n D → Calls Try.prog 12 #[v] w1 fun e w' => ∃ v', e = .returned v' ∧ Bs w' v' (n + 4) (sealD D n (sumN D n)) ∧ Below w1.heap.size w1 w') := by
    refine hide fun v w1 h => (seal_is D v n w1 h hD (by omega)).mono ?_
    rintro e w' ⟨rfl, o, bl⟩
    exact ⟨_, rfl, bs_of_owns o, bl⟩
  have c7 : Hid (∀ w1, Below w.heap.size w w1 → Calls Try.prog 13 #[.slice p n cap] w1 fun e w' => ∃ v', e = .returned v' ∧ Bs w' v' (n + 4) (sealD D n (sumN D n)) ∧ Below w1.heap.size w1 w') := by
    refine hide fun w1 h => (refSeal_is D _ n w1 (Sl.below hb h (Nat.le_refl _)) hD (by omega)).mono ?_
    rintro e w' ⟨v', rfl, o, bl⟩
    exact ⟨v', rfl, bs_of_owns o, bl⟩
  have c8 : Hid (∀ va vb w1, Bs w1 va (n + 4) (sealD D n (sumN D n)) → Bs w1 vb (n + 4) (sealD D n (sumN D n)) → Calls Try.prog 11 #[va, vb] w1 fun e w' => e = .returned (.bool true) ∧ Below w1.heap.size w1 w') := hide fun va vb w1 h1 h2 => bytes_b _ va vb _ w1 h1 h2
  have c9 : Hid (∀ va vb w1, Bs w1 va k D → Bs w1 vb k D → Calls Try.prog 11 #[va, vb] w1 fun e w' => e = .returned (.bool true) ∧ Below w1.heap.size w1 w') := hide fun va vb w1 h1 h2 => bytes_b _ va vb _ w1 h1 h2
  have c10 : Hid (∀ va w1, Below w.heap.size w w1 → Bs w1 va n D → Calls Try.prog 11 #[va, .slice p n cap] w1 fun e w' => e = .returned (.bool true) ∧ Below w1.heap.size w1 w') := hide fun va w1 h h1 => bytes_b _ va _ _ w1 h1 (Sl.below hb h (Nat.le_refl _))
  have d1 : decide ((400 : Int) < (n : Int)) = false := decide_eq_false (by omega)
  clear hb hD hO hP
  generalize sealD D n (sumN D n) = F at *
  generalize sumN D n = S at *
  have m1 := trivial
  have m2 := trivial
  go_enter Try.func3, Try.ntmps3
  go_wp2_with (first
    | (go_at_call 6; refine (unhide c1).mono ?_; rintro e w1 ⟨v1, rfl, s1, b1⟩; have S1 := hide s1; have B1 := hide b1; clear s1 b1)
    | (go_at_call 7; refine (unhide c2 _ _ (unhide S1)).mono ?_; rintro e w2 ⟨v2, rfl, s2, b2⟩; have S2 := hide s2; replace S1 := hide (Sl.below (unhide S1) b2 (Nat.le_refl _)); replace B1 := hide (below_of (unhide B1) b2); clear s2 b2)
    | (go_at_call 8; refine (unhide c3 _ (unhide B1)).mono ?_; rintro e w3 ⟨v3, rfl, s3, b3⟩; have S3 := hide s3; replace S1 := hide (Sl.below (unhide S1) b3 (Nat.le_refl _)); replace S2 := hide (Sl.below (unhide S2) b3 (Nat.le_refl _)); replace B1 := hide (below_of (unhide B1) b3); clear s3 b3)
    | (go_at_call 9; refine (unhide c4 _ _ (unhide S1)).mono ?_; rintro e w4 ⟨rfl, hw⟩; obtain rfl := hw.symm)
    | (go_at_call 10; refine (unhide c5 _ (unhide B1)).mono ?_; rintro e w4 ⟨rfl, hw⟩; obtain rfl := hw.symm)
    | (go_at_call 12; refine (unhide c6 _ _ (unhide S1)).mono ?_; rintro e w5 ⟨v5, rfl, s5, b5⟩; have S5 := hide s5; replace S1 := hide (Sl.below (unhide S1) b5 (Nat.le_refl _)); replace S2 := hide (Sl.below (unhide S2) b5 (Nat.le_refl _)); replace S3 := hide (Sl.below (unhide S3) b5 (Nat.le_refl _)); replace B1 := hide (below_of (unhide B1) b5); clear s5 b5)
    | (go_at_call 13; refine (unhide c7 _ (unhide B1)).mono ?_; rintro e w6 ⟨v6, rfl, s6, b6⟩; have S6 := hide s6; replace S1 := hide (Sl.below (unhide S1) b6 (Nat.le_refl _)); replace S2 := hide (Sl.below (unhide S2) b6 (Nat.le_refl _)); replace S3 := hide (Sl.below (unhide S3) b6 (Nat.le_refl _)); replace S5 := hide (Sl.below (unhide S5) b6 (Nat.le_refl _)); replace B1 := hide (below_of (unhide B1) b6); clear s6 b6)
    | (clear m1; go_at_call 11; refine (unhide c8 _ _ _ (unhide S5) (unhide S6)).mono ?_; rintro e w7 ⟨rfl, b7⟩; replace S1 := hide (Sl.below (unhide S1) b7 (Nat.le_refl _)); replace S2 := hide (Sl.below (unhide S2) b7 (Nat.le_refl _)); replace S3 := hide (Sl.below (unhide S3) b7 (Nat.le_refl _)); replace B1 := hide (below_of (unhide B1) b7); clear b7)
    | (clear m2; go_at_call 11; refine (unhide c9 _ _ _ (unhide S2) (unhide S3)).mono ?_; rintro e w8 ⟨rfl, b8⟩; replace S1 := hide (Sl.below (unhide S1) b8 (Nat.le_refl _)); replace B1 := hide (below_of (unhide B1) b8); clear b8)
    | (go_at_call 11; refine (unhide c10 _ _ (unhide B1) (unhide S1)).mono ?_; rintro e w9 ⟨rfl, b9⟩; replace B1 := hide (below_of (unhide B1) b9); clear b9)
    | (go_at_call 14; refine (wakes_any _).mono ?_; rintro e w10 ⟨rfl, b10⟩; replace B1 := hide (below_of (unhide B1) b10); clear b10))
  go_ret
  exact ⟨rfl, unhide B1⟩
theorem exact_walk (p : Option Addr) (n cap : Nat) (zs : List Int) (w : World) (hb : IsRow .u8 w p n cap zs) :
    Calls Try.prog 3 #[.slice p n cap] w fun e w' => e = .returned (.bool true) ∧ Below w.heap.size w w' := by
  by_cases h : 400 < n
  · exact exact_long p n cap w hb.len h
  · exact exact_ok (rowD zs) p n cap w hb.bs (fun i _ => hb.lt i) (by omega)
end Go.Proofs.Ytfkhapliblnacaa
