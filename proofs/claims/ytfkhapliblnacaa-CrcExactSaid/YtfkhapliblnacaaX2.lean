/- Walks of the page's Open; both Opens of the same bytes. -/
import Derived.Test.YtfkhapliblnacaaX1
namespace Go.Proofs.Ytfkhapliblnacaa
open Go.RowKit

/-- All right, or a first one that is not. -/
theorem first_bad (P : Nat → Prop) [DecidablePred P] (n : Nat) : (∀ i, i < n → P i) ∨ ∃ j, j < n ∧ (∀ i, i < j → P i) ∧ ¬ P j := by
  induction n with
  | zero => exact .inl fun i hi => by omega
  | succ n ih =>
    rcases ih with h | ⟨j, h1, h2, h3⟩
    · by_cases hp : P n
      · exact .inl fun i hi => by
          by_cases e : i < n
          · exact h i e
          · obtain rfl : i = n := by omega
            exact hp
      · exact .inr ⟨n, by omega, h, hp⟩
    · exact .inr ⟨j, by omega, h2, h3⟩
theorem bytes_f (F G : Nat → Nat) (va vb : Value) (n : Nat) (w : World) (ha : Bs w va n F) (hb : Bs w vb n G) (h : ¬ ∀ i, i < n → F i = G i) :
    Calls Try.prog 11 #[va, vb] w fun e w' => e = .returned (.bool false) ∧ Below w.heap.size w w' := by
  rcases first_bad (fun i => F i = G i) n with h2 | ⟨j, h1, h2, h3⟩
  · exact absurd h2 h
  · refine (bytes_d _ _ va vb n j w ha hb h1 (fun i hi => by show (F i : Int) = (G i : Int); rw [h2 i hi]) (fun q => h3 (by exact Int.ofNat_inj.1 q))).mono ?_
    rintro e w' ⟨rfl, m, rfl⟩
    exact ⟨rfl, below_drewN (Below.refl _ _) m⟩
theorem seal_eq (D : Nat → Nat) (m S : Nat) (hD : ∀ i, i < m + 4 → D i < 256) (h : S = le4 D m) (i : Nat) (hi : i < m + 4) : sealD D m S i = D i := by
  unfold sealD
  by_cases e : i < m
  · rw [if_pos e]
  · rw [if_neg e]
    obtain ⟨j, rfl⟩ : ∃ j, i = m + j := ⟨i - m, by omega⟩
    rw [Nat.add_sub_cancel_left, h]
    have h0 := hD m (by omega)
    have h1 := hD (m + 1) (by omega)
    have h2 := hD (m + 2) (by omega)
    have h3 := hD (m + 3) (by omega)
    unfold le4
    match j, hi with
    | 0, _ =>
      simp only [Nat.mul_zero, Nat.pow_zero, Nat.div_one, Nat.add_zero]
      omega
    | 1, _ =>
      simp only [show 2 ^ (8 * 1) = 256 from rfl]
      omega
    | 2, _ =>
      simp only [show 2 ^ (8 * 2) = 65536 from rfl]
      omega
    | 3, _ =>
      simp only [show 2 ^ (8 * 3) = 16777216 from rfl]
      omega
    | j + 4, hi => omega
theorem refOpen_short (p : Option Addr) (n cap : Nat) (hn : n < 4) (w : World) :
    Calls Try.prog 8 #[.slice p n cap] w fun e w' => e = .returned (.tuple #[.slice none 0 0, .int .i64 2]) ∧ w' = w := by
  have d : decide ((n : Int) < 4) = true := decide_eq_true (by omega)
  go_enter Try.func8, Try.ntmps8
  go_wp2
  go_ret2
  exact ⟨rfl, rfl⟩
set_option maxRecDepth 100000 in
theorem refOpen_any (D : Nat → Nat) (v : Value) (n m : Nat) (w : World) (hv : Bs w v n D) (hD : ∀ i, i < n → D i < 256) (hn : n ≤ 100000) (hm : n = m + 4) :
    Calls Try.prog 8 #[v] w fun e w' => Below w.heap.size w w' ∧ ((sumN D m ≠ le4 D m ∧ e = .returned (.tuple #[.slice none 0 0, .int .i64 4])) ∨
      (sumN D m = le4 D m ∧ ∃ v', e = .returned (.tuple #[v', .int .i64 0]) ∧ Bs w' v' m D)) := by
  obtain ⟨p, cap, rfl, hc1, hc2⟩ := Sl.shape hv
  unfold maxLen at hc2
  obtain ⟨b, off, rfl, hb, hcell⟩ := Sl.some hv (by omega)
  have hT : Bs w (.slice (some ⟨b, off, none⟩) m cap) m D := .inr ⟨b, off, cap, rfl, by omega, hc2, hb, fun i h => hcell i (by omega)⟩
  have c1 : Hid (Calls Try.prog 13 #[.slice (some ⟨b, off, none⟩) m cap] w fun e w' => ∃ v', e = .returned v' ∧ Bs w' v' n (sealD D m (sumN D m)) ∧ Below w.heap.size w w') := by
    refine hide ((refSeal_is D _ m w hT (fun i hi => hD i (by omega)) (by omega)).mono ?_)
    rintro e w' ⟨v', rfl, o, bl⟩
    rw [hm]
    exact ⟨v', rfl, bs_of_owns o, bl⟩
  have c3 : Hid (∀ w1, Below w.heap.size w w1 → Calls Try.prog 6 #[.slice (some ⟨b, off, none⟩) m cap] w1 fun e w' => ∃ v', e = .returned v' ∧ Bs w' v' m D ∧ Below w1.heap.size w1 w') := by
    refine hide fun w1 h => (twin_any _ _ m w1 (Sl.below hT h (Nat.le_refl _)) (by omega)).mono ?_
    rintro e w' ⟨v', rfl, o, bl⟩
    exact ⟨v', rfl, sl_of_owns o, bl⟩
  have d : decide ((n : Int) < 4) = false := decide_eq_false (by omega)
  have e1 : (n : Int) - 4 = (m : Int) := by omega
  have i1 : (m : Int) ≤ (cap : Int) := by omega
  have i2 : m ≤ cap := by omega
  by_cases hSL : sumN D m = le4 D m
  · have c2 : Hid (∀ v w1, Below w.heap.size w w1 → Bs w1 v n (sealD D m (sumN D m)) → Calls Try.prog 11 #[v, .slice (some ⟨b, off, none⟩) n cap] w1 fun e w' => e = .returned (.bool true) ∧ Below w1.heap.size w1 w') := by
      refine hide fun v w1 h1 h2 => bytes_b _ v _ n w1 (Sl.congr h2 fun i hi => ?_) (Sl.below hv h1 (Nat.le_refl _))
      rw [seal_eq D m _ (by rw [← hm]; exact hD) hSL i (by omega)]
    have HSL := hide hSL
    clear hv hD hT hcell hm hSL
    generalize sealD D m (sumN D m) = F at *
    go_enter Try.func8, Try.ntmps8
    go_wp2_with (first
      | (go_at_call 13; refine (unhide c1).mono ?_; rintro e w1 ⟨v1, rfl, s1, b1⟩; have S1 := hide s1; have B1 := hide b1; clear s1 b1)
      | (go_at_call 11; refine (unhide c2 _ _ (unhide B1) (unhide S1)).mono ?_; rintro e w2 ⟨rfl, b2⟩; replace B1 := hide (below_of (unhide B1) b2); clear b2)
      | (go_at_call 6; refine (unhide c3 _ (unhide B1)).mono ?_; rintro e w3 ⟨v3, rfl, s3, b3⟩; have S3 := hide s3; replace B1 := hide (below_of (unhide B1) b3); clear s3 b3))
    go_ret2
    exact ⟨unhide B1, .inr ⟨unhide HSL, _, rfl, unhide S3⟩⟩
  · have c2 : Hid (∀ v w1, Below w.heap.size w w1 → Bs w1 v n (sealD D m (sumN D m)) → Calls Try.prog 11 #[v, .slice (some ⟨b, off, none⟩) n cap] w1 fun e w' => e = .returned (.bool false) ∧ Below w1.heap.size w1 w') := by
      refine hide fun v w1 h1 h2 => bytes_f _ D v _ n w1 h2 (Sl.below hv h1 (Nat.le_refl _)) fun q => hSL ?_
      have h4 := le4_seal D m (sumN D m) (sumN_lt fun i hi => hD i (by omega))
      rw [← h4]
      unfold le4
      rw [q m (by omega), q (m + 1) (by omega), q (m + 2) (by omega), q (m + 3) (by omega)]
    have HSL := hide hSL
    clear hv hD hT hcell hm hSL
    generalize sealD D m (sumN D m) = F at *
    go_enter Try.func8, Try.ntmps8
    go_wp2_with (first
      | (go_at_call 13; refine (unhide c1).mono ?_; rintro e w1 ⟨v1, rfl, s1, b1⟩; have S1 := hide s1; have B1 := hide b1; clear s1 b1)
      | (go_at_call 11; refine (unhide c2 _ _ (unhide B1) (unhide S1)).mono ?_; rintro e w2 ⟨rfl, b2⟩; replace B1 := hide (below_of (unhide B1) b2); clear b2))
    go_ret2
    exact ⟨unhide B1, .inl ⟨unhide HSL, rfl⟩⟩
/-- Both Opens answer the same. -/
theorem open_both (D : Nat → Nat) (n : Nat) (hD : ∀ i, i < n → D i < 256) (hn : n ≤ 100000) : ∃ (k : Nat) (c : Int),
    (∀ v w, Bs w v n D → Calls Try.prog 7 #[v] w fun e w' => ∃ v', e = .returned (.tuple #[v', .int .i64 c]) ∧ Bs w' v' k D ∧ Below w.heap.size w w') ∧
    (∀ v w, Bs w v n D → Calls Try.prog 8 #[v] w fun e w' => ∃ v', e = .returned (.tuple #[v', .int .i64 c]) ∧ Bs w' v' k D ∧ Below w.heap.size w w') := by
  by_cases h4 : n < 4
  · refine ⟨0, 2, fun v w hv => ?_, fun v w hv => ?_⟩
    · obtain ⟨p, cap, rfl, _, _⟩ := Sl.shape hv
      refine (open_short p n cap h4 w).mono ?_
      rintro e w' ⟨rfl, rfl⟩
      exact ⟨_, rfl, .inl ⟨rfl, .inl rfl⟩, Below.refl _ _⟩
    · obtain ⟨p, cap, rfl, _, _⟩ := Sl.shape hv
      refine (refOpen_short p n cap h4 w).mono ?_
      rintro e w' ⟨rfl, rfl⟩
      exact ⟨_, rfl, .inl ⟨rfl, .inl rfl⟩, Below.refl _ _⟩
  · obtain ⟨m, rfl⟩ : ∃ m, n = m + 4 := ⟨n - 4, by omega⟩
    by_cases h : sumN D m = le4 D m
    · refine ⟨m, 0, fun v w hv => ?_, fun v w hv => ?_⟩
      · refine (open_ok D v m w hv hD hn h).mono ?_
        rintro e w' ⟨v', rfl, o, b⟩
        exact ⟨v', rfl, bs_of_owns o, b⟩
      · refine (refOpen_any D v _ m w hv hD hn rfl).mono ?_
        rintro e w' ⟨hb, ⟨h2, _⟩ | ⟨_, v', rfl, s⟩⟩
        · exact absurd h h2
        · exact ⟨v', rfl, s, hb⟩
    · refine ⟨0, 4, fun v w hv => ?_, fun v w hv => ?_⟩
      · refine (open_bad D v m w hv hD hn h).mono ?_
        rintro e w' ⟨rfl, b⟩
        exact ⟨_, rfl, .inl ⟨rfl, .inl rfl⟩, b⟩
      · refine (refOpen_any D v _ m w hv hD hn rfl).mono ?_
        rintro e w' ⟨hb, ⟨_, rfl⟩ | ⟨h2, _⟩⟩
        · exact ⟨_, rfl, .inl ⟨rfl, .inl rfl⟩, hb⟩
        · exact absurd h2 h
end Go.Proofs.Ytfkhapliblnacaa
