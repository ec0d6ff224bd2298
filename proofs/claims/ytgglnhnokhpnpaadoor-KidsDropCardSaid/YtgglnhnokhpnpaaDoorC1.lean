/- Walks of the page's functions that bellwetherlaw03.RingExact calls. -/
import Derived.Test.YtgglnhnokhpnpaaDoorB4
namespace Go.Proofs.YtgglnhnokhpnpaaDoor
open Go.RowKit

theorem in_t (n lo hi : Int) (h1 : lo ≤ n) (h2 : n ≤ hi) (w : World) :
    Calls Tryd.prog 37 #[.int .i64 n, .int .i64 lo, .int .i64 hi] w fun e w' => e = .returned (.bool true) ∧ w' = w := by
  have h3 : decide (n ≤ hi) = true := decide_eq_true h2
  go_enter Tryd.func37, Tryd.ntmps37
  go_wp2
  go_ret
  exact ⟨by rw [← h3]; rfl, rfl⟩
theorem in_f (n lo hi : Int) (h : n < lo ∨ hi < n) (w : World) :
    Calls Tryd.prog 37 #[.int .i64 n, .int .i64 lo, .int .i64 hi] w fun e w' => e = .returned (.bool false) ∧ w' = w := by
  by_cases h1 : n < lo
  · clear h
    go_enter Tryd.func37, Tryd.ntmps37
    go_wp2
    go_ret
    exact ⟨rfl, rfl⟩
  · have h3 : decide (n ≤ hi) = false := decide_eq_false (by omega)
    have h4 : lo ≤ n := by omega
    clear h h1
    go_enter Tryd.func37, Tryd.ntmps37
    go_wp2
    go_ret
    exact ⟨by rw [← h3]; rfl, rfl⟩
theorem isnode_t (n : Int) (h : IsN n) (w : World) :
    Calls Tryd.prog 31 #[.int .i64 n] w fun e w' => e = .returned (.bool true) ∧ w' = w := by
  have c := hide (in_t n 0 7 h.1 (by have := h.2; omega))
  clear h
  go_enter Tryd.func31, Tryd.ntmps31
  go_wp2_with (go_at_call 37; refine (unhide c _).mono ?_; rintro e w1 ⟨rfl, rfl⟩)
  go_ret
  exact ⟨rfl, rfl⟩
theorem isnode_f (n : Int) (h : ¬ IsN n) (w : World) :
    Calls Tryd.prog 31 #[.int .i64 n] w fun e w' => e = .returned (.bool false) ∧ w' = w := by
  have c := hide (in_f n 0 7 (by unfold IsN at h; omega))
  clear h
  go_enter Tryd.func31, Tryd.ntmps31
  go_wp2_with (go_at_call 37; refine (unhide c _).mono ?_; rintro e w1 ⟨rfl, rfl⟩)
  go_ret
  exact ⟨rfl, rfl⟩
theorem istopic_t (n : Int) (h : IsT n) (w : World) :
    Calls Tryd.prog 25 #[.int .i64 n] w fun e w' => e = .returned (.bool true) ∧ w' = w := by
  have c := hide (in_t n 0 3 h.1 (by have := h.2; omega))
  clear h
  go_enter Tryd.func25, Tryd.ntmps25
  go_wp2_with (go_at_call 37; refine (unhide c _).mono ?_; rintro e w1 ⟨rfl, rfl⟩)
  go_ret
  exact ⟨rfl, rfl⟩
theorem istopic_f (n : Int) (h : ¬ IsT n) (w : World) :
    Calls Tryd.prog 25 #[.int .i64 n] w fun e w' => e = .returned (.bool false) ∧ w' = w := by
  have c := hide (in_f n 0 3 (by unfold IsT at h; omega))
  clear h
  go_enter Tryd.func25, Tryd.ntmps25
  go_wp2_with (go_at_call 37; refine (unhide c _).mono ?_; rintro e w1 ⟨rfl, rfl⟩)
  go_ret
  exact ⟨rfl, rfl⟩

theorem rnode_nat (n : Nat) (h : n < 8) (w : World) :
    Calls Tryd.prog 49 #[.int .i64 n] w fun e w' => e = .returned (.int .i64 (nodeL.getD n 0)) ∧ Below w.heap.size w w' := by
  have hb : ∀ o, Below w.heap.size w (w.alloc o) := fun o => (Below.refl _ _).alloc (Nat.le_refl _) o
  match n, h with
  | 0, _ | 1, _ | 2, _ | 3, _ | 4, _ | 5, _ | 6, _ | 7, _ =>
    go_enter Tryd.func49, Tryd.ntmps49
    go_wp2
    go_ret
    exact ⟨rfl, hb _⟩
theorem rtopic_nat (n : Nat) (h : n < 4) (w : World) :
    Calls Tryd.prog 48 #[.int .i64 n] w fun e w' => e = .returned (.int .i64 (topicL.getD n 0)) ∧ Below w.heap.size w w' := by
  have hb : ∀ o, Below w.heap.size w (w.alloc o) := fun o => (Below.refl _ _).alloc (Nat.le_refl _) o
  match n, h with
  | 0, _ | 1, _ | 2, _ | 3, _ =>
    go_enter Tryd.func48, Tryd.ntmps48
    go_wp2
    go_ret
    exact ⟨rfl, hb _⟩
theorem rnode_is (n : Int) (h : IsN n) (w : World) :
    Calls Tryd.prog 49 #[.int .i64 n] w fun e w' => e = .returned (.int .i64 (nk n)) ∧ Below w.heap.size w w' := by
  obtain ⟨h1, h2⟩ := h
  obtain ⟨m, rfl⟩ := Int.eq_ofNat_of_zero_le h1
  exact rnode_nat m (by omega) w
theorem rtopic_is (n : Int) (h : IsT n) (w : World) :
    Calls Tryd.prog 48 #[.int .i64 n] w fun e w' => e = .returned (.int .i64 (tk n)) ∧ Below w.heap.size w w' := by
  obtain ⟨h1, h2⟩ := h
  obtain ⟨m, rfl⟩ := Int.eq_ofNat_of_zero_le h1
  exact rtopic_nat m (by omega) w
theorem rbehind_is (k n : Int) (hk : Key k) (hn : Key n) (w : World) :
    Calls Tryd.prog 47 #[.int .i64 k, .int .i64 n] w fun e w' => e = .returned (.int .i64 ((n - k) % 4611686018427387904)) ∧ w' = w := by
  obtain ⟨hk1, hk2⟩ := hk
  obtain ⟨hn1, hn2⟩ := hn
  by_cases h : n < k
  · have he : (n - k) % 4611686018427387904 = 4611686018427387904 - (k - n) := by omega
    rw [he]
    clear he
    go_enter Tryd.func47, Tryd.ntmps47
    go_wp2
    go_ret
    exact ⟨rfl, rfl⟩
  · have he : (n - k) % 4611686018427387904 = n - k := by omega
    rw [he]
    clear he
    go_enter Tryd.func47, Tryd.ntmps47
    go_wp2
    go_ret
    exact ⟨rfl, rfl⟩
theorem rgap_is (t n : Int) (ht : IsT t) (hn : IsN n) (w : World) :
    Calls Tryd.prog 40 #[.int .i64 t, .int .i64 n] w fun e w' => e = .returned (.int .i64 (gp t n)) ∧ Below w.heap.size w w' := by
  have kt := tk_key t ht
  have kn := nk_key n hn
  have c1 := hide (rtopic_is t ht)
  have c2 := hide (rnode_is n hn)
  have c3 := hide (rbehind_is _ _ kt kn)
  have hg : gp t n = (nk n - tk t) % 4611686018427387904 := rfl
  rw [← hg] at c3
  clear hg kt kn ht hn
  generalize gp t n = g at *
  generalize tk t = T at *
  generalize nk n = N at *
  go_enter Tryd.func40, Tryd.ntmps40
  go_wp2_with (first
    | (go_at_call 48; refine (unhide c1 _).mono ?_; rintro e w1 ⟨rfl, hb⟩; have B1 := hide hb; clear hb)
    | (go_at_call 49; refine (unhide c2 _).mono ?_; rintro e w2 ⟨rfl, hb⟩; have B2 := hide ((unhide B1).trans (hb.mono (unhide B1).size)); clear hb)
    | (go_at_call 47; refine (unhide c3 _).mono ?_; rintro e w2 ⟨rfl, rfl⟩))
  go_ret
  exact ⟨rfl, unhide B2⟩

/-- Whether a is nearer, of whatever numbers. -/
def nb (t a b : Int) : Bool := decide (IsT t ∧ IsN a ∧ IsN b ∧ gp t a < gp t b)
theorem nearer_nb (t a b : Int) (w : World) (hG : Glob w) :
    Calls Tryd.prog 24 #[.int .i64 t, .int .i64 a, .int .i64 b] w fun e w' => e = .returned (.bool (nb t a b)) ∧ w' = w := by
  by_cases h : IsT t ∧ IsN a ∧ IsN b
  · obtain ⟨h1, h2, h3⟩ := h
    have : nb t a b = decide (gp t a < gp t b) := decide_eq_decide.2 ⟨fun q => q.2.2.2, fun q => ⟨h1, h2, h3, q⟩⟩
    rw [this]
    exact nearer_any t a b h1 h2 h3 w hG
  · have : nb t a b = false := decide_eq_false fun q => h ⟨q.1, q.2.1, q.2.2.1⟩
    rw [this]
    refine nearer_no t a b ?_ w hG
    by_cases h1 : IsT t
    · by_cases h2 : IsN a
      · exact .inr (.inr fun h3 => h ⟨h1, h2, h3⟩)
      · exact .inr (.inl h2)
    · exact .inl h1
theorem rnearer_in (t a b : Int) (ht : IsT t) (ha : IsN a) (hb : IsN b) (w : World) :
    Calls Tryd.prog 33 #[.int .i64 t, .int .i64 a, .int .i64 b] w fun e w' => e = .returned (.bool (decide (gp t a < gp t b))) ∧ Below w.heap.size w w' := by
  have c1 := hide (istopic_t t ht)
  have c2 := hide (isnode_t a ha)
  have c3 := hide (isnode_t b hb)
  have c4 := hide (rgap_is t a ht ha)
  have c5 := hide (rgap_is t b ht hb)
  clear ht ha hb
  generalize gp t a = x at *
  generalize gp t b = y at *
  have m1 := trivial
  have m2 := trivial
  go_enter Tryd.func33, Tryd.ntmps33
  go_wp2_with (first
    | (go_at_call 25; refine (unhide c1 _).mono ?_; rintro e w1 ⟨rfl, rfl⟩)
    | (clear m1; go_at_call 31; refine (unhide c2 _).mono ?_; rintro e w1 ⟨rfl, rfl⟩)
    | (go_at_call 31; refine (unhide c3 _).mono ?_; rintro e w1 ⟨rfl, rfl⟩)
    | (clear m2; go_at_call 40; refine (unhide c4 _).mono ?_; rintro e w2 ⟨rfl, hb⟩; have B1 := hide hb; clear hb)
    | (go_at_call 40; refine (unhide c5 _).mono ?_; rintro e w3 ⟨rfl, hb⟩; have B2 := hide ((unhide B1).trans (hb.mono (unhide B1).size)); clear hb))
  go_ret
  exact ⟨rfl, unhide B2⟩
theorem rnearer_no1 (t a b : Int) (ht : ¬ IsT t) (w : World) :
    Calls Tryd.prog 33 #[.int .i64 t, .int .i64 a, .int .i64 b] w fun e w' => e = .returned (.bool false) ∧ w' = w := by
  have c1 := hide (istopic_f t ht)
  go_enter Tryd.func33, Tryd.ntmps33
  go_wp2_with (first
    | (go_at_call 25; refine (unhide c1 _).mono ?_; rintro e w1 ⟨rfl, rfl⟩))
  go_ret
  exact ⟨rfl, rfl⟩
theorem rnearer_no2 (t a b : Int) (ht : IsT t) (ha : ¬ IsN a) (w : World) :
    Calls Tryd.prog 33 #[.int .i64 t, .int .i64 a, .int .i64 b] w fun e w' => e = .returned (.bool false) ∧ w' = w := by
  have c1 := hide (istopic_t t ht)
  have c2 := hide (isnode_f a ha)
  go_enter Tryd.func33, Tryd.ntmps33
  go_wp2_with (first
    | (go_at_call 25; refine (unhide c1 _).mono ?_; rintro e w1 ⟨rfl, rfl⟩)
    | (go_at_call 31; refine (unhide c2 _).mono ?_; rintro e w1 ⟨rfl, rfl⟩))
  go_ret
  exact ⟨rfl, rfl⟩
theorem rnearer_no3 (t a b : Int) (ht : IsT t) (ha : IsN a) (hb : ¬ IsN b) (w : World) :
    Calls Tryd.prog 33 #[.int .i64 t, .int .i64 a, .int .i64 b] w fun e w' => e = .returned (.bool false) ∧ w' = w := by
  have c1 := hide (istopic_t t ht)
  have c2 := hide (isnode_t a ha)
  have c3 := hide (isnode_f b hb)
  have m1 := trivial
  go_enter Tryd.func33, Tryd.ntmps33
  go_wp2_with (first
    | (go_at_call 25; refine (unhide c1 _).mono ?_; rintro e w1 ⟨rfl, rfl⟩)
    | (clear m1; go_at_call 31; refine (unhide c2 _).mono ?_; rintro e w1 ⟨rfl, rfl⟩)
    | (go_at_call 31; refine (unhide c3 _).mono ?_; rintro e w1 ⟨rfl, rfl⟩))
  go_ret
  exact ⟨rfl, rfl⟩
theorem rnearer_nb (t a b : Int) (w : World) :
    Calls Tryd.prog 33 #[.int .i64 t, .int .i64 a, .int .i64 b] w fun e w' => e = .returned (.bool (nb t a b)) ∧ Below w.heap.size w w' := by
  have lift : ∀ {x : Bool}, (Calls Tryd.prog 33 #[.int .i64 t, .int .i64 a, .int .i64 b] w fun e w' => e = .returned (.bool x) ∧ w' = w) → Calls Tryd.prog 33 #[.int .i64 t, .int .i64 a, .int .i64 b] w fun e w' => e = .returned (.bool x) ∧ Below w.heap.size w w' := fun h => h.mono fun e w' q => ⟨q.1, q.2 ▸ Below.refl _ _⟩
  by_cases h1 : IsT t
  · by_cases h2 : IsN a
    · by_cases h3 : IsN b
      · have : nb t a b = decide (gp t a < gp t b) := decide_eq_decide.2 ⟨fun q => q.2.2.2, fun q => ⟨h1, h2, h3, q⟩⟩
        rw [this]
        exact rnearer_in t a b h1 h2 h3 w
      · rw [show nb t a b = false from decide_eq_false fun q => h3 q.2.2.1]
        exact lift (rnearer_no3 t a b h1 h2 h3 w)
    · rw [show nb t a b = false from decide_eq_false fun q => h2 q.2.1]
      exact lift (rnearer_no2 t a b h1 h2 w)
  · rw [show nb t a b = false from decide_eq_false fun q => h1 q.1]
    exact lift (rnearer_no1 t a b h1 w)
end Go.Proofs.YtgglnhnokhpnpaaDoor
