/- Walk of the page's Decode, all ways. Both Decodes of the same bytes; keep.Msg of the same. -/
import Derived.Test.YtmcmiojidgdjpaaBn37
namespace Go.Proofs.Ytmcmiojidgdjpaa
open Go.RowKit

theorem ropen_ok (D : Nat → Nat) (p : Option Addr) (m cap : Nat) (w : World) (hv : Cr.Bs w (.slice p (m + 4) cap) (m + 4) D) (hD : ∀ i, i < m + 4 → D i < 256) (hm : m + 4 ≤ 100000) (hs : Cr.sumN D m = Cr.le4 D m) : Hid (ROpenOk D (.slice p (m + 4) cap) m w) := by
  refine hide fun w1 hb => (Cr.refOpen_any D _ (m + 4) m w1 (bs_below hv hb) hD hm rfl).mono ?_
  rintro e w' ⟨b, ⟨h, _⟩ | ⟨_, v', rfl, s⟩⟩
  · exact absurd hs h
  · obtain ⟨q, c, rfl, _, _⟩ := Sl.shape s
    exact ⟨q, c, rfl, s, b⟩
/-- What the page's ints answers, in one word. -/
theorem ints_any2 (D : Nat → Nat) (M : Nat) (a : Int) (hD : ∀ i, i < M → D i < 256) (hM : M ≤ 1000) : ∃ (F : Nat → Int) (n : Nat) (t : Int), n ≤ 1000 ∧
    ((∃ x : Nat, a = x ∧ x < M ∧ x + 1 + D x ≤ M ∧ n = D x ∧ F = (fun i => E D (x + 1 + i)) ∧ t = ((x + 1 + D x : Nat) : Int)) ∨ (¬ (∃ x : Nat, a = x ∧ x < M ∧ x + 1 + D x ≤ M) ∧ t = -1)) ∧
    ∀ v w1, Cr.Bs w1 v M D → Calls Try.prog 28 #[v, .int .i64 a] w1 fun e w' => ∃ q f, e = .returned (.tuple #[.slice q n f, .int .i64 t]) ∧ w'.ownsRow w1.heap.size 3 1 (.slice q n f) n (vL .i64 F n) ∧ Below w1.heap.size w1 w' := by
  by_cases h : ∃ x : Nat, a = x ∧ x < M ∧ x + 1 + D x ≤ M
  · obtain ⟨x, rfl, h1, h2⟩ := h
    refine ⟨fun i => E D (x + 1 + i), D x, _, by have := hD x h1; omega, .inl ⟨x, rfl, h1, h2, rfl, rfl, rfl⟩, fun v w1 hs => (rints_is D v M x w1 hs hD hM h1 h2).mono ?_⟩
    rintro e w' ⟨v', rfl, o, b⟩
    obtain ⟨q, f, rfl⟩ := owns_shape o
    exact ⟨q, f, rfl, o, b⟩
  · refine ⟨noF, 0, -1, by omega, .inr ⟨h, rfl⟩, fun v w1 hs => ?_⟩
    have nil : ∀ (e : Ending) (w' : World), (e = .returned (.tuple #[.slice none 0 0, .int .i64 (-1)]) ∧ w' = w1) → ∃ q f, e = .returned (.tuple #[.slice q 0 f, .int .i64 (-1)]) ∧ w'.ownsRow w1.heap.size 3 1 (.slice q 0 f) 0 (vL .i64 noF 0) ∧ Below w1.heap.size w1 w' := by
      rintro e w' ⟨rfl, rfl⟩
      exact ⟨none, 0, rfl, World.ownsRow_nil _ _ _ _, Below.refl _ _⟩
    by_cases h0 : a < 0 ∨ 0 ≤ a ∧ (M : Int) ≤ a
    · obtain ⟨p, c, rfl, _, _⟩ := Sl.shape hs
      exact (rints_low a p M c w1 h0).mono nil
    · obtain ⟨x, rfl⟩ : ∃ x : Nat, a = x := ⟨a.toNat, by omega⟩
      exact (rints_cut D v M x w1 hs hD hM (by omega) (fun q => h ⟨x, rfl, by omega, q⟩)).mono nil
theorem rdec_rest (D : Nat → Nat) (p : Option Addr) (m cap : Nat) (w : World) (hN : m + 4 ≤ 80) (hv : Cr.Bs w (.slice p (m + 4) cap) (m + 4) D) (hD : ∀ i, i < m + 4 → D i < 256) (hs : Cr.sumN D m = Cr.le4 D m) (h42 : 42 ≤ m) (R : Ending → World → Prop)
    (r3 : wholeB D m = false → ∀ e w', Bad 3 w e w' → R e w') (r5 : wholeB D m = true → rdB D = false → ∀ e w', Bad 5 w e w' → R e w')
    (r0 : wholeB D m = true → rdB D = true → ∀ e w', FinS (rdM (E D)) (fun i => E D (43 + i)) (fun i => E D (44 + D 42 + i)) (D 42) (D (43 + D 42)) w e w' → R e w') : Calls Try.prog 12 #[.slice p (m + 4) cap] w R := by
  have hDm : ∀ i, i < m → D i < 256 := fun i hi => hD i (by omega)
  obtain ⟨F, n, t1, hn, hF, L1⟩ := ints_any2 D m 42 hDm (by omega)
  obtain ⟨G, k, t2, hk, hG, L2⟩ := ints_any2 D m t1 hDm (by omega)
  have four : ∀ j, j < 14 → j ≠ 6 → ∀ b off c, NumC D b off m c j (gN (E D) j) true := by
    intro j hj h6 b off c
    have hl := wst_le j hj
    have hlt : gN (E D) j < 4611686018427387904 := by
      have hb := (Co.num_bd (E D) (wst j) (wsz j) (fun i hi => by have := hD (wst j + i) (by omega); unfold E; omega)).2
      have hz := wsz_14 j hj h6
      unfold gN
      rcases hz with hz | hz <;> rw [hz] at hb ⊢
      · exact Int.lt_trans hb (by decide)
      · exact Int.lt_trans hb (by decide)
    have q := num_any D b off m c j hj (by omega) hDm
    rwa [if_pos hlt, decide_eq_true hlt] at q
  have one : ∀ j, j < 14 → wsz j = 1 → gN (E D) j = (D (wst j) : Int) := by
    intro j hj h1
    unfold gN
    rw [h1]
    show Co.num (E D) (wst j) 0 * 256 + E D (wst j + 0) = _
    show 0 * 256 + E D (wst j + 0) = _
    unfold E
    rw [Nat.add_zero]
    omega
  have six := fun b off c => num_any D b off m c 6 (by omega) (show 12 + 8 ≤ m by omega) hDm
  refine rdec_main D p (m + 4) m cap w hN h42 (by omega) (ropen_ok D p m cap w hv hD (by omega) hs) (D 0) (D 1) (D 2) (D 3) (D 32) (D 41) rfl rfl rfl rfl rfl rfl hDm _ _ _ _ _ _ _ _ _ six (four 4 (by omega) (by omega)) (four 5 (by omega) (by omega)) (four 7 (by omega) (by omega)) (four 8 (by omega) (by omega)) (four 9 (by omega) (by omega)) (four 11 (by omega) (by omega)) (four 12 (by omega) (by omega)) F G n k t1 t2 hn hk (hide L1) (hide L2) R ?_
  by_cases h6 : gN (E D) 6 < 4611686018427387904
  · rw [if_pos h6, decide_eq_true h6]
    have em : (⟨(D 0 : Int), (D 1 : Int), gN (E D) 4, (D 2 : Int), gN (E D) 5, (D 3 : Int), gN (E D) 6, gN (E D) 7, gN (E D) 8, gN (E D) 9, (D 32 : Int), gN (E D) 11, gN (E D) 12, (D 41 : Int)⟩ : Mg) = rdM (E D) := by
      unfold rdM
      rw [one 0 (by omega) rfl, one 1 (by omega) rfl, one 2 (by omega) rfl, one 3 (by omega) rfl, one 10 (by omega) rfl, one 13 (by omega) rfl]
      rfl
    rw [em]
    by_cases ht : t2 = m
    · right
      rcases hG with ⟨x, hx, h1, h2, rfl, rfl, h3⟩ | ⟨_, h3⟩
      · rcases hF with ⟨y, hy, h4, h5, rfl, rfl, h6'⟩ | ⟨_, h6'⟩
        · obtain rfl : y = 42 := by omega
          obtain rfl : x = 43 + D 42 := by omega
          have hw : wholeB D m = true := (wholeB_iff D m).2 ⟨h6, by omega⟩
          have eF : (fun i => E D (43 + D 42 + 1 + i)) = fun i => E D (44 + D 42 + i) := by
            funext i
            rw [show 43 + D 42 + 1 + i = 44 + D 42 + i by omega]
          rw [eF]
          cases hr : rdB D with
          | false => exact .inl ⟨rfl, ht, hr, r5 hw hr⟩
          | true => exact .inr ⟨rfl, ht, hr, r0 hw hr⟩
        · omega
      · omega
    · refine .inl ⟨.inr ⟨rfl, ht⟩, r3 ?_⟩
      cases hw : wholeB D m with
      | false => rfl
      | true =>
        have hW := ((wholeB_iff D m).1 hw).2
        exfalso
        rcases hF with ⟨y, hy, h4, h5, _, _, h6'⟩ | ⟨h, _⟩
        · obtain rfl : y = 42 := by omega
          rcases hG with ⟨x, hx, h1, h2, _, _, h3⟩ | ⟨h, _⟩
          · obtain rfl : x = 43 + D 42 := by omega
            omega
          · exact h ⟨43 + D 42, by omega, by omega, by omega⟩
        · exact h ⟨42, rfl, by omega, by omega⟩
  · rw [decide_eq_false h6]
    refine .inl ⟨.inl rfl, r3 ?_⟩
    cases hw : wholeB D m with
    | false => rfl
    | true => exact absurd ((wholeB_iff D m).1 hw).1 h6
theorem rdec_bad (D : Nat → Nat) (v : Value) (N : Nat) (w : World) (hv : Cr.Bs w v N D) (hD : ∀ i, i < N → D i < 256) (c : Int) (hc : decC D N = c) (h0 : c ≠ 0) : Calls Try.prog 12 #[v] w (Bad c w) := by
  obtain ⟨p, cap, rfl, l1, l2⟩ := Sl.shape hv
  subst hc
  unfold decC at h0 ⊢
  by_cases h80 : 80 < N
  · rw [if_pos h80]
    exact rdec_long p N cap w h80 (by omega)
  · rw [if_neg h80] at h0 ⊢
    by_cases h4 : N < 4
    · rw [if_pos h4] at h0 ⊢
      refine rdec_shut p N cap 2 w (by omega) h0 (hide fun w1 _ => (Cr.refOpen_short p N cap h4 w1).mono ?_)
      rintro e w' ⟨rfl, rfl⟩
      exact ⟨rfl, Below.refl _ _⟩
    · rw [if_neg h4] at h0 ⊢
      obtain ⟨m, rfl⟩ : ∃ m, N = m + 4 := ⟨N - 4, by omega⟩
      rw [Nat.add_sub_cancel] at h0 ⊢
      by_cases hs : Cr.sumN D m = Cr.le4 D m
      · rw [if_pos hs] at h0 ⊢
        by_cases h42 : 42 ≤ m
        · refine rdec_rest D p m cap w (by omega) hv hD hs h42 _ ?_ ?_ ?_
          · intro hw e w' hb
            rwa [hw, if_neg (by decide)]
          · intro hw hr e w' hb
            rwa [hw, hr, if_pos rfl, if_neg (by decide)]
          · intro hw hr
            rw [hw, hr, if_pos rfl, if_pos rfl] at h0
            exact absurd rfl h0
        · have hw : wholeB D m = false := by
            cases hw : wholeB D m with
            | false => rfl
            | true =>
              have := ((wholeB_iff D m).1 hw).2
              omega
          rw [hw, if_neg (by decide)]
          exact rdec_small D p (m + 4) m cap w (by omega) (by omega) (ropen_ok D p m cap w hv hD (by omega) hs)
      · rw [if_neg hs] at h0 ⊢
        refine rdec_shut p (m + 4) cap 4 w (by omega) h0 (hide fun w1 hb => (Cr.refOpen_any D _ (m + 4) m w1 (bs_below hv hb) hD (by omega) rfl).mono ?_)
        rintro e w' ⟨b, ⟨_, rfl⟩ | ⟨h, _⟩⟩
        · exact ⟨rfl, b⟩
        · exact absurd h hs
theorem rdec_ok (D : Nat → Nat) (v : Value) (N : Nat) (w : World) (hv : Cr.Bs w v N D) (hD : ∀ i, i < N → D i < 256) (hc : decC D N = 0) : Calls Try.prog 12 #[v] w (FinS (rdM (E D)) (fun i => E D (43 + i)) (fun i => E D (44 + D 42 + i)) (D 42) (D (43 + D 42)) w) := by
  obtain ⟨p, cap, rfl, l1, l2⟩ := Sl.shape hv
  obtain ⟨m, rfl, h80, hs, hW, hr⟩ := decC_ok D N hc
  have hw := (wholeB_iff D m).2 hW
  have h2 := hW.2
  refine rdec_rest D p m cap w (by omega) hv hD hs (by omega) _ ?_ ?_ ?_
  · intro h
    rw [hw] at h
    cases h
  · intro _ h
    rw [hr] at h
    cases h
  · intro _ _ e w' h
    exact h
end Go.Proofs.Ytmcmiojidgdjpaa
namespace Go.Proofs.Ytmcmiojidgdjpaa
open Go.RowKit

theorem keep_same (m : Mg) (F G : Nat → Int) (va vb vc vd : Value) (n k : Nat) (w : World) (h1 : Sl .i64 w va n F) (h2 : Sl .i64 w vb k G) (h3 : Sl .i64 w vc n F) (h4 : Sl .i64 w vd k G) : Calls Try.prog 13 #[mv m va vb, mv m vc vd] w fun e w' => e = .returned (.bool true) ∧ Below w.heap.size w w' := by
  have z := keepMsg_any m m F G F G va vb vc vd n k n k w h1 h2 h3 h4
  rwa [(same_iff m m F G F G n k n k).2 ⟨rfl, rfl, rfl, fun _ _ => rfl, fun _ _ => rfl⟩] at z
/-- What both Decodes answer. -/
theorem both_dec (D : Nat → Nat) (N : Nat) (hD : ∀ i, i < N → D i < 256) (_ : N ≤ 200) : ∃ (M : Mg) (F G : Nat → Int) (n k : Nat) (c : Int),
    (∀ v w, Cr.Bs w v N D → Calls Try.prog 11 #[v] w fun e w' => ∃ q f r d, e = .returned (.tuple #[mv M (.slice q n f) (.slice r k d), .int .i64 c]) ∧ Sl .i64 w' (.slice q n f) n F ∧ Sl .i64 w' (.slice r k d) k G ∧ Below w.heap.size w w') ∧
    (∀ v w, Cr.Bs w v N D → Calls Try.prog 12 #[v] w fun e w' => ∃ q f r d, e = .returned (.tuple #[mv M (.slice q n f) (.slice r k d), .int .i64 c]) ∧ Sl .i64 w' (.slice q n f) n F ∧ Sl .i64 w' (.slice r k d) k G ∧ Below w.heap.size w w') := by
  by_cases h0 : decC D N = 0
  · refine ⟨_, _, _, _, _, 0, fun v w hv => (dec_ok D v N w hv hD h0).mono ?_, fun v w hv => rdec_ok D v N w hv hD h0⟩
    rintro e w' ⟨q, f, r, d, rfl, o1, o2, b⟩
    exact ⟨q, f, r, d, rfl, sl_of_owns o1, sl_of_owns o2, b⟩
  · refine ⟨zeroM, noF, noF, 0, 0, decC D N, fun v w hv => (dec_bad D v N w hv hD _ rfl h0).mono ?_, fun v w hv => (rdec_bad D v N w hv hD _ rfl h0).mono ?_⟩
    · rintro e w' ⟨rfl, b⟩
      exact ⟨none, 0, none, 0, rfl, sl_nil _, sl_nil _, b⟩
    · rintro e w' ⟨rfl, b⟩
      exact ⟨none, 0, none, 0, rfl, sl_nil _, sl_nil _, b⟩
end Go.Proofs.Ytmcmiojidgdjpaa
