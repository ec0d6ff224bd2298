/- joined of one list, of two; walks of Put, Twice. -/
import Derived.Test.YtpaeekpdchmfjaaA5
import Derived.Test.YtpaeekpdchmfjaaA6
import Derived.Test.YtpaeekpdchmfjaaA8
namespace Go.Proofs.Ytpaeekpdchmfjaa
open Go.RowKit

theorem joined2 (v0 v1 : Value) (n0 n1 : Nat) (X0 X1 : Nat → Fm) (b c : Nat) (w : World) (hc : 2 ≤ c) (hc2 : c ≤ 1000) (hb : b < w.heap.size) (c0 : w.cell? ⟨b, 0, none⟩ = some v0) (c1 : w.cell? ⟨b, 1, none⟩ = some v1) (f0 : Fs w v0 n0 X0) (f1 : Fs w v1 n1 X1)
    (hn : n0 + n1 ≤ 1000000) (hx0 : ∀ i, i < n0 → (X0 i).n ≤ 1000000) (hx1 : ∀ i, i < n1 → (X1 i).n ≤ 1000000) :
    Calls Try.prog 21 #[.slice (some ⟨b, 0, none⟩) 2 c] w fun e w' => ∃ v', e = .returned v' ∧ Own w' w.heap.size v' (n0 + n1) (cat X0 n0 X1) ∧ Below w.heap.size w w' := by
  obtain ⟨B0, s0, r0⟩ := f0.rw'
  obtain ⟨B1, s1, r1⟩ := f1.rw'
  refine joined_is _ (n0 + n1) (cat X0 n0 X1) (cat B0 n0 B1) w hn (fun i hi => ?_) ?_
  · by_cases q : i < n0
    · simp only [cat, if_pos q]
      exact ⟨hx0 i q, s0 i q⟩
    · simp only [cat, if_neg q]
      exact ⟨hx1 (i - n0) (by omega), s1 (i - n0) (by omega)⟩
  · refine (concat_any (fun j => if j = 0 then v0 else v1) (fun j => if j = 0 then n0 else n1) (fun j => if j = 0 then fL (fun i => (X0 i).t) B0 n0 else fL (fun i => (X1 i).t) B1 n1) b 0 2 c w hc hc2 hb (fun j hj => ?_) (fun j hj => ?_) (by simp [sm]; omega)).mono ?_
    · rcases (show j = 0 ∨ j = 1 by omega) with rfl | rfl
      · simpa using c0
      · simpa using c1
    · rcases (show j = 0 ∨ j = 1 by omega) with rfl | rfl
      · simpa using r0
      · simpa using r1
    · rintro e w' ⟨v', rfl, o, bl⟩
      simp only [sm, cl, if_true, Nat.zero_add, List.nil_append, if_neg (show ¬ (1 : Nat) = 0 by omega)] at o
      rw [fL_append] at o
      refine ⟨v', rfl, ?_, bl⟩
      rwa [fL_congr (T' := cat (fun i => (X0 i).t) n0 fun i => (X1 i).t) (B' := cat B0 n0 B1) (fun i hi => ⟨?_, rfl⟩)]
      unfold cat
      split <;> rfl
theorem joined1 (v0 : Value) (n0 : Nat) (X0 : Nat → Fm) (b c : Nat) (w : World) (hc : 1 ≤ c) (hc2 : c ≤ 1000) (hb : b < w.heap.size) (c0 : w.cell? ⟨b, 0, none⟩ = some v0) (f0 : Fs w v0 n0 X0)
    (hn : n0 ≤ 1000000) (hx0 : ∀ i, i < n0 → (X0 i).n ≤ 1000000) :
    Calls Try.prog 21 #[.slice (some ⟨b, 0, none⟩) 1 c] w fun e w' => ∃ v', e = .returned v' ∧ Own w' w.heap.size v' n0 X0 ∧ Below w.heap.size w w' := by
  obtain ⟨B0, s0, r0⟩ := f0.rw'
  refine joined_is _ n0 X0 B0 w hn (fun i hi => ⟨hx0 i hi, s0 i hi⟩) ?_
  refine (concat_any (fun _ => v0) (fun _ => n0) (fun _ => fL (fun i => (X0 i).t) B0 n0) b 0 1 c w hc hc2 hb (fun j hj => ?_) (fun j hj => r0) (by simp [sm]; omega)).mono ?_
  · obtain rfl : j = 0 := by omega
    simpa using c0
  · rintro e w' ⟨v', rfl, o, bl⟩
    simp only [sm, cl, Nat.zero_add, List.nil_append] at o
    exact ⟨v', rfl, o, bl⟩
theorem chk_zero {n : Nat} {X : Nat → Fm} (h : chk n X = 0) : n ≤ 300 ∧ ∀ i, i < n → 0 ≤ (X i).t ∧ (X i).t < 8 ∧ (X i).n ≤ 80 := by
  unfold chk at h
  by_cases h1 : 300 < n
  · rw [if_pos h1] at h; omega
  · rw [if_neg h1] at h
    by_cases h2 : aok X n = true
    · exact ⟨by omega, fun i hi => okB_iff.1 (aok_get h2 i hi)⟩
    · rw [if_neg h2] at h; omega
theorem chk_of {n : Nat} {X : Nat → Fm} (h1 : n ≤ 300) (h2 : ∀ i, i < n → 0 ≤ (X i).t ∧ (X i).t < 8 ∧ (X i).n ≤ 80) : chk n X = 0 := by
  unfold chk
  rw [if_neg (by omega), if_pos (aok_of fun i hi => okB_iff.2 (h2 i hi))]
/-- Put's error. -/
def putE (n : Nat) (X : Nat → Fm) (f : Fm) : Int := if chk n X ≠ 0 then chk n X else if okB f.t f.n = false then 1 else if n = 300 then 6 else 0
/-- X, and f behind. -/
def snoc (X : Nat → Fm) (n : Nat) (f : Fm) : Nat → Fm := cat X n fun _ => f
theorem fs_one (w : World) (f : Fm) (v : Value) (h : Sl .u8 w v f.n f.b) : Fs (w.alloc (.cells #[.int .i64 f.t, v] 25)) (.slice (some ⟨w.heap.size, 0, none⟩) 1 1) 1 (fun _ => f) := by
  refine .inr ⟨w.heap.size, 0, 1, fun _ => v, rfl, Nat.le_refl _, by decide, by simp, fun i hi => ?_⟩
  obtain rfl : i = 0 := by omega
  exact ⟨by simp, by simp, h.below (below_alloc (Below.refl w.heap.size w) _) (Nat.le_refl _)⟩
theorem put_join (l bv : Value) (n : Nat) (X : Nat → Fm) (f : Fm) (w : World) (hl : Fs w l n X) (hf : Sl .u8 w bv f.n f.b) (hn : n ≤ 300) (hx : ∀ i, i < n → (X i).n ≤ 80) (hfn : f.n ≤ 80) :
    Calls Try.prog 21 #[.slice (some ⟨w.heap.size + 1, 0, none⟩) 2 2] ((w.alloc (.cells #[.int .i64 f.t, bv] 25)).alloc (.cells #[l, .slice (some ⟨w.heap.size, 0, none⟩) 1 1] 22)) fun e w' => ∃ p c, e = .returned (.slice p (n + 1) c) ∧ Own w' w.heap.size (.slice p (n + 1) c) (n + 1) (snoc X n f) ∧ Below w.heap.size w w' := by
  have b1 := below_alloc (Below.refl w.heap.size w) (.cells #[.int .i64 f.t, bv] 25)
  have b2 := below_alloc b1 (.cells #[l, .slice (some ⟨w.heap.size, 0, none⟩) 1 1] 22)
  have b3 : Below (w.alloc (.cells #[.int .i64 f.t, bv] 25)).heap.size (w.alloc (.cells #[.int .i64 f.t, bv] 25)) ((w.alloc (.cells #[.int .i64 f.t, bv] 25)).alloc (.cells #[l, .slice (some ⟨w.heap.size, 0, none⟩) 1 1] 22)) := below_alloc (Below.refl _ _) _
  refine (joined2 l (.slice (some ⟨w.heap.size, 0, none⟩) 1 1) n 1 X (fun _ => f) (w.heap.size + 1) 2 _ (by decide) (by decide) (by simp) (by simp) (by simp) (hl.below b2 (Nat.le_refl _)) ((fs_one w f bv hf).below b3 (Nat.le_refl _)) (by omega) (fun i hi => by have := hx i hi; omega) (fun i hi => by show f.n ≤ _; omega)).mono ?_
  rintro e w' ⟨v', rfl, o, b⟩
  obtain ⟨p, c, rfl⟩ := owns_shape o.choose_spec.1
  exact ⟨p, c, rfl, o.mono (by simp; omega), below_of b2 b⟩
set_option maxHeartbeats 1000000 in
set_option maxRecDepth 100000 in
theorem put_ok (l bv : Value) (n : Nat) (X : Nat → Fm) (f : Fm) (w : World) (hl : Fs w l n X) (hf : Sl .u8 w bv f.n f.b) (h0 : putE n X f = 0) :
    Calls Try.prog 9 #[l, .agg #[.int .i64 f.t, bv]] w fun e w' => ∃ p c, e = .returned (.tuple #[.slice p (n + 1) c, .int .i64 0]) ∧ Own w' w.heap.size (.slice p (n + 1) c) (n + 1) (snoc X n f) ∧ Below w.heap.size w w' := by
  have hc : chk n X = 0 ∧ okB f.t f.n = true ∧ n ≠ 300 := by
    unfold putE at h0
    by_cases a : chk n X = 0
    · rw [if_neg (by simpa using a)] at h0
      cases b : okB f.t f.n with
      | false => rw [if_pos b] at h0; omega
      | true =>
        rw [if_neg (by simp [b])] at h0
        by_cases c : n = 300
        · rw [if_pos c] at h0; omega
        · exact ⟨a, rfl, c⟩
    · rw [if_pos a] at h0
      exact absurd h0 a
  obtain ⟨a, b, c⟩ := hc
  obtain ⟨z1, z2⟩ := chk_zero a
  obtain ⟨_, _, z3⟩ := okB_iff.1 b
  have A := hide a
  have BB := hide b
  obtain ⟨p, cp, rfl, hc1, hc2⟩ := hl.shape
  obtain ⟨q, cq, rfl, hd1, hd2⟩ := hf.shape
  unfold maxLen at hc2
  have bx := below_alloc (Below.refl w.heap.size w) (.cells #[.int .i64 f.t, .slice q f.n cq] 25)
  have HL := hide (hl.below bx (Nat.le_refl _))
  have HF := hide (hf.below bx (Nat.le_refl _))
  have HX := hide (Has.new w (.cells #[.int .i64 f.t, .slice q f.n cq] 25))
  have BX := hide bx
  have HN := hide z1
  have HZ := hide (fun i hi => (z2 i hi).2.2)
  have HM := hide z3
  have e3 : ((n : Int) == 300) = false := by simp; omega
  clear h0 a b c z1 z2 z3 hl hf bx
  go_enter Try.func9, Try.ntmps9
  go_wp2_with (first
    | (go_at_call 14; refine (check_any X _ n _ (unhide HL)).mono ?_; rw [unhide A]; rintro e w2 ⟨rfl, b2⟩; have B2 := hide b2; have H2 := (unhide HX).below b2; have c0 := H2.cell (k := 0) rfl; have c1 := H2.cell (k := 1) rfl; have HX2 := hide H2; clear b2 H2)
    | (go_at_call 20; refine (isRight_any _ _ _ _ _).mono ?_; rw [unhide BB]; rintro e w3 ⟨rfl, b3⟩; have B3 := hide b3; have H3 := (unhide HX2).below b3; clear c0 c1; have c0 := H3.cell (k := 0) rfl; have c1 := H3.cell (k := 1) rfl; clear b3 H3)
    | (go_at_call 21; refine (put_join _ _ n X f _ (((unhide HL).below (unhide B2) (Nat.le_refl _)).below (unhide B3) (Nat.le_refl _)) (((unhide HF).below (unhide B2) (Nat.le_refl _)).below (unhide B3) (Nat.le_refl _)) (unhide HN) (unhide HZ) (unhide HM)).mono ?_; rintro e w4 ⟨p4, c4, rfl, o4, b4⟩; have B4 := hide b4; have O4 := hide o4; clear b4 o4))
  go_ret2
  have b5 := below_of (unhide BX) (below_of (unhide B2) (unhide B3))
  exact ⟨_, _, rfl, (unhide O4).mono b5.size, below_of b5 (unhide B4)⟩
end Go.Proofs.Ytpaeekpdchmfjaa
