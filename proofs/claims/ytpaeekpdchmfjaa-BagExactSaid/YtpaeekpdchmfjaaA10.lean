/- Walks of Put that refuses, of Twice. -/
import Derived.Test.YtpaeekpdchmfjaaA9
namespace Go.Proofs.Ytpaeekpdchmfjaa
open Go.RowKit

theorem putE_zero {n : Nat} {X : Nat → Fm} {f : Fm} : putE n X f = 0 ↔ chk n X = 0 ∧ okB f.t f.n = true ∧ n ≠ 300 := by
  unfold putE
  by_cases a : chk n X = 0
  · rw [if_neg (by simpa using a)]
    cases b : okB f.t f.n with
    | false => rw [if_pos rfl]; exact ⟨fun h => (by omega), fun h => (by cases h.2.1)⟩
    | true =>
      rw [if_neg (by simp)]
      by_cases c : n = 300
      · rw [if_pos c]; exact ⟨fun h => (by omega), fun h => absurd c h.2.2⟩
      · rw [if_neg c]; exact ⟨fun _ => ⟨a, rfl, c⟩, fun _ => rfl⟩
  · rw [if_pos a]
    exact ⟨fun h => absurd h a, fun h => absurd h.1 a⟩
theorem putE_full {n : Nat} {X : Nat → Fm} {f : Fm} (a : chk n X = 0) (b : okB f.t f.n = true) (c : n = 300) : putE n X f = 6 := by
  unfold putE
  rw [if_neg (by simpa using a), if_neg (by simp [b]), if_pos c]
set_option maxHeartbeats 1000000 in
set_option maxRecDepth 100000 in
theorem put_bad (l bv : Value) (n : Nat) (X : Nat → Fm) (f : Fm) (w : World) (hl : Fs w l n X) (hf : Sl .u8 w bv f.n f.b) (h0 : putE n X f ≠ 0) :
    Calls Try.prog 9 #[l, .agg #[.int .i64 f.t, bv]] w fun e w' => e = .returned (.tuple #[.slice none 0 0, .int .i64 (putE n X f)]) ∧ Below w.heap.size w w' := by
  obtain ⟨p, cp, rfl, hc1, hc2⟩ := hl.shape
  obtain ⟨q, cq, rfl, hd1, hd2⟩ := hf.shape
  unfold maxLen at hc2
  have bx := below_alloc (Below.refl w.heap.size w) (.cells #[.int .i64 f.t, .slice q f.n cq] 25)
  have HL := hide (hl.below bx (Nat.le_refl _))
  have HX := hide (Has.new w (.cells #[.int .i64 f.t, .slice q f.n cq] 25))
  have BX := hide bx
  clear hl hf bx
  by_cases a : chk n X = 0
  · have A := hide a
    cases b : okB f.t f.n with
    | false =>
      have BB := hide b
      have R := hide (show putE n X f = 1 by simp [putE, a, b])
      clear h0 a b
      go_enter Try.func9, Try.ntmps9
      go_wp2_with (first
        | (go_at_call 14; refine (check_any X _ n _ (unhide HL)).mono ?_; rw [unhide A]; rintro e w2 ⟨rfl, b2⟩; have B2 := hide b2; have H2 := (unhide HX).below b2; have c0 := H2.cell (k := 0) rfl; have c1 := H2.cell (k := 1) rfl; clear b2 H2)
        | (go_at_call 20; refine (isRight_any _ _ _ _ _).mono ?_; rw [unhide BB]; rintro e w3 ⟨rfl, b3⟩; have B3 := hide b3; clear b3))
      go_ret2
      exact ⟨by rw [unhide R]; rfl, below_of (unhide BX) (below_of (unhide B2) (unhide B3))⟩
    | true =>
      have BB := hide b
      have hn : n = 300 := by
        by_cases c : n = 300
        · exact c
        · exact absurd (putE_zero.2 ⟨a, b, c⟩) h0
      have R := hide (putE_full a b hn)
      have e3 : ((n : Int) == 300) = true := by simp; omega
      clear h0 a b hn
      go_enter Try.func9, Try.ntmps9
      go_wp2_with (first
        | (go_at_call 14; refine (check_any X _ n _ (unhide HL)).mono ?_; rw [unhide A]; rintro e w2 ⟨rfl, b2⟩; have B2 := hide b2; have H2 := (unhide HX).below b2; have c0 := H2.cell (k := 0) rfl; have c1 := H2.cell (k := 1) rfl; clear b2 H2)
        | (go_at_call 20; refine (isRight_any _ _ _ _ _).mono ?_; rw [unhide BB]; rintro e w3 ⟨rfl, b3⟩; have B3 := hide b3; clear b3))
      go_ret2
      exact ⟨by rw [unhide R]; rfl, below_of (unhide BX) (below_of (unhide B2) (unhide B3))⟩
  · have R := hide (show putE n X f = chk n X by simp [putE, a])
    have C := hide (check_any X _ n _ (unhide HL))
    clear h0
    generalize chk n X = z at *
    have e0 : (z != 0) = true := by simpa using a
    go_enter Try.func9, Try.ntmps9
    go_wp2_with (go_at_call 14; (with_reducible refine (unhide C).mono ?_); rintro e w2 ⟨rfl, b2⟩; have B2 := hide b2; clear b2)
    go_ret2
    exact ⟨by rw [unhide R]; rfl, below_of (unhide BX) (unhide B2)⟩
/-- Twice's error. -/
def twE (n : Nat) (X : Nat → Fm) (k : Int) : Int := if chkAt n X k ≠ 0 then chkAt n X k else if n = 300 then 6 else 0
theorem chkAt_zero {n : Nat} {X : Nat → Fm} {k : Int} : chkAt n X k = 0 ↔ chk n X = 0 ∧ 0 ≤ k ∧ k < n := by
  unfold chkAt
  by_cases a : chk n X = 0
  · rw [if_neg (by simpa using a)]
    by_cases b : 0 ≤ k ∧ k < n
    · rw [if_pos b]; exact ⟨fun _ => ⟨a, b⟩, fun _ => rfl⟩
    · rw [if_neg b]; exact ⟨fun h => (by omega), fun h => absurd h.2 b⟩
  · rw [if_pos a]
    exact ⟨fun h => absurd h a, fun h => absurd h.1 a⟩
set_option maxHeartbeats 1000000 in
set_option maxRecDepth 100000 in
theorem twice_in (l : Value) (n : Nat) (X : Nat → Fm) (k : Nat) (w : World) (hl : Fs w l n X) (hk : k < n) (h0 : chk n X = 0) :
    Calls Try.prog 11 #[l, .int .i64 k] w fun e w' => ∃ v, e = .returned (.tuple #[v, .int .i64 (twE n X k)]) ∧ Below w.heap.size w w' ∧ (n ≠ 300 → ∃ p c, v = .slice p (n + 1) c ∧ Own w' w.heap.size v (n + 1) (snoc X n (X k))) ∧ (n = 300 → v = .slice none 0 0) := by
  have C := hide (checkAt_any X l n k w hl)
  have h1 : chkAt n X k = 0 := chkAt_zero.2 ⟨h0, by omega, by omega⟩
  have E1 := hide h1
  obtain ⟨b, off, BV, hp, hbw, hcell⟩ : ∃ b off, ∃ B : Nat → Value, (∃ cp, l = .slice (some ⟨b, off, none⟩) n cp ∧ n ≤ cp ∧ cp ≤ maxLen) ∧ b < w.heap.size ∧ ∀ i : Nat, i < n → w.cell? ⟨b, off + i * 2, none⟩ = .some (.int .i64 (X i).t) ∧ w.cell? ⟨b, off + i * 2 + 1, none⟩ = .some (B i) ∧ Sl .u8 w (B i) (X i).n (X i).b := by
    obtain ⟨p, cp, rfl, hc1, hc2⟩ := hl.shape
    obtain ⟨b, off, B, rfl, h⟩ := hl.some (by omega)
    exact ⟨b, off, B, ⟨cp, rfl, hc1, hc2⟩, h⟩
  obtain ⟨cp, rfl, hc1, hc2⟩ := hp
  unfold maxLen at hc2
  obtain ⟨q1, q2, q3⟩ := hcell k hk
  obtain ⟨pk, ck, hbk, -, -⟩ := q3.shape
  rw [hbk] at q2 q3
  have Q3 := hide q3
  have HL := hide hl
  have Q1 := hide q1
  have Q2 := hide q2
  obtain ⟨z1, z2⟩ := chk_zero h0
  have hok : okB (X k).t (X k).n = true := okB_iff.2 (z2 k hk)
  have P : Hid (∀ w2, Below w.heap.size w w2 → Calls Try.prog 9 #[.slice (some ⟨b, off, none⟩) n cp, .agg #[.int .i64 (X k).t, .slice pk (X k).n ck]] w2 fun e w' => ∃ v, e = .returned (.tuple #[v, .int .i64 (twE n X k)]) ∧ Below w.heap.size w w' ∧ (n ≠ 300 → ∃ p c, v = .slice p (n + 1) c ∧ Own w' w.heap.size v (n + 1) (snoc X n (X k))) ∧ (n = 300 → v = .slice none 0 0)) := by
    refine hide fun w2 b2 => ?_
    have hl2 := (unhide HL).below b2 (Nat.le_refl _)
    have hq2 := (unhide Q3).below b2 (Nat.le_refl _)
    by_cases h3 : n = 300
    · have hp : putE n X (X k) = 6 := putE_full h0 hok h3
      have ht : twE n X k = 6 := by unfold twE; rw [if_neg (by simpa using unhide E1), if_pos h3]
      refine (put_bad _ _ n X (X k) w2 hl2 hq2 (by rw [hp]; decide)).mono ?_
      rintro e w' ⟨rfl, b3⟩
      exact ⟨_, by rw [hp, ht], below_of b2 b3, fun h => absurd h3 h, fun _ => rfl⟩
    · have ht : twE n X k = 0 := by unfold twE; rw [if_neg (by simpa using unhide E1), if_neg h3]
      refine (put_ok _ _ n X (X k) w2 hl2 hq2 (putE_zero.2 ⟨h0, hok, h3⟩)).mono ?_
      rintro e w' ⟨p, c, rfl, o3, b3⟩
      exact ⟨_, by rw [ht], below_of b2 b3, fun _ => ⟨p, c, rfl, o3.mono b2.size⟩, fun h => absurd h h3⟩
  clear hcell q3 hbk hl h0 h1 q1 q2 z1 z2 hok
  have i1 : (0 : Int) ≤ (k : Int) := by omega
  have i2 : (k : Int) < (n : Int) := by omega
  go_enter Try.func11, Try.ntmps11
  go_wp2_with (first
    | (go_at_call 22; (with_reducible refine (unhide C).mono ?_); rw [unhide E1]; rintro e w2 ⟨rfl, b2⟩; have B2 := hide b2; have c0 := (b2.cell (p := ⟨b, off + k * 2, none⟩) hbw).trans (unhide Q1); have c1 := (b2.cell (p := ⟨b, off + k * 2 + 1, none⟩) hbw).trans (unhide Q2); clear b2)
    | (go_at_call 9; (with_reducible refine (unhide P _ (unhide B2)).mono ?_); rintro e w3 ⟨v3, rfl, b3, r1, r2⟩; have B3 := hide b3; have R1 := hide r1; have R2 := hide r2; clear b3 r1 r2))
  go_ret2
  exact ⟨_, rfl, unhide B3, unhide R1, unhide R2⟩
set_option maxHeartbeats 1000000 in
set_option maxRecDepth 100000 in
theorem twice_out (l : Value) (n : Nat) (X : Nat → Fm) (k : Int) (w : World) (hl : Fs w l n X) (h0 : chkAt n X k ≠ 0) :
    Calls Try.prog 11 #[l, .int .i64 k] w fun e w' => e = .returned (.tuple #[.slice none 0 0, .int .i64 (twE n X k)]) ∧ Below w.heap.size w w' := by
  have R := hide (show twE n X k = chkAt n X k by simp [twE, h0])
  have C := hide (checkAt_any X l n k w hl)
  generalize chkAt n X k = z at *
  have e0 : (z != 0) = true := by simpa using h0
  clear hl
  go_enter Try.func11, Try.ntmps11
  go_wp2_with (go_at_call 22; (with_reducible refine (unhide C).mono ?_); rintro e w2 ⟨rfl, b2⟩; have B2 := hide b2; clear b2)
  go_ret2
  exact ⟨by rw [unhide R]; rfl, unhide B2⟩
end Go.Proofs.Ytpaeekpdchmfjaa
