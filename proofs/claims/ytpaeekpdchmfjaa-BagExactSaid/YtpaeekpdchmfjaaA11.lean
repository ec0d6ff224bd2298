/- Walk of Take. -/
import Derived.Test.YtpaeekpdchmfjaaA10
namespace Go.Proofs.Ytpaeekpdchmfjaa
open Go.RowKit

theorem fs_take {w : World} {b off n cp k : Nat} {X : Nat → Fm} (h : Fs w (.slice (some ⟨b, off, none⟩) n cp) n X) (hk : k ≤ n) : Fs w (.slice (some ⟨b, off, none⟩) k cp) k X := by
  obtain ⟨_, _, e, h1, h2⟩ := h.shape
  cases e
  by_cases hz : k = 0
  · subst hz
    exact .inl ⟨rfl, .inr ⟨_, cp, rfl, h2⟩⟩
  · obtain ⟨b', off', B, e, h3, h4⟩ := h.some (by omega)
    cases e
    exact .inr ⟨b, off, cp, B, rfl, by omega, h2, h3, fun i hi => h4 i (by omega)⟩
theorem fs_drop {w : World} {b off n cp k : Nat} {X : Nat → Fm} (h : Fs w (.slice (some ⟨b, off, none⟩) n cp) n X) : Fs w (.slice (some ⟨b, off + k * 2, none⟩) (n - k) (cp - k)) (n - k) (fun i => X (k + i)) := by
  obtain ⟨_, _, e, h1, h2⟩ := h.shape
  cases e
  by_cases hz : n - k = 0
  · rw [hz]
    exact .inl ⟨rfl, .inr ⟨_, cp - k, rfl, by omega⟩⟩
  · obtain ⟨b', off', B, e, h3, h4⟩ := h.some (by omega)
    cases e
    refine .inr ⟨b, off + k * 2, cp - k, fun i => B (k + i), rfl, by omega, by omega, h3, fun i hi => ?_⟩
    obtain ⟨p, q, r⟩ := h4 (k + i) (by omega)
    rw [show off + k * 2 + i * 2 = off + (k + i) * 2 by omega]
    exact ⟨p, q, r⟩
/-- X without its frame number k. -/
def lack (X : Nat → Fm) (k : Nat) : Nat → Fm := cat X k fun i => X (k + 1 + i)
/-- The rest of a slice behind k. -/
theorem fs_rest {w : World} {b off n cp k : Nat} {X : Nat → Fm} (h : Fs w (.slice (some ⟨b, off, none⟩) n cp) n X) (hk : k < n) : Fs w (.slice (if cp = k + 1 then some ⟨b, off, none⟩ else some ⟨b, off + (k + 1) * 2, none⟩) (n - (k + 1)) (cp - (k + 1))) (n - (k + 1)) (fun i => X (k + 1 + i)) := by
  by_cases e : cp = k + 1
  · obtain ⟨_, _, e', h1, h2⟩ := h.shape
    cases e'
    rw [if_pos e, show n - (k + 1) = 0 by omega]
    exact .inl ⟨rfl, .inr ⟨_, _, rfl, by omega⟩⟩
  · rw [if_neg e]
    exact fs_drop h
theorem own_setBelow {w : World} {b0 n : Nat} {v : Value} {X : Nat → Fm} (h : Own w b0 v n X) {a : Addr} (ha : a.block < b0) (u : Value) : Own (w.setCell a u) b0 v n X := by
  obtain ⟨B, h1, h2, h3⟩ := h
  exact ⟨B, ownsRow_setCell_below h1 ha u, fun i hi => ownsRow_setCell_below (h2 i hi) ha u, h3⟩
theorem frozen_past {w : World} {a : Addr} (o : Obj) (h : a.block < w.heap.size) : (w.alloc o).frozen? a = w.frozen? a := by
  refine World.frozen?_of_block (w := w) ?_
  exact ((Below.refl w.heap.size w).alloc (Nat.le_refl _) o).block a.block h
set_option maxHeartbeats 1000000 in
set_option maxRecDepth 100000 in
theorem take_in (l : Value) (n : Nat) (X : Nat → Fm) (k : Nat) (w : World) (hl : Fs w l n X) (hk : k < n) (h0 : chk n X = 0) :
    Calls Try.prog 10 #[l, .int .i64 k] w fun e w' => ∃ q d p c, e = .returned (.tuple #[.agg #[.int .i64 (X k).t, .slice q (X k).n d], .slice p (n - 1) c, .int .i64 0]) ∧ Sl .u8 w' (.slice q (X k).n d) (X k).n (X k).b ∧ Own w' w.heap.size (.slice p (n - 1) c) (n - 1) (lack X k) ∧ Below w.heap.size w w' := by
  obtain ⟨b, off, BV, ⟨cp, rfl, hc1, hc2⟩, hbw, hcell⟩ : ∃ b off, ∃ B : Nat → Value, (∃ cp, l = .slice (some ⟨b, off, none⟩) n cp ∧ n ≤ cp ∧ cp ≤ maxLen) ∧ b < w.heap.size ∧ ∀ i : Nat, i < n → w.cell? ⟨b, off + i * 2, none⟩ = .some (.int .i64 (X i).t) ∧ w.cell? ⟨b, off + i * 2 + 1, none⟩ = .some (B i) ∧ Sl .u8 w (B i) (X i).n (X i).b := by
    obtain ⟨p, cp, rfl, hc1, hc2⟩ := hl.shape
    obtain ⟨b, off, B, rfl, h⟩ := hl.some (by omega)
    exact ⟨b, off, B, ⟨cp, rfl, hc1, hc2⟩, h⟩
  unfold maxLen at hc2
  obtain ⟨q1, q2, q3⟩ := hcell k hk
  obtain ⟨pk, ck, hbk, -, -⟩ := q3.shape
  rw [hbk] at q2 q3
  have bx := below_alloc (Below.refl w.heap.size w) (.cells #[.int .i64 0, .slice none 0 0] 25)
  have HX := hide (Has.new w (.cells #[.int .i64 0, .slice none 0 0] 25))
  have BX := hide bx
  have hl1 := hl.below bx (Nat.le_refl _)
  have C := hide (checkAt_any X _ n k _ hl1)
  have E1 := hide (show chkAt n X k = 0 from chkAt_zero.2 ⟨h0, by omega, by omega⟩)
  obtain ⟨z1, z2⟩ := chk_zero h0
  have Q1 := hide q1
  have Q2 := hide q2
  have K1 : Hid (∀ W, Below (w.heap.size) w W → Calls Try.prog 23 #[.agg #[.int .i64 (X k).t, .slice pk (X k).n ck]] W fun e w3 => ∃ p3 c3, e = .returned (.agg #[.int .i64 (X k).t, .slice p3 (X k).n c3]) ∧ w3.ownsRow W.heap.size 5 1 (.slice p3 (X k).n c3) (X k).n (vL .u8 (X k).b (X k).n) ∧ Below W.heap.size W w3) := by
    refine hide fun W hW => (copied_any (X k).t (X k).b _ (X k).n W (q3.below hW (Nat.le_refl _)) (by have := (z2 k hk).2.2; omega)).mono ?_
    rintro e w3 ⟨v3, rfl, o3, b3⟩
    obtain ⟨p3, c3, rfl⟩ := owns_shape o3
    exact ⟨p3, c3, rfl, o3, b3⟩
  have K2 : Hid (∀ W b', Below (w.heap.size) w W → w.heap.size + 1 ≤ W.heap.size → b' < W.heap.size → W.cell? ⟨b', 0, none⟩ = some (.slice (some ⟨b, off, none⟩) k cp) → W.cell? ⟨b', 1, none⟩ = some (.slice (if cp = k + 1 then some ⟨b, off, none⟩ else some ⟨b, off + (k + 1) * 2, none⟩) (n - (k + 1)) (cp - (k + 1))) → Calls Try.prog 21 #[.slice (some ⟨b', 0, none⟩) 2 2] W fun e w4 => ∃ p4 c4, e = .returned (.slice p4 (n - 1) c4) ∧ Own w4 (w.heap.size + 1) (.slice p4 (n - 1) c4) (n - 1) (lack X k) ∧ Below W.heap.size W w4) := by
    refine hide fun W b' hW hWs hb' g0 g1 => (joined2 _ _ k (n - (k + 1)) X (fun i => X (k + 1 + i)) b' 2 W (by decide) (by decide) hb' g0 g1 (fs_take (hl.below hW (Nat.le_refl _)) (by omega)) (fs_rest (hl.below hW (Nat.le_refl _)) hk) (by omega) (fun i hi => by have := (z2 i (by omega)).2.2; omega) (fun i hi => by have := (z2 (k + 1 + i) (by omega)).2.2; show (X (k + 1 + i)).n ≤ _; omega)).mono ?_
    rintro e w4 ⟨v4, rfl, o4, b4⟩
    obtain ⟨p4, c4, rfl⟩ := owns_shape o4.choose_spec.1
    rw [show k + (n - (k + 1)) = n - 1 by omega] at o4 ⊢
    exact ⟨p4, c4, rfl, o4.mono hWs, b4⟩
  clear hcell q3 hbk hl hl1 h0 q1 q2 z1 z2 bx
  have i1 : (0 : Int) ≤ (k : Int) := by omega
  have i2 : (k : Int) < (n : Int) := by omega
  have i3 : (k : Int) ≤ (cp : Int) := by omega
  have i4 : (0 : Int) ≤ (k : Int) + 1 := by omega
  have i5 : (k : Int) + 1 ≤ (n : Int) := by omega
  have i6 : IntKind.i64.wrap ((k : Int) + 1) = (k : Int) + 1 := by rw [IntKind.wrap_i64]; omega
  have hne : b ≠ w.heap.size := by omega
  have hne' : w.heap.size ≠ b := by omega
  by_cases hcp : cp = k + 1
  · subst hcp
    rw [if_pos rfl] at K2
    obtain rfl : n = k + 1 := by omega
    simp only [Nat.sub_self, Nat.add_sub_cancel] at K2
    have i7 : (k : Int) ≤ (k : Int) + 1 := by omega
    have i8 : k ≤ k + 1 := by omega
    have i9 : (k : Int) < (k : Int) + 1 := by omega
    go_enter Try.func10, Try.ntmps10
    go_wp2_with (go_at_call 22; (with_reducible refine (unhide C).mono ?_); rw [unhide E1]; rintro e w2 ⟨rfl, b2⟩; have B20 := hide (below_of (unhide BX) b2); have c0 := ((unhide B20).cell (p := ⟨b, off + k * 2, none⟩) hbw).trans (unhide Q1); have c1 := ((unhide B20).cell (p := ⟨b, off + k * 2 + 1, none⟩) hbw).trans (unhide Q2); have HX2 := hide ((unhide HX).below b2); have f0 := (unhide HX2).frozen (k := 0); have f1 := (unhide HX2).frozen (k := 1); clear b2)
    go_region_held3 (fun w' => w'.cell? ⟨b, off + k * 2, none⟩ = some (.int .i64 (X k).t) ∧ w'.cell? ⟨b, off + k * 2 + 1, none⟩ = some (.slice pk (X k).n ck) ∧ w'.frozen? ⟨w.heap.size, 0, none⟩ = false ∧ w'.frozen? ⟨w.heap.size, 1, none⟩ = false)
      (first
        | exact ⟨c0, c1, f0, f1⟩
        | exact ⟨(by assumption), (by assumption), (by assumption), (by assumption)⟩
        | exact ⟨(World.cell?_alloc_past _ _ _ (Nat.lt_of_lt_of_le hbw (unhide B3).size)).trans d0, (World.cell?_alloc_past _ _ _ (Nat.lt_of_lt_of_le hbw (unhide B3).size)).trans d1, (frozen_past _ d6).trans d2, (frozen_past _ d6).trans d3⟩
        | exact ⟨(World.cell?_alloc_past _ _ _ (Nat.lt_of_lt_of_le hbw (unhide B20).size)).trans c0, (World.cell?_alloc_past _ _ _ (Nat.lt_of_lt_of_le hbw (unhide B20).size)).trans c1, (frozen_past _ (unhide HX2).1).trans f0, (frozen_past _ (unhide HX2).1).trans f1⟩
        | go_keep)
      (first
        | (go_at_call 23; refine (unhide K1 (w2.drewN 1) (below_drewN (unhide B20) 1)).mono ?_; rintro e w3 ⟨p3, c3, rfl, s3, b3⟩; have B3 := hide (below_of (w0 := w2.drewN 1) (below_drewN (unhide B20) 1) b3); have HX3 := hide (Has.below (w := w2.drewN 1) (unhide HX2) b3); have d0 := ((unhide B3).cell (p := ⟨b, off + k * 2, none⟩) hbw).trans (unhide Q1); have d1 := ((unhide B3).cell (p := ⟨b, off + k * 2 + 1, none⟩) hbw).trans (unhide Q2); have d2 := (unhide HX3).frozen (k := 0); have d3 := (unhide HX3).frozen (k := 1); have d4 := (unhide HX3).cell (k := 0) rfl; have d5 := (unhide HX3).cell (k := 1) rfl; have d6 := (unhide HX3).1; have S3 := hide s3; clear s3 b3)
        | (go_at_call 23; refine (unhide K1 (World.drewN (w2.alloc _) 1) (below_drewN (below_alloc (unhide B20) _) 1)).mono ?_; rintro e w3 ⟨p3, c3, rfl, s3, b3⟩; have B3 := hide (below_of (w0 := World.drewN (w2.alloc _) 1) (below_drewN (below_alloc (unhide B20) _) 1) b3); have HX3 := hide (Has.below (w := World.drewN (w2.alloc _) 1) ((unhide HX2).alloc _) b3); have HA3 := hide (Has.below (w := World.drewN (w2.alloc _) 1) (Has.new w2 _) b3); have d0 := ((unhide B3).cell (p := ⟨b, off + k * 2, none⟩) hbw).trans (unhide Q1); have d1 := ((unhide B3).cell (p := ⟨b, off + k * 2 + 1, none⟩) hbw).trans (unhide Q2); have d2 := (unhide HX3).frozen (k := 0); have d3 := (unhide HX3).frozen (k := 1); have d4 := (unhide HX3).cell (k := 0) rfl; have d5 := (unhide HX3).cell (k := 1) rfl; have d6 := (unhide HX3).1; have S3 := hide s3; clear s3 b3)
        | (go_at_call 21; refine (unhide K2 _ _ (below_alloc (unhide B3) _) (by simp; omega) (by simp) (by simp [go_sem]) (by simp [go_sem])).mono ?_; rintro e w4 ⟨p4, c4, rfl, o4, b4⟩; have B4 := hide (below_of (below_alloc (unhide B3) _) b4); have HX4 := hide (Has.below ((unhide HX3).alloc _) b4); have S4 := hide (owns_below ((unhide S3).alloc _) b4); have d0 := ((unhide B4).cell (p := ⟨b, off + k * 2, none⟩) hbw).trans (unhide Q1); have d1 := ((unhide B4).cell (p := ⟨b, off + k * 2 + 1, none⟩) hbw).trans (unhide Q2); have d2 := (unhide HX4).frozen (k := 0); have d3 := (unhide HX4).frozen (k := 1); have d4 := (unhide HX4).cell (k := 0) rfl; have d5 := (unhide HX4).cell (k := 1) rfl; have d7 := (unhide HX4).1; have O4 := hide o4; clear o4 b4)
        | (go_at_call 21; refine (unhide K2 w3 w2.heap.size (unhide B3) d6 (unhide HA3).1 ((unhide HA3).cell rfl) ((unhide HA3).cell rfl)).mono ?_; rintro e w4 ⟨p4, c4, rfl, o4, b4⟩; have B4 := hide (below_of (unhide B3) b4); have HX4 := hide (Has.below (unhide HX3) b4); have S4 := hide (owns_below (unhide S3) b4); have d0 := ((unhide B4).cell (p := ⟨b, off + k * 2, none⟩) hbw).trans (unhide Q1); have d1 := ((unhide B4).cell (p := ⟨b, off + k * 2 + 1, none⟩) hbw).trans (unhide Q2); have d2 := (unhide HX4).frozen (k := 0); have d3 := (unhide HX4).frozen (k := 1); have d4 := (unhide HX4).cell (k := 0) rfl; have d5 := (unhide HX4).cell (k := 1) rfl; have d7 := (unhide HX4).1; have O4 := hide o4; clear o4 b4))
    all_goals
      go_wp2
      have h3 := (unhide HX4).set2 (.int .i64 (X k).t) (.slice p3 (X k).n c3)
      have hs := owns_setOther (owns_setOther (unhide S4) (a := ⟨w.heap.size, 0, none⟩) (owns_has (unhide S4) (unhide HX4) (by decide)) (.int .i64 (X k).t)) (a := ⟨w.heap.size, 1, none⟩) (owns_has (unhide S4) (unhide HX4) (by decide)) (.slice p3 (X k).n c3)
      have ho := own_setBelow (own_setBelow (unhide O4) (a := ⟨w.heap.size, 0, none⟩) (Nat.lt_succ_self _) (.int .i64 (X k).t)) (a := ⟨w.heap.size, 1, none⟩) (Nat.lt_succ_self _) (.slice p3 (X k).n c3)
      have hb := ((unhide B4).setCell (show w.heap.size ≤ (⟨w.heap.size, 0, none⟩ : Addr).block from Nat.le_refl _) (.int .i64 (X k).t)).setCell (show w.heap.size ≤ (⟨w.heap.size, 1, none⟩ : Addr).block from Nat.le_refl _) (.slice p3 (X k).n c3)
      generalize (w4.setCell ⟨w.heap.size, 0, none⟩ (.int .i64 (X k).t)).setCell ⟨w.heap.size, 1, none⟩ (.slice p3 (X k).n c3) = w5 at *
      have e0 := h3.cell (k := 0) rfl
      have e1 := h3.cell (k := 1) rfl
      exact bodyPost_ret (v := .tuple #[.agg #[.int .i64 (X k).t, .slice p3 (X k).n c3], .slice p4 _ c4, .int .i64 0]) (by simp [results, Try.results10, go_sem, e0, e1]) rfl ⟨_, _, _, _, rfl, sl_of_owns hs, ho.mono (Nat.le_succ _), hb⟩
  · rw [if_neg hcp] at K2
    go_enter Try.func10, Try.ntmps10
    go_wp2_with (go_at_call 22; (with_reducible refine (unhide C).mono ?_); rw [unhide E1]; rintro e w2 ⟨rfl, b2⟩; have B20 := hide (below_of (unhide BX) b2); have c0 := ((unhide B20).cell (p := ⟨b, off + k * 2, none⟩) hbw).trans (unhide Q1); have c1 := ((unhide B20).cell (p := ⟨b, off + k * 2 + 1, none⟩) hbw).trans (unhide Q2); have HX2 := hide ((unhide HX).below b2); have f0 := (unhide HX2).frozen (k := 0); have f1 := (unhide HX2).frozen (k := 1); clear b2)
    go_region_held3 (fun w' => w'.cell? ⟨b, off + k * 2, none⟩ = some (.int .i64 (X k).t) ∧ w'.cell? ⟨b, off + k * 2 + 1, none⟩ = some (.slice pk (X k).n ck) ∧ w'.frozen? ⟨w.heap.size, 0, none⟩ = false ∧ w'.frozen? ⟨w.heap.size, 1, none⟩ = false)
      (first
        | exact ⟨c0, c1, f0, f1⟩
        | exact ⟨(by assumption), (by assumption), (by assumption), (by assumption)⟩
        | exact ⟨(World.cell?_alloc_past _ _ _ (Nat.lt_of_lt_of_le hbw (unhide B3).size)).trans d0, (World.cell?_alloc_past _ _ _ (Nat.lt_of_lt_of_le hbw (unhide B3).size)).trans d1, (frozen_past _ d6).trans d2, (frozen_past _ d6).trans d3⟩
        | exact ⟨(World.cell?_alloc_past _ _ _ (Nat.lt_of_lt_of_le hbw (unhide B20).size)).trans c0, (World.cell?_alloc_past _ _ _ (Nat.lt_of_lt_of_le hbw (unhide B20).size)).trans c1, (frozen_past _ (unhide HX2).1).trans f0, (frozen_past _ (unhide HX2).1).trans f1⟩
        | go_keep)
      (first
        | (go_at_call 23; refine (unhide K1 (w2.drewN 1) (below_drewN (unhide B20) 1)).mono ?_; rintro e w3 ⟨p3, c3, rfl, s3, b3⟩; have B3 := hide (below_of (w0 := w2.drewN 1) (below_drewN (unhide B20) 1) b3); have HX3 := hide (Has.below (w := w2.drewN 1) (unhide HX2) b3); have d0 := ((unhide B3).cell (p := ⟨b, off + k * 2, none⟩) hbw).trans (unhide Q1); have d1 := ((unhide B3).cell (p := ⟨b, off + k * 2 + 1, none⟩) hbw).trans (unhide Q2); have d2 := (unhide HX3).frozen (k := 0); have d3 := (unhide HX3).frozen (k := 1); have d4 := (unhide HX3).cell (k := 0) rfl; have d5 := (unhide HX3).cell (k := 1) rfl; have d6 := (unhide HX3).1; have S3 := hide s3; clear s3 b3)
        | (go_at_call 23; refine (unhide K1 (World.drewN (w2.alloc _) 1) (below_drewN (below_alloc (unhide B20) _) 1)).mono ?_; rintro e w3 ⟨p3, c3, rfl, s3, b3⟩; have B3 := hide (below_of (w0 := World.drewN (w2.alloc _) 1) (below_drewN (below_alloc (unhide B20) _) 1) b3); have HX3 := hide (Has.below (w := World.drewN (w2.alloc _) 1) ((unhide HX2).alloc _) b3); have HA3 := hide (Has.below (w := World.drewN (w2.alloc _) 1) (Has.new w2 _) b3); have d0 := ((unhide B3).cell (p := ⟨b, off + k * 2, none⟩) hbw).trans (unhide Q1); have d1 := ((unhide B3).cell (p := ⟨b, off + k * 2 + 1, none⟩) hbw).trans (unhide Q2); have d2 := (unhide HX3).frozen (k := 0); have d3 := (unhide HX3).frozen (k := 1); have d4 := (unhide HX3).cell (k := 0) rfl; have d5 := (unhide HX3).cell (k := 1) rfl; have d6 := (unhide HX3).1; have S3 := hide s3; clear s3 b3)
        | (go_at_call 21; refine (unhide K2 _ _ (below_alloc (unhide B3) _) (by simp; omega) (by simp) (by simp [go_sem]) (by simp [go_sem])).mono ?_; rintro e w4 ⟨p4, c4, rfl, o4, b4⟩; have B4 := hide (below_of (below_alloc (unhide B3) _) b4); have HX4 := hide (Has.below ((unhide HX3).alloc _) b4); have S4 := hide (owns_below ((unhide S3).alloc _) b4); have d0 := ((unhide B4).cell (p := ⟨b, off + k * 2, none⟩) hbw).trans (unhide Q1); have d1 := ((unhide B4).cell (p := ⟨b, off + k * 2 + 1, none⟩) hbw).trans (unhide Q2); have d2 := (unhide HX4).frozen (k := 0); have d3 := (unhide HX4).frozen (k := 1); have d4 := (unhide HX4).cell (k := 0) rfl; have d5 := (unhide HX4).cell (k := 1) rfl; have d7 := (unhide HX4).1; have O4 := hide o4; clear o4 b4)
        | (go_at_call 21; refine (unhide K2 w3 w2.heap.size (unhide B3) d6 (unhide HA3).1 ((unhide HA3).cell rfl) ((unhide HA3).cell rfl)).mono ?_; rintro e w4 ⟨p4, c4, rfl, o4, b4⟩; have B4 := hide (below_of (unhide B3) b4); have HX4 := hide (Has.below (unhide HX3) b4); have S4 := hide (owns_below (unhide S3) b4); have d0 := ((unhide B4).cell (p := ⟨b, off + k * 2, none⟩) hbw).trans (unhide Q1); have d1 := ((unhide B4).cell (p := ⟨b, off + k * 2 + 1, none⟩) hbw).trans (unhide Q2); have d2 := (unhide HX4).frozen (k := 0); have d3 := (unhide HX4).frozen (k := 1); have d4 := (unhide HX4).cell (k := 0) rfl; have d5 := (unhide HX4).cell (k := 1) rfl; have d7 := (unhide HX4).1; have O4 := hide o4; clear o4 b4))
    all_goals
      go_wp2
      have h3 := (unhide HX4).set2 (.int .i64 (X k).t) (.slice p3 (X k).n c3)
      have hs := owns_setOther (owns_setOther (unhide S4) (a := ⟨w.heap.size, 0, none⟩) (owns_has (unhide S4) (unhide HX4) (by decide)) (.int .i64 (X k).t)) (a := ⟨w.heap.size, 1, none⟩) (owns_has (unhide S4) (unhide HX4) (by decide)) (.slice p3 (X k).n c3)
      have ho := own_setBelow (own_setBelow (unhide O4) (a := ⟨w.heap.size, 0, none⟩) (Nat.lt_succ_self _) (.int .i64 (X k).t)) (a := ⟨w.heap.size, 1, none⟩) (Nat.lt_succ_self _) (.slice p3 (X k).n c3)
      have hb := ((unhide B4).setCell (show w.heap.size ≤ (⟨w.heap.size, 0, none⟩ : Addr).block from Nat.le_refl _) (.int .i64 (X k).t)).setCell (show w.heap.size ≤ (⟨w.heap.size, 1, none⟩ : Addr).block from Nat.le_refl _) (.slice p3 (X k).n c3)
      generalize (w4.setCell ⟨w.heap.size, 0, none⟩ (.int .i64 (X k).t)).setCell ⟨w.heap.size, 1, none⟩ (.slice p3 (X k).n c3) = w5 at *
      have e0 := h3.cell (k := 0) rfl
      have e1 := h3.cell (k := 1) rfl
      exact bodyPost_ret (v := .tuple #[.agg #[.int .i64 (X k).t, .slice p3 (X k).n c3], .slice p4 _ c4, .int .i64 0]) (by simp [results, Try.results10, go_sem, e0, e1]) rfl ⟨_, _, _, _, rfl, sl_of_owns hs, ho.mono (Nat.le_succ _), hb⟩
end Go.Proofs.Ytpaeekpdchmfjaa
