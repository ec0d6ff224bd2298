/- Walks of keep.Bytes, keep.Frame, keep.Frames. -/
import Derived.Test.YtpaeekpdchmfjaaA3
namespace Go.Proofs.Ytpaeekpdchmfjaa
open Go.RowKit

/-- The first k numbers are the same. -/
def eqk (F G : Nat → Int) : Nat → Bool
  | 0 => true
  | k + 1 => eqk F G k && decide (F k = G k)
theorem eqk_succ {F G : Nat → Int} {k : Nat} (h : eqk F G k = true) (h' : F k = G k) : eqk F G (k + 1) = true := by simp [eqk, h, h']
theorem eqk_iff {F G : Nat → Int} {n : Nat} : eqk F G n = true ↔ ∀ i, i < n → F i = G i := by
  induction n with
  | zero => exact ⟨fun _ i hi => absurd hi (Nat.not_lt_zero _), fun _ => rfl⟩
  | succ n ih =>
    unfold eqk
    simp only [Bool.and_eq_true, decide_eq_true_eq, ih]
    refine ⟨fun h i hi => ?_, fun h => ⟨fun i hi => h i (by omega), h n (by omega)⟩⟩
    by_cases e : i = n
    · subst e; exact h.2
    · exact h.1 i (by omega)
theorem eqk_false {F G : Nat → Int} {k n : Nat} (hk : k < n) (h : F k ≠ G k) : eqk F G n = false := by
  cases q : eqk F G n with
  | false => rfl
  | true => exact absurd (eqk_iff.1 q k hk) h
/-- Two texts are the same. -/
def sameB (n m : Nat) (F G : Nat → Int) : Bool := decide (n = m) && eqk F G n
theorem sameB_self (n : Nat) {F G : Nat → Int} (h : ∀ i, i < n → F i = G i) : sameB n n F G = true := by simp [sameB, eqk_iff.2 h]
set_option maxHeartbeats 1000000 in
set_option maxRecDepth 100000 in
theorem bytes_any (F G : Nat → Int) (va vb : Value) (n m : Nat) (w : World) (ha : Sl .u8 w va n F) (hb : Sl .u8 w vb m G) :
    Calls Try.prog 25 #[va, vb] w fun e w' => e = .returned (.bool (sameB n m F G)) ∧ ∃ q, w' = w.drewN q := by
  obtain ⟨pa, ca, rfl, la, ka⟩ := ha.shape
  obtain ⟨pb, cb, rfl, lb, kb⟩ := hb.shape
  unfold maxLen at ka kb
  by_cases hnm : n = m
  · subst hnm
    have HA := hide ha
    have HB := hide hb
    clear ha hb
    go_enter Try.func25, Try.ntmps25
    go_wp2
    go_loopw [5] (fun xi w1 => ∃ k : Nat, k ≤ n ∧ xi = .int .i64 k ∧ eqk F G k = true ∧ ∃ m, w1 = w.drewN m) (fun i _ => n - (intOf i).toNat)
    case atStart => exact ⟨0, by omega, rfl, rfl, 0, rfl⟩
    case round =>
      obtain ⟨k, hk, rfl, he, m, hW⟩ := hrel
      have HE := hide he
      by_cases hlt : k < n
      · obtain ⟨ba, oa, rfl, _, hca⟩ := (unhide HA).some (by omega)
        obtain ⟨bb, ob, rfl, _, hcb⟩ := (unhide HB).some (by omega)
        have c1 : wr.cell? ⟨ba, oa + k, none⟩ = some (.int .u8 (F k)) := by rw [hW]; exact hca k hlt
        have c2 : wr.cell? ⟨bb, ob + k, none⟩ = some (.int .u8 (G k)) := by rw [hW]; exact hcb k hlt
        have HW := hide hW
        clear hW hca hcb he
        by_cases hq : F k = G k
        · have NX := hide (eqk_succ (unhide HE) hq)
          rw [hq] at c1
          clear hq
          go_wp2
          go_quiet (fail)
          go_wp2
          go_roundw
          case rel => exact ⟨k + 1, by omega, by go_num, unhide NX, m + nq, by rw [unhide HW, World.drewN_drewN]⟩
          case measure => simp [intOf]; omega
        · have R := hide (show sameB n n F G = false by simp [sameB, eqk_false hlt hq])
          generalize F k = x at *
          generalize G k = y at *
          have e1 : (x != y) = true := by simpa using hq
          go_wp2
          go_quiet (fail)
          go_wp2
          go_ret
          exact ⟨by rw [unhide R]; rfl, m + nq, by rw [unhide HW, World.drewN_drewN]⟩
      · obtain rfl : k = n := by omega
        have R := hide (show sameB k k F G = true by simp [sameB, he])
        subst hW
        clear he
        go_wp2
        go_ret
        exact ⟨by rw [unhide R]; rfl, m, rfl⟩
  · have R := hide (show sameB n m F G = false by simp [sameB, hnm])
    have e1 : ((n : Int) != (m : Int)) = true := by simpa using (show ¬ (n : Int) = m by omega)
    clear ha hb
    go_enter Try.func25, Try.ntmps25
    go_wp2
    go_ret
    exact ⟨by rw [unhide R]; rfl, 0, rfl⟩
theorem bytes_b (F G : Nat → Int) (va vb : Value) (n m : Nat) (w : World) (ha : Sl .u8 w va n F) (hb : Sl .u8 w vb m G) :
    Calls Try.prog 25 #[va, vb] w fun e w' => e = .returned (.bool (sameB n m F G)) ∧ Below w.heap.size w w' := by
  refine (bytes_any F G va vb n m w ha hb).mono ?_
  rintro e w' ⟨rfl, m, rfl⟩
  exact ⟨rfl, below_drewN (Below.refl _ _) m⟩
/-- Two frames are the same. -/
def sameF (f g : Fm) : Bool := decide (f.t = g.t) && sameB f.n g.n f.b g.b
theorem sameF_self (f g : Fm) (h1 : f.t = g.t) (h2 : f.n = g.n) (h3 : ∀ i, i < f.n → f.b i = g.b i) : sameF f g = true := by
  unfold sameF
  rw [h1, ← h2, sameB_self f.n h3]
  simp
theorem sl_two {k : IntKind} {w : World} {v : Value} {n : Nat} {F : Nat → Int} (h : Sl k w v n F) (a b : Obj) : Sl k ((w.alloc a).alloc b) v n F := h.below (below_alloc (below_alloc (Below.refl w.heap.size w) a) b) (Nat.le_refl _)
set_option maxHeartbeats 1000000 in
set_option maxRecDepth 100000 in
theorem frame_any (f g : Fm) (va vb : Value) (w : World) (ha : Sl .u8 w va f.n f.b) (hb : Sl .u8 w vb g.n g.b) :
    Calls Try.prog 17 #[.agg #[.int .i64 f.t, va], .agg #[.int .i64 g.t, vb]] w fun e w' => e = .returned (.bool (sameF f g)) ∧ Below w.heap.size w w' := by
  have HA := hide (sl_two ha (.cells #[.int .i64 f.t, va] 25) (.cells #[.int .i64 g.t, vb] 25))
  have HB := hide (sl_two hb (.cells #[.int .i64 f.t, va] 25) (.cells #[.int .i64 g.t, vb] 25))
  have BL := hide (below_alloc (below_alloc (Below.refl w.heap.size w) (.cells #[.int .i64 f.t, va] 25)) (.cells #[.int .i64 g.t, vb] 25))
  obtain ⟨pa, ca, rfl, la, ka⟩ := ha.shape
  obtain ⟨pb, cb, rfl, lb, kb⟩ := hb.shape
  clear ha hb
  have C := hide (bytes_b f.b g.b _ _ f.n g.n _ (unhide HA) (unhide HB))
  by_cases h : f.t = g.t
  · have R := hide (show sameF f g = sameB f.n g.n f.b g.b by simp [sameF, h])
    generalize sameB f.n g.n f.b g.b = r at *
    have e1 : (f.t == g.t) = true := by simpa using h
    clear h
    go_enter Try.func17, Try.ntmps17
    go_wp2_with (go_at_call 25; (with_reducible refine (unhide C).mono ?_); rintro e w3 ⟨rfl, b3⟩; have B3 := hide (below_of (unhide BL) b3); clear b3)
    go_ret
    exact ⟨by rw [unhide R]; rfl, unhide B3⟩
  · have R := hide (show sameF f g = false by simp [sameF, h])
    have e1 : (f.t == g.t) = false := by simpa using h
    go_enter Try.func17, Try.ntmps17
    go_wp2
    go_ret
    exact ⟨by rw [unhide R]; rfl, unhide BL⟩
/-- The first k frames are the same. -/
def eqF (X Y : Nat → Fm) : Nat → Bool
  | 0 => true
  | k + 1 => eqF X Y k && sameF (X k) (Y k)
theorem eqF_succ {F G : Nat → Fm} {k : Nat} (h : eqF F G k = true) (h' : sameF (F k) (G k) = true) : eqF F G (k + 1) = true := by simp [eqF, h, h']
theorem eqF_iff {F G : Nat → Fm} {n : Nat} : eqF F G n = true ↔ ∀ i, i < n → sameF (F i) (G i) = true := by
  induction n with
  | zero => exact ⟨fun _ i hi => absurd hi (Nat.not_lt_zero _), fun _ => rfl⟩
  | succ n ih =>
    unfold eqF
    simp only [Bool.and_eq_true, ih]
    refine ⟨fun h i hi => ?_, fun h => ⟨fun i hi => h i (by omega), h n (by omega)⟩⟩
    by_cases e : i = n
    · subst e; exact h.2
    · exact h.1 i (by omega)
theorem eqF_false {F G : Nat → Fm} {k n : Nat} (hk : k < n) (h : sameF (F k) (G k) = false) : eqF F G n = false := by
  cases q : eqF F G n with
  | false => rfl
  | true => rw [eqF_iff.1 q k hk] at h; cases h
/-- Two lists of frames are the same. -/
def sameX (n m : Nat) (X Y : Nat → Fm) : Bool := decide (n = m) && eqF X Y n
theorem sameX_self (n : Nat) {X Y : Nat → Fm} (h : ∀ i, i < n → sameF (X i) (Y i) = true) : sameX n n X Y = true := by simp [sameX, eqF_iff.2 h]
set_option maxHeartbeats 1000000 in
set_option maxRecDepth 100000 in
theorem frames_any (X Y : Nat → Fm) (va vb : Value) (n m : Nat) (w : World) (ha : Fs w va n X) (hb : Fs w vb m Y) :
    Calls Try.prog 16 #[va, vb] w fun e w' => e = .returned (.bool (sameX n m X Y)) ∧ Below w.heap.size w w' := by
  obtain ⟨pa, ca, rfl, la, ka⟩ := ha.shape
  obtain ⟨pb, cb, rfl, lb, kb⟩ := hb.shape
  unfold maxLen at ka kb
  by_cases hnm : n = m
  · subst hnm
    have HA := hide ha
    have HB := hide hb
    clear ha hb
    go_enter Try.func16, Try.ntmps16
    go_wp2
    go_loopw [5] (fun xi w1 => ∃ k : Nat, k ≤ n ∧ xi = .int .i64 k ∧ eqF X Y k = true ∧ Below w.heap.size w w1) (fun i _ => n - (intOf i).toNat)
    case atStart => exact ⟨0, by omega, rfl, rfl, Below.refl _ _⟩
    case round =>
      obtain ⟨k, hk, rfl, he, hbl⟩ := hrel
      have HE := hide he
      have HBL := hide hbl
      by_cases hlt : k < n
      · obtain ⟨ba, oa, BA, rfl, hba, hca⟩ := ((unhide HA).below hbl (Nat.le_refl _)).some (by omega)
        obtain ⟨bb, ob, BB, rfl, hbb, hcb⟩ := ((unhide HB).below hbl (Nat.le_refl _)).some (by omega)
        obtain ⟨p1, p2, p3⟩ := hca k hlt
        obtain ⟨q1, q2, q3⟩ := hcb k hlt
        obtain ⟨pk, ck, hbk, -, -⟩ := p3.shape
        obtain ⟨qk, dk, hdk, -, -⟩ := q3.shape
        rw [hbk] at p2 p3
        rw [hdk] at q2 q3
        have P3 := hide p3
        have Q3 := hide q3
        clear p3 q3 hca hcb he hbl hbk hdk
        have i1 : (0 : Int) ≤ (k : Int) := by omega
        have i2 : (k : Int) < (n : Int) := by omega
        cases hr : sameF (X k) (Y k) with
        | true =>
          have HR := hide hr
          have NX := hide (eqF_succ (unhide HE) hr)
          clear hr
          go_wp2
          go_region_held3 (fun w' => w'.cell? ⟨ba, oa + k * 2, none⟩ = some (.int .i64 (X k).t) ∧ w'.cell? ⟨ba, oa + k * 2 + 1, none⟩ = some (.slice pk (X k).n ck) ∧ w'.cell? ⟨bb, ob + k * 2, none⟩ = some (.int .i64 (Y k).t) ∧ w'.cell? ⟨bb, ob + k * 2 + 1, none⟩ = some (.slice qk (Y k).n dk))
            (first
              | exact ⟨p1, p2, q1, q2⟩
              | exact ⟨(by assumption), (by assumption), (by assumption), (by assumption)⟩
              | go_keep)
            (first
              | (go_at_call 17; refine (frame_any (X k) (Y k) _ _ _ ((unhide P3).below (below_drewN (Below.refl _ _) 1) (Nat.le_refl _)) ((unhide Q3).below (below_drewN (Below.refl _ _) 1) (Nat.le_refl _))).mono ?_; rw [unhide HR]; rintro e w3 ⟨rfl, b3⟩; have z1 := (b3.cell (p := ⟨ba, oa + k * 2, none⟩) hba).trans p1; have z2 := (b3.cell (p := ⟨ba, oa + k * 2 + 1, none⟩) hba).trans p2; have z3 := (b3.cell (p := ⟨bb, ob + k * 2, none⟩) hbb).trans q1; have z4 := (b3.cell (p := ⟨bb, ob + k * 2 + 1, none⟩) hbb).trans q2; have B3 := hide (below_of (w0 := wr.drewN 1) (below_drewN (unhide HBL) 1) b3); clear b3))
          go_wp2
          go_roundw
          case rel => exact ⟨k + 1, by omega, by go_num, unhide NX, unhide B3⟩
          case measure => simp [intOf]; omega
        | false =>
          have HR := hide hr
          have R := hide (show sameX n n X Y = false by simp [sameX, eqF_false hlt hr])
          clear hr
          go_wp2
          go_region_held3 (fun w' => w'.cell? ⟨ba, oa + k * 2, none⟩ = some (.int .i64 (X k).t) ∧ w'.cell? ⟨ba, oa + k * 2 + 1, none⟩ = some (.slice pk (X k).n ck) ∧ w'.cell? ⟨bb, ob + k * 2, none⟩ = some (.int .i64 (Y k).t) ∧ w'.cell? ⟨bb, ob + k * 2 + 1, none⟩ = some (.slice qk (Y k).n dk))
            (first
              | exact ⟨p1, p2, q1, q2⟩
              | exact ⟨(by assumption), (by assumption), (by assumption), (by assumption)⟩
              | go_keep)
            (first
              | (go_at_call 17; refine (frame_any (X k) (Y k) _ _ _ ((unhide P3).below (below_drewN (Below.refl _ _) 1) (Nat.le_refl _)) ((unhide Q3).below (below_drewN (Below.refl _ _) 1) (Nat.le_refl _))).mono ?_; rw [unhide HR]; rintro e w3 ⟨rfl, b3⟩; have z1 := (b3.cell (p := ⟨ba, oa + k * 2, none⟩) hba).trans p1; have z2 := (b3.cell (p := ⟨ba, oa + k * 2 + 1, none⟩) hba).trans p2; have z3 := (b3.cell (p := ⟨bb, ob + k * 2, none⟩) hbb).trans q1; have z4 := (b3.cell (p := ⟨bb, ob + k * 2 + 1, none⟩) hbb).trans q2; have B3 := hide (below_of (w0 := wr.drewN 1) (below_drewN (unhide HBL) 1) b3); clear b3))
          go_wp2
          go_ret
          exact ⟨by rw [unhide R]; rfl, unhide B3⟩
      · obtain rfl : k = n := by omega
        have R := hide (show sameX k k X Y = true by simp [sameX, he])
        clear he hbl
        go_wp2
        go_ret
        exact ⟨by rw [unhide R]; rfl, unhide HBL⟩
  · have R := hide (show sameX n m X Y = false by simp [sameX, hnm])
    have e1 : ((n : Int) != (m : Int)) = true := by simpa using (show ¬ (n : Int) = m by omega)
    clear ha hb
    go_enter Try.func16, Try.ntmps16
    go_wp2
    go_ret
    exact ⟨by rw [unhide R]; rfl, Below.refl _ _⟩
end Go.Proofs.Ytpaeekpdchmfjaa
