/- Walk of wrongField. -/
import Derived.Test.YtfhglganaebpoaaDoorE5
namespace Go.Proofs.YtfhglganaebpoaaDoor
open Go.RowKit

/-- Errors in a list. -/
def two (a b : Value) (i : Nat) : Value := [a, b].getD i .nilIface
def three (a b c : Value) (i : Nat) : Value := [a, b, c].getD i .nilIface
/-- A value that is no error or a field's. -/
def Er (e : Addr) (v : Value) : Prop := v = .nilIface ∨ ∃ t, v = feV t e
theorem first_two (a b : Value) (e : Addr) (ha : Er e a) (hb : Er e b) (g : Nat) (w : World) (hg : Has w g (.cells #[a, b] 52)) : Calls Tryd.prog 24 #[.slice (some ⟨g, 0, none⟩) 2 2] w fun ev w' => ev = .returned (fst (two a b) 2) ∧ w' = w := by
  refine first_any (two a b) e g 2 w (by decide) hg.1 ?_ ?_
  · intro i hi
    match i, hi with
    | 0, _ => exact hg.cell (k := 0) rfl
    | 1, _ => exact hg.cell (k := 1) rfl
  · intro i hi
    match i, hi with
    | 0, _ => exact ha
    | 1, _ => exact hb
theorem first_three (a b c : Value) (e : Addr) (ha : Er e a) (hb : Er e b) (hc : Er e c) (g : Nat) (w : World) (hg : Has w g (.cells #[a, b, c] 52)) : Calls Tryd.prog 24 #[.slice (some ⟨g, 0, none⟩) 3 3] w fun ev w' => ev = .returned (fst (three a b c) 3) ∧ w' = w := by
  refine first_any (three a b c) e g 3 w (by decide) hg.1 ?_ ?_
  · intro i hi
    match i, hi with
    | 0, _ => exact hg.cell (k := 0) rfl
    | 1, _ => exact hg.cell (k := 1) rfl
    | 2, _ => exact hg.cell (k := 2) rfl
  · intro i hi
    match i, hi with
    | 0, _ => exact ha
    | 1, _ => exact hb
    | 2, _ => exact hc
/-- What wrongField answers. -/
def wfV (c : Cf) (s : Stp) (e : Addr) : Value :=
  if s.kd = 1 ∨ s.kd = 6 ∨ s.kd = 7 then wi (.string { data := #[78, 111, 100, 101] }) s.nd 0 (c.f0 - 1) e
  else if s.kd = 8 ∨ s.kd = 9 ∨ s.kd = 10 ∨ s.kd = 12 ∨ s.kd = 13 then fst (two (wi (.string { data := #[78, 111, 100, 101] }) s.nd 0 (c.f0 - 1) e) (wi (.string { data := #[84, 111, 112, 105, 99] }) s.tp 0 (c.f1 - 1) e)) 2
  else if s.kd = 11 then fst (three (wi (.string { data := #[78, 111, 100, 101] }) s.nd 0 (c.f0 - 1) e) (wi (.string { data := #[84, 111, 112, 105, 99] }) s.tp 0 (c.f1 - 1) e) (wi (.string { data := #[86, 97, 108, 117, 101] }) s.vl 0 255 e)) 3
  else if s.kd = 2 ∨ s.kd = 3 ∨ s.kd = 4 then wi (.string { data := #[86, 97, 108, 117, 101] }) s.vl 0 255 e
  else if s.kd = 5 then fst (three (wi (.string { data := #[86, 97, 108, 117, 101] }) s.vl 0 255 e) (wi (.string { data := #[84, 111, 112, 105, 99] }) s.tp 0 255 e) (wi (.string { data := #[77, 97, 115, 107] }) s.ms 1 255 e)) 3
  else feV (.string { data := #[75, 105, 110, 100] }) e

set_option maxHeartbeats 4000000 in
set_option maxRecDepth 100000 in
theorem wf_1 (c : Cf) (s : Stp) (e : Addr) (w : World) (hG : Glob w e) (hc : cfB c = true) (hk : s.kd = 1) : Calls Tryd.prog 26 #[cV c, sV s] w fun ev w' => ev = .returned (wi (.string { data := #[78, 111, 100, 101] }) s.nd 0 (c.f0 - 1) e) ∧ Below w.heap.size w w' := by
  obtain ⟨q0, q1, -⟩ := cfB_iff.1 hc
  have i0 := inB_iff.1 q0
  have i1 := inB_iff.1 q1
  obtain ⟨w2, hw2⟩ : ∃ q, q = (w.alloc (.cells #[.int .i64 c.f0, .int .i64 c.f1, .int .i64 c.f2, .int .i64 c.f3, .int .i64 c.f4, .int .i64 c.f5, .int .i64 c.f6] 23)).alloc (.cells #[.int .i64 s.kd, .int .i64 s.nd, .int .i64 s.tp, .int .i64 s.vl, .int .i64 s.ms] 27) := ⟨_, rfl⟩
  have B2 : Below w.heap.size w w2 := by subst hw2; exact below_alloc (below_alloc (Below.refl _ _) _) _
  have HA : Has w2 w.heap.size (.cells #[.int .i64 c.f0, .int .i64 c.f1, .int .i64 c.f2, .int .i64 c.f3, .int .i64 c.f4, .int .i64 c.f5, .int .i64 c.f6] 23) := by subst hw2; exact (Has.new _ _).alloc _
  have HB : Has w2 (w.heap.size + 1) (.cells #[.int .i64 s.kd, .int .i64 s.nd, .int .i64 s.tp, .int .i64 s.vl, .int .i64 s.ms] 27) := by subst hw2; have := Has.new (w.alloc (.cells #[.int .i64 c.f0, .int .i64 c.f1, .int .i64 c.f2, .int .i64 c.f3, .int .i64 c.f4, .int .i64 c.f5, .int .i64 c.f6] 23)) (.cells #[.int .i64 s.kd, .int .i64 s.nd, .int .i64 s.tp, .int .i64 s.vl, .int .i64 s.ms] 27); simpa using this
  have HG := hide (hG.below B2)
  have g0 := (unhide HG).2.1
  have CN : Hid (∀ w1, Below w2.heap.size w2 w1 → Calls Tryd.prog 25 #[.string { data := #[78, 111, 100, 101] }, .int .i64 s.nd, .int .i64 0, .int .i64 (c.f0 - 1)] w1 fun ev w' => ev = .returned (wi (.string { data := #[78, 111, 100, 101] }) s.nd 0 (c.f0 - 1) e) ∧ w' = w1) := hide fun w1 b => within_any _ _ _ _ e w1 ((unhide HG).below b)
  have CT : Hid (∀ w1, Below w2.heap.size w2 w1 → Calls Tryd.prog 25 #[.string { data := #[84, 111, 112, 105, 99] }, .int .i64 s.tp, .int .i64 0, .int .i64 (c.f1 - 1)] w1 fun ev w' => ev = .returned (wi (.string { data := #[84, 111, 112, 105, 99] }) s.tp 0 (c.f1 - 1) e) ∧ w' = w1) := hide fun w1 b => within_any _ _ _ _ e w1 ((unhide HG).below b)
  have CV : Hid (∀ w1, Below w2.heap.size w2 w1 → Calls Tryd.prog 25 #[.string { data := #[86, 97, 108, 117, 101] }, .int .i64 s.vl, .int .i64 0, .int .i64 255] w1 fun ev w' => ev = .returned (wi (.string { data := #[86, 97, 108, 117, 101] }) s.vl 0 255 e) ∧ w' = w1) := hide fun w1 b => within_any _ _ _ _ e w1 ((unhide HG).below b)
  have c0 := HA.cell (k := 0) rfl
  have c1 := HA.cell (k := 1) rfl
  have s0 := HB.cell (k := 0) rfl
  have s1 := HB.cell (k := 1) rfl
  have s2 := HB.cell (k := 2) rfl
  have s3 := HB.cell (k := 3) rfl
  have s4 := HB.cell (k := 4) rfl
  have SA := HA.1
  have SB := HB.1
  clear HA HB q0 q1 hc
  have Evn : Er e (wi (.string { data := #[78, 111, 100, 101] }) s.nd 0 (c.f0 - 1) e) := wi_or _ _ _ _ _
  have Evt : Er e (wi (.string { data := #[84, 111, 112, 105, 99] }) s.tp 0 (c.f1 - 1) e) := wi_or _ _ _ _ _
  have Evv : Er e (wi (.string { data := #[86, 97, 108, 117, 101] }) s.vl 0 255 e) := wi_or _ _ _ _ _
  have kvn := cells_or Evn
  have nvn := noagg_or Evn
  have kvt := cells_or Evt
  have nvt := noagg_or Evt
  have kvv := cells_or Evv
  have nvv := noagg_or Evv
  generalize wi (.string { data := #[78, 111, 100, 101] }) s.nd 0 (c.f0 - 1) e = vn at *
  generalize wi (.string { data := #[84, 111, 112, 105, 99] }) s.tp 0 (c.f1 - 1) e = vt at *
  generalize wi (.string { data := #[86, 97, 108, 117, 101] }) s.vl 0 255 e = vv at *
  unfold cV sV
  obtain ⟨f0, f1, f2, f3, f4, f5, f6⟩ := c
  obtain ⟨kd, nd, tp, vl, ms⟩ := s
  dsimp only at *
  subst hk
  go_enter Tryd.func26, Tryd.ntmps26
  go_upto_region 1 with fail
  rw [← hw2]
  clear hw2
  go_wp2_with (first
    | (go_at_call 25; (with_reducible refine (unhide CN _ (Below.refl _ _)).mono ?_); rintro ev w9 ⟨rfl, hw⟩; obtain rfl := hw.symm)
    | (go_at_call 25; (with_reducible refine (unhide CT _ (Below.refl _ _)).mono ?_); rintro ev w9 ⟨rfl, hw⟩; obtain rfl := hw.symm)
    | (go_at_call 25; (with_reducible refine (unhide CV _ (Below.refl _ _)).mono ?_); rintro ev w9 ⟨rfl, hw⟩; obtain rfl := hw.symm)
    | (go_at_call 24; (with_reducible refine (unhide CF).mono ?_); rintro ev w9 ⟨rfl, rfl⟩))
  go_ret
  exact ⟨rfl, B2⟩

set_option maxHeartbeats 4000000 in
set_option maxRecDepth 100000 in
theorem wf_6 (c : Cf) (s : Stp) (e : Addr) (w : World) (hG : Glob w e) (hc : cfB c = true) (hk : s.kd = 6) : Calls Tryd.prog 26 #[cV c, sV s] w fun ev w' => ev = .returned (wi (.string { data := #[78, 111, 100, 101] }) s.nd 0 (c.f0 - 1) e) ∧ Below w.heap.size w w' := by
  obtain ⟨q0, q1, -⟩ := cfB_iff.1 hc
  have i0 := inB_iff.1 q0
  have i1 := inB_iff.1 q1
  obtain ⟨w2, hw2⟩ : ∃ q, q = (w.alloc (.cells #[.int .i64 c.f0, .int .i64 c.f1, .int .i64 c.f2, .int .i64 c.f3, .int .i64 c.f4, .int .i64 c.f5, .int .i64 c.f6] 23)).alloc (.cells #[.int .i64 s.kd, .int .i64 s.nd, .int .i64 s.tp, .int .i64 s.vl, .int .i64 s.ms] 27) := ⟨_, rfl⟩
  have B2 : Below w.heap.size w w2 := by subst hw2; exact below_alloc (below_alloc (Below.refl _ _) _) _
  have HA : Has w2 w.heap.size (.cells #[.int .i64 c.f0, .int .i64 c.f1, .int .i64 c.f2, .int .i64 c.f3, .int .i64 c.f4, .int .i64 c.f5, .int .i64 c.f6] 23) := by subst hw2; exact (Has.new _ _).alloc _
  have HB : Has w2 (w.heap.size + 1) (.cells #[.int .i64 s.kd, .int .i64 s.nd, .int .i64 s.tp, .int .i64 s.vl, .int .i64 s.ms] 27) := by subst hw2; have := Has.new (w.alloc (.cells #[.int .i64 c.f0, .int .i64 c.f1, .int .i64 c.f2, .int .i64 c.f3, .int .i64 c.f4, .int .i64 c.f5, .int .i64 c.f6] 23)) (.cells #[.int .i64 s.kd, .int .i64 s.nd, .int .i64 s.tp, .int .i64 s.vl, .int .i64 s.ms] 27); simpa using this
  have HG := hide (hG.below B2)
  have g0 := (unhide HG).2.1
  have CN : Hid (∀ w1, Below w2.heap.size w2 w1 → Calls Tryd.prog 25 #[.string { data := #[78, 111, 100, 101] }, .int .i64 s.nd, .int .i64 0, .int .i64 (c.f0 - 1)] w1 fun ev w' => ev = .returned (wi (.string { data := #[78, 111, 100, 101] }) s.nd 0 (c.f0 - 1) e) ∧ w' = w1) := hide fun w1 b => within_any _ _ _ _ e w1 ((unhide HG).below b)
  have CT : Hid (∀ w1, Below w2.heap.size w2 w1 → Calls Tryd.prog 25 #[.string { data := #[84, 111, 112, 105, 99] }, .int .i64 s.tp, .int .i64 0, .int .i64 (c.f1 - 1)] w1 fun ev w' => ev = .returned (wi (.string { data := #[84, 111, 112, 105, 99] }) s.tp 0 (c.f1 - 1) e) ∧ w' = w1) := hide fun w1 b => within_any _ _ _ _ e w1 ((unhide HG).below b)
  have CV : Hid (∀ w1, Below w2.heap.size w2 w1 → Calls Tryd.prog 25 #[.string { data := #[86, 97, 108, 117, 101] }, .int .i64 s.vl, .int .i64 0, .int .i64 255] w1 fun ev w' => ev = .returned (wi (.string { data := #[86, 97, 108, 117, 101] }) s.vl 0 255 e) ∧ w' = w1) := hide fun w1 b => within_any _ _ _ _ e w1 ((unhide HG).below b)
  have c0 := HA.cell (k := 0) rfl
  have c1 := HA.cell (k := 1) rfl
  have s0 := HB.cell (k := 0) rfl
  have s1 := HB.cell (k := 1) rfl
  have s2 := HB.cell (k := 2) rfl
  have s3 := HB.cell (k := 3) rfl
  have s4 := HB.cell (k := 4) rfl
  have SA := HA.1
  have SB := HB.1
  clear HA HB q0 q1 hc
  have Evn : Er e (wi (.string { data := #[78, 111, 100, 101] }) s.nd 0 (c.f0 - 1) e) := wi_or _ _ _ _ _
  have Evt : Er e (wi (.string { data := #[84, 111, 112, 105, 99] }) s.tp 0 (c.f1 - 1) e) := wi_or _ _ _ _ _
  have Evv : Er e (wi (.string { data := #[86, 97, 108, 117, 101] }) s.vl 0 255 e) := wi_or _ _ _ _ _
  have kvn := cells_or Evn
  have nvn := noagg_or Evn
  have kvt := cells_or Evt
  have nvt := noagg_or Evt
  have kvv := cells_or Evv
  have nvv := noagg_or Evv
  generalize wi (.string { data := #[78, 111, 100, 101] }) s.nd 0 (c.f0 - 1) e = vn at *
  generalize wi (.string { data := #[84, 111, 112, 105, 99] }) s.tp 0 (c.f1 - 1) e = vt at *
  generalize wi (.string { data := #[86, 97, 108, 117, 101] }) s.vl 0 255 e = vv at *
  unfold cV sV
  obtain ⟨f0, f1, f2, f3, f4, f5, f6⟩ := c
  obtain ⟨kd, nd, tp, vl, ms⟩ := s
  dsimp only at *
  subst hk
  go_enter Tryd.func26, Tryd.ntmps26
  go_upto_region 1 with fail
  rw [← hw2]
  clear hw2
  go_wp2_with (first
    | (go_at_call 25; (with_reducible refine (unhide CN _ (Below.refl _ _)).mono ?_); rintro ev w9 ⟨rfl, hw⟩; obtain rfl := hw.symm)
    | (go_at_call 25; (with_reducible refine (unhide CT _ (Below.refl _ _)).mono ?_); rintro ev w9 ⟨rfl, hw⟩; obtain rfl := hw.symm)
    | (go_at_call 25; (with_reducible refine (unhide CV _ (Below.refl _ _)).mono ?_); rintro ev w9 ⟨rfl, hw⟩; obtain rfl := hw.symm)
    | (go_at_call 24; (with_reducible refine (unhide CF).mono ?_); rintro ev w9 ⟨rfl, rfl⟩))
  go_ret
  exact ⟨rfl, B2⟩

set_option maxHeartbeats 4000000 in
set_option maxRecDepth 100000 in
theorem wf_7 (c : Cf) (s : Stp) (e : Addr) (w : World) (hG : Glob w e) (hc : cfB c = true) (hk : s.kd = 7) : Calls Tryd.prog 26 #[cV c, sV s] w fun ev w' => ev = .returned (wi (.string { data := #[78, 111, 100, 101] }) s.nd 0 (c.f0 - 1) e) ∧ Below w.heap.size w w' := by
  obtain ⟨q0, q1, -⟩ := cfB_iff.1 hc
  have i0 := inB_iff.1 q0
  have i1 := inB_iff.1 q1
  obtain ⟨w2, hw2⟩ : ∃ q, q = (w.alloc (.cells #[.int .i64 c.f0, .int .i64 c.f1, .int .i64 c.f2, .int .i64 c.f3, .int .i64 c.f4, .int .i64 c.f5, .int .i64 c.f6] 23)).alloc (.cells #[.int .i64 s.kd, .int .i64 s.nd, .int .i64 s.tp, .int .i64 s.vl, .int .i64 s.ms] 27) := ⟨_, rfl⟩
  have B2 : Below w.heap.size w w2 := by subst hw2; exact below_alloc (below_alloc (Below.refl _ _) _) _
  have HA : Has w2 w.heap.size (.cells #[.int .i64 c.f0, .int .i64 c.f1, .int .i64 c.f2, .int .i64 c.f3, .int .i64 c.f4, .int .i64 c.f5, .int .i64 c.f6] 23) := by subst hw2; exact (Has.new _ _).alloc _
  have HB : Has w2 (w.heap.size + 1) (.cells #[.int .i64 s.kd, .int .i64 s.nd, .int .i64 s.tp, .int .i64 s.vl, .int .i64 s.ms] 27) := by subst hw2; have := Has.new (w.alloc (.cells #[.int .i64 c.f0, .int .i64 c.f1, .int .i64 c.f2, .int .i64 c.f3, .int .i64 c.f4, .int .i64 c.f5, .int .i64 c.f6] 23)) (.cells #[.int .i64 s.kd, .int .i64 s.nd, .int .i64 s.tp, .int .i64 s.vl, .int .i64 s.ms] 27); simpa using this
  have HG := hide (hG.below B2)
  have g0 := (unhide HG).2.1
  have CN : Hid (∀ w1, Below w2.heap.size w2 w1 → Calls Tryd.prog 25 #[.string { data := #[78, 111, 100, 101] }, .int .i64 s.nd, .int .i64 0, .int .i64 (c.f0 - 1)] w1 fun ev w' => ev = .returned (wi (.string { data := #[78, 111, 100, 101] }) s.nd 0 (c.f0 - 1) e) ∧ w' = w1) := hide fun w1 b => within_any _ _ _ _ e w1 ((unhide HG).below b)
  have CT : Hid (∀ w1, Below w2.heap.size w2 w1 → Calls Tryd.prog 25 #[.string { data := #[84, 111, 112, 105, 99] }, .int .i64 s.tp, .int .i64 0, .int .i64 (c.f1 - 1)] w1 fun ev w' => ev = .returned (wi (.string { data := #[84, 111, 112, 105, 99] }) s.tp 0 (c.f1 - 1) e) ∧ w' = w1) := hide fun w1 b => within_any _ _ _ _ e w1 ((unhide HG).below b)
  have CV : Hid (∀ w1, Below w2.heap.size w2 w1 → Calls Tryd.prog 25 #[.string { data := #[86, 97, 108, 117, 101] }, .int .i64 s.vl, .int .i64 0, .int .i64 255] w1 fun ev w' => ev = .returned (wi (.string { data := #[86, 97, 108, 117, 101] }) s.vl 0 255 e) ∧ w' = w1) := hide fun w1 b => within_any _ _ _ _ e w1 ((unhide HG).below b)
  have c0 := HA.cell (k := 0) rfl
  have c1 := HA.cell (k := 1) rfl
  have s0 := HB.cell (k := 0) rfl
  have s1 := HB.cell (k := 1) rfl
  have s2 := HB.cell (k := 2) rfl
  have s3 := HB.cell (k := 3) rfl
  have s4 := HB.cell (k := 4) rfl
  have SA := HA.1
  have SB := HB.1
  clear HA HB q0 q1 hc
  have Evn : Er e (wi (.string { data := #[78, 111, 100, 101] }) s.nd 0 (c.f0 - 1) e) := wi_or _ _ _ _ _
  have Evt : Er e (wi (.string { data := #[84, 111, 112, 105, 99] }) s.tp 0 (c.f1 - 1) e) := wi_or _ _ _ _ _
  have Evv : Er e (wi (.string { data := #[86, 97, 108, 117, 101] }) s.vl 0 255 e) := wi_or _ _ _ _ _
  have kvn := cells_or Evn
  have nvn := noagg_or Evn
  have kvt := cells_or Evt
  have nvt := noagg_or Evt
  have kvv := cells_or Evv
  have nvv := noagg_or Evv
  generalize wi (.string { data := #[78, 111, 100, 101] }) s.nd 0 (c.f0 - 1) e = vn at *
  generalize wi (.string { data := #[84, 111, 112, 105, 99] }) s.tp 0 (c.f1 - 1) e = vt at *
  generalize wi (.string { data := #[86, 97, 108, 117, 101] }) s.vl 0 255 e = vv at *
  unfold cV sV
  obtain ⟨f0, f1, f2, f3, f4, f5, f6⟩ := c
  obtain ⟨kd, nd, tp, vl, ms⟩ := s
  dsimp only at *
  subst hk
  go_enter Tryd.func26, Tryd.ntmps26
  go_upto_region 1 with fail
  rw [← hw2]
  clear hw2
  go_wp2_with (first
    | (go_at_call 25; (with_reducible refine (unhide CN _ (Below.refl _ _)).mono ?_); rintro ev w9 ⟨rfl, hw⟩; obtain rfl := hw.symm)
    | (go_at_call 25; (with_reducible refine (unhide CT _ (Below.refl _ _)).mono ?_); rintro ev w9 ⟨rfl, hw⟩; obtain rfl := hw.symm)
    | (go_at_call 25; (with_reducible refine (unhide CV _ (Below.refl _ _)).mono ?_); rintro ev w9 ⟨rfl, hw⟩; obtain rfl := hw.symm)
    | (go_at_call 24; (with_reducible refine (unhide CF).mono ?_); rintro ev w9 ⟨rfl, rfl⟩))
  go_ret
  exact ⟨rfl, B2⟩

set_option maxHeartbeats 4000000 in
set_option maxRecDepth 100000 in
theorem wf_2 (c : Cf) (s : Stp) (e : Addr) (w : World) (hG : Glob w e) (hc : cfB c = true) (hk : s.kd = 2) : Calls Tryd.prog 26 #[cV c, sV s] w fun ev w' => ev = .returned (wi (.string { data := #[86, 97, 108, 117, 101] }) s.vl 0 255 e) ∧ Below w.heap.size w w' := by
  obtain ⟨q0, q1, -⟩ := cfB_iff.1 hc
  have i0 := inB_iff.1 q0
  have i1 := inB_iff.1 q1
  obtain ⟨w2, hw2⟩ : ∃ q, q = (w.alloc (.cells #[.int .i64 c.f0, .int .i64 c.f1, .int .i64 c.f2, .int .i64 c.f3, .int .i64 c.f4, .int .i64 c.f5, .int .i64 c.f6] 23)).alloc (.cells #[.int .i64 s.kd, .int .i64 s.nd, .int .i64 s.tp, .int .i64 s.vl, .int .i64 s.ms] 27) := ⟨_, rfl⟩
  have B2 : Below w.heap.size w w2 := by subst hw2; exact below_alloc (below_alloc (Below.refl _ _) _) _
  have HA : Has w2 w.heap.size (.cells #[.int .i64 c.f0, .int .i64 c.f1, .int .i64 c.f2, .int .i64 c.f3, .int .i64 c.f4, .int .i64 c.f5, .int .i64 c.f6] 23) := by subst hw2; exact (Has.new _ _).alloc _
  have HB : Has w2 (w.heap.size + 1) (.cells #[.int .i64 s.kd, .int .i64 s.nd, .int .i64 s.tp, .int .i64 s.vl, .int .i64 s.ms] 27) := by subst hw2; have := Has.new (w.alloc (.cells #[.int .i64 c.f0, .int .i64 c.f1, .int .i64 c.f2, .int .i64 c.f3, .int .i64 c.f4, .int .i64 c.f5, .int .i64 c.f6] 23)) (.cells #[.int .i64 s.kd, .int .i64 s.nd, .int .i64 s.tp, .int .i64 s.vl, .int .i64 s.ms] 27); simpa using this
  have HG := hide (hG.below B2)
  have g0 := (unhide HG).2.1
  have CN : Hid (∀ w1, Below w2.heap.size w2 w1 → Calls Tryd.prog 25 #[.string { data := #[78, 111, 100, 101] }, .int .i64 s.nd, .int .i64 0, .int .i64 (c.f0 - 1)] w1 fun ev w' => ev = .returned (wi (.string { data := #[78, 111, 100, 101] }) s.nd 0 (c.f0 - 1) e) ∧ w' = w1) := hide fun w1 b => within_any _ _ _ _ e w1 ((unhide HG).below b)
  have CT : Hid (∀ w1, Below w2.heap.size w2 w1 → Calls Tryd.prog 25 #[.string { data := #[84, 111, 112, 105, 99] }, .int .i64 s.tp, .int .i64 0, .int .i64 (c.f1 - 1)] w1 fun ev w' => ev = .returned (wi (.string { data := #[84, 111, 112, 105, 99] }) s.tp 0 (c.f1 - 1) e) ∧ w' = w1) := hide fun w1 b => within_any _ _ _ _ e w1 ((unhide HG).below b)
  have CV : Hid (∀ w1, Below w2.heap.size w2 w1 → Calls Tryd.prog 25 #[.string { data := #[86, 97, 108, 117, 101] }, .int .i64 s.vl, .int .i64 0, .int .i64 255] w1 fun ev w' => ev = .returned (wi (.string { data := #[86, 97, 108, 117, 101] }) s.vl 0 255 e) ∧ w' = w1) := hide fun w1 b => within_any _ _ _ _ e w1 ((unhide HG).below b)
  have c0 := HA.cell (k := 0) rfl
  have c1 := HA.cell (k := 1) rfl
  have s0 := HB.cell (k := 0) rfl
  have s1 := HB.cell (k := 1) rfl
  have s2 := HB.cell (k := 2) rfl
  have s3 := HB.cell (k := 3) rfl
  have s4 := HB.cell (k := 4) rfl
  have SA := HA.1
  have SB := HB.1
  clear HA HB q0 q1 hc
  have Evn : Er e (wi (.string { data := #[78, 111, 100, 101] }) s.nd 0 (c.f0 - 1) e) := wi_or _ _ _ _ _
  have Evt : Er e (wi (.string { data := #[84, 111, 112, 105, 99] }) s.tp 0 (c.f1 - 1) e) := wi_or _ _ _ _ _
  have Evv : Er e (wi (.string { data := #[86, 97, 108, 117, 101] }) s.vl 0 255 e) := wi_or _ _ _ _ _
  have kvn := cells_or Evn
  have nvn := noagg_or Evn
  have kvt := cells_or Evt
  have nvt := noagg_or Evt
  have kvv := cells_or Evv
  have nvv := noagg_or Evv
  generalize wi (.string { data := #[78, 111, 100, 101] }) s.nd 0 (c.f0 - 1) e = vn at *
  generalize wi (.string { data := #[84, 111, 112, 105, 99] }) s.tp 0 (c.f1 - 1) e = vt at *
  generalize wi (.string { data := #[86, 97, 108, 117, 101] }) s.vl 0 255 e = vv at *
  unfold cV sV
  obtain ⟨f0, f1, f2, f3, f4, f5, f6⟩ := c
  obtain ⟨kd, nd, tp, vl, ms⟩ := s
  dsimp only at *
  subst hk
  go_enter Tryd.func26, Tryd.ntmps26
  go_upto_region 1 with fail
  rw [← hw2]
  clear hw2
  go_wp2_with (first
    | (go_at_call 25; (with_reducible refine (unhide CN _ (Below.refl _ _)).mono ?_); rintro ev w9 ⟨rfl, hw⟩; obtain rfl := hw.symm)
    | (go_at_call 25; (with_reducible refine (unhide CT _ (Below.refl _ _)).mono ?_); rintro ev w9 ⟨rfl, hw⟩; obtain rfl := hw.symm)
    | (go_at_call 25; (with_reducible refine (unhide CV _ (Below.refl _ _)).mono ?_); rintro ev w9 ⟨rfl, hw⟩; obtain rfl := hw.symm)
    | (go_at_call 24; (with_reducible refine (unhide CF).mono ?_); rintro ev w9 ⟨rfl, rfl⟩))
  go_ret
  exact ⟨rfl, B2⟩

set_option maxHeartbeats 4000000 in
set_option maxRecDepth 100000 in
theorem wf_3 (c : Cf) (s : Stp) (e : Addr) (w : World) (hG : Glob w e) (hc : cfB c = true) (hk : s.kd = 3) : Calls Tryd.prog 26 #[cV c, sV s] w fun ev w' => ev = .returned (wi (.string { data := #[86, 97, 108, 117, 101] }) s.vl 0 255 e) ∧ Below w.heap.size w w' := by
  obtain ⟨q0, q1, -⟩ := cfB_iff.1 hc
  have i0 := inB_iff.1 q0
  have i1 := inB_iff.1 q1
  obtain ⟨w2, hw2⟩ : ∃ q, q = (w.alloc (.cells #[.int .i64 c.f0, .int .i64 c.f1, .int .i64 c.f2, .int .i64 c.f3, .int .i64 c.f4, .int .i64 c.f5, .int .i64 c.f6] 23)).alloc (.cells #[.int .i64 s.kd, .int .i64 s.nd, .int .i64 s.tp, .int .i64 s.vl, .int .i64 s.ms] 27) := ⟨_, rfl⟩
  have B2 : Below w.heap.size w w2 := by subst hw2; exact below_alloc (below_alloc (Below.refl _ _) _) _
  have HA : Has w2 w.heap.size (.cells #[.int .i64 c.f0, .int .i64 c.f1, .int .i64 c.f2, .int .i64 c.f3, .int .i64 c.f4, .int .i64 c.f5, .int .i64 c.f6] 23) := by subst hw2; exact (Has.new _ _).alloc _
  have HB : Has w2 (w.heap.size + 1) (.cells #[.int .i64 s.kd, .int .i64 s.nd, .int .i64 s.tp, .int .i64 s.vl, .int .i64 s.ms] 27) := by subst hw2; have := Has.new (w.alloc (.cells #[.int .i64 c.f0, .int .i64 c.f1, .int .i64 c.f2, .int .i64 c.f3, .int .i64 c.f4, .int .i64 c.f5, .int .i64 c.f6] 23)) (.cells #[.int .i64 s.kd, .int .i64 s.nd, .int .i64 s.tp, .int .i64 s.vl, .int .i64 s.ms] 27); simpa using this
  have HG := hide (hG.below B2)
  have g0 := (unhide HG).2.1
  have CN : Hid (∀ w1, Below w2.heap.size w2 w1 → Calls Tryd.prog 25 #[.string { data := #[78, 111, 100, 101] }, .int .i64 s.nd, .int .i64 0, .int .i64 (c.f0 - 1)] w1 fun ev w' => ev = .returned (wi (.string { data := #[78, 111, 100, 101] }) s.nd 0 (c.f0 - 1) e) ∧ w' = w1) := hide fun w1 b => within_any _ _ _ _ e w1 ((unhide HG).below b)
  have CT : Hid (∀ w1, Below w2.heap.size w2 w1 → Calls Tryd.prog 25 #[.string { data := #[84, 111, 112, 105, 99] }, .int .i64 s.tp, .int .i64 0, .int .i64 (c.f1 - 1)] w1 fun ev w' => ev = .returned (wi (.string { data := #[84, 111, 112, 105, 99] }) s.tp 0 (c.f1 - 1) e) ∧ w' = w1) := hide fun w1 b => within_any _ _ _ _ e w1 ((unhide HG).below b)
  have CV : Hid (∀ w1, Below w2.heap.size w2 w1 → Calls Tryd.prog 25 #[.string { data := #[86, 97, 108, 117, 101] }, .int .i64 s.vl, .int .i64 0, .int .i64 255] w1 fun ev w' => ev = .returned (wi (.string { data := #[86, 97, 108, 117, 101] }) s.vl 0 255 e) ∧ w' = w1) := hide fun w1 b => within_any _ _ _ _ e w1 ((unhide HG).below b)
  have c0 := HA.cell (k := 0) rfl
  have c1 := HA.cell (k := 1) rfl
  have s0 := HB.cell (k := 0) rfl
  have s1 := HB.cell (k := 1) rfl
  have s2 := HB.cell (k := 2) rfl
  have s3 := HB.cell (k := 3) rfl
  have s4 := HB.cell (k := 4) rfl
  have SA := HA.1
  have SB := HB.1
  clear HA HB q0 q1 hc
  have Evn : Er e (wi (.string { data := #[78, 111, 100, 101] }) s.nd 0 (c.f0 - 1) e) := wi_or _ _ _ _ _
  have Evt : Er e (wi (.string { data := #[84, 111, 112, 105, 99] }) s.tp 0 (c.f1 - 1) e) := wi_or _ _ _ _ _
  have Evv : Er e (wi (.string { data := #[86, 97, 108, 117, 101] }) s.vl 0 255 e) := wi_or _ _ _ _ _
  have kvn := cells_or Evn
  have nvn := noagg_or Evn
  have kvt := cells_or Evt
  have nvt := noagg_or Evt
  have kvv := cells_or Evv
  have nvv := noagg_or Evv
  generalize wi (.string { data := #[78, 111, 100, 101] }) s.nd 0 (c.f0 - 1) e = vn at *
  generalize wi (.string { data := #[84, 111, 112, 105, 99] }) s.tp 0 (c.f1 - 1) e = vt at *
  generalize wi (.string { data := #[86, 97, 108, 117, 101] }) s.vl 0 255 e = vv at *
  unfold cV sV
  obtain ⟨f0, f1, f2, f3, f4, f5, f6⟩ := c
  obtain ⟨kd, nd, tp, vl, ms⟩ := s
  dsimp only at *
  subst hk
  go_enter Tryd.func26, Tryd.ntmps26
  go_upto_region 1 with fail
  rw [← hw2]
  clear hw2
  go_wp2_with (first
    | (go_at_call 25; (with_reducible refine (unhide CN _ (Below.refl _ _)).mono ?_); rintro ev w9 ⟨rfl, hw⟩; obtain rfl := hw.symm)
    | (go_at_call 25; (with_reducible refine (unhide CT _ (Below.refl _ _)).mono ?_); rintro ev w9 ⟨rfl, hw⟩; obtain rfl := hw.symm)
    | (go_at_call 25; (with_reducible refine (unhide CV _ (Below.refl _ _)).mono ?_); rintro ev w9 ⟨rfl, hw⟩; obtain rfl := hw.symm)
    | (go_at_call 24; (with_reducible refine (unhide CF).mono ?_); rintro ev w9 ⟨rfl, rfl⟩))
  go_ret
  exact ⟨rfl, B2⟩

set_option maxHeartbeats 4000000 in
set_option maxRecDepth 100000 in
theorem wf_4 (c : Cf) (s : Stp) (e : Addr) (w : World) (hG : Glob w e) (hc : cfB c = true) (hk : s.kd = 4) : Calls Tryd.prog 26 #[cV c, sV s] w fun ev w' => ev = .returned (wi (.string { data := #[86, 97, 108, 117, 101] }) s.vl 0 255 e) ∧ Below w.heap.size w w' := by
  obtain ⟨q0, q1, -⟩ := cfB_iff.1 hc
  have i0 := inB_iff.1 q0
  have i1 := inB_iff.1 q1
  obtain ⟨w2, hw2⟩ : ∃ q, q = (w.alloc (.cells #[.int .i64 c.f0, .int .i64 c.f1, .int .i64 c.f2, .int .i64 c.f3, .int .i64 c.f4, .int .i64 c.f5, .int .i64 c.f6] 23)).alloc (.cells #[.int .i64 s.kd, .int .i64 s.nd, .int .i64 s.tp, .int .i64 s.vl, .int .i64 s.ms] 27) := ⟨_, rfl⟩
  have B2 : Below w.heap.size w w2 := by subst hw2; exact below_alloc (below_alloc (Below.refl _ _) _) _
  have HA : Has w2 w.heap.size (.cells #[.int .i64 c.f0, .int .i64 c.f1, .int .i64 c.f2, .int .i64 c.f3, .int .i64 c.f4, .int .i64 c.f5, .int .i64 c.f6] 23) := by subst hw2; exact (Has.new _ _).alloc _
  have HB : Has w2 (w.heap.size + 1) (.cells #[.int .i64 s.kd, .int .i64 s.nd, .int .i64 s.tp, .int .i64 s.vl, .int .i64 s.ms] 27) := by subst hw2; have := Has.new (w.alloc (.cells #[.int .i64 c.f0, .int .i64 c.f1, .int .i64 c.f2, .int .i64 c.f3, .int .i64 c.f4, .int .i64 c.f5, .int .i64 c.f6] 23)) (.cells #[.int .i64 s.kd, .int .i64 s.nd, .int .i64 s.tp, .int .i64 s.vl, .int .i64 s.ms] 27); simpa using this
  have HG := hide (hG.below B2)
  have g0 := (unhide HG).2.1
  have CN : Hid (∀ w1, Below w2.heap.size w2 w1 → Calls Tryd.prog 25 #[.string { data := #[78, 111, 100, 101] }, .int .i64 s.nd, .int .i64 0, .int .i64 (c.f0 - 1)] w1 fun ev w' => ev = .returned (wi (.string { data := #[78, 111, 100, 101] }) s.nd 0 (c.f0 - 1) e) ∧ w' = w1) := hide fun w1 b => within_any _ _ _ _ e w1 ((unhide HG).below b)
  have CT : Hid (∀ w1, Below w2.heap.size w2 w1 → Calls Tryd.prog 25 #[.string { data := #[84, 111, 112, 105, 99] }, .int .i64 s.tp, .int .i64 0, .int .i64 (c.f1 - 1)] w1 fun ev w' => ev = .returned (wi (.string { data := #[84, 111, 112, 105, 99] }) s.tp 0 (c.f1 - 1) e) ∧ w' = w1) := hide fun w1 b => within_any _ _ _ _ e w1 ((unhide HG).below b)
  have CV : Hid (∀ w1, Below w2.heap.size w2 w1 → Calls Tryd.prog 25 #[.string { data := #[86, 97, 108, 117, 101] }, .int .i64 s.vl, .int .i64 0, .int .i64 255] w1 fun ev w' => ev = .returned (wi (.string { data := #[86, 97, 108, 117, 101] }) s.vl 0 255 e) ∧ w' = w1) := hide fun w1 b => within_any _ _ _ _ e w1 ((unhide HG).below b)
  have c0 := HA.cell (k := 0) rfl
  have c1 := HA.cell (k := 1) rfl
  have s0 := HB.cell (k := 0) rfl
  have s1 := HB.cell (k := 1) rfl
  have s2 := HB.cell (k := 2) rfl
  have s3 := HB.cell (k := 3) rfl
  have s4 := HB.cell (k := 4) rfl
  have SA := HA.1
  have SB := HB.1
  clear HA HB q0 q1 hc
  have Evn : Er e (wi (.string { data := #[78, 111, 100, 101] }) s.nd 0 (c.f0 - 1) e) := wi_or _ _ _ _ _
  have Evt : Er e (wi (.string { data := #[84, 111, 112, 105, 99] }) s.tp 0 (c.f1 - 1) e) := wi_or _ _ _ _ _
  have Evv : Er e (wi (.string { data := #[86, 97, 108, 117, 101] }) s.vl 0 255 e) := wi_or _ _ _ _ _
  have kvn := cells_or Evn
  have nvn := noagg_or Evn
  have kvt := cells_or Evt
  have nvt := noagg_or Evt
  have kvv := cells_or Evv
  have nvv := noagg_or Evv
  generalize wi (.string { data := #[78, 111, 100, 101] }) s.nd 0 (c.f0 - 1) e = vn at *
  generalize wi (.string { data := #[84, 111, 112, 105, 99] }) s.tp 0 (c.f1 - 1) e = vt at *
  generalize wi (.string { data := #[86, 97, 108, 117, 101] }) s.vl 0 255 e = vv at *
  unfold cV sV
  obtain ⟨f0, f1, f2, f3, f4, f5, f6⟩ := c
  obtain ⟨kd, nd, tp, vl, ms⟩ := s
  dsimp only at *
  subst hk
  go_enter Tryd.func26, Tryd.ntmps26
  go_upto_region 1 with fail
  rw [← hw2]
  clear hw2
  go_wp2_with (first
    | (go_at_call 25; (with_reducible refine (unhide CN _ (Below.refl _ _)).mono ?_); rintro ev w9 ⟨rfl, hw⟩; obtain rfl := hw.symm)
    | (go_at_call 25; (with_reducible refine (unhide CT _ (Below.refl _ _)).mono ?_); rintro ev w9 ⟨rfl, hw⟩; obtain rfl := hw.symm)
    | (go_at_call 25; (with_reducible refine (unhide CV _ (Below.refl _ _)).mono ?_); rintro ev w9 ⟨rfl, hw⟩; obtain rfl := hw.symm)
    | (go_at_call 24; (with_reducible refine (unhide CF).mono ?_); rintro ev w9 ⟨rfl, rfl⟩))
  go_ret
  exact ⟨rfl, B2⟩

set_option maxHeartbeats 4000000 in
set_option maxRecDepth 100000 in
theorem wf_8 (c : Cf) (s : Stp) (e : Addr) (w : World) (hG : Glob w e) (hc : cfB c = true) (hk : s.kd = 8) : Calls Tryd.prog 26 #[cV c, sV s] w fun ev w' => ev = .returned (fst (two (wi (.string { data := #[78, 111, 100, 101] }) s.nd 0 (c.f0 - 1) e) (wi (.string { data := #[84, 111, 112, 105, 99] }) s.tp 0 (c.f1 - 1) e)) 2) ∧ Below w.heap.size w w' := by
  obtain ⟨q0, q1, -⟩ := cfB_iff.1 hc
  have i0 := inB_iff.1 q0
  have i1 := inB_iff.1 q1
  obtain ⟨w2, hw2⟩ : ∃ q, q = (w.alloc (.cells #[.int .i64 c.f0, .int .i64 c.f1, .int .i64 c.f2, .int .i64 c.f3, .int .i64 c.f4, .int .i64 c.f5, .int .i64 c.f6] 23)).alloc (.cells #[.int .i64 s.kd, .int .i64 s.nd, .int .i64 s.tp, .int .i64 s.vl, .int .i64 s.ms] 27) := ⟨_, rfl⟩
  have B2 : Below w.heap.size w w2 := by subst hw2; exact below_alloc (below_alloc (Below.refl _ _) _) _
  have HA : Has w2 w.heap.size (.cells #[.int .i64 c.f0, .int .i64 c.f1, .int .i64 c.f2, .int .i64 c.f3, .int .i64 c.f4, .int .i64 c.f5, .int .i64 c.f6] 23) := by subst hw2; exact (Has.new _ _).alloc _
  have HB : Has w2 (w.heap.size + 1) (.cells #[.int .i64 s.kd, .int .i64 s.nd, .int .i64 s.tp, .int .i64 s.vl, .int .i64 s.ms] 27) := by subst hw2; have := Has.new (w.alloc (.cells #[.int .i64 c.f0, .int .i64 c.f1, .int .i64 c.f2, .int .i64 c.f3, .int .i64 c.f4, .int .i64 c.f5, .int .i64 c.f6] 23)) (.cells #[.int .i64 s.kd, .int .i64 s.nd, .int .i64 s.tp, .int .i64 s.vl, .int .i64 s.ms] 27); simpa using this
  have HG := hide (hG.below B2)
  have g0 := (unhide HG).2.1
  have CN : Hid (∀ w1, Below w2.heap.size w2 w1 → Calls Tryd.prog 25 #[.string { data := #[78, 111, 100, 101] }, .int .i64 s.nd, .int .i64 0, .int .i64 (c.f0 - 1)] w1 fun ev w' => ev = .returned (wi (.string { data := #[78, 111, 100, 101] }) s.nd 0 (c.f0 - 1) e) ∧ w' = w1) := hide fun w1 b => within_any _ _ _ _ e w1 ((unhide HG).below b)
  have CT : Hid (∀ w1, Below w2.heap.size w2 w1 → Calls Tryd.prog 25 #[.string { data := #[84, 111, 112, 105, 99] }, .int .i64 s.tp, .int .i64 0, .int .i64 (c.f1 - 1)] w1 fun ev w' => ev = .returned (wi (.string { data := #[84, 111, 112, 105, 99] }) s.tp 0 (c.f1 - 1) e) ∧ w' = w1) := hide fun w1 b => within_any _ _ _ _ e w1 ((unhide HG).below b)
  have CV : Hid (∀ w1, Below w2.heap.size w2 w1 → Calls Tryd.prog 25 #[.string { data := #[86, 97, 108, 117, 101] }, .int .i64 s.vl, .int .i64 0, .int .i64 255] w1 fun ev w' => ev = .returned (wi (.string { data := #[86, 97, 108, 117, 101] }) s.vl 0 255 e) ∧ w' = w1) := hide fun w1 b => within_any _ _ _ _ e w1 ((unhide HG).below b)
  have c0 := HA.cell (k := 0) rfl
  have c1 := HA.cell (k := 1) rfl
  have s0 := HB.cell (k := 0) rfl
  have s1 := HB.cell (k := 1) rfl
  have s2 := HB.cell (k := 2) rfl
  have s3 := HB.cell (k := 3) rfl
  have s4 := HB.cell (k := 4) rfl
  have SA := HA.1
  have SB := HB.1
  clear HA HB q0 q1 hc
  have Evn : Er e (wi (.string { data := #[78, 111, 100, 101] }) s.nd 0 (c.f0 - 1) e) := wi_or _ _ _ _ _
  have Evt : Er e (wi (.string { data := #[84, 111, 112, 105, 99] }) s.tp 0 (c.f1 - 1) e) := wi_or _ _ _ _ _
  have Evv : Er e (wi (.string { data := #[86, 97, 108, 117, 101] }) s.vl 0 255 e) := wi_or _ _ _ _ _
  have kvn := cells_or Evn
  have nvn := noagg_or Evn
  have kvt := cells_or Evt
  have nvt := noagg_or Evt
  have kvv := cells_or Evv
  have nvv := noagg_or Evv
  generalize wi (.string { data := #[78, 111, 100, 101] }) s.nd 0 (c.f0 - 1) e = vn at *
  generalize wi (.string { data := #[84, 111, 112, 105, 99] }) s.tp 0 (c.f1 - 1) e = vt at *
  generalize wi (.string { data := #[86, 97, 108, 117, 101] }) s.vl 0 255 e = vv at *
  have CF := hide (first_two vn vt e Evn Evt w2.heap.size (w2.alloc (.cells #[vn, vt] 52)) (Has.new _ _))
  have B3 := hide (below_alloc (Below.refl w2.heap.size w2) (.cells #[vn, vt] 52))
  clear Evn Evt Evv
  unfold cV sV
  obtain ⟨f0, f1, f2, f3, f4, f5, f6⟩ := c
  obtain ⟨kd, nd, tp, vl, ms⟩ := s
  dsimp only at *
  subst hk
  go_enter Tryd.func26, Tryd.ntmps26
  go_upto_region 1 with fail
  rw [← hw2]
  clear hw2
  go_wp2_with (first
    | (go_at_call 25; (with_reducible refine (unhide CN _ (Below.refl _ _)).mono ?_); rintro ev w9 ⟨rfl, hw⟩; obtain rfl := hw.symm)
    | (go_at_call 25; (with_reducible refine (unhide CT _ (Below.refl _ _)).mono ?_); rintro ev w9 ⟨rfl, hw⟩; obtain rfl := hw.symm)
    | (go_at_call 25; (with_reducible refine (unhide CV _ (Below.refl _ _)).mono ?_); rintro ev w9 ⟨rfl, hw⟩; obtain rfl := hw.symm)
    | (go_at_call 24; (with_reducible refine (unhide CF).mono ?_); rintro ev w9 ⟨rfl, rfl⟩))
  go_ret
  exact ⟨rfl, below_of B2 (unhide B3)⟩

set_option maxHeartbeats 4000000 in
set_option maxRecDepth 100000 in
theorem wf_9 (c : Cf) (s : Stp) (e : Addr) (w : World) (hG : Glob w e) (hc : cfB c = true) (hk : s.kd = 9) : Calls Tryd.prog 26 #[cV c, sV s] w fun ev w' => ev = .returned (fst (two (wi (.string { data := #[78, 111, 100, 101] }) s.nd 0 (c.f0 - 1) e) (wi (.string { data := #[84, 111, 112, 105, 99] }) s.tp 0 (c.f1 - 1) e)) 2) ∧ Below w.heap.size w w' := by
  obtain ⟨q0, q1, -⟩ := cfB_iff.1 hc
  have i0 := inB_iff.1 q0
  have i1 := inB_iff.1 q1
  obtain ⟨w2, hw2⟩ : ∃ q, q = (w.alloc (.cells #[.int .i64 c.f0, .int .i64 c.f1, .int .i64 c.f2, .int .i64 c.f3, .int .i64 c.f4, .int .i64 c.f5, .int .i64 c.f6] 23)).alloc (.cells #[.int .i64 s.kd, .int .i64 s.nd, .int .i64 s.tp, .int .i64 s.vl, .int .i64 s.ms] 27) := ⟨_, rfl⟩
  have B2 : Below w.heap.size w w2 := by subst hw2; exact below_alloc (below_alloc (Below.refl _ _) _) _
  have HA : Has w2 w.heap.size (.cells #[.int .i64 c.f0, .int .i64 c.f1, .int .i64 c.f2, .int .i64 c.f3, .int .i64 c.f4, .int .i64 c.f5, .int .i64 c.f6] 23) := by subst hw2; exact (Has.new _ _).alloc _
  have HB : Has w2 (w.heap.size + 1) (.cells #[.int .i64 s.kd, .int .i64 s.nd, .int .i64 s.tp, .int .i64 s.vl, .int .i64 s.ms] 27) := by subst hw2; have := Has.new (w.alloc (.cells #[.int .i64 c.f0, .int .i64 c.f1, .int .i64 c.f2, .int .i64 c.f3, .int .i64 c.f4, .int .i64 c.f5, .int .i64 c.f6] 23)) (.cells #[.int .i64 s.kd, .int .i64 s.nd, .int .i64 s.tp, .int .i64 s.vl, .int .i64 s.ms] 27); simpa using this
  have HG := hide (hG.below B2)
  have g0 := (unhide HG).2.1
  have CN : Hid (∀ w1, Below w2.heap.size w2 w1 → Calls Tryd.prog 25 #[.string { data := #[78, 111, 100, 101] }, .int .i64 s.nd, .int .i64 0, .int .i64 (c.f0 - 1)] w1 fun ev w' => ev = .returned (wi (.string { data := #[78, 111, 100, 101] }) s.nd 0 (c.f0 - 1) e) ∧ w' = w1) := hide fun w1 b => within_any _ _ _ _ e w1 ((unhide HG).below b)
  have CT : Hid (∀ w1, Below w2.heap.size w2 w1 → Calls Tryd.prog 25 #[.string { data := #[84, 111, 112, 105, 99] }, .int .i64 s.tp, .int .i64 0, .int .i64 (c.f1 - 1)] w1 fun ev w' => ev = .returned (wi (.string { data := #[84, 111, 112, 105, 99] }) s.tp 0 (c.f1 - 1) e) ∧ w' = w1) := hide fun w1 b => within_any _ _ _ _ e w1 ((unhide HG).below b)
  have CV : Hid (∀ w1, Below w2.heap.size w2 w1 → Calls Tryd.prog 25 #[.string { data := #[86, 97, 108, 117, 101] }, .int .i64 s.vl, .int .i64 0, .int .i64 255] w1 fun ev w' => ev = .returned (wi (.string { data := #[86, 97, 108, 117, 101] }) s.vl 0 255 e) ∧ w' = w1) := hide fun w1 b => within_any _ _ _ _ e w1 ((unhide HG).below b)
  have c0 := HA.cell (k := 0) rfl
  have c1 := HA.cell (k := 1) rfl
  have s0 := HB.cell (k := 0) rfl
  have s1 := HB.cell (k := 1) rfl
  have s2 := HB.cell (k := 2) rfl
  have s3 := HB.cell (k := 3) rfl
  have s4 := HB.cell (k := 4) rfl
  have SA := HA.1
  have SB := HB.1
  clear HA HB q0 q1 hc
  have Evn : Er e (wi (.string { data := #[78, 111, 100, 101] }) s.nd 0 (c.f0 - 1) e) := wi_or _ _ _ _ _
  have Evt : Er e (wi (.string { data := #[84, 111, 112, 105, 99] }) s.tp 0 (c.f1 - 1) e) := wi_or _ _ _ _ _
  have Evv : Er e (wi (.string { data := #[86, 97, 108, 117, 101] }) s.vl 0 255 e) := wi_or _ _ _ _ _
  have kvn := cells_or Evn
  have nvn := noagg_or Evn
  have kvt := cells_or Evt
  have nvt := noagg_or Evt
  have kvv := cells_or Evv
  have nvv := noagg_or Evv
  generalize wi (.string { data := #[78, 111, 100, 101] }) s.nd 0 (c.f0 - 1) e = vn at *
  generalize wi (.string { data := #[84, 111, 112, 105, 99] }) s.tp 0 (c.f1 - 1) e = vt at *
  generalize wi (.string { data := #[86, 97, 108, 117, 101] }) s.vl 0 255 e = vv at *
  have CF := hide (first_two vn vt e Evn Evt w2.heap.size (w2.alloc (.cells #[vn, vt] 52)) (Has.new _ _))
  have B3 := hide (below_alloc (Below.refl w2.heap.size w2) (.cells #[vn, vt] 52))
  clear Evn Evt Evv
  unfold cV sV
  obtain ⟨f0, f1, f2, f3, f4, f5, f6⟩ := c
  obtain ⟨kd, nd, tp, vl, ms⟩ := s
  dsimp only at *
  subst hk
  go_enter Tryd.func26, Tryd.ntmps26
  go_upto_region 1 with fail
  rw [← hw2]
  clear hw2
  go_wp2_with (first
    | (go_at_call 25; (with_reducible refine (unhide CN _ (Below.refl _ _)).mono ?_); rintro ev w9 ⟨rfl, hw⟩; obtain rfl := hw.symm)
    | (go_at_call 25; (with_reducible refine (unhide CT _ (Below.refl _ _)).mono ?_); rintro ev w9 ⟨rfl, hw⟩; obtain rfl := hw.symm)
    | (go_at_call 25; (with_reducible refine (unhide CV _ (Below.refl _ _)).mono ?_); rintro ev w9 ⟨rfl, hw⟩; obtain rfl := hw.symm)
    | (go_at_call 24; (with_reducible refine (unhide CF).mono ?_); rintro ev w9 ⟨rfl, rfl⟩))
  go_ret
  exact ⟨rfl, below_of B2 (unhide B3)⟩

set_option maxHeartbeats 4000000 in
set_option maxRecDepth 100000 in
theorem wf_10 (c : Cf) (s : Stp) (e : Addr) (w : World) (hG : Glob w e) (hc : cfB c = true) (hk : s.kd = 10) : Calls Tryd.prog 26 #[cV c, sV s] w fun ev w' => ev = .returned (fst (two (wi (.string { data := #[78, 111, 100, 101] }) s.nd 0 (c.f0 - 1) e) (wi (.string { data := #[84, 111, 112, 105, 99] }) s.tp 0 (c.f1 - 1) e)) 2) ∧ Below w.heap.size w w' := by
  obtain ⟨q0, q1, -⟩ := cfB_iff.1 hc
  have i0 := inB_iff.1 q0
  have i1 := inB_iff.1 q1
  obtain ⟨w2, hw2⟩ : ∃ q, q = (w.alloc (.cells #[.int .i64 c.f0, .int .i64 c.f1, .int .i64 c.f2, .int .i64 c.f3, .int .i64 c.f4, .int .i64 c.f5, .int .i64 c.f6] 23)).alloc (.cells #[.int .i64 s.kd, .int .i64 s.nd, .int .i64 s.tp, .int .i64 s.vl, .int .i64 s.ms] 27) := ⟨_, rfl⟩
  have B2 : Below w.heap.size w w2 := by subst hw2; exact below_alloc (below_alloc (Below.refl _ _) _) _
  have HA : Has w2 w.heap.size (.cells #[.int .i64 c.f0, .int .i64 c.f1, .int .i64 c.f2, .int .i64 c.f3, .int .i64 c.f4, .int .i64 c.f5, .int .i64 c.f6] 23) := by subst hw2; exact (Has.new _ _).alloc _
  have HB : Has w2 (w.heap.size + 1) (.cells #[.int .i64 s.kd, .int .i64 s.nd, .int .i64 s.tp, .int .i64 s.vl, .int .i64 s.ms] 27) := by subst hw2; have := Has.new (w.alloc (.cells #[.int .i64 c.f0, .int .i64 c.f1, .int .i64 c.f2, .int .i64 c.f3, .int .i64 c.f4, .int .i64 c.f5, .int .i64 c.f6] 23)) (.cells #[.int .i64 s.kd, .int .i64 s.nd, .int .i64 s.tp, .int .i64 s.vl, .int .i64 s.ms] 27); simpa using this
  have HG := hide (hG.below B2)
  have g0 := (unhide HG).2.1
  have CN : Hid (∀ w1, Below w2.heap.size w2 w1 → Calls Tryd.prog 25 #[.string { data := #[78, 111, 100, 101] }, .int .i64 s.nd, .int .i64 0, .int .i64 (c.f0 - 1)] w1 fun ev w' => ev = .returned (wi (.string { data := #[78, 111, 100, 101] }) s.nd 0 (c.f0 - 1) e) ∧ w' = w1) := hide fun w1 b => within_any _ _ _ _ e w1 ((unhide HG).below b)
  have CT : Hid (∀ w1, Below w2.heap.size w2 w1 → Calls Tryd.prog 25 #[.string { data := #[84, 111, 112, 105, 99] }, .int .i64 s.tp, .int .i64 0, .int .i64 (c.f1 - 1)] w1 fun ev w' => ev = .returned (wi (.string { data := #[84, 111, 112, 105, 99] }) s.tp 0 (c.f1 - 1) e) ∧ w' = w1) := hide fun w1 b => within_any _ _ _ _ e w1 ((unhide HG).below b)
  have CV : Hid (∀ w1, Below w2.heap.size w2 w1 → Calls Tryd.prog 25 #[.string { data := #[86, 97, 108, 117, 101] }, .int .i64 s.vl, .int .i64 0, .int .i64 255] w1 fun ev w' => ev = .returned (wi (.string { data := #[86, 97, 108, 117, 101] }) s.vl 0 255 e) ∧ w' = w1) := hide fun w1 b => within_any _ _ _ _ e w1 ((unhide HG).below b)
  have c0 := HA.cell (k := 0) rfl
  have c1 := HA.cell (k := 1) rfl
  have s0 := HB.cell (k := 0) rfl
  have s1 := HB.cell (k := 1) rfl
  have s2 := HB.cell (k := 2) rfl
  have s3 := HB.cell (k := 3) rfl
  have s4 := HB.cell (k := 4) rfl
  have SA := HA.1
  have SB := HB.1
  clear HA HB q0 q1 hc
  have Evn : Er e (wi (.string { data := #[78, 111, 100, 101] }) s.nd 0 (c.f0 - 1) e) := wi_or _ _ _ _ _
  have Evt : Er e (wi (.string { data := #[84, 111, 112, 105, 99] }) s.tp 0 (c.f1 - 1) e) := wi_or _ _ _ _ _
  have Evv : Er e (wi (.string { data := #[86, 97, 108, 117, 101] }) s.vl 0 255 e) := wi_or _ _ _ _ _
  have kvn := cells_or Evn
  have nvn := noagg_or Evn
  have kvt := cells_or Evt
  have nvt := noagg_or Evt
  have kvv := cells_or Evv
  have nvv := noagg_or Evv
  generalize wi (.string { data := #[78, 111, 100, 101] }) s.nd 0 (c.f0 - 1) e = vn at *
  generalize wi (.string { data := #[84, 111, 112, 105, 99] }) s.tp 0 (c.f1 - 1) e = vt at *
  generalize wi (.string { data := #[86, 97, 108, 117, 101] }) s.vl 0 255 e = vv at *
  have CF := hide (first_two vn vt e Evn Evt w2.heap.size (w2.alloc (.cells #[vn, vt] 52)) (Has.new _ _))
  have B3 := hide (below_alloc (Below.refl w2.heap.size w2) (.cells #[vn, vt] 52))
  clear Evn Evt Evv
  unfold cV sV
  obtain ⟨f0, f1, f2, f3, f4, f5, f6⟩ := c
  obtain ⟨kd, nd, tp, vl, ms⟩ := s
  dsimp only at *
  subst hk
  go_enter Tryd.func26, Tryd.ntmps26
  go_upto_region 1 with fail
  rw [← hw2]
  clear hw2
  go_wp2_with (first
    | (go_at_call 25; (with_reducible refine (unhide CN _ (Below.refl _ _)).mono ?_); rintro ev w9 ⟨rfl, hw⟩; obtain rfl := hw.symm)
    | (go_at_call 25; (with_reducible refine (unhide CT _ (Below.refl _ _)).mono ?_); rintro ev w9 ⟨rfl, hw⟩; obtain rfl := hw.symm)
    | (go_at_call 25; (with_reducible refine (unhide CV _ (Below.refl _ _)).mono ?_); rintro ev w9 ⟨rfl, hw⟩; obtain rfl := hw.symm)
    | (go_at_call 24; (with_reducible refine (unhide CF).mono ?_); rintro ev w9 ⟨rfl, rfl⟩))
  go_ret
  exact ⟨rfl, below_of B2 (unhide B3)⟩

set_option maxHeartbeats 4000000 in
set_option maxRecDepth 100000 in
theorem wf_12 (c : Cf) (s : Stp) (e : Addr) (w : World) (hG : Glob w e) (hc : cfB c = true) (hk : s.kd = 12) : Calls Tryd.prog 26 #[cV c, sV s] w fun ev w' => ev = .returned (fst (two (wi (.string { data := #[78, 111, 100, 101] }) s.nd 0 (c.f0 - 1) e) (wi (.string { data := #[84, 111, 112, 105, 99] }) s.tp 0 (c.f1 - 1) e)) 2) ∧ Below w.heap.size w w' := by
  obtain ⟨q0, q1, -⟩ := cfB_iff.1 hc
  have i0 := inB_iff.1 q0
  have i1 := inB_iff.1 q1
  obtain ⟨w2, hw2⟩ : ∃ q, q = (w.alloc (.cells #[.int .i64 c.f0, .int .i64 c.f1, .int .i64 c.f2, .int .i64 c.f3, .int .i64 c.f4, .int .i64 c.f5, .int .i64 c.f6] 23)).alloc (.cells #[.int .i64 s.kd, .int .i64 s.nd, .int .i64 s.tp, .int .i64 s.vl, .int .i64 s.ms] 27) := ⟨_, rfl⟩
  have B2 : Below w.heap.size w w2 := by subst hw2; exact below_alloc (below_alloc (Below.refl _ _) _) _
  have HA : Has w2 w.heap.size (.cells #[.int .i64 c.f0, .int .i64 c.f1, .int .i64 c.f2, .int .i64 c.f3, .int .i64 c.f4, .int .i64 c.f5, .int .i64 c.f6] 23) := by subst hw2; exact (Has.new _ _).alloc _
  have HB : Has w2 (w.heap.size + 1) (.cells #[.int .i64 s.kd, .int .i64 s.nd, .int .i64 s.tp, .int .i64 s.vl, .int .i64 s.ms] 27) := by subst hw2; have := Has.new (w.alloc (.cells #[.int .i64 c.f0, .int .i64 c.f1, .int .i64 c.f2, .int .i64 c.f3, .int .i64 c.f4, .int .i64 c.f5, .int .i64 c.f6] 23)) (.cells #[.int .i64 s.kd, .int .i64 s.nd, .int .i64 s.tp, .int .i64 s.vl, .int .i64 s.ms] 27); simpa using this
  have HG := hide (hG.below B2)
  have g0 := (unhide HG).2.1
  have CN : Hid (∀ w1, Below w2.heap.size w2 w1 → Calls Tryd.prog 25 #[.string { data := #[78, 111, 100, 101] }, .int .i64 s.nd, .int .i64 0, .int .i64 (c.f0 - 1)] w1 fun ev w' => ev = .returned (wi (.string { data := #[78, 111, 100, 101] }) s.nd 0 (c.f0 - 1) e) ∧ w' = w1) := hide fun w1 b => within_any _ _ _ _ e w1 ((unhide HG).below b)
  have CT : Hid (∀ w1, Below w2.heap.size w2 w1 → Calls Tryd.prog 25 #[.string { data := #[84, 111, 112, 105, 99] }, .int .i64 s.tp, .int .i64 0, .int .i64 (c.f1 - 1)] w1 fun ev w' => ev = .returned (wi (.string { data := #[84, 111, 112, 105, 99] }) s.tp 0 (c.f1 - 1) e) ∧ w' = w1) := hide fun w1 b => within_any _ _ _ _ e w1 ((unhide HG).below b)
  have CV : Hid (∀ w1, Below w2.heap.size w2 w1 → Calls Tryd.prog 25 #[.string { data := #[86, 97, 108, 117, 101] }, .int .i64 s.vl, .int .i64 0, .int .i64 255] w1 fun ev w' => ev = .returned (wi (.string { data := #[86, 97, 108, 117, 101] }) s.vl 0 255 e) ∧ w' = w1) := hide fun w1 b => within_any _ _ _ _ e w1 ((unhide HG).below b)
  have c0 := HA.cell (k := 0) rfl
  have c1 := HA.cell (k := 1) rfl
  have s0 := HB.cell (k := 0) rfl
  have s1 := HB.cell (k := 1) rfl
  have s2 := HB.cell (k := 2) rfl
  have s3 := HB.cell (k := 3) rfl
  have s4 := HB.cell (k := 4) rfl
  have SA := HA.1
  have SB := HB.1
  clear HA HB q0 q1 hc
  have Evn : Er e (wi (.string { data := #[78, 111, 100, 101] }) s.nd 0 (c.f0 - 1) e) := wi_or _ _ _ _ _
  have Evt : Er e (wi (.string { data := #[84, 111, 112, 105, 99] }) s.tp 0 (c.f1 - 1) e) := wi_or _ _ _ _ _
  have Evv : Er e (wi (.string { data := #[86, 97, 108, 117, 101] }) s.vl 0 255 e) := wi_or _ _ _ _ _
  have kvn := cells_or Evn
  have nvn := noagg_or Evn
  have kvt := cells_or Evt
  have nvt := noagg_or Evt
  have kvv := cells_or Evv
  have nvv := noagg_or Evv
  generalize wi (.string { data := #[78, 111, 100, 101] }) s.nd 0 (c.f0 - 1) e = vn at *
  generalize wi (.string { data := #[84, 111, 112, 105, 99] }) s.tp 0 (c.f1 - 1) e = vt at *
  generalize wi (.string { data := #[86, 97, 108, 117, 101] }) s.vl 0 255 e = vv at *
  have CF := hide (first_two vn vt e Evn Evt w2.heap.size (w2.alloc (.cells #[vn, vt] 52)) (Has.new _ _))
  have B3 := hide (below_alloc (Below.refl w2.heap.size w2) (.cells #[vn, vt] 52))
  clear Evn Evt Evv
  unfold cV sV
  obtain ⟨f0, f1, f2, f3, f4, f5, f6⟩ := c
  obtain ⟨kd, nd, tp, vl, ms⟩ := s
  dsimp only at *
  subst hk
  go_enter Tryd.func26, Tryd.ntmps26
  go_upto_region 1 with fail
  rw [← hw2]
  clear hw2
  go_wp2_with (first
    | (go_at_call 25; (with_reducible refine (unhide CN _ (Below.refl _ _)).mono ?_); rintro ev w9 ⟨rfl, hw⟩; obtain rfl := hw.symm)
    | (go_at_call 25; (with_reducible refine (unhide CT _ (Below.refl _ _)).mono ?_); rintro ev w9 ⟨rfl, hw⟩; obtain rfl := hw.symm)
    | (go_at_call 25; (with_reducible refine (unhide CV _ (Below.refl _ _)).mono ?_); rintro ev w9 ⟨rfl, hw⟩; obtain rfl := hw.symm)
    | (go_at_call 24; (with_reducible refine (unhide CF).mono ?_); rintro ev w9 ⟨rfl, rfl⟩))
  go_ret
  exact ⟨rfl, below_of B2 (unhide B3)⟩

set_option maxHeartbeats 4000000 in
set_option maxRecDepth 100000 in
theorem wf_13 (c : Cf) (s : Stp) (e : Addr) (w : World) (hG : Glob w e) (hc : cfB c = true) (hk : s.kd = 13) : Calls Tryd.prog 26 #[cV c, sV s] w fun ev w' => ev = .returned (fst (two (wi (.string { data := #[78, 111, 100, 101] }) s.nd 0 (c.f0 - 1) e) (wi (.string { data := #[84, 111, 112, 105, 99] }) s.tp 0 (c.f1 - 1) e)) 2) ∧ Below w.heap.size w w' := by
  obtain ⟨q0, q1, -⟩ := cfB_iff.1 hc
  have i0 := inB_iff.1 q0
  have i1 := inB_iff.1 q1
  obtain ⟨w2, hw2⟩ : ∃ q, q = (w.alloc (.cells #[.int .i64 c.f0, .int .i64 c.f1, .int .i64 c.f2, .int .i64 c.f3, .int .i64 c.f4, .int .i64 c.f5, .int .i64 c.f6] 23)).alloc (.cells #[.int .i64 s.kd, .int .i64 s.nd, .int .i64 s.tp, .int .i64 s.vl, .int .i64 s.ms] 27) := ⟨_, rfl⟩
  have B2 : Below w.heap.size w w2 := by subst hw2; exact below_alloc (below_alloc (Below.refl _ _) _) _
  have HA : Has w2 w.heap.size (.cells #[.int .i64 c.f0, .int .i64 c.f1, .int .i64 c.f2, .int .i64 c.f3, .int .i64 c.f4, .int .i64 c.f5, .int .i64 c.f6] 23) := by subst hw2; exact (Has.new _ _).alloc _
  have HB : Has w2 (w.heap.size + 1) (.cells #[.int .i64 s.kd, .int .i64 s.nd, .int .i64 s.tp, .int .i64 s.vl, .int .i64 s.ms] 27) := by subst hw2; have := Has.new (w.alloc (.cells #[.int .i64 c.f0, .int .i64 c.f1, .int .i64 c.f2, .int .i64 c.f3, .int .i64 c.f4, .int .i64 c.f5, .int .i64 c.f6] 23)) (.cells #[.int .i64 s.kd, .int .i64 s.nd, .int .i64 s.tp, .int .i64 s.vl, .int .i64 s.ms] 27); simpa using this
  have HG := hide (hG.below B2)
  have g0 := (unhide HG).2.1
  have CN : Hid (∀ w1, Below w2.heap.size w2 w1 → Calls Tryd.prog 25 #[.string { data := #[78, 111, 100, 101] }, .int .i64 s.nd, .int .i64 0, .int .i64 (c.f0 - 1)] w1 fun ev w' => ev = .returned (wi (.string { data := #[78, 111, 100, 101] }) s.nd 0 (c.f0 - 1) e) ∧ w' = w1) := hide fun w1 b => within_any _ _ _ _ e w1 ((unhide HG).below b)
  have CT : Hid (∀ w1, Below w2.heap.size w2 w1 → Calls Tryd.prog 25 #[.string { data := #[84, 111, 112, 105, 99] }, .int .i64 s.tp, .int .i64 0, .int .i64 (c.f1 - 1)] w1 fun ev w' => ev = .returned (wi (.string { data := #[84, 111, 112, 105, 99] }) s.tp 0 (c.f1 - 1) e) ∧ w' = w1) := hide fun w1 b => within_any _ _ _ _ e w1 ((unhide HG).below b)
  have CV : Hid (∀ w1, Below w2.heap.size w2 w1 → Calls Tryd.prog 25 #[.string { data := #[86, 97, 108, 117, 101] }, .int .i64 s.vl, .int .i64 0, .int .i64 255] w1 fun ev w' => ev = .returned (wi (.string { data := #[86, 97, 108, 117, 101] }) s.vl 0 255 e) ∧ w' = w1) := hide fun w1 b => within_any _ _ _ _ e w1 ((unhide HG).below b)
  have c0 := HA.cell (k := 0) rfl
  have c1 := HA.cell (k := 1) rfl
  have s0 := HB.cell (k := 0) rfl
  have s1 := HB.cell (k := 1) rfl
  have s2 := HB.cell (k := 2) rfl
  have s3 := HB.cell (k := 3) rfl
  have s4 := HB.cell (k := 4) rfl
  have SA := HA.1
  have SB := HB.1
  clear HA HB q0 q1 hc
  have Evn : Er e (wi (.string { data := #[78, 111, 100, 101] }) s.nd 0 (c.f0 - 1) e) := wi_or _ _ _ _ _
  have Evt : Er e (wi (.string { data := #[84, 111, 112, 105, 99] }) s.tp 0 (c.f1 - 1) e) := wi_or _ _ _ _ _
  have Evv : Er e (wi (.string { data := #[86, 97, 108, 117, 101] }) s.vl 0 255 e) := wi_or _ _ _ _ _
  have kvn := cells_or Evn
  have nvn := noagg_or Evn
  have kvt := cells_or Evt
  have nvt := noagg_or Evt
  have kvv := cells_or Evv
  have nvv := noagg_or Evv
  generalize wi (.string { data := #[78, 111, 100, 101] }) s.nd 0 (c.f0 - 1) e = vn at *
  generalize wi (.string { data := #[84, 111, 112, 105, 99] }) s.tp 0 (c.f1 - 1) e = vt at *
  generalize wi (.string { data := #[86, 97, 108, 117, 101] }) s.vl 0 255 e = vv at *
  have CF := hide (first_two vn vt e Evn Evt w2.heap.size (w2.alloc (.cells #[vn, vt] 52)) (Has.new _ _))
  have B3 := hide (below_alloc (Below.refl w2.heap.size w2) (.cells #[vn, vt] 52))
  clear Evn Evt Evv
  unfold cV sV
  obtain ⟨f0, f1, f2, f3, f4, f5, f6⟩ := c
  obtain ⟨kd, nd, tp, vl, ms⟩ := s
  dsimp only at *
  subst hk
  go_enter Tryd.func26, Tryd.ntmps26
  go_upto_region 1 with fail
  rw [← hw2]
  clear hw2
  go_wp2_with (first
    | (go_at_call 25; (with_reducible refine (unhide CN _ (Below.refl _ _)).mono ?_); rintro ev w9 ⟨rfl, hw⟩; obtain rfl := hw.symm)
    | (go_at_call 25; (with_reducible refine (unhide CT _ (Below.refl _ _)).mono ?_); rintro ev w9 ⟨rfl, hw⟩; obtain rfl := hw.symm)
    | (go_at_call 25; (with_reducible refine (unhide CV _ (Below.refl _ _)).mono ?_); rintro ev w9 ⟨rfl, hw⟩; obtain rfl := hw.symm)
    | (go_at_call 24; (with_reducible refine (unhide CF).mono ?_); rintro ev w9 ⟨rfl, rfl⟩))
  go_ret
  exact ⟨rfl, below_of B2 (unhide B3)⟩

set_option maxHeartbeats 4000000 in
set_option maxRecDepth 100000 in
theorem wf_11 (c : Cf) (s : Stp) (e : Addr) (w : World) (hG : Glob w e) (hc : cfB c = true) (hk : s.kd = 11) : Calls Tryd.prog 26 #[cV c, sV s] w fun ev w' => ev = .returned (fst (three (wi (.string { data := #[78, 111, 100, 101] }) s.nd 0 (c.f0 - 1) e) (wi (.string { data := #[84, 111, 112, 105, 99] }) s.tp 0 (c.f1 - 1) e) (wi (.string { data := #[86, 97, 108, 117, 101] }) s.vl 0 255 e)) 3) ∧ Below w.heap.size w w' := by
  obtain ⟨q0, q1, -⟩ := cfB_iff.1 hc
  have i0 := inB_iff.1 q0
  have i1 := inB_iff.1 q1
  obtain ⟨w2, hw2⟩ : ∃ q, q = (w.alloc (.cells #[.int .i64 c.f0, .int .i64 c.f1, .int .i64 c.f2, .int .i64 c.f3, .int .i64 c.f4, .int .i64 c.f5, .int .i64 c.f6] 23)).alloc (.cells #[.int .i64 s.kd, .int .i64 s.nd, .int .i64 s.tp, .int .i64 s.vl, .int .i64 s.ms] 27) := ⟨_, rfl⟩
  have B2 : Below w.heap.size w w2 := by subst hw2; exact below_alloc (below_alloc (Below.refl _ _) _) _
  have HA : Has w2 w.heap.size (.cells #[.int .i64 c.f0, .int .i64 c.f1, .int .i64 c.f2, .int .i64 c.f3, .int .i64 c.f4, .int .i64 c.f5, .int .i64 c.f6] 23) := by subst hw2; exact (Has.new _ _).alloc _
  have HB : Has w2 (w.heap.size + 1) (.cells #[.int .i64 s.kd, .int .i64 s.nd, .int .i64 s.tp, .int .i64 s.vl, .int .i64 s.ms] 27) := by subst hw2; have := Has.new (w.alloc (.cells #[.int .i64 c.f0, .int .i64 c.f1, .int .i64 c.f2, .int .i64 c.f3, .int .i64 c.f4, .int .i64 c.f5, .int .i64 c.f6] 23)) (.cells #[.int .i64 s.kd, .int .i64 s.nd, .int .i64 s.tp, .int .i64 s.vl, .int .i64 s.ms] 27); simpa using this
  have HG := hide (hG.below B2)
  have g0 := (unhide HG).2.1
  have CN : Hid (∀ w1, Below w2.heap.size w2 w1 → Calls Tryd.prog 25 #[.string { data := #[78, 111, 100, 101] }, .int .i64 s.nd, .int .i64 0, .int .i64 (c.f0 - 1)] w1 fun ev w' => ev = .returned (wi (.string { data := #[78, 111, 100, 101] }) s.nd 0 (c.f0 - 1) e) ∧ w' = w1) := hide fun w1 b => within_any _ _ _ _ e w1 ((unhide HG).below b)
  have CT : Hid (∀ w1, Below w2.heap.size w2 w1 → Calls Tryd.prog 25 #[.string { data := #[84, 111, 112, 105, 99] }, .int .i64 s.tp, .int .i64 0, .int .i64 (c.f1 - 1)] w1 fun ev w' => ev = .returned (wi (.string { data := #[84, 111, 112, 105, 99] }) s.tp 0 (c.f1 - 1) e) ∧ w' = w1) := hide fun w1 b => within_any _ _ _ _ e w1 ((unhide HG).below b)
  have CV : Hid (∀ w1, Below w2.heap.size w2 w1 → Calls Tryd.prog 25 #[.string { data := #[86, 97, 108, 117, 101] }, .int .i64 s.vl, .int .i64 0, .int .i64 255] w1 fun ev w' => ev = .returned (wi (.string { data := #[86, 97, 108, 117, 101] }) s.vl 0 255 e) ∧ w' = w1) := hide fun w1 b => within_any _ _ _ _ e w1 ((unhide HG).below b)
  have c0 := HA.cell (k := 0) rfl
  have c1 := HA.cell (k := 1) rfl
  have s0 := HB.cell (k := 0) rfl
  have s1 := HB.cell (k := 1) rfl
  have s2 := HB.cell (k := 2) rfl
  have s3 := HB.cell (k := 3) rfl
  have s4 := HB.cell (k := 4) rfl
  have SA := HA.1
  have SB := HB.1
  clear HA HB q0 q1 hc
  have Evn : Er e (wi (.string { data := #[78, 111, 100, 101] }) s.nd 0 (c.f0 - 1) e) := wi_or _ _ _ _ _
  have Evt : Er e (wi (.string { data := #[84, 111, 112, 105, 99] }) s.tp 0 (c.f1 - 1) e) := wi_or _ _ _ _ _
  have Evv : Er e (wi (.string { data := #[86, 97, 108, 117, 101] }) s.vl 0 255 e) := wi_or _ _ _ _ _
  have kvn := cells_or Evn
  have nvn := noagg_or Evn
  have kvt := cells_or Evt
  have nvt := noagg_or Evt
  have kvv := cells_or Evv
  have nvv := noagg_or Evv
  generalize wi (.string { data := #[78, 111, 100, 101] }) s.nd 0 (c.f0 - 1) e = vn at *
  generalize wi (.string { data := #[84, 111, 112, 105, 99] }) s.tp 0 (c.f1 - 1) e = vt at *
  generalize wi (.string { data := #[86, 97, 108, 117, 101] }) s.vl 0 255 e = vv at *
  have CF := hide (first_three vn vt vv e Evn Evt Evv w2.heap.size (w2.alloc (.cells #[vn, vt, vv] 52)) (Has.new _ _))
  have B3 := hide (below_alloc (Below.refl w2.heap.size w2) (.cells #[vn, vt, vv] 52))
  clear Evn Evt Evv
  unfold cV sV
  obtain ⟨f0, f1, f2, f3, f4, f5, f6⟩ := c
  obtain ⟨kd, nd, tp, vl, ms⟩ := s
  dsimp only at *
  subst hk
  go_enter Tryd.func26, Tryd.ntmps26
  go_upto_region 1 with fail
  rw [← hw2]
  clear hw2
  go_wp2_with (first
    | (go_at_call 25; (with_reducible refine (unhide CN _ (Below.refl _ _)).mono ?_); rintro ev w9 ⟨rfl, hw⟩; obtain rfl := hw.symm)
    | (go_at_call 25; (with_reducible refine (unhide CT _ (Below.refl _ _)).mono ?_); rintro ev w9 ⟨rfl, hw⟩; obtain rfl := hw.symm)
    | (go_at_call 25; (with_reducible refine (unhide CV _ (Below.refl _ _)).mono ?_); rintro ev w9 ⟨rfl, hw⟩; obtain rfl := hw.symm)
    | (go_at_call 24; (with_reducible refine (unhide CF).mono ?_); rintro ev w9 ⟨rfl, rfl⟩))
  go_ret
  exact ⟨rfl, below_of B2 (unhide B3)⟩

set_option maxHeartbeats 4000000 in
set_option maxRecDepth 100000 in
theorem wf_no (c : Cf) (s : Stp) (e : Addr) (w : World) (hG : Glob w e) (hc : cfB c = true) (h1 : (s.kd == 1) = false) (h2 : (s.kd == 2) = false) (h3 : (s.kd == 3) = false) (h4 : (s.kd == 4) = false) (h5 : (s.kd == 5) = false) (h6 : (s.kd == 6) = false) (h7 : (s.kd == 7) = false) (h8 : (s.kd == 8) = false) (h9 : (s.kd == 9) = false) (h10 : (s.kd == 10) = false) (h11 : (s.kd == 11) = false) (h12 : (s.kd == 12) = false) (h13 : (s.kd == 13) = false) : Calls Tryd.prog 26 #[cV c, sV s] w fun ev w' => ev = .returned (feV (.string { data := #[75, 105, 110, 100] }) e) ∧ Below w.heap.size w w' := by
  obtain ⟨q0, q1, -⟩ := cfB_iff.1 hc
  have i0 := inB_iff.1 q0
  have i1 := inB_iff.1 q1
  obtain ⟨w2, hw2⟩ : ∃ q, q = (w.alloc (.cells #[.int .i64 c.f0, .int .i64 c.f1, .int .i64 c.f2, .int .i64 c.f3, .int .i64 c.f4, .int .i64 c.f5, .int .i64 c.f6] 23)).alloc (.cells #[.int .i64 s.kd, .int .i64 s.nd, .int .i64 s.tp, .int .i64 s.vl, .int .i64 s.ms] 27) := ⟨_, rfl⟩
  have B2 : Below w.heap.size w w2 := by subst hw2; exact below_alloc (below_alloc (Below.refl _ _) _) _
  have HA : Has w2 w.heap.size (.cells #[.int .i64 c.f0, .int .i64 c.f1, .int .i64 c.f2, .int .i64 c.f3, .int .i64 c.f4, .int .i64 c.f5, .int .i64 c.f6] 23) := by subst hw2; exact (Has.new _ _).alloc _
  have HB : Has w2 (w.heap.size + 1) (.cells #[.int .i64 s.kd, .int .i64 s.nd, .int .i64 s.tp, .int .i64 s.vl, .int .i64 s.ms] 27) := by subst hw2; have := Has.new (w.alloc (.cells #[.int .i64 c.f0, .int .i64 c.f1, .int .i64 c.f2, .int .i64 c.f3, .int .i64 c.f4, .int .i64 c.f5, .int .i64 c.f6] 23)) (.cells #[.int .i64 s.kd, .int .i64 s.nd, .int .i64 s.tp, .int .i64 s.vl, .int .i64 s.ms] 27); simpa using this
  have HG := hide (hG.below B2)
  have g0 := (unhide HG).2.1
  have CN : Hid (∀ w1, Below w2.heap.size w2 w1 → Calls Tryd.prog 25 #[.string { data := #[78, 111, 100, 101] }, .int .i64 s.nd, .int .i64 0, .int .i64 (c.f0 - 1)] w1 fun ev w' => ev = .returned (wi (.string { data := #[78, 111, 100, 101] }) s.nd 0 (c.f0 - 1) e) ∧ w' = w1) := hide fun w1 b => within_any _ _ _ _ e w1 ((unhide HG).below b)
  have CT : Hid (∀ w1, Below w2.heap.size w2 w1 → Calls Tryd.prog 25 #[.string { data := #[84, 111, 112, 105, 99] }, .int .i64 s.tp, .int .i64 0, .int .i64 (c.f1 - 1)] w1 fun ev w' => ev = .returned (wi (.string { data := #[84, 111, 112, 105, 99] }) s.tp 0 (c.f1 - 1) e) ∧ w' = w1) := hide fun w1 b => within_any _ _ _ _ e w1 ((unhide HG).below b)
  have CV : Hid (∀ w1, Below w2.heap.size w2 w1 → Calls Tryd.prog 25 #[.string { data := #[86, 97, 108, 117, 101] }, .int .i64 s.vl, .int .i64 0, .int .i64 255] w1 fun ev w' => ev = .returned (wi (.string { data := #[86, 97, 108, 117, 101] }) s.vl 0 255 e) ∧ w' = w1) := hide fun w1 b => within_any _ _ _ _ e w1 ((unhide HG).below b)
  have c0 := HA.cell (k := 0) rfl
  have c1 := HA.cell (k := 1) rfl
  have s0 := HB.cell (k := 0) rfl
  have s1 := HB.cell (k := 1) rfl
  have s2 := HB.cell (k := 2) rfl
  have s3 := HB.cell (k := 3) rfl
  have s4 := HB.cell (k := 4) rfl
  have SA := HA.1
  have SB := HB.1
  clear HA HB q0 q1 hc
  have Evn : Er e (wi (.string { data := #[78, 111, 100, 101] }) s.nd 0 (c.f0 - 1) e) := wi_or _ _ _ _ _
  have Evt : Er e (wi (.string { data := #[84, 111, 112, 105, 99] }) s.tp 0 (c.f1 - 1) e) := wi_or _ _ _ _ _
  have Evv : Er e (wi (.string { data := #[86, 97, 108, 117, 101] }) s.vl 0 255 e) := wi_or _ _ _ _ _
  have kvn := cells_or Evn
  have nvn := noagg_or Evn
  have kvt := cells_or Evt
  have nvt := noagg_or Evt
  have kvv := cells_or Evv
  have nvv := noagg_or Evv
  generalize wi (.string { data := #[78, 111, 100, 101] }) s.nd 0 (c.f0 - 1) e = vn at *
  generalize wi (.string { data := #[84, 111, 112, 105, 99] }) s.tp 0 (c.f1 - 1) e = vt at *
  generalize wi (.string { data := #[86, 97, 108, 117, 101] }) s.vl 0 255 e = vv at *
  clear Evn Evt Evv
  unfold cV sV
  obtain ⟨f0, f1, f2, f3, f4, f5, f6⟩ := c
  obtain ⟨kd, nd, tp, vl, ms⟩ := s
  dsimp only at *
  go_enter Tryd.func26, Tryd.ntmps26
  go_upto_region 1 with fail
  rw [← hw2]
  clear hw2
  go_wp2_with (first
    | (go_at_call 25; (with_reducible refine (unhide CN _ (Below.refl _ _)).mono ?_); rintro ev w9 ⟨rfl, hw⟩; obtain rfl := hw.symm)
    | (go_at_call 25; (with_reducible refine (unhide CT _ (Below.refl _ _)).mono ?_); rintro ev w9 ⟨rfl, hw⟩; obtain rfl := hw.symm)
    | (go_at_call 25; (with_reducible refine (unhide CV _ (Below.refl _ _)).mono ?_); rintro ev w9 ⟨rfl, hw⟩; obtain rfl := hw.symm)
    | (go_at_call 24; (with_reducible refine (unhide CF).mono ?_); rintro ev w9 ⟨rfl, rfl⟩))
  go_ret
  exact ⟨rfl, B2⟩
end Go.Proofs.YtfhglganaebpoaaDoor
