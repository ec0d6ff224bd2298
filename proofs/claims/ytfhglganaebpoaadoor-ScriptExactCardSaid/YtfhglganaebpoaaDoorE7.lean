/- Walk of wrongField at a corruption. -/
import Derived.Test.YtfhglganaebpoaaDoorE6
namespace Go.Proofs.YtfhglganaebpoaaDoor
open Go.RowKit

set_option maxHeartbeats 4000000 in
set_option maxRecDepth 100000 in
theorem wf_5 (c : Cf) (s : Stp) (e : Addr) (w : World) (hG : Glob w e) (hc : cfB c = true) (hk : s.kd = 5) : Calls Tryd.prog 26 #[cV c, sV s] w fun ev w' => ev = .returned (fst (three (wi (.string { data := #[86, 97, 108, 117, 101] }) s.vl 0 255 e) (wi (.string { data := #[84, 111, 112, 105, 99] }) s.tp 0 255 e) (wi (.string { data := #[77, 97, 115, 107] }) s.ms 1 255 e)) 3) ∧ Below w.heap.size w w' := by
  obtain ⟨q0, q1, -⟩ := cfB_iff.1 hc
  have i0 := inB_iff.1 q0
  have i1 := inB_iff.1 q1
  obtain ⟨w2, hw2⟩ : ∃ q, q = (w.alloc (.cells #[.int .i64 c.f0, .int .i64 c.f1, .int .i64 c.f2, .int .i64 c.f3, .int .i64 c.f4, .int .i64 c.f5, .int .i64 c.f6] 23)).alloc (.cells #[.int .i64 s.kd, .int .i64 s.nd, .int .i64 s.tp, .int .i64 s.vl, .int .i64 s.ms] 27) := ⟨_, rfl⟩
  have B2 : Below w.heap.size w w2 := by subst hw2; exact below_alloc (below_alloc (Below.refl _ _) _) _
  have HA : Has w2 w.heap.size (.cells #[.int .i64 c.f0, .int .i64 c.f1, .int .i64 c.f2, .int .i64 c.f3, .int .i64 c.f4, .int .i64 c.f5, .int .i64 c.f6] 23) := by subst hw2; exact (Has.new _ _).alloc _
  have HB : Has w2 (w.heap.size + 1) (.cells #[.int .i64 s.kd, .int .i64 s.nd, .int .i64 s.tp, .int .i64 s.vl, .int .i64 s.ms] 27) := by subst hw2; have := Has.new (w.alloc (.cells #[.int .i64 c.f0, .int .i64 c.f1, .int .i64 c.f2, .int .i64 c.f3, .int .i64 c.f4, .int .i64 c.f5, .int .i64 c.f6] 23)) (.cells #[.int .i64 s.kd, .int .i64 s.nd, .int .i64 s.tp, .int .i64 s.vl, .int .i64 s.ms] 27); simpa using this
  have HG := hide (hG.below B2)
  have g0 := (unhide HG).2.1
  have CN : Hid (∀ w1, Below w2.heap.size w2 w1 → Calls Tryd.prog 25 #[.string { data := #[78, 111, 100, 101] }, .int .i64 s.nd, .int .i64 0, .int .i64 (c.f0 - 1)] w1 fun ev w' => ev = .returned (wi (.string { data := #[78, 111, 100, 101] }) s.nd 0 (c.f0 - 1) e) ∧ w' = w1) := hide fun w1 b => within_any _ _ _ _ e w1 ((unhide HG).below b)
  have CT : Hid (∀ w1, Below w2.heap.size w2 w1 → Calls Tryd.prog 25 #[.string { data := #[84, 111, 112, 105, 99] }, .int .i64 s.tp, .int .i64 0, .int .i64 (c.f1 - 1)] w1 fun ev w' => ev = .returned (wi (.string { data := #[84, 111, 112, 105, 99] }) s.tp 0 (c.f1 - 1) e) ∧ w' = w1) := hide fun w1 b => within_any _ _ _ _ e w1 ((unhide HG).below b)
  have CV : Hid (∀ w1, Below w2.heap.size w2 w1 → Calls Tryd.prog 25 #[.string { data := #[86, 97, 108, 117, 101] }, .int .i64 s.vl, .int .i64 0, .int .i64 255] w1 fun ev w' => ev = .returned (wi (.string { data := #[86, 97, 108, 117, 101] }) s.vl 0 255 e) ∧ w' = w1) := hide fun w1 b => within_any _ _ _ _ e w1 ((unhide HG).below b)
  have CB : Hid (∀ w1, Below w2.heap.size w2 w1 → Calls Tryd.prog 25 #[.string { data := #[84, 111, 112, 105, 99] }, .int .i64 s.tp, .int .i64 0, .int .i64 255] w1 fun ev w' => ev = .returned (wi (.string { data := #[84, 111, 112, 105, 99] }) s.tp 0 255 e) ∧ w' = w1) := hide fun w1 b => within_any _ _ _ _ e w1 ((unhide HG).below b)
  have CM : Hid (∀ w1, Below w2.heap.size w2 w1 → Calls Tryd.prog 25 #[.string { data := #[77, 97, 115, 107] }, .int .i64 s.ms, .int .i64 1, .int .i64 255] w1 fun ev w' => ev = .returned (wi (.string { data := #[77, 97, 115, 107] }) s.ms 1 255 e) ∧ w' = w1) := hide fun w1 b => within_any _ _ _ _ e w1 ((unhide HG).below b)
  have c0 := HA.cell (k := 0) rfl
  have c1 := HA.cell (k := 1) rfl
  have s0 := HB.cell (k := 0) rfl
  have s1 := HB.cell (k := 1) rfl
  have s2 := HB.cell (k := 2) rfl
  have s3 := HB.cell (k := 3) rfl
  have s4 := HB.cell (k := 4) rfl
  have SA := HA.1
  have SB := HB.1
  clear HA HB q0 q1 hc
  have Evn : Er e (wi (.string { data := #[78, 111, 100, 101] }) s.nd 0 (c.f0 - 1) e) := wi_or _ _ _ _ _
  have Evt : Er e (wi (.string { data := #[84, 111, 112, 105, 99] }) s.tp 0 (c.f1 - 1) e) := wi_or _ _ _ _ _
  have Evv : Er e (wi (.string { data := #[86, 97, 108, 117, 101] }) s.vl 0 255 e) := wi_or _ _ _ _ _
  have Evb : Er e (wi (.string { data := #[84, 111, 112, 105, 99] }) s.tp 0 255 e) := wi_or _ _ _ _ _
  have Evm : Er e (wi (.string { data := #[77, 97, 115, 107] }) s.ms 1 255 e) := wi_or _ _ _ _ _
  have kvn := cells_or Evn
  have nvn := noagg_or Evn
  have kvt := cells_or Evt
  have nvt := noagg_or Evt
  have kvv := cells_or Evv
  have nvv := noagg_or Evv
  have kvb := cells_or Evb
  have nvb := noagg_or Evb
  have kvm := cells_or Evm
  have nvm := noagg_or Evm
  generalize wi (.string { data := #[78, 111, 100, 101] }) s.nd 0 (c.f0 - 1) e = vn at *
  generalize wi (.string { data := #[84, 111, 112, 105, 99] }) s.tp 0 (c.f1 - 1) e = vt at *
  generalize wi (.string { data := #[86, 97, 108, 117, 101] }) s.vl 0 255 e = vv at *
  generalize wi (.string { data := #[84, 111, 112, 105, 99] }) s.tp 0 255 e = vb at *
  generalize wi (.string { data := #[77, 97, 115, 107] }) s.ms 1 255 e = vm at *
  have CF : Hid (∀ (g : Nat) (w1 : World), Has w1 g (.cells #[vv, vb, vm] 52) → Calls Tryd.prog 24 #[.slice (some ⟨g, 0, none⟩) 3 3] w1 fun ev w' => ev = .returned (fst (three vv vb vm) 3) ∧ w' = w1) := hide fun g w1 h => first_three vv vb vm e Evv Evb Evm g w1 h
  clear Evn Evt Evv Evb Evm
  unfold cV sV
  obtain ⟨f0, f1, f2, f3, f4, f5, f6⟩ := c
  obtain ⟨kd, nd, tp, vl, ms⟩ := s
  dsimp only at *
  subst hk
  go_enter Tryd.func26, Tryd.ntmps26
  go_upto_region 1 with fail
  rw [← hw2]
  clear hw2
  go_upto_region 22 with (first
    | (go_at_call 25; (with_reducible refine (unhide CN _ (Below.refl _ _)).mono ?_); rintro ev w9 ⟨rfl, hw⟩; obtain rfl := hw.symm)
    | (go_at_call 25; (with_reducible refine (unhide CT _ (Below.refl _ _)).mono ?_); rintro ev w9 ⟨rfl, hw⟩; obtain rfl := hw.symm)
    | (go_at_call 25; (with_reducible refine (unhide CV _ (Below.refl _ _)).mono ?_); rintro ev w9 ⟨rfl, hw⟩; obtain rfl := hw.symm)
    | (go_at_call 24; (with_reducible refine (unhide CF).mono ?_); rintro ev w9 ⟨rfl, rfl⟩))
  have HX := Has.new w2 (.cells #[vv, vb, vm] 52)
  have BQ := Below.refl w2.heap.size w2
  have SL : ∀ o, Below w2.heap.size w2 (w2.alloc o).drew ∧ w.heap.size + 1 < (w2.alloc o).drew.heap.size ∧ (w2.alloc o).drew.cell? ⟨w.heap.size + 1, 2, none⟩ = some (.int .i64 tp) ∧ (w2.alloc o).drew.cell? ⟨w.heap.size + 1, 4, none⟩ = some (.int .i64 ms) := fun o => ⟨(below_alloc (Below.refl _ _) o).drew, by simp; omega, by rw [World.cell?_drew, World.cell?_alloc_lt _ _ ⟨w.heap.size + 1, 2, none⟩ SB]; exact s2, by rw [World.cell?_drew, World.cell?_alloc_lt _ _ ⟨w.heap.size + 1, 4, none⟩ SB]; exact s4⟩
  go_region_held3 (fun w' => Below w2.heap.size w2 w' ∧ w.heap.size + 1 < w'.heap.size ∧ w'.cell? ⟨w.heap.size + 1, 2, none⟩ = some (.int .i64 tp) ∧ w'.cell? ⟨w.heap.size + 1, 4, none⟩ = some (.int .i64 ms))
    (first
      | assumption
      | exact SL _
      | (refine ⟨?_, ?_, ?_, ?_⟩ <;> first | assumption | exact Below.drew (by assumption) | simp [*] | exact below_drewN (by assumption) _))
    (first
      | (go_at_call 25; (with_reducible refine (unhide CB _ ?_).mono ?_); (focus (first | assumption | exact Below.drew (by assumption) | exact below_drewN (by assumption) _)); rintro ev w9 ⟨rfl, rfl⟩)
      | (go_at_call 25; (with_reducible refine (unhide CM _ ?_).mono ?_); (focus (first | assumption | exact Below.drew (by assumption) | exact below_drewN (by assumption) _)); rintro ev w9 ⟨rfl, rfl⟩)
      | (go_at_call 24; (with_reducible refine (unhide CF _ _ ?_).mono ?_); (focus (first | exact HX | exact HX.drew | exact HX.drew.drew)); rintro ev w9 ⟨rfl, rfl⟩))
  have B9 := hide (below_of B2 (SL (.cells #[vv, vb, vm] 52)).1)
  clear SL HX
  go_wp2
  go_ret
  exact ⟨rfl, unhide B9⟩
end Go.Proofs.YtfhglganaebpoaaDoor
