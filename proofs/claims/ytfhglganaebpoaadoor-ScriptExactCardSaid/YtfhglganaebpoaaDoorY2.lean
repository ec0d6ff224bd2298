/- Walk of the page's Step. -/
import Derived.Test.YtfhglganaebpoaaDoorY1
namespace Go.Proofs.YtfhglganaebpoaaDoor
open Go.RowKit

set_option maxRecDepth 100000 in
theorem rstep_kd (f0 f1 f2 f3 f4 f5 f6 kd nd tp vl ms : Int) (w : World) (p0 : 1 ≤ f0 ∧ f0 ≤ 8) (p1 : 1 ≤ f1 ∧ f1 ≤ 4) (h0 : inB kd 1 13 = false)  : Calls Tryd.prog 19 #[cV ⟨f0, f1, f2, f3, f4, f5, f6⟩, sV ⟨kd, nd, tp, vl, ms⟩] w fun ev w' => ev = .returned (.int .i64 1) ∧ Below w.heap.size w w' := by
  obtain ⟨p00, p01⟩ := p0
  obtain ⟨p10, p11⟩ := p1
  have I0 := hide h0
  unfold cV sV
  dsimp only
  clear h0
  go_enter Tryd.func19, Tryd.ntmps19
  go_wp2_with (first
    | (go_at_call 16; (with_reducible refine (in_is (unhide I0) _).mono ?_); rintro ev w9 ⟨rfl, hw⟩; obtain rfl := hw.symm))
  go_ret
  exact ⟨rfl, below_alloc (below_alloc (Below.refl _ _) _) _⟩

set_option maxRecDepth 100000 in
theorem rstep_5v (f0 f1 f2 f3 f4 f5 f6 kd nd tp vl ms : Int) (w : World) (p0 : 1 ≤ f0 ∧ f0 ≤ 8) (p1 : 1 ≤ f1 ∧ f1 ≤ 4) (h0 : inB kd 1 13 = true) (h1 : inB kd 2 5 = true) (h2 : inB vl 0 255 = false) (e5 : (kd == 5) = true) : Calls Tryd.prog 19 #[cV ⟨f0, f1, f2, f3, f4, f5, f6⟩, sV ⟨kd, nd, tp, vl, ms⟩] w fun ev w' => ev = .returned (.int .i64 1) ∧ Below w.heap.size w w' := by
  obtain ⟨p00, p01⟩ := p0
  obtain ⟨p10, p11⟩ := p1
  have I0 := hide h0
  have I1 := hide h1
  have I2 := hide h2
  unfold cV sV
  dsimp only
  clear h0 h1 h2
  go_enter Tryd.func19, Tryd.ntmps19
  go_wp2_with (first
    | (go_at_call 16; (with_reducible refine (in_is (unhide I0) _).mono ?_); rintro ev w9 ⟨rfl, hw⟩; obtain rfl := hw.symm)
    | (go_at_call 16; (with_reducible refine (in_is (unhide I1) _).mono ?_); rintro ev w9 ⟨rfl, hw⟩; obtain rfl := hw.symm)
    | (go_at_call 16; (with_reducible refine (in_is (unhide I2) _).mono ?_); rintro ev w9 ⟨rfl, hw⟩; obtain rfl := hw.symm))
  go_ret
  exact ⟨rfl, below_alloc (below_alloc (Below.refl _ _) _) _⟩

set_option maxRecDepth 100000 in
theorem rstep_5t (f0 f1 f2 f3 f4 f5 f6 kd nd tp vl ms : Int) (w : World) (p0 : 1 ≤ f0 ∧ f0 ≤ 8) (p1 : 1 ≤ f1 ∧ f1 ≤ 4) (h0 : inB kd 1 13 = true) (h1 : inB kd 2 5 = true) (h2 : inB vl 0 255 = true) (h3 : inB tp 0 255 = false) (e5 : (kd == 5) = true) : Calls Tryd.prog 19 #[cV ⟨f0, f1, f2, f3, f4, f5, f6⟩, sV ⟨kd, nd, tp, vl, ms⟩] w fun ev w' => ev = .returned (.int .i64 1) ∧ Below w.heap.size w w' := by
  obtain ⟨p00, p01⟩ := p0
  obtain ⟨p10, p11⟩ := p1
  have I0 := hide h0
  have I1 := hide h1
  have I2 := hide h2
  have I3 := hide h3
  unfold cV sV
  dsimp only
  clear h0 h1 h2 h3
  go_enter Tryd.func19, Tryd.ntmps19
  go_wp2_with (first
    | (go_at_call 16; (with_reducible refine (in_is (unhide I0) _).mono ?_); rintro ev w9 ⟨rfl, hw⟩; obtain rfl := hw.symm)
    | (go_at_call 16; (with_reducible refine (in_is (unhide I1) _).mono ?_); rintro ev w9 ⟨rfl, hw⟩; obtain rfl := hw.symm)
    | (go_at_call 16; (with_reducible refine (in_is (unhide I2) _).mono ?_); rintro ev w9 ⟨rfl, hw⟩; obtain rfl := hw.symm)
    | (go_at_call 16; (with_reducible refine (in_is (unhide I3) _).mono ?_); rintro ev w9 ⟨rfl, hw⟩; obtain rfl := hw.symm))
  go_ret
  exact ⟨rfl, below_alloc (below_alloc (Below.refl _ _) _) _⟩

set_option maxRecDepth 100000 in
theorem rstep_5m (f0 f1 f2 f3 f4 f5 f6 kd nd tp vl ms : Int) (w : World) (p0 : 1 ≤ f0 ∧ f0 ≤ 8) (p1 : 1 ≤ f1 ∧ f1 ≤ 4) (h0 : inB kd 1 13 = true) (h1 : inB kd 2 5 = true) (h2 : inB vl 0 255 = true) (h3 : inB tp 0 255 = true) (h4 : inB ms 1 255 = false) (e5 : (kd == 5) = true) : Calls Tryd.prog 19 #[cV ⟨f0, f1, f2, f3, f4, f5, f6⟩, sV ⟨kd, nd, tp, vl, ms⟩] w fun ev w' => ev = .returned (.int .i64 1) ∧ Below w.heap.size w w' := by
  obtain ⟨p00, p01⟩ := p0
  obtain ⟨p10, p11⟩ := p1
  have I0 := hide h0
  have I1 := hide h1
  have I2 := hide h2
  have I3 := hide h3
  have I4 := hide h4
  unfold cV sV
  dsimp only
  clear h0 h1 h2 h3 h4
  go_enter Tryd.func19, Tryd.ntmps19
  go_wp2_with (first
    | (go_at_call 16; (with_reducible refine (in_is (unhide I0) _).mono ?_); rintro ev w9 ⟨rfl, hw⟩; obtain rfl := hw.symm)
    | (go_at_call 16; (with_reducible refine (in_is (unhide I1) _).mono ?_); rintro ev w9 ⟨rfl, hw⟩; obtain rfl := hw.symm)
    | (go_at_call 16; (with_reducible refine (in_is (unhide I2) _).mono ?_); rintro ev w9 ⟨rfl, hw⟩; obtain rfl := hw.symm)
    | (go_at_call 16; (with_reducible refine (in_is (unhide I3) _).mono ?_); rintro ev w9 ⟨rfl, hw⟩; obtain rfl := hw.symm)
    | (go_at_call 16; (with_reducible refine (in_is (unhide I4) _).mono ?_); rintro ev w9 ⟨rfl, hw⟩; obtain rfl := hw.symm))
  go_ret
  exact ⟨rfl, below_alloc (below_alloc (Below.refl _ _) _) _⟩

set_option maxRecDepth 100000 in
theorem rstep_5 (f0 f1 f2 f3 f4 f5 f6 kd nd tp vl ms : Int) (w : World) (p0 : 1 ≤ f0 ∧ f0 ≤ 8) (p1 : 1 ≤ f1 ∧ f1 ≤ 4) (h0 : inB kd 1 13 = true) (h1 : inB kd 2 5 = true) (h2 : inB vl 0 255 = true) (h3 : inB tp 0 255 = true) (h4 : inB ms 1 255 = true) (e5 : (kd == 5) = true) : Calls Tryd.prog 19 #[cV ⟨f0, f1, f2, f3, f4, f5, f6⟩, sV ⟨kd, nd, tp, vl, ms⟩] w fun ev w' => ev = .returned (.int .i64 0) ∧ Below w.heap.size w w' := by
  obtain ⟨p00, p01⟩ := p0
  obtain ⟨p10, p11⟩ := p1
  have I0 := hide h0
  have I1 := hide h1
  have I2 := hide h2
  have I3 := hide h3
  have I4 := hide h4
  unfold cV sV
  dsimp only
  clear h0 h1 h2 h3 h4
  go_enter Tryd.func19, Tryd.ntmps19
  go_wp2_with (first
    | (go_at_call 16; (with_reducible refine (in_is (unhide I0) _).mono ?_); rintro ev w9 ⟨rfl, hw⟩; obtain rfl := hw.symm)
    | (go_at_call 16; (with_reducible refine (in_is (unhide I1) _).mono ?_); rintro ev w9 ⟨rfl, hw⟩; obtain rfl := hw.symm)
    | (go_at_call 16; (with_reducible refine (in_is (unhide I2) _).mono ?_); rintro ev w9 ⟨rfl, hw⟩; obtain rfl := hw.symm)
    | (go_at_call 16; (with_reducible refine (in_is (unhide I3) _).mono ?_); rintro ev w9 ⟨rfl, hw⟩; obtain rfl := hw.symm)
    | (go_at_call 16; (with_reducible refine (in_is (unhide I4) _).mono ?_); rintro ev w9 ⟨rfl, hw⟩; obtain rfl := hw.symm))
  go_ret
  exact ⟨rfl, below_alloc (below_alloc (Below.refl _ _) _) _⟩

set_option maxRecDepth 100000 in
theorem rstep_nv (f0 f1 f2 f3 f4 f5 f6 kd nd tp vl ms : Int) (w : World) (p0 : 1 ≤ f0 ∧ f0 ≤ 8) (p1 : 1 ≤ f1 ∧ f1 ≤ 4) (h0 : inB kd 1 13 = true) (h1 : inB kd 2 5 = true) (h2 : inB vl 0 255 = false) (e5 : (kd == 5) = false) : Calls Tryd.prog 19 #[cV ⟨f0, f1, f2, f3, f4, f5, f6⟩, sV ⟨kd, nd, tp, vl, ms⟩] w fun ev w' => ev = .returned (.int .i64 1) ∧ Below w.heap.size w w' := by
  obtain ⟨p00, p01⟩ := p0
  obtain ⟨p10, p11⟩ := p1
  have I0 := hide h0
  have I1 := hide h1
  have I2 := hide h2
  unfold cV sV
  dsimp only
  clear h0 h1 h2
  go_enter Tryd.func19, Tryd.ntmps19
  go_wp2_with (first
    | (go_at_call 16; (with_reducible refine (in_is (unhide I0) _).mono ?_); rintro ev w9 ⟨rfl, hw⟩; obtain rfl := hw.symm)
    | (go_at_call 16; (with_reducible refine (in_is (unhide I1) _).mono ?_); rintro ev w9 ⟨rfl, hw⟩; obtain rfl := hw.symm)
    | (go_at_call 16; (with_reducible refine (in_is (unhide I2) _).mono ?_); rintro ev w9 ⟨rfl, hw⟩; obtain rfl := hw.symm))
  go_ret
  exact ⟨rfl, below_alloc (below_alloc (Below.refl _ _) _) _⟩

set_option maxRecDepth 100000 in
theorem rstep_n (f0 f1 f2 f3 f4 f5 f6 kd nd tp vl ms : Int) (w : World) (p0 : 1 ≤ f0 ∧ f0 ≤ 8) (p1 : 1 ≤ f1 ∧ f1 ≤ 4) (h0 : inB kd 1 13 = true) (h1 : inB kd 2 5 = true) (h2 : inB vl 0 255 = true) (e5 : (kd == 5) = false) : Calls Tryd.prog 19 #[cV ⟨f0, f1, f2, f3, f4, f5, f6⟩, sV ⟨kd, nd, tp, vl, ms⟩] w fun ev w' => ev = .returned (.int .i64 0) ∧ Below w.heap.size w w' := by
  obtain ⟨p00, p01⟩ := p0
  obtain ⟨p10, p11⟩ := p1
  have I0 := hide h0
  have I1 := hide h1
  have I2 := hide h2
  unfold cV sV
  dsimp only
  clear h0 h1 h2
  go_enter Tryd.func19, Tryd.ntmps19
  go_wp2_with (first
    | (go_at_call 16; (with_reducible refine (in_is (unhide I0) _).mono ?_); rintro ev w9 ⟨rfl, hw⟩; obtain rfl := hw.symm)
    | (go_at_call 16; (with_reducible refine (in_is (unhide I1) _).mono ?_); rintro ev w9 ⟨rfl, hw⟩; obtain rfl := hw.symm)
    | (go_at_call 16; (with_reducible refine (in_is (unhide I2) _).mono ?_); rintro ev w9 ⟨rfl, hw⟩; obtain rfl := hw.symm))
  go_ret
  exact ⟨rfl, below_alloc (below_alloc (Below.refl _ _) _) _⟩

set_option maxRecDepth 100000 in
theorem rstep_nd (f0 f1 f2 f3 f4 f5 f6 kd nd tp vl ms : Int) (w : World) (p0 : 1 ≤ f0 ∧ f0 ≤ 8) (p1 : 1 ≤ f1 ∧ f1 ≤ 4) (h0 : inB kd 1 13 = true) (h1 : inB kd 2 5 = false) (h2 : inB nd 0 (f0 - 1) = false)  : Calls Tryd.prog 19 #[cV ⟨f0, f1, f2, f3, f4, f5, f6⟩, sV ⟨kd, nd, tp, vl, ms⟩] w fun ev w' => ev = .returned (.int .i64 9) ∧ Below w.heap.size w w' := by
  obtain ⟨p00, p01⟩ := p0
  obtain ⟨p10, p11⟩ := p1
  have I0 := hide h0
  have I1 := hide h1
  have I2 := hide h2
  unfold cV sV
  dsimp only
  clear h0 h1 h2
  go_enter Tryd.func19, Tryd.ntmps19
  go_wp2_with (first
    | (go_at_call 16; (with_reducible refine (in_is (unhide I0) _).mono ?_); rintro ev w9 ⟨rfl, hw⟩; obtain rfl := hw.symm)
    | (go_at_call 16; (with_reducible refine (in_is (unhide I1) _).mono ?_); rintro ev w9 ⟨rfl, hw⟩; obtain rfl := hw.symm)
    | (go_at_call 16; (with_reducible refine (in_is (unhide I2) _).mono ?_); rintro ev w9 ⟨rfl, hw⟩; obtain rfl := hw.symm))
  go_ret
  exact ⟨rfl, below_alloc (below_alloc (Below.refl _ _) _) _⟩

set_option maxRecDepth 100000 in
theorem rstep_s (f0 f1 f2 f3 f4 f5 f6 kd nd tp vl ms : Int) (w : World) (p0 : 1 ≤ f0 ∧ f0 ≤ 8) (p1 : 1 ≤ f1 ∧ f1 ≤ 4) (h0 : inB kd 1 13 = true) (h1 : inB kd 2 5 = false) (h2 : inB nd 0 (f0 - 1) = true) (e5 : (kd == 5) = false) (e8 : decide (kd ≥ 8) = false) : Calls Tryd.prog 19 #[cV ⟨f0, f1, f2, f3, f4, f5, f6⟩, sV ⟨kd, nd, tp, vl, ms⟩] w fun ev w' => ev = .returned (.int .i64 0) ∧ Below w.heap.size w w' := by
  obtain ⟨p00, p01⟩ := p0
  obtain ⟨p10, p11⟩ := p1
  have I0 := hide h0
  have I1 := hide h1
  have I2 := hide h2
  unfold cV sV
  dsimp only
  clear h0 h1 h2
  go_enter Tryd.func19, Tryd.ntmps19
  go_wp2_with (first
    | (go_at_call 16; (with_reducible refine (in_is (unhide I0) _).mono ?_); rintro ev w9 ⟨rfl, hw⟩; obtain rfl := hw.symm)
    | (go_at_call 16; (with_reducible refine (in_is (unhide I1) _).mono ?_); rintro ev w9 ⟨rfl, hw⟩; obtain rfl := hw.symm)
    | (go_at_call 16; (with_reducible refine (in_is (unhide I2) _).mono ?_); rintro ev w9 ⟨rfl, hw⟩; obtain rfl := hw.symm))
  go_ret
  exact ⟨rfl, below_alloc (below_alloc (Below.refl _ _) _) _⟩

set_option maxRecDepth 100000 in
theorem rstep_t (f0 f1 f2 f3 f4 f5 f6 kd nd tp vl ms : Int) (w : World) (p0 : 1 ≤ f0 ∧ f0 ≤ 8) (p1 : 1 ≤ f1 ∧ f1 ≤ 4) (h0 : inB kd 1 13 = true) (h1 : inB kd 2 5 = false) (h2 : inB nd 0 (f0 - 1) = true) (h3 : inB tp 0 (f1 - 1) = false) (e5 : (kd == 5) = false) (e8 : decide (kd ≥ 8) = true) : Calls Tryd.prog 19 #[cV ⟨f0, f1, f2, f3, f4, f5, f6⟩, sV ⟨kd, nd, tp, vl, ms⟩] w fun ev w' => ev = .returned (.int .i64 1) ∧ Below w.heap.size w w' := by
  obtain ⟨p00, p01⟩ := p0
  obtain ⟨p10, p11⟩ := p1
  have I0 := hide h0
  have I1 := hide h1
  have I2 := hide h2
  have I3 := hide h3
  unfold cV sV
  dsimp only
  clear h0 h1 h2 h3
  go_enter Tryd.func19, Tryd.ntmps19
  go_wp2_with (first
    | (go_at_call 16; (with_reducible refine (in_is (unhide I0) _).mono ?_); rintro ev w9 ⟨rfl, hw⟩; obtain rfl := hw.symm)
    | (go_at_call 16; (with_reducible refine (in_is (unhide I1) _).mono ?_); rintro ev w9 ⟨rfl, hw⟩; obtain rfl := hw.symm)
    | (go_at_call 16; (with_reducible refine (in_is (unhide I2) _).mono ?_); rintro ev w9 ⟨rfl, hw⟩; obtain rfl := hw.symm)
    | (go_at_call 16; (with_reducible refine (in_is (unhide I3) _).mono ?_); rintro ev w9 ⟨rfl, hw⟩; obtain rfl := hw.symm))
  go_ret
  exact ⟨rfl, below_alloc (below_alloc (Below.refl _ _) _) _⟩

set_option maxRecDepth 100000 in
theorem rstep_u (f0 f1 f2 f3 f4 f5 f6 kd nd tp vl ms : Int) (w : World) (p0 : 1 ≤ f0 ∧ f0 ≤ 8) (p1 : 1 ≤ f1 ∧ f1 ≤ 4) (h0 : inB kd 1 13 = true) (h1 : inB kd 2 5 = false) (h2 : inB nd 0 (f0 - 1) = true) (h3 : inB tp 0 (f1 - 1) = true) (e5 : (kd == 5) = false) (e8 : decide (kd ≥ 8) = true) (e11 : (kd != 11) = true) : Calls Tryd.prog 19 #[cV ⟨f0, f1, f2, f3, f4, f5, f6⟩, sV ⟨kd, nd, tp, vl, ms⟩] w fun ev w' => ev = .returned (.int .i64 0) ∧ Below w.heap.size w w' := by
  obtain ⟨p00, p01⟩ := p0
  obtain ⟨p10, p11⟩ := p1
  have I0 := hide h0
  have I1 := hide h1
  have I2 := hide h2
  have I3 := hide h3
  unfold cV sV
  dsimp only
  clear h0 h1 h2 h3
  go_enter Tryd.func19, Tryd.ntmps19
  go_wp2_with (first
    | (go_at_call 16; (with_reducible refine (in_is (unhide I0) _).mono ?_); rintro ev w9 ⟨rfl, hw⟩; obtain rfl := hw.symm)
    | (go_at_call 16; (with_reducible refine (in_is (unhide I1) _).mono ?_); rintro ev w9 ⟨rfl, hw⟩; obtain rfl := hw.symm)
    | (go_at_call 16; (with_reducible refine (in_is (unhide I2) _).mono ?_); rintro ev w9 ⟨rfl, hw⟩; obtain rfl := hw.symm)
    | (go_at_call 16; (with_reducible refine (in_is (unhide I3) _).mono ?_); rintro ev w9 ⟨rfl, hw⟩; obtain rfl := hw.symm))
  go_ret
  exact ⟨rfl, below_alloc (below_alloc (Below.refl _ _) _) _⟩

set_option maxRecDepth 100000 in
theorem rstep_pv (f0 f1 f2 f3 f4 f5 f6 kd nd tp vl ms : Int) (w : World) (p0 : 1 ≤ f0 ∧ f0 ≤ 8) (p1 : 1 ≤ f1 ∧ f1 ≤ 4) (h0 : inB kd 1 13 = true) (h1 : inB kd 2 5 = false) (h2 : inB nd 0 (f0 - 1) = true) (h3 : inB tp 0 (f1 - 1) = true) (h4 : inB vl 0 255 = false) (e5 : (kd == 5) = false) (e8 : decide (kd ≥ 8) = true) (e11 : (kd != 11) = false) : Calls Tryd.prog 19 #[cV ⟨f0, f1, f2, f3, f4, f5, f6⟩, sV ⟨kd, nd, tp, vl, ms⟩] w fun ev w' => ev = .returned (.int .i64 1) ∧ Below w.heap.size w w' := by
  obtain ⟨p00, p01⟩ := p0
  obtain ⟨p10, p11⟩ := p1
  have I0 := hide h0
  have I1 := hide h1
  have I2 := hide h2
  have I3 := hide h3
  have I4 := hide h4
  unfold cV sV
  dsimp only
  clear h0 h1 h2 h3 h4
  go_enter Tryd.func19, Tryd.ntmps19
  go_wp2_with (first
    | (go_at_call 16; (with_reducible refine (in_is (unhide I0) _).mono ?_); rintro ev w9 ⟨rfl, hw⟩; obtain rfl := hw.symm)
    | (go_at_call 16; (with_reducible refine (in_is (unhide I1) _).mono ?_); rintro ev w9 ⟨rfl, hw⟩; obtain rfl := hw.symm)
    | (go_at_call 16; (with_reducible refine (in_is (unhide I2) _).mono ?_); rintro ev w9 ⟨rfl, hw⟩; obtain rfl := hw.symm)
    | (go_at_call 16; (with_reducible refine (in_is (unhide I3) _).mono ?_); rintro ev w9 ⟨rfl, hw⟩; obtain rfl := hw.symm)
    | (go_at_call 16; (with_reducible refine (in_is (unhide I4) _).mono ?_); rintro ev w9 ⟨rfl, hw⟩; obtain rfl := hw.symm))
  go_ret
  exact ⟨rfl, below_alloc (below_alloc (Below.refl _ _) _) _⟩

set_option maxRecDepth 100000 in
theorem rstep_p (f0 f1 f2 f3 f4 f5 f6 kd nd tp vl ms : Int) (w : World) (p0 : 1 ≤ f0 ∧ f0 ≤ 8) (p1 : 1 ≤ f1 ∧ f1 ≤ 4) (h0 : inB kd 1 13 = true) (h1 : inB kd 2 5 = false) (h2 : inB nd 0 (f0 - 1) = true) (h3 : inB tp 0 (f1 - 1) = true) (h4 : inB vl 0 255 = true) (e5 : (kd == 5) = false) (e8 : decide (kd ≥ 8) = true) (e11 : (kd != 11) = false) : Calls Tryd.prog 19 #[cV ⟨f0, f1, f2, f3, f4, f5, f6⟩, sV ⟨kd, nd, tp, vl, ms⟩] w fun ev w' => ev = .returned (.int .i64 0) ∧ Below w.heap.size w w' := by
  obtain ⟨p00, p01⟩ := p0
  obtain ⟨p10, p11⟩ := p1
  have I0 := hide h0
  have I1 := hide h1
  have I2 := hide h2
  have I3 := hide h3
  have I4 := hide h4
  unfold cV sV
  dsimp only
  clear h0 h1 h2 h3 h4
  go_enter Tryd.func19, Tryd.ntmps19
  go_wp2_with (first
    | (go_at_call 16; (with_reducible refine (in_is (unhide I0) _).mono ?_); rintro ev w9 ⟨rfl, hw⟩; obtain rfl := hw.symm)
    | (go_at_call 16; (with_reducible refine (in_is (unhide I1) _).mono ?_); rintro ev w9 ⟨rfl, hw⟩; obtain rfl := hw.symm)
    | (go_at_call 16; (with_reducible refine (in_is (unhide I2) _).mono ?_); rintro ev w9 ⟨rfl, hw⟩; obtain rfl := hw.symm)
    | (go_at_call 16; (with_reducible refine (in_is (unhide I3) _).mono ?_); rintro ev w9 ⟨rfl, hw⟩; obtain rfl := hw.symm)
    | (go_at_call 16; (with_reducible refine (in_is (unhide I4) _).mono ?_); rintro ev w9 ⟨rfl, hw⟩; obtain rfl := hw.symm))
  go_ret
  exact ⟨rfl, below_alloc (below_alloc (Below.refl _ _) _) _⟩

theorem rstep_any (c : Cf) (s : Stp) (w : World) (hc : cfB c = true) : Calls Tryd.prog 19 #[cV c, sV s] w fun ev w' => ev = .returned (.int .i64 (stE c s)) ∧ Below w.heap.size w w' := by
  obtain ⟨q0, q1, -⟩ := cfB_iff.1 hc
  have p0 := inB_iff.1 q0
  have p1 := inB_iff.1 q1
  clear q0 q1 hc
  obtain ⟨f0, f1, f2, f3, f4, f5, f6⟩ := c
  obtain ⟨kd, nd, tp, vl, ms⟩ := s
  dsimp only at p0 p1
  unfold stE
  dsimp only
  cases hk : inB kd 1 13 with
  | false =>
    have : ¬ (1 ≤ kd ∧ kd ≤ 13) := fun q => by rw [inB_true q] at hk; cases hk
    rw [if_neg (by omega), if_neg (by omega), if_neg (by omega), if_neg (by omega), if_neg (by omega)]
    exact rstep_kd _ _ _ _ _ _ _ _ _ _ _ _ w p0 p1 hk
  | true =>
    have hb := inB_iff.1 hk
    cases hn : inB kd 2 5 with
    | true =>
      have hb2 := inB_iff.1 hn
      by_cases k5 : kd = 5
      · have e5 : (kd == 5) = true := by rw [beq_iff_eq]; exact k5
        rw [if_neg (by omega), if_neg (by omega), if_neg (by omega), if_neg (by omega), if_pos k5]
        cases hv : inB vl 0 255 with
        | false => exact rstep_5v _ _ _ _ _ _ _ _ _ _ _ _ w p0 p1 hk hn hv e5
        | true =>
          cases ht : inB tp 0 255 with
          | false => exact rstep_5t _ _ _ _ _ _ _ _ _ _ _ _ w p0 p1 hk hn hv ht e5
          | true =>
            cases hm : inB ms 1 255 with
            | false => exact rstep_5m _ _ _ _ _ _ _ _ _ _ _ _ w p0 p1 hk hn hv ht hm e5
            | true => exact rstep_5 _ _ _ _ _ _ _ _ _ _ _ _ w p0 p1 hk hn hv ht hm e5
      · have e5 : (kd == 5) = false := by rw [beq_eq_false_iff_ne]; exact k5
        rw [if_neg (by omega), if_neg (by omega), if_neg (by omega), if_pos (by omega)]
        cases hv : inB vl 0 255 with
        | false => exact rstep_nv _ _ _ _ _ _ _ _ _ _ _ _ w p0 p1 hk hn hv e5
        | true => exact rstep_n _ _ _ _ _ _ _ _ _ _ _ _ w p0 p1 hk hn hv e5
    | false =>
      have hb2 : ¬ (2 ≤ kd ∧ kd ≤ 5) := fun q => by rw [inB_true q] at hn; cases hn
      have e5 : (kd == 5) = false := by rw [beq_eq_false_iff_ne]; omega
      by_cases k8 : 8 ≤ kd
      · have e8 : decide (kd ≥ 8) = true := decide_eq_true k8
        rw [if_neg (by omega)]
        cases hd : inB nd 0 (f0 - 1) with
        | false =>
          have := rstep_nd f0 f1 f2 f3 f4 f5 f6 kd nd tp vl ms w p0 p1 hk hn hd
          by_cases k11 : kd = 11
          · rw [if_neg (by omega), if_pos k11]; exact this
          · rw [if_pos (by omega)]; exact this
        | true =>
          cases ht : inB tp 0 (f1 - 1) with
          | false =>
            have := rstep_t f0 f1 f2 f3 f4 f5 f6 kd nd tp vl ms w p0 p1 hk hn hd ht e5 e8
            by_cases k11 : kd = 11
            · rw [if_neg (by omega), if_pos k11]; exact this
            · rw [if_pos (by omega)]; exact this
          | true =>
            by_cases k11 : kd = 11
            · rw [if_neg (by omega), if_pos k11]
              have e11 : (kd != 11) = false := by simp [k11]
              cases hv : inB vl 0 255 with
              | false => exact rstep_pv _ _ _ _ _ _ _ _ _ _ _ _ w p0 p1 hk hn hd ht hv e5 e8 e11
              | true => exact rstep_p _ _ _ _ _ _ _ _ _ _ _ _ w p0 p1 hk hn hd ht hv e5 e8 e11
            · rw [if_pos (by omega)]
              have e11 : (kd != 11) = true := by simp [k11]
              exact rstep_u _ _ _ _ _ _ _ _ _ _ _ _ w p0 p1 hk hn hd ht e5 e8 e11
      · have e8 : decide (kd ≥ 8) = false := decide_eq_false k8
        rw [if_pos (by omega)]
        cases hd : inB nd 0 (f0 - 1) with
        | false => exact rstep_nd _ _ _ _ _ _ _ _ _ _ _ _ w p0 p1 hk hn hd
        | true => exact rstep_s _ _ _ _ _ _ _ _ _ _ _ _ w p0 p1 hk hn hd e5 e8
end Go.Proofs.YtfhglganaebpoaaDoor
