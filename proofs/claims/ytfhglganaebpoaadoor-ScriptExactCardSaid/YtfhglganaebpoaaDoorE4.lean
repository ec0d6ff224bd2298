/- Walk of Config. -/
import Derived.Test.YtfhglganaebpoaaDoorE3
import Derived.Great.BuildSlice
namespace Go.Proofs.YtfhglganaebpoaaDoor
open Go.RowKit

theorem fst_cases {V : Nat → Value} {n : Nat} {e : Addr} (hV : ∀ i, i < n → V i = .nilIface ∨ ∃ s, V i = feV s e) :
    (fst V n = .nilIface ∧ ∀ i, i < n → V i = .nilIface) ∨ ∃ s i, fst V n = feV s e ∧ i < n ∧ V i = feV s e := by
  induction n with
  | zero => exact .inl ⟨rfl, fun i hi => absurd hi (Nat.not_lt_zero _)⟩
  | succ n ih =>
    rcases ih (fun i hi => hV i (by omega)) with ⟨h1, h2⟩ | ⟨s, i, h1, h2, h3⟩
    · rw [fst_nil h1]
      rcases hV n (by omega) with h | ⟨s, h⟩
      · exact .inl ⟨h, fun i hi => by
          by_cases hq : i < n
          · exact h2 i hq
          · obtain rfl : i = n := by omega
            exact h⟩
      · exact .inr ⟨s, n, h, by omega, h⟩
    · exact .inr ⟨s, i, fst_keep h1 (by omega), by omega, h3⟩
theorem wi_or (s : Value) (n lo hi : Int) (e : Addr) : wi s n lo hi e = .nilIface ∨ ∃ t, wi s n lo hi e = feV t e := by
  unfold wi
  cases inB n lo hi
  · exact .inr ⟨s, rfl⟩
  · exact .inl rfl
theorem wi_nil {s : Value} {n lo hi : Int} {e : Addr} : wi s n lo hi e = .nilIface ↔ inB n lo hi = true := by
  unfold wi feV
  cases inB n lo hi <;> simp
theorem feV_ne (s : Value) (e : Addr) : feV s e ≠ .nilIface := by unfold feV; simp

theorem Has.drew {w : World} {g : Nat} {o : Obj} (h : Has w g o) : Has w.drew g o := ⟨h.1, by rw [heap_drew]; exact h.2⟩
/-- A config. -/
structure Cf where
  f0 : Int
  f1 : Int
  f2 : Int
  f3 : Int
  f4 : Int
  f5 : Int
  f6 : Int
def cV (c : Cf) : Value := .agg #[.int .i64 c.f0, .int .i64 c.f1, .int .i64 c.f2, .int .i64 c.f3, .int .i64 c.f4, .int .i64 c.f5, .int .i64 c.f6]
/-- A config is right. -/
def cfB (c : Cf) : Bool := inB c.f0 1 8 && inB c.f1 1 4 && inB c.f2 1 4 && inB c.f3 1 8 && inB c.f4 1 16 && inB c.f5 1 16 && inB c.f6 2 32
/-- What Config answers. -/
def cfE (c : Cf) : Int := if cfB c then 0 else 13
theorem cfB_iff {c : Cf} : cfB c = true ↔ inB c.f0 1 8 = true ∧ inB c.f1 1 4 = true ∧ inB c.f2 1 4 = true ∧ inB c.f3 1 8 = true ∧ inB c.f4 1 16 = true ∧ inB c.f5 1 16 = true ∧ inB c.f6 2 32 = true := by
  unfold cfB
  simp only [Bool.and_eq_true, and_assoc]
/-- What Config asks of the fields, in their order. -/
def cfL (c : Cf) (e : Addr) (i : Nat) : Value := [wi (.string { data := #[78, 111, 100, 101, 115] }) c.f0 1 8 e, wi (.string { data := #[84, 111, 112, 105, 99, 115] }) c.f1 1 4 e, wi (.string { data := #[75, 105, 100, 115] }) c.f2 1 4 e, wi (.string { data := #[68, 101, 112, 116, 104] }) c.f3 1 8 e, wi (.string { data := #[75, 101, 101, 112] }) c.f4 1 16 e, wi (.string { data := #[87, 105, 110, 100, 111, 119] }) c.f5 1 16 e, wi (.string { data := #[81, 117, 101, 117, 101] }) c.f6 2 32 e].getD i .nilIface
theorem cfL_or (c : Cf) (e : Addr) : ∀ i, i < 7 → cfL c e i = .nilIface ∨ ∃ s, cfL c e i = feV s e := by
  intro i hi
  match i, hi with
  | 0, _ => exact wi_or _ _ _ _ _
  | 1, _ => exact wi_or _ _ _ _ _
  | 2, _ => exact wi_or _ _ _ _ _
  | 3, _ => exact wi_or _ _ _ _ _
  | 4, _ => exact wi_or _ _ _ _ _
  | 5, _ => exact wi_or _ _ _ _ _
  | 6, _ => exact wi_or _ _ _ _ _
theorem cfL_cases (c : Cf) (e : Addr) : (fst (cfL c e) 7 = .nilIface ∧ cfB c = true) ∨ ∃ s, fst (cfL c e) 7 = feV s e ∧ cfB c = false := by
  rcases fst_cases (cfL_or c e) with ⟨h1, h2⟩ | ⟨s, i, h1, h2, h3⟩
  · exact .inl ⟨h1, cfB_iff.2 ⟨wi_nil.1 (h2 0 (by omega)), wi_nil.1 (h2 1 (by omega)), wi_nil.1 (h2 2 (by omega)), wi_nil.1 (h2 3 (by omega)), wi_nil.1 (h2 4 (by omega)), wi_nil.1 (h2 5 (by omega)), wi_nil.1 (h2 6 (by omega))⟩⟩
  · refine .inr ⟨s, h1, ?_⟩
    cases hq : cfB c with
    | false => rfl
    | true =>
      obtain ⟨q0, q1, q2, q3, q4, q5, q6⟩ := cfB_iff.1 hq
      exfalso
      match i, h2 with
      | 0, _ => exact feV_ne s e (h3.symm.trans (wi_nil.2 q0))
      | 1, _ => exact feV_ne s e (h3.symm.trans (wi_nil.2 q1))
      | 2, _ => exact feV_ne s e (h3.symm.trans (wi_nil.2 q2))
      | 3, _ => exact feV_ne s e (h3.symm.trans (wi_nil.2 q3))
      | 4, _ => exact feV_ne s e (h3.symm.trans (wi_nil.2 q4))
      | 5, _ => exact feV_ne s e (h3.symm.trans (wi_nil.2 q5))
      | 6, _ => exact feV_ne s e (h3.symm.trans (wi_nil.2 q6))
theorem getd_cell (w : World) (L : List Value) (t : TypeId) (g i : Nat) (hg : g = w.heap.size) (hi : i < L.length) : (w.alloc (.cells L.toArray t)).cell? ⟨g, i, none⟩ = some (L.getD i .nilIface) := by
  subst hg
  have h := cells_lit w L t i (L.getD i .nilIface) (by simp [List.getD, List.getElem?_eq_getElem hi])
  rw [Addr.add_lit, Nat.zero_add] at h
  exact h

theorem first_lit (L : List Value) (e : Addr) (g n : Nat) (w : World) (hg : g = w.heap.size) (hn : n = L.length) (h10 : n ≤ 10) (hV : ∀ i, i < n → L.getD i .nilIface = .nilIface ∨ ∃ s, L.getD i .nilIface = feV s e) :
    Calls Tryd.prog 24 #[.slice (some ⟨g, 0, none⟩) n n] (w.alloc (.cells L.toArray 52)) fun ev w' => ev = .returned (fst (fun i => L.getD i .nilIface) n) ∧ w' = w.alloc (.cells L.toArray 52) :=
  first_any (fun i => L.getD i .nilIface) e g n _ h10 (by simp; omega) (fun i hi => getd_cell w L 52 g i hg (by omega)) hV

theorem info52 : (Tryd.prog.info? 52).map (fun i => (i.zero, i.size, i.bytes)) = some (some .nilIface, 1, 16) := by kernel_rfl
/-- A list of errors, written out. -/
theorem errs_lit (L : List Value) (n : Nat) (hn : n = L.length) (h0 : 0 < n) (h10 : n ≤ 10) (hL : ∀ v ∈ L, v.cells = #[v]) (w : World) :
    (Instr.buildSlice 65 n ((L.zipIdx 0).map fun x => (x.2, x.1)).toArray).run Tryd.prog w = .ok (.slice (some ⟨w.heap.size, 0, none⟩) n n) (w.alloc (.cells L.toArray 52)) := by
  obtain ⟨i, hi, hz0, hz1, hz2⟩ := info_parts info52
  refine run_buildSlice w 65 52 n _ _ i _ Tryd.underlying65 hi hz0 (by rw [hz1]; omega) (by rw [hz1]; omega) ?_
  rw [hz1]
  exact Great.fill_flat _ _ hL (by simp [hn])
theorem noagg_or {v : Value} {e : Addr} (h : v = .nilIface ∨ ∃ s, v = feV s e) : ∀ cs, v = .agg cs → False := by
  rcases h with rfl | ⟨s, rfl⟩
  · intro cs h; cases h
  · intro cs h; unfold feV at h; cases h
theorem cells_or {v : Value} {e : Addr} (h : v = .nilIface ∨ ∃ s, v = feV s e) : v.cells = #[v] := by
  rcases h with rfl | ⟨s, rfl⟩ <;> rfl
set_option maxHeartbeats 4000000 in
set_option maxRecDepth 100000 in
theorem config_any (c : Cf) (e : Addr) (w : World) (hG : Glob w e) : Calls Tryd.prog 11 #[cV c] w fun ev w' => ev = .returned (.int .i64 (cfE c)) ∧ Below w.heap.size w w' := by
  have HG := hide hG
  have hlt := hG.1
  obtain ⟨V, hV⟩ : ∃ V, V = cfL c e := ⟨_, rfl⟩
  have CS := cfL_cases c e

  have C0 : Hid (∀ w1, Below w.heap.size w w1 → Calls Tryd.prog 25 #[.string { data := #[78, 111, 100, 101, 115] }, .int .i64 c.f0, .int .i64 1, .int .i64 8] w1 fun ev w2 => ev = .returned (cfL c e 0) ∧ w2 = w1) := hide fun w1 b => within_any _ _ _ _ e w1 ((unhide HG).below b)
  have C1 : Hid (∀ w1, Below w.heap.size w w1 → Calls Tryd.prog 25 #[.string { data := #[84, 111, 112, 105, 99, 115] }, .int .i64 c.f1, .int .i64 1, .int .i64 4] w1 fun ev w2 => ev = .returned (cfL c e 1) ∧ w2 = w1) := hide fun w1 b => within_any _ _ _ _ e w1 ((unhide HG).below b)
  have C2 : Hid (∀ w1, Below w.heap.size w w1 → Calls Tryd.prog 25 #[.string { data := #[75, 105, 100, 115] }, .int .i64 c.f2, .int .i64 1, .int .i64 4] w1 fun ev w2 => ev = .returned (cfL c e 2) ∧ w2 = w1) := hide fun w1 b => within_any _ _ _ _ e w1 ((unhide HG).below b)
  have C3 : Hid (∀ w1, Below w.heap.size w w1 → Calls Tryd.prog 25 #[.string { data := #[68, 101, 112, 116, 104] }, .int .i64 c.f3, .int .i64 1, .int .i64 8] w1 fun ev w2 => ev = .returned (cfL c e 3) ∧ w2 = w1) := hide fun w1 b => within_any _ _ _ _ e w1 ((unhide HG).below b)
  have C4 : Hid (∀ w1, Below w.heap.size w w1 → Calls Tryd.prog 25 #[.string { data := #[75, 101, 101, 112] }, .int .i64 c.f4, .int .i64 1, .int .i64 16] w1 fun ev w2 => ev = .returned (cfL c e 4) ∧ w2 = w1) := hide fun w1 b => within_any _ _ _ _ e w1 ((unhide HG).below b)
  have C5 : Hid (∀ w1, Below w.heap.size w w1 → Calls Tryd.prog 25 #[.string { data := #[87, 105, 110, 100, 111, 119] }, .int .i64 c.f5, .int .i64 1, .int .i64 16] w1 fun ev w2 => ev = .returned (cfL c e 5) ∧ w2 = w1) := hide fun w1 b => within_any _ _ _ _ e w1 ((unhide HG).below b)
  have C6 : Hid (∀ w1, Below w.heap.size w w1 → Calls Tryd.prog 25 #[.string { data := #[81, 117, 101, 117, 101] }, .int .i64 c.f6, .int .i64 2, .int .i64 32] w1 fun ev w2 => ev = .returned (cfL c e 6) ∧ w2 = w1) := hide fun w1 b => within_any _ _ _ _ e w1 ((unhide HG).below b)
  have CF : Hid (∀ (g : Nat) (w1 : World), Has w1 g (.cells #[cfL c e 0, cfL c e 1, cfL c e 2, cfL c e 3, cfL c e 4, cfL c e 5, cfL c e 6] 52) → Calls Tryd.prog 24 #[.slice (some ⟨g, 0, none⟩) 7 7] w1 fun ev w2 => ev = .returned (fst (cfL c e) 7) ∧ w2 = w1) := hide fun g w1 hg => by
    refine first_any (cfL c e) e g 7 w1 (by decide) hg.1 ?_ (cfL_or c e)
    intro i hi
    match i, hi with
    | 0, _ => exact hg.cell (k := 0) rfl
    | 1, _ => exact hg.cell (k := 1) rfl
    | 2, _ => exact hg.cell (k := 2) rfl
    | 3, _ => exact hg.cell (k := 3) rfl
    | 4, _ => exact hg.cell (k := 4) rfl
    | 5, _ => exact hg.cell (k := 5) rfl
    | 6, _ => exact hg.cell (k := 6) rfl
  have k0 := cells_or (cfL_or c e 0 (by decide))
  have n0 := noagg_or (cfL_or c e 0 (by decide))
  have k1 := cells_or (cfL_or c e 1 (by decide))
  have n1 := noagg_or (cfL_or c e 1 (by decide))
  have k2 := cells_or (cfL_or c e 2 (by decide))
  have n2 := noagg_or (cfL_or c e 2 (by decide))
  have k3 := cells_or (cfL_or c e 3 (by decide))
  have n3 := noagg_or (cfL_or c e 3 (by decide))
  have k4 := cells_or (cfL_or c e 4 (by decide))
  have n4 := noagg_or (cfL_or c e 4 (by decide))
  have k5 := cells_or (cfL_or c e 5 (by decide))
  have n5 := noagg_or (cfL_or c e 5 (by decide))
  have k6 := cells_or (cfL_or c e 6 (by decide))
  have n6 := noagg_or (cfL_or c e 6 (by decide))
  obtain ⟨w1, hw1⟩ : ∃ q, q = w.alloc (.cells #[.int .i64 c.f0, .int .i64 c.f1, .int .i64 c.f2, .int .i64 c.f3, .int .i64 c.f4, .int .i64 c.f5, .int .i64 c.f6] 23) := ⟨_, rfl⟩
  have B1 : Below w.heap.size w w1 := by subst hw1; exact below_alloc (Below.refl _ _) _
  have H1 : Has w1 w.heap.size (.cells #[.int .i64 c.f0, .int .i64 c.f1, .int .i64 c.f2, .int .i64 c.f3, .int .i64 c.f4, .int .i64 c.f5, .int .i64 c.f6] 23) := by subst hw1; exact Has.new _ _
  have c0 := H1.cell (k := 0) rfl
  have c1 := H1.cell (k := 1) rfl
  have c2 := H1.cell (k := 2) rfl
  have c3 := H1.cell (k := 3) rfl
  have c4 := H1.cell (k := 4) rfl
  have c5 := H1.cell (k := 5) rfl
  have c6 := H1.cell (k := 6) rfl
  have S1 := H1.1
  have HB := hide B1
  clear H1
  unfold cV
  generalize cfL c e 0 = v0 at *
  generalize cfL c e 1 = v1 at *
  generalize cfL c e 2 = v2 at *
  generalize cfL c e 3 = v3 at *
  generalize cfL c e 4 = v4 at *
  generalize cfL c e 5 = v5 at *
  generalize cfL c e 6 = v6 at *
  generalize hf0 : c.f0 = x0 at *
  generalize hf1 : c.f1 = x1 at *
  generalize hf2 : c.f2 = x2 at *
  generalize hf3 : c.f3 = x3 at *
  generalize hf4 : c.f4 = x4 at *
  generalize hf5 : c.f5 = x5 at *
  generalize hf6 : c.f6 = x6 at *
  clear hf0 hf1 hf2 hf3 hf4 hf5 hf6
  clear hV V
  go_enter Tryd.func11, Tryd.ntmps11
  go_upto_region 1 with fail
  rw [← hw1]
  clear hw1
  have HX := Has.new w1 (.cells #[v0, v1, v2, v3, v4, v5, v6] 52)
  have SL : ∀ o, Below w.heap.size w (w1.alloc o).drew ∧ w.heap.size < (w1.alloc o).drew.heap.size ∧ (w1.alloc o).drew.cell? ⟨w.heap.size, 0, none⟩ = some (.int .i64 x0) ∧ (w1.alloc o).drew.cell? ⟨w.heap.size, 1, none⟩ = some (.int .i64 x1) ∧ (w1.alloc o).drew.cell? ⟨w.heap.size, 2, none⟩ = some (.int .i64 x2) ∧ (w1.alloc o).drew.cell? ⟨w.heap.size, 3, none⟩ = some (.int .i64 x3) ∧ (w1.alloc o).drew.cell? ⟨w.heap.size, 4, none⟩ = some (.int .i64 x4) ∧ (w1.alloc o).drew.cell? ⟨w.heap.size, 5, none⟩ = some (.int .i64 x5) ∧ (w1.alloc o).drew.cell? ⟨w.heap.size, 6, none⟩ = some (.int .i64 x6) := fun o => ⟨(Below.alloc B1 (Nat.le_of_lt S1) o).drew, by simp; omega, by rw [World.cell?_drew, World.cell?_alloc_lt _ _ ⟨w.heap.size, 0, none⟩ S1]; exact c0, by rw [World.cell?_drew, World.cell?_alloc_lt _ _ ⟨w.heap.size, 1, none⟩ S1]; exact c1, by rw [World.cell?_drew, World.cell?_alloc_lt _ _ ⟨w.heap.size, 2, none⟩ S1]; exact c2, by rw [World.cell?_drew, World.cell?_alloc_lt _ _ ⟨w.heap.size, 3, none⟩ S1]; exact c3, by rw [World.cell?_drew, World.cell?_alloc_lt _ _ ⟨w.heap.size, 4, none⟩ S1]; exact c4, by rw [World.cell?_drew, World.cell?_alloc_lt _ _ ⟨w.heap.size, 5, none⟩ S1]; exact c5, by rw [World.cell?_drew, World.cell?_alloc_lt _ _ ⟨w.heap.size, 6, none⟩ S1]; exact c6⟩
  go_region_held3 (fun w' => Below w.heap.size w w' ∧ w.heap.size < w'.heap.size ∧ w'.cell? ⟨w.heap.size, 0, none⟩ = some (.int .i64 x0) ∧ w'.cell? ⟨w.heap.size, 1, none⟩ = some (.int .i64 x1) ∧ w'.cell? ⟨w.heap.size, 2, none⟩ = some (.int .i64 x2) ∧ w'.cell? ⟨w.heap.size, 3, none⟩ = some (.int .i64 x3) ∧ w'.cell? ⟨w.heap.size, 4, none⟩ = some (.int .i64 x4) ∧ w'.cell? ⟨w.heap.size, 5, none⟩ = some (.int .i64 x5) ∧ w'.cell? ⟨w.heap.size, 6, none⟩ = some (.int .i64 x6))
    (first
      | assumption
      | exact SL _
      | (refine ⟨?_, ?_, ?_, ?_, ?_, ?_, ?_, ?_, ?_⟩ <;> first | assumption | exact Below.drew (by assumption) | exact SL _ | simp [*] | exact below_drewN (by assumption) _ | exact below_drewN (by assumption) 1))
    (first
      | (go_at_call 25; (with_reducible refine (unhide C0 _ ?_).mono ?_); (focus (first | assumption | exact Below.drew (by assumption) | exact below_drewN (by assumption) _ | exact below_drewN (by assumption) 1)); rintro ev w9 ⟨rfl, rfl⟩)
      | (go_at_call 25; (with_reducible refine (unhide C1 _ ?_).mono ?_); (focus (first | assumption | exact Below.drew (by assumption) | exact below_drewN (by assumption) _ | exact below_drewN (by assumption) 1)); rintro ev w9 ⟨rfl, rfl⟩)
      | (go_at_call 25; (with_reducible refine (unhide C2 _ ?_).mono ?_); (focus (first | assumption | exact Below.drew (by assumption) | exact below_drewN (by assumption) _ | exact below_drewN (by assumption) 1)); rintro ev w9 ⟨rfl, rfl⟩)
      | (go_at_call 25; (with_reducible refine (unhide C3 _ ?_).mono ?_); (focus (first | assumption | exact Below.drew (by assumption) | exact below_drewN (by assumption) _ | exact below_drewN (by assumption) 1)); rintro ev w9 ⟨rfl, rfl⟩)
      | (go_at_call 25; (with_reducible refine (unhide C4 _ ?_).mono ?_); (focus (first | assumption | exact Below.drew (by assumption) | exact below_drewN (by assumption) _ | exact below_drewN (by assumption) 1)); rintro ev w9 ⟨rfl, rfl⟩)
      | (go_at_call 25; (with_reducible refine (unhide C5 _ ?_).mono ?_); (focus (first | assumption | exact Below.drew (by assumption) | exact below_drewN (by assumption) _ | exact below_drewN (by assumption) 1)); rintro ev w9 ⟨rfl, rfl⟩)
      | (go_at_call 25; (with_reducible refine (unhide C6 _ ?_).mono ?_); (focus (first | assumption | exact Below.drew (by assumption) | exact below_drewN (by assumption) _ | exact below_drewN (by assumption) 1)); rintro ev w9 ⟨rfl, rfl⟩)
      | (go_at_call 24; (with_reducible refine (unhide CF _ _ ?_).mono ?_); (focus (first | exact HX | exact HX.drew | exact HX.drew.drew)); rintro ev w9 ⟨rfl, rfl⟩))
  obtain ⟨w2, hw2⟩ : ∃ q, q = (w1.alloc (.cells #[v0, v1, v2, v3, v4, v5, v6] 52)).drew := ⟨_, rfl⟩
  have b2 : Below w.heap.size w w2 := by rw [hw2]; exact (SL _).1
  rw [← hw2]
  have g0 := ((unhide HG).below b2).2.1
  have HB2 := hide b2
  clear SL HX b2 hw2 c0 k0 n0 C0 c1 k1 n1 C1 c2 k2 n2 C2 c3 k3 n3 C3 c4 k4 n4 C4 c5 k5 n5 C5 c6 k6 n6 C6 S1 B1 HB CF
  generalize fst (cfL c e) 7 = r at *
  rcases CS with ⟨rfl, hB⟩ | ⟨s, rfl, hB⟩
  · have R := hide (show cfE c = 0 by simp [cfE, hB])
    clear hB
    go_wp2_with (go_at_call 22; refine (is_nil _ _).mono ?_; rintro ev w9 ⟨rfl, rfl⟩)
    go_ret
    exact ⟨by rw [unhide R]; rfl, unhide HB2⟩
  · have R := hide (show cfE c = 13 by simp [cfE, hB])
    clear hB
    go_wp2_with (go_at_call 22; refine (is_fe _ _ _).mono ?_; rintro ev w9 ⟨rfl, b9⟩; have B9 := hide (below_of (unhide HB2) b9); clear b9)
    go_ret
    exact ⟨by rw [unhide R]; rfl, unhide B9⟩
end Go.Proofs.YtfhglganaebpoaaDoor
