/- Walk of wrongByte. -/
import Derived.Test.YtfhglganaebpoaaDoorE4
namespace Go.Proofs.YtfhglganaebpoaaDoor
open Go.RowKit

/-- A step. -/
structure Stp where
  kd : Int
  nd : Int
  tp : Int
  vl : Int
  ms : Int
def sV (s : Stp) : Value := .agg #[.int .i64 s.kd, .int .i64 s.nd, .int .i64 s.tp, .int .i64 s.vl, .int .i64 s.ms]
/-- A step's fields are bytes. -/
def byB (s : Stp) : Bool := inB s.kd 0 255 && inB s.nd 0 255 && inB s.tp 0 255 && inB s.vl 0 255 && inB s.ms 0 255
theorem byB_iff {s : Stp} : byB s = true ↔ inB s.kd 0 255 = true ∧ inB s.nd 0 255 = true ∧ inB s.tp 0 255 = true ∧ inB s.vl 0 255 = true ∧ inB s.ms 0 255 = true := by
  unfold byB
  simp only [Bool.and_eq_true, and_assoc]
def byL (s : Stp) (e : Addr) (i : Nat) : Value := [wi (.string { data := #[75, 105, 110, 100] }) s.kd 0 255 e, wi (.string { data := #[78, 111, 100, 101] }) s.nd 0 255 e, wi (.string { data := #[84, 111, 112, 105, 99] }) s.tp 0 255 e, wi (.string { data := #[86, 97, 108, 117, 101] }) s.vl 0 255 e, wi (.string { data := #[77, 97, 115, 107] }) s.ms 0 255 e].getD i .nilIface
theorem byL_or (s : Stp) (e : Addr) : ∀ i, i < 5 → byL s e i = .nilIface ∨ ∃ t, byL s e i = feV t e := by
  intro i hi
  match i, hi with
  | 0, _ => exact wi_or _ _ _ _ _
  | 1, _ => exact wi_or _ _ _ _ _
  | 2, _ => exact wi_or _ _ _ _ _
  | 3, _ => exact wi_or _ _ _ _ _
  | 4, _ => exact wi_or _ _ _ _ _
theorem byL_cases (s : Stp) (e : Addr) : (fst (byL s e) 5 = .nilIface ∧ byB s = true) ∨ ∃ t, fst (byL s e) 5 = feV t e ∧ byB s = false := by
  rcases fst_cases (byL_or s e) with ⟨h1, h2⟩ | ⟨t, i, h1, h2, h3⟩
  · exact .inl ⟨h1, byB_iff.2 ⟨wi_nil.1 (h2 0 (by omega)), wi_nil.1 (h2 1 (by omega)), wi_nil.1 (h2 2 (by omega)), wi_nil.1 (h2 3 (by omega)), wi_nil.1 (h2 4 (by omega))⟩⟩
  · refine .inr ⟨t, h1, ?_⟩
    cases hq : byB s with
    | false => rfl
    | true =>
      obtain ⟨q0, q1, q2, q3, q4⟩ := byB_iff.1 hq
      exfalso
      match i, h2 with
      | 0, _ => exact feV_ne t e (h3.symm.trans (wi_nil.2 q0))
      | 1, _ => exact feV_ne t e (h3.symm.trans (wi_nil.2 q1))
      | 2, _ => exact feV_ne t e (h3.symm.trans (wi_nil.2 q2))
      | 3, _ => exact feV_ne t e (h3.symm.trans (wi_nil.2 q3))
      | 4, _ => exact feV_ne t e (h3.symm.trans (wi_nil.2 q4))
set_option maxHeartbeats 4000000 in
set_option maxRecDepth 100000 in
theorem wrongByte_any (s : Stp) (e : Addr) (w : World) (hG : Glob w e) : Calls Tryd.prog 23 #[sV s] w fun ev w' => ev = .returned (fst (byL s e) 5) ∧ Below w.heap.size w w' := by
  have HG := hide hG
  have hlt := hG.1

  have C0 : Hid (∀ w1, Below w.heap.size w w1 → Calls Tryd.prog 25 #[.string { data := #[75, 105, 110, 100] }, .int .i64 s.kd, .int .i64 0, .int .i64 255] w1 fun ev w2 => ev = .returned (byL s e 0) ∧ w2 = w1) := hide fun w1 b => within_any _ _ _ _ e w1 ((unhide HG).below b)
  have C1 : Hid (∀ w1, Below w.heap.size w w1 → Calls Tryd.prog 25 #[.string { data := #[78, 111, 100, 101] }, .int .i64 s.nd, .int .i64 0, .int .i64 255] w1 fun ev w2 => ev = .returned (byL s e 1) ∧ w2 = w1) := hide fun w1 b => within_any _ _ _ _ e w1 ((unhide HG).below b)
  have C2 : Hid (∀ w1, Below w.heap.size w w1 → Calls Tryd.prog 25 #[.string { data := #[84, 111, 112, 105, 99] }, .int .i64 s.tp, .int .i64 0, .int .i64 255] w1 fun ev w2 => ev = .returned (byL s e 2) ∧ w2 = w1) := hide fun w1 b => within_any _ _ _ _ e w1 ((unhide HG).below b)
  have C3 : Hid (∀ w1, Below w.heap.size w w1 → Calls Tryd.prog 25 #[.string { data := #[86, 97, 108, 117, 101] }, .int .i64 s.vl, .int .i64 0, .int .i64 255] w1 fun ev w2 => ev = .returned (byL s e 3) ∧ w2 = w1) := hide fun w1 b => within_any _ _ _ _ e w1 ((unhide HG).below b)
  have C4 : Hid (∀ w1, Below w.heap.size w w1 → Calls Tryd.prog 25 #[.string { data := #[77, 97, 115, 107] }, .int .i64 s.ms, .int .i64 0, .int .i64 255] w1 fun ev w2 => ev = .returned (byL s e 4) ∧ w2 = w1) := hide fun w1 b => within_any _ _ _ _ e w1 ((unhide HG).below b)
  have CF : Hid (∀ (g : Nat) (w1 : World), Has w1 g (.cells #[byL s e 0, byL s e 1, byL s e 2, byL s e 3, byL s e 4] 52) → Calls Tryd.prog 24 #[.slice (some ⟨g, 0, none⟩) 5 5] w1 fun ev w2 => ev = .returned (fst (byL s e) 5) ∧ w2 = w1) := hide fun g w1 hg => by
    refine first_any (byL s e) e g 5 w1 (by decide) hg.1 ?_ (byL_or s e)
    intro i hi
    match i, hi with
    | 0, _ => exact hg.cell (k := 0) rfl
    | 1, _ => exact hg.cell (k := 1) rfl
    | 2, _ => exact hg.cell (k := 2) rfl
    | 3, _ => exact hg.cell (k := 3) rfl
    | 4, _ => exact hg.cell (k := 4) rfl
  have k0 := cells_or (byL_or s e 0 (by decide))
  have n0 := noagg_or (byL_or s e 0 (by decide))
  have k1 := cells_or (byL_or s e 1 (by decide))
  have n1 := noagg_or (byL_or s e 1 (by decide))
  have k2 := cells_or (byL_or s e 2 (by decide))
  have n2 := noagg_or (byL_or s e 2 (by decide))
  have k3 := cells_or (byL_or s e 3 (by decide))
  have n3 := noagg_or (byL_or s e 3 (by decide))
  have k4 := cells_or (byL_or s e 4 (by decide))
  have n4 := noagg_or (byL_or s e 4 (by decide))
  obtain ⟨w1, hw1⟩ : ∃ q, q = w.alloc (.cells #[.int .i64 s.kd, .int .i64 s.nd, .int .i64 s.tp, .int .i64 s.vl, .int .i64 s.ms] 27) := ⟨_, rfl⟩
  have B1 : Below w.heap.size w w1 := by subst hw1; exact below_alloc (Below.refl _ _) _
  have H1 : Has w1 w.heap.size (.cells #[.int .i64 s.kd, .int .i64 s.nd, .int .i64 s.tp, .int .i64 s.vl, .int .i64 s.ms] 27) := by subst hw1; exact Has.new _ _
  have c0 := H1.cell (k := 0) rfl
  have c1 := H1.cell (k := 1) rfl
  have c2 := H1.cell (k := 2) rfl
  have c3 := H1.cell (k := 3) rfl
  have c4 := H1.cell (k := 4) rfl
  have S1 := H1.1
  clear H1
  unfold sV
  generalize byL s e 0 = v0 at *
  generalize byL s e 1 = v1 at *
  generalize byL s e 2 = v2 at *
  generalize byL s e 3 = v3 at *
  generalize byL s e 4 = v4 at *
  generalize fst (byL s e) 5 = r at *
  generalize hf0 : s.kd = x0 at *
  generalize hf1 : s.nd = x1 at *
  generalize hf2 : s.tp = x2 at *
  generalize hf3 : s.vl = x3 at *
  generalize hf4 : s.ms = x4 at *
  clear hf0 hf1 hf2 hf3 hf4
  go_enter Tryd.func23, Tryd.ntmps23
  go_upto_region 1 with fail
  rw [← hw1]
  clear hw1
  have HX := Has.new w1 (.cells #[v0, v1, v2, v3, v4] 52)
  have SL : ∀ o, Below w.heap.size w (w1.alloc o).drew ∧ w.heap.size < (w1.alloc o).drew.heap.size ∧ (w1.alloc o).drew.cell? ⟨w.heap.size, 0, none⟩ = some (.int .i64 x0) ∧ (w1.alloc o).drew.cell? ⟨w.heap.size, 1, none⟩ = some (.int .i64 x1) ∧ (w1.alloc o).drew.cell? ⟨w.heap.size, 2, none⟩ = some (.int .i64 x2) ∧ (w1.alloc o).drew.cell? ⟨w.heap.size, 3, none⟩ = some (.int .i64 x3) ∧ (w1.alloc o).drew.cell? ⟨w.heap.size, 4, none⟩ = some (.int .i64 x4) := fun o => ⟨(Below.alloc B1 (Nat.le_of_lt S1) o).drew, by simp; omega, by rw [World.cell?_drew, World.cell?_alloc_lt _ _ ⟨w.heap.size, 0, none⟩ S1]; exact c0, by rw [World.cell?_drew, World.cell?_alloc_lt _ _ ⟨w.heap.size, 1, none⟩ S1]; exact c1, by rw [World.cell?_drew, World.cell?_alloc_lt _ _ ⟨w.heap.size, 2, none⟩ S1]; exact c2, by rw [World.cell?_drew, World.cell?_alloc_lt _ _ ⟨w.heap.size, 3, none⟩ S1]; exact c3, by rw [World.cell?_drew, World.cell?_alloc_lt _ _ ⟨w.heap.size, 4, none⟩ S1]; exact c4⟩
  go_region_held3 (fun w' => Below w.heap.size w w' ∧ w.heap.size < w'.heap.size ∧ w'.cell? ⟨w.heap.size, 0, none⟩ = some (.int .i64 x0) ∧ w'.cell? ⟨w.heap.size, 1, none⟩ = some (.int .i64 x1) ∧ w'.cell? ⟨w.heap.size, 2, none⟩ = some (.int .i64 x2) ∧ w'.cell? ⟨w.heap.size, 3, none⟩ = some (.int .i64 x3) ∧ w'.cell? ⟨w.heap.size, 4, none⟩ = some (.int .i64 x4))
    (first
      | assumption
      | exact SL _
      | (refine ⟨?_, ?_, ?_, ?_, ?_, ?_, ?_⟩ <;> first | assumption | exact Below.drew (by assumption) | simp [*] | exact below_drewN (by assumption) _))
    (first
      | (go_at_call 25; (with_reducible refine (unhide C0 _ ?_).mono ?_); (focus (first | assumption | exact Below.drew (by assumption) | exact below_drewN (by assumption) _)); rintro ev w9 ⟨rfl, rfl⟩)
      | (go_at_call 25; (with_reducible refine (unhide C1 _ ?_).mono ?_); (focus (first | assumption | exact Below.drew (by assumption) | exact below_drewN (by assumption) _)); rintro ev w9 ⟨rfl, rfl⟩)
      | (go_at_call 25; (with_reducible refine (unhide C2 _ ?_).mono ?_); (focus (first | assumption | exact Below.drew (by assumption) | exact below_drewN (by assumption) _)); rintro ev w9 ⟨rfl, rfl⟩)
      | (go_at_call 25; (with_reducible refine (unhide C3 _ ?_).mono ?_); (focus (first | assumption | exact Below.drew (by assumption) | exact below_drewN (by assumption) _)); rintro ev w9 ⟨rfl, rfl⟩)
      | (go_at_call 25; (with_reducible refine (unhide C4 _ ?_).mono ?_); (focus (first | assumption | exact Below.drew (by assumption) | exact below_drewN (by assumption) _)); rintro ev w9 ⟨rfl, rfl⟩)
      | (go_at_call 24; (with_reducible refine (unhide CF _ _ ?_).mono ?_); (focus (first | exact HX | exact HX.drew | exact HX.drew.drew)); rintro ev w9 ⟨rfl, rfl⟩))
  have B9 := hide (SL (.cells #[v0, v1, v2, v3, v4] 52)).1
  clear SL HX c0 k0 n0 C0 c1 k1 n1 C1 c2 k2 n2 C2 c3 k3 n3 C3 c4 k4 n4 C4 CF
  go_wp2
  go_ret
  exact ⟨rfl, unhide B9⟩
end Go.Proofs.YtfhglganaebpoaaDoor
