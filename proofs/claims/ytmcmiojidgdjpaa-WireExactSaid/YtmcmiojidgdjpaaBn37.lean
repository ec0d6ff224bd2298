/- Walk of the page's Decode: the main way. -/
import Derived.Test.YtmcmiojidgdjpaaBn36
import Derived.Test.YtmcmiojidgdjpaaBn23
import Derived.Test.YtmcmiojidgdjpaaBn20
namespace Go.Proofs.Ytmcmiojidgdjpaa
open Go.RowKit

/-- A message, all right. -/
def FinS (M : Mg) (F G : Nat → Int) (n k : Nat) (w : World) (e : Ending) (w' : World) : Prop := ∃ p c t d, e = .returned (.tuple #[mv M (.slice p n c) (.slice t k d), .int .i64 0]) ∧ Sl .i64 w' (.slice p n c) n F ∧ Sl .i64 w' (.slice t k d) k G ∧ Below w.heap.size w w'
set_option maxRecDepth 100000 in
set_option maxHeartbeats 4000000 in
theorem rdec_main (D : Nat → Nat) (p : Option Addr) (N m cap : Nat) (w : World) (h : N ≤ 80) (hm : 42 ≤ m) (hmN : m ≤ N) (CO : Hid (ROpenOk D (.slice p N cap) m w)) (y0 y1 y2 y3 y32 y41 : Nat) (e0 : D 0 = y0) (e1 : D 1 = y1) (e2 : D 2 = y2) (e3 : D 3 = y3) (e32 : D 32 = y32) (e41 : D 41 = y41)
    (hD : ∀ i, i < m → D i < 256) (xe xf xt xs xl xv xi xc : Int) (ok : Bool)
    (K6 : ∀ b off c, NumC D b off m c 6 xe ok) (K4 : ∀ b off c, NumC D b off m c 4 xf true) (K5 : ∀ b off c, NumC D b off m c 5 xt true) (K7 : ∀ b off c, NumC D b off m c 7 xs true) (K8 : ∀ b off c, NumC D b off m c 8 xl true) (K9 : ∀ b off c, NumC D b off m c 9 xv true) (K11 : ∀ b off c, NumC D b off m c 11 xi true) (K12 : ∀ b off c, NumC D b off m c 12 xc true)
    (F G : Nat → Int) (n k : Nat) (t1 t2 : Int) (hn : n ≤ 1000) (hk : k ≤ 1000)
    (L1 : Hid (∀ v w1, Cr.Bs w1 v m D → Calls Try.prog 28 #[v, .int .i64 42] w1 fun e w' => ∃ q f, e = .returned (.tuple #[.slice q n f, .int .i64 t1]) ∧ w'.ownsRow w1.heap.size 3 1 (.slice q n f) n (vL .i64 F n) ∧ Below w1.heap.size w1 w'))
    (L2 : Hid (∀ v w1, Cr.Bs w1 v m D → Calls Try.prog 28 #[v, .int .i64 t1] w1 fun e w' => ∃ q f, e = .returned (.tuple #[.slice q k f, .int .i64 t2]) ∧ w'.ownsRow w1.heap.size 3 1 (.slice q k f) k (vL .i64 G k) ∧ Below w1.heap.size w1 w'))
    (R : Ending → World → Prop) (hE : ((ok = false ∨ ok = true ∧ t2 ≠ m) ∧ ∀ e w', Bad 3 w e w' → R e w') ∨ (ok = true ∧ t2 = m ∧ chkB ⟨y0, y1, xf, y2, xt, y3, xe, xs, xl, xv, y32, xi, xc, y41⟩ F n G k = false ∧ ∀ e w', Bad 5 w e w' → R e w') ∨ (ok = true ∧ t2 = m ∧ chkB ⟨y0, y1, xf, y2, xt, y3, xe, xs, xl, xv, y32, xi, xc, y41⟩ F n G k = true ∧ ∀ e w', FinS ⟨y0, y1, xf, y2, xt, y3, xe, xs, xl, xv, y32, xi, xc, y41⟩ F G n k w e w' → R e w')) :
    Calls Try.prog 12 #[.slice p N cap] w R := by
  have d : decide (80 < (N : Int)) = false := decide_eq_false (by omega)
  have d42 : decide ((m : Int) < 42) = false := decide_eq_false (by omega)
  unfold ROpenOk at CO
  obtain ⟨w0, hw0⟩ : ∃ x, x = (w.alloc (.cells #[.int .i64 0, .int .i64 0, .int .i64 0, .int .i64 0, .int .i64 0, .int .i64 0, .int .i64 0, .int .i64 0, .int .i64 0, .int .i64 0, .int .i64 0, .int .i64 0, .int .i64 0, .int .i64 0, .slice none 0 0, .slice none 0 0] 24)).alloc (.cells #[.int .i64 0, .int .i64 0, .int .i64 0, .int .i64 0, .int .i64 0, .int .i64 0, .int .i64 0, .int .i64 0, .int .i64 0, .int .i64 0, .int .i64 0, .int .i64 0, .int .i64 0, .int .i64 0, .slice none 0 0, .slice none 0 0] 24) := ⟨_, rfl⟩
  have HW0 := hide hw0
  have B0 : Hid (Below w.heap.size w w0) := hide (by rw [hw0]; exact below_alloc (below_alloc (Below.refl _ _) _) _)
  have GA : Hid (Has w0 w.heap.size (.cells #[.int .i64 0, .int .i64 0, .int .i64 0, .int .i64 0, .int .i64 0, .int .i64 0, .int .i64 0, .int .i64 0, .int .i64 0, .int .i64 0, .int .i64 0, .int .i64 0, .int .i64 0, .int .i64 0, .slice none 0 0, .slice none 0 0] 24)) := hide (by rw [hw0]; exact (Has.new w _).alloc _)
  have GB : Hid (Has w0 (w.heap.size + 1) (.cells #[.int .i64 0, .int .i64 0, .int .i64 0, .int .i64 0, .int .i64 0, .int .i64 0, .int .i64 0, .int .i64 0, .int .i64 0, .int .i64 0, .int .i64 0, .int .i64 0, .int .i64 0, .int .i64 0, .slice none 0 0, .slice none 0 0] 24)) := hide (by rw [hw0]; exact ⟨by simp, heap_alloc2_new _ _ _⟩)
  have BW : Hid (Below w0.heap.size w0 w0) := hide (Below.refl _ _)
  clear hw0
  go_enter Try.func12, Try.ntmps12
  go_upto_region 2 with (first
    | (refine wpList_store_last rfl (.tmp 4) (.tmp 11) rfl _ _ rfl rfl (by simp) _ rfl rfl (by simp [Value.oneCell']) ?_))
  rw [← unhide HW0]
  go_upto_region 9 with (first
    | (go_at_call 26; (with_reducible refine (unhide CO _ (below_of (unhide B0) (unhide BW))).mono ?_); rintro e w1 ⟨p1, c1, rfl, s1, b1⟩; have S1 := hide s1; replace BW := hide (below_of (unhide BW) b1); clear b1 s1))
  obtain ⟨_, _, e9, l1, l2⟩ := Sl.shape (unhide S1)
  cases e9
  unfold maxLen at l2
  obtain ⟨b, off, rfl, hb, hcell⟩ := Sl.some (unhide S1) (by omega)
  have c0 := hcell 0 (by omega)
  have c1' := hcell 1 (by omega)
  have c2' := hcell 2 (by omega)
  have c3' := hcell 3 (by omega)
  have c32 := hcell 32 (by omega)
  have c41 := hcell 41 (by omega)
  simp only [e0, e1, e2, e3, e32, e41, Nat.add_zero] at c0 c1' c2' c3' c32 c41
  have y0l := hD 0 (by omega)
  have y1l := hD 1 (by omega)
  have y2l := hD 2 (by omega)
  have y3l := hD 3 (by omega)
  have y32l := hD 32 (by omega)
  have y41l := hD 41 (by omega)
  rw [e0] at y0l
  rw [e1] at y1l
  rw [e2] at y2l
  rw [e3] at y3l
  rw [e32] at y32l
  rw [e41] at y41l
  clear hcell e0 e1 e2 e3 e32 e41 hD
  have l1' : (m : Int) ≤ c1 := by omega
  have m42 : (42 : Int) ≤ m := by omega
  have i0 : (0 : Int) < (m : Int) := by omega
  have j0 : 0 < m := by omega
  have i1 : (1 : Int) < (m : Int) := by omega
  have j1 : 1 < m := by omega
  have i2 : (2 : Int) < (m : Int) := by omega
  have j2 : 2 < m := by omega
  have i3 : (3 : Int) < (m : Int) := by omega
  have j3 : 3 < m := by omega
  have i32 : (32 : Int) < (m : Int) := by omega
  have j32 : 32 < m := by omega
  have i41 : (41 : Int) < (m : Int) := by omega
  have j41 : 41 < m := by omega
  have uy0 : IntKind.i64.wrap (y0 : Int) = y0 := by
    rw [IntKind.wrap_i64]
    omega
  have uy1 : IntKind.i64.wrap (y1 : Int) = y1 := by
    rw [IntKind.wrap_i64]
    omega
  have uy2 : IntKind.i64.wrap (y2 : Int) = y2 := by
    rw [IntKind.wrap_i64]
    omega
  have uy3 : IntKind.i64.wrap (y3 : Int) = y3 := by
    rw [IntKind.wrap_i64]
    omega
  have uy32 : IntKind.i64.wrap (y32 : Int) = y32 := by
    rw [IntKind.wrap_i64]
    omega
  have uy41 : IntKind.i64.wrap (y41 : Int) = y41 := by
    rw [IntKind.wrap_i64]
    omega
  have HR := hide hE
  have W01 := hide (Nat.lt_of_lt_of_le (unhide GA).1 (unhide BW).size)
  clear hE
  go_region_held3 (fun w' => w'.cell? ⟨b, off, none⟩ = some (.int .u8 (y0 : Int)) ∧ w'.cell? ⟨b, off + 1, none⟩ = some (.int .u8 (y1 : Int)) ∧ w'.cell? ⟨b, off + 2, none⟩ = some (.int .u8 (y2 : Int)) ∧ w'.cell? ⟨b, off + 3, none⟩ = some (.int .u8 (y3 : Int)) ∧ w'.cell? ⟨b, off + 32, none⟩ = some (.int .u8 (y32 : Int)) ∧ w'.cell? ⟨b, off + 41, none⟩ = some (.int .u8 (y41 : Int)))
    (first
      | exact ⟨c0, c1', c2', c3', c32, c41⟩
      | exact ⟨(World.cell?_alloc_past (w := World.drewN _ _) hb).trans c0, (World.cell?_alloc_past (w := World.drewN _ _) hb).trans c1', (World.cell?_alloc_past (w := World.drewN _ _) hb).trans c2', (World.cell?_alloc_past (w := World.drewN _ _) hb).trans c3', (World.cell?_alloc_past (w := World.drewN _ _) hb).trans c32, (World.cell?_alloc_past (w := World.drewN _ _) hb).trans c41⟩
      | go_keep)
    (fail)
  obtain ⟨w3, hw3⟩ : ∃ x, x = (w1.alloc (.cells #[.int .i64 (y0 : Int), .int .i64 (y1 : Int), .int .i64 0, .int .i64 (y2 : Int), .int .i64 0, .int .i64 (y3 : Int), .int .i64 0, .int .i64 0, .int .i64 0, .int .i64 0, .int .i64 (y32 : Int), .int .i64 0, .int .i64 0, .int .i64 (y41 : Int), .slice none 0 0, .slice none 0 0] 24)).drew := ⟨_, rfl⟩
  have G7 : Hid (w3.heap[w1.heap.size]? = some (.cells #[.int .i64 (y0 : Int), .int .i64 (y1 : Int), .int .i64 0, .int .i64 (y2 : Int), .int .i64 0, .int .i64 (y3 : Int), .int .i64 0, .int .i64 0, .int .i64 0, .int .i64 0, .int .i64 (y32 : Int), .int .i64 0, .int .i64 0, .int .i64 (y41 : Int), .slice none 0 0, .slice none 0 0] 24)) := hide (by rw [hw3, heap_drew]; exact heap_alloc_new _ _)
  have BL : Hid (Below w1.heap.size w1 w3) := hide (by rw [hw3]; exact below_drewN (below_alloc (Below.refl _ _) _) 1)
  rw [← hw3]
  clear hw3 c0 c1' c2' c3' c32 c41
  have k6 : Hid (∀ w2, Cr.Bs w2 (.slice (some ⟨b, off, none⟩) m c1) m D → Calls Try.prog 27 #[.slice (some ⟨b, off + 12, none⟩) 8 (c1 - 12)] w2 fun e w' => e = .returned (.tuple #[.int .i64 xe, .bool ok]) ∧ w' = w2) := hide (K6 b off c1)
  have k4 : Hid (∀ w2, Cr.Bs w2 (.slice (some ⟨b, off, none⟩) m c1) m D → Calls Try.prog 27 #[.slice (some ⟨b, off + 4, none⟩) 4 (c1 - 4)] w2 fun e w' => e = .returned (.tuple #[.int .i64 xf, .bool true]) ∧ w' = w2) := hide (K4 b off c1)
  have k5 : Hid (∀ w2, Cr.Bs w2 (.slice (some ⟨b, off, none⟩) m c1) m D → Calls Try.prog 27 #[.slice (some ⟨b, off + 8, none⟩) 4 (c1 - 8)] w2 fun e w' => e = .returned (.tuple #[.int .i64 xt, .bool true]) ∧ w' = w2) := hide (K5 b off c1)
  have k7 : Hid (∀ w2, Cr.Bs w2 (.slice (some ⟨b, off, none⟩) m c1) m D → Calls Try.prog 27 #[.slice (some ⟨b, off + 20, none⟩) 4 (c1 - 20)] w2 fun e w' => e = .returned (.tuple #[.int .i64 xs, .bool true]) ∧ w' = w2) := hide (K7 b off c1)
  have k8 : Hid (∀ w2, Cr.Bs w2 (.slice (some ⟨b, off, none⟩) m c1) m D → Calls Try.prog 27 #[.slice (some ⟨b, off + 24, none⟩) 4 (c1 - 24)] w2 fun e w' => e = .returned (.tuple #[.int .i64 xl, .bool true]) ∧ w' = w2) := hide (K8 b off c1)
  have k9 : Hid (∀ w2, Cr.Bs w2 (.slice (some ⟨b, off, none⟩) m c1) m D → Calls Try.prog 27 #[.slice (some ⟨b, off + 28, none⟩) 4 (c1 - 28)] w2 fun e w' => e = .returned (.tuple #[.int .i64 xv, .bool true]) ∧ w' = w2) := hide (K9 b off c1)
  have k11 : Hid (∀ w2, Cr.Bs w2 (.slice (some ⟨b, off, none⟩) m c1) m D → Calls Try.prog 27 #[.slice (some ⟨b, off + 33, none⟩) 4 (c1 - 33)] w2 fun e w' => e = .returned (.tuple #[.int .i64 xi, .bool true]) ∧ w' = w2) := hide (K11 b off c1)
  have k12 : Hid (∀ w2, Cr.Bs w2 (.slice (some ⟨b, off, none⟩) m c1) m D → Calls Try.prog 27 #[.slice (some ⟨b, off + 37, none⟩) 4 (c1 - 37)] w2 fun e w' => e = .returned (.tuple #[.int .i64 xc, .bool true]) ∧ w' = w2) := hide (K12 b off c1)
  clear K6 K4 K5 K7 K8 K9 K11 K12
  go_upto_region 22 with (first
    | (go_at_call 27; (with_reducible refine (unhide k6 _ (bs_below (unhide S1) (unhide BL))).mono ?_); rintro e wz ⟨rfl, hw⟩; obtain rfl := hw.symm; clear k6; have fc := mv_cell (unhide G7) 6 _ rfl; have ff := frozen_of_row _ w1.heap.size 6 _ _ (unhide G7))
    | (go_at_call 27; obtain ⟨w3b, hw⟩ : ∃ x, x = w3.setCell ⟨w1.heap.size, 6, none⟩ (.int .i64 xe) := ⟨_, rfl⟩; rw [← hw]; replace G7 : Hid (w3b.heap[w1.heap.size]? = some (.cells #[.int .i64 (y0 : Int), .int .i64 (y1 : Int), .int .i64 0, .int .i64 (y2 : Int), .int .i64 0, .int .i64 (y3 : Int), .int .i64 xe, .int .i64 0, .int .i64 0, .int .i64 0, .int .i64 (y32 : Int), .int .i64 0, .int .i64 0, .int .i64 (y41 : Int), .slice none 0 0, .slice none 0 0] 24)) := hide (by rw [hw]; exact heap_setCell_same _ w1.heap.size 6 _ _ _ (unhide G7)); replace BL : Hid (Below w1.heap.size w1 w3b) := hide (by rw [hw]; exact (unhide BL).setCell (Nat.le_refl _) _); clear hw fc ff; (with_reducible refine (unhide k4 _ (bs_below (unhide S1) (unhide BL))).mono ?_); rintro e wz ⟨rfl, hw⟩; obtain rfl := hw.symm; clear k4; have fc := mv_cell (unhide G7) 2 _ rfl; have ff := frozen_of_row _ w1.heap.size 2 _ _ (unhide G7))
    | (go_at_call 27; obtain ⟨w3c, hw⟩ : ∃ x, x = w3b.setCell ⟨w1.heap.size, 2, none⟩ (.int .i64 xf) := ⟨_, rfl⟩; rw [← hw]; replace G7 : Hid (w3c.heap[w1.heap.size]? = some (.cells #[.int .i64 (y0 : Int), .int .i64 (y1 : Int), .int .i64 xf, .int .i64 (y2 : Int), .int .i64 0, .int .i64 (y3 : Int), .int .i64 xe, .int .i64 0, .int .i64 0, .int .i64 0, .int .i64 (y32 : Int), .int .i64 0, .int .i64 0, .int .i64 (y41 : Int), .slice none 0 0, .slice none 0 0] 24)) := hide (by rw [hw]; exact heap_setCell_same _ w1.heap.size 2 _ _ _ (unhide G7)); replace BL : Hid (Below w1.heap.size w1 w3c) := hide (by rw [hw]; exact (unhide BL).setCell (Nat.le_refl _) _); clear hw fc ff; (with_reducible refine (unhide k5 _ (bs_below (unhide S1) (unhide BL))).mono ?_); rintro e wz ⟨rfl, hw⟩; obtain rfl := hw.symm; clear k5; have fc := mv_cell (unhide G7) 4 _ rfl; have ff := frozen_of_row _ w1.heap.size 4 _ _ (unhide G7))
    | (go_at_call 27; obtain ⟨w3d, hw⟩ : ∃ x, x = w3c.setCell ⟨w1.heap.size, 4, none⟩ (.int .i64 xt) := ⟨_, rfl⟩; rw [← hw]; replace G7 : Hid (w3d.heap[w1.heap.size]? = some (.cells #[.int .i64 (y0 : Int), .int .i64 (y1 : Int), .int .i64 xf, .int .i64 (y2 : Int), .int .i64 xt, .int .i64 (y3 : Int), .int .i64 xe, .int .i64 0, .int .i64 0, .int .i64 0, .int .i64 (y32 : Int), .int .i64 0, .int .i64 0, .int .i64 (y41 : Int), .slice none 0 0, .slice none 0 0] 24)) := hide (by rw [hw]; exact heap_setCell_same _ w1.heap.size 4 _ _ _ (unhide G7)); replace BL : Hid (Below w1.heap.size w1 w3d) := hide (by rw [hw]; exact (unhide BL).setCell (Nat.le_refl _) _); clear hw fc ff; (with_reducible refine (unhide k7 _ (bs_below (unhide S1) (unhide BL))).mono ?_); rintro e wz ⟨rfl, hw⟩; obtain rfl := hw.symm; clear k7; have fc := mv_cell (unhide G7) 7 _ rfl; have ff := frozen_of_row _ w1.heap.size 7 _ _ (unhide G7))
    | (go_at_call 27; obtain ⟨w3e, hw⟩ : ∃ x, x = w3d.setCell ⟨w1.heap.size, 7, none⟩ (.int .i64 xs) := ⟨_, rfl⟩; rw [← hw]; replace G7 : Hid (w3e.heap[w1.heap.size]? = some (.cells #[.int .i64 (y0 : Int), .int .i64 (y1 : Int), .int .i64 xf, .int .i64 (y2 : Int), .int .i64 xt, .int .i64 (y3 : Int), .int .i64 xe, .int .i64 xs, .int .i64 0, .int .i64 0, .int .i64 (y32 : Int), .int .i64 0, .int .i64 0, .int .i64 (y41 : Int), .slice none 0 0, .slice none 0 0] 24)) := hide (by rw [hw]; exact heap_setCell_same _ w1.heap.size 7 _ _ _ (unhide G7)); replace BL : Hid (Below w1.heap.size w1 w3e) := hide (by rw [hw]; exact (unhide BL).setCell (Nat.le_refl _) _); clear hw fc ff; (with_reducible refine (unhide k8 _ (bs_below (unhide S1) (unhide BL))).mono ?_); rintro e wz ⟨rfl, hw⟩; obtain rfl := hw.symm; clear k8; have fc := mv_cell (unhide G7) 8 _ rfl; have ff := frozen_of_row _ w1.heap.size 8 _ _ (unhide G7))
    | (go_at_call 27; obtain ⟨w3f, hw⟩ : ∃ x, x = w3e.setCell ⟨w1.heap.size, 8, none⟩ (.int .i64 xl) := ⟨_, rfl⟩; rw [← hw]; replace G7 : Hid (w3f.heap[w1.heap.size]? = some (.cells #[.int .i64 (y0 : Int), .int .i64 (y1 : Int), .int .i64 xf, .int .i64 (y2 : Int), .int .i64 xt, .int .i64 (y3 : Int), .int .i64 xe, .int .i64 xs, .int .i64 xl, .int .i64 0, .int .i64 (y32 : Int), .int .i64 0, .int .i64 0, .int .i64 (y41 : Int), .slice none 0 0, .slice none 0 0] 24)) := hide (by rw [hw]; exact heap_setCell_same _ w1.heap.size 8 _ _ _ (unhide G7)); replace BL : Hid (Below w1.heap.size w1 w3f) := hide (by rw [hw]; exact (unhide BL).setCell (Nat.le_refl _) _); clear hw fc ff; (with_reducible refine (unhide k9 _ (bs_below (unhide S1) (unhide BL))).mono ?_); rintro e wz ⟨rfl, hw⟩; obtain rfl := hw.symm; clear k9; have fc := mv_cell (unhide G7) 9 _ rfl; have ff := frozen_of_row _ w1.heap.size 9 _ _ (unhide G7))
    | (go_at_call 27; obtain ⟨w3g, hw⟩ : ∃ x, x = w3f.setCell ⟨w1.heap.size, 9, none⟩ (.int .i64 xv) := ⟨_, rfl⟩; rw [← hw]; replace G7 : Hid (w3g.heap[w1.heap.size]? = some (.cells #[.int .i64 (y0 : Int), .int .i64 (y1 : Int), .int .i64 xf, .int .i64 (y2 : Int), .int .i64 xt, .int .i64 (y3 : Int), .int .i64 xe, .int .i64 xs, .int .i64 xl, .int .i64 xv, .int .i64 (y32 : Int), .int .i64 0, .int .i64 0, .int .i64 (y41 : Int), .slice none 0 0, .slice none 0 0] 24)) := hide (by rw [hw]; exact heap_setCell_same _ w1.heap.size 9 _ _ _ (unhide G7)); replace BL : Hid (Below w1.heap.size w1 w3g) := hide (by rw [hw]; exact (unhide BL).setCell (Nat.le_refl _) _); clear hw fc ff; (with_reducible refine (unhide k11 _ (bs_below (unhide S1) (unhide BL))).mono ?_); rintro e wz ⟨rfl, hw⟩; obtain rfl := hw.symm; clear k11; have fc := mv_cell (unhide G7) 11 _ rfl; have ff := frozen_of_row _ w1.heap.size 11 _ _ (unhide G7))
    | (go_at_call 27; obtain ⟨w3h, hw⟩ : ∃ x, x = w3g.setCell ⟨w1.heap.size, 11, none⟩ (.int .i64 xi) := ⟨_, rfl⟩; rw [← hw]; replace G7 : Hid (w3h.heap[w1.heap.size]? = some (.cells #[.int .i64 (y0 : Int), .int .i64 (y1 : Int), .int .i64 xf, .int .i64 (y2 : Int), .int .i64 xt, .int .i64 (y3 : Int), .int .i64 xe, .int .i64 xs, .int .i64 xl, .int .i64 xv, .int .i64 (y32 : Int), .int .i64 xi, .int .i64 0, .int .i64 (y41 : Int), .slice none 0 0, .slice none 0 0] 24)) := hide (by rw [hw]; exact heap_setCell_same _ w1.heap.size 11 _ _ _ (unhide G7)); replace BL : Hid (Below w1.heap.size w1 w3h) := hide (by rw [hw]; exact (unhide BL).setCell (Nat.le_refl _) _); clear hw fc ff; (with_reducible refine (unhide k12 _ (bs_below (unhide S1) (unhide BL))).mono ?_); rintro e wz ⟨rfl, hw⟩; obtain rfl := hw.symm; clear k12; have fc := mv_cell (unhide G7) 12 _ rfl; have ff := frozen_of_row _ w1.heap.size 12 _ _ (unhide G7))
    | (go_at_call 28; obtain ⟨w4, hw⟩ : ∃ x, x = w3h.setCell ⟨w1.heap.size, 12, none⟩ (.int .i64 xc) := ⟨_, rfl⟩; rw [← hw]; replace G7 : Hid (w4.heap[w1.heap.size]? = some (.cells #[.int .i64 (y0 : Int), .int .i64 (y1 : Int), .int .i64 xf, .int .i64 (y2 : Int), .int .i64 xt, .int .i64 (y3 : Int), .int .i64 xe, .int .i64 xs, .int .i64 xl, .int .i64 xv, .int .i64 (y32 : Int), .int .i64 xi, .int .i64 xc, .int .i64 (y41 : Int), .slice none 0 0, .slice none 0 0] 24)) := hide (by rw [hw]; exact heap_setCell_same _ w1.heap.size 12 _ _ _ (unhide G7)); replace BL : Hid (Below w1.heap.size w1 w4) := hide (by rw [hw]; exact (unhide BL).setCell (Nat.le_refl _) _); clear hw fc ff; (with_reducible refine (unhide L1 _ _ (bs_below (unhide S1) (unhide BL))).mono ?_); rintro e w5 ⟨q1, f1, rfl, o1, b1⟩; have O1 := hide o1; have LT := hide (Array.getElem?_eq_some_iff.1 (unhide G7)).1; replace G7 := hide ((b1.block w1.heap.size (unhide LT)).trans (unhide G7)); replace BL := hide (below_of (unhide BL) b1); clear o1 b1; have fc := mv_cell (unhide G7) 14 _ rfl; have ff := frozen_of_row _ w1.heap.size 14 _ _ (unhide G7))
    | (go_at_call 28; obtain ⟨w6, hw⟩ : ∃ x, x = w5.setCell ⟨w1.heap.size, 14, none⟩ (.slice q1 n f1) := ⟨_, rfl⟩; rw [← hw]; replace G7 : Hid (w6.heap[w1.heap.size]? = some (.cells #[.int .i64 (y0 : Int), .int .i64 (y1 : Int), .int .i64 xf, .int .i64 (y2 : Int), .int .i64 xt, .int .i64 (y3 : Int), .int .i64 xe, .int .i64 xs, .int .i64 xl, .int .i64 xv, .int .i64 (y32 : Int), .int .i64 xi, .int .i64 xc, .int .i64 (y41 : Int), .slice q1 n f1, .slice none 0 0] 24)) := hide (by rw [hw]; exact heap_setCell_same _ w1.heap.size 14 _ _ _ (unhide G7)); replace BL : Hid (Below w1.heap.size w1 w6) := hide (by rw [hw]; exact (unhide BL).setCell (Nat.le_refl _) _); replace O1 : Hid (w6.ownsRow w4.heap.size 3 1 (.slice q1 n f1) n (vL .i64 F n)) := hide (by rw [hw]; exact ownsRow_setCell_below (unhide O1) (unhide LT) _); clear hw fc ff; (with_reducible refine (unhide L2 _ _ (bs_below (unhide S1) (unhide BL))).mono ?_); rintro e w7 ⟨q2, f2, rfl, o2, b2⟩; have O2 := hide o2; have LT2 := hide (Array.getElem?_eq_some_iff.1 (unhide G7)).1; replace G7 := hide ((b2.block w1.heap.size (unhide LT2)).trans (unhide G7)); replace O1 := hide (Cr.owns_below (unhide O1) b2); replace BL := hide (below_of (unhide BL) b2); clear o2 b2; have fc := mv_cell (unhide G7) 15 _ rfl; have ff := frozen_of_row _ w1.heap.size 15 _ _ (unhide G7)))
  obtain ⟨w8, hw⟩ : ∃ x, x = w7.setCell ⟨w1.heap.size, 15, none⟩ (.slice q2 k f2) := ⟨_, rfl⟩
  rw [← hw]
  have g8 : w8.heap[w1.heap.size]? = some (.cells #[.int .i64 (y0 : Int), .int .i64 (y1 : Int), .int .i64 xf, .int .i64 (y2 : Int), .int .i64 xt, .int .i64 (y3 : Int), .int .i64 xe, .int .i64 xs, .int .i64 xl, .int .i64 xv, .int .i64 (y32 : Int), .int .i64 xi, .int .i64 xc, .int .i64 (y41 : Int), .slice q1 n f1, .slice q2 k f2] 24) := by rw [hw]; exact heap_setCell_same _ w1.heap.size 15 _ _ _ (unhide G7)
  have bl8 : Below w1.heap.size w1 w8 := by rw [hw]; exact (unhide BL).setCell (Nat.le_refl _) _
  have s1 : Sl .i64 w8 (.slice q1 n f1) n F := by rw [hw]; exact sl_of_owns (ownsRow_setCell_below (unhide O1) (unhide LT) _)
  have s2 : Sl .i64 w8 (.slice q2 k f2) k G := by rw [hw]; exact sl_of_owns (ownsRow_setCell_below (unhide O2) (unhide LT2) _)
  have G8 : Hid (Has w8 w1.heap.size (.cells #[.int .i64 (y0 : Int), .int .i64 (y1 : Int), .int .i64 xf, .int .i64 (y2 : Int), .int .i64 xt, .int .i64 (y3 : Int), .int .i64 xe, .int .i64 xs, .int .i64 xl, .int .i64 xv, .int .i64 (y32 : Int), .int .i64 xi, .int .i64 xc, .int .i64 (y41 : Int), .slice q1 n f1, .slice q2 k f2] 24)) := hide ⟨(Array.getElem?_eq_some_iff.1 g8).1, g8⟩
  have A1 := hide s1
  have A2 := hide s2
  replace BW := hide (below_of (unhide BW) bl8)
  have CK := hide (fun w9 (b : Below w8.heap.size w8 w9) => ref_any ⟨y0, y1, xf, y2, xt, y3, xe, xs, xl, xv, y32, xi, xc, y41⟩ F G (.slice q1 n f1) (.slice q2 k f2) n k w9 (s1.below b (Nat.le_refl _)) (s2.below b (Nat.le_refl _)) hn hk)
  have N1 : Hid (∀ b off cap, Value.slice q1 n f1 = .slice (some ⟨b, off, none⟩) n cap → b ≠ w.heap.size) := hide fun b off cap e => by
    have q := ((unhide O1).lt b (by rw [e]; rfl)).1
    have := unhide LT
    have := unhide W01
    omega
  have N2 : Hid (∀ b off cap, Value.slice q2 k f2 = .slice (some ⟨b, off, none⟩) k cap → b ≠ w.heap.size) := hide fun b off cap e => by
    have q := ((unhide O2).lt b (by rw [e]; rfl)).1
    have := unhide LT2
    have := unhide W01
    omega
  clear hw g8 bl8 s1 s2 G7 BL O1 O2 LT LT2 fc ff S1 L1 L2
  rcases unhide HR with ⟨h, hR⟩ | ⟨rfl, rfl, h, hR⟩ | ⟨rfl, rfl, h, hR⟩
  · rcases h with rfl | ⟨rfl, h⟩
    · go_wp2_with (first
        | (refine wpList_load24 (.tmp 4) rfl (by first | rfl | simp [Region.wanted, yielded]) (w.heap.size + 1) #[.int .i64 0, .int .i64 0, .int .i64 0, .int .i64 0, .int .i64 0, .int .i64 0, .int .i64 0, .int .i64 0, .int .i64 0, .int .i64 0, .int .i64 0, .int .i64 0, .int .i64 0, .int .i64 0, .slice none 0 0, .slice none 0 0] rfl ((unhide GB).below (unhide BW)).2 rfl ?_)
        | (refine wpList_store_row rfl 24 (.tmp 2) (.tmp 133) rfl w.heap.size #[.int .i64 0, .int .i64 0, .int .i64 0, .int .i64 0, .int .i64 0, .int .i64 0, .int .i64 0, .int .i64 0, .int .i64 0, .int .i64 0, .int .i64 0, .int .i64 0, .int .i64 0, .int .i64 0, .slice none 0 0, .slice none 0 0] rfl rfl 24 _ ((unhide GA).below (unhide BW)).2 info24 rfl (by simp [Value.oneCell']) ?_))
      exact ret_mix 2 3 rfl _ _ _ rfl rfl (setRow_heap _ _ _ _ _ _ ((unhide GA).below (unhide BW)).2) rfl rfl (hR _ _ ⟨rfl, below_setRow (below_of (unhide B0) (unhide BW)) (Nat.le_refl _)⟩)
    · have dt : (t2 != (m : Int)) = true := by simpa using h
      go_wp2_with (first
        | (refine wpList_load24 (.tmp 4) rfl (by first | rfl | simp [Region.wanted, yielded]) (w.heap.size + 1) #[.int .i64 0, .int .i64 0, .int .i64 0, .int .i64 0, .int .i64 0, .int .i64 0, .int .i64 0, .int .i64 0, .int .i64 0, .int .i64 0, .int .i64 0, .int .i64 0, .int .i64 0, .int .i64 0, .slice none 0 0, .slice none 0 0] rfl ((unhide GB).below (unhide BW)).2 rfl ?_)
        | (refine wpList_store_row rfl 24 (.tmp 2) (.tmp 133) rfl w.heap.size #[.int .i64 0, .int .i64 0, .int .i64 0, .int .i64 0, .int .i64 0, .int .i64 0, .int .i64 0, .int .i64 0, .int .i64 0, .int .i64 0, .int .i64 0, .int .i64 0, .int .i64 0, .int .i64 0, .slice none 0 0, .slice none 0 0] rfl rfl 24 _ ((unhide GA).below (unhide BW)).2 info24 rfl (by simp [Value.oneCell']) ?_))
      exact ret_mix 2 3 rfl _ _ _ rfl rfl (setRow_heap _ _ _ _ _ _ ((unhide GA).below (unhide BW)).2) rfl rfl (hR _ _ ⟨rfl, below_setRow (below_of (unhide B0) (unhide BW)) (Nat.le_refl _)⟩)
  · rw [h] at CK
    unfold mv at CK
    have dt : ((m : Int) != (m : Int)) = false := by simp
    go_wp2_with (first
      | (refine wpList_load24 (.tmp 7) rfl (by first | rfl | simp [Region.wanted, yielded]) w1.heap.size #[.int .i64 (y0 : Int), .int .i64 (y1 : Int), .int .i64 xf, .int .i64 (y2 : Int), .int .i64 xt, .int .i64 (y3 : Int), .int .i64 xe, .int .i64 xs, .int .i64 xl, .int .i64 xv, .int .i64 (y32 : Int), .int .i64 xi, .int .i64 xc, .int .i64 (y41 : Int), .slice q1 n f1, .slice q2 k f2] rfl (unhide G8).2 rfl ?_)
      | (go_at_call 15; (with_reducible refine (unhide CK _ (Below.refl _ _)).mono ?_); rintro e w9 ⟨rfl, b9⟩; replace BW := hide (below_of (unhide BW) b9); clear b9)
      | (refine wpList_load24 (.tmp 4) rfl (by first | rfl | simp [Region.wanted, yielded]) (w.heap.size + 1) #[.int .i64 0, .int .i64 0, .int .i64 0, .int .i64 0, .int .i64 0, .int .i64 0, .int .i64 0, .int .i64 0, .int .i64 0, .int .i64 0, .int .i64 0, .int .i64 0, .int .i64 0, .int .i64 0, .slice none 0 0, .slice none 0 0] rfl ((unhide GB).below (unhide BW)).2 rfl ?_)
      | (refine wpList_store_row rfl 24 (.tmp 2) (.tmp 137) rfl w.heap.size #[.int .i64 0, .int .i64 0, .int .i64 0, .int .i64 0, .int .i64 0, .int .i64 0, .int .i64 0, .int .i64 0, .int .i64 0, .int .i64 0, .int .i64 0, .int .i64 0, .int .i64 0, .int .i64 0, .slice none 0 0, .slice none 0 0] rfl rfl 24 _ ((unhide GA).below (unhide BW)).2 info24 rfl (by simp [Value.oneCell']) ?_))
    exact ret_mix 2 3 rfl _ _ _ rfl rfl (setRow_heap _ _ _ _ _ _ ((unhide GA).below (unhide BW)).2) rfl rfl (hR _ _ ⟨rfl, below_setRow (below_of (unhide B0) (unhide BW)) (Nat.le_refl _)⟩)
  · rw [h] at CK
    unfold mv at CK
    have dt : ((m : Int) != (m : Int)) = false := by simp
    go_wp2_with (first
      | (refine wpList_load24 (.tmp 7) rfl (by first | rfl | simp [Region.wanted, yielded]) w1.heap.size #[.int .i64 (y0 : Int), .int .i64 (y1 : Int), .int .i64 xf, .int .i64 (y2 : Int), .int .i64 xt, .int .i64 (y3 : Int), .int .i64 xe, .int .i64 xs, .int .i64 xl, .int .i64 xv, .int .i64 (y32 : Int), .int .i64 xi, .int .i64 xc, .int .i64 (y41 : Int), .slice q1 n f1, .slice q2 k f2] rfl (unhide G8).2 rfl ?_)
      | (go_at_call 15; (with_reducible refine (unhide CK _ (Below.refl _ _)).mono ?_); rintro e w9 ⟨rfl, b9⟩; replace BW := hide (below_of (unhide BW) b9); replace G8 := hide ((unhide G8).below b9); replace A1 := hide ((unhide A1).below b9 (Nat.le_refl _)); replace A2 := hide ((unhide A2).below b9 (Nat.le_refl _)); clear b9)
      | (refine wpList_store_row rfl 24 (.tmp 2) (.tmp 138) rfl w.heap.size #[.int .i64 (y0 : Int), .int .i64 (y1 : Int), .int .i64 xf, .int .i64 (y2 : Int), .int .i64 xt, .int .i64 (y3 : Int), .int .i64 xe, .int .i64 xs, .int .i64 xl, .int .i64 xv, .int .i64 (y32 : Int), .int .i64 xi, .int .i64 xc, .int .i64 (y41 : Int), .slice q1 n f1, .slice q2 k f2] rfl rfl 24 _ ((unhide GA).below (unhide BW)).2 info24 rfl (by simp [Value.oneCell']) ?_))
    exact ret_mix 2 3 rfl _ _ _ rfl rfl (setRow_heap _ _ _ _ _ _ ((unhide GA).below (unhide BW)).2) rfl rfl (hR _ _ ⟨q1, f1, q2, f2, rfl, sl_setRow (unhide A1) (unhide N1), sl_setRow (unhide A2) (unhide N2), below_setRow (below_of (unhide B0) (unhide BW)) (Nat.le_refl _)⟩)
end Go.Proofs.Ytmcmiojidgdjpaa
