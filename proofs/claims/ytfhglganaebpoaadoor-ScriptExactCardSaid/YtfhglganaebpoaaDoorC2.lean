/- Walk of read. -/
import Derived.Test.YtfhglganaebpoaaDoorC1
import Derived.Test.YtfhglganaebpoaaDoorX0
namespace Go.Proofs.YtfhglganaebpoaaDoor
open Go.RowKit

theorem wrap_byte {x : Int} (h : 0 ≤ x ∧ x < 256) : IntKind.i64.wrap x = x := by
  rw [IntKind.wrap_i64]
  omega
set_option maxHeartbeats 4000000 in
set_option maxRecDepth 100000 in
theorem read_any (b off m cap : Nat) (y0 y1 y2 y3 y4 : Int) (w : World) (hb : b < w.heap.size) (hm : 5 ≤ m) (hm2 : m ≤ 4000)
    (h0 : w.cell? ⟨b, off, none⟩ = some (.int .u8 y0)) (h1 : w.cell? ⟨b, off + 1, none⟩ = some (.int .u8 y1)) (h2 : w.cell? ⟨b, off + 2, none⟩ = some (.int .u8 y2)) (h3 : w.cell? ⟨b, off + 3, none⟩ = some (.int .u8 y3)) (h4 : w.cell? ⟨b, off + 4, none⟩ = some (.int .u8 y4))
    (r0 : 0 ≤ y0 ∧ y0 < 256) (r1 : 0 ≤ y1 ∧ y1 < 256) (r2 : 0 ≤ y2 ∧ y2 < 256) (r3 : 0 ≤ y3 ∧ y3 < 256) (r4 : 0 ≤ y4 ∧ y4 < 256) :
    Calls Tryd.prog 21 #[.slice (some ⟨b, off, none⟩) m cap] w fun ev w' => ev = .returned (sV ⟨y0, y1, y2, y3, y4⟩) ∧ Below w.heap.size w w' := by
  have u0 := wrap_byte r0
  have u1 := wrap_byte r1
  have u2 := wrap_byte r2
  have u3 := wrap_byte r3
  have u4 := wrap_byte r4
  have i0 : (0 : Int) < m := by omega
  have i1 : (1 : Int) < m := by omega
  have i2 : (2 : Int) < m := by omega
  have i3 : (3 : Int) < m := by omega
  have i4 : (4 : Int) < m := by omega
  have j0 : 0 < m := by omega
  have j1 : 1 < m := by omega
  have j2 : 2 < m := by omega
  have j3 : 3 < m := by omega
  have j4 : 4 < m := by omega
  obtain ⟨w1, hw1⟩ : ∃ q, q = w.alloc (.cells #[.int .i64 0, .int .i64 0, .int .i64 0, .int .i64 0, .int .i64 0] 27) := ⟨_, rfl⟩
  have B1 : Below w.heap.size w w1 := by subst hw1; exact below_alloc (Below.refl _ _) _
  have H1 : Has w1 w.heap.size (.cells #[.int .i64 0, .int .i64 0, .int .i64 0, .int .i64 0, .int .i64 0] 27) := by subst hw1; exact Has.new _ _
  have c0 := (B1.cell (p := ⟨b, off, none⟩) hb).trans h0
  have c1 := (B1.cell (p := ⟨b, off + 1, none⟩) hb).trans h1
  have c2 := (B1.cell (p := ⟨b, off + 2, none⟩) hb).trans h2
  have c3 := (B1.cell (p := ⟨b, off + 3, none⟩) hb).trans h3
  have c4 := (B1.cell (p := ⟨b, off + 4, none⟩) hb).trans h4
  have hg : w1.drew.heap[w.heap.size]? = some (.cells #[.int .i64 0, .int .i64 0, .int .i64 0, .int .i64 0, .int .i64 0] 27) := by rw [heap_drew]; exact H1.2
  have ne : b ≠ w.heap.size := by omega
  have ne2 : w.heap.size ≠ b := by omega
  have gl := H1.1
  clear h0 h1 h2 h3 h4 hm hm2
  unfold sV
  dsimp only
  go_enter Tryd.func21, Tryd.ntmps21
  go_upto_region 1 with fail
  rw [← hw1]
  clear hw1
  replace c0 := (World.cell?_drew _ _).trans c0
  replace c1 := (World.cell?_drew _ _).trans c1
  replace c2 := (World.cell?_drew _ _).trans c2
  replace c3 := (World.cell?_drew _ _).trans c3
  replace c4 := (World.cell?_drew _ _).trans c4
  replace c0 := (World.cell?_drew _ _).trans c0
  replace c1 := (World.cell?_drew _ _).trans c1
  replace c2 := (World.cell?_drew _ _).trans c2
  replace c3 := (World.cell?_drew _ _).trans c3
  replace c4 := (World.cell?_drew _ _).trans c4
  refine wa_start (fun w' => w'.cell? ⟨b, off, none⟩ = some (.int .u8 y0) ∧ w'.cell? ⟨b, off + 1, none⟩ = some (.int .u8 y1) ∧ w'.cell? ⟨b, off + 2, none⟩ = some (.int .u8 y2) ∧ w'.cell? ⟨b, off + 3, none⟩ = some (.int .u8 y3) ∧ w'.cell? ⟨b, off + 4, none⟩ = some (.int .u8 y4)) ⟨c0, c1, c2, c3, c4⟩ ?_
  refine wa_take (v := (.slice (some ⟨b, off, none⟩) m cap)) 0 rfl (by kernel_rfl) (by kernel_rfl) (by kernel_rfl) (fun _ _ _ h => h) (by kernel_rfl) (fun w hSw => ?_) ⟨c0, c1, c2, c3, c4⟩ ?_
  · try dsimp only at hSw
    go_simp
  try simp only [Act.put, List.setIfInBounds_toArray, List.set_cons_zero, List.set_cons_succ]
  refine wa_take (v := (.pointer (some ⟨b, off, none⟩))) 1 rfl (by kernel_rfl) (by kernel_rfl) (by kernel_rfl) (fun _ _ _ h => h) (by kernel_rfl) (fun w hSw => ?_) ⟨c0, c1, c2, c3, c4⟩ ?_
  · try dsimp only at hSw
    go_simp
  try simp only [Act.put, List.setIfInBounds_toArray, List.set_cons_zero, List.set_cons_succ]
  refine wa_take (v := (.int .u8 y0)) 2 rfl (by kernel_rfl) (by kernel_rfl) (by kernel_rfl) (fun _ _ _ h => h) (by kernel_rfl) (fun w hSw => ?_) ⟨c0, c1, c2, c3, c4⟩ ?_
  · try dsimp only at hSw
    go_simp
  try simp only [Act.put, List.setIfInBounds_toArray, List.set_cons_zero, List.set_cons_succ]
  refine wa_take (v := (.int .i64 y0)) 3 rfl (by kernel_rfl) (by kernel_rfl) (by kernel_rfl) (fun _ _ _ h => h) (by kernel_rfl) (fun w hSw => ?_) ⟨c0, c1, c2, c3, c4⟩ ?_
  · try dsimp only at hSw
    go_simp
  try simp only [Act.put, List.setIfInBounds_toArray, List.set_cons_zero, List.set_cons_succ]
  refine wa_take (v := (.slice (some ⟨b, off, none⟩) m cap)) 4 rfl (by kernel_rfl) (by kernel_rfl) (by kernel_rfl) (fun _ _ _ h => h) (by kernel_rfl) (fun w hSw => ?_) ⟨c0, c1, c2, c3, c4⟩ ?_
  · try dsimp only at hSw
    go_simp
  try simp only [Act.put, List.setIfInBounds_toArray, List.set_cons_zero, List.set_cons_succ]
  refine wa_take (v := (.pointer (some ⟨b, off + 1, none⟩))) 5 rfl (by kernel_rfl) (by kernel_rfl) (by kernel_rfl) (fun _ _ _ h => h) (by kernel_rfl) (fun w hSw => ?_) ⟨c0, c1, c2, c3, c4⟩ ?_
  · try dsimp only at hSw
    go_simp
  try simp only [Act.put, List.setIfInBounds_toArray, List.set_cons_zero, List.set_cons_succ]
  refine wa_take (v := (.int .u8 y1)) 6 rfl (by kernel_rfl) (by kernel_rfl) (by kernel_rfl) (fun _ _ _ h => h) (by kernel_rfl) (fun w hSw => ?_) ⟨c0, c1, c2, c3, c4⟩ ?_
  · try dsimp only at hSw
    go_simp
  try simp only [Act.put, List.setIfInBounds_toArray, List.set_cons_zero, List.set_cons_succ]
  refine wa_take (v := (.int .i64 y1)) 7 rfl (by kernel_rfl) (by kernel_rfl) (by kernel_rfl) (fun _ _ _ h => h) (by kernel_rfl) (fun w hSw => ?_) ⟨c0, c1, c2, c3, c4⟩ ?_
  · try dsimp only at hSw
    go_simp
  try simp only [Act.put, List.setIfInBounds_toArray, List.set_cons_zero, List.set_cons_succ]
  refine wa_take (v := (.slice (some ⟨b, off, none⟩) m cap)) 8 rfl (by kernel_rfl) (by kernel_rfl) (by kernel_rfl) (fun _ _ _ h => h) (by kernel_rfl) (fun w hSw => ?_) ⟨c0, c1, c2, c3, c4⟩ ?_
  · try dsimp only at hSw
    go_simp
  try simp only [Act.put, List.setIfInBounds_toArray, List.set_cons_zero, List.set_cons_succ]
  refine wa_take (v := (.pointer (some ⟨b, off + 2, none⟩))) 9 rfl (by kernel_rfl) (by kernel_rfl) (by kernel_rfl) (fun _ _ _ h => h) (by kernel_rfl) (fun w hSw => ?_) ⟨c0, c1, c2, c3, c4⟩ ?_
  · try dsimp only at hSw
    go_simp
  try simp only [Act.put, List.setIfInBounds_toArray, List.set_cons_zero, List.set_cons_succ]
  refine wa_take (v := (.int .u8 y2)) 10 rfl (by kernel_rfl) (by kernel_rfl) (by kernel_rfl) (fun _ _ _ h => h) (by kernel_rfl) (fun w hSw => ?_) ⟨c0, c1, c2, c3, c4⟩ ?_
  · try dsimp only at hSw
    go_simp
  try simp only [Act.put, List.setIfInBounds_toArray, List.set_cons_zero, List.set_cons_succ]
  refine wa_take (v := (.int .i64 y2)) 11 rfl (by kernel_rfl) (by kernel_rfl) (by kernel_rfl) (fun _ _ _ h => h) (by kernel_rfl) (fun w hSw => ?_) ⟨c0, c1, c2, c3, c4⟩ ?_
  · try dsimp only at hSw
    go_simp
  try simp only [Act.put, List.setIfInBounds_toArray, List.set_cons_zero, List.set_cons_succ]
  refine wa_take (v := (.slice (some ⟨b, off, none⟩) m cap)) 12 rfl (by kernel_rfl) (by kernel_rfl) (by kernel_rfl) (fun _ _ _ h => h) (by kernel_rfl) (fun w hSw => ?_) ⟨c0, c1, c2, c3, c4⟩ ?_
  · try dsimp only at hSw
    go_simp
  try simp only [Act.put, List.setIfInBounds_toArray, List.set_cons_zero, List.set_cons_succ]
  refine wa_take (v := (.pointer (some ⟨b, off + 3, none⟩))) 13 rfl (by kernel_rfl) (by kernel_rfl) (by kernel_rfl) (fun _ _ _ h => h) (by kernel_rfl) (fun w hSw => ?_) ⟨c0, c1, c2, c3, c4⟩ ?_
  · try dsimp only at hSw
    go_simp
  try simp only [Act.put, List.setIfInBounds_toArray, List.set_cons_zero, List.set_cons_succ]
  refine wa_take (v := (.int .u8 y3)) 14 rfl (by kernel_rfl) (by kernel_rfl) (by kernel_rfl) (fun _ _ _ h => h) (by kernel_rfl) (fun w hSw => ?_) ⟨c0, c1, c2, c3, c4⟩ ?_
  · try dsimp only at hSw
    go_simp
  try simp only [Act.put, List.setIfInBounds_toArray, List.set_cons_zero, List.set_cons_succ]
  refine wa_take (v := (.int .i64 y3)) 15 rfl (by kernel_rfl) (by kernel_rfl) (by kernel_rfl) (fun _ _ _ h => h) (by kernel_rfl) (fun w hSw => ?_) ⟨c0, c1, c2, c3, c4⟩ ?_
  · try dsimp only at hSw
    go_simp
  try simp only [Act.put, List.setIfInBounds_toArray, List.set_cons_zero, List.set_cons_succ]
  refine wa_take (v := (.slice (some ⟨b, off, none⟩) m cap)) 16 rfl (by kernel_rfl) (by kernel_rfl) (by kernel_rfl) (fun _ _ _ h => h) (by kernel_rfl) (fun w hSw => ?_) ⟨c0, c1, c2, c3, c4⟩ ?_
  · try dsimp only at hSw
    go_simp
  try simp only [Act.put, List.setIfInBounds_toArray, List.set_cons_zero, List.set_cons_succ]
  refine wa_take (v := (.pointer (some ⟨b, off + 4, none⟩))) 17 rfl (by kernel_rfl) (by kernel_rfl) (by kernel_rfl) (fun _ _ _ h => h) (by kernel_rfl) (fun w hSw => ?_) ⟨c0, c1, c2, c3, c4⟩ ?_
  · try dsimp only at hSw
    go_simp
  try simp only [Act.put, List.setIfInBounds_toArray, List.set_cons_zero, List.set_cons_succ]
  refine wa_take (v := (.int .u8 y4)) 18 rfl (by kernel_rfl) (by kernel_rfl) (by kernel_rfl) (fun _ _ _ h => h) (by kernel_rfl) (fun w hSw => ?_) ⟨c0, c1, c2, c3, c4⟩ ?_
  · try dsimp only at hSw
    go_simp
  try simp only [Act.put, List.setIfInBounds_toArray, List.set_cons_zero, List.set_cons_succ]
  refine wa_take (v := (.int .i64 y4)) 19 rfl (by kernel_rfl) (by kernel_rfl) (by kernel_rfl) (fun _ _ _ h => h) (by kernel_rfl) (fun w hSw => ?_) ⟨c0, c1, c2, c3, c4⟩ ?_
  · try dsimp only at hSw
    go_simp
  try simp only [Act.put, List.setIfInBounds_toArray, List.set_cons_zero, List.set_cons_succ]
  refine wa_take (v := (.agg #[.int .i64 y0, .int .i64 y1, .int .i64 y2, .int .i64 y3, .int .i64 y4])) 20 rfl (by kernel_rfl) (by kernel_rfl) (by kernel_rfl) (fun _ _ _ h => h) (by kernel_rfl) (fun w hSw => ?_) ⟨c0, c1, c2, c3, c4⟩ ?_
  · try dsimp only at hSw
    go_simp
  try simp only [Act.put, List.setIfInBounds_toArray, List.set_cons_zero, List.set_cons_succ]
  refine wa_one 21 (by kernel_rfl) rfl (by kernel_rfl) (fun Kc hK => ?_)
  refine wp_store_row 27 (.tmp 2) (.tmp 23) rfl w.heap.size #[.int .i64 y0, .int .i64 y1, .int .i64 y2, .int .i64 y3, .int .i64 y4] rfl rfl 27 _ hg info27 rfl (by simp [Value.oneCell']) ?_
  refine hK.out _ _ ⟨(cell_setRow_other _ _ _ _ ne).trans c0, (cell_setRow_other _ _ _ _ ne).trans c1, (cell_setRow_other _ _ _ _ ne).trans c2, (cell_setRow_other _ _ _ _ ne).trans c3, (cell_setRow_other _ _ _ _ ne).trans c4⟩ ?_
  clear hK Kc
  try simp only [Act.put]
  refine wa_done (by kernel_rfl) ?_
  have BW := below_setRow B1.drew (Nat.le_refl _) #[.int .i64 y0, .int .i64 y1, .int .i64 y2, .int .i64 y3, .int .i64 y4]
  go_wp2
  exact ret_row 2 27 rfl w.heap.size 27 _ _ rfl (setRow_heap _ _ _ _ _ _ hg) Tryd.underlying27 (.inl ⟨_, rfl⟩) info27 rfl ⟨rfl, BW⟩
end Go.Proofs.YtfhglganaebpoaaDoor
