/- Walk of sha.padded. -/
import Derived.Test.YteldgklcfemenaaDoorShH
import Derived.Laws.CopyOwn
namespace Go.Proofs.YteldgklcfemenaaDoor.Sh
open Go.RowKit

/-- n zero bytes, as 'make' lays them. -/
def zb (n : Nat) : Array Value := madeCells #[.int .u8 0] n
def zl (n : Nat) : List Value := List.replicate n (.int .u8 0)
def bl (r : Nat) (bs : Nat → Int) : List Value := (List.range r).map fun i => .int .u8 (bs i)
theorem bl_length (r : Nat) (bs : Nat → Int) : (bl r bs).length = r := by simp [bl]
theorem zl_length (n : Nat) : (zl n).length = n := by simp [zl]
theorem zb_eq (n : Nat) : zb n = (zl n).toArray := by
  unfold zb madeCells zl
  apply Array.ext
  · simp
  · intro i h1 h2
    simp [Nat.mod_one]
theorem mk_any (n : Nat) (h : n ≤ 1000000) (w : World) : (Instr.makeSlice 37 (.int .i64 (n : Int)) (.int .i64 (n : Int))).run Tryd.prog w = .ok (.slice (some ⟨w.heap.size, 0, none⟩) n n) (w.alloc (.cells (zb n) 5)) :=
  run_make_row' (P := Tryd.prog) 37 5 (.int .u8 0) 1 Tryd.underlying37 (by kernel_rfl) rfl .i64 .i64 n (by omega) (by omega) w
/-- The bytes that are laid, behind the copy. -/
theorem row_splice {w : World} {g r room : Nat} {bs : Nat → Int} (hr : r ≤ room) (h : w.heap[g]? = some (.cells (splice (zl room) 0 (bl r bs)).toArray 5 (0, 0))) :
    w.rowIs g 5 room (fun i => .int .u8 (if i < r then bs i else 0)) := by
  refine ⟨_, h, ?_, ?_⟩
  · simp [splice, bl_length, zl_length]; omega
  · intro i hi
    simp only [splice, List.take_zero, List.nil_append, List.getElem?_toArray]
    by_cases h2 : i < r
    · rw [List.getElem?_append_left (by rw [bl_length]; exact h2)]
      simp [h2, bl]
    · rw [List.getElem?_append_right (by rw [bl_length]; omega), List.getElem?_drop, bl_length, zl, List.getElem?_replicate, if_pos (by omega)]
      simp [h2]
/-- A store of a byte into a row of bytes. -/
theorem brow_set {w : World} {b t n : Nat} {F G : Nat → Int} (h : w.rowIs b t n (fun m => .int .u8 (F m))) (k : Nat) (v : Int) (e : ∀ m, m < n → (if m = k then v else F m) = G m) :
    (w.setCell ⟨b, k, none⟩ (.int .u8 v)).rowIs b t n (fun m => .int .u8 (G m)) := by
  refine (h.set k (.int .u8 v)).congr ?_
  intro m hm
  rw [← e m hm]; split <;> rfl


set_option maxRecDepth 100000 in
theorem padded_one (p : Option Addr) (r cap : Nat) (bs : Nat → Int) (size : Int) (w : World) (hrl : 0 ≤ r) (hr : r < 56) (hs0 : 0 ≤ size) (hs1 : size < 2 ^ 60)
    (hp : 0 < r → ∃ b off, p = some ⟨b, off, none⟩ ∧ b < w.heap.size ∧ ∀ i, i < r → w.cell? ⟨b, off + i, none⟩ = some (.int .u8 (bs i))) :
    Calls Tryd.prog 31 #[.slice p r cap, .int .i64 size] w fun e w' => e = .returned (.slice (some ⟨w.heap.size, 0, none⟩) 64 64) ∧ w'.rowIs w.heap.size 5 64 (fun i => .int .u8 (padF bs r (size * 8) 64 8 i)) ∧ Below w.heap.size w w' := by
  have hmk : ∀ w : World, (Instr.makeSlice 37 (.int .i64 64) (.int .i64 64)).run Tryd.prog w = .ok (.slice (some ⟨w.heap.size, 0, none⟩) 64 64) (w.alloc (.cells (zb 64) 5)) := fun w => mk_any 64 (by decide) w
  have hwu : IntKind.u64.wrap size = size := by simp [IntKind.wrap, IntKind.bits, IntKind.signed]; omega
  have hmul : size * 8 % 18446744073709551616 = size * 8 := by omega
  have Hmul := hide hmul
  clear hmul
  go_enter Tryd.func31, Tryd.ntmps31
  go_wp2_with (refine wpList_copy_splice rfl (.tmp 16) (.tmp 17) 37 37 rfl 5 Tryd.underlying37 (by kernel_rfl) (some ⟨w.heap.size, 0, none⟩) p 64 64 r cap rfl rfl w.heap.size 0 (zl 64) 5 ?_ (bl r bs) ?_ ?_ ?_ ?_ w.heap.size w ?_ (Nat.le_refl _) ?_)
  · rw [heap_alloc_new, zb_eq]
  · rw [bl_length]; exact (Nat.min_eq_left (by omega)).symm
  · intro h
    rw [bl_length] at h
    obtain ⟨b, off, rfl, hb, hc⟩ := hp h
    refine ⟨_, rfl, ?_⟩
    intro j a hj
    obtain ⟨hj1, hj2⟩ := List.getElem?_eq_some_iff.1 hj
    rw [bl_length] at hj1
    simp [bl] at hj2
    subst hj2
    have := hc j hj1
    simp [go_sem, World.cell?_alloc_past, hb, this]
  · rw [bl_length, zl_length]; omega
  · intro v hv
    unfold bl at hv
    obtain ⟨i, _, rfl⟩ := List.mem_map.1 hv
    rfl
  · exact (Below.refl _ _).alloc (Nat.le_refl _) _
  · intro w1 HG hB
    have hrow := row_splice (by omega) (unhide HG)
    have c1 := hrow.cell (i := r) (by omega)
    have f1 := hrow.frozen r
    clear HG hp hmk
    have Hrow := hide hrow
    clear hrow
    go_wp2
    go_loopw [26] (fun xi w2 => ∃ k : Nat, k ≤ 8 ∧ xi = .int .i64 k ∧ w2.rowIs w.heap.size 5 64 (fun i => .int .u8 (padF bs r (size * 8) 64 k i)) ∧ Below w.heap.size w w2) (fun i _ => 8 - (intOf i).toNat)
    case atStart =>
      refine ⟨0, by omega, rfl, brow_set (unhide Hrow) r 128 (fun m hm => ?_), hB.setCell (Nat.le_refl _) _⟩
      unfold padF
      have h0 : ¬ (64 ≤ m + 0 ∧ m < 64) := by omega
      rw [if_neg h0]
      by_cases e1 : m = r
      · subst e1; simp
      · simp [e1]
    case round =>
      obtain ⟨k, hk, rfl, hrow, hbel⟩ := hrel
      by_cases hlt : k < 8
      · have c2 := hrow.cell (i := 63 - k) (by omega)
        have f2 := hrow.frozen (63 - k)
        have e1 : (63 - (k : Int)).toNat = 63 - k := by omega
        have e2 : min (8 * (k : Int)).toNat 64 = 8 * k := by omega
        have Hrow2 := hide hrow
        clear hrow
        go_wp2
        go_roundw
        case rel =>
          exact ⟨k + 1, by omega, by go_num, brow_set (unhide Hrow2) (63 - k) _ (fun m _ => padF_step bs r (size * 8) 64 k m (by omega)), hbel.setCell (Nat.le_refl _) _⟩
        case measure => simp [intOf]; omega
      · have : k = 8 := by omega
        subst this
        go_wp2
        go_ret
        exact ⟨rfl, hrow, hbel⟩

set_option maxRecDepth 100000 in
theorem padded_two (p : Option Addr) (r cap : Nat) (bs : Nat → Int) (size : Int) (w : World) (hrl : 56 ≤ r) (hr : r < 64) (hs0 : 0 ≤ size) (hs1 : size < 2 ^ 60)
    (hp : 0 < r → ∃ b off, p = some ⟨b, off, none⟩ ∧ b < w.heap.size ∧ ∀ i, i < r → w.cell? ⟨b, off + i, none⟩ = some (.int .u8 (bs i))) :
    Calls Tryd.prog 31 #[.slice p r cap, .int .i64 size] w fun e w' => e = .returned (.slice (some ⟨w.heap.size, 0, none⟩) 128 128) ∧ w'.rowIs w.heap.size 5 128 (fun i => .int .u8 (padF bs r (size * 8) 128 8 i)) ∧ Below w.heap.size w w' := by
  have hmk : ∀ w : World, (Instr.makeSlice 37 (.int .i64 128) (.int .i64 128)).run Tryd.prog w = .ok (.slice (some ⟨w.heap.size, 0, none⟩) 128 128) (w.alloc (.cells (zb 128) 5)) := fun w => mk_any 128 (by decide) w
  have hwu : IntKind.u64.wrap size = size := by simp [IntKind.wrap, IntKind.bits, IntKind.signed]; omega
  have hmul : size * 8 % 18446744073709551616 = size * 8 := by omega
  have Hmul := hide hmul
  clear hmul
  go_enter Tryd.func31, Tryd.ntmps31
  go_wp2_with (refine wpList_copy_splice rfl (.tmp 16) (.tmp 17) 37 37 rfl 5 Tryd.underlying37 (by kernel_rfl) (some ⟨w.heap.size, 0, none⟩) p 128 128 r cap rfl rfl w.heap.size 0 (zl 128) 5 ?_ (bl r bs) ?_ ?_ ?_ ?_ w.heap.size w ?_ (Nat.le_refl _) ?_)
  · rw [heap_alloc_new, zb_eq]
  · rw [bl_length]; exact (Nat.min_eq_left (by omega)).symm
  · intro h
    rw [bl_length] at h
    obtain ⟨b, off, rfl, hb, hc⟩ := hp h
    refine ⟨_, rfl, ?_⟩
    intro j a hj
    obtain ⟨hj1, hj2⟩ := List.getElem?_eq_some_iff.1 hj
    rw [bl_length] at hj1
    simp [bl] at hj2
    subst hj2
    have := hc j hj1
    simp [go_sem, World.cell?_alloc_past, hb, this]
  · rw [bl_length, zl_length]; omega
  · intro v hv
    unfold bl at hv
    obtain ⟨i, _, rfl⟩ := List.mem_map.1 hv
    rfl
  · exact (Below.refl _ _).alloc (Nat.le_refl _) _
  · intro w1 HG hB
    have hrow := row_splice (by omega) (unhide HG)
    have c1 := hrow.cell (i := r) (by omega)
    have f1 := hrow.frozen r
    clear HG hp hmk
    have Hrow := hide hrow
    clear hrow
    go_wp2
    go_loopw [26] (fun xi w2 => ∃ k : Nat, k ≤ 8 ∧ xi = .int .i64 k ∧ w2.rowIs w.heap.size 5 128 (fun i => .int .u8 (padF bs r (size * 8) 128 k i)) ∧ Below w.heap.size w w2) (fun i _ => 8 - (intOf i).toNat)
    case atStart =>
      refine ⟨0, by omega, rfl, brow_set (unhide Hrow) r 128 (fun m hm => ?_), hB.setCell (Nat.le_refl _) _⟩
      unfold padF
      have h0 : ¬ (128 ≤ m + 0 ∧ m < 128) := by omega
      rw [if_neg h0]
      by_cases e1 : m = r
      · subst e1; simp
      · simp [e1]
    case round =>
      obtain ⟨k, hk, rfl, hrow, hbel⟩ := hrel
      by_cases hlt : k < 8
      · have c2 := hrow.cell (i := 127 - k) (by omega)
        have f2 := hrow.frozen (127 - k)
        have e1 : (127 - (k : Int)).toNat = 127 - k := by omega
        have e2 : min (8 * (k : Int)).toNat 64 = 8 * k := by omega
        have Hrow2 := hide hrow
        clear hrow
        go_wp2
        go_roundw
        case rel =>
          exact ⟨k + 1, by omega, by go_num, brow_set (unhide Hrow2) (127 - k) _ (fun m _ => padF_step bs r (size * 8) 128 k m (by omega)), hbel.setCell (Nat.le_refl _) _⟩
        case measure => simp [intOf]; omega
      · have : k = 8 := by omega
        subst this
        go_wp2
        go_ret
        exact ⟨rfl, hrow, hbel⟩
end Go.Proofs.YteldgklcfemenaaDoor.Sh
