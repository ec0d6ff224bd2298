/- Walk of sha.mixAll. -/
import Derived.Test.YteldgklcfemenaaDoorShA2
import Derived.Test.YteldgklcfemenaaDoorShA3
import Derived.Deep.RegionWith
import Derived.Deep.DeepMust
namespace Go.Proofs.YteldgklcfemenaaDoor.Sh
open Go.RowKit

theorem wrap_id (x : Int) (h0 : -9223372036854775808 ≤ x) (h1 : x < 9223372036854775808) : IntKind.i64.wrap x = x := by
  simp [IntKind.wrap, IntKind.bits, IntKind.signed]; omega

theorem bcell {W w1 : World} (hb : Below W.heap.size W w1) : (∀ b o, b < W.heap.size → w1.cell? ⟨b, o, none⟩ = W.cell? ⟨b, o, none⟩) ∧ (∀ b o, b < W.heap.size → w1.frozen? ⟨b, o, none⟩ = W.frozen? ⟨b, o, none⟩) :=
  ⟨fun _ _ h => hb.cell (p := ⟨_, _, none⟩) h, fun _ _ h => hb.frozen (p := ⟨_, _, none⟩) h⟩

theorem mix_at (s : S8) (ws kk : Nat → Int) (w : World) (hK : ∀ i : Nat, i < 64 → w.cell? ⟨3, i, none⟩ = some (.int .u32 (kk i))) (hsz : 3 < w.heap.size) :
    Calls Tryd.prog 33 #[.agg #[.int .u32 s.a, .int .u32 s.b, .int .u32 s.c, .int .u32 s.d, .int .u32 s.e, .int .u32 s.f, .int .u32 s.g, .int .u32 s.h], .agg (arr 64 ws)] w fun e w' =>
      e = .returned (.agg #[.int .u32 (s.mix kk ws).a, .int .u32 (s.mix kk ws).b, .int .u32 (s.mix kk ws).c, .int .u32 (s.mix kk ws).d, .int .u32 (s.mix kk ws).e, .int .u32 (s.mix kk ws).f, .int .u32 (s.mix kk ws).g, .int .u32 (s.mix kk ws).h]) ∧ Below w.heap.size w w' :=
  mix_any s ws kk w hK hsz

/-- Block b holds the eight words of s, and may be written. -/
def Holds (w : World) (b : Nat) (s : S8) : Prop := w.heap[b]? = some (.cells s.vals 47 (0, 0))
theorem Holds.cells {w : World} {b : Nat} {s : S8} (h : Holds w b s) : w.cell? ⟨b, 0, none⟩ = some (.int .u32 s.a) ∧ w.cell? ⟨b, 1, none⟩ = some (.int .u32 s.b) ∧ w.cell? ⟨b, 2, none⟩ = some (.int .u32 s.c) ∧ w.cell? ⟨b, 3, none⟩ = some (.int .u32 s.d) ∧ w.cell? ⟨b, 4, none⟩ = some (.int .u32 s.e) ∧ w.cell? ⟨b, 5, none⟩ = some (.int .u32 s.f) ∧ w.cell? ⟨b, 6, none⟩ = some (.int .u32 s.g) ∧ w.cell? ⟨b, 7, none⟩ = some (.int .u32 s.h) := by
  unfold Holds at h
  simp [World.cell?, h, S8.vals]
theorem Holds.frozen {w : World} {b : Nat} {s : S8} (h : Holds w b s) (i : Nat) : w.frozen? ⟨b, i, none⟩ = false := by
  unfold Holds at h
  simp [World.frozen?, h]
theorem Holds.below {w w' : World} {b B : Nat} {s : S8} (h : Holds w b s) (hb : Below B w w') (hB : b < B) : Holds w' b s := (hb.block b hB).trans h

/-- w with the eight words of t stored into block b. -/
abbrev set8 (w : World) (b : Nat) (t : S8) : World := (((((((w.setCell ⟨b, 0, none⟩ (.int .u32 t.a)).setCell ⟨b, 1, none⟩ (.int .u32 t.b)).setCell ⟨b, 2, none⟩ (.int .u32 t.c)).setCell ⟨b, 3, none⟩ (.int .u32 t.d)).setCell ⟨b, 4, none⟩ (.int .u32 t.e)).setCell ⟨b, 5, none⟩ (.int .u32 t.f)).setCell ⟨b, 6, none⟩ (.int .u32 t.g)).setCell ⟨b, 7, none⟩ (.int .u32 t.h)
theorem Holds.set8 {w : World} {b : Nat} {s : S8} (h : Holds w b s) (t : S8) : Holds (set8 w b t) b t := by
  have h0 := heap_setCell_same w b 0 _ 47 (.int .u32 t.a) h
  have h1 := heap_setCell_same _ b 1 _ 47 (.int .u32 t.b) h0
  have h2 := heap_setCell_same _ b 2 _ 47 (.int .u32 t.c) h1
  have h3 := heap_setCell_same _ b 3 _ 47 (.int .u32 t.d) h2
  have h4 := heap_setCell_same _ b 4 _ 47 (.int .u32 t.e) h3
  have h5 := heap_setCell_same _ b 5 _ 47 (.int .u32 t.f) h4
  have h6 := heap_setCell_same _ b 6 _ 47 (.int .u32 t.g) h5
  have h7 := heap_setCell_same _ b 7 _ 47 (.int .u32 t.h) h6
  unfold Holds
  rw [h7]
  simp [S8.vals]
theorem heap_set8_other (w : World) (b : Nat) (t : S8) (k : Nat) (h : k ≠ b) : (set8 w b t).heap[k]? = w.heap[k]? := by
  simp only [heap_setCell_other _ _ _ _ (show k ≠ (⟨b, _, none⟩ : Addr).block from h)]
theorem size_set8 (w : World) (b : Nat) (t : S8) : (set8 w b t).heap.size = w.heap.size := by simp
theorem below_set8 {B : Nat} {a w : World} (h : Below B a w) {b : Nat} (hb : B ≤ b) (t : S8) : Below B a (set8 w b t) := by
  iterate 8 (refine Below.setCell ?_ hb _)
  exact h
theorem Holds.lt {w : World} {b : Nat} {s : S8} (h : Holds w b s) : b < w.heap.size := (Array.getElem?_eq_some_iff.1 h).1
theorem round_end {w wr w1 w2 : World} {st r : S8} (hst : Holds wr w.heap.size st) (hres : Holds wr (w.heap.size + 1) r) (hbel : Below w.heap.size w wr) (h1 : Below wr.heap.size wr w1) (h2 : Below w1.heap.size w1 w2) (t : S8) :
    Holds (set8 w2 w.heap.size t) w.heap.size t ∧ Holds (set8 w2 w.heap.size t) (w.heap.size + 1) r ∧ w.heap.size + 2 ≤ (set8 w2 w.heap.size t).heap.size ∧ Below w.heap.size w (set8 w2 w.heap.size t) := by
  have l1 := hst.lt
  have l2 := hres.lt
  have s1 := h1.size
  have s2 := h2.size
  have k1 := (hst.below h1 l1).below h2 (by omega)
  have k2 := (hres.below h1 l2).below h2 (by omega)
  refine ⟨k1.set8 t, (heap_set8_other _ _ _ _ (by omega)).trans k2, ?_, below_set8 ((hbel.trans (h1.mono (by omega))).trans (h2.mono (by omega))) (Nat.le_refl _) t⟩
  rw [size_set8]; omega

set_option maxRecDepth 100000 in
set_option maxHeartbeats 4000000 in
theorem mixAll_some (s : S8) (kk bs : Nat → Int) (b off n cap : Nat) (w : World) (hK : ∀ i : Nat, i < 64 → w.cell? ⟨3, i, none⟩ = some (.int .u32 (kk i))) (hsz : 3 < w.heap.size)
    (hc : ∀ i : Nat, i < 64 * n → w.cell? ⟨b, off + i, none⟩ = some (.int .u8 (bs i))) (hbs : ∀ i, 0 ≤ bs i ∧ bs i < 256) (hcap : 64 * n ≤ cap) (hcap2 : cap < 2 ^ 63) (hb : b < w.heap.size) :
    Calls Tryd.prog 30 #[.agg #[.int .u32 s.a, .int .u32 s.b, .int .u32 s.c, .int .u32 s.d, .int .u32 s.e, .int .u32 s.f, .int .u32 s.g, .int .u32 s.h], .slice (some ⟨b, off, none⟩) (64 * n) cap] w fun e w' =>
      e = .returned (.agg (S8.blocks kk bs s n).vals) ∧ Below w.heap.size w w' := by
  go_enter Tryd.func30, Tryd.ntmps30
  go_wp2
  go_loopw [5] (fun xi w1 => ∃ k : Nat, k ≤ n ∧ xi = .int .i64 (64 * (k : Int)) ∧ Holds w1 w.heap.size (S8.blocks kk bs s k) ∧ Holds w1 (w.heap.size + 1) ⟨0, 0, 0, 0, 0, 0, 0, 0⟩ ∧ w.heap.size + 2 ≤ w1.heap.size ∧ Below w.heap.size w w1) (fun i _ => 64 * n - (intOf i).toNat)
  case atStart =>
    exact ⟨0, by omega, rfl, heap_alloc2_old _ _ _, heap_alloc2_new _ _ _, by simp, ((Below.refl _ _).alloc (Nat.le_refl _) _).alloc (by simp) _⟩
  case round =>
    obtain ⟨k, hk, rfl, hst, hres, hsz2, hbel⟩ := hrel
    by_cases hlt : k < n
    · obtain ⟨c0, c1, c2, c3, c4, c5, c6, c7⟩ := hst.cells
      have hf : ∀ i, wr.frozen? ⟨w.heap.size, i, none⟩ = false := hst.frozen
      have hS : w.heap.size < wr.heap.size := by omega
      have h64 : 64 * k + 64 - 64 * k = 64 := by omega
      have hcK : ∀ i : Nat, i < 64 → wr.cell? ⟨3, i, none⟩ = some (.int .u32 (kk i)) := fun i hi => by rw [hbel.cell (p := ⟨3, i, none⟩) hsz]; exact hK i hi
      have hcb : ∀ i : Nat, i < 64 → wr.cell? ⟨b, off + 64 * k + i, none⟩ = some (.int .u8 (bs (64 * k + i))) := fun i hi => by
        rw [hbel.cell (p := ⟨b, off + 64 * k + i, none⟩) hb, Nat.add_assoc]; exact hc _ (by omega)
      have hbr : b < wr.heap.size := by omega
      have hi1 : 64 * (k : Int) + 64 ≤ cap := by omega
      have hi2 : 64 * k + 64 ≤ cap := by omega
      have hw : IntKind.i64.wrap (64 * (k : Int) + 64) = 64 * (k : Int) + 64 := wrap_id _ (by omega) (by omega)
      clear hc hK
      have HcK := hide hcK
      have Hcb := hide hcb
      clear hcK hcb
      go_wp2
      go_region_with (first
        | (go_at_call 34
           go_must (refine (words_any b (off + 64 * k) (cap - 64 * k) (fun i => bs (64 * k + i)) _ (by exact unhide Hcb) (fun i => hbs _) (by omega) (by omega) (by simpa using hbr)).mono ?_)
           rintro e w1 ⟨rfl, hb1⟩
           obtain ⟨hc1, hf1⟩ := bcell hb1
           have hs1 := hb1.size
           go_must (simp only [heap_drew] at hc1 hf1 hs1)
           have hS1 : w.heap.size < w1.heap.size := by omega
           have H1 : Hid (Below wr.heap.size wr w1) := ⟨hb1.os, hb1.tape, hb1.output, hb1.size, hb1.block⟩
           clear hb1)
        | (go_at_call 33
           go_must (refine (mix_at (S8.blocks kk bs s k) (wordsOf fun i => bs (64 * k + i)) kk _ (fun i hi => by rw [(unhide H1).cell (p := ⟨3, i, none⟩) (by show 3 < wr.heap.size; omega)]; exact unhide HcK i hi) (by omega)).mono ?_)
           rintro e w2 ⟨rfl, hb2⟩
           obtain ⟨hc2, hf2⟩ := bcell hb2
           have hs2 := hb2.size
           have H2 := hide hb2
           clear hb2))
      all_goals (go_wp2; go_roundw)
      all_goals first
        | (have E := round_end hst hres hbel (unhide H1) (unhide H2) (S8.mix kk (wordsOf fun i => bs (64 * k + i)) (S8.blocks kk bs s k))
           exact ⟨k + 1, by omega, by go_num, E.1, E.2.1, E.2.2.1, E.2.2.2⟩)
        | (simp [intOf]; omega)
    · have : k = n := by omega
      subst this
      obtain ⟨c0, c1, c2, c3, c4, c5, c6, c7⟩ := hst.cells
      obtain ⟨d0, d1, d2, d3, d4, d5, d6, d7⟩ := hres.cells
      have hf : ∀ i, wr.frozen? ⟨w.heap.size + 1, i, none⟩ = false := hres.frozen
      generalize hR : S8.blocks kk bs s k = R at *
      have HR := hide hR
      clear hR
      clear hc hK
      go_wp2
      refine bodyPost_ret (v := .agg R.vals) (results_cell_row (p := 4) (ty := 47) Tryd.results30 _ _ (w.heap.size + 1) 47 R.vals (0, 0) _ rfl (Holds.set8 hres R) Tryd.underlying47 rfl size34) rfl ⟨by rw [unhide HR], ?_⟩
      exact below_set8 hbel (by omega) R
end Go.Proofs.YteldgklcfemenaaDoor.Sh
