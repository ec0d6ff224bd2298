/- Walk of sha.Sum. -/
import Derived.Test.YteldgklcfemenaaDoorShA5
import Derived.Test.YteldgklcfemenaaDoorShA6
import Derived.Deep.DeepCutAuto
namespace Go.Proofs.YteldgklcfemenaaDoor.Sh
open Go.RowKit

/-- The two package variables hold s0 and kk. -/
structure Glob (s0 : S8) (kk : Nat → Int) (w : World) : Prop where
  size : 3 < w.heap.size
  c0 : w.cell? ⟨2, 0, none⟩ = some (.int .u32 s0.a)
  c1 : w.cell? ⟨2, 1, none⟩ = some (.int .u32 s0.b)
  c2 : w.cell? ⟨2, 2, none⟩ = some (.int .u32 s0.c)
  c3 : w.cell? ⟨2, 3, none⟩ = some (.int .u32 s0.d)
  c4 : w.cell? ⟨2, 4, none⟩ = some (.int .u32 s0.e)
  c5 : w.cell? ⟨2, 5, none⟩ = some (.int .u32 s0.f)
  c6 : w.cell? ⟨2, 6, none⟩ = some (.int .u32 s0.g)
  c7 : w.cell? ⟨2, 7, none⟩ = some (.int .u32 s0.h)
  k : ∀ i : Nat, i < 64 → w.cell? ⟨3, i, none⟩ = some (.int .u32 (kk i))
theorem Glob.below {s0 : S8} {kk : Nat → Int} {w w' : World} {B : Nat} (h : Glob s0 kk w) (hb : Below B w w') (hB : 3 < B) : Glob s0 kk w' := by
  have e0 : ∀ i, w'.cell? ⟨2, i, none⟩ = w.cell? ⟨2, i, none⟩ := fun i => hb.cell (p := ⟨2, i, none⟩) (by show 2 < B; omega)
  have e1 : ∀ i, w'.cell? ⟨3, i, none⟩ = w.cell? ⟨3, i, none⟩ := fun i => hb.cell (p := ⟨3, i, none⟩) hB
  exact ⟨Nat.lt_of_lt_of_le h.size hb.size, by rw [e0]; exact h.c0, by rw [e0]; exact h.c1, by rw [e0]; exact h.c2, by rw [e0]; exact h.c3, by rw [e0]; exact h.c4, by rw [e0]; exact h.c5, by rw [e0]; exact h.c6, by rw [e0]; exact h.c7, fun i hi => by rw [e1]; exact h.k i hi⟩

theorem mixAll_at (s : S8) (kk bs : Nat → Int) (b off n cap : Nat) (w : World) (hK : ∀ i : Nat, i < 64 → w.cell? ⟨3, i, none⟩ = some (.int .u32 (kk i))) (hsz : 3 < w.heap.size)
    (hc : ∀ i : Nat, i < 64 * n → w.cell? ⟨b, off + i, none⟩ = some (.int .u8 (bs i))) (hbs : ∀ i, 0 ≤ bs i ∧ bs i < 256) (hcap : 64 * n ≤ cap) (hcap2 : cap < 2 ^ 63) (hb : b < w.heap.size) :
    Calls Tryd.prog 30 #[.agg #[.int .u32 s.a, .int .u32 s.b, .int .u32 s.c, .int .u32 s.d, .int .u32 s.e, .int .u32 s.f, .int .u32 s.g, .int .u32 s.h], .slice (some ⟨b, off, none⟩) (64 * n) cap] w fun e w' =>
      e = .returned (.agg #[.int .u32 (S8.blocks kk bs s n).a, .int .u32 (S8.blocks kk bs s n).b, .int .u32 (S8.blocks kk bs s n).c, .int .u32 (S8.blocks kk bs s n).d, .int .u32 (S8.blocks kk bs s n).e, .int .u32 (S8.blocks kk bs s n).f, .int .u32 (S8.blocks kk bs s n).g, .int .u32 (S8.blocks kk bs s n).h]) ∧ Below w.heap.size w w' :=
  mixAll_some s kk bs b off n cap w hK hsz hc hbs hcap hcap2 hb

theorem ownsRow_base {w : World} {B B' : Nat} {e : TypeId} {size : Nat} {v : Value} {n : Nat} {xs : List Value} (h : B' ≤ B) (ho : w.ownsRow B e size v n xs) : w.ownsRow B' e size v n xs := by
  obtain ⟨h1, h2⟩ := ho
  refine ⟨h1, ?_⟩
  rcases h2 with h2 | ⟨g, cap, cur, a, b, c⟩
  · exact .inl h2
  · exact .inr ⟨g, cap, cur, a, by omega, c⟩
theorem end_a {w w1 : World} (h : Below w.drew.heap.size w.drew w1) (R : S8) : Holds (w1.alloc (.cells #[.int .u32 R.a, .int .u32 R.b, .int .u32 R.c, .int .u32 R.d, .int .u32 R.e, .int .u32 R.f, .int .u32 R.g, .int .u32 R.h] 47)) w1.heap.size R ∧ w.heap.size ≤ w1.heap.size ∧ Below w.heap.size w (w1.alloc (.cells #[.int .u32 R.a, .int .u32 R.b, .int .u32 R.c, .int .u32 R.d, .int .u32 R.e, .int .u32 R.f, .int .u32 R.g, .int .u32 R.h] 47)) := by
  have hb : Below w.heap.size w w1 := ⟨h.os, h.tape, h.output, h.size, h.block⟩
  exact ⟨heap_alloc_new _ _, hb.size, hb.alloc hb.size _⟩
theorem end_c {w wc w1 w2 : World} {gb : Nat} {R : S8} (hst : Holds wc gb R) (hbel : Below w.heap.size w wc) (hgb : w.heap.size ≤ gb) (h1 : Below wc.drew.heap.size wc.drew w1) (h2 : Below w1.heap.size w1 w2) (R2 : S8) :
    Holds (set8 w2 gb R2) gb R2 ∧ Below w.heap.size w (set8 w2 gb R2) := by
  have l := hst.lt
  have h1' : Below wc.heap.size wc w1 := ⟨h1.os, h1.tape, h1.output, h1.size, h1.block⟩
  have s0 := hbel.size
  have s1 := h1'.size
  have k1 := (hst.below h1' l).below h2 (by omega)
  exact ⟨k1.set8 R2, below_set8 ((hbel.trans (h1'.mono s0)).trans (h2.mono (by omega))) hgb R2⟩
theorem end_b {w w1 : World} (h : Below (w.alloc (.cells #[.int .u32 0, .int .u32 0, .int .u32 0, .int .u32 0, .int .u32 0, .int .u32 0, .int .u32 0, .int .u32 0] 47)).drew.heap.size (w.alloc (.cells #[.int .u32 0, .int .u32 0, .int .u32 0, .int .u32 0, .int .u32 0, .int .u32 0, .int .u32 0, .int .u32 0] 47)).drew w1) (R : S8) : Holds (set8 w1 w.heap.size R) w.heap.size R ∧ w.heap.size ≤ w.heap.size ∧ Below w.heap.size w (set8 w1 w.heap.size R) := by
  have hs : (w.alloc (.cells #[.int .u32 0, .int .u32 0, .int .u32 0, .int .u32 0, .int .u32 0, .int .u32 0, .int .u32 0, .int .u32 0] 47)).heap.size = w.heap.size + 1 := by simp
  have hb : Below (w.heap.size + 1) (w.alloc (.cells #[.int .u32 0, .int .u32 0, .int .u32 0, .int .u32 0, .int .u32 0, .int .u32 0, .int .u32 0, .int .u32 0] 47)) w1 := ⟨h.os, h.tape, h.output, h.size, fun k hk => h.block k (by rw [heap_drew, hs]; exact hk)⟩
  have hst : Holds w1 w.heap.size ⟨0, 0, 0, 0, 0, 0, 0, 0⟩ := (hb.block _ (by omega)).trans (heap_alloc_new _ _)
  exact ⟨hst.set8 R, Nat.le_refl _, below_set8 (((Below.refl _ _).alloc (Nat.le_refl _) _).trans (hb.mono (by omega))) (Nat.le_refl _) R⟩
end Go.Proofs.YteldgklcfemenaaDoor.Sh
