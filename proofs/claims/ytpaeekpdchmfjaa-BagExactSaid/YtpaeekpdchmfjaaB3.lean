/- What BagBack asks of each call. -/
import Derived.Test.YtpaeekpdchmfjaaB1
namespace Go.Proofs.Ytpaeekpdchmfjaa
open Go.RowKit

theorem snoc_at (X : Nat → Fm) (n : Nat) (f : Fm) : snoc X n f n = f := by simp [snoc, cat]
theorem snoc_lt (X : Nat → Fm) (n : Nat) (f : Fm) (i : Nat) (h : i < n) : snoc X n f i = X i := by simp [snoc, cat, h]
theorem snoc_chk {n : Nat} {X : Nat → Fm} {f : Fm} (h : putE n X f = 0) : chk (n + 1) (snoc X n f) = 0 := by
  obtain ⟨a, b, c⟩ := putE_zero.1 h
  obtain ⟨z1, z2⟩ := chk_zero a
  refine chk_of (by omega) fun i hi => ?_
  by_cases e : i < n
  · rw [snoc_lt _ _ _ _ e]; exact z2 i e
  · obtain rfl : i = n := by omega
    rw [snoc_at]
    exact okB_iff.1 b
/-- Taken at the end: what was put last, and what was there. -/
theorem take_last (X A : Nat → Fm) (n m : Nat) (hm : m = n + 1) (hA : ∀ i, i < n → A i = X i) (hc : chk m A = 0) (p : Option Addr) (c : Nat) (w : World) (h : Fs w (.slice p m c) m A) :
    Calls Try.prog 10 #[.slice p m c, .int .i64 n] w fun e w' => ∃ q d p2 c2, e = .returned (.tuple #[.agg #[.int .i64 (A n).t, .slice q (A n).n d], .slice p2 n c2, .int .i64 0]) ∧ Sl .u8 w' (.slice q (A n).n d) (A n).n (A n).b ∧ Fs w' (.slice p2 n c2) n X ∧ Below w.heap.size w w' := by
  subst hm
  refine (take_in _ (n + 1) A n w h (by omega) hc).mono ?_
  rintro e w' ⟨q, d, p2, c2, rfl, s, o, b⟩
  refine ⟨q, d, p2, c2, rfl, s, o.fs.congr fun i hi => ?_, b⟩
  have : lack A n i = X i := by
    have hi' : i < n := hi
    unfold lack cat
    rw [if_pos hi', hA i hi']
  rw [this]
  exact ⟨rfl, rfl, fun _ _ => rfl⟩
theorem take_mid (A : Nat → Fm) (n m k : Nat) (hm : m = n + 1) (hk : k < m) (hc : chk m A = 0) (p : Option Addr) (c : Nat) (w : World) (h : Fs w (.slice p m c) m A) :
    Calls Try.prog 10 #[.slice p m c, .int .i64 k] w fun e w' => ∃ q d p2 c2, e = .returned (.tuple #[.agg #[.int .i64 (A k).t, .slice q (A k).n d], .slice p2 n c2, .int .i64 0]) ∧ Sl .u8 w' (.slice q (A k).n d) (A k).n (A k).b ∧ Below w.heap.size w w' := by
  subst hm
  refine (take_in _ (n + 1) A k w h hk hc).mono ?_
  rintro e w' ⟨q, d, p2, c2, rfl, s, o, b⟩
  exact ⟨q, d, p2, c2, rfl, s, b⟩
theorem twice_any (A : Nat → Fm) (m M k : Nat) (hM : M = m + 1) (hm : m ≤ 61) (hk : k < m) (hc : chk m A = 0) (p : Option Addr) (c : Nat) (w : World) (h : Fs w (.slice p m c) m A) :
    Calls Try.prog 11 #[.slice p m c, .int .i64 k] w fun e w' => ∃ p2 c2, e = .returned (.tuple #[.slice p2 M c2, .int .i64 0]) ∧ Fs w' (.slice p2 M c2) M (snoc A m (A k)) ∧ Below w.heap.size w w' := by
  subst hM
  have ht : twE m A k = 0 := by
    unfold twE
    rw [if_neg (by simpa using chkAt_zero.2 ⟨hc, by omega, by omega⟩), if_neg (by omega)]
  refine (twice_in _ m A k w h hk hc).mono ?_
  rintro e w' ⟨v, rfl, b, h1, _⟩
  obtain ⟨p2, c2, rfl, o⟩ := h1 (by omega)
  exact ⟨p2, c2, by rw [ht], o.fs, b⟩
theorem twice_chk (A : Nat → Fm) (m k : Nat) (hm : m ≤ 61) (hk : k < m) (hc : chk m A = 0) : chk (m + 1) (snoc A m (A k)) = 0 := by
  refine snoc_chk (putE_zero.2 ⟨hc, okB_iff.2 ((chk_zero hc).2 k hk), by omega⟩)
theorem frame_self (f : Fm) (va vb : Value) (w : World) (ha : Sl .u8 w va f.n f.b) (hb : Sl .u8 w vb f.n f.b) :
    Calls Try.prog 17 #[.agg #[.int .i64 f.t, va], .agg #[.int .i64 f.t, vb]] w fun e w' => e = .returned (.bool true) ∧ Below w.heap.size w w' := by
  have := frame_any f f va vb w ha hb
  rwa [sameF_self f f rfl rfl fun _ _ => rfl] at this
theorem frames_self (X : Nat → Fm) (n : Nat) (va vb : Value) (w : World) (ha : Fs w va n X) (hb : Fs w vb n X) :
    Calls Try.prog 16 #[va, vb] w fun e w' => e = .returned (.bool true) ∧ Below w.heap.size w w' := by
  have := frames_any X X va vb n n w ha hb
  rwa [sameX_of fun i hi => ⟨rfl, rfl, fun _ _ => rfl⟩] at this
theorem frames_is (X Y : Nat → Fm) (n : Nat) (va vb : Value) (r : Bool) (w : World) (ha : Fs w va n X) (hb : Fs w vb n Y) (h : sameX n n X Y = r) :
    Calls Try.prog 16 #[va, vb] w fun e w' => e = .returned (.bool r) ∧ Below w.heap.size w w' := by
  have := frames_any X Y va vb n n w ha hb
  rwa [h] at this
end Go.Proofs.Ytpaeekpdchmfjaa
