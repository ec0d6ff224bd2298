/- Walk of the page's Decode: a message's numbers. -/
import Derived.Test.YtmcmiojidgdjpaaBn35
import Derived.Test.YtmcmiojidgdjpaaBn33
namespace Go.Proofs.Ytmcmiojidgdjpaa
open Go.RowKit

/-- What is said of the page's Decode behind the numbers: both lists, and what is answered. -/
def NumC (D : Nat → Nat) (b off M c j : Nat) (y : Int) (ok : Bool) : Prop := ∀ w1, Cr.Bs w1 (.slice (some ⟨b, off, none⟩) M c) M D → Calls Try.prog 27 #[.slice (some ⟨b, off + wst j, none⟩) (wsz j) (c - wst j)] w1 fun e w' => e = .returned (.tuple #[.int .i64 y, .bool ok]) ∧ w' = w1
theorem Cr.Bs.mid {w : World} {b off n c s z : Nat} {D : Nat → Nat} (h : Cr.Bs w (.slice (some ⟨b, off, none⟩) n c) n D) (hz : 0 < z) (hs : s + z ≤ n) : Cr.Bs w (.slice (some ⟨b, off + s, none⟩) z (c - s)) z fun i => D (s + i) := by
  obtain ⟨p, cap, e, l1, l2⟩ := Sl.shape h
  cases e
  obtain ⟨b', off', e, hb, hc⟩ := Sl.some h (by omega)
  cases e
  refine .inr ⟨b, off + s, c - s, rfl, by omega, by omega, hb, fun i hi => ?_⟩
  rw [Nat.add_assoc]
  exact hc (s + i) (by omega)
theorem num_any (D : Nat → Nat) (b off M c j : Nat) (hj : j < 14) (hM : wst j + wsz j ≤ M) (hD : ∀ i, i < M → D i < 256) :
    NumC D b off M c j (if gN (E D) j < 4611686018427387904 then gN (E D) j else 0) (decide (gN (E D) j < 4611686018427387904)) := by
  intro w1 hs
  have hz : 0 < wsz j := by rcases wsz_is j hj with h | h | h <;> omega
  have h8 : wsz j ≤ 8 := by rcases wsz_is j hj with h | h | h <;> omega
  have hq := hs.mid hz hM
  have e : Co.num (fun i => ((D (wst j + i) : Nat) : Int)) 0 (wsz j) = gN (E D) j := Co.num_shift (E D) (wst j) (wsz j)
  have hf : ∀ i, i < wsz j → 0 ≤ ((D (wst j + i) : Nat) : Int) ∧ ((D (wst j + i) : Nat) : Int) < 256 := fun i hi => by
    have := hD (wst j + i) (by omega)
    omega
  by_cases h : gN (E D) j < 4611686018427387904
  · rw [if_pos h, decide_eq_true h]
    have q := Co.number_t (fun i => ((D (wst j + i) : Nat) : Int)) _ (wsz j) w1 hq hf h8 (by rw [e]; exact h)
    rwa [e] at q
  · rw [if_neg h, decide_eq_false h]
    exact Co.number_f (fun i => ((D (wst j + i) : Nat) : Int)) _ (wsz j) w1 hq hf h8 (by rw [e]; omega)
end Go.Proofs.Ytmcmiojidgdjpaa
