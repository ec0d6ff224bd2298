/- The roots, reckoned by the kernel: they are the program's two tables. -/
import Derived.Test.YtaojifgbnllebaaDoorR4
import Derived.Test.YtaojifgbnllebaaDoorE2
namespace Go.Proofs.YtaojifgbnllebaaDoor
open Go.RowKit

def powF (c : Nat) : Nat → Nat
  | 0 => 1
  | n + 1 => powF c n * c
theorem powF_eq (c : Nat) : ∀ n, powN (c : Int) n = ((powF c n : Nat) : Int)
  | 0 => rfl
  | n + 1 => by rw [powN, powF_eq c n, powF]; simp
def pwF : Nat → Nat
  | 0 => 1
  | n + 1 => pwF n * 65536
theorem pwF_eq : ∀ n, pw n = ((pwF n : Nat) : Int)
  | 0 => rfl
  | n + 1 => by rw [pw, pwF_eq n, pwF]; simp
def rootF (lim power : Nat) : Nat → Nat → Nat
  | 0, acc => acc
  | b + 1, acc => forceN (acc + 2 ^ b) fun c => bif Nat.ble (powF c power) lim then rootF lim power b c else rootF lim power b acc
theorem rootF_eq (p power : Nat) : ∀ (b : Nat) (acc : Nat), b ≤ 36 → ((acc : Nat) : Int) = rootR p power (36 - b) → ((rootF (p * pwF (2 * power)) power b acc : Nat) : Int) = rootR p power 36
  | 0, acc, _, h => h
  | b + 1, acc, hb, h => by
    rw [rootF, forceN_eq]
    have e1 : 36 - b = (36 - (b + 1)) + 1 := by omega
    have e2 : 35 - (36 - (b + 1)) = b := by omega
    have hst : rootR p power (36 - b) = if powN (rootR p power (36 - (b + 1)) + 2 ^ b) power ≤ (p : Int) * pw (2 * power) then rootR p power (36 - (b + 1)) + 2 ^ b else rootR p power (36 - (b + 1)) := by
      rw [e1, rootR, e2]
    rw [← h] at hst
    have ec : ((acc : Nat) : Int) + 2 ^ b = ((acc + 2 ^ b : Nat) : Int) := by simp
    rw [ec, powF_eq, pwF_eq] at hst
    have el : (p : Int) * ((pwF (2 * power) : Nat) : Int) = ((p * pwF (2 * power) : Nat) : Int) := by simp
    rw [el] at hst
    by_cases hc : powF (acc + 2 ^ b) power ≤ p * pwF (2 * power)
    · rw [if_pos (by omega)] at hst
      rw [Nat.ble_eq_true_of_le hc]
      exact rootF_eq p power b (acc + 2 ^ b) (by omega) hst.symm
    · rw [if_neg (by omega)] at hst
      rw [show Nat.ble (powF (acc + 2 ^ b) power) (p * pwF (2 * power)) = false by
        cases hq : Nat.ble (powF (acc + 2 ^ b) power) (p * pwF (2 * power))
        · rfl
        · exact absurd (Nat.le_of_ble_eq_true hq) hc]
      exact rootF_eq p power b acc (by omega) hst.symm
def rootsF (power : Nat) : Nat → List Nat
  | 0 => []
  | p + 1 => bif (Nat.ble 2 p && pB p p) then rootsF power p ++ [forceN (rootF (p * pwF (2 * power)) power 36 0) (fun x => x % 4294967296)] else rootsF power p
theorem rootsF_eq (power : Nat) : ∀ p, rootsL power p = (rootsF power p).map fun n : Nat => (n : Int)
  | 0 => rfl
  | p + 1 => by
    rw [rootsL, rootsF, rootsF_eq power p, forceN_eq]
    have hr := rootF_eq p power 36 0 (by omega) rfl
    by_cases h2 : 2 ≤ p
    · have hb : Nat.ble 2 p = true := Nat.ble_eq_true_of_le h2
      cases hq : pB p p
      · rw [if_neg (by simp), hb]; rfl
      · rw [if_pos ⟨h2, rfl⟩, hb, ← hr]
        simp
    · rw [if_neg (by omega), show Nat.ble 2 p = false by
        cases hq : Nat.ble 2 p
        · rfl
        · exact absurd (Nat.le_of_ble_eq_true hq) h2]
      rfl
theorem roots2 : rootsF 2 20 = [1779033703, 3144134277, 1013904242, 2773480762, 1359893119, 2600822924, 528734635, 1541459225] := by kernel_rfl
theorem roots3 : rootsF 3 312 = kList := by kernel_rfl
end Go.Proofs.YtaojifgbnllebaaDoor
