/- Plain numbers: digits of 16 bits, what they are worth. -/
import Derived.WalkKit
namespace Go.Proofs.YtaojifgbnllebaaDoor

def pw : Nat → Int
  | 0 => 1
  | n + 1 => pw n * 65536
theorem pw_pos : ∀ n, 0 < pw n
  | 0 => by decide
  | n + 1 => by have := pw_pos n; unfold pw; omega
theorem pw_add (m : Nat) : ∀ n, pw (m + n) = pw m * pw n
  | 0 => by simp [pw]
  | n + 1 => by
    show pw (m + n) * 65536 = pw m * (pw n * 65536)
    rw [pw_add m n, Int.mul_assoc]
theorem pw_le {m n : Nat} (h : m ≤ n) : pw m ≤ pw n := by
  induction n with
  | zero => obtain rfl : m = 0 := by omega
            exact Int.le_refl _
  | succ n ih =>
    by_cases e : m = n + 1
    · subst e; exact Int.le_refl _
    · have := ih (by omega)
      have := pw_pos n
      show pw m ≤ pw n * 65536
      omega
theorem pw_lt {m n : Nat} (h : pw m < pw n) : m < n := by
  rcases Nat.lt_or_ge m n with h' | h'
  · exact h'
  · have := pw_le h'; omega

/-- What n digits are worth. -/
def val (F : Nat → Int) : Nat → Int
  | 0 => 0
  | n + 1 => val F n + F n * pw n
def Dig (F : Nat → Int) (n : Nat) : Prop := ∀ j, j < n → 0 ≤ F j ∧ F j < 65536
theorem val_congr {F G : Nat → Int} : ∀ {n : Nat}, (∀ j, j < n → F j = G j) → val F n = val G n
  | 0, _ => rfl
  | n + 1, h => by rw [val, val, val_congr (fun j hj => h j (by omega)), h n (by omega)]
theorem val_upd (F : Nat → Int) (k : Nat) (v : Int) : ∀ n, k < n → val (fun j => if j = k then v else F j) n = val F n + (v - F k) * pw k
  | 0, h => by omega
  | n + 1, h => by
    show val (fun j => if j = k then v else F j) n + (if n = k then v else F n) * pw n = val F n + F n * pw n + (v - F k) * pw k
    by_cases e : n = k
    · subst e
      rw [if_pos rfl, val_congr (G := F) (fun j hj => if_neg (by omega)), Int.sub_mul]
      omega
    · rw [if_neg e, val_upd F k v n (by omega)]
      omega
theorem val_bd {F : Nat → Int} : ∀ {n : Nat}, Dig F n → 0 ≤ val F n ∧ val F n < pw n
  | 0, _ => by simp [val, pw]
  | n + 1, h => by
    have ih := val_bd (F := F) (n := n) (fun j hj => h j (by omega))
    have hn := h n (by omega)
    have hp := pw_pos n
    show 0 ≤ val F n + F n * pw n ∧ val F n + F n * pw n < pw n * 65536
    have h1 : 0 ≤ F n * pw n := Int.mul_nonneg hn.1 (by omega)
    have h2 : F n * pw n ≤ 65535 * pw n := Int.mul_le_mul_of_nonneg_right (by omega) (by omega)
    omega
theorem val_mono {F : Nat → Int} {n : Nat} (hF : ∀ j, j < n → 0 ≤ F j) : ∀ {m : Nat}, m ≤ n → val F m ≤ val F n := by
  induction n with
  | zero => intro m h; obtain rfl : m = 0 := by omega
            exact Int.le_refl _
  | succ n ih =>
    intro m h
    by_cases e : m = n + 1
    · subst e; exact Int.le_refl _
    · have := ih (fun j hj => hF j (by omega)) (m := m) (by omega)
      have hp := pw_pos n
      have := Int.mul_nonneg (hF n (by omega)) (Int.le_of_lt hp)
      show val F m ≤ val F n + F n * pw n
      omega
theorem val_ge {F : Nat → Int} {n k : Nat} (hF : ∀ j, j < n → 0 ≤ F j) (hk : k < n) : F k * pw k ≤ val F n := by
  have h1 := val_mono hF (m := k + 1) (by omega)
  have h2 := val_mono (n := k) (fun j hj => hF j (by omega)) (m := 0) (by omega)
  have : val F (k + 1) = val F k + F k * pw k := rfl
  have : val F 0 = 0 := rfl
  omega
/-- The carry never leaves the row. -/
theorem carry_fits {F : Nat → Int} {N q M : Nat} {V : Int} (hF : ∀ j, j < N → 0 ≤ F j) (hq : q < N) (hV : val F N = V) (hlt : V < pw M) (hb : 65536 ≤ F q) : q + 1 < M + 1 := by
  have h1 := val_ge hF hq
  have hp := pw_pos q
  have h2 : 65536 * pw q ≤ F q * pw q := Int.mul_le_mul_of_nonneg_right hb (by omega)
  have h3 : pw (q + 1) < pw M := by show pw q * 65536 < pw M; omega
  have := pw_lt h3
  omega
/-- Two digits turned by a carry. -/
def carried (F : Nat → Int) (q : Nat) : Nat → Int := fun j => if j = q then F q % 65536 else if j = q + 1 then F (q + 1) + F q / 65536 else F j
theorem val_carried (F : Nat → Int) (q N : Nat) (h : q + 1 < N) : val (carried F q) N = val F N := by
  have h1 := val_upd (fun j => if j = q + 1 then F (q + 1) + F q / 65536 else F j) q (F q % 65536) N (by omega)
  have h2 := val_upd F (q + 1) (F (q + 1) + F q / 65536) N h
  have e : val (carried F q) N = val (fun j => if j = q then F q % 65536 else (fun j => if j = q + 1 then F (q + 1) + F q / 65536 else F j) j) N := rfl
  rw [e, h1, h2]
  rw [if_neg (show ¬ q = q + 1 by omega)]
  have e2 : pw (q + 1) = pw q * 65536 := rfl
  rw [e2]
  have e3 : F (q + 1) + F q / 65536 - F (q + 1) = F q / 65536 := by omega
  rw [e3]
  have e4 : F q % 65536 - F q = -(F q / 65536 * 65536) := by omega
  rw [e4, Int.neg_mul, Int.mul_assoc, Int.mul_comm 65536 (pw q)]
  omega
/-- The product so far is less than its room. -/
theorem prod_bd {A Bf : Nat → Int} {la lb i k : Nat} (hA : Dig A la) (hB : Dig Bf lb) (hi : i < la) (hk : k ≤ lb) : val A i * val Bf lb + A i * pw i * val Bf k < pw (la + lb) := by
  have a1 := val_bd (F := A) (n := i + 1) (fun j hj => hA j (by omega))
  have b1 := val_bd hB
  have ai := hA i hi
  have pi := pw_pos i
  have m1 : val Bf k ≤ val Bf lb := val_mono (fun j hj => (hB j hj).1) hk
  have t0 : 0 ≤ A i * pw i := Int.mul_nonneg ai.1 (by omega)
  have t1 : A i * pw i * val Bf k ≤ A i * pw i * val Bf lb := Int.mul_le_mul_of_nonneg_left m1 t0
  have e : val A (i + 1) = val A i + A i * pw i := rfl
  have t2 : val A i * val Bf lb + A i * pw i * val Bf lb = val A (i + 1) * val Bf lb := by rw [e, Int.add_mul]
  have p1 := pw_pos lb
  have p2 := pw_pos (i + 1)
  have t3 : val A (i + 1) * val Bf lb ≤ val A (i + 1) * pw lb := Int.mul_le_mul_of_nonneg_left (by omega) a1.1
  have t4 : val A (i + 1) * pw lb < pw (i + 1) * pw lb := Int.mul_lt_mul_of_pos_right a1.2 p1
  have t5 : pw (i + 1) * pw lb ≤ pw (la + lb) := by rw [← pw_add]; exact pw_le (by omega)
  omega
/-- Which of two rows is worth more: the first digit that parts them, from above. -/
theorem val_eq_above {F G : Nat → Int} {i : Nat} : ∀ {n : Nat}, i ≤ n → (∀ j, i ≤ j → j < n → F j = G j) → val F n - val G n = val F i - val G i
  | 0, h, _ => by obtain rfl : i = 0 := by omega
                  omega
  | n + 1, h, he => by
    by_cases e : i = n + 1
    · subst e; rfl
    · have ih := val_eq_above (F := F) (G := G) (i := i) (n := n) (by omega) (fun j h1 h2 => he j h1 (by omega))
      have hn := he n (by omega) (by omega)
      show val F n + F n * pw n - (val G n + G n * pw n) = _
      rw [hn]; omega
theorem val_cmp {F G : Nat → Int} {i n : Nat} (hF : Dig F n) (hG : Dig G n) (hi : i < n) (he : ∀ j, i < j → j < n → F j = G j) (hne : F i ≠ G i) : (val F n ≤ val G n) ↔ F i < G i := by
  have h := val_eq_above (F := F) (G := G) (i := i + 1) (n := n) (by omega) (fun j h1 h2 => he j (by omega) h2)
  have e1 : val F (i + 1) = val F i + F i * pw i := rfl
  have e2 : val G (i + 1) = val G i + G i * pw i := rfl
  have b1 := val_bd (F := F) (n := i) (fun j hj => hF j (by omega))
  have b2 := val_bd (F := G) (n := i) (fun j hj => hG j (by omega))
  have p := pw_pos i
  constructor
  · intro hle
    rcases Int.lt_or_gt_of_ne hne with h1 | h1
    · exact h1
    · have : (G i + 1) * pw i ≤ F i * pw i := Int.mul_le_mul_of_nonneg_right (by omega) (by omega)
      rw [Int.add_mul] at this
      omega
  · intro hlt
    have : (F i + 1) * pw i ≤ G i * pw i := Int.mul_le_mul_of_nonneg_right (by omega) (by omega)
    rw [Int.add_mul] at this
    omega
/-- A nought ahead of all digits. -/
theorem val_shift (F : Nat → Int) : ∀ n, val (fun j => if j = 0 then 0 else F (j - 1)) (n + 1) = val F n * 65536
  | 0 => by simp [val]
  | n + 1 => by
    show val (fun j => if j = 0 then 0 else F (j - 1)) (n + 1) + (if n + 1 = 0 then 0 else F (n + 1 - 1)) * pw (n + 1) = (val F n + F n * pw n) * 65536
    rw [val_shift F n, if_neg (by omega), Int.add_mul]
    show _ + F n * (pw n * 65536) = _
    rw [Int.mul_assoc]
end Go.Proofs.YtaojifgbnllebaaDoor
