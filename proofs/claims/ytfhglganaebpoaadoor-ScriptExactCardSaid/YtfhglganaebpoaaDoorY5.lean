/- Parse and Bytes told at once; numbers that are bytes. -/
import Derived.Test.YtfhglganaebpoaaDoorS4
namespace Go.Proofs.YtfhglganaebpoaaDoor
open Go.RowKit

theorem parse_any (F : Nat → Int) (v : Value) (n : Nat) (w : World) (hv : Sl .u8 w v n F) (hF : ∀ i, i < n → 0 ≤ F i ∧ F i < 256) :
    Calls Tryd.prog 9 #[v] w fun ev w' => ∃ p k q z, ev = .returned (.tuple #[.slice p k q, .int .i64 z]) ∧ (n ≤ 4000 → z = 0 ∧ k = n / 5 ∧ Ss w' (.slice p k q) k F) ∧ (4000 < n → z = 2 ∧ k = 0) ∧ Below w.heap.size w w' := by
  by_cases h : n ≤ 4000
  · refine (parse_ok F v n (n / 5) w hv hF h rfl).mono ?_
    rintro ev w' ⟨rfl, o, b⟩
    exact ⟨_, _, _, _, rfl, fun _ => ⟨rfl, rfl, ss_of_owns o⟩, fun h' => absurd h (by omega), b⟩
  · obtain ⟨p, c, rfl, h1, h2⟩ := hv.shape
    refine (parse_long p n c w (by omega) (Nat.le_trans h1 h2)).mono ?_
    rintro ev w' ⟨rfl, rfl⟩
    exact ⟨_, _, _, _, rfl, fun h' => absurd h' h, fun _ => ⟨rfl, rfl⟩, Below.refl _ _⟩
theorem byE_zero {F : Nat → Int} {n : Nat} (h : byE F n = 0) : okS F n = true ∧ n ≤ 800 := by
  unfold byE at h
  cases ho : okS F n with
  | false => simp [ho] at h
  | true =>
    by_cases h8 : 800 < n
    · simp [ho, h8] at h
    · exact ⟨rfl, by omega⟩
theorem bytes_any (F : Nat → Int) (v : Value) (n : Nat) (e : Addr) (w : World) (hG : Glob w e) (hv : Ss w v n F) :
    Calls Tryd.prog 10 #[v] w fun ev w' => ∃ p k q, ev = .returned (.tuple #[.slice p k q, .int .i64 (byE F n)]) ∧ (byE F n = 0 → k = n * 5 ∧ Sl .u8 w' (.slice p k q) k F) ∧ (byE F n ≠ 0 → k = 0) ∧ Below w.heap.size w w' := by
  by_cases h : byE F n = 0
  · refine (bytes_ok F v n e w hG hv (byE_zero h).1 (byE_zero h).2).mono ?_
    rintro ev w' ⟨g, rfl, o, b⟩
    exact ⟨_, _, _, by rw [h], fun _ => ⟨rfl, sl_of_owns o⟩, fun h' => absurd h h', b⟩
  · refine (bytes_bad F v n e w hG hv h).mono ?_
    rintro ev w' ⟨rfl, b⟩
    exact ⟨_, _, _, rfl, fun h' => absurd h' h, fun _ => rfl, b⟩
/-- The first j numbers are bytes. -/
def okN (F : Nat → Int) : Nat → Bool
  | 0 => true
  | j + 1 => okN F j && inB (F j) 0 255
theorem okN_okS (F : Nat → Int) (m : Nat) : okN F (m * 5) = okS F m := by
  induction m with
  | zero => rfl
  | succ m ih =>
    rw [Nat.succ_mul]
    show okN F (m * 5 + 1 + 1 + 1 + 1 + 1) = _
    simp only [okN, okS, ih, byB, stp, Bool.and_assoc]
/-- The page's answer so far. -/
def whyN (F : Nat → Int) (j : Nat) : Int := if okN F j then 0 else 1
theorem whyN_true {F : Nat → Int} {j : Nat} (h : inB (F j) 0 255 = true) : whyN F (j + 1) = whyN F j := by simp [whyN, okN, h]
theorem whyN_false {F : Nat → Int} {j : Nat} (h : inB (F j) 0 255 = false) : whyN F (j + 1) = 1 := by simp [whyN, okN, h]
/-- A number's last byte. -/
def lowB (F : Nat → Int) (j : Nat) : Int := IntKind.u8.wrap (F j)
theorem lowB_ok {F : Nat → Int} {m : Nat} (h : okS F m = true) (j : Nat) (hj : j < m * 5) : lowB F j = F j := by
  obtain ⟨a0, a1, a2, a3, a4⟩ := byB_stp (okS_get h (j / 5) (by omega))
  have hi5 : j = j / 5 * 5 + j % 5 := by omega
  have h5 : j % 5 < 5 := Nat.mod_lt _ (by omega)
  have : 0 ≤ F j ∧ F j ≤ 255 := by
    rw [hi5]
    generalize j % 5 = r at h5
    match r, h5 with
    | 0, _ => rw [Nat.add_zero]; exact a0
    | 1, _ => exact a1
    | 2, _ => exact a2
    | 3, _ => exact a3
    | 4, _ => exact a4
  unfold lowB
  rw [IntKind.wrap_u8]
  omega
end Go.Proofs.YtfhglganaebpoaaDoor
