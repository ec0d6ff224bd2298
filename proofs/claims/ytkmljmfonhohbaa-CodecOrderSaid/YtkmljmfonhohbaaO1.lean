/- Bytes as numbers, in order. -/
import Derived.Test.YtkmljmfonhohbaaC1
import Derived.Test.YtkmljmfonhohbaaB1
import Derived.Laws.IdiomStrings
namespace Go.Proofs.Ytkmljmfonhohbaa
open Go.RowKit
/-- The bytes F from a place on. -/
def bl (F : Nat → Int) (a : Nat) : Nat → List UInt8
  | 0 => []
  | k + 1 => UInt8.ofNat (F a).toNat :: bl F (a + 1) k
theorem bl_length (F : Nat → Int) : ∀ k a, (bl F a k).length = k
  | 0, _ => rfl
  | k + 1, a => by rw [bl, List.length_cons, bl_length F k (a + 1)]
theorem bl_get (F : Nat → Int) (hF : ∀ i, 0 ≤ F i ∧ F i < 256) : ∀ k a j (h : j < (bl F a k).length), (((bl F a k)[j]).toNat : Int) = F (a + j)
  | 0, _, j, h => by simp [bl] at h
  | k + 1, a, 0, _ => by
    have := hF a
    simp [bl]
    omega
  | k + 1, a, j + 1, h => by
    have e : (bl F a (k + 1))[j + 1] = (bl F (a + 1) k)[j]'(by simpa [bl] using h) := by simp [bl]
    rw [e, bl_get F hF k (a + 1) j]
    congr 1
    omega
theorem num_head (F : Nat → Int) (a : Nat) : ∀ k, num F a (k + 1) = F a * 256 ^ k + num F (a + 1) k
  | 0 => by simp [num]
  | k + 1 => by
    rw [num, num_head F a k, num, Int.pow_succ, show a + (k + 1) = a + 1 + k by omega, Int.add_mul, Int.mul_assoc, Int.add_assoc]
theorem num_in (F : Nat → Int) (hF : ∀ i, 0 ≤ F i ∧ F i < 256) (a k : Nat) : 0 ≤ num F a k ∧ num F a k < 256 ^ k := num_bd F a k (fun _ _ => hF _)
theorem ofNat_lt (x y : Int) (hx : 0 ≤ x ∧ x < 256) (hy : 0 ≤ y ∧ y < 256) : (UInt8.ofNat x.toNat < UInt8.ofNat y.toNat) ↔ x < y := by
  rw [UInt8.lt_iff_toNat_lt]
  simp
  omega
theorem ofNat_eq (x y : Int) (hx : 0 ≤ x ∧ x < 256) (hy : 0 ≤ y ∧ y < 256) : (UInt8.ofNat x.toNat = UInt8.ofNat y.toNat) ↔ x = y := by
  rw [← UInt8.toNat_inj]
  simp
  omega
theorem lex_lt (x y r s P : Int) (hr : 0 ≤ r ∧ r < P) (hs : 0 ≤ s ∧ s < P) : x * P + r < y * P + s ↔ x < y ∨ (x = y ∧ r < s) := by
  constructor
  · intro h
    by_cases h1 : x < y
    · exact .inl h1
    · by_cases h2 : x = y
      · subst h2
        exact .inr ⟨rfl, by omega⟩
      · have := Int.mul_le_mul_of_nonneg_right (show y + 1 ≤ x by omega) (show 0 ≤ P by omega)
        rw [Int.add_mul] at this
        omega
  · rintro (h | ⟨rfl, h⟩)
    · have := Int.mul_le_mul_of_nonneg_right (show x + 1 ≤ y by omega) (show 0 ≤ P by omega)
      rw [Int.add_mul] at this
      omega
    · omega
theorem lex_eq (x y r s P : Int) (hr : 0 ≤ r ∧ r < P) (hs : 0 ≤ s ∧ s < P) : x * P + r = y * P + s ↔ x = y ∧ r = s := by
  have h1 := lex_lt x y r s P hr hs
  have h2 := lex_lt y x s r P hs hr
  omega
theorem bl_less (F G : Nat → Int) (hF : ∀ i, 0 ≤ F i ∧ F i < 256) (hG : ∀ i, 0 ≤ G i ∧ G i < 256) : ∀ k a, Op.bytesLess (bl F a k) (bl G a k) = decide (num F a k < num G a k)
  | 0, a => by simp [bl, num, Op.bytesLess]
  | k + 1, a => by
    have e0 := lex_lt (F a) (G a) _ _ _ (num_in F hF (a + 1) k) (num_in G hG (a + 1) k)
    rw [num_head, num_head, bl, bl, Op.bytesLess, bl_less F G hF hG k (a + 1)]
    have e1 := ofNat_lt (F a) (G a) (hF a) (hG a)
    have e2 := ofNat_eq (F a) (G a) (hF a) (hG a)
    rw [Bool.eq_iff_iff, decide_eq_true_iff, e0]
    simp [e1, e2]
theorem bl_eq (F G : Nat → Int) (hF : ∀ i, 0 ≤ F i ∧ F i < 256) (hG : ∀ i, 0 ≤ G i ∧ G i < 256) : ∀ k a, (bl F a k == bl G a k) = decide (num F a k = num G a k)
  | 0, a => by simp [bl, num]
  | k + 1, a => by
    have e0 := lex_eq (F a) (G a) _ _ _ (num_in F hF (a + 1) k) (num_in G hG (a + 1) k)
    rw [num_head, num_head, bl, bl, List.cons_beq_cons, bl_eq F G hF hG k (a + 1)]
    have e2 := ofNat_eq (F a) (G a) (hF a) (hG a)
    rw [Bool.eq_iff_iff, decide_eq_true_iff, e0]
    simp [e2]
/-- The string of the bytes that a slice holds. -/
theorem sl_string {w : World} {g n cap : Nat} {F : Nat → Int} (h : Sl .u8 w (.slice (some ⟨g, 0, none⟩) n cap) n F) (hn : 0 < n) (hF : ∀ i, 0 ≤ F i ∧ F i < 256) :
    (convert 22 9 (.slice (some ⟨g, 0, none⟩) n cap)).run Try.prog w = .ok (.string ⟨(bl F 0 n).toArray⟩) w := by
  obtain ⟨b, off, he, _, hc⟩ := h.some hn
  cases he
  have := run_convert_bytes_back (P := Try.prog) w 22 9 5 ⟨g, 0, none⟩ cap (bl F 0 n) Try.underlying22 Try.underlying5 Try.underlying9 (fun j hj => by
    rw [Addr.add_lit, hc j (by rwa [bl_length] at hj), bl_get F hF n 0 j hj, Nat.zero_add])
  rwa [bl_length] at this
end Go.Proofs.Ytkmljmfonhohbaa
