/- What the calls of layer 4 answer, in one word each. -/
import Derived.Test.YtkmljmfonhohbaaB3
import Derived.Test.YtkmljmfonhohbaaK2
namespace Go.Proofs.Ytkmljmfonhohbaa
open Go.RowKit

theorem owns_below {e : TypeId} {w w' : World} {B n : Nat} {v : Value} {L : List Value} (h : w.ownsRow B e 1 v n L) (hb : Below w.heap.size w w') : w'.ownsRow B e 1 v n L := by
  rcases h.2 with h2 | ⟨g, cap, cur, h1, h2, hg, h3⟩
  · exact ⟨h.1, .inl h2⟩
  · exact ⟨h.1, .inr ⟨g, cap, cur, h1, h2, (hb.block g (Array.getElem?_eq_some_iff.1 hg).1).trans hg, h3⟩⟩
theorem vL_append (k : IntKind) (F G : Nat → Int) (m n : Nat) : vL k F m ++ vL k G n = vL k (fun i => if i < m then F i else G (i - m)) (m + n) := by
  apply List.ext_getElem?
  intro t
  by_cases h : t < m
  · rw [List.getElem?_append_left (by rw [vL_length]; exact h), vL_get _ _ _ _ h, vL_get _ _ _ _ (by omega), if_pos h]
  · rw [List.getElem?_append_right (by rw [vL_length]; omega), vL_length]
    by_cases h2 : t < m + n
    · rw [vL_get _ _ _ _ (by omega), vL_get _ _ _ _ h2, if_neg h]
    · rw [List.getElem?_eq_none (by rw [vL_length]; omega), List.getElem?_eq_none (by rw [vL_length]; omega)]
theorem vL_put (F : Nat → Int) (m S : Nat) (n : Int) : vL .u8 F m ++ vL .u8 (bF S n 0) S = vL .u8 (putF F m S n) (m + S) := by
  rw [vL_append]
  apply vL_congr
  intro j _
  simp [putF, bF]
/-- Put's answer. -/
def PR (F : Nat → Int) (m : Nat) (s n : Int) (w : World) (x : Value) (c : Int) : Prop :=
  (¬ (IsZ s ∧ IsNum s n) ∧ c = 1 ∧ x = .slice none 0 0) ∨ (∃ S : Nat, s = S ∧ IsZ S ∧ IsNum S n ∧ c = 0 ∧ Sl .u8 w x (m + S) (putF F m S n))
theorem PR.below {F : Nat → Int} {m : Nat} {s n : Int} {w w' : World} {x : Value} {c : Int} (h : PR F m s n w x c) (hb : Below w.heap.size w w') : PR F m s n w' x c := by
  rcases h with h | ⟨S, h1, h2, h3, h4, h5⟩
  · exact .inl h
  · exact .inr ⟨S, h1, h2, h3, h4, h5.below hb (Nat.le_refl _)⟩
theorem put_all (F : Nat → Int) (v : Value) (m : Nat) (s n : Int) (w : World) (hv : Sl .u8 w v m F) (hm : m ≤ 100000) :
    Calls Try.prog 9 #[v, .int .i64 s, .int .i64 n] w fun e w' => ∃ x c, e = .returned (.tuple #[x, .int .i64 c]) ∧ PR F m s n w' x c ∧ Below w.heap.size w w' := by
  by_cases h : IsZ s ∧ IsNum s n
  · obtain ⟨hs, hn⟩ := h
    obtain ⟨S, rfl⟩ : ∃ S : Nat, s = S := ⟨s.toNat, by rcases hs with h | h | h | h <;> omega⟩
    refine (put_is F v m S n hs hn w hv hm).mono ?_
    rintro e w' ⟨x, rfl, o, b⟩
    exact ⟨x, 0, rfl, .inr ⟨S, rfl, hs, hn, rfl, sl_of_owns o⟩, b⟩
  · refine (put_err v s n h w).mono ?_
    rintro e w' ⟨rfl, rfl⟩
    exact ⟨_, _, rfl, .inl ⟨h, rfl, rfl⟩, Below.refl _ _⟩

/-- Get's answer: why not. -/
def gf (F : Nat → Int) (m : Nat) (a s : Int) : Int := if IsZ s then if Here m a s then if num F a.toNat s.toNat < 4611686018427387904 then 0 else 1 else 2 else 1
def gy (F : Nat → Int) (m : Nat) (a s : Int) : Int := if gf F m a s = 0 then num F a.toNat s.toNat else 0
def gn (F : Nat → Int) (m : Nat) (a s : Int) : Int := if gf F m a s = 0 then a + s else 0
theorem get_all (F : Nat → Int) (v : Value) (m : Nat) (a s : Int) (w : World) (hv : Sl .u8 w v m F) (hf : ∀ i, i < m → 0 ≤ F i ∧ F i < 256) (hm : m ≤ 100000) :
    Calls Try.prog 10 #[v, .int .i64 a, .int .i64 s] w fun e w' => e = .returned (.tuple #[.int .i64 (gy F m a s), .int .i64 (gn F m a s), .int .i64 (gf F m a s)]) ∧ w' = w := by
  unfold gy gn
  by_cases hs : IsZ s
  · by_cases hh : Here m a s
    · obtain ⟨S, rfl⟩ : ∃ S : Nat, s = S := ⟨s.toNat, by rcases hs with h | h | h | h <;> omega⟩
      obtain ⟨A, rfl⟩ : ∃ A : Nat, a = A := ⟨a.toNat, by have := hh.1; omega⟩
      refine (get_is F v m A S hs w hv hf (by have := hh.2; omega)).mono ?_
      rintro e w' ⟨rfl, rfl⟩
      refine ⟨?_, rfl⟩
      unfold gf getA
      rw [if_pos hs, if_pos hh, Int.toNat_natCast, Int.toNat_natCast]
      by_cases hx : num F A S < 4611686018427387904
      · simp [hx]
      · simp [hx]
    · obtain ⟨p, cap, rfl, _, hc⟩ := hv.shape
      refine (get_len p m cap a s hs (by unfold maxLen; omega) hh w).mono ?_
      rintro e w' ⟨rfl, rfl⟩
      simp [gf, hs, hh]
  · refine (get_size v a s hs w).mono ?_
    rintro e w' ⟨rfl, rfl⟩
    simp [gf, hs]

/-- PutList's answer. -/
def LR (F G : Nat → Int) (m k : Nat) (w : World) (z : Value) (c : Int) : Prop :=
  (255 < k ∧ c = 2 ∧ z = .slice none 0 0) ∨ (k ≤ 255 ∧ (¬ ∀ i, i < k → IsB (G i)) ∧ c = 1 ∧ z = .slice none 0 0) ∨ (k ≤ 255 ∧ (∀ i, i < k → IsB (G i)) ∧ c = 0 ∧ Sl .u8 w z (m + 1 + k) (listF F m k G))
theorem LR.below {F G : Nat → Int} {m k : Nat} {w w' : World} {x : Value} {c : Int} (h : LR F G m k w x c) (hb : Below w.heap.size w w') : LR F G m k w' x c := by
  rcases h with h | h | ⟨h1, h2, h3, h4⟩
  · exact .inl h
  · exact .inr (.inl h)
  · exact .inr (.inr ⟨h1, h2, h3, h4.below hb (Nat.le_refl _)⟩)
theorem putl_all (F G : Nat → Int) (v l : Value) (m k : Nat) (w : World) (hv : Sl .u8 w v m F) (hl : Sl .i64 w l k G) (hm : m ≤ 100000) :
    Calls Try.prog 11 #[v, l] w fun e w' => ∃ x c, e = .returned (.tuple #[x, .int .i64 c]) ∧ LR F G m k w' x c ∧ Below w.heap.size w w' := by
  by_cases h : 255 < k
  · obtain ⟨p, cap, rfl, h1, h2⟩ := hl.shape
    refine (putl_long v p k cap h (by omega) w).mono ?_
    rintro e w' ⟨rfl, rfl⟩
    exact ⟨_, _, rfl, .inl ⟨h, rfl, rfl⟩, Below.refl _ _⟩
  · by_cases hg : ∀ i, i < k → IsB (G i)
    · refine (putl_is F G v l m k w hv hl hm (by omega) hg).mono ?_
      rintro e w' ⟨x, rfl, o, b⟩
      exact ⟨x, 0, rfl, .inr (.inr ⟨by omega, hg, rfl, sl_of_owns o⟩), b⟩
    · refine (putl_bad F G v l m k w hv hl hm (by omega) hg).mono ?_
      rintro e w' ⟨rfl, b⟩
      exact ⟨_, _, rfl, .inr (.inl ⟨by omega, hg, rfl, rfl⟩), b⟩

/-- The page's list: the bytes, the length, the values, each as a byte. -/
def lstF (F : Nat → Int) (m k : Nat) (G : Nat → Int) (i : Nat) : Int := if i < m then F i else if i = m then (k : Int) % 256 else G (i - m - 1) % 256
theorem lstF_start (F G : Nat → Int) (m k : Nat) : vL .u8 F m ++ [.int .u8 ((k : Int) % 256)] = vL .u8 (lstF F m k G) (m + 1) := by
  rw [vL_succ]
  congr 1
  · exact vL_congr fun j hj => by rw [lstF, if_pos hj]
  · simp [lstF]
theorem lstF_next (F G : Nat → Int) (m k j : Nat) : vL .u8 (lstF F m k G) (m + 1 + j) ++ [.int .u8 (G j % 256)] = vL .u8 (lstF F m k G) (m + 1 + (j + 1)) := by
  rw [← Nat.add_assoc, vL_succ]
  congr 1
  rw [lstF, if_neg (by omega), if_neg (by omega), show m + 1 + j - m - 1 = j by omega]
theorem lstF_is (F G : Nat → Int) (m k : Nat) (hk : k ≤ 255) (hg : ∀ i, i < k → IsB (G i)) (i : Nat) (hi : i < m + 1 + k) : lstF F m k G i = listF F m k G i := by
  unfold lstF listF
  split
  · rfl
  · split
    · omega
    · have := hg (i - m - 1) (by omega)
      unfold IsB at this
      omega
/-- Why a list is not put, of its first values. -/
def wy (G : Nat → Int) : Nat → Int
  | 0 => 0
  | j + 1 => if IsB (G j) then wy G j else 1
theorem wy_ok (G : Nat → Int) : ∀ j, (∀ i, i < j → IsB (G i)) → wy G j = 0
  | 0, _ => rfl
  | j + 1, h => by rw [wy, if_pos (h j (by omega)), wy_ok G j (fun i hi => h i (by omega))]
theorem wy_01 (G : Nat → Int) : ∀ j, wy G j = 0 ∨ wy G j = 1
  | 0 => .inl rfl
  | j + 1 => by
    rw [wy]
    split
    · exact wy_01 G j
    · exact .inr rfl
theorem wy_bad (G : Nat → Int) : ∀ j, (¬ ∀ i, i < j → IsB (G i)) → wy G j = 1
  | 0, h => absurd (fun i hi => by omega) h
  | j + 1, h => by
    rw [wy]
    split
    · rename_i hb
      refine wy_bad G j fun q => h fun i hi => ?_
      by_cases e : i < j
      · exact q i e
      · obtain rfl : i = j := by omega
        exact hb
    · rfl

/-- GetList's answer. -/
def GR (F : Nat → Int) (m : Nat) (a : Int) (w : World) (v : Value) (t c : Int) : Prop :=
  ((¬ Here m a 1 ∨ ∃ A : Nat, a = A ∧ A < m ∧ ¬ Here m ((A : Int) + 1) (F A)) ∧ v = .slice none 0 0 ∧ t = 0 ∧ c = 2) ∨
  ∃ A N : Nat, a = A ∧ A < m ∧ F A = N ∧ A + 1 + N ≤ m ∧ t = (A : Int) + 1 + N ∧ c = 0 ∧ Sl .i64 w v N (fun i => F (A + 1 + i))
theorem GR.below {F : Nat → Int} {m : Nat} {a : Int} {w w' : World} {x : Value} {t c : Int} (h : GR F m a w x t c) (hb : Below w.heap.size w w') : GR F m a w' x t c := by
  rcases h with h | ⟨A, N, h1, h2, h3, h4, h5, h6, h7⟩
  · exact .inl h
  · exact .inr ⟨A, N, h1, h2, h3, h4, h5, h6, h7.below hb (Nat.le_refl _)⟩
theorem getl_all (F : Nat → Int) (v : Value) (m : Nat) (a : Int) (w : World) (hv : Sl .u8 w v m F) (hf : ∀ i, i < m → 0 ≤ F i ∧ F i < 256) (hm : m ≤ 100000) :
    Calls Try.prog 12 #[v, .int .i64 a] w fun e w' => ∃ x t c, e = .returned (.tuple #[x, .int .i64 t, .int .i64 c]) ∧ GR F m a w' x t c ∧ Below w.heap.size w w' := by
  by_cases h : Here m a 1
  · obtain ⟨A, rfl⟩ : ∃ A : Nat, a = A := ⟨a.toNat, by have := h.1; omega⟩
    have hA : A < m := by have := h.2; omega
    by_cases h2 : Here m ((A : Int) + 1) (F A)
    · obtain ⟨N, hN⟩ : ∃ N : Nat, F A = N := ⟨(F A).toNat, by have := hf A hA; omega⟩
      rw [hN] at h2
      have h3 : A + 1 + N ≤ m := by have := h2.2; omega
      refine (getl_is F v m A N w hv hf hA (by omega) hN h3).mono ?_
      rintro e w' ⟨x, rfl, o, b⟩
      exact ⟨x, _, _, rfl, .inr ⟨A, N, rfl, hA, hN, h3, rfl, rfl, sl_of_owns o⟩, b⟩
    · refine (getl_cut F v m A w hv hf hA (by omega) h2).mono ?_
      rintro e w' ⟨rfl, b⟩
      exact ⟨_, _, _, rfl, .inl ⟨.inr ⟨A, rfl, hA, h2⟩, rfl, rfl, rfl⟩, b⟩
  · obtain ⟨p, cap, rfl, _, hc⟩ := hv.shape
    refine (getl_at p m cap a (by unfold maxLen; omega) h w).mono ?_
    rintro e w' ⟨rfl, b⟩
    exact ⟨_, _, _, rfl, .inl ⟨.inl h, rfl, rfl, rfl⟩, b⟩
end Go.Proofs.Ytkmljmfonhohbaa
