/- Plain facts for the page's Sha; its two tables. -/
import Derived.Test.YtaojifgbnllebaaDoorR7
namespace Go.Proofs.YtaojifgbnllebaaDoor
open Go.RowKit

/-- n words at the head of block g, that may be written. -/
structure R32 (w : World) (g n : Nat) (F : Nat → Int) : Prop where
  lt : g < w.heap.size
  cell : ∀ j : Nat, j < n → w.cell? ⟨g, j, none⟩ = some (.int .u32 (F j))
  frozen : ∀ j : Nat, w.frozen? ⟨g, j, none⟩ = false
theorem R32.below {w w' : World} {g n B : Nat} {F : Nat → Int} (h : R32 w g n F) (hb : Below B w w') (hB : g < B) : R32 w' g n F :=
  ⟨Nat.lt_of_lt_of_le h.lt hb.size, fun j hj => (hb.cell (p := ⟨g, j, none⟩) hB).trans (h.cell j hj), fun j => (hb.frozen (p := ⟨g, j, none⟩) hB).trans (h.frozen j)⟩
theorem R32.congr {w : World} {g n : Nat} {F G : Nat → Int} (h : R32 w g n F) (e : ∀ j, j < n → F j = G j) : R32 w g n G :=
  ⟨h.lt, fun j hj => by rw [h.cell j hj, e j hj], h.frozen⟩
theorem R32.of_owns {w : World} {B n : Nat} {v : Value} {xs : List Value} {F : Nat → Int} (h : w.ownsRow B 33 1 v n xs) (hn : 0 < n) (hx : ∀ j, j < n → xs[j]? = some (.int .u32 (F j))) : ∃ g cap, v = .slice (some ⟨g, 0, none⟩) n cap ∧ B ≤ g ∧ n ≤ cap ∧ cap ≤ maxLen ∧ R32 w g n F := by
  rcases h.2 with ⟨_, h2⟩ | ⟨g, cap, cur, rfl, hb, hg, hc, hm, _, _⟩
  · omega
  · exact ⟨g, cap, rfl, hb, hc, hm, (Array.getElem?_eq_some_iff.1 hg).1, fun j hj => by rw [h.cellAt j (by omega), hx j hj], fun j => h.frozenAt j⟩
theorem R32.set {w : World} {g n : Nat} {F : Nat → Int} (h : R32 w g n F) (k : Nat) (hk : k < n) (v : Int) : R32 (w.setCell ⟨g, k, none⟩ (.int .u32 v)) g n (fun j => if j = k then v else F j) := by
  refine ⟨by simp [h.lt], fun j hj => ?_, fun j => by simpa using h.frozen j⟩
  have hc := h.cell j hj
  have hck := h.cell k hk
  by_cases e : j = k
  · subst e
    simp [go_sem, hck]
  · simp [go_sem, e, hc]
theorem len2 : (rootsL 2 20).length = 8 := by rw [rootsF_eq, roots2]; rfl
theorem len3 : (rootsL 3 312).length = 64 := by rw [rootsF_eq, roots3]; rfl
theorem get2 (j : Nat) (h : j < 8) : ((rootsL 2 20).map (Value.int .u32))[j]? = some (.int .u32 (s0.nth j)) := by
  rw [rootsF_eq, roots2]
  match j, h with
  | 0, _ | 1, _ | 2, _ | 3, _ | 4, _ | 5, _ | 6, _ | 7, _ => rfl
theorem get3 (j : Nat) (h : j < 64) : ((rootsL 3 312).map (Value.int .u32))[j]? = some (.int .u32 (kk j)) := by
  rw [rootsF_eq, roots3]
  have hl : j < kList.length := h
  simp [kk, List.getD, hl]
theorem roots8 (w : World) : Calls Tryd.prog 19 #[.int .i64 8, .int .i64 2] w fun e w' => ∃ g c, e = .returned (.slice (some ⟨g, 0, none⟩) 8 c) ∧ w.heap.size ≤ g ∧ 8 ≤ c ∧ c ≤ maxLen ∧ R32 w' g 8 s0.nth ∧ Below w.heap.size w w' := by
  have h := roots_any 8 2 20 (.inl rfl) (by decide) (by decide) (by decide) len2 w
  refine Calls.mono (show Calls Tryd.prog 19 #[.int .i64 8, .int .i64 2] w _ from h) ?_
  rintro e w' ⟨v, rfl, hown, hb⟩
  obtain ⟨g, c, rfl, h1, h2, h3, h4⟩ := R32.of_owns hown (by decide) get2
  exact ⟨g, c, rfl, h1, h2, h3, h4, hb⟩
theorem roots64 (w : World) : Calls Tryd.prog 19 #[.int .i64 64, .int .i64 3] w fun e w' => ∃ g c, e = .returned (.slice (some ⟨g, 0, none⟩) 64 c) ∧ w.heap.size ≤ g ∧ 64 ≤ c ∧ c ≤ maxLen ∧ R32 w' g 64 kk ∧ Below w.heap.size w w' := by
  have h := roots_any 64 3 312 (.inr rfl) (by decide) (by decide) (by decide) len3 w
  refine Calls.mono (show Calls Tryd.prog 19 #[.int .i64 64, .int .i64 3] w _ from h) ?_
  rintro e w' ⟨v, rfl, hown, hb⟩
  obtain ⟨g, c, rfl, h1, h2, h3, h4⟩ := R32.of_owns hown (by decide) get3
  exact ⟨g, c, rfl, h1, h2, h3, h4, hb⟩

def wL (F : Nat → Int) (n : Nat) : List Value := (List.range n).map fun j => .int .u32 (F j)
theorem wL_succ (F : Nat → Int) (n : Nat) : wL F (n + 1) = wL F n ++ [.int .u32 (F n)] := by simp [wL, List.range_succ]
theorem wL_length (F : Nat → Int) (n : Nat) : (wL F n).length = n := by simp [wL]
theorem wL_get (F : Nat → Int) (n i : Nat) (h : i < n) : (wL F n)[i]? = some (.int .u32 (F i)) := by simp [wL, h]
theorem wL_one (F : Nat → Int) (n : Nat) : ∀ u ∈ wL F n, u.oneCell' = true := by
  intro u hu
  unfold wL at hu
  obtain ⟨j, _, rfl⟩ := List.mem_map.1 hu
  rfl
/-- A word's next byte, put there or added. -/
theorem or_add (a b : Int) (h0 : 0 ≤ a) (h2 : 0 ≤ b) (h3 : b < 256) : bits .or .u32 (a * 256 % 4294967296) b = (a * 256 % 4294967296 + b) % 4294967296 := by
  obtain ⟨x, rfl⟩ := Int.eq_ofNat_of_zero_le h0
  obtain ⟨y, rfl⟩ := Int.eq_ofNat_of_zero_le h2
  have e : (x : Int) * 256 % 4294967296 = ((2 ^ 8 * (x % 16777216) : Nat) : Int) := by omega
  rw [e, bits_or]
  unfold orN
  rw [show 2 ^ 8 * (x % 16777216) % 4294967296 = 2 ^ 8 * (x % 16777216) by omega, show y % 4294967296 = y by omega, ← Nat.two_pow_add_eq_or_of_lt (i := 8) (by omega)]
  omega
theorem bits_or_nonneg (x y : Int) : 0 ≤ bits .or .u32 x y := wrap_u32_nonneg _
theorem wacc_nonneg (bs : Nat → Int) (i : Nat) : ∀ j, 0 ≤ wacc bs i j
  | 0 => Int.le_refl _
  | _ + 1 => bits_or_nonneg _ _
theorem wacc_add (bs : Nat → Int) (hbs : ∀ i, 0 ≤ bs i ∧ bs i < 256) (i j : Nat) : (wacc bs i j * 256 + bs (4 * i + j)) % 4294967296 = wacc bs i (j + 1) := by
  rw [wacc, or_add _ _ (wacc_nonneg bs i j) (hbs _).1 (hbs _).2]
  omega
theorem extW_below (f : Nat → Int) : ∀ (n m j : Nat), m ≤ n → j < 16 + m → extW f n j = extW f m j
  | 0, m, j, h, _ => by obtain rfl : m = 0 := by omega
                        rfl
  | n + 1, m, j, h, hj => by
    by_cases e : m = n + 1
    · subst e; rfl
    · rw [← extW_step, if_neg (by omega), extW_below f n m j (by omega) hj]
theorem wordsOf_16 (bs : Nat → Int) (j : Nat) (h : j < 16) : wordsOf bs j = wacc bs j 4 := by
  unfold wordsOf
  rw [extW_below _ 48 0 j (by omega) (by omega)]
  show laidW bs 16 0 j = _
  unfold laidW
  rw [if_pos h]
theorem wordsOf_next (bs : Nat → Int) (t : Nat) (h : t < 48) : wordsOf bs (16 + t) = (wordsOf bs t + xor32 (xor32 (rorI (wordsOf bs (1 + t)) 7) (rorI (wordsOf bs (1 + t)) 18)) (wordsOf bs (1 + t) / 8) + wordsOf bs (9 + t) + xor32 (xor32 (rorI (wordsOf bs (14 + t)) 17) (rorI (wordsOf bs (14 + t)) 19)) (wordsOf bs (14 + t) / 1024)) % 4294967296 := by
  unfold wordsOf
  rw [extW_below _ 48 (t + 1) (16 + t) (by omega) (by omega), ← extW_step, if_pos rfl, extW_below _ 48 t t (by omega) (by omega), extW_below _ 48 t (1 + t) (by omega) (by omega), extW_below _ 48 t (9 + t) (by omega) (by omega), extW_below _ 48 t (14 + t) (by omega) (by omega)]
end Go.Proofs.YtaojifgbnllebaaDoor
