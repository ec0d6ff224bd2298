/- Walk of wakes. Good messages; walk of Good. When a message is right: plain facts. -/
import Derived.Test.YtmcmiojidgdjpaaBn19
import Derived.Test.YtmcmiojidgdjpaaBn12
namespace Go.Proofs.Ytmcmiojidgdjpaa
open Go.RowKit

/-- A ping; a message of noughts. -/
def pingM : Mg := ⟨1, 0, 1, 1, 0, 0, 0, 0, 0, 0, 0, 0, 0, 0⟩
def zeroM : Mg := ⟨0, 0, 0, 0, 0, 0, 0, 0, 0, 0, 0, 0, 0, 0⟩
def noF (_ : Nat) : Int := 0
theorem sl_nil (w : World) : Sl .i64 w (.slice none 0 0) 0 noF := .inl ⟨rfl, .inl rfl⟩
theorem ping_ok : chkB pingM noF 0 noF 0 = true := by kernel_rfl
theorem zero_no : chkB zeroM noF 0 noF 0 = false := by kernel_rfl
theorem ping_same : samB pingM noF 0 noF 0 pingM noF 0 noF 0 = true := by kernel_rfl
theorem ping_zero : samB pingM noF 0 noF 0 zeroM noF 0 noF 0 = false := by kernel_rfl
end Go.Proofs.Ytmcmiojidgdjpaa
namespace Go.Proofs.Ytmcmiojidgdjpaa
open Go.RowKit

/-- The message that Good answers. -/
def gd (k : Nat) (N V : Int) : Mg :=
  match k with
  | 1 => ⟨1, N % 8, 1 + V, (N + 1) % 8, 0, 0, 0, 0, 0, 0, 0, 0, 0, 0⟩
  | 2 => ⟨2, N % 8, 1 + V, (N + 1) % 8, 1 + N, N % 4, V, 0, 0, 0, 0, 0, 0, 0⟩
  | 3 => ⟨3, N % 8, 1 + V, (N + 1) % 8, 1 + N, N % 4, V, 1 + N, V, 0, 0, 0, 0, 0⟩
  | 4 => ⟨4, N % 8, 1 + V, (N + 1) % 8, 1 + N, N % 4, 0, 0, 0, 0, (N + 2) % 8, 0, 0, 0⟩
  | 5 => ⟨5, N % 8, 1 + V, (N + 1) % 8, 1 + N, N % 4, 0, 0, 0, 0, 0, 0, 0, 0⟩
  | 6 => ⟨6, N % 8, 1 + V, (N + 1) % 8, 1 + N, N % 4, 0, 0, 0, 0, 0, 0, 0, 0⟩
  | 7 => ⟨7, N % 8, 1 + V, (N + 1) % 8, 1 + N, N % 4, 1 + V, 1 + N, 0, V, 0, 0, 0, 0⟩
  | 8 => ⟨8, N % 8, 1 + V, (N + 1) % 8, 1 + N, N % 4, 1 + V, 1 + N, 0, 0, 0, 0, 0, 0⟩
  | 9 => ⟨9, N % 8, 1 + V, (N + 1) % 8, 1 + N, N % 4, 1 + V, 1 + N, 1 + N + V, 0, 0, 0, 0, 0⟩
  | 10 => ⟨10, N % 8, 1 + V, (N + 1) % 8, 1 + N, N % 4, 0, 0, 0, V, N % 8, 1 + V, 1 + N, V % 17⟩
  | 11 => ⟨11, N % 8, 1 + V, (N + 1) % 8, 1 + N, N % 4, 0, 0, 0, V, N % 8, 1 + V, 1 + N % 40, V % 17⟩
  | 12 => ⟨12, N % 8, 1 + V, (N + 1) % 8, 1 + N, N % 4, 0, 0, 0, V % 8, 0, 0, 1 + N % 40, 0⟩
  | 13 => ⟨13, N % 8, 1 + V, (N + 1) % 8, 1 + N, N % 4, 0, 0, 0, 0, 0, 0, 1 + N % 40, 0⟩
  | _ => zeroM
/-- Its lists. -/
def gp (k : Nat) (N : Int) : List Int :=
  match k with
  | 3 => [N % 8, (N + 3) % 8]
  | 11 => [N % 8]
  | _ => []
def gt (k : Nat) (N : Int) : List Int :=
  match k with
  | 11 => [(N + 1) % 8, (N + 5) % 8]
  | _ => []
/-- A list as a function. -/
def lF (l : List Int) (i : Nat) : Int := l.getD i 0
theorem sl_setRow {w : World} {v : Value} {n g : Nat} {F : Nat → Int} {cs : Array Value} (h : Sl .i64 w v n F) (hg : ∀ b off cap, v = .slice (some ⟨b, off, none⟩) n cap → b ≠ g) : Sl .i64 (w.setRow g cs) v n F := by
  rcases h with h | ⟨b, off, cap, h1, h2, h3, h4, h5⟩
  · exact .inl h
  · exact .inr ⟨b, off, cap, h1, h2, h3, by rw [size_setRow]; exact h4, fun i hi => (cell_setRow_other w g cs ⟨b, off + i, none⟩ (hg b off cap h1)).trans (h5 i hi)⟩
theorem heap3_old (w : World) (A B C : Obj) : (((w.alloc A).alloc B).alloc C).heap[w.heap.size]? = some A :=
  (Below.heap_alloc _ C w.heap.size (by simp; omega)).trans (heap_alloc2_old w A B)
theorem heap4_old (w : World) (A B C D : Obj) : ((((w.alloc A).alloc B).alloc C).alloc D).heap[w.heap.size]? = some A :=
  (Below.heap_alloc _ D w.heap.size (by simp; omega)).trans (heap3_old w A B C)
theorem heap4_mid (w : World) (A B C D : Obj) : ((((w.alloc A).alloc B).alloc C).alloc D).heap[w.heap.size + 1]? = some B :=
  (Below.heap_alloc _ D (w.heap.size + 1) (by simp)).trans (heap3_mid w A B C)
end Go.Proofs.Ytmcmiojidgdjpaa
namespace Go.Proofs.Ytmcmiojidgdjpaa
open Go.RowKit

theorem numB_iff (m : Mg) : numB m = true ↔ ((lo m).kd ≤ m.kd ∧ m.kd ≤ (hi m).kd) ∧ ((lo m).fr ≤ m.fr ∧ m.fr ≤ (hi m).fr) ∧ ((lo m).fi ≤ m.fi ∧ m.fi ≤ (hi m).fi) ∧ ((lo m).tw ≤ m.tw ∧ m.tw ≤ (hi m).tw) ∧ ((lo m).ti ≤ m.ti ∧ m.ti ≤ (hi m).ti) ∧ ((lo m).tp ≤ m.tp ∧ m.tp ≤ (hi m).tp) ∧ ((lo m).ep ≤ m.ep ∧ m.ep ≤ (hi m).ep) ∧ ((lo m).sq ≤ m.sq ∧ m.sq ≤ (hi m).sq) ∧ ((lo m).la ≤ m.la ∧ m.la ≤ (hi m).la) ∧ ((lo m).va ≤ m.va ∧ m.va ≤ (hi m).va) ∧ ((lo m).no ≤ m.no ∧ m.no ≤ (hi m).no) ∧ ((lo m).ic ≤ m.ic ∧ m.ic ≤ (hi m).ic) ∧ ((lo m).ct ≤ m.ct ∧ m.ct ≤ (hi m).ct) ∧ ((lo m).hp ≤ m.hp ∧ m.hp ≤ (hi m).hp) := by
  unfold numB allTo
  rw [decide_eq_true_eq]
  constructor
  · intro h
    exact ⟨h 0 (by omega), h 1 (by omega), h 2 (by omega), h 3 (by omega), h 4 (by omega), h 5 (by omega), h 6 (by omega), h 7 (by omega), h 8 (by omega), h 9 (by omega), h 10 (by omega), h 11 (by omega), h 12 (by omega), h 13 (by omega)⟩
  · rintro ⟨h0, h1, h2, h3, h4, h5, h6, h7, h8, h9, h10, h11, h12, h13⟩ j hj
    match j, hj with
    | 0, _ => exact h0
    | 1, _ => exact h1
    | 2, _ => exact h2
    | 3, _ => exact h3
    | 4, _ => exact h4
    | 5, _ => exact h5
    | 6, _ => exact h6
    | 7, _ => exact h7
    | 8, _ => exact h8
    | 9, _ => exact h9
    | 10, _ => exact h10
    | 11, _ => exact h11
    | 12, _ => exact h12
    | 13, _ => exact h13
theorem numB_f (m : Mg) (h : ¬ (((lo m).kd ≤ m.kd ∧ m.kd ≤ (hi m).kd) ∧ ((lo m).fr ≤ m.fr ∧ m.fr ≤ (hi m).fr) ∧ ((lo m).fi ≤ m.fi ∧ m.fi ≤ (hi m).fi) ∧ ((lo m).tw ≤ m.tw ∧ m.tw ≤ (hi m).tw) ∧ ((lo m).ti ≤ m.ti ∧ m.ti ≤ (hi m).ti) ∧ ((lo m).tp ≤ m.tp ∧ m.tp ≤ (hi m).tp) ∧ ((lo m).ep ≤ m.ep ∧ m.ep ≤ (hi m).ep) ∧ ((lo m).sq ≤ m.sq ∧ m.sq ≤ (hi m).sq) ∧ ((lo m).la ≤ m.la ∧ m.la ≤ (hi m).la) ∧ ((lo m).va ≤ m.va ∧ m.va ≤ (hi m).va) ∧ ((lo m).no ≤ m.no ∧ m.no ≤ (hi m).no) ∧ ((lo m).ic ≤ m.ic ∧ m.ic ≤ (hi m).ic) ∧ ((lo m).ct ≤ m.ct ∧ m.ct ≤ (hi m).ct) ∧ ((lo m).hp ≤ m.hp ∧ m.hp ≤ (hi m).hp))) : numB m = false := by
  cases e : numB m with
  | false => rfl
  | true => exact absurd ((numB_iff m).1 e) h
theorem chk_num (m : Mg) (F G : Nat → Int) (n k : Nat) (h : numB m = false) : chkB m F n G k = false := by simp [chkB, h]
theorem chk_nds (m : Mg) (F G : Nat → Int) (n k : Nat) (h : ndsB m = false) : chkB m F n G k = false := by simp [chkB, h]
theorem chk_lis (m : Mg) (F G : Nat → Int) (n k : Nat) (h : lisB m F n G k = false) : chkB m F n G k = false := by simp [chkB, h]
theorem chk_kd (m : Mg) (F G : Nat → Int) (n k : Nat) (h : chkB m F n G k = true) : 1 ≤ m.kd ∧ m.kd ≤ 13 := by
  have h1 : numB m = true := by
    cases e : numB m with
    | true => rfl
    | false => rw [chk_num m F G n k e] at h; cases h
  have := ((numB_iff m).1 h1).1
  simpa [lo, hi] using this
theorem unl_two (a b : Int) (h : a ≠ b) : unB (lF [a, b]) 2 = true := by
  unfold unB
  rw [decide_eq_true_eq]
  intro i hi j hj
  obtain rfl : i = 1 := by omega
  obtain rfl : j = 0 := by omega
  exact h
theorem unl_three (a b c : Int) (h1 : a ≠ b) (h2 : a ≠ c) (h3 : b ≠ c) : unB (cat (lF [a]) 1 (lF [b, c])) 3 = true := by
  unfold unB
  rw [decide_eq_true_eq]
  intro i hi j hj
  match i, j, hi, hj with
  | 1, 0, _, _ => exact h1
  | 2, 0, _, _ => exact h2
  | 2, 1, _, _ => exact h3
theorem few_one (a : Int) (h : 0 ≤ a ∧ a ≤ 7) : fewB (lF [a]) 1 = true := by
  unfold fewB
  rw [decide_eq_true_eq]
  refine ⟨by omega, fun i hi => ?_⟩
  obtain rfl : i = 0 := by omega
  exact h
theorem few_two (a b : Int) (h : 0 ≤ a ∧ a ≤ 7) (h2 : 0 ≤ b ∧ b ≤ 7) : fewB (lF [a, b]) 2 = true := by
  unfold fewB
  rw [decide_eq_true_eq]
  refine ⟨by omega, fun i hi => ?_⟩
  match i, hi with
  | 0, _ => exact h
  | 1, _ => exact h2
theorem right_1 (N V : Int) (_ : 0 ≤ N ∧ N < 1000) (h2 : 0 ≤ V ∧ V < 1000) : chkB (gd 1 N V) (lF (gp 1 N)) (gp 1 N).length (lF (gt 1 N)) (gt 1 N).length = true := by
  have a1 : numB (gd 1 N V) = true := by
    rw [numB_iff]
    simp [gd, lo, hi]
    omega
  have a2 : ndsB (gd 1 N V) = true := by
    unfold ndsB
    rw [decide_eq_true_eq]
    simp [gd]
    omega
  have a3 : lisB (gd 1 N V) (lF (gp 1 N)) (gp 1 N).length (lF (gt 1 N)) (gt 1 N).length = true := by simp [lisB, gd, gp, gt]
  simp [chkB, a1, a2, a3]
theorem right_2 (N V : Int) (h1 : 0 ≤ N ∧ N < 1000) (h2 : 0 ≤ V ∧ V < 1000) : chkB (gd 2 N V) (lF (gp 2 N)) (gp 2 N).length (lF (gt 2 N)) (gt 2 N).length = true := by
  have a1 : numB (gd 2 N V) = true := by
    rw [numB_iff]
    simp [gd, lo, hi]
    omega
  have a2 : ndsB (gd 2 N V) = true := by
    unfold ndsB
    rw [decide_eq_true_eq]
    simp [gd]
    omega
  have a3 : lisB (gd 2 N V) (lF (gp 2 N)) (gp 2 N).length (lF (gt 2 N)) (gt 2 N).length = true := by simp [lisB, gd, gp, gt]
  simp [chkB, a1, a2, a3]
theorem right_3 (N V : Int) (h1 : 0 ≤ N ∧ N < 1000) (h2 : 0 ≤ V ∧ V < 1000) : chkB (gd 3 N V) (lF (gp 3 N)) (gp 3 N).length (lF (gt 3 N)) (gt 3 N).length = true := by
  have a1 : numB (gd 3 N V) = true := by
    rw [numB_iff]
    simp [gd, lo, hi]
    omega
  have a2 : ndsB (gd 3 N V) = true := by
    unfold ndsB
    rw [decide_eq_true_eq]
    simp [gd]
    omega
  have a3 : lisB (gd 3 N V) (lF (gp 3 N)) (gp 3 N).length (lF (gt 3 N)) (gt 3 N).length = true := by
    have b1 := unl_two (N % 8) ((N + 3) % 8) (by omega)
    have b2 := few_two (N % 8) ((N + 3) % 8) (by omega) (by omega)
    simp [lisB, gd, gp, gt, b1, b2]
    rfl
  simp [chkB, a1, a2, a3]
theorem right_4 (N V : Int) (h1 : 0 ≤ N ∧ N < 1000) (h2 : 0 ≤ V ∧ V < 1000) : chkB (gd 4 N V) (lF (gp 4 N)) (gp 4 N).length (lF (gt 4 N)) (gt 4 N).length = true := by
  have a1 : numB (gd 4 N V) = true := by
    rw [numB_iff]
    simp [gd, lo, hi]
    omega
  have a2 : ndsB (gd 4 N V) = true := by
    unfold ndsB
    rw [decide_eq_true_eq]
    simp [gd]
    omega
  have a3 : lisB (gd 4 N V) (lF (gp 4 N)) (gp 4 N).length (lF (gt 4 N)) (gt 4 N).length = true := by simp [lisB, gd, gp, gt]
  simp [chkB, a1, a2, a3]
theorem right_5 (N V : Int) (h1 : 0 ≤ N ∧ N < 1000) (h2 : 0 ≤ V ∧ V < 1000) : chkB (gd 5 N V) (lF (gp 5 N)) (gp 5 N).length (lF (gt 5 N)) (gt 5 N).length = true := by
  have a1 : numB (gd 5 N V) = true := by
    rw [numB_iff]
    simp [gd, lo, hi]
    omega
  have a2 : ndsB (gd 5 N V) = true := by
    unfold ndsB
    rw [decide_eq_true_eq]
    simp [gd]
    omega
  have a3 : lisB (gd 5 N V) (lF (gp 5 N)) (gp 5 N).length (lF (gt 5 N)) (gt 5 N).length = true := by simp [lisB, gd, gp, gt]
  simp [chkB, a1, a2, a3]
theorem right_6 (N V : Int) (h1 : 0 ≤ N ∧ N < 1000) (h2 : 0 ≤ V ∧ V < 1000) : chkB (gd 6 N V) (lF (gp 6 N)) (gp 6 N).length (lF (gt 6 N)) (gt 6 N).length = true := by
  have a1 : numB (gd 6 N V) = true := by
    rw [numB_iff]
    simp [gd, lo, hi]
    omega
  have a2 : ndsB (gd 6 N V) = true := by
    unfold ndsB
    rw [decide_eq_true_eq]
    simp [gd]
    omega
  have a3 : lisB (gd 6 N V) (lF (gp 6 N)) (gp 6 N).length (lF (gt 6 N)) (gt 6 N).length = true := by simp [lisB, gd, gp, gt]
  simp [chkB, a1, a2, a3]
theorem right_7 (N V : Int) (h1 : 0 ≤ N ∧ N < 1000) (h2 : 0 ≤ V ∧ V < 1000) : chkB (gd 7 N V) (lF (gp 7 N)) (gp 7 N).length (lF (gt 7 N)) (gt 7 N).length = true := by
  have a1 : numB (gd 7 N V) = true := by
    rw [numB_iff]
    simp [gd, lo, hi]
    omega
  have a2 : ndsB (gd 7 N V) = true := by
    unfold ndsB
    rw [decide_eq_true_eq]
    simp [gd]
    omega
  have a3 : lisB (gd 7 N V) (lF (gp 7 N)) (gp 7 N).length (lF (gt 7 N)) (gt 7 N).length = true := by simp [lisB, gd, gp, gt]
  simp [chkB, a1, a2, a3]
theorem right_8 (N V : Int) (h1 : 0 ≤ N ∧ N < 1000) (h2 : 0 ≤ V ∧ V < 1000) : chkB (gd 8 N V) (lF (gp 8 N)) (gp 8 N).length (lF (gt 8 N)) (gt 8 N).length = true := by
  have a1 : numB (gd 8 N V) = true := by
    rw [numB_iff]
    simp [gd, lo, hi]
    omega
  have a2 : ndsB (gd 8 N V) = true := by
    unfold ndsB
    rw [decide_eq_true_eq]
    simp [gd]
    omega
  have a3 : lisB (gd 8 N V) (lF (gp 8 N)) (gp 8 N).length (lF (gt 8 N)) (gt 8 N).length = true := by simp [lisB, gd, gp, gt]
  simp [chkB, a1, a2, a3]
theorem right_9 (N V : Int) (h1 : 0 ≤ N ∧ N < 1000) (h2 : 0 ≤ V ∧ V < 1000) : chkB (gd 9 N V) (lF (gp 9 N)) (gp 9 N).length (lF (gt 9 N)) (gt 9 N).length = true := by
  have a1 : numB (gd 9 N V) = true := by
    rw [numB_iff]
    simp [gd, lo, hi]
    omega
  have a2 : ndsB (gd 9 N V) = true := by
    unfold ndsB
    rw [decide_eq_true_eq]
    simp [gd]
    omega
  have a3 : lisB (gd 9 N V) (lF (gp 9 N)) (gp 9 N).length (lF (gt 9 N)) (gt 9 N).length = true := by simp [lisB, gd, gp, gt]
  simp [chkB, a1, a2, a3]
theorem right_10 (N V : Int) (h1 : 0 ≤ N ∧ N < 1000) (h2 : 0 ≤ V ∧ V < 1000) : chkB (gd 10 N V) (lF (gp 10 N)) (gp 10 N).length (lF (gt 10 N)) (gt 10 N).length = true := by
  have a1 : numB (gd 10 N V) = true := by
    rw [numB_iff]
    simp [gd, lo, hi]
    omega
  have a2 : ndsB (gd 10 N V) = true := by
    unfold ndsB
    rw [decide_eq_true_eq]
    simp [gd]
    omega
  have a3 : lisB (gd 10 N V) (lF (gp 10 N)) (gp 10 N).length (lF (gt 10 N)) (gt 10 N).length = true := by simp [lisB, gd, gp, gt]
  simp [chkB, a1, a2, a3]
theorem right_11 (N V : Int) (h1 : 0 ≤ N ∧ N < 1000) (h2 : 0 ≤ V ∧ V < 1000) : chkB (gd 11 N V) (lF (gp 11 N)) (gp 11 N).length (lF (gt 11 N)) (gt 11 N).length = true := by
  have a1 : numB (gd 11 N V) = true := by
    rw [numB_iff]
    simp [gd, lo, hi]
    omega
  have a2 : ndsB (gd 11 N V) = true := by
    unfold ndsB
    rw [decide_eq_true_eq]
    simp [gd]
    omega
  have a3 : lisB (gd 11 N V) (lF (gp 11 N)) (gp 11 N).length (lF (gt 11 N)) (gt 11 N).length = true := by
    have b1 := unl_three (N % 8) ((N + 1) % 8) ((N + 5) % 8) (by omega) (by omega) (by omega)
    have b2 := few_one (N % 8) (by omega)
    have b3 := few_two ((N + 1) % 8) ((N + 5) % 8) (by omega) (by omega)
    simp [lisB, gd, gp, gt, b1, b2, b3]
  simp [chkB, a1, a2, a3]
theorem right_12 (N V : Int) (h1 : 0 ≤ N ∧ N < 1000) (h2 : 0 ≤ V ∧ V < 1000) : chkB (gd 12 N V) (lF (gp 12 N)) (gp 12 N).length (lF (gt 12 N)) (gt 12 N).length = true := by
  have a1 : numB (gd 12 N V) = true := by
    rw [numB_iff]
    simp [gd, lo, hi]
    omega
  have a2 : ndsB (gd 12 N V) = true := by
    unfold ndsB
    rw [decide_eq_true_eq]
    simp [gd]
    omega
  have a3 : lisB (gd 12 N V) (lF (gp 12 N)) (gp 12 N).length (lF (gt 12 N)) (gt 12 N).length = true := by simp [lisB, gd, gp, gt]
  simp [chkB, a1, a2, a3]
theorem right_13 (N V : Int) (h1 : 0 ≤ N ∧ N < 1000) (h2 : 0 ≤ V ∧ V < 1000) : chkB (gd 13 N V) (lF (gp 13 N)) (gp 13 N).length (lF (gt 13 N)) (gt 13 N).length = true := by
  have a1 : numB (gd 13 N V) = true := by
    rw [numB_iff]
    simp [gd, lo, hi]
    omega
  have a2 : ndsB (gd 13 N V) = true := by
    unfold ndsB
    rw [decide_eq_true_eq]
    simp [gd]
    omega
  have a3 : lisB (gd 13 N V) (lF (gp 13 N)) (gp 13 N).length (lF (gt 13 N)) (gt 13 N).length = true := by simp [lisB, gd, gp, gt]
  simp [chkB, a1, a2, a3]
end Go.Proofs.Ytmcmiojidgdjpaa
