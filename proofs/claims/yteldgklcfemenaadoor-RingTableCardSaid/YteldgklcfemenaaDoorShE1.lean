/- The plain functions once more, over natural numbers, as the kernel reckons them: SHA-256 of bytes that are written out. -/
import Derived.Test.YteldgklcfemenaaDoorShS
namespace Go.Proofs.YteldgklcfemenaaDoor.Sh
open Go.RowKit

def xorN (a b : Nat) : Nat := (a % 4294967296) ^^^ (b % 4294967296)
def orN (a b : Nat) : Nat := (a % 4294967296) ||| (b % 4294967296)
def andN (a b : Nat) : Nat := (a % 4294967296) &&& (b % 4294967296)
def rorN (x n : Nat) : Nat := orN (x * 2 ^ (32 - n) % 4294967296) (x / 2 ^ n)

theorem ofInt32 (a : Nat) : (BitVec.ofInt 32 (a : Int)).toNat = a % 4294967296 := by
  rw [BitVec.toNat_ofInt]; omega
theorem wrap32_id (n : Nat) (h : n < 4294967296) : IntKind.u32.wrap (n : Int) = n := by
  simp [IntKind.wrap, IntKind.bits, IntKind.signed]; omega
theorem bits_xor (a b : Nat) : bits .xor .u32 (a : Int) (b : Int) = ((xorN a b : Nat) : Int) := by
  show IntKind.u32.wrap (((BitVec.ofInt 32 (a : Int) ^^^ BitVec.ofInt 32 (b : Int)).toNat : Nat) : Int) = _
  rw [wrap32_id _ (by exact BitVec.isLt _), BitVec.toNat_xor, ofInt32, ofInt32]; rfl
theorem bits_or (a b : Nat) : bits .or .u32 (a : Int) (b : Int) = ((orN a b : Nat) : Int) := by
  show IntKind.u32.wrap (((BitVec.ofInt 32 (a : Int) ||| BitVec.ofInt 32 (b : Int)).toNat : Nat) : Int) = _
  rw [wrap32_id _ (by exact BitVec.isLt _), BitVec.toNat_or, ofInt32, ofInt32]; rfl
theorem bits_and (a b : Nat) : bits .and .u32 (a : Int) (b : Int) = ((andN a b : Nat) : Int) := by
  show IntKind.u32.wrap (((BitVec.ofInt 32 (a : Int) &&& BitVec.ofInt 32 (b : Int)).toNat : Nat) : Int) = _
  rw [wrap32_id _ (by exact BitVec.isLt _), BitVec.toNat_and, ofInt32, ofInt32]; rfl
theorem ror_eq (x n : Nat) (h : n ≤ 32) : rorI (x : Int) (n : Int) = ((rorN x n : Nat) : Int) := by
  unfold rorI rorN
  have e1 : (32 - (n : Int)).toNat = 32 - n := by omega
  have e2 : ((n : Int)).toNat = n := by omega
  rw [e1, e2]
  have e3 : (x : Int) * 2 ^ (32 - n) % 4294967296 = ((x * 2 ^ (32 - n) % 4294967296 : Nat) : Int) := by simp
  have e4 : (x : Int) / 2 ^ n = ((x / 2 ^ n : Nat) : Int) := by simp
  rw [e3, e4, bits_or]
theorem xor32_eq (a b : Nat) : xor32 (a : Int) (b : Int) = ((xorN a b : Nat) : Int) := bits_xor a b
theorem and32_eq (a b : Nat) : and32 (a : Int) (b : Int) = ((andN a b : Nat) : Int) := bits_and a b
theorem not32_eq (a : Nat) : not32 (a : Int) = ((xorN 4294967295 a : Nat) : Int) := bits_xor 4294967295 a

structure N8 where
  a : Nat
  b : Nat
  c : Nat
  d : Nat
  e : Nat
  f : Nat
  g : Nat
  h : Nat
def N8.up (s : N8) : S8 := ⟨s.a, s.b, s.c, s.d, s.e, s.f, s.g, s.h⟩
def N8.t1 (s : N8) (k w : Nat) : Nat := (s.h + xorN (xorN (rorN s.e 6) (rorN s.e 11)) (rorN s.e 25) + xorN (andN s.e s.f) (andN (xorN 4294967295 s.e) s.g) + k + w) % 4294967296
def N8.t2 (s : N8) : Nat := (xorN (xorN (rorN s.a 2) (rorN s.a 13)) (rorN s.a 22) + xorN (xorN (andN s.a s.b) (andN s.a s.c)) (andN s.b s.c)) % 4294967296
def N8.step (s : N8) (k w : Nat) : N8 := ⟨(s.t1 k w + s.t2) % 4294967296, s.a, s.b, s.c, (s.d + s.t1 k w) % 4294967296, s.e, s.f, s.g⟩
def N8.run (kk ws : Nat → Nat) (s : N8) : Nat → N8
  | 0 => s
  | n + 1 => (N8.run kk ws s n).step (kk n) (ws n)
def N8.add (s t : N8) : N8 := ⟨(s.a + t.a) % 4294967296, (s.b + t.b) % 4294967296, (s.c + t.c) % 4294967296, (s.d + t.d) % 4294967296, (s.e + t.e) % 4294967296, (s.f + t.f) % 4294967296, (s.g + t.g) % 4294967296, (s.h + t.h) % 4294967296⟩
theorem t1_eq (s : N8) (k w : Nat) : s.up.t1 k w = ((s.t1 k w : Nat) : Int) := by
  simp only [S8.t1, N8.t1, N8.up]
  rw [show ((6 : Int)) = ((6 : Nat) : Int) from rfl, show ((11 : Int)) = ((11 : Nat) : Int) from rfl, show ((25 : Int)) = ((25 : Nat) : Int) from rfl, ror_eq _ _ (by decide), ror_eq _ _ (by decide), ror_eq _ _ (by decide), xor32_eq, xor32_eq, and32_eq, not32_eq, and32_eq, xor32_eq]
  simp
theorem t2_eq (s : N8) : s.up.t2 = ((s.t2 : Nat) : Int) := by
  simp only [S8.t2, N8.t2, N8.up]
  rw [show ((2 : Int)) = ((2 : Nat) : Int) from rfl, show ((13 : Int)) = ((13 : Nat) : Int) from rfl, show ((22 : Int)) = ((22 : Nat) : Int) from rfl, ror_eq _ _ (by decide), ror_eq _ _ (by decide), ror_eq _ _ (by decide), xor32_eq, xor32_eq, and32_eq, and32_eq, and32_eq, xor32_eq, xor32_eq]
  simp
theorem step_eq (s : N8) (k w : Nat) : s.up.step k w = (s.step k w).up := by
  simp only [S8.step, t1_eq, t2_eq]
  simp [N8.step, N8.up]
theorem run_eq (kk ws : Nat → Nat) (s : N8) : ∀ n, S8.run (fun i => (kk i : Int)) (fun i => (ws i : Int)) s.up n = (N8.run kk ws s n).up
  | 0 => rfl
  | n + 1 => by rw [S8.run, run_eq kk ws s n, step_eq]; rfl
theorem add_eq (s t : N8) : s.up.add t.up = (s.add t).up := by simp [S8.add, N8.add, N8.up]

def waccN (bs : Nat → Nat) (i : Nat) : Nat → Nat
  | 0 => 0
  | j + 1 => orN (waccN bs i j * 256 % 4294967296) (bs (4 * i + j))
theorem wacc_eq (bs : Nat → Nat) (i : Nat) : ∀ j, wacc (fun i => (bs i : Int)) i j = ((waccN bs i j : Nat) : Int)
  | 0 => rfl
  | j + 1 => by
    rw [wacc, wacc_eq bs i j, waccN, ← bits_or]
    simp
def sg0N (x : Nat) : Nat := xorN (xorN (rorN x 7) (rorN x 18)) (x / 8)
def sg1N (x : Nat) : Nat := xorN (xorN (rorN x 17) (rorN x 19)) (x / 1024)
theorem sg0_eq (x : Nat) : sg0 (x : Int) = ((sg0N x : Nat) : Int) := by
  unfold sg0 sg0N
  rw [show ((7 : Int)) = ((7 : Nat) : Int) from rfl, show ((18 : Int)) = ((18 : Nat) : Int) from rfl, show (x : Int) / 8 = ((x / 8 : Nat) : Int) by simp, ror_eq _ _ (by decide), ror_eq _ _ (by decide), xor32_eq, xor32_eq]
theorem sg1_eq (x : Nat) : sg1 (x : Int) = ((sg1N x : Nat) : Int) := by
  unfold sg1 sg1N
  rw [show ((17 : Int)) = ((17 : Nat) : Int) from rfl, show ((19 : Int)) = ((19 : Nat) : Int) from rfl, show (x : Int) / 1024 = ((x / 1024 : Nat) : Int) by simp, ror_eq _ _ (by decide), ror_eq _ _ (by decide), xor32_eq, xor32_eq]

/-! ### The kernel's way: a number is reckoned before it is handed on. -/
def forceN {α : Type} (n : Nat) (k : Nat → α) : α :=
  match n with
  | 0 => k 0
  | m + 1 => k (m + 1)
theorem forceN_eq {α : Type} (n : Nat) (k : Nat → α) : forceN n k = k n := by cases n <;> rfl
/-- The words of a block, the last one first. -/
def firstL (bs : Nat → Nat) : Nat → List Nat
  | 0 => []
  | n + 1 => forceN (waccN bs n 4) (fun x => x :: firstL bs n)
def nextL (l : List Nat) : Nat := (l.getD 15 0 + sg0N (l.getD 14 0) + l.getD 6 0 + sg1N (l.getD 1 0)) % 4294967296
def extL (l : List Nat) : Nat → List Nat
  | 0 => l
  | n + 1 => let r := extL l n; forceN (nextL r) (fun x => x :: r)
theorem firstL_get (bs : Nat → Nat) : ∀ n j, j < n → (firstL bs n).getD j 0 = waccN bs (n - 1 - j) 4
  | 0, j, h => by omega
  | n + 1, 0, h => by rw [firstL, forceN_eq]; rfl
  | n + 1, j + 1, h => by
    rw [firstL, forceN_eq, List.getD_cons_succ, firstL_get bs n j (by omega)]
    congr 1; omega
theorem extL_get (bs : Nat → Nat) : ∀ n j, j < 16 + n → ((extL (firstL bs 16) n).getD j 0 : Int) = extW (laidW (fun i => (bs i : Int)) 16 0) n (15 + n - j)
  | 0, j, h => by
    rw [extL, firstL_get bs 16 j (by omega)]
    show _ = laidW _ 16 0 (15 + 0 - j)
    unfold laidW
    rw [if_pos (by omega), wacc_eq]
  | n + 1, 0, h => by
    have ih := extL_get bs n
    show ((forceN (nextL (extL (firstL bs 16) n)) (fun x => x :: extL (firstL bs 16) n)).getD 0 0 : Int) = _
    rw [forceN_eq, List.getD_cons_zero, ← extW_step, if_pos (by omega)]
    unfold nextL
    have a15 := ih 15 (by omega)
    have a14 := ih 14 (by omega)
    have a6 := ih 6 (by omega)
    have a1 := ih 1 (by omega)
    rw [show 15 + n - 15 = n by omega] at a15
    rw [show 15 + n - 14 = 1 + n by omega] at a14
    rw [show 15 + n - 6 = 9 + n by omega] at a6
    rw [show 15 + n - 1 = 14 + n by omega] at a1
    rw [← a15, ← a14, ← a6, ← a1]
    have s0 := sg0_eq ((extL (firstL bs 16) n).getD 14 0)
    have s1 := sg1_eq ((extL (firstL bs 16) n).getD 1 0)
    unfold sg0 at s0
    unfold sg1 at s1
    rw [s0, s1]
    simp
  | n + 1, j + 1, h => by
    have ih := extL_get bs n j (by omega)
    show ((forceN (nextL (extL (firstL bs 16) n)) (fun x => x :: extL (firstL bs 16) n)).getD (j + 1) 0 : Int) = _
    rw [forceN_eq, List.getD_cons_succ, ih, ← extW_step, if_neg (by omega)]
    congr 1; omega
/-- Round after round, over the words, the last one first: behind, the state and the constants' list. -/
def N8.force {α : Type} (s : N8) (k : N8 → α) : α := forceN s.a fun a => forceN s.e fun e => k ⟨a, s.b, s.c, s.d, e, s.f, s.g, s.h⟩
theorem N8.force_eq {α : Type} (s : N8) (k : N8 → α) : s.force k = k s := by
  unfold N8.force; rw [forceN_eq, forceN_eq]
def N8.runL : List Nat → List Nat → N8 → N8
  | k :: ks, w :: ws, s => (s.step k w).force (N8.runL ks ws)
  | _, _, s => s
theorem runL_eq : ∀ (n : Nat) (ks ws : List Nat) (s : N8) (m : Nat), ks.length = m + n → ws.length = m + n → ∀ r, r = N8.run (fun i => ks.getD i 0) (fun i => ws.getD i 0) s m → N8.runL (ks.drop m) (ws.drop m) r = N8.run (fun i => ks.getD i 0) (fun i => ws.getD i 0) s (m + n)
  | 0, ks, ws, s, m, h1, h2, r, hr => by
    rw [List.drop_of_length_le (by omega), List.drop_of_length_le (by omega)]
    exact hr
  | n + 1, ks, ws, s, m, h1, h2, r, hr => by
    rw [List.drop_eq_getElem_cons (show m < ks.length by omega), List.drop_eq_getElem_cons (show m < ws.length by omega)]
    show (r.step ks[m] ws[m]).force _ = _
    rw [N8.force_eq]
    have := runL_eq n ks ws s (m + 1) (by omega) (by omega) (r.step ks[m] ws[m]) (by
      rw [hr, N8.run]
      simp [List.getD, show m < ks.length by omega, show m < ws.length by omega])
    rw [this]
    congr 1; omega
/-- One block. -/
def N8.mixL (ks : List Nat) (bs : Nat → Nat) (s : N8) : N8 := s.add (N8.runL ks (extL (firstL bs 16) 48).reverse s)
theorem extL_length (bs : Nat → Nat) : ∀ n, (extL (firstL bs 16) n).length = 16 + n
  | 0 => by simp [extL, firstL, forceN_eq]
  | n + 1 => by
    show (forceN (nextL (extL (firstL bs 16) n)) (fun x => x :: extL (firstL bs 16) n)).length = _
    rw [forceN_eq, List.length_cons, extL_length bs n]; omega
theorem run_congr (kk kk' ws ws' : Nat → Int) (s : S8) : ∀ n, (∀ i, i < n → kk i = kk' i) → (∀ i, i < n → ws i = ws' i) → S8.run kk ws s n = S8.run kk' ws' s n
  | 0, _, _ => rfl
  | n + 1, h1, h2 => by rw [S8.run, S8.run, run_congr kk kk' ws ws' s n (fun i hi => h1 i (by omega)) (fun i hi => h2 i (by omega)), h1 n (by omega), h2 n (by omega)]
theorem mixL_eq (ks : List Nat) (hk : ks.length = 64) (bs : Nat → Nat) (s : N8) : s.up.mix (fun i => (ks.getD i 0 : Int)) (wordsOf fun i => (bs i : Int)) = (N8.mixL ks bs s).up := by
  unfold S8.mix N8.mixL
  have hl := extL_length bs 48
  have h := runL_eq 64 ks (extL (firstL bs 16) 48).reverse s 0 (by omega) (by simp [hl]) s rfl
  rw [List.drop_zero, List.drop_zero] at h
  rw [h, ← add_eq, ← run_eq]
  have hr : S8.run (fun i => (ks.getD i 0 : Int)) (wordsOf fun i => (bs i : Int)) s.up 64 = S8.run (fun i => (ks.getD i 0 : Int)) (fun i => ((extL (firstL bs 16) 48).reverse.getD i 0 : Int)) s.up (0 + 64) := by
    refine run_congr _ _ _ _ _ 64 (fun _ _ => rfl) (fun i hi => ?_)
    have := extL_get bs 48 (63 - i) (by omega)
    rw [show 15 + 48 - (63 - i) = i by omega] at this
    unfold wordsOf
    rw [← this]
    simp only [List.getD]
    rw [List.getElem?_reverse (by omega), hl]
  rw [hr]
end Go.Proofs.YteldgklcfemenaaDoor.Sh
