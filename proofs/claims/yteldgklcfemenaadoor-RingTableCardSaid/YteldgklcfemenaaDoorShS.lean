/- The plain functions: SHA-256 on whole numbers, as the walks say it. Nothing of the program stands here but the model's bits. -/
import Derived.WalkKit
namespace Go.Proofs.YteldgklcfemenaaDoor.Sh
open Go.RowKit

theorem hide {p : Prop} (h : p) : Hid p := h
theorem unhide {p : Prop} (h : Hid p) : p := h

/-- A word, turned right, as the walk says it. -/
def rorI (x : Int) (n : Int) : Int := bits .or .u32 (x * 2 ^ (32 - n).toNat % 4294967296) (x / 2 ^ n.toNat)

structure S8 where
  a : Int
  b : Int
  c : Int
  d : Int
  e : Int
  f : Int
  g : Int
  h : Int

def xor32 (x y : Int) : Int := bits .xor .u32 x y
def and32 (x y : Int) : Int := bits .and .u32 x y
def not32 (x : Int) : Int := bits .xor .u32 (if IntKind.u32.signed = true then -1 else IntKind.u32.max) x

def S8.t1 (s : S8) (k w : Int) : Int := (s.h + xor32 (xor32 (rorI s.e 6) (rorI s.e 11)) (rorI s.e 25) + xor32 (and32 s.e s.f) (and32 (not32 s.e) s.g) + k + w) % 4294967296
def S8.t2 (s : S8) : Int := (xor32 (xor32 (rorI s.a 2) (rorI s.a 13)) (rorI s.a 22) + xor32 (xor32 (and32 s.a s.b) (and32 s.a s.c)) (and32 s.b s.c)) % 4294967296
def S8.step (s : S8) (k w : Int) : S8 := ⟨(s.t1 k w + s.t2) % 4294967296, s.a, s.b, s.c, (s.d + s.t1 k w) % 4294967296, s.e, s.f, s.g⟩
def S8.run (kk ws : Nat → Int) (s : S8) : Nat → S8
  | 0 => s
  | n + 1 => (S8.run kk ws s n).step (kk n) (ws n)
def S8.add (s t : S8) : S8 := ⟨(s.a + t.a) % 4294967296, (s.b + t.b) % 4294967296, (s.c + t.c) % 4294967296, (s.d + t.d) % 4294967296, (s.e + t.e) % 4294967296, (s.f + t.f) % 4294967296, (s.g + t.g) % 4294967296, (s.h + t.h) % 4294967296⟩
def S8.vals (s : S8) : Array Value := #[.int .u32 s.a, .int .u32 s.b, .int .u32 s.c, .int .u32 s.d, .int .u32 s.e, .int .u32 s.f, .int .u32 s.g, .int .u32 s.h]
/-- sha.mix -/
def S8.mix (kk ws : Nat → Int) (s : S8) : S8 := s.add (S8.run kk ws s 64)

/-- n words in a row. -/
def arr (n : Nat) (ws : Nat → Int) : Array Value := ((List.range n).map fun i => Value.int .u32 (ws i)).toArray
theorem arr_size (n : Nat) (ws : Nat → Int) : (arr n ws).size = n := by simp [arr]
theorem arr_get (n : Nat) (ws : Nat → Int) (i : Nat) (h : i < n) : (arr n ws)[i]? = some (Value.int .u32 (ws i)) := by
  simp [arr, h]
theorem arr_congr (n : Nat) (f g : Nat → Int) (h : ∀ i, i < n → f i = g i) : arr n f = arr n g := by
  unfold arr; congr 1; apply List.map_congr_left; intro i hi; rw [h i (List.mem_range.1 hi)]
theorem arr_of (n : Nat) (f : Nat → Int) (A : Array Value) (hs : A.size = n) (h : ∀ i, i < n → A[i]? = some (.int .u32 (f i))) : A = arr n f := by
  apply Array.ext
  · rw [arr_size, hs]
  · intro i h1 h2
    have a := h i (by omega)
    have b := arr_get n f i (by omega)
    rw [Array.getElem?_eq_getElem h1] at a
    rw [Array.getElem?_eq_getElem h2] at b
    rw [Option.some.inj a, Option.some.inj b]

/-- The word i of a block, of its first j bytes. -/
def wacc (bs : Nat → Int) (i : Nat) : Nat → Int
  | 0 => 0
  | j + 1 => bits .or .u32 (wacc bs i j * 256 % 4294967296) (bs (4 * i + j))
/-- The words, k of them laid, the next one of j bytes. -/
def laidW (bs : Nat → Int) (k j m : Nat) : Int := if m < k then wacc bs m 4 else if m = k then wacc bs k j else 0
def sg0 (x : Int) : Int := xor32 (xor32 (rorI x 7) (rorI x 18)) (x / 8)
def sg1 (x : Int) : Int := xor32 (xor32 (rorI x 17) (rorI x 19)) (x / 1024)
def nextW (f : Nat → Int) (i : Nat) : Int := (f (i - 16) + sg0 (f (i - 15)) + f (i - 7) + sg1 (f (i - 2))) % 4294967296
def extW (f : Nat → Int) : Nat → Nat → Int
  | 0 => f
  | n + 1 => fun m => if m = 16 + n then nextW (extW f n) (16 + n) else extW f n m
/-- sha.words -/
def wordsOf (bs : Nat → Int) : Nat → Int := extW (laidW bs 16 0) 48
theorem laidW_step (bs : Nat → Int) (k j m : Nat) : (if m = k then bits .or .u32 (wacc bs k j * 256 % 4294967296) (bs (4 * k + j)) else laidW bs k j m) = laidW bs k (j + 1) m := by
  unfold laidW
  by_cases h : m = k
  · subst h; simp [wacc]
  · simp [h]
theorem laidW_turn (bs : Nat → Int) (k m : Nat) : laidW bs k 4 m = laidW bs (k + 1) 0 m := by
  unfold laidW
  by_cases h : m < k
  · simp [h, Nat.lt_succ_of_lt h]
  · by_cases h2 : m = k
    · subst h2; simp
    · have h3 : ¬ m < k + 1 := by omega
      simp [h, h2, h3, wacc]
theorem laidW_at (bs : Nat → Int) (k j : Nat) : laidW bs k j k = wacc bs k j := by simp [laidW]
/-- sha.mixAll: k blocks of bs. -/
def S8.blocks (kk bs : Nat → Int) (s : S8) : Nat → S8
  | 0 => s
  | k + 1 => (S8.blocks kk bs s k).mix kk (wordsOf fun i => bs (64 * k + i))
/-- The padding, k bytes of the length L laid at the end of room bytes. -/
def padF (bs : Nat → Int) (r : Nat) (L : Int) (room k i : Nat) : Int :=
  if room ≤ i + k ∧ i < room then L / 2 ^ (8 * (room - 1 - i)) % 256 else if i < r then bs i else if i = r then 128 else 0
theorem padF_step (bs : Nat → Int) (r : Nat) (L : Int) (room k i : Nat) (hk : k < room) : (if i = room - 1 - k then L / 2 ^ (8 * k) % 256 else padF bs r L room k i) = padF bs r L room (k + 1) i := by
  unfold padF
  by_cases h : i = room - 1 - k
  · subst h
    have e1 : room ≤ room - 1 - k + (k + 1) ∧ room - 1 - k < room := by omega
    have e2 : room - 1 - (room - 1 - k) = k := by omega
    simp only [if_pos e1, if_true, e2]
  · simp only [if_neg h]
    by_cases h2 : room ≤ i + k ∧ i < room
    · have h3 : room ≤ i + (k + 1) ∧ i < room := by omega
      simp only [if_pos h2, if_pos h3]
    · have h3 : ¬ (room ≤ i + (k + 1) ∧ i < room) := by omega
      simp only [if_neg h2, if_neg h3]
def S8.nth (s : S8) : Nat → Int
  | 0 => s.a | 1 => s.b | 2 => s.c | 3 => s.d | 4 => s.e | 5 => s.f | 6 => s.g | _ => s.h
theorem S8.vals_size (s : S8) : s.vals.size = 8 := rfl
theorem S8.vals_get (s : S8) (k : Nat) (h : k < 8) : s.vals[k]? = some (.int .u32 (s.nth k)) := by
  match k, h with
  | 0, _ | 1, _ | 2, _ | 3, _ | 4, _ | 5, _ | 6, _ | 7, _ => rfl
/-- The four bytes of a word. -/
def four (x : Int) : List Value := [.int .u8 (x / 16777216 % 256), .int .u8 (x / 65536 % 256), .int .u8 (x / 256 % 256), .int .u8 (x % 256)]
/-- sha.bytesOf, of the first k words. -/
def S8.bytes (s : S8) : Nat → List Value
  | 0 => []
  | k + 1 => s.bytes k ++ four (s.nth k)
theorem S8.bytes_length (s : S8) (k : Nat) : (s.bytes k).length = 4 * k := by
  induction k with
  | zero => rfl
  | succ k ih => simp [S8.bytes, four, ih]; omega
theorem padF_bd (bs : Nat → Int) (r : Nat) (L : Int) (room k i : Nat) (h : ∀ i, 0 ≤ bs i ∧ bs i < 256) : 0 ≤ padF bs r L room k i ∧ padF bs r L room k i < 256 := by
  unfold padF
  split
  · omega
  · split
    · exact h i
    · split <;> omega
theorem extW_step (f : Nat → Int) (n m : Nat) : (if m = 16 + n then (extW f n n + xor32 (xor32 (rorI (extW f n (1 + n)) 7) (rorI (extW f n (1 + n)) 18)) (extW f n (1 + n) / 8) + extW f n (9 + n) + xor32 (xor32 (rorI (extW f n (14 + n)) 17) (rorI (extW f n (14 + n)) 19)) (extW f n (14 + n) / 1024)) % 4294967296 else extW f n m) = extW f (n + 1) m := by
  show _ = (if m = 16 + n then nextW (extW f n) (16 + n) else extW f n m)
  have e : nextW (extW f n) (16 + n) = (extW f n n + sg0 (extW f n (1 + n)) + extW f n (9 + n) + sg1 (extW f n (14 + n))) % 4294967296 := by
    unfold nextW
    rw [show 16 + n - 16 = n by omega, show 16 + n - 15 = 1 + n by omega, show 16 + n - 7 = 9 + n by omega, show 16 + n - 2 = 14 + n by omega]
  rw [e]; rfl
end Go.Proofs.YteldgklcfemenaaDoor.Sh
