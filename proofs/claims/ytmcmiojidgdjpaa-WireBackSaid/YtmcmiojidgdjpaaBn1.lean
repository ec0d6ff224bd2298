/- Plain facts of the CRC-32 sum, over natural numbers. The contracts of slices.Sort and slices.Clone at []int, laid over this program. -/
import Derived.Test.YtmcmiojidgdjpaaRows
import Derived.Shelf.Sort.Plain
import Derived.Shelf.Slices.Clone
import Derived.Shelf.Slices.In.SortNone
import Derived.Test.YtmcmiojidgdjpaaProg
namespace Go.Proofs.Ytmcmiojidgdjpaa.Cr

/-- One bit is shifted out. -/
def st (r : Nat) : Nat := if r % 2 = 1 then r / 2 ^^^ 3988292384 else r / 2
/-- k bits are shifted out. -/
def stk : Nat → Nat → Nat
  | 0, r => r
  | k + 1, r => st (stk k r)
/-- The register behind k bytes. -/
def crc (r : Nat) (D : Nat → Nat) : Nat → Nat
  | 0 => r
  | k + 1 => stk 8 (crc r D k ^^^ D k)
theorem xor_lcomm (a b c : Nat) : a ^^^ (b ^^^ c) = b ^^^ (a ^^^ c) := by rw [← Nat.xor_assoc, Nat.xor_comm a b, Nat.xor_assoc]
theorem xor_canc {a b c : Nat} (h : a ^^^ b = a ^^^ c) : b = c := by
  have h2 : a ^^^ (a ^^^ b) = a ^^^ (a ^^^ c) := by rw [h]
  rwa [← Nat.xor_assoc, ← Nat.xor_assoc, Nat.xor_self, Nat.zero_xor, Nat.zero_xor] at h2
theorem xor_nil {a b : Nat} (h : a ^^^ b = 0) : b = a := xor_canc (a := a) (by rw [h, Nat.xor_self])
theorem xor_lt {a b : Nat} (ha : a < 4294967296) (hb : b < 4294967296) : a ^^^ b < 4294967296 := Nat.xor_lt_two_pow (n := 32) ha hb
theorem st_lt {r : Nat} (h : r < 4294967296) : st r < 4294967296 := by
  unfold st
  split
  · exact xor_lt (by omega) (by decide)
  · omega
theorem stk_lt {r : Nat} (h : r < 4294967296) : ∀ k, stk k r < 4294967296
  | 0 => h
  | k + 1 => st_lt (stk_lt h k)
theorem crc_lt {r : Nat} {D : Nat → Nat} (h : r < 4294967296) : ∀ k, (∀ i, i < k → D i < 256) → crc r D k < 4294967296
  | 0, _ => h
  | k + 1, hD => stk_lt (xor_lt (crc_lt h k fun i hi => hD i (by omega)) (by have := hD k (by omega); omega)) 8
theorem xor_parts (m a b c d : Nat) (ha : a < 2 ^ m) (hb : b < 2 ^ m) : (a + 2 ^ m * c) ^^^ (b + 2 ^ m * d) = (a ^^^ b) + 2 ^ m * (c ^^^ d) := by
  have h := Nat.div_add_mod ((a + 2 ^ m * c) ^^^ (b + 2 ^ m * d)) (2 ^ m)
  have hp : 0 < 2 ^ m := Nat.two_pow_pos m
  rw [Nat.xor_div_two_pow, Nat.xor_mod_two_pow, Nat.add_mul_div_left _ _ hp, Nat.add_mul_div_left _ _ hp, Nat.div_eq_of_lt ha, Nat.div_eq_of_lt hb, Nat.add_mul_mod_self_left, Nat.add_mul_mod_self_left, Nat.mod_eq_of_lt ha, Nat.mod_eq_of_lt hb, Nat.zero_add, Nat.zero_add] at h
  omega
theorem st_xor (a b : Nat) : st (a ^^^ b) = st a ^^^ st b := by
  have hd : (a ^^^ b) / 2 = a / 2 ^^^ b / 2 := Nat.xor_div_two_pow (n := 1)
  have hm : (a ^^^ b) % 2 = (a % 2) ^^^ (b % 2) := Nat.xor_mod_two_pow (n := 1)
  unfold st
  rw [hd, hm]
  have ha : a % 2 = 0 ∨ a % 2 = 1 := by omega
  have hb : b % 2 = 0 ∨ b % 2 = 1 := by omega
  generalize a / 2 = x
  generalize b / 2 = y
  rcases ha with ha | ha <;> rcases hb with hb | hb <;> rw [ha, hb] <;> simp
  · rw [Nat.xor_assoc]
  · rw [Nat.xor_assoc, Nat.xor_comm y, Nat.xor_assoc]
  · rw [Nat.xor_comm y, Nat.xor_assoc, ← Nat.xor_assoc 3988292384, Nat.xor_self, Nat.zero_xor]
theorem stk_xor (a b : Nat) : ∀ k, stk k (a ^^^ b) = stk k a ^^^ stk k b
  | 0 => rfl
  | k + 1 => by rw [stk, stk_xor a b k, st_xor]; rfl
theorem st_zero {r : Nat} (h : r < 4294967296) (h0 : st r = 0) : r = 0 := by
  unfold st at h0
  split at h0
  · have := xor_nil h0
    omega
  · omega
theorem stk_zero {r : Nat} (h : r < 4294967296) : ∀ k, stk k r = 0 → r = 0
  | 0, h0 => h0
  | k + 1, h0 => stk_zero h k (st_zero (stk_lt h k) h0)
theorem stk_of0 : ∀ k, stk k 0 = 0
  | 0 => rfl
  | k + 1 => by rw [stk, stk_of0 k]; rfl
theorem stk_add (a : Nat) (r : Nat) : ∀ b, stk (a + b) r = stk b (stk a r)
  | 0 => rfl
  | b + 1 => by rw [← Nat.add_assoc, stk, stk_add a r b]; rfl
theorem stk_mul (v : Nat) : ∀ k, stk k (2 ^ k * v) = v
  | 0 => by simp [stk]
  | k + 1 => by
    have h : ∀ k v, stk (k + 1) v = stk k (st v) := fun k v => by rw [Nat.add_comm, stk_add]; rfl
    rw [h, show 2 ^ (k + 1) * v = 2 * (2 ^ k * v) by rw [Nat.pow_succ, Nat.mul_comm (2 ^ k) 2, Nat.mul_assoc]]
    rw [show st (2 * (2 ^ k * v)) = 2 ^ k * v by unfold st; rw [if_neg (by omega)]; omega]
    exact stk_mul v k
theorem crc_xor (a b : Nat) (D E : Nat → Nat) : ∀ k, crc (a ^^^ b) (fun i => D i ^^^ E i) k = crc a D k ^^^ crc b E k
  | 0 => rfl
  | k + 1 => by
    rw [crc, crc_xor a b D E k, crc, crc, ← stk_xor]
    congr 1
    rw [Nat.xor_assoc, Nat.xor_assoc, xor_lcomm (crc b E k)]
theorem crc_congr {r : Nat} {D E : Nat → Nat} : ∀ k, (∀ i, i < k → D i = E i) → crc r D k = crc r E k
  | 0, _ => rfl
  | k + 1, h => by rw [crc, crc, crc_congr k (fun i hi => h i (by omega)), h k (by omega)]
theorem crc_add (r : Nat) (D : Nat → Nat) (n : Nat) : ∀ k, crc r D (n + k) = crc (crc r D n) (fun i => D (n + i)) k
  | 0 => rfl
  | k + 1 => by rw [← Nat.add_assoc, crc, crc_add r D n k]; rfl
/-- Four bytes as a number, the least first. -/
def le4 (D : Nat → Nat) (n : Nat) : Nat := D n + 256 * (D (n + 1) + 256 * (D (n + 2) + 256 * D (n + 3)))
theorem le4_lt {D : Nat → Nat} {n : Nat} (h : ∀ i, i < 4 → D (n + i) < 256) : le4 D n < 4294967296 := by
  have h0 := h 0 (by omega)
  have h1 := h 1 (by omega)
  have h2 := h 2 (by omega)
  have h3 := h 3 (by omega)
  rw [Nat.add_zero] at h0
  unfold le4
  omega
theorem xor_byte (a b c d : Nat) (ha : a < 256) (hb : b < 256) : (a + 256 * c) ^^^ (b + 256 * d) = (a ^^^ b) + 256 * (c ^^^ d) := xor_parts 8 a b c d ha hb
theorem le4_xor (D E : Nat → Nat) (n : Nat) (h : ∀ i, i < 4 → D (n + i) < 256 ∧ E (n + i) < 256) : le4 (fun i => D i ^^^ E i) n = le4 D n ^^^ le4 E n := by
  have h0 := h 0 (by omega)
  have h1 := h 1 (by omega)
  have h2 := h 2 (by omega)
  rw [Nat.add_zero] at h0
  unfold le4
  rw [xor_byte _ _ _ _ h0.1 h0.2, xor_byte _ _ _ _ h1.1 h1.2, xor_byte _ _ _ _ h2.1 h2.2]
theorem le4_zero {D : Nat → Nat} {n : Nat} (h : le4 D n = 0) : ∀ i, i < 4 → D (n + i) = 0 := by
  unfold le4 at h
  intro i hi
  match i, hi with
  | 0, _ => rw [Nat.add_zero]; omega
  | 1, _ | 2, _ | 3, _ => omega
theorem stk8_put (r v : Nat) : stk 8 (r ^^^ 256 * v) = stk 8 r ^^^ v := by
  rw [stk_xor, show stk 8 (256 * v) = v from stk_mul v 8]
theorem xor_add (a c : Nat) (ha : a < 256) : a ^^^ 256 * c = a + 256 * c := by
  have h := xor_byte a 0 0 c ha (by decide)
  simpa using h
/-- The register behind four bytes. -/
theorem crc_four (r : Nat) (D : Nat → Nat) (n : Nat) (h : ∀ i, i < 4 → D (n + i) < 256) : crc r (fun i => D (n + i)) 4 = stk 32 (r ^^^ le4 D n) := by
  have h0 := h 0 (by omega)
  have h1 := h 1 (by omega)
  have h2 := h 2 (by omega)
  have h3 := h 3 (by omega)
  rw [Nat.add_zero] at h0
  have e (k : Nat) : crc r (fun i => D (n + i)) (k + 1) = stk 8 (crc r (fun i => D (n + i)) k ^^^ D (n + k)) := rfl
  have e4 : crc r (fun i => D (n + i)) 4 = stk 8 (stk 8 (stk 8 (stk 8 (r ^^^ D n) ^^^ D (n + 1)) ^^^ D (n + 2)) ^^^ D (n + 3)) := by
    rw [e 3, e 2, e 1, e 0, Nat.add_zero, crc]
  have e5 (x : Nat) : stk 32 x = stk 8 (stk 8 (stk 8 (stk 8 x))) := by rw [← stk_add, ← stk_add, ← stk_add]
  rw [e4, e5]
  unfold le4
  rw [← xor_add _ _ h0, ← Nat.xor_assoc, stk8_put, ← xor_add _ _ h1, ← Nat.xor_assoc, stk8_put, ← xor_add _ _ h2, ← Nat.xor_assoc, stk8_put]
theorem crc_zeros (r : Nat) (D : Nat → Nat) : ∀ k, (∀ i, i < k → D i = 0) → crc r D k = stk (8 * k) r
  | 0, _ => rfl
  | k + 1, h => by rw [crc, crc_zeros r D k (fun i hi => h i (by omega)), h k (by omega), Nat.xor_zero, show 8 * (k + 1) = 8 * k + 8 by omega, stk_add]
/-- A change within four bytes side by side is seen. -/
theorem seen (D : Nat → Nat) (n a : Nat) (ha : a ≤ n) (hD : ∀ i, i < n + 4 → D i < 256) (hz : ∀ i, i < n + 4 → i < a ∨ a + 4 ≤ i → D i = 0) (h : crc 0 D n = le4 D n) : ∀ i, i < 4 → D (a + i) = 0 := by
  have h1 : crc 0 D (n + 4) = 0 := by
    rw [crc_add, crc_four _ _ _ (fun i hi => hD (n + i) (by omega)), h, Nat.xor_self, stk_of0]
  have h2 : crc 0 D a = 0 := by rw [crc_zeros 0 D a (fun i hi => hz i (by omega) (.inl hi)), stk_of0]
  obtain ⟨k, rfl⟩ : ∃ k, n = a + k := ⟨n - a, by omega⟩
  rw [show a + k + 4 = a + 4 + k by omega, crc_add, crc_add, h2, crc_four _ _ _ (fun i hi => hD (a + i) (by omega)), Nat.zero_xor, crc_zeros _ _ _ (fun i hi => hz (a + 4 + i) (by omega) (.inr (by omega)))] at h1
  have h3 := le4_lt (fun i hi => hD (a + i) (by omega))
  exact le4_zero (stk_zero h3 _ (stk_zero (stk_lt h3 _) _ h1))
/-- The sum of k bytes. -/
def sumN (D : Nat → Nat) (k : Nat) : Nat := crc 4294967295 D k ^^^ 4294967295
theorem sumN_lt {D : Nat → Nat} {k : Nat} (h : ∀ i, i < k → D i < 256) : sumN D k < 4294967296 := xor_lt (crc_lt (by decide) k h) (by decide)
theorem sumN_congr {D E : Nat → Nat} {k : Nat} (h : ∀ i, i < k → D i = E i) : sumN D k = sumN E k := by rw [sumN, crc_congr k h, sumN]
theorem sumN_xor (D E : Nat → Nat) (k : Nat) : sumN (fun i => D i ^^^ E i) k = sumN D k ^^^ crc 0 E k := by
  rw [sumN, sumN, show crc 4294967295 (fun i => D i ^^^ E i) k = crc 4294967295 D k ^^^ crc 0 E k from crc_xor 4294967295 0 D E k, Nat.xor_assoc, Nat.xor_comm (crc 0 E k), Nat.xor_assoc]
theorem sumN_xor3 (A B C : Nat → Nat) (k : Nat) : sumN (fun i => A i ^^^ B i ^^^ C i) k = sumN A k ^^^ sumN B k ^^^ sumN C k := by
  rw [sumN_xor, sumN_xor, sumN, sumN, sumN]
  rw [show crc 4294967295 B k = crc 4294967295 (fun _ => 0) k ^^^ crc 0 B k by rw [show crc 4294967295 B k = crc (4294967295 ^^^ 0) (fun i => 0 ^^^ B i) k by simp]; exact crc_xor 4294967295 0 (fun _ => 0) B k]
  rw [show crc 4294967295 C k = crc 4294967295 (fun _ => 0) k ^^^ crc 0 C k by rw [show crc 4294967295 C k = crc (4294967295 ^^^ 0) (fun i => 0 ^^^ C i) k by simp]; exact crc_xor 4294967295 0 (fun _ => 0) C k]
  generalize crc 4294967295 A k = a
  generalize crc 0 B k = b
  generalize crc 0 C k = c
  generalize crc 4294967295 (fun _ => 0) k = z
  generalize (4294967295 : Nat) = o
  apply Nat.eq_of_testBit_eq
  intro i
  simp only [Nat.testBit_xor]
  cases a.testBit i <;> cases b.testBit i <;> cases c.testBit i <;> cases z.testBit i <;> cases o.testBit i <;> rfl
/-- Opened or not, of sealed bytes that were changed within four side by side. -/
theorem open_iff (G D : Nat → Nat) (n a : Nat) (ha : a ≤ n) (hG : ∀ i, i < n + 4 → G i < 256) (hD : ∀ i, i < n + 4 → D i < 256) (hz : ∀ i, i < n + 4 → i < a ∨ a + 4 ≤ i → D i = 0) (hs : sumN G n = le4 G n) :
    (sumN (fun i => G i ^^^ D i) n = le4 (fun i => G i ^^^ D i) n) ↔ ∀ i, i < 4 → D (a + i) = 0 := by
  rw [sumN_xor, le4_xor _ _ _ (fun i hi => ⟨hG _ (by omega), hD _ (by omega)⟩), hs]
  constructor
  · intro h
    exact seen D n a ha hD hz (xor_canc h)
  · intro h
    have h0 : ∀ i, i < n + 4 → D i = 0 := by
      intro i hi
      by_cases q : i < a ∨ a + 4 ≤ i
      · exact hz i hi q
      · obtain ⟨j, rfl⟩ : ∃ j, i = a + j := ⟨i - a, by omega⟩
        exact h j (by omega)
    rw [crc_zeros 0 D n (fun i hi => h0 i (by omega)), stk_of0]
    congr 1
    unfold le4
    rw [h0 n (by omega), h0 (n + 1) (by omega), h0 (n + 2) (by omega), h0 (n + 3) (by omega)]
end Go.Proofs.Ytmcmiojidgdjpaa.Cr
namespace Go.Proofs
open Go.Shelf
def Try.lays189_ren : Go.Shelf.Ren := ⟨fun | 189 => 65 | 125 => 68 | 257 => 67 | 128 => 78 | 129 => 79 | 294 => 69 | 295 => 70 | 296 => 71 | 297 => 72 | 298 => 73 | 299 => 74 | 216 => 75 | 300 => 76 | 301 => 77 | 328 => 80 | 329 => 81 | 330 => 82 | 331 => 83 | 332 => 84 | 215 => 85 | 343 => 86 | n => n, fun | 28 => 22 | 3 => 3 | 46 => 40 | 0 => 0 | 51 => 73 | 53 => 64 | 4 => 4 | 183 => 86 | 182 => 85 | 131 => 52 | 5 => 5 | 9 => 9 | 218 => 94 | 222 => 98 | 228 => 100 | 229 => 101 | n => n, fun | n => n⟩
theorem Try.lays189 : Go.Proofs.Lays.n189 Try.prog Try.lays189_ren := {
  mixed := by kernel_rfl
  f125 := Try.func68.trans (congrArg some (by kernel_rfl))
  f128 := Try.func78.trans (congrArg some (by kernel_rfl))
  f129 := Try.func79.trans (congrArg some (by kernel_rfl))
  f189 := Try.func65.trans (congrArg some (by kernel_rfl))
  f215 := Try.func85.trans (congrArg some (by kernel_rfl))
  f216 := Try.func75.trans (congrArg some (by kernel_rfl))
  f257 := Try.func67.trans (congrArg some (by kernel_rfl))
  f294 := Try.func69.trans (congrArg some (by kernel_rfl))
  f295 := Try.func70.trans (congrArg some (by kernel_rfl))
  f296 := Try.func71.trans (congrArg some (by kernel_rfl))
  f297 := Try.func72.trans (congrArg some (by kernel_rfl))
  f298 := Try.func73.trans (congrArg some (by kernel_rfl))
  f299 := Try.func74.trans (congrArg some (by kernel_rfl))
  f300 := Try.func76.trans (congrArg some (by kernel_rfl))
  f301 := Try.func77.trans (congrArg some (by kernel_rfl))
  f328 := Try.func80.trans (congrArg some (by kernel_rfl))
  f329 := Try.func81.trans (congrArg some (by kernel_rfl))
  f330 := Try.func82.trans (congrArg some (by kernel_rfl))
  f331 := Try.func83.trans (congrArg some (by kernel_rfl))
  f332 := Try.func84.trans (congrArg some (by kernel_rfl))
  f343 := Try.func86.trans (congrArg some (by kernel_rfl))
  t0 := Try.underlying0
  a0 := Try.isAgg0
  z0 := Try.sizeOf0
  v0 := Try.zeroValue0
  t3 := Try.underlying3
  a3 := Try.isAgg3
  z3 := Try.sizeOf3
  v3 := Try.zeroValue3
  t4 := Try.underlying4
  a4 := Try.isAgg4
  z4 := Try.sizeOf4
  v4 := Try.zeroValue4
  t5 := Try.underlying5
  a5 := Try.isAgg5
  z5 := Try.sizeOf5
  v5 := Try.zeroValue5
  t9 := Try.underlying9
  a9 := Try.isAgg9
  z9 := Try.sizeOf9
  v9 := Try.zeroValue9
  t28 := Try.underlying22
  a28 := Try.isAgg22
  z28 := Try.sizeOf22
  v28 := Try.zeroValue22
  t46 := Try.underlying40
  a46 := Try.isAgg40
  z46 := Try.sizeOf40
  v46 := Try.zeroValue40
  t51 := Try.underlying73
  a51 := Try.isAgg73
  z51 := Try.sizeOf73
  v51 := Try.zeroValue73
  t53 := Try.underlying64
  a53 := Try.isAgg64
  z53 := Try.sizeOf64
  v53 := Try.zeroValue64
  t131 := Try.underlying52
  a131 := Try.isAgg52
  z131 := Try.sizeOf52
  v131 := Try.zeroValue52
  t182 := Try.underlying85
  a182 := Try.isAgg85
  z182 := Try.sizeOf85
  v182 := Try.zeroValue85
  t183 := Try.underlying86
  a183 := Try.isAgg86
  z183 := Try.sizeOf86
  v183 := Try.zeroValue86
  t218 := Try.underlying94
  a218 := Try.isAgg94
  z218 := Try.sizeOf94
  v218 := Try.zeroValue94
  t222 := Try.underlying98
  a222 := Try.isAgg98
  z222 := Try.sizeOf98
  v222 := Try.zeroValue98
  t228 := Try.underlying100
  a228 := Try.isAgg100
  z228 := Try.sizeOf100
  v228 := Try.zeroValue100
  t229 := Try.underlying101
  a229 := Try.isAgg101
  z229 := Try.sizeOf101
  v229 := Try.zeroValue101 }
open Go.Sort Go.RowKit in
theorem Try.slices_Sort_int (blk off cap : Nat) (zs : List Int) (w : World) (hH : Holds (Value.int .i64) w blk off zs.toArray) (hblk : blk < w.heap.size) (hsz : zs.length < 4611686018427387904) :
    Calls Try.prog 65 #[.slice (some ⟨blk, off, none⟩) zs.length cap] w fun e w' =>
      e = .returned (.tuple #[]) ∧ ∃ n os, w' = grow (putRow (Value.int .i64) (Sort.ahead w n) blk off (zs.mergeSort fun x y => decide (x ≤ y)).toArray) os := Any.slices_Sort_int Try.lays189 blk off cap zs w hH hblk hsz
def Try.laysNm215_ren : Go.Shelf.Ren := ⟨fun | 15 => 64 | n => n, fun | 22 => 22 | 3 => 3 | 4 => 4 | n => n, fun | n => n⟩
theorem Try.laysNm215 : Go.Proofs.Lays2.n15 Try.prog Try.laysNm215_ren := {
  mixed := by kernel_rfl
  f15 := Try.func64.trans (congrArg some (by kernel_rfl))
  t3 := Try.underlying3
  a3 := Try.isAgg3
  z3 := Try.sizeOf3
  v3 := Try.zeroValue3
  t4 := Try.underlying4
  a4 := Try.isAgg4
  z4 := Try.sizeOf4
  v4 := Try.zeroValue4
  t22 := Try.underlying22
  a22 := Try.isAgg22
  z22 := Try.sizeOf22
  v22 := Try.zeroValue22
  i3 := by kernel_rfl }
open Go.RowKit Go.Lib in
theorem Try.slices_Clone_int (b off n c : Nat) (zs : List Int) (w : World) (hz : n ≤ zs.length) (hbig : n * 8 ≤ 140737488355328) (hc : ∀ j, j < zs.length → w.cell? ⟨b, off + j, none⟩ = some (.int .i64 (zs.getD j 0))) :
    Calls Try.prog 64 #[.slice (some ⟨b, off, none⟩) n c] w fun e w' => ∃ v', e = .returned v' ∧ w'.ownsRow w.heap.size 3 1 v' n ((zs.take n).map (Value.int .i64)) ∧ v' ≠ .slice none 0 0 ∧ Below w.heap.size w w' := Any.slices_Clone_int Try.laysNm215 b off n c zs w hz hbig hc
open Go.RowKit Go.Lib in
theorem Try.slices_Clone_int_nil (n c : Nat) (w : World) :
    Calls Try.prog 64 #[.slice none n c] w fun e w' => e = .returned (.slice none 0 0) ∧ w' = w := Any.slices_Clone_int_nil Try.laysNm215 n c w
open Go.RowKit Go.Lib in
theorem Try.slices_Clone_int_zero (a : Addr) (c : Nat) (w : World) :
    Calls Try.prog 64 #[.slice (some a) 0 c] w fun e w' => ∃ v', e = .returned v' ∧ w'.ownsRow w.heap.size 3 1 v' 0 [] ∧ v' ≠ .slice none 0 0 ∧ Below w.heap.size w w' := Any.slices_Clone_int_zero Try.laysNm215 a c w
open Go.RowKit Go.Sort in
theorem Try.slices_Sort_int_none (p : Option Addr) (cap : Nat) (w : World) :
    Calls Try.prog 65 #[.slice p 0 cap] w fun e w' => e = .returned (.tuple #[]) ∧ w' = w := Any.slices_Sort_int_none Try.lays189 p cap w
end Go.Proofs
