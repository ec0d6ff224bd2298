/- sha.Sum of whatever bytes; walk of sha.Head. -/
import Derived.Test.YteldgklcfemenaaDoorShA8
import Derived.Test.YteldgklcfemenaaDoorShA9
import Derived.Test.YteldgklcfemenaaDoorShB4
namespace Go.Proofs.YteldgklcfemenaaDoor.Sh
open Go.RowKit

/-- The slice v holds the n bytes f in w. -/
def BSl (w : World) (v : Value) (n : Nat) (f : Nat → Int) : Prop :=
  (n = 0 ∧ (v = .slice none 0 0 ∨ ∃ x cap, v = .slice (some x) 0 cap ∧ cap < 2 ^ 63)) ∨ ∃ b off cap, v = .slice (some ⟨b, off, none⟩) n cap ∧ n ≤ cap ∧ (cap < 2 ^ 63 ∧ n < 2 ^ 60) ∧ b < w.heap.size ∧ ∀ i : Nat, i < n → w.cell? ⟨b, off + i, none⟩ = some (.int .u8 (f i))
theorem BSl.below {w w' : World} {v : Value} {n B : Nat} {f : Nat → Int} (h : BSl w v n f) (hb : Below B w w') (hB : w.heap.size ≤ B) : BSl w' v n f := by
  rcases h with h | ⟨b, off, cap, h1, h2, h3, h4, h5⟩
  · exact .inl h
  · exact .inr ⟨b, off, cap, h1, h2, h3, Nat.lt_of_lt_of_le h4 hb.size, fun i hi => by rw [hb.cell (p := ⟨b, off + i, none⟩) (by show b < B; omega)]; exact h5 i hi⟩
/-- The sum's eight words. -/
def shaS (s0 : S8) (kk bs : Nat → Int) (n : Nat) : S8 :=
  if n % 64 < 56 then S8.blocks kk (padF (fun i => bs (64 * (n / 64) + i)) (n % 64) ((64 * ((n / 64 : Nat) : Int) + ((n % 64 : Nat) : Int)) * 8) 64 8) (S8.blocks kk bs s0 (n / 64)) 1
  else S8.blocks kk (padF (fun i => bs (64 * (n / 64) + i)) (n % 64) ((64 * ((n / 64 : Nat) : Int) + ((n % 64 : Nat) : Int)) * 8) 128 8) (S8.blocks kk bs s0 (n / 64)) 2

theorem sum_any (s0 : S8) (kk f : Nat → Int) (v : Value) (n : Nat) (w : World) (hG : Glob s0 kk w) (hv : BSl w v n f) (hf : ∀ i, 0 ≤ f i ∧ f i < 256) :
    Calls Tryd.prog 27 #[v] w fun e w' => ∃ g, e = .returned (.slice (some ⟨g, 0, none⟩) 32 32) ∧ w'.ownsRow w.heap.size 5 1 (.slice (some ⟨g, 0, none⟩) 32 32) 32 ((shaS s0 kk f n).bytes 8) ∧ Below w.heap.size w w' := by
  rcases hv with ⟨rfl, hz⟩ | ⟨b, off, cap, rfl, h1, h2, h3, h4⟩
  · have e : shaS s0 kk f 0 = S8.blocks kk (padF f 0 0 64 8) s0 1 := by
      have e1 : (fun i => f (64 * (0 / 64) + i)) = f := by funext i; congr 1; omega
      unfold shaS
      rw [if_pos (by decide), e1]
      rfl
    rw [e]
    rcases hz with rfl | ⟨x, cap, rfl, _⟩
    · exact sum_nil s0 kk f w hG hf
    · exact sum_zero s0 kk f x cap w hG hf
  · have hn : n = 64 * (n / 64) + n % 64 := by omega
    unfold shaS
    by_cases h56 : n % 64 < 56
    · rw [if_pos h56]
      have := sum_one s0 kk f b off (n / 64) (n % 64) cap w hG (fun i hi => h4 i (by omega)) hf (by omega) h56 (by omega) h2.1 (by omega) h3
      rw [← hn] at this
      exact this
    · rw [if_neg h56]
      have := sum_two s0 kk f b off (n / 64) (n % 64) cap w hG (fun i hi => h4 i (by omega)) hf (by omega) (by omega) (by omega) h2.1 (by omega) h3
      rw [← hn] at this
      exact this

/-- Byte i of the eight words. -/
def S8.byte (s : S8) (i : Nat) : Int := s.nth (i / 4) / 256 ^ (3 - i % 4) % 256
theorem S8.byte_bd (s : S8) (i : Nat) : 0 ≤ s.byte i ∧ s.byte i < 256 := by unfold S8.byte; omega
theorem S8.bytes_get (s : S8) : ∀ (k i : Nat), i < 4 * k → (s.bytes k)[i]? = some (.int .u8 (s.byte i))
  | 0, i, h => by omega
  | k + 1, i, h => by
    unfold S8.bytes
    by_cases hk : i < 4 * k
    · rw [List.getElem?_append_left (by rw [S8.bytes_length]; exact hk)]
      exact S8.bytes_get s k i hk
    · rw [List.getElem?_append_right (by rw [S8.bytes_length]; omega), S8.bytes_length]
      have h4 : i / 4 = k := by omega
      unfold S8.byte four
      rw [h4]
      obtain ⟨j, hj⟩ : ∃ j, i - 4 * k = j := ⟨_, rfl⟩
      have hm : i % 4 = j := by omega
      rw [hj, hm]
      have : j < 4 := by omega
      match j, this with
      | 0, _ | 1, _ | 2, _ | 3, _ => simp
theorem sum_sl {w : World} {g B : Nat} {s : S8} (h : w.ownsRow B 5 1 (.slice (some ⟨g, 0, none⟩) 32 32) 32 (s.bytes 8)) : BSl w (.slice (some ⟨g, 0, none⟩) 32 32) 32 s.byte := by
  refine .inr ⟨g, 0, 32, rfl, Nat.le_refl _, ⟨by decide, by decide⟩, (h.lt g rfl).2, fun i hi => ?_⟩
  rw [Nat.zero_add, h.cellAt i (by omega), S8.bytes_get s 8 i (by omega)]

/-- The number of the first k bytes. -/
def headN (f : Nat → Int) : Nat → Int
  | 0 => 0
  | k + 1 => headN f k * 256 + f k
theorem headN_bd (f : Nat → Int) (hf : ∀ i, 0 ≤ f i ∧ f i < 256) : ∀ k, 0 ≤ headN f k ∧ headN f k < 256 ^ k
  | 0 => by simp [headN]
  | k + 1 => by
    have := headN_bd f hf k
    have := hf k
    rw [headN, Int.pow_succ]
    omega
theorem or_bytes (a x : Int) (h0 : 0 ≤ a) (h1 : a < 2 ^ 56) (h2 : 0 ≤ x) (h3 : x < 256) : bits .or .u64 (IntKind.u64.wrap (a * 256)) x = a * 256 + x := by
  have hm : IntKind.u64.wrap (a * 256) = a * 256 := by simp [IntKind.wrap, IntKind.bits, IntKind.signed]; omega
  rw [hm]
  obtain ⟨n, rfl⟩ := Int.eq_ofNat_of_zero_le h0
  obtain ⟨m, rfl⟩ := Int.eq_ofNat_of_zero_le h2
  have e1 : (BitVec.ofInt 64 ((n : Int) * 256)).toNat = 2 ^ 8 * n := by
    rw [BitVec.toNat_ofInt]; omega
  have e2 : (BitVec.ofInt 64 (m : Int)).toNat = m := by
    rw [BitVec.toNat_ofInt]; omega
  have e3 := Nat.two_pow_add_eq_or_of_lt (i := 8) (b := m) (by omega) n
  show IntKind.u64.wrap (((BitVec.ofInt 64 ((n : Int) * 256) ||| BitVec.ofInt 64 (m : Int)).toNat : Nat) : Int) = _
  rw [BitVec.toNat_or, e1, e2, ← e3]
  simp [IntKind.wrap, IntKind.bits, IntKind.signed]
  omega

set_option maxRecDepth 100000 in
set_option maxHeartbeats 1000000 in
theorem head_any (s0 : S8) (kk f : Nat → Int) (v : Value) (n : Nat) (w : World) (hG : Glob s0 kk w) (hv : BSl w v n f) (hf : ∀ i, 0 ≤ f i ∧ f i < 256) :
    Calls Tryd.prog 21 #[v] w fun e w' => e = .returned (.int .i64 (headN (shaS s0 kk f n).byte 8 / 4)) ∧ Below w.heap.size w w' := by
  have Hv := hide hv
  have HG := hide hG
  clear hv hG
  go_enter Tryd.func21, Tryd.ntmps21
  go_wp2_with (go_at_call 27; refine (sum_any s0 kk f v n _ (unhide HG) (unhide Hv) hf).mono ?_; rintro e w1 ⟨g, rfl, hown, hbel⟩)
  generalize hs : shaS s0 kk f n = s at *
  have Hs := hide hs
  clear hs
  go_loopw [3, 10] (fun x xi w2 => ∃ k : Nat, k ≤ 8 ∧ xi = .int .i64 k ∧ x = .int .u64 (headN s.byte k) ∧ w2 = w1) (fun _ i _ => 8 - (intOf i).toNat)
  case atStart => exact ⟨0, by omega, rfl, rfl, rfl⟩
  case round =>
    obtain ⟨k, hk, rfl, rfl, rfl⟩ := hrel
    by_cases hlt : k < 8
    · have hx : wr.cell? ⟨g, k, none⟩ = some (.int .u8 (s.byte k)) := by
        rw [hown.cellAt k (by omega), S8.bytes_get s 8 k (by omega)]
      have hb := S8.byte_bd s k
      have hh := headN_bd s.byte (S8.byte_bd s) k
      have hp : (256 : Int) ^ k ≤ 2 ^ 56 := by
        have : k ≤ 7 := by omega
        match k, this with
        | 0, _ | 1, _ | 2, _ | 3, _ | 4, _ | 5, _ | 6, _ | 7, _ => decide
      have hor := or_bytes (headN s.byte k) (s.byte k) hh.1 (by omega) hb.1 hb.2
      obtain ⟨hb0, hb1⟩ := hb
      clear hp hh
      go_wp2
      go_roundw
      case rel =>
        exact ⟨k + 1, by omega, by go_num, rfl, trivial⟩
      case measure => simp [intOf]; omega
    · have : k = 8 := by omega
      subst this
      have hh := headN_bd s.byte (S8.byte_bd s) 8
      obtain ⟨hh0, hh1⟩ := hh
      go_wp2
      go_ret
      exact ⟨by rw [unhide Hs]; rfl, hbel⟩
end Go.Proofs.YteldgklcfemenaaDoor.Sh
