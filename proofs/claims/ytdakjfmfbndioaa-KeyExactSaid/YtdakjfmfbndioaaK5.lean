/- Contracts with what they answer named ahead: Back, turn. -/
import Derived.Test.YtdakjfmfbndioaaK4
namespace Go.Proofs.Ytdakjfmfbndioaa
open Go.RowKit

/-- v is the key 2^b ahead of k. -/
def Bck (k b v : Int) : Prop := (v = k - 2 ^ b.toNat ∨ v = k - 2 ^ b.toNat + 4611686018427387904) ∧ 0 ≤ v ∧ v < 4611686018427387904
/-- v is k turned on by b. -/
def Trn (k b v : Int) : Prop := (v = k + b ∨ v = k + b - 4611686018427387904) ∧ 0 ≤ v ∧ v < 4611686018427387904

theorem trn_ex (k b : Int) (hk : Key k) (hb : Key b) : ∃ v, Trn k b v := by
  obtain ⟨k1, k2⟩ := hk
  obtain ⟨n1, n2⟩ := hb
  by_cases h : k + b < 4611686018427387904
  · exact ⟨k + b, .inl rfl, by omega, by omega⟩
  · exact ⟨k + b - 4611686018427387904, .inr rfl, by omega, by omega⟩
theorem bck_ex (k b : Int) (hk : Key k) (h : b ≤ 61) : ∃ v, Bck k b v := by
  obtain ⟨k1, k2⟩ := hk
  obtain ⟨p1, p2⟩ := pow_bd b.toNat (by omega)
  unfold Bck
  generalize (2 : Int) ^ b.toNat = p at *
  by_cases h : k < p
  · exact ⟨k - p + 4611686018427387904, .inr rfl, by omega, by omega⟩
  · exact ⟨k - p, .inl rfl, by omega, by omega⟩
theorem turn_is (k b v : Int) (hk : Key k) (hb : Key b) (h : Trn k b v) (w : World) :
    Calls Try.prog 18 #[.int .i64 k, .int .i64 b] w fun e w' => e = .returned (.int .i64 v) ∧ w' = w := by
  refine (turn_any k b hk hb w).mono ?_
  rintro e w1 ⟨x, rfl, rfl, hx⟩
  obtain ⟨h1, h2, h3⟩ := h
  obtain ⟨h4, h5, h6⟩ := hx
  obtain rfl : x = v := by omega
  exact ⟨rfl, rfl⟩
theorem back_is (k b v : Int) (hk : Key k) (h0 : 0 ≤ b) (h1 : b ≤ 61) (h : Bck k b v) (w : World) :
    Calls Try.prog 10 #[.int .i64 k, .int .i64 b] w fun e w' => e = .returned (.tuple #[.int .i64 v, .int .i64 0]) ∧ w' = w := by
  obtain ⟨n, rfl⟩ := Int.eq_ofNat_of_zero_le h0
  refine (back_any k n hk (by omega) w).mono ?_
  rintro e w1 ⟨x, rfl, rfl, hx⟩
  unfold Bck at h
  rw [Int.toNat_natCast] at h
  generalize (2 : Int) ^ n = p at *
  obtain ⟨h1, h2, h3⟩ := h
  obtain ⟨h4, h5, h6⟩ := hx
  obtain rfl : x = v := by omega
  exact ⟨rfl, rfl⟩
theorem key_of_beh {k n v : Int} (h : Beh k n v) : Key v := ⟨h.2.1, h.2.2⟩
end Go.Proofs.Ytdakjfmfbndioaa
