/- Walks of the page's turned, digits, times. -/
import Derived.Test.YtaojifgbnllebaaDoorV
import Derived.Test.YtaojifgbnllebaaDoorA7
namespace Go.Proofs.YtaojifgbnllebaaDoor
open Go.RowKit

/-- The page's way to turn a word. -/
def rorR (x : Int) (n : Int) : Int := bits .or .u32 (x / 2 ^ n.toNat) (x * 2 ^ (32 - n).toNat % 4294967296)
theorem bits_or_comm (x y : Int) : bits .or .u32 x y = bits .or .u32 y x := by
  show IntKind.u32.wrap (((BitVec.ofInt 32 x ||| BitVec.ofInt 32 y).toNat : Nat) : Int) = IntKind.u32.wrap (((BitVec.ofInt 32 y ||| BitVec.ofInt 32 x).toNat : Nat) : Int)
  rw [BitVec.or_comm]
theorem rorR_eq (x n : Int) : rorR x n = rorI x n := bits_or_comm _ _

theorem rturned_any (x : Int) (n : Int) (h0 : 1 ≤ n) (h1 : n ≤ 31) (w : World) :
    Calls Tryd.prog 20 #[.int .u32 x, .int .i64 n] w fun e w' => e = .returned (.int .u32 (rorI x n)) ∧ ∃ m, w' = w.drewN m := by
  have e1 : min (32 - n).toNat 32 = (32 - n).toNat := by omega
  have e2 : min n.toNat 32 = n.toNat := by omega
  have hw : IntKind.i64.wrap (32 - n) = 32 - n := wrap_id _ (by omega) (by omega)
  have h2 : 0 ≤ n := by omega
  have h3 : 0 ≤ 32 - n := by omega
  rw [← rorR_eq]
  go_enter Tryd.func20, Tryd.ntmps20
  go_wp2
  go_quiet (fail)
  go_wp2
  go_ret
  exact ⟨rfl, nq, rfl⟩

theorem info41 : (Tryd.prog.info? 41).map (fun i => (i.zero, i.size, i.bytes)) = some (some (.int .u64 0), 1, 8) := by kernel_rfl
def dq (x : Int) : Nat → Int
  | 0 => x
  | k + 1 => dq x k / 65536
/-- The digits of a number. -/
def digF (x : Int) (k : Nat) : Int := dq x k % 65536
def uL (F : Nat → Int) (n : Nat) : List Value := (List.range n).map fun j => .int .u64 (F j)
theorem uL_succ (F : Nat → Int) (n : Nat) : uL F (n + 1) = uL F n ++ [.int .u64 (F n)] := by simp [uL, List.range_succ]
theorem uL_length (F : Nat → Int) (n : Nat) : (uL F n).length = n := by simp [uL]
theorem uL_get (F : Nat → Int) (n i : Nat) (h : i < n) : (uL F n)[i]? = some (.int .u64 (F i)) := by simp [uL, h]
theorem dq_nonneg (x : Int) (h : 0 ≤ x) : ∀ k, 0 ≤ dq x k
  | 0 => h
  | k + 1 => by have := dq_nonneg x h k; unfold dq; omega
theorem digF_dig (x : Int) (n : Nat) : Dig (digF x) n := fun j _ => by unfold digF; omega
theorem val_digF (x : Int) : ∀ k, val (digF x) k + dq x k * pw k = x
  | 0 => by simp [val, dq, pw]
  | k + 1 => by
    have ih := val_digF x k
    show val (digF x) k + dq x k % 65536 * pw k + dq x k / 65536 * (pw k * 65536) = x
    have e : dq x k / 65536 * (pw k * 65536) = dq x k / 65536 * 65536 * pw k := by rw [Int.mul_comm (pw k) 65536, Int.mul_assoc]
    rw [e, Int.add_assoc, ← Int.add_mul, show dq x k % 65536 + dq x k / 65536 * 65536 = dq x k by omega]
    exact ih
theorem val_dig4 (x : Int) (h0 : 0 ≤ x) (h1 : x < 18446744073709551616) : val (digF x) 4 = x := by
  have h := val_digF x 4
  have hd : dq x 4 = 0 := by show x / 65536 / 65536 / 65536 / 65536 = 0; omega
  rw [hd] at h
  omega

theorem dq_lt (x : Int) (h : 0 ≤ x) (h1 : x < 18446744073709551616) : ∀ k, dq x k < 18446744073709551616
  | 0 => h1
  | k + 1 => by have := dq_lt x h h1 k; have := dq_nonneg x h k; unfold dq; omega
theorem dq_step (x : Int) (h : 0 ≤ x) (h1 : x < 18446744073709551616) (k : Nat) : IntKind.u64.wrap ((dq x k).tdiv 65536) = dq x (k + 1) := by
  have a := dq_nonneg x h k
  have b := dq_lt x h h1 k
  rw [Int.tdiv_eq_ediv_of_nonneg a]
  show _ = dq x k / 65536
  simp [IntKind.wrap, IntKind.bits, IntKind.signed]
  omega
set_option maxRecDepth 100000 in
theorem digits_any (x : Int) (h0 : 0 ≤ x) (h1 : x < 18446744073709551616) (w : World) :
    Calls Tryd.prog 25 #[.int .u64 x] w fun e w' => ∃ v, e = .returned v ∧ w'.ownsRow w.heap.size 41 1 v 4 (uL (digF x) 4) ∧ Below w.heap.size w w' := by
  obtain ⟨i, hi, hz0, hz1, hz2⟩ := info_parts info41
  go_enter Tryd.func25, Tryd.ntmps25
  go_wp2
  go_loopw [0, 3, 4] (fun xn v xi w1 => ∃ k : Nat, k ≤ 4 ∧ xi = .int .i64 k ∧ xn = .int .u64 (dq x k) ∧ w1.ownsRow w.heap.size 41 1 v k (uL (digF x) k) ∧ Below w.heap.size w w1) (fun _ _ i _ => 4 - (intOf i).toNat)
  case atStart => exact ⟨0, by omega, rfl, rfl, World.ownsRow_nil _ _ _ _, Below.refl _ _⟩
  case round =>
    obtain ⟨k, hk, rfl, rfl, hown, hbel⟩ := hrel
    have hd := dq_nonneg x h0 k
    by_cases hlt : k < 4
    · go_wp2_with (at_builtin; refine wpList_append_own _ rfl (.tmp 9) (.tmp 12) 46 rfl w.heap.size 41 i (.int .u64 0) 1 8 Tryd.underlying46 hi hz0 hz1 hz2 rfl (by decide) _ k _ rfl (hown.alloc _) ⟨wr.heap.size, 0, none⟩ 1 1 [.int .u64 (digF x k)] rfl rfl (cells_lit _ _ 41) (by intro u hu; simp at hu; subst hu; rfl) (by unfold maxLen; omega) (by omega) (by have := hbel.size; simp; omega) ?_)
      intro v2 w2 hown2 hgrow2 _
      go_wp2
      go_roundw
      case rel =>
        refine ⟨k + 1, by omega, by go_num, by rw [dq_step x h0 h1 k], by rw [uL_succ]; exact hown2, (hbel.alloc hbel.size _).grown hgrow2 (by have := hbel.size; simp; omega) (fun b hb => (hown.lt b hb).1)⟩
      case measure => simp [intOf]; omega
    · have : k = 4 := by omega
      subst this
      go_wp2
      go_ret
      exact ⟨_, rfl, hown, hbel⟩
end Go.Proofs.YtaojifgbnllebaaDoor
