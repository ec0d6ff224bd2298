/- Walk of the page's Hex. -/
import Derived.Test.YtaojifgbnllebaaDoorR7
namespace Go.Proofs.YtaojifgbnllebaaDoor
open Go.RowKit

/-- The sixteen digits. -/
theorem sliceDig (m : Int) (h0 : 0 ≤ m) (h1 : m < 16) (w : World) :
    (Instr.slice 9 (.string { data := #[48, 49, 50, 51, 52, 53, 54, 55, 56, 57, 97, 98, 99, 100, 101, 102] }) (some (.int .u8 m)) (some (.int .u8 (m + 1))) none).run Tryd.prog w = .ok (.string (strOfNums [hexd m])) w := by
  obtain ⟨n, rfl⟩ := Int.eq_ofNat_of_zero_le h0
  have h2 : n < 16 := by omega
  match n, h2 with
  | 0, _ | 1, _ | 2, _ | 3, _ | 4, _ | 5, _ | 6, _ | 7, _ | 8, _ | 9, _ | 10, _ | 11, _ | 12, _ | 13, _ | 14, _ | 15, _ =>
    unfold Instr.slice
    simp only [Sem.run_bind, run_underlying Tryd.underlying9 w]
    rfl
theorem strOf_app (a b : List Int) : strOfNums a ++ strOfNums b = strOfNums (a ++ b) := by
  apply ByteArray.ext
  simp [strOfNums]
theorem u8_div (x : Int) (h0 : 0 ≤ x) (h1 : x < 256) : IntKind.u8.wrap (x.tdiv 16) = x / 16 := by
  rw [Int.tdiv_eq_ediv_of_nonneg h0]; simp [IntKind.wrap, IntKind.bits, IntKind.signed]; omega
theorem u8_mod (x : Int) (h0 : 0 ≤ x) (_ : x < 256) : IntKind.u8.wrap (x.tmod 16) = x % 16 := by
  rw [Int.tmod_eq_emod_of_nonneg h0]; simp [IntKind.wrap, IntKind.bits, IntKind.signed]; omega
theorem u8_one (x : Int) (h0 : 0 ≤ x) (h1 : x < 16) : IntKind.u8.wrap (x + 1) = x + 1 := by
  simp [IntKind.wrap, IntKind.bits, IntKind.signed]; omega

theorem add_strs (a b : List Int) (h : a.length + b.length ≤ 1000000) (w : World) : (Op.stringOp .add (strOfNums a) (strOfNums b)).run Tryd.prog w = .ok (.string (strOfNums (a ++ b))) w := by
  rw [run_string_add_sum w _ _ (by rw [strOfNums_size, strOfNums_size]; omega), strOf_app]

set_option maxRecDepth 100000 in
set_option maxHeartbeats 1000000 in
theorem rhex_any (f : Nat → Int) (v : Value) (n : Nat) (w : World) (hv : BSl w v n f) (hf : ∀ i, 0 ≤ f i ∧ f i < 256) (hn : n ≤ 100000) :
    Calls Tryd.prog 12 #[v] w fun e w' => e = .returned (.string (strOfNums (hexI f n))) ∧ ∃ m, w' = w.drewN m := by
  obtain ⟨p, cap, rfl⟩ := bsl_slice hv
  have Hv := hide hv
  clear hv
  go_enter Tryd.func12, Tryd.ntmps12
  go_wp2
  go_loopw [4, 5] (fun x xi w2 => ∃ k : Nat, k ≤ n ∧ xi = .int .i64 k ∧ x = .string (strOfNums (hexI f k)) ∧ ∃ m, w2 = w.drewN m) (fun _ i _ => n - (intOf i).toNat)
  case atStart => exact ⟨0, by omega, rfl, rfl, 0, rfl⟩
  case round =>
    obtain ⟨k, hk, rfl, rfl, m, hW⟩ := hrel
    by_cases hlt : k < n
    · obtain ⟨b, off, rfl, hb, hc⟩ := bsl_some (unhide Hv) (by omega)
      have hx : wr.cell? ⟨b, off + k, none⟩ = some (.int .u8 (f k)) := by
        rw [hW]; exact hc k hlt
      obtain ⟨b0, b1⟩ := hf k
      have e1 := u8_div (f k) b0 b1
      have e2 := u8_mod (f k) b0 b1
      have e3 := u8_one (f k / 16) (by omega) (by omega)
      have e4 := u8_one (f k % 16) (by omega) (by omega)
      have s1 := sliceDig (f k / 16) (by omega) (by omega)
      have s2 := sliceDig (f k % 16) (by omega) (by omega)
      have hl := hexI_length f k
      have a1 := add_strs (hexI f k) [hexd (f k / 16)] (by simp; omega)
      have a2 := add_strs (hexI f k ++ [hexd (f k / 16)]) [hexd (f k % 16)] (by simp; omega)
      clear hl
      have HW := hide hW
      clear hc hW
      go_wp2
      go_quiet (fail)
      go_wp2
      go_roundw
      case rel => exact ⟨k + 1, by omega, by go_num, rfl, m + nq, by rw [unhide HW, World.drewN_drewN]⟩
      case measure => simp [intOf]; omega
    · obtain rfl : k = n := by omega
      subst hW
      go_wp2
      go_ret
      exact ⟨rfl, m, rfl⟩
end Go.Proofs.YtaojifgbnllebaaDoor
