/- Walk of bellwetherlaw15.KeepMore. -/
import Derived.Test.YtofaoagmchokmaaP1
import Derived.Test.YtofaoagmchokmaaA6
import Derived.Laws.Cover1
namespace Go.Proofs.Ytofaoagmchokmaa
open Go.RowKit

theorem run_lo (A B : Int) (c : Nat) (h : (c : Int) = if B < A then B else A) (ts : Array TypeId) (t : TypeId) (w : World) : (Builtin.min_ ts t #[.int .i64 A, .int .i64 B]).run Try.prog w = .ok (.int .i64 (c : Int)) w := by
  rw [run_min_int2, h]
theorem run_hi (A B : Int) (c : Nat) (h : (c : Int) = if B > A then B else A) (ts : Array TypeId) (t : TypeId) (w : World) : (Builtin.max_ ts t #[.int .i64 A, .int .i64 B]).run Try.prog w = .ok (.int .i64 (c : Int)) w := by
  rw [run_max_int2, h]
theorem run_lo3 (A B : Int) (n m : Nat) (h : (m : Int) = if (n : Int) < (if B < A then B else A) then (n : Int) else (if B < A then B else A)) (ts : Array TypeId) (t : TypeId) (w : World) : (Builtin.min_ ts t #[.int .i64 A, .int .i64 B, .int .i64 (n : Int)]).run Try.prog w = .ok (.int .i64 (m : Int)) w := by
  rw [run_min_int3, h]
theorem more_long (x : Option Addr) (len cap : Nat) (first a b : Int) (w : World) (hl : 60 < len) :
    Calls Try.prog 5 #[.slice x len cap, .int .i64 first, .int .i64 a, .int .i64 b] w fun e w' => e = .returned (.bool true) ∧ Below w.heap.size w w' := by
  go_enter Try.func5, Try.ntmps5
  go_wp2
  go_ret
  exact ⟨rfl, Below.refl _ _⟩
set_option maxHeartbeats 4000000 in
set_option maxRecDepth 100000 in
theorem more_core (x : Option Addr) (len cap : Nat) (F : Nat → Int) (first a b : Int) (w : World) (h : IL w (.slice x len cap) len F) (hl : len ≤ 60) :
    Calls Try.prog 5 #[.slice x len cap, .int .i64 first, .int .i64 a, .int .i64 b] w fun e w' => e = .returned (.bool true) ∧ Below w.heap.size w w' := by
  obtain ⟨T, hT, t1, t2⟩ := modN first 1000 (by omega) (by omega)
  obtain ⟨S, hS, s1, s2⟩ := modN a 16 (by omega) (by omega)
  obtain ⟨R, hR, r1, r2⟩ := modN b 16 (by omega) (by omega)
  have HF := hide h
  clear h
  go_enter Try.func5, Try.ntmps5
  go_upto_region 4 with fail
  rw [hT, hS, hR]
  clear hT hS hR
  obtain ⟨f, hf⟩ : ∃ f, 1 + T = f := ⟨_, rfl⟩
  obtain ⟨A, hA⟩ : ∃ A, 1 + S = A := ⟨_, rfl⟩
  obtain ⟨B, hB⟩ : ∃ B, 1 + R = B := ⟨_, rfl⟩
  rw [hf, hA, hB]
  obtain ⟨f1, f2⟩ : 1 ≤ f ∧ f ≤ 1000 := by omega
  obtain ⟨A1, A2⟩ : 1 ≤ A ∧ A ≤ 16 := by omega
  obtain ⟨B1, B2⟩ : 1 ≤ B ∧ B ≤ 16 := by omega
  clear hf hA hB t1 t2 s1 s2 r1 r2
  obtain ⟨cl, hcl⟩ : ∃ cl : Nat, (cl : Int) = if B < A then B else A := ⟨(if B < A then B else A).toNat, by split <;> omega⟩
  obtain ⟨ch, hch⟩ : ∃ ch : Nat, (ch : Int) = if B > A then B else A := ⟨(if B > A then B else A).toNat, by split <;> omega⟩
  have c1 : 1 ≤ cl := by split at hcl <;> omega
  have c2 : ch ≤ 16 := by split at hch <;> omega
  have c3 : cl ≤ ch := by split at hcl <;> split at hch <;> omega
  have HLO := hide (fun ts t w => run_lo A B cl hcl ts t w)
  have HHI := hide (fun ts t w => run_hi A B ch hch ts t w)
  have HL3 := hide (fun m hm ts t w => run_lo3 A B len m (by rw [← hcl]; exact hm) ts t w)
  clear hcl hch
  go_wp2
  go_loopw [9, 10, 11] (fun xv yv iv w3 => ∃ (V1 V2 : Value) (k : Nat), k ≤ len ∧ xv = V1 ∧ yv = V2 ∧ iv = .int .i64 k ∧ KL w3 V1 (pk F f cl k) ∧ KL w3 V2 (pk F f ch k) ∧ Below w.heap.size w w3) (fun _ _ iv _ => len - (intOf iv).toNat)
  case atStart => exact ⟨_, _, 0, by omega, rfl, rfl, rfl, by rw [pk_zero]; exact KL.nil _, by rw [pk_zero]; exact KL.nil _, Below.refl _ _⟩
  case round =>
    obtain ⟨V1, V2, k, hk, hu1, hu2, rfl, o1, o2, hb⟩ := hrel
    obtain rfl := hu1.symm
    obtain rfl := hu2.symm
    have K1 := hide o1
    have K2 := hide o2
    have HB := hide hb
    by_cases hlt : k < len
    · obtain ⟨b, off, rfl, hle, hc, hbb, d1⟩ := il_cell ((unhide HF).below hb (Nat.le_refl _)) hlt
      have P1 := hide (fun W hK => push_pk F f cl k c1 (by omega) f1 (by omega) V1 W hK)
      have P2 := hide (fun W hK => push_pk F f ch k (by omega) c2 f1 (by omega) V2 W hK)
      have hvm := vm_is (F k)
      clear o1 o2 hb
      generalize vm (F k) = vv at *
      generalize F k = y at *
      go_upto_region 9 with fail
      rw [hvm]
      clear hvm
      have hlo := unhide HLO
      have hhi := unhide HHI
      have m1 := trivial
      go_wp2_with (first
        | (clear m1; go_at_call 7; refine (unhide P1 _ (unhide K1)).mono ?_; rintro e w1 ⟨v1, rfl, o, b⟩; have K1 := hide o; have K2 := hide ((unhide K2).below b (Nat.le_refl _)); have HB := hide (below_of (unhide HB) b); clear o b)
        | (go_at_call 7; refine (unhide P2 _ (unhide K2)).mono ?_; rintro e w2 ⟨v2, rfl, o, b⟩; have K2 := hide o; have K1 := hide ((unhide K1).below b (Nat.le_refl _)); have HB := hide (below_of (unhide HB) b); clear o b))
      go_roundw
      case rel => exact ⟨_, _, k + 1, by omega, rfl, rfl, by go_num, unhide K1, unhide K2, unhide HB⟩
      case measure => simp [intOf]; omega
    · obtain rfl : k = len := by omega
      obtain ⟨q1, e1, rfl⟩ := kl_form o1
      obtain ⟨q2, e2, rfl⟩ := kl_form o2
      have l1 := pk_len F f cl k
      have l2 := pk_len F f ch k
      have hmn := unhide HL3 (min cl k) (by split <;> omega)
      have hend := pk_end F f cl ch k c3
      rw [← l1] at hmn
      rw [← l1, ← l2] at hend
      have n12 : (pk F f cl k).length ≤ (pk F f ch k).length := by omega
      have n16 : (pk F f ch k).length ≤ 16 := by omega
      have HE := hide hend
      clear l1 l2 hend o1 o2 hb
      generalize hn1 : (pk F f cl k).length = n1 at *
      generalize hn2 : (pk F f ch k).length = n2 at *
      clear hn1 hn2
      obtain ⟨a2, g2, hs, hkk⟩ := kl_at q2 n2 e2 ((n2 : Int) - n1) (by omega) (by omega)
      have ht : ((n2 : Int) - n1).toNat = n2 - n1 := by omega
      rw [ht] at hs hkk
      have K3 := hide (hkk _ _ (unhide K2))
      rw [unhide HE] at K3
      clear hkk ht
      go_wp2_with (first
        | (go_at_call 9; refine (items_same _ _ _ _ (unhide K3) (unhide K1)).mono ?_; rintro e w1 ⟨rfl, b⟩; have HB := hide (below_of (unhide HB) b); clear b)
        | (go_at_call 12; refine (wakes_any _).mono ?_; rintro e w2 ⟨rfl, b⟩; have HB := hide (below_of (unhide HB) b); clear b))
      go_ret
      exact ⟨rfl, unhide HB⟩
theorem more_walk (x : Option Addr) (len cap : Nat) (zs : List Int) (first a b : Int) (w : World) (h : IsRow .i64 w x len cap zs) :
    Calls Try.prog 5 #[.slice x len cap, .int .i64 first, .int .i64 a, .int .i64 b] w fun e w' => e = .returned (.bool true) ∧ Below w.heap.size w w' := by
  by_cases hl : 60 < len
  · exact more_long x len cap first a b w hl
  · exact more_core x len cap _ first a b w h.il (by omega)
end Go.Proofs.Ytofaoagmchokmaa
