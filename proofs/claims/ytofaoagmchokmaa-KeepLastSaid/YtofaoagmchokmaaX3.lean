/- Walk of bellwetherlaw15.KeepLast. -/
import Derived.Test.YtofaoagmchokmaaP1
import Derived.Test.YtofaoagmchokmaaA6
namespace Go.Proofs.Ytofaoagmchokmaa
open Go.RowKit

set_option maxRecDepth 100000 in
theorem last_long (x : Option Addr) (len cap : Nat) (first limit frm : Int) (w : World) (hl : 60 < len) :
    Calls Try.prog 4 #[.slice x len cap, .int .i64 first, .int .i64 limit, .int .i64 frm] w fun e w' => e = .returned (.bool true) ∧ Below w.heap.size w w' := by
  go_enter Try.func4, Try.ntmps4
  go_wp2
  go_ret
  exact ⟨rfl, Below.refl _ _⟩
theorem pk_rows (F : Nat → Int) (f : Int) (c len n : Nat) (hn : min c len = n) {i : Nat} (h : i < n) : kz (pk F f c len) i = (f + len - n + i, vm (F (len - n + i))) := by
  rw [pk_kz F f (by omega)]
  have e : len - c = len - n := by omega
  rw [e]
  congr 1
  omega
theorem wid (n : Int) (h1 : -9223372036854775808 ≤ n) (h2 : n ≤ 9223372036854775807) : IntKind.i64.wrap n = n := (IntKind.wrap_i64 n).trans (by omega)
theorem vm_w (x : Int) : vm x = IntKind.i64.wrap ((IntKind.u64.wrap x).tmod 1000) := by
  rw [IntKind.wrap_i64, ← vm_is x]
  unfold wrap64
  omega
theorem run_min2 (c len : Nat) (ts : Array TypeId) (t : TypeId) (w : World) : (Builtin.min_ ts t #[.int .i64 (c : Int), .int .i64 (len : Int)]).run Try.prog w = .ok (.int .i64 ((min c len : Nat) : Int)) w := by
  rw [run_min_int2]
  congr 2
  split <;> omega
set_option maxHeartbeats 4000000 in
set_option maxRecDepth 100000 in
theorem last_core (x : Option Addr) (len cap : Nat) (F : Nat → Int) (first limit frm : Int) (w : World) (h : IL w (.slice x len cap) len F) (hl : len ≤ 60) :
    Calls Try.prog 4 #[.slice x len cap, .int .i64 first, .int .i64 limit, .int .i64 frm] w fun e w' => e = .returned (.bool true) ∧ Below w.heap.size w w' := by
  obtain ⟨T, hT, t1, t2⟩ := modN first 1000 (by omega) (by omega)
  obtain ⟨S, hS, s1, s2⟩ := modN limit 16 (by omega) (by omega)
  have HF := hide h
  clear h
  go_enter Try.func4, Try.ntmps4
  go_upto_region 4 with fail
  rw [hT, hS]
  clear hT hS
  obtain ⟨f, hf⟩ : ∃ f, 1 + T = f := ⟨_, rfl⟩
  obtain ⟨c, hc⟩ : ∃ c : Nat, 1 + S = (c : Int) := ⟨(1 + S).toNat, by omega⟩
  rw [hf, hc]
  obtain ⟨f1, f2⟩ : 1 ≤ f ∧ f ≤ 1000 := by omega
  obtain ⟨c1, c2⟩ : 1 ≤ c ∧ c ≤ 16 := by omega
  clear hf hc t1 t2 s1 s2
  go_wp2
  go_loopw [9, 10, 11] (fun lv wv iv w3 => ∃ (V : Value) (k : Nat), k ≤ len ∧ lv = V ∧ wv = .int .i64 (f + k) ∧ iv = .int .i64 k ∧ KL w3 V (pk F f c k) ∧ Below w.heap.size w w3) (fun _ _ iv _ => len - (intOf iv).toNat)
  case atStart => exact ⟨_, 0, by omega, rfl, by simp, rfl, by rw [pk_zero]; exact KL.nil _, Below.refl _ _⟩
  case round =>
    obtain ⟨V, k, hk, hu1, rfl, rfl, o1, hb⟩ := hrel
    obtain rfl := hu1.symm
    have K1 := hide o1
    have HB := hide hb
    by_cases hlt : k < len
    · obtain ⟨b, off, rfl, hle, hc, hbb, d1⟩ := il_cell ((unhide HF).below hb (Nat.le_refl _)) hlt
      have P1 := hide (fun W hK => push_pk F f c k c1 c2 f1 (by omega) V W hK)
      have HV := hide (vm_is (F k))
      clear o1 hb
      generalize vm (F k) = vv at *
      generalize F k = y at *
      go_wp2_with (go_at_call 7; rw [unhide HV]; refine (unhide P1 _ (unhide K1)).mono ?_; rintro e w1 ⟨v1, rfl, o, b⟩; have K1 := hide o; have HB := hide (below_of (unhide HB) b); clear o b)
      go_roundw
      case rel => exact ⟨_, k + 1, by omega, rfl, by simp; omega, by go_num, unhide K1, unhide HB⟩
      case measure => simp [intOf]; omega
    · obtain rfl : k = len := by omega
      obtain ⟨q1, e1, rfl⟩ := kl_form o1
      obtain ⟨n, hn⟩ : ∃ n, min c k = n := ⟨_, rfl⟩
      obtain ⟨W, hW⟩ : ∃ W, f + (k : Int) = W := ⟨_, rfl⟩
      have hmn := run_min2 c k
      have HR := hide (pk_rt F f c k c1 c2 f1 (by omega))
      have HZ := hide (fun i (hi : i < n) => pk_rows F f c k n hn hi)
      have HL := hide (show (pk F f c k).length = n by rw [pk_len, hn])
      have n16 : n ≤ 16 := by omega
      have nk : n ≤ k := by omega
      have g1 : (n : Int) < W := by omega
      have g2 : W ≤ 2000 := by omega
      rw [hn] at hmn
      rw [unhide HL] at K1 ⊢
      rw [hW] at HR HZ ⊢
      clear o1 hb hn hW
      generalize pk F f c k = L at *
      obtain ⟨wa, hwa⟩ : ∃ x, x = wr := ⟨_, rfl⟩
      subst hwa
      have HX := hide (show ∀ i, i < n → (kz L i).2 = IntKind.i64.wrap ((IntKind.u64.wrap (F (k - n + i))).tmod 1000) from fun i hi => by rw [unhide HZ i hi]; exact vm_w _)
      have HY := hide (show ∀ i, i < n → (kz L i).1 = W - n + i from fun i hi => by rw [unhide HZ i hi])
      clear HZ hlt
      go_upto_region 16 with (go_at_call 11; refine (check_ok L W c _ _ (unhide K1) (unhide HR)).mono ?_; rintro e w2 ⟨rfl, b⟩; have K1 := hide ((unhide K1).below b (Nat.le_refl _)); have HB := hide (below_of (unhide HB) b); clear b)
      clear hmn
      go_wp2
      go_loopw [15] (fun iv w3 => ∃ i : Nat, i ≤ n ∧ iv = .int .i64 i ∧ Below w2.heap.size w2 w3) (fun iv _ => n - (intOf iv).toNat)
      case atStart => exact ⟨0, by omega, rfl, Below.refl _ _⟩
      case round =>
        obtain ⟨i, hi, rfl, hb⟩ := hrel
        have HB2 := hide hb
        by_cases hlt : i < n
        · obtain ⟨b, off, rfl, hle, hc, hbb, d1, d2⟩ := kl_cell ((unhide K1).below hb (Nat.le_refl _)) hlt
          rw [unhide HX i hlt] at d2
          rw [unhide HY i hlt] at d1
          obtain ⟨b', off', rfl, hle', hc', hbb', d3⟩ := il_cell (((unhide HF).below (unhide HB) (Nat.le_refl _)).below hb (Nat.le_refl _)) (show k - n + i < k by omega)
          generalize F (k - n + i) = y at *
          rw [show k - n + i = ((k : Int) - n + i).toNat by omega] at d3
          have j1 : (0 : Int) ≤ (k : Int) - n + i := by omega
          have j2 : (k : Int) - n + i < k := by omega
          have b1 : (W - (n : Int) + i != W - n + i) = false := by simp
          have b2 : (IntKind.i64.wrap ((IntKind.u64.wrap y).tmod 1000) != IntKind.i64.wrap ((IntKind.u64.wrap y).tmod 1000)) = false := by simp
          have e1 := wid (W - (n : Int)) (by omega) (by omega)
          have e2 := wid (W - (n : Int) + i) (by omega) (by omega)
          have e3 := wid ((k : Int) - n) (by omega) (by omega)
          have e4 := wid ((k : Int) - n + i) (by omega) (by omega)
          clear hb
          go_wp2
          go_quiet (fail)
          go_wp2
          go_roundw
          case rel => exact ⟨i + 1, by omega, by go_num, below_drewN (unhide HB2) _⟩
          case measure => simp [intOf]; omega
        · have hin : n = i := by omega
          subst hin
          have HBB := hide (below_up (unhide HB) (hb.mono (unhide HB).size))
          have K1 := hide ((unhide K1).below hb (Nat.le_refl _))
          clear hb HB2
          go_upto_region 22 with fail
          obtain ⟨Fr, hFr, p1, p2⟩ := modN frm (W + 3) (by omega) (by omega)
          rw [hFr, show wrap64 (1 + Fr) = 1 + Fr by unfold wrap64; omega]
          obtain ⟨AA, hAA⟩ : ∃ AA, 1 + Fr = AA := ⟨_, rfl⟩
          rw [hAA]
          obtain ⟨p3, p4⟩ : 1 ≤ AA ∧ AA ≤ W + 3 := by omega
          clear hFr hAA p1 p2
          obtain ⟨w5, hw5⟩ : ∃ x, x = wr := ⟨_, rfl⟩
          subst hw5
          go_wp2
          go_loopw [16, 17] (fun av kv w3 => ∃ (A : Int) (j : Nat), j ≤ 2 ∧ av = .int .i64 A ∧ kv = .int .i64 j ∧ 1 ≤ A ∧ A ≤ W + 3 ∧ (j = 0 ∨ W ≤ A ∨ W - n + 8 * (j : Int) ≤ A) ∧ Below w5.heap.size w5 w3) (fun _ kv _ => 20 - (intOf kv).toNat)
          case atStart => exact ⟨AA, 0, by omega, rfl, rfl, p3, p4, .inl rfl, Below.refl _ _⟩
          case round =>
          clear p3 p4
          obtain ⟨A, j, hj, rfl, rfl, a1, a2, hd, hb⟩ := hrel
          have HBj := hide hb
          have K1 := hide ((unhide K1).below hb (Nat.le_refl _))
          clear hb
          by_cases hA : A < W
          · have j20 : j < 2 := by omega
            by_cases hg : A < W - n
            · obtain ⟨a0, ha0⟩ : ∃ a0 : Int, W - (n : Int) = a0 := ⟨_, rfl⟩
              obtain ⟨X, hX⟩ : ∃ X, (A - (W - (n : Int))).toNat = X := ⟨_, rfl⟩
              have HLL := hide (show agL L W A = (L.drop X).take 8 by unfold agL; rw [unhide HL, hX])
              have HGG := hide (show agG n W A = W - n - 1 by unfold agG; rw [if_pos hg])
              obtain ⟨m, hm⟩ : ∃ m, min (n - X) 8 = m := ⟨_, rfl⟩
              have HM := hide (show (agL L W A).length = m by rw [unhide HLL, List.length_take, List.length_drop, unhide HL, Nat.min_comm]; exact hm)
              have HA0 := hide (show a0 = W - n + X by omega)
              have HZZ := hide (show ∀ i, i < m → (kz (agL L W A) i).1 = a0 + i ∧ (kz (agL L W A) i).2 = (kz L (X + i)).2 from fun i hi => by
                rw [unhide HLL, kz_take (by omega), kz_drop]
                exact ⟨by rw [unhide HY (X + i) (by omega), unhide HA0]; omega, rfl⟩)
              have HD := hide (show j + 1 = 0 ∨ W ≤ a0 + m ∨ W - n + 8 * ((j + 1 : Nat) : Int) ≤ a0 + m by omega)
              have m8 : m ≤ 8 := by omega
              have mx : X + m ≤ n := by omega
              have x1 : a0 + (m : Int) ≤ W := by omega
              have x2 : 1 ≤ a0 := by omega
              have hmx : ∀ (ts : Array TypeId) (t : TypeId) (w : World), (Builtin.max_ ts t #[.int .i64 A, .int .i64 (W - (n : Int))]).run Try.prog w = .ok (.int .i64 a0) w := fun ts t w => by
                rw [run_max_int2, if_pos (by omega), ha0]
              have g5 : (0 : Int) < W - n - 1 := by omega
              have d5 : decide ((0 : Int) < W - n - 1) = true := by simp; omega
              have d6 : decide (A < W - (n : Int)) = true := by simp; omega
              have CA := hide (show ∀ V, KL V (.slice q1 n e1) L → Calls Try.prog 8 #[.slice q1 n e1, .int .i64 W, .int .i64 (c : Int), .int .i64 A] V fun e w' => ∃ q2 e2, e = .returned (.tuple #[.int .i64 (W - n - 1), .slice q2 m e2, .int .i64 0]) ∧ KL w' (.slice q2 m e2) (agL L W A) ∧ Below V.heap.size V w' from fun V hV => by
                refine (again_ok L W c A _ V hV (unhide HR) a1 hA).mono ?_
                rintro e w' ⟨v, rfl, o, b⟩
                rw [unhide HL, unhide HGG]
                obtain ⟨q2, e2, rfl⟩ := kl_form o
                rw [unhide HM] at o ⊢
                exact ⟨q2, e2, rfl, o, b⟩)
              clear ha0 hX hm hd
              generalize agL L W A = LL at *
              have m1 := trivial
              go_upto_region 30 with (go_at_call 8; refine (unhide CA _ (unhide K1)).mono ?_; rintro e w6 ⟨q2, e2, rfl, o, b⟩; have KT := hide o; have K1 := hide ((unhide K1).below b (Nat.le_refl _)); have HB6 := hide (below_of (unhide HBj) b); clear o b)
              clear CA HM HGG HLL
              go_wp2
              go_loopw [16, 21] (fun av iv w4 => ∃ i : Nat, i ≤ m ∧ av = .int .i64 (a0 + i) ∧ iv = .int .i64 i ∧ Below w6.heap.size w6 w4) (fun _ iv _ => m - (intOf iv).toNat)
              case atStart => exact ⟨0, by omega, by simp, rfl, Below.refl _ _⟩
              case round =>
                obtain ⟨i, hi, rfl, rfl, hb⟩ := hrel
                have HBi := hide hb
                by_cases hlt : i < m
                · obtain ⟨b, off, rfl, hle, hc, hbb, d1, d2⟩ := kl_cell ((unhide KT).below hb (Nat.le_refl _)) hlt
                  obtain ⟨z1, z2⟩ := unhide HZZ i hlt
                  obtain ⟨b', off', rfl, hle', hc', hbb', d3, d4⟩ := kl_cell ((unhide K1).below hb (Nat.le_refl _)) (show X + i < n by omega)
                  have z3 := unhide HY (X + i) (by omega)
                  rw [z1] at d1
                  rw [z2] at d2
                  rw [z3, show W - (n : Int) + ((X + i : Nat) : Int) = a0 + i by have := unhide HA0; omega] at d3
                  generalize (kz L (X + i)).2 = y at *
                  have hidx : X + i = (a0 + (i : Int) - W + n).toNat := by have := unhide HA0; omega
                  rw [hidx] at d3 d4
                  have j1 : (0 : Int) ≤ a0 + (i : Int) - W + n := by have := unhide HA0; omega
                  have j2 : a0 + (i : Int) - W + n < n := by have := unhide HA0; omega
                  have b1 : decide (W ≤ a0 + (i : Int)) = false := by have := unhide HA0; simp; omega
                  have b2 : decide (a0 + (i : Int) < W - (n : Int)) = false := by have := unhide HA0; simp; omega
                  have b3 : (a0 + (i : Int) != a0 + (i : Int)) = false := by simp
                  have e1 := wid (W - (n : Int)) (by omega) (by omega)
                  have e2 := wid (a0 + (i : Int) - W) (by omega) (by omega)
                  have e3 := wid (a0 + (i : Int) - W + n) (by omega) (by omega)
                  have u1 : a0 + (i : Int) ≤ 5000 := by omega
                  clear hb hidx z1 z2 z3
                  go_wp2
                  go_quiet (fail)
                  go_wp2
                  go_roundw
                  case rel => exact ⟨i + 1, by omega, by simp; omega, by go_num, below_drewN (unhide HBi) _⟩
                  case measure => simp [intOf]; omega
                · have him : m = i := by omega
                  subst him
                  have HBo := hide (below_up (unhide HB6) (hb.mono (unhide HB6).size))
                  clear hb HBi
                  go_wp2
                  go_roundw
                  case rel => exact ⟨a0 + m, j + 1, by omega, rfl, by go_num, by omega, by omega, unhide HD, unhide HBo⟩
                  case measure => simp [intOf]; omega
            · obtain ⟨a0, ha0⟩ : ∃ a0 : Int, A = a0 := ⟨_, rfl⟩
              obtain ⟨X, hX⟩ : ∃ X, (A - (W - (n : Int))).toNat = X := ⟨_, rfl⟩
              have HLL := hide (show agL L W A = (L.drop X).take 8 by unfold agL; rw [unhide HL, hX])
              have HGG := hide (show agG n W A = 0 by unfold agG; rw [if_neg hg])
              obtain ⟨m, hm⟩ : ∃ m, min (n - X) 8 = m := ⟨_, rfl⟩
              have HM := hide (show (agL L W A).length = m by rw [unhide HLL, List.length_take, List.length_drop, unhide HL, Nat.min_comm]; exact hm)
              have HA0 := hide (show a0 = W - n + X by omega)
              have HZZ := hide (show ∀ i, i < m → (kz (agL L W A) i).1 = a0 + i ∧ (kz (agL L W A) i).2 = (kz L (X + i)).2 from fun i hi => by
                rw [unhide HLL, kz_take (by omega), kz_drop]
                exact ⟨by rw [unhide HY (X + i) (by omega), unhide HA0]; omega, rfl⟩)
              have HD := hide (show j + 1 = 0 ∨ W ≤ a0 + m ∨ W - n + 8 * ((j + 1 : Nat) : Int) ≤ a0 + m by omega)
              have m8 : m ≤ 8 := by omega
              have mx : X + m ≤ n := by omega
              have x1 : a0 + (m : Int) ≤ W := by omega
              have x2 : 1 ≤ a0 := by omega
              have hmx : ∀ (ts : Array TypeId) (t : TypeId) (w : World), (Builtin.max_ ts t #[.int .i64 A, .int .i64 1]).run Try.prog w = .ok (.int .i64 a0) w := fun ts t w => by
                rw [run_max_int2, if_neg (by omega), ha0]
              have d6 : decide (A < W - (n : Int)) = false := by simp; omega
              have CA := hide (show ∀ V, KL V (.slice q1 n e1) L → Calls Try.prog 8 #[.slice q1 n e1, .int .i64 W, .int .i64 (c : Int), .int .i64 A] V fun e w' => ∃ q2 e2, e = .returned (.tuple #[.int .i64 (0), .slice q2 m e2, .int .i64 0]) ∧ KL w' (.slice q2 m e2) (agL L W A) ∧ Below V.heap.size V w' from fun V hV => by
                refine (again_ok L W c A _ V hV (unhide HR) a1 hA).mono ?_
                rintro e w' ⟨v, rfl, o, b⟩
                rw [unhide HL, unhide HGG]
                obtain ⟨q2, e2, rfl⟩ := kl_form o
                rw [unhide HM] at o ⊢
                exact ⟨q2, e2, rfl, o, b⟩)
              clear ha0 hX hm hd
              generalize agL L W A = LL at *
              have m1 := trivial
              go_upto_region 30 with (go_at_call 8; refine (unhide CA _ (unhide K1)).mono ?_; rintro e w6 ⟨q2, e2, rfl, o, b⟩; have KT := hide o; have K1 := hide ((unhide K1).below b (Nat.le_refl _)); have HB6 := hide (below_of (unhide HBj) b); clear o b)
              clear CA HM HGG HLL
              go_wp2
              go_loopw [16, 21] (fun av iv w4 => ∃ i : Nat, i ≤ m ∧ av = .int .i64 (a0 + i) ∧ iv = .int .i64 i ∧ Below w6.heap.size w6 w4) (fun _ iv _ => m - (intOf iv).toNat)
              case atStart => exact ⟨0, by omega, by simp, rfl, Below.refl _ _⟩
              case round =>
                obtain ⟨i, hi, rfl, rfl, hb⟩ := hrel
                have HBi := hide hb
                by_cases hlt : i < m
                · obtain ⟨b, off, rfl, hle, hc, hbb, d1, d2⟩ := kl_cell ((unhide KT).below hb (Nat.le_refl _)) hlt
                  obtain ⟨z1, z2⟩ := unhide HZZ i hlt
                  obtain ⟨b', off', rfl, hle', hc', hbb', d3, d4⟩ := kl_cell ((unhide K1).below hb (Nat.le_refl _)) (show X + i < n by omega)
                  have z3 := unhide HY (X + i) (by omega)
                  rw [z1] at d1
                  rw [z2] at d2
                  rw [z3, show W - (n : Int) + ((X + i : Nat) : Int) = a0 + i by have := unhide HA0; omega] at d3
                  generalize (kz L (X + i)).2 = y at *
                  have hidx : X + i = (a0 + (i : Int) - W + n).toNat := by have := unhide HA0; omega
                  rw [hidx] at d3 d4
                  have j1 : (0 : Int) ≤ a0 + (i : Int) - W + n := by have := unhide HA0; omega
                  have j2 : a0 + (i : Int) - W + n < n := by have := unhide HA0; omega
                  have b1 : decide (W ≤ a0 + (i : Int)) = false := by have := unhide HA0; simp; omega
                  have b2 : decide (a0 + (i : Int) < W - (n : Int)) = false := by have := unhide HA0; simp; omega
                  have b3 : (a0 + (i : Int) != a0 + (i : Int)) = false := by simp
                  have e1 := wid (W - (n : Int)) (by omega) (by omega)
                  have e2 := wid (a0 + (i : Int) - W) (by omega) (by omega)
                  have e3 := wid (a0 + (i : Int) - W + n) (by omega) (by omega)
                  have u1 : a0 + (i : Int) ≤ 5000 := by omega
                  clear hb hidx z1 z2 z3
                  go_wp2
                  go_quiet (fail)
                  go_wp2
                  go_roundw
                  case rel => exact ⟨i + 1, by omega, by simp; omega, by go_num, below_drewN (unhide HBi) _⟩
                  case measure => simp [intOf]; omega
                · have him : m = i := by omega
                  subst him
                  have HBo := hide (below_up (unhide HB6) (hb.mono (unhide HB6).size))
                  clear hb HBi
                  go_wp2
                  go_roundw
                  case rel => exact ⟨a0 + m, j + 1, by omega, rfl, by go_num, by omega, by omega, unhide HD, unhide HBo⟩
                  case measure => simp [intOf]; omega
          · have CF := hide (show ∀ V, KL V (.slice q1 n e1) L → Calls Try.prog 8 #[.slice q1 n e1, .int .i64 W, .int .i64 (c : Int), .int .i64 W] V fun e w' => e = .returned (.tuple #[.int .i64 0, .slice none 0 0, .int .i64 0]) ∧ Below V.heap.size V w' from fun V hV => again_far L W c W _ V hV (unhide HR) (by omega) (Int.le_refl _))
            have HBo := hide (below_of (unhide HBB) (unhide HBj))
            have j20 : j < 20 := by omega
            clear hd
            go_wp2_with (first
              | (go_at_call 8; refine (unhide CF _ (unhide K1)).mono ?_; rintro e w7 ⟨rfl, b⟩; have HBo := hide (below_of (unhide HBo) b); clear b)
              | (go_at_call 12; refine (wakes_any _).mono ?_; rintro e w8 ⟨rfl, b⟩; have HBo := hide (below_of (unhide HBo) b); clear b))
            go_ret
            exact ⟨rfl, unhide HBo⟩
theorem last_walk (x : Option Addr) (len cap : Nat) (zs : List Int) (first limit frm : Int) (w : World) (h : IsRow .i64 w x len cap zs) :
    Calls Try.prog 4 #[.slice x len cap, .int .i64 first, .int .i64 limit, .int .i64 frm] w fun e w' => e = .returned (.bool true) ∧ Below w.heap.size w w' := by
  by_cases hl : 60 < len
  · exact last_long x len cap first limit frm w hl
  · exact last_core x len cap _ first limit frm w h.il (by omega)
end Go.Proofs.Ytofaoagmchokmaa
