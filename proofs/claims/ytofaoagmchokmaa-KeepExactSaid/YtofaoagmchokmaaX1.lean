/- Walk of bellwetherlaw15.KeepExact. -/
import Derived.Test.YtofaoagmchokmaaA5
import Derived.Test.YtofaoagmchokmaaA6
namespace Go.Proofs.Ytofaoagmchokmaa
open Go.RowKit

set_option maxHeartbeats 1000000 in
set_option maxRecDepth 100000 in
theorem exact_no_no (x : Option Addr) (len cap : Nat) (L : List It) (want limit value frm : Int) (w : World) (h : KL w (.slice x len cap) L) (hl : len ≤ 40) (hr : ¬ Rt L want limit)  :
    Calls Try.prog 3 #[.slice x len cap, .int .i64 want, .int .i64 limit, .int .i64 value, .int .i64 frm] w fun e w' => e = .returned (.bool true) ∧ Below w.heap.size w w' := by
  have HL := hide (show L.length ≤ 1000 by have := (kl_cap h).1; omega)
  have K0 := hide h
  have HR := hide hr
  clear h hr
  go_enter Try.func3, Try.ntmps3
  have m1 := trivial
  go_wp2_with (first
    | (go_at_call 6; refine (twin_k L _ _ (unhide K0) (unhide HL)).mono ?_; rintro e w1 ⟨v1, rfl, o, b⟩; have KIN := hide o.kl; clear o; have K0 := hide ((unhide K0).below b (Nat.le_refl _)); have B := hide b; clear b)
    | (go_at_call 7; refine (push_no L want limit value _ _ (unhide KIN) (unhide HR)).mono ?_; rintro e w2 ⟨rfl, b⟩; have K0 := hide ((unhide K0).below b (Nat.le_refl _)); have KIN := hide ((unhide KIN).below b (Nat.le_refl _)); have B := hide (below_of (unhide B) b); clear b)
    | (go_at_call 8; refine (again_no L want limit frm _ _ (unhide KIN) (unhide HR)).mono ?_; rintro e w3 ⟨rfl, b⟩; have K0 := hide ((unhide K0).below b (Nat.le_refl _)); have KIN := hide ((unhide KIN).below b (Nat.le_refl _)); have B := hide (below_of (unhide B) b); clear b)
    | (clear m1; go_at_call 9; refine (items_same L _ _ _ (unhide KIN) (unhide K0)).mono ?_; rintro e w4 ⟨rfl, b⟩; have K0 := hide ((unhide K0).below b (Nat.le_refl _)); have KIN := hide ((unhide KIN).below b (Nat.le_refl _)); have B := hide (below_of (unhide B) b); clear b)
    | (go_at_call 10; refine (kept_no L _ limit _ _ (unhide K0) (unhide HR)).mono ?_; rintro e w5 ⟨rfl, b⟩; have K0 := hide ((unhide K0).below b (Nat.le_refl _)); have KIN := hide ((unhide KIN).below b (Nat.le_refl _)); have B := hide (below_of (unhide B) b); clear b)
    | (go_at_call 11; refine (check_no L _ limit _ _ (unhide KIN) (unhide HR)).mono ?_; rintro e w6 ⟨rfl, b⟩; have K0 := hide ((unhide K0).below b (Nat.le_refl _)); have KIN := hide ((unhide KIN).below b (Nat.le_refl _)); have B := hide (below_of (unhide B) b); clear b)
    | (go_at_call 12; refine (wakes_any _).mono ?_; rintro e w10 ⟨rfl, b⟩; have B := hide (below_of (unhide B) b); clear b))
  go_ret
  exact ⟨rfl, unhide B⟩
set_option maxHeartbeats 1000000 in
set_option maxRecDepth 100000 in
theorem exact_val_arg (x : Option Addr) (len cap : Nat) (L : List It) (want limit value frm : Int) (w : World) (h : KL w (.slice x len cap) L) (hl : len ≤ 40) (hr : Rt L want limit) (hv : ¬ isV value) (hf : frm < 1) :
    Calls Try.prog 3 #[.slice x len cap, .int .i64 want, .int .i64 limit, .int .i64 value, .int .i64 frm] w fun e w' => e = .returned (.bool true) ∧ Below w.heap.size w w' := by
  have HL := hide (show L.length ≤ 1000 by have := (kl_cap h).1; omega)
  have K0 := hide h
  have HR := hide hr
  have HV := hide hv
  clear h hr hv
  go_enter Try.func3, Try.ntmps3
  have m1 := trivial
  go_wp2_with (first
    | (go_at_call 6; refine (twin_k L _ _ (unhide K0) (unhide HL)).mono ?_; rintro e w1 ⟨v1, rfl, o, b⟩; have KIN := hide o.kl; clear o; have K0 := hide ((unhide K0).below b (Nat.le_refl _)); have B := hide b; clear b)
    | (go_at_call 7; refine (push_value L want limit value _ _ (unhide KIN) (unhide HR) (unhide HV)).mono ?_; rintro e w2 ⟨rfl, b⟩; have K0 := hide ((unhide K0).below b (Nat.le_refl _)); have KIN := hide ((unhide KIN).below b (Nat.le_refl _)); have B := hide (below_of (unhide B) b); clear b)
    | (go_at_call 8; refine (again_arg L want limit frm _ _ (unhide KIN) (unhide HR) hf).mono ?_; rintro e w3 ⟨rfl, b⟩; have K0 := hide ((unhide K0).below b (Nat.le_refl _)); have KIN := hide ((unhide KIN).below b (Nat.le_refl _)); have B := hide (below_of (unhide B) b); clear b)
    | (clear m1; go_at_call 9; refine (items_same L _ _ _ (unhide KIN) (unhide K0)).mono ?_; rintro e w4 ⟨rfl, b⟩; have K0 := hide ((unhide K0).below b (Nat.le_refl _)); have KIN := hide ((unhide KIN).below b (Nat.le_refl _)); have B := hide (below_of (unhide B) b); clear b)
    | (go_at_call 10; refine (kept_ok L _ limit _ _ (unhide K0) (unhide HR)).mono ?_; rintro e w5 ⟨rfl, b⟩; have K0 := hide ((unhide K0).below b (Nat.le_refl _)); have KIN := hide ((unhide KIN).below b (Nat.le_refl _)); have B := hide (below_of (unhide B) b); clear b)
    | (go_at_call 11; refine (check_ok L _ limit _ _ (unhide KIN) (unhide HR)).mono ?_; rintro e w6 ⟨rfl, b⟩; have K0 := hide ((unhide K0).below b (Nat.le_refl _)); have KIN := hide ((unhide KIN).below b (Nat.le_refl _)); have B := hide (below_of (unhide B) b); clear b)
    | (go_at_call 13; refine (rvalue_no value (unhide HV) _).mono ?_; rintro e w6 ⟨rfl, rfl⟩)
    | (go_at_call 12; refine (wakes_any _).mono ?_; rintro e w10 ⟨rfl, b⟩; have B := hide (below_of (unhide B) b); clear b))
  go_ret
  exact ⟨rfl, unhide B⟩
set_option maxHeartbeats 1000000 in
set_option maxRecDepth 100000 in
theorem exact_val_far (x : Option Addr) (len cap : Nat) (L : List It) (want limit value frm : Int) (w : World) (h : KL w (.slice x len cap) L) (hl : len ≤ 40) (hr : Rt L want limit) (hv : ¬ isV value) (hf : 1 ≤ frm) (hg : want ≤ frm) :
    Calls Try.prog 3 #[.slice x len cap, .int .i64 want, .int .i64 limit, .int .i64 value, .int .i64 frm] w fun e w' => e = .returned (.bool true) ∧ Below w.heap.size w w' := by
  have HL := hide (show L.length ≤ 1000 by have := (kl_cap h).1; omega)
  have K0 := hide h
  have HR := hide hr
  have HV := hide hv
  clear h hr hv
  go_enter Try.func3, Try.ntmps3
  have m1 := trivial
  go_wp2_with (first
    | (go_at_call 6; refine (twin_k L _ _ (unhide K0) (unhide HL)).mono ?_; rintro e w1 ⟨v1, rfl, o, b⟩; have KIN := hide o.kl; clear o; have K0 := hide ((unhide K0).below b (Nat.le_refl _)); have B := hide b; clear b)
    | (go_at_call 7; refine (push_value L want limit value _ _ (unhide KIN) (unhide HR) (unhide HV)).mono ?_; rintro e w2 ⟨rfl, b⟩; have K0 := hide ((unhide K0).below b (Nat.le_refl _)); have KIN := hide ((unhide KIN).below b (Nat.le_refl _)); have B := hide (below_of (unhide B) b); clear b)
    | (go_at_call 8; refine (again_far L want limit frm _ _ (unhide KIN) (unhide HR) hf hg).mono ?_; rintro e w3 ⟨rfl, b⟩; have K0 := hide ((unhide K0).below b (Nat.le_refl _)); have KIN := hide ((unhide KIN).below b (Nat.le_refl _)); have B := hide (below_of (unhide B) b); clear b)
    | (clear m1; go_at_call 9; refine (items_same L _ _ _ (unhide KIN) (unhide K0)).mono ?_; rintro e w4 ⟨rfl, b⟩; have K0 := hide ((unhide K0).below b (Nat.le_refl _)); have KIN := hide ((unhide KIN).below b (Nat.le_refl _)); have B := hide (below_of (unhide B) b); clear b)
    | (go_at_call 10; refine (kept_ok L _ limit _ _ (unhide K0) (unhide HR)).mono ?_; rintro e w5 ⟨rfl, b⟩; have K0 := hide ((unhide K0).below b (Nat.le_refl _)); have KIN := hide ((unhide KIN).below b (Nat.le_refl _)); have B := hide (below_of (unhide B) b); clear b)
    | (go_at_call 11; refine (check_ok L _ limit _ _ (unhide KIN) (unhide HR)).mono ?_; rintro e w6 ⟨rfl, b⟩; have K0 := hide ((unhide K0).below b (Nat.le_refl _)); have KIN := hide ((unhide KIN).below b (Nat.le_refl _)); have B := hide (below_of (unhide B) b); clear b)
    | (go_at_call 13; refine (rvalue_no value (unhide HV) _).mono ?_; rintro e w6 ⟨rfl, rfl⟩)
    | (go_at_call 15; refine (ragain_far _ frm _ _ hg).mono ?_; rintro e w9 ⟨rfl, b⟩; have K0 := hide ((unhide K0).below b (Nat.le_refl _)); have KIN := hide ((unhide KIN).below b (Nat.le_refl _)); have B := hide (below_of (unhide B) b); clear b)
    | (go_at_call 9; refine (items_same [] _ _ _ (KL.nil _) (KL.nil _)).mono ?_; rintro e w8 ⟨rfl, b⟩; have K0 := hide ((unhide K0).below b (Nat.le_refl _)); have KIN := hide ((unhide KIN).below b (Nat.le_refl _)); have B := hide (below_of (unhide B) b); clear b)
    | (go_at_call 12; refine (wakes_any _).mono ?_; rintro e w10 ⟨rfl, b⟩; have B := hide (below_of (unhide B) b); clear b))
  go_ret
  exact ⟨rfl, unhide B⟩
set_option maxHeartbeats 1000000 in
set_option maxRecDepth 100000 in
theorem exact_val_ok (x : Option Addr) (len cap : Nat) (L : List It) (want limit value frm : Int) (w : World) (h : KL w (.slice x len cap) L) (hl : len ≤ 40) (hr : Rt L want limit) (hv : ¬ isV value) (hf : 1 ≤ frm) (hg : frm < want) :
    Calls Try.prog 3 #[.slice x len cap, .int .i64 want, .int .i64 limit, .int .i64 value, .int .i64 frm] w fun e w' => e = .returned (.bool true) ∧ Below w.heap.size w w' := by
  have HL := hide (show L.length ≤ 1000 by have := (kl_cap h).1; omega)
  have K0 := hide h
  have HR := hide hr
  have HV := hide hv
  clear h hr hv
  go_enter Try.func3, Try.ntmps3
  have m1 := trivial
  go_wp2_with (first
    | (go_at_call 6; refine (twin_k L _ _ (unhide K0) (unhide HL)).mono ?_; rintro e w1 ⟨v1, rfl, o, b⟩; have KIN := hide o.kl; clear o; have K0 := hide ((unhide K0).below b (Nat.le_refl _)); have B := hide b; clear b)
    | (go_at_call 7; refine (push_value L want limit value _ _ (unhide KIN) (unhide HR) (unhide HV)).mono ?_; rintro e w2 ⟨rfl, b⟩; have K0 := hide ((unhide K0).below b (Nat.le_refl _)); have KIN := hide ((unhide KIN).below b (Nat.le_refl _)); have B := hide (below_of (unhide B) b); clear b)
    | (go_at_call 8; refine (again_ok L want limit frm _ _ (unhide KIN) (unhide HR) hf hg).mono ?_; rintro e w3 ⟨vt, rfl, o, b⟩; have KT := hide o; clear o; have K0 := hide ((unhide K0).below b (Nat.le_refl _)); have KIN := hide ((unhide KIN).below b (Nat.le_refl _)); have B := hide (below_of (unhide B) b); clear b)
    | (clear m1; go_at_call 9; refine (items_same L _ _ _ (unhide KIN) (unhide K0)).mono ?_; rintro e w4 ⟨rfl, b⟩; have K0 := hide ((unhide K0).below b (Nat.le_refl _)); have KIN := hide ((unhide KIN).below b (Nat.le_refl _)); have KT := hide ((unhide KT).below b (Nat.le_refl _)); have B := hide (below_of (unhide B) b); clear b)
    | (go_at_call 10; refine (kept_ok L _ limit _ _ (unhide K0) (unhide HR)).mono ?_; rintro e w5 ⟨rfl, b⟩; have K0 := hide ((unhide K0).below b (Nat.le_refl _)); have KIN := hide ((unhide KIN).below b (Nat.le_refl _)); have KT := hide ((unhide KT).below b (Nat.le_refl _)); have B := hide (below_of (unhide B) b); clear b)
    | (go_at_call 11; refine (check_ok L _ limit _ _ (unhide KIN) (unhide HR)).mono ?_; rintro e w6 ⟨rfl, b⟩; have K0 := hide ((unhide K0).below b (Nat.le_refl _)); have KIN := hide ((unhide KIN).below b (Nat.le_refl _)); have KT := hide ((unhide KT).below b (Nat.le_refl _)); have B := hide (below_of (unhide B) b); clear b)
    | (go_at_call 13; refine (rvalue_no value (unhide HV) _).mono ?_; rintro e w6 ⟨rfl, rfl⟩)
    | (go_at_call 15; refine (ragain_k L _ limit frm _ _ (unhide K0) (unhide HR) hf hg).mono ?_; rintro e w9 ⟨vq, rfl, o, b⟩; have KQ := hide o; clear o; have K0 := hide ((unhide K0).below b (Nat.le_refl _)); have KIN := hide ((unhide KIN).below b (Nat.le_refl _)); have KT := hide ((unhide KT).below b (Nat.le_refl _)); have B := hide (below_of (unhide B) b); clear b)
    | (go_at_call 9; refine (items_same _ _ _ _ (unhide KT) (unhide KQ)).mono ?_; rintro e w8 ⟨rfl, b⟩; have K0 := hide ((unhide K0).below b (Nat.le_refl _)); have KIN := hide ((unhide KIN).below b (Nat.le_refl _)); have KT := hide ((unhide KT).below b (Nat.le_refl _)); have KQ := hide ((unhide KQ).below b (Nat.le_refl _)); have B := hide (below_of (unhide B) b); clear b)
    | (go_at_call 12; refine (wakes_any _).mono ?_; rintro e w10 ⟨rfl, b⟩; have B := hide (below_of (unhide B) b); clear b))
  go_ret
  exact ⟨rfl, unhide B⟩
set_option maxHeartbeats 1000000 in
set_option maxRecDepth 100000 in
theorem exact_quota_arg (x : Option Addr) (len cap : Nat) (L : List It) (limit value frm : Int) (w : World) (h : KL w (.slice x len cap) L) (hl : len ≤ 40) (hr : Rt L 1073741824 limit) (hv : isV value) (hf : frm < 1) :
    Calls Try.prog 3 #[.slice x len cap, .int .i64 1073741824, .int .i64 limit, .int .i64 value, .int .i64 frm] w fun e w' => e = .returned (.bool true) ∧ Below w.heap.size w w' := by
  have HL := hide (show L.length ≤ 1000 by have := (kl_cap h).1; omega)
  have K0 := hide h
  have HR := hide hr
  have HV := hide hv
  clear h hr hv
  go_enter Try.func3, Try.ntmps3
  have m1 := trivial
  go_wp2_with (first
    | (go_at_call 6; refine (twin_k L _ _ (unhide K0) (unhide HL)).mono ?_; rintro e w1 ⟨v1, rfl, o, b⟩; have KIN := hide o.kl; clear o; have K0 := hide ((unhide K0).below b (Nat.le_refl _)); have B := hide b; clear b)
    | (go_at_call 7; refine (push_quota L limit value _ _ (unhide KIN) (unhide HR) (unhide HV)).mono ?_; rintro e w2 ⟨rfl, b⟩; have K0 := hide ((unhide K0).below b (Nat.le_refl _)); have KIN := hide ((unhide KIN).below b (Nat.le_refl _)); have B := hide (below_of (unhide B) b); clear b)
    | (go_at_call 8; refine (again_arg L 1073741824 limit frm _ _ (unhide KIN) (unhide HR) hf).mono ?_; rintro e w3 ⟨rfl, b⟩; have K0 := hide ((unhide K0).below b (Nat.le_refl _)); have KIN := hide ((unhide KIN).below b (Nat.le_refl _)); have B := hide (below_of (unhide B) b); clear b)
    | (clear m1; go_at_call 9; refine (items_same L _ _ _ (unhide KIN) (unhide K0)).mono ?_; rintro e w4 ⟨rfl, b⟩; have K0 := hide ((unhide K0).below b (Nat.le_refl _)); have KIN := hide ((unhide KIN).below b (Nat.le_refl _)); have B := hide (below_of (unhide B) b); clear b)
    | (go_at_call 10; refine (kept_ok L _ limit _ _ (unhide K0) (unhide HR)).mono ?_; rintro e w5 ⟨rfl, b⟩; have K0 := hide ((unhide K0).below b (Nat.le_refl _)); have KIN := hide ((unhide KIN).below b (Nat.le_refl _)); have B := hide (below_of (unhide B) b); clear b)
    | (go_at_call 11; refine (check_ok L _ limit _ _ (unhide KIN) (unhide HR)).mono ?_; rintro e w6 ⟨rfl, b⟩; have K0 := hide ((unhide K0).below b (Nat.le_refl _)); have KIN := hide ((unhide KIN).below b (Nat.le_refl _)); have B := hide (below_of (unhide B) b); clear b)
    | (go_at_call 13; refine (rvalue_yes value (unhide HV) _).mono ?_; rintro e w6 ⟨rfl, rfl⟩)
    | (go_at_call 12; refine (wakes_any _).mono ?_; rintro e w10 ⟨rfl, b⟩; have B := hide (below_of (unhide B) b); clear b))
  go_ret
  exact ⟨rfl, unhide B⟩
set_option maxHeartbeats 1000000 in
set_option maxRecDepth 100000 in
theorem exact_quota_far (x : Option Addr) (len cap : Nat) (L : List It) (limit value frm : Int) (w : World) (h : KL w (.slice x len cap) L) (hl : len ≤ 40) (hr : Rt L 1073741824 limit) (hv : isV value) (hf : 1 ≤ frm) (hg : 1073741824 ≤ frm) :
    Calls Try.prog 3 #[.slice x len cap, .int .i64 1073741824, .int .i64 limit, .int .i64 value, .int .i64 frm] w fun e w' => e = .returned (.bool true) ∧ Below w.heap.size w w' := by
  have HL := hide (show L.length ≤ 1000 by have := (kl_cap h).1; omega)
  have K0 := hide h
  have HR := hide hr
  have HV := hide hv
  clear h hr hv
  go_enter Try.func3, Try.ntmps3
  have m1 := trivial
  go_wp2_with (first
    | (go_at_call 6; refine (twin_k L _ _ (unhide K0) (unhide HL)).mono ?_; rintro e w1 ⟨v1, rfl, o, b⟩; have KIN := hide o.kl; clear o; have K0 := hide ((unhide K0).below b (Nat.le_refl _)); have B := hide b; clear b)
    | (go_at_call 7; refine (push_quota L limit value _ _ (unhide KIN) (unhide HR) (unhide HV)).mono ?_; rintro e w2 ⟨rfl, b⟩; have K0 := hide ((unhide K0).below b (Nat.le_refl _)); have KIN := hide ((unhide KIN).below b (Nat.le_refl _)); have B := hide (below_of (unhide B) b); clear b)
    | (go_at_call 8; refine (again_far L 1073741824 limit frm _ _ (unhide KIN) (unhide HR) hf hg).mono ?_; rintro e w3 ⟨rfl, b⟩; have K0 := hide ((unhide K0).below b (Nat.le_refl _)); have KIN := hide ((unhide KIN).below b (Nat.le_refl _)); have B := hide (below_of (unhide B) b); clear b)
    | (clear m1; go_at_call 9; refine (items_same L _ _ _ (unhide KIN) (unhide K0)).mono ?_; rintro e w4 ⟨rfl, b⟩; have K0 := hide ((unhide K0).below b (Nat.le_refl _)); have KIN := hide ((unhide KIN).below b (Nat.le_refl _)); have B := hide (below_of (unhide B) b); clear b)
    | (go_at_call 10; refine (kept_ok L _ limit _ _ (unhide K0) (unhide HR)).mono ?_; rintro e w5 ⟨rfl, b⟩; have K0 := hide ((unhide K0).below b (Nat.le_refl _)); have KIN := hide ((unhide KIN).below b (Nat.le_refl _)); have B := hide (below_of (unhide B) b); clear b)
    | (go_at_call 11; refine (check_ok L _ limit _ _ (unhide KIN) (unhide HR)).mono ?_; rintro e w6 ⟨rfl, b⟩; have K0 := hide ((unhide K0).below b (Nat.le_refl _)); have KIN := hide ((unhide KIN).below b (Nat.le_refl _)); have B := hide (below_of (unhide B) b); clear b)
    | (go_at_call 13; refine (rvalue_yes value (unhide HV) _).mono ?_; rintro e w6 ⟨rfl, rfl⟩)
    | (go_at_call 15; refine (ragain_far _ frm _ _ hg).mono ?_; rintro e w9 ⟨rfl, b⟩; have K0 := hide ((unhide K0).below b (Nat.le_refl _)); have KIN := hide ((unhide KIN).below b (Nat.le_refl _)); have B := hide (below_of (unhide B) b); clear b)
    | (go_at_call 9; refine (items_same [] _ _ _ (KL.nil _) (KL.nil _)).mono ?_; rintro e w8 ⟨rfl, b⟩; have K0 := hide ((unhide K0).below b (Nat.le_refl _)); have KIN := hide ((unhide KIN).below b (Nat.le_refl _)); have B := hide (below_of (unhide B) b); clear b)
    | (go_at_call 12; refine (wakes_any _).mono ?_; rintro e w10 ⟨rfl, b⟩; have B := hide (below_of (unhide B) b); clear b))
  go_ret
  exact ⟨rfl, unhide B⟩
set_option maxHeartbeats 1000000 in
set_option maxRecDepth 100000 in
theorem exact_quota_ok (x : Option Addr) (len cap : Nat) (L : List It) (limit value frm : Int) (w : World) (h : KL w (.slice x len cap) L) (hl : len ≤ 40) (hr : Rt L 1073741824 limit) (hv : isV value) (hf : 1 ≤ frm) (hg : frm < 1073741824) :
    Calls Try.prog 3 #[.slice x len cap, .int .i64 1073741824, .int .i64 limit, .int .i64 value, .int .i64 frm] w fun e w' => e = .returned (.bool true) ∧ Below w.heap.size w w' := by
  have HL := hide (show L.length ≤ 1000 by have := (kl_cap h).1; omega)
  have K0 := hide h
  have HR := hide hr
  have HV := hide hv
  clear h hr hv
  go_enter Try.func3, Try.ntmps3
  have m1 := trivial
  go_wp2_with (first
    | (go_at_call 6; refine (twin_k L _ _ (unhide K0) (unhide HL)).mono ?_; rintro e w1 ⟨v1, rfl, o, b⟩; have KIN := hide o.kl; clear o; have K0 := hide ((unhide K0).below b (Nat.le_refl _)); have B := hide b; clear b)
    | (go_at_call 7; refine (push_quota L limit value _ _ (unhide KIN) (unhide HR) (unhide HV)).mono ?_; rintro e w2 ⟨rfl, b⟩; have K0 := hide ((unhide K0).below b (Nat.le_refl _)); have KIN := hide ((unhide KIN).below b (Nat.le_refl _)); have B := hide (below_of (unhide B) b); clear b)
    | (go_at_call 8; refine (again_ok L 1073741824 limit frm _ _ (unhide KIN) (unhide HR) hf hg).mono ?_; rintro e w3 ⟨vt, rfl, o, b⟩; have KT := hide o; clear o; have K0 := hide ((unhide K0).below b (Nat.le_refl _)); have KIN := hide ((unhide KIN).below b (Nat.le_refl _)); have B := hide (below_of (unhide B) b); clear b)
    | (clear m1; go_at_call 9; refine (items_same L _ _ _ (unhide KIN) (unhide K0)).mono ?_; rintro e w4 ⟨rfl, b⟩; have K0 := hide ((unhide K0).below b (Nat.le_refl _)); have KIN := hide ((unhide KIN).below b (Nat.le_refl _)); have KT := hide ((unhide KT).below b (Nat.le_refl _)); have B := hide (below_of (unhide B) b); clear b)
    | (go_at_call 10; refine (kept_ok L _ limit _ _ (unhide K0) (unhide HR)).mono ?_; rintro e w5 ⟨rfl, b⟩; have K0 := hide ((unhide K0).below b (Nat.le_refl _)); have KIN := hide ((unhide KIN).below b (Nat.le_refl _)); have KT := hide ((unhide KT).below b (Nat.le_refl _)); have B := hide (below_of (unhide B) b); clear b)
    | (go_at_call 11; refine (check_ok L _ limit _ _ (unhide KIN) (unhide HR)).mono ?_; rintro e w6 ⟨rfl, b⟩; have K0 := hide ((unhide K0).below b (Nat.le_refl _)); have KIN := hide ((unhide KIN).below b (Nat.le_refl _)); have KT := hide ((unhide KT).below b (Nat.le_refl _)); have B := hide (below_of (unhide B) b); clear b)
    | (go_at_call 13; refine (rvalue_yes value (unhide HV) _).mono ?_; rintro e w6 ⟨rfl, rfl⟩)
    | (go_at_call 15; refine (ragain_k L _ limit frm _ _ (unhide K0) (unhide HR) hf hg).mono ?_; rintro e w9 ⟨vq, rfl, o, b⟩; have KQ := hide o; clear o; have K0 := hide ((unhide K0).below b (Nat.le_refl _)); have KIN := hide ((unhide KIN).below b (Nat.le_refl _)); have KT := hide ((unhide KT).below b (Nat.le_refl _)); have B := hide (below_of (unhide B) b); clear b)
    | (go_at_call 9; refine (items_same _ _ _ _ (unhide KT) (unhide KQ)).mono ?_; rintro e w8 ⟨rfl, b⟩; have K0 := hide ((unhide K0).below b (Nat.le_refl _)); have KIN := hide ((unhide KIN).below b (Nat.le_refl _)); have KT := hide ((unhide KT).below b (Nat.le_refl _)); have KQ := hide ((unhide KQ).below b (Nat.le_refl _)); have B := hide (below_of (unhide B) b); clear b)
    | (go_at_call 12; refine (wakes_any _).mono ?_; rintro e w10 ⟨rfl, b⟩; have B := hide (below_of (unhide B) b); clear b))
  go_ret
  exact ⟨rfl, unhide B⟩
set_option maxHeartbeats 1000000 in
set_option maxRecDepth 100000 in
theorem exact_ok_arg (x : Option Addr) (len cap : Nat) (L : List It) (want limit value frm : Int) (w : World) (h : KL w (.slice x len cap) L) (hl : len ≤ 40) (hr : Rt L want limit) (hv : isV value) (hw : want < 1073741824) (hf : frm < 1) :
    Calls Try.prog 3 #[.slice x len cap, .int .i64 want, .int .i64 limit, .int .i64 value, .int .i64 frm] w fun e w' => e = .returned (.bool true) ∧ Below w.heap.size w w' := by
  have HL := hide (show L.length ≤ 1000 by have := (kl_cap h).1; omega)
  have K0 := hide h
  have HR := hide hr
  have HV := hide hv
  clear h hr hv
  go_enter Try.func3, Try.ntmps3
  have m1 := trivial
  have m2 := trivial
  go_wp2_with (first
    | (go_at_call 6; refine (twin_k L _ _ (unhide K0) (unhide HL)).mono ?_; rintro e w1 ⟨v1, rfl, o, b⟩; have KIN := hide o.kl; clear o; have K0 := hide ((unhide K0).below b (Nat.le_refl _)); have B := hide b; clear b)
    | (go_at_call 7; refine (push_ok L want limit value _ _ (unhide KIN) (unhide HR) (unhide HV) hw).mono ?_; rintro e w2 ⟨va, rfl, o, b⟩; have KA := hide o; clear o; have K0 := hide ((unhide K0).below b (Nat.le_refl _)); have KIN := hide ((unhide KIN).below b (Nat.le_refl _)); have B := hide (below_of (unhide B) b); clear b)
    | (go_at_call 8; refine (again_arg L want limit frm _ _ (unhide KIN) (unhide HR) hf).mono ?_; rintro e w3 ⟨rfl, b⟩; have K0 := hide ((unhide K0).below b (Nat.le_refl _)); have KIN := hide ((unhide KIN).below b (Nat.le_refl _)); have KA := hide ((unhide KA).below b (Nat.le_refl _)); have B := hide (below_of (unhide B) b); clear b)
    | (clear m1; go_at_call 9; refine (items_same L _ _ _ (unhide KIN) (unhide K0)).mono ?_; rintro e w4 ⟨rfl, b⟩; have K0 := hide ((unhide K0).below b (Nat.le_refl _)); have KIN := hide ((unhide KIN).below b (Nat.le_refl _)); have KA := hide ((unhide KA).below b (Nat.le_refl _)); have B := hide (below_of (unhide B) b); clear b)
    | (go_at_call 10; refine (kept_ok L _ limit _ _ (unhide K0) (unhide HR)).mono ?_; rintro e w5 ⟨rfl, b⟩; have K0 := hide ((unhide K0).below b (Nat.le_refl _)); have KIN := hide ((unhide KIN).below b (Nat.le_refl _)); have KA := hide ((unhide KA).below b (Nat.le_refl _)); have B := hide (below_of (unhide B) b); clear b)
    | (go_at_call 11; refine (check_ok L _ limit _ _ (unhide KIN) (unhide HR)).mono ?_; rintro e w6 ⟨rfl, b⟩; have K0 := hide ((unhide K0).below b (Nat.le_refl _)); have KIN := hide ((unhide KIN).below b (Nat.le_refl _)); have KA := hide ((unhide KA).below b (Nat.le_refl _)); have B := hide (below_of (unhide B) b); clear b)
    | (go_at_call 13; refine (rvalue_yes value (unhide HV) _).mono ?_; rintro e w6 ⟨rfl, rfl⟩)
    | (go_at_call 14; refine (rpush_k L want limit value _ _ (unhide K0) (unhide HR)).mono ?_; rintro e w7 ⟨vp, rfl, o, b⟩; have KP := hide o; clear o; have K0 := hide ((unhide K0).below b (Nat.le_refl _)); have KIN := hide ((unhide KIN).below b (Nat.le_refl _)); have KA := hide ((unhide KA).below b (Nat.le_refl _)); have B := hide (below_of (unhide B) b); clear b)
    | (clear m2; go_at_call 9; refine (items_same _ _ _ _ (unhide KA) (unhide KP)).mono ?_; rintro e w8 ⟨rfl, b⟩; have K0 := hide ((unhide K0).below b (Nat.le_refl _)); have KIN := hide ((unhide KIN).below b (Nat.le_refl _)); have KA := hide ((unhide KA).below b (Nat.le_refl _)); have KP := hide ((unhide KP).below b (Nat.le_refl _)); have B := hide (below_of (unhide B) b); clear b)
    | (go_at_call 12; refine (wakes_any _).mono ?_; rintro e w10 ⟨rfl, b⟩; have B := hide (below_of (unhide B) b); clear b))
  go_ret
  exact ⟨rfl, unhide B⟩
set_option maxHeartbeats 1000000 in
set_option maxRecDepth 100000 in
theorem exact_ok_far (x : Option Addr) (len cap : Nat) (L : List It) (want limit value frm : Int) (w : World) (h : KL w (.slice x len cap) L) (hl : len ≤ 40) (hr : Rt L want limit) (hv : isV value) (hw : want < 1073741824) (hf : 1 ≤ frm) (hg : want ≤ frm) :
    Calls Try.prog 3 #[.slice x len cap, .int .i64 want, .int .i64 limit, .int .i64 value, .int .i64 frm] w fun e w' => e = .returned (.bool true) ∧ Below w.heap.size w w' := by
  have HL := hide (show L.length ≤ 1000 by have := (kl_cap h).1; omega)
  have K0 := hide h
  have HR := hide hr
  have HV := hide hv
  clear h hr hv
  go_enter Try.func3, Try.ntmps3
  have m1 := trivial
  have m2 := trivial
  go_wp2_with (first
    | (go_at_call 6; refine (twin_k L _ _ (unhide K0) (unhide HL)).mono ?_; rintro e w1 ⟨v1, rfl, o, b⟩; have KIN := hide o.kl; clear o; have K0 := hide ((unhide K0).below b (Nat.le_refl _)); have B := hide b; clear b)
    | (go_at_call 7; refine (push_ok L want limit value _ _ (unhide KIN) (unhide HR) (unhide HV) hw).mono ?_; rintro e w2 ⟨va, rfl, o, b⟩; have KA := hide o; clear o; have K0 := hide ((unhide K0).below b (Nat.le_refl _)); have KIN := hide ((unhide KIN).below b (Nat.le_refl _)); have B := hide (below_of (unhide B) b); clear b)
    | (go_at_call 8; refine (again_far L want limit frm _ _ (unhide KIN) (unhide HR) hf hg).mono ?_; rintro e w3 ⟨rfl, b⟩; have K0 := hide ((unhide K0).below b (Nat.le_refl _)); have KIN := hide ((unhide KIN).below b (Nat.le_refl _)); have KA := hide ((unhide KA).below b (Nat.le_refl _)); have B := hide (below_of (unhide B) b); clear b)
    | (clear m1; go_at_call 9; refine (items_same L _ _ _ (unhide KIN) (unhide K0)).mono ?_; rintro e w4 ⟨rfl, b⟩; have K0 := hide ((unhide K0).below b (Nat.le_refl _)); have KIN := hide ((unhide KIN).below b (Nat.le_refl _)); have KA := hide ((unhide KA).below b (Nat.le_refl _)); have B := hide (below_of (unhide B) b); clear b)
    | (go_at_call 10; refine (kept_ok L _ limit _ _ (unhide K0) (unhide HR)).mono ?_; rintro e w5 ⟨rfl, b⟩; have K0 := hide ((unhide K0).below b (Nat.le_refl _)); have KIN := hide ((unhide KIN).below b (Nat.le_refl _)); have KA := hide ((unhide KA).below b (Nat.le_refl _)); have B := hide (below_of (unhide B) b); clear b)
    | (go_at_call 11; refine (check_ok L _ limit _ _ (unhide KIN) (unhide HR)).mono ?_; rintro e w6 ⟨rfl, b⟩; have K0 := hide ((unhide K0).below b (Nat.le_refl _)); have KIN := hide ((unhide KIN).below b (Nat.le_refl _)); have KA := hide ((unhide KA).below b (Nat.le_refl _)); have B := hide (below_of (unhide B) b); clear b)
    | (go_at_call 13; refine (rvalue_yes value (unhide HV) _).mono ?_; rintro e w6 ⟨rfl, rfl⟩)
    | (go_at_call 14; refine (rpush_k L want limit value _ _ (unhide K0) (unhide HR)).mono ?_; rintro e w7 ⟨vp, rfl, o, b⟩; have KP := hide o; clear o; have K0 := hide ((unhide K0).below b (Nat.le_refl _)); have KIN := hide ((unhide KIN).below b (Nat.le_refl _)); have KA := hide ((unhide KA).below b (Nat.le_refl _)); have B := hide (below_of (unhide B) b); clear b)
    | (clear m2; go_at_call 9; refine (items_same _ _ _ _ (unhide KA) (unhide KP)).mono ?_; rintro e w8 ⟨rfl, b⟩; have K0 := hide ((unhide K0).below b (Nat.le_refl _)); have KIN := hide ((unhide KIN).below b (Nat.le_refl _)); have KA := hide ((unhide KA).below b (Nat.le_refl _)); have KP := hide ((unhide KP).below b (Nat.le_refl _)); have B := hide (below_of (unhide B) b); clear b)
    | (go_at_call 15; refine (ragain_far _ frm _ _ hg).mono ?_; rintro e w9 ⟨rfl, b⟩; have K0 := hide ((unhide K0).below b (Nat.le_refl _)); have KIN := hide ((unhide KIN).below b (Nat.le_refl _)); have KA := hide ((unhide KA).below b (Nat.le_refl _)); have KP := hide ((unhide KP).below b (Nat.le_refl _)); have B := hide (below_of (unhide B) b); clear b)
    | (go_at_call 9; refine (items_same [] _ _ _ (KL.nil _) (KL.nil _)).mono ?_; rintro e w8 ⟨rfl, b⟩; have K0 := hide ((unhide K0).below b (Nat.le_refl _)); have KIN := hide ((unhide KIN).below b (Nat.le_refl _)); have KA := hide ((unhide KA).below b (Nat.le_refl _)); have KP := hide ((unhide KP).below b (Nat.le_refl _)); have B := hide (below_of (unhide B) b); clear b)
    | (go_at_call 12; refine (wakes_any _).mono ?_; rintro e w10 ⟨rfl, b⟩; have B := hide (below_of (unhide B) b); clear b))
  go_ret
  exact ⟨rfl, unhide B⟩
set_option maxHeartbeats 1000000 in
set_option maxRecDepth 100000 in
theorem exact_ok_ok (x : Option Addr) (len cap : Nat) (L : List It) (want limit value frm : Int) (w : World) (h : KL w (.slice x len cap) L) (hl : len ≤ 40) (hr : Rt L want limit) (hv : isV value) (hw : want < 1073741824) (hf : 1 ≤ frm) (hg : frm < want) :
    Calls Try.prog 3 #[.slice x len cap, .int .i64 want, .int .i64 limit, .int .i64 value, .int .i64 frm] w fun e w' => e = .returned (.bool true) ∧ Below w.heap.size w w' := by
  have HL := hide (show L.length ≤ 1000 by have := (kl_cap h).1; omega)
  have K0 := hide h
  have HR := hide hr
  have HV := hide hv
  clear h hr hv
  go_enter Try.func3, Try.ntmps3
  have m1 := trivial
  have m2 := trivial
  go_wp2_with (first
    | (go_at_call 6; refine (twin_k L _ _ (unhide K0) (unhide HL)).mono ?_; rintro e w1 ⟨v1, rfl, o, b⟩; have KIN := hide o.kl; clear o; have K0 := hide ((unhide K0).below b (Nat.le_refl _)); have B := hide b; clear b)
    | (go_at_call 7; refine (push_ok L want limit value _ _ (unhide KIN) (unhide HR) (unhide HV) hw).mono ?_; rintro e w2 ⟨va, rfl, o, b⟩; have KA := hide o; clear o; have K0 := hide ((unhide K0).below b (Nat.le_refl _)); have KIN := hide ((unhide KIN).below b (Nat.le_refl _)); have B := hide (below_of (unhide B) b); clear b)
    | (go_at_call 8; refine (again_ok L want limit frm _ _ (unhide KIN) (unhide HR) hf hg).mono ?_; rintro e w3 ⟨vt, rfl, o, b⟩; have KT := hide o; clear o; have K0 := hide ((unhide K0).below b (Nat.le_refl _)); have KIN := hide ((unhide KIN).below b (Nat.le_refl _)); have KA := hide ((unhide KA).below b (Nat.le_refl _)); have B := hide (below_of (unhide B) b); clear b)
    | (clear m1; go_at_call 9; refine (items_same L _ _ _ (unhide KIN) (unhide K0)).mono ?_; rintro e w4 ⟨rfl, b⟩; have K0 := hide ((unhide K0).below b (Nat.le_refl _)); have KIN := hide ((unhide KIN).below b (Nat.le_refl _)); have KA := hide ((unhide KA).below b (Nat.le_refl _)); have KT := hide ((unhide KT).below b (Nat.le_refl _)); have B := hide (below_of (unhide B) b); clear b)
    | (go_at_call 10; refine (kept_ok L _ limit _ _ (unhide K0) (unhide HR)).mono ?_; rintro e w5 ⟨rfl, b⟩; have K0 := hide ((unhide K0).below b (Nat.le_refl _)); have KIN := hide ((unhide KIN).below b (Nat.le_refl _)); have KA := hide ((unhide KA).below b (Nat.le_refl _)); have KT := hide ((unhide KT).below b (Nat.le_refl _)); have B := hide (below_of (unhide B) b); clear b)
    | (go_at_call 11; refine (check_ok L _ limit _ _ (unhide KIN) (unhide HR)).mono ?_; rintro e w6 ⟨rfl, b⟩; have K0 := hide ((unhide K0).below b (Nat.le_refl _)); have KIN := hide ((unhide KIN).below b (Nat.le_refl _)); have KA := hide ((unhide KA).below b (Nat.le_refl _)); have KT := hide ((unhide KT).below b (Nat.le_refl _)); have B := hide (below_of (unhide B) b); clear b)
    | (go_at_call 13; refine (rvalue_yes value (unhide HV) _).mono ?_; rintro e w6 ⟨rfl, rfl⟩)
    | (go_at_call 14; refine (rpush_k L want limit value _ _ (unhide K0) (unhide HR)).mono ?_; rintro e w7 ⟨vp, rfl, o, b⟩; have KP := hide o; clear o; have K0 := hide ((unhide K0).below b (Nat.le_refl _)); have KIN := hide ((unhide KIN).below b (Nat.le_refl _)); have KA := hide ((unhide KA).below b (Nat.le_refl _)); have KT := hide ((unhide KT).below b (Nat.le_refl _)); have B := hide (below_of (unhide B) b); clear b)
    | (clear m2; go_at_call 9; refine (items_same _ _ _ _ (unhide KA) (unhide KP)).mono ?_; rintro e w8 ⟨rfl, b⟩; have K0 := hide ((unhide K0).below b (Nat.le_refl _)); have KIN := hide ((unhide KIN).below b (Nat.le_refl _)); have KA := hide ((unhide KA).below b (Nat.le_refl _)); have KT := hide ((unhide KT).below b (Nat.le_refl _)); have KP := hide ((unhide KP).below b (Nat.le_refl _)); have B := hide (below_of (unhide B) b); clear b)
    | (go_at_call 15; refine (ragain_k L _ limit frm _ _ (unhide K0) (unhide HR) hf hg).mono ?_; rintro e w9 ⟨vq, rfl, o, b⟩; have KQ := hide o; clear o; have K0 := hide ((unhide K0).below b (Nat.le_refl _)); have KIN := hide ((unhide KIN).below b (Nat.le_refl _)); have KA := hide ((unhide KA).below b (Nat.le_refl _)); have KT := hide ((unhide KT).below b (Nat.le_refl _)); have KP := hide ((unhide KP).below b (Nat.le_refl _)); have B := hide (below_of (unhide B) b); clear b)
    | (go_at_call 9; refine (items_same _ _ _ _ (unhide KT) (unhide KQ)).mono ?_; rintro e w8 ⟨rfl, b⟩; have K0 := hide ((unhide K0).below b (Nat.le_refl _)); have KIN := hide ((unhide KIN).below b (Nat.le_refl _)); have KA := hide ((unhide KA).below b (Nat.le_refl _)); have KT := hide ((unhide KT).below b (Nat.le_refl _)); have KP := hide ((unhide KP).below b (Nat.le_refl _)); have KQ := hide ((unhide KQ).below b (Nat.le_refl _)); have B := hide (below_of (unhide B) b); clear b)
    | (go_at_call 12; refine (wakes_any _).mono ?_; rintro e w10 ⟨rfl, b⟩; have B := hide (below_of (unhide B) b); clear b))
  go_ret
  exact ⟨rfl, unhide B⟩
theorem exact_long (x : Option Addr) (len cap : Nat) (want limit value frm : Int) (w : World) (hl : 40 < len) :
    Calls Try.prog 3 #[.slice x len cap, .int .i64 want, .int .i64 limit, .int .i64 value, .int .i64 frm] w fun e w' => e = .returned (.bool true) ∧ Below w.heap.size w w' := by
  go_enter Try.func3, Try.ntmps3
  go_wp2
  go_ret
  exact ⟨rfl, Below.refl _ _⟩
theorem exact_walk (x : Option Addr) (len cap : Nat) (L : List It) (want limit value frm : Int) (w : World) (h : KL w (.slice x len cap) L) :
    Calls Try.prog 3 #[.slice x len cap, .int .i64 want, .int .i64 limit, .int .i64 value, .int .i64 frm] w fun e w' => e = .returned (.bool true) ∧ Below w.heap.size w w' := by
  by_cases hl : 40 < len
  · exact exact_long x len cap want limit value frm w hl
  have hl : len ≤ 40 := by omega
  by_cases hr : Rt L want limit
  · by_cases hv : isV value
    · by_cases hw : want < 1073741824
      · by_cases hf : frm < 1
        · exact exact_ok_arg x len cap L want limit value frm w h hl hr hv hw hf
        · by_cases hg : want ≤ frm
          · exact exact_ok_far x len cap L want limit value frm w h hl hr hv hw (by omega) hg
          · exact exact_ok_ok x len cap L want limit value frm w h hl hr hv hw (by omega) (by omega)
      · obtain rfl : want = 1073741824 := by have := hr.2.1; omega
        by_cases hf : frm < 1
        · exact exact_quota_arg x len cap L limit value frm w h hl hr hv hf
        · by_cases hg : 1073741824 ≤ frm
          · exact exact_quota_far x len cap L limit value frm w h hl hr hv (by omega) hg
          · exact exact_quota_ok x len cap L limit value frm w h hl hr hv (by omega) (by omega)
    · by_cases hf : frm < 1
      · exact exact_val_arg x len cap L want limit value frm w h hl hr hv hf
      · by_cases hg : want ≤ frm
        · exact exact_val_far x len cap L want limit value frm w h hl hr hv (by omega) hg
        · exact exact_val_ok x len cap L want limit value frm w h hl hr hv (by omega) (by omega)
  · exact exact_no_no x len cap L want limit value frm w h hl hr
end Go.Proofs.Ytofaoagmchokmaa
