/- Walk of WireReads. -/
import Derived.Test.YtmcmiojidgdjpaaBn30
import Derived.Test.YtmcmiojidgdjpaaBn5
namespace Go.Proofs.Ytmcmiojidgdjpaa
open Go.RowKit

theorem keep_zero (w : World) : Calls Try.prog 13 #[.agg #[.int .i64 0, .int .i64 0, .int .i64 0, .int .i64 0, .int .i64 0, .int .i64 0, .int .i64 0, .int .i64 0, .int .i64 0, .int .i64 0, .int .i64 0, .int .i64 0, .int .i64 0, .int .i64 0, .slice none 0 0, .slice none 0 0], .agg #[.int .i64 0, .int .i64 0, .int .i64 0, .int .i64 0, .int .i64 0, .int .i64 0, .int .i64 0, .int .i64 0, .int .i64 0, .int .i64 0, .int .i64 0, .int .i64 0, .int .i64 0, .int .i64 0, .slice none 0 0, .slice none 0 0]] w fun e w' => e = .returned (.bool true) ∧ Below w.heap.size w w' := by
  have h := keepMsg_any zeroM zeroM noF noF noF noF (.slice none 0 0) (.slice none 0 0) (.slice none 0 0) (.slice none 0 0) 0 0 0 0 w (sl_nil w) (sl_nil w) (sl_nil w) (sl_nil w)
  rwa [(same_iff zeroM zeroM noF noF noF noF 0 0 0 0).2 ⟨rfl, rfl, rfl, fun _ _ => rfl, fun _ _ => rfl⟩] at h
theorem decC_is (D : Nat → Nat) (N : Nat) : decC D N = 0 ∨ decC D N = 2 ∨ decC D N = 3 ∨ decC D N = 4 ∨ decC D N = 5 := by
  unfold decC
  (repeat' split) <;> omega
theorem reads_long (x : Option Addr) (N cap : Nat) (w : World) (h : 200 < N) (_ : N ≤ maxLen) : Calls Try.prog 5 #[.slice x N cap] w fun e w' => e = .returned (.bool true) ∧ Below w.heap.size w w' := by
  have d : decide (200 < (N : Int)) = true := decide_eq_true (by omega)
  go_enter Try.func5, Try.ntmps5
  go_wp2
  go_ret
  exact ⟨rfl, Below.refl _ _⟩
set_option maxRecDepth 100000 in
set_option maxHeartbeats 1000000 in
theorem reads_bad (x : Option Addr) (N cap : Nat) (c : Int) (w : World) (h : N ≤ 200) (hc : c = 2 ∨ c = 3 ∨ c = 4 ∨ c = 5) (C : Hid (∀ w1, Below w.heap.size w w1 → Calls Try.prog 11 #[.slice x N cap] w1 fun e w' => e = .returned (.tuple #[.agg #[.int .i64 0, .int .i64 0, .int .i64 0, .int .i64 0, .int .i64 0, .int .i64 0, .int .i64 0, .int .i64 0, .int .i64 0, .int .i64 0, .int .i64 0, .int .i64 0, .int .i64 0, .int .i64 0, .slice none 0 0, .slice none 0 0], .int .i64 c]) ∧ Below w1.heap.size w1 w')) :
    Calls Try.prog 5 #[.slice x N cap] w fun e w' => e = .returned (.bool true) ∧ Below w.heap.size w w' := by
  have d : decide (200 < (N : Int)) = false := decide_eq_false (by omega)
  rcases hc with rfl | rfl | rfl | rfl
  all_goals
    go_enter Try.func5, Try.ntmps5
    go_wp2_with (first
      | (go_at_call 11; with_reducible refine (unhide C _ (Below.refl _ _)).mono ?_; rintro e w1 ⟨rfl, b1⟩; have B := hide b1; clear b1)
      | (refine wpList_store_last rfl (.tmp 3) (.tmp 13) rfl _ _ rfl rfl rfl _ rfl rfl (by simp [Value.oneCell']) ?_; have G := hide (Has.new w1 (.cells #[.int .i64 0, .int .i64 0, .int .i64 0, .int .i64 0, .int .i64 0, .int .i64 0, .int .i64 0, .int .i64 0, .int .i64 0, .int .i64 0, .int .i64 0, .int .i64 0, .int .i64 0, .int .i64 0, .slice none 0 0, .slice none 0 0] 24)); replace B := hide (below_alloc (unhide B) (.cells #[.int .i64 0, .int .i64 0, .int .i64 0, .int .i64 0, .int .i64 0, .int .i64 0, .int .i64 0, .int .i64 0, .int .i64 0, .int .i64 0, .int .i64 0, .int .i64 0, .int .i64 0, .int .i64 0, .slice none 0 0, .slice none 0 0] 24)))
      | (refine wpList_load24 (.tmp 3) rfl (by first | rfl | simp [Region.wanted, yielded]) w1.heap.size #[.int .i64 0, .int .i64 0, .int .i64 0, .int .i64 0, .int .i64 0, .int .i64 0, .int .i64 0, .int .i64 0, .int .i64 0, .int .i64 0, .int .i64 0, .int .i64 0, .int .i64 0, .int .i64 0, .slice none 0 0, .slice none 0 0] rfl (unhide G).2 rfl ?_)
      | (go_at_call 13; with_reducible refine (keep_zero _).mono ?_; rintro e w2 ⟨rfl, b2⟩; replace B := hide (below_of (unhide B) b2); clear b2)
      | (go_at_call 16; with_reducible refine (wakes_any _).mono ?_; rintro e w3 ⟨rfl, b3⟩; replace B := hide (below_of (unhide B) b3); clear b3))
    go_ret
    exact ⟨rfl, unhide B⟩
set_option maxRecDepth 100000 in
set_option maxHeartbeats 1000000 in
theorem reads_ok (M : Mg) (F G : Nat → Int) (n k : Nat) (D : Nat → Nat) (x : Option Addr) (N cap : Nat) (w : World) (h : N ≤ 200) (C : Hid (∀ w1, Below w.heap.size w w1 → Calls Try.prog 11 #[.slice x N cap] w1 (Fin M F G n k w1))) (hv : Cr.Bs w (.slice x N cap) N D)
    (hc : chkB M F n G k = true) (hN : N = 48 + n + k) (hD : ∀ i, i < N → frD M F n G k i = D i) : Calls Try.prog 5 #[.slice x N cap] w fun e w' => e = .returned (.bool true) ∧ Below w.heap.size w w' := by
  have d : decide (200 < (N : Int)) = false := decide_eq_false (by omega)
  have C1 : Hid (∀ w1, Below w.heap.size w w1 → Calls Try.prog 11 #[.slice x N cap] w1 fun e w' => ∃ p c t d, e = .returned (.tuple #[mv M (.slice p n c) (.slice t k d), .int .i64 0]) ∧ Sl .i64 w' (.slice p n c) n F ∧ Sl .i64 w' (.slice t k d) k G ∧ Below w1.heap.size w1 w') := by
    refine hide fun w1 hb => (unhide C w1 hb).mono ?_
    rintro e w' ⟨p, c, t, d, rfl, o1, o2, b⟩
    exact ⟨p, c, t, d, rfl, sl_of_owns o1, sl_of_owns o2, b⟩
  have C2 : Hid (∀ p c t d w1, Sl .i64 w1 (.slice p n c) n F → Sl .i64 w1 (.slice t k d) k G → Calls Try.prog 10 #[mv M (.slice p n c) (.slice t k d)] w1 fun e w' => ∃ q f, e = .returned (.tuple #[.slice q N f, .int .i64 0]) ∧ Cr.Bs w' (.slice q N f) N D ∧ Below w1.heap.size w1 w') := by
    refine hide fun p c t d w1 h1 h2 => (enc_ok M F G _ _ n k w1 h1 h2 hc).mono ?_
    rintro e w' ⟨v, rfl, o, b⟩
    rw [← hN] at o
    obtain ⟨q, f, rfl⟩ := owns_shape o
    exact ⟨q, f, rfl, (Cr.bs_of_owns o).congr fun i hi => by show ((_ : Nat) : Int) = _; rw [hD i hi], b⟩
  have C3 : Hid (∀ q f w1, Below w.heap.size w w1 → Cr.Bs w1 (.slice q N f) N D → Calls Try.prog 14 #[.slice x N cap, .slice q N f] w1 fun e w' => e = .returned (.bool true) ∧ Below w1.heap.size w1 w') :=
    hide fun q f w1 hb hs => Cr.bytes_b _ _ _ N w1 (Sl.below hv hb (Nat.le_refl _)) hs
  clear C hv hc hN hD
  unfold mv at C1 C2
  go_enter Try.func5, Try.ntmps5
  go_wp2_with (first
    | (go_at_call 11; with_reducible refine (unhide C1 _ (Below.refl _ _)).mono ?_; rintro e w1 ⟨p1, c1, t1, d1, rfl, s1, s2, b1⟩; have S1 := hide s1; have S2 := hide s2; have B := hide b1; clear s1 s2 b1)
    | (refine wpList_store_last rfl (.tmp 3) (.tmp 13) rfl _ _ rfl rfl rfl _ rfl rfl (by simp [Value.oneCell']) ?_; have G1 := hide (Has.new w1 (.cells #[.int .i64 M.kd, .int .i64 M.fr, .int .i64 M.fi, .int .i64 M.tw, .int .i64 M.ti, .int .i64 M.tp, .int .i64 M.ep, .int .i64 M.sq, .int .i64 M.la, .int .i64 M.va, .int .i64 M.no, .int .i64 M.ic, .int .i64 M.ct, .int .i64 M.hp, .slice p1 n c1, .slice t1 k d1] 24)); have ba := hide (below_alloc (Below.refl w1.heap.size w1) (.cells #[.int .i64 M.kd, .int .i64 M.fr, .int .i64 M.fi, .int .i64 M.tw, .int .i64 M.ti, .int .i64 M.tp, .int .i64 M.ep, .int .i64 M.sq, .int .i64 M.la, .int .i64 M.va, .int .i64 M.no, .int .i64 M.ic, .int .i64 M.ct, .int .i64 M.hp, .slice p1 n c1, .slice t1 k d1] 24)); replace S1 := hide ((unhide S1).below (unhide ba) (Nat.le_refl _)); replace S2 := hide ((unhide S2).below (unhide ba) (Nat.le_refl _)); replace B := hide (below_alloc (unhide B) (.cells #[.int .i64 M.kd, .int .i64 M.fr, .int .i64 M.fi, .int .i64 M.tw, .int .i64 M.ti, .int .i64 M.tp, .int .i64 M.ep, .int .i64 M.sq, .int .i64 M.la, .int .i64 M.va, .int .i64 M.no, .int .i64 M.ic, .int .i64 M.ct, .int .i64 M.hp, .slice p1 n c1, .slice t1 k d1] 24)))
    | (refine wpList_load24 (.tmp 3) rfl (by first | rfl | simp [Region.wanted, yielded]) w1.heap.size #[.int .i64 M.kd, .int .i64 M.fr, .int .i64 M.fi, .int .i64 M.tw, .int .i64 M.ti, .int .i64 M.tp, .int .i64 M.ep, .int .i64 M.sq, .int .i64 M.la, .int .i64 M.va, .int .i64 M.no, .int .i64 M.ic, .int .i64 M.ct, .int .i64 M.hp, .slice p1 n c1, .slice t1 k d1] rfl (unhide G1).2 rfl ?_)
    | (go_at_call 10; with_reducible refine (unhide C2 _ _ _ _ _ (unhide S1) (unhide S2)).mono ?_; rintro e w2 ⟨q2, f2, rfl, s2, b2⟩; have S3 := hide s2; replace B := hide (below_of (unhide B) b2); clear b2 s2)
    | (go_at_call 14; with_reducible refine (unhide C3 _ _ _ (unhide B) (unhide S3)).mono ?_; rintro e w4 ⟨rfl, b4⟩; replace B := hide (below_of (unhide B) b4); clear b4)
    | (go_at_call 16; with_reducible refine (wakes_any _).mono ?_; rintro e w3 ⟨rfl, b3⟩; replace B := hide (below_of (unhide B) b3); clear b3))
  go_ret
  exact ⟨rfl, unhide B⟩
theorem reads_walk (x : Option Addr) (N cap : Nat) (zs : List Int) (w : World) (hb : IsRow .u8 w x N cap zs) : Calls Try.prog 5 #[.slice x N cap] w fun e w' => e = .returned (.bool true) ∧ Below w.heap.size w w' := by
  by_cases h : 200 < N
  · exact reads_long x N cap w h hb.len
  · have hs := hb.bs
    have hl : ∀ i, i < N → rowD zs i < 256 := fun i _ => hb.lt i
    by_cases h0 : decC (rowD zs) N = 0
    · obtain ⟨e1, e2, e3⟩ := reads_fr (rowD zs) N hl h0
      exact reads_ok _ _ _ _ _ (rowD zs) x N cap w (by omega) (hide fun w1 hb => dec_ok (rowD zs) _ N w1 (Sl.below hs hb (Nat.le_refl _)) hl h0) hs e1 e2 e3
    · exact reads_bad x N cap (decC (rowD zs) N) w (by omega) (by have := decC_is (rowD zs) N; omega) (hide fun w1 hb => dec_bad (rowD zs) _ N w1 (Sl.below hs hb (Nat.le_refl _)) hl _ rfl h0)
end Go.Proofs.Ytmcmiojidgdjpaa
