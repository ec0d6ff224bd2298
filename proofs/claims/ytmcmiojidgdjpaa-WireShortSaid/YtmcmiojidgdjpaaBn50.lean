/- Walk of WireShort. -/
import Derived.Test.YtmcmiojidgdjpaaBn44
import Derived.Test.YtmcmiojidgdjpaaBn30
import Derived.Test.YtmcmiojidgdjpaaBn49
import Derived.Test.YtmcmiojidgdjpaaBn33
import Derived.Test.YtmcmiojidgdjpaaBn4
namespace Go.Proofs.Ytmcmiojidgdjpaa
open Go.RowKit

theorem Cr.Bs.take {w : World} {a : Addr} {n cap j : Nat} {D : Nat → Nat} (h : Cr.Bs w (.slice (.some a) n cap) n D) (hn : 0 < n) (hj : j ≤ n) : Cr.Bs w (.slice (.some a) j cap) j D := Sl.take h hn hj
theorem seal_sl (D : Nat → Nat) (v : Value) (n : Nat) (w : World) (hv : Cr.Bs w v n D) (hD : ∀ i, i < n → D i < 256) (hn : n ≤ 100000) :
    Calls Try.prog 20 #[v] w fun e w' => ∃ p f, e = .returned (.slice p (n + 4) f) ∧ Cr.Bs w' (.slice p (n + 4) f) (n + 4) (Cr.sealD D n (Cr.sumN D n)) ∧ Below w.heap.size w w' := by
  refine (Cr.seal_is D v n w hv hD hn).mono ?_
  rintro e w' ⟨rfl, o, b⟩
  exact ⟨_, _, rfl, Cr.bs_of_owns o, b⟩
set_option maxRecDepth 100000 in
set_option maxHeartbeats 4000000 in
theorem short_ok (m : Mg) (F G : Nat → Int) (a b : Nat) (kind n v cut c : Int) (w : World) (ha : a ≤ 2) (hb : b ≤ 2) (h : chkB m F a G b = true)
    (hg : ∀ w, Calls Try.prog 18 #[.int .i64 kind, .int .i64 n, .int .i64 v] w fun e w' => ∃ p c t d, e = .returned (mv m (.slice p a c) (.slice t b d)) ∧ Sl .i64 w' (.slice p a c) a F ∧ Sl .i64 w' (.slice t b d) b G ∧ Below w.heap.size w w') :
    Calls Try.prog 6 #[.int .i64 kind, .int .i64 n, .int .i64 v, .int .i64 cut, .int .i64 c] w fun e w' => e = .returned (.bool true) ∧ Below w.heap.size w w' := by
  obtain ⟨i5, hi, hz0, hz1, hz2⟩ := info_parts Cr.info5
  obtain ⟨M, hM⟩ : ∃ M, M = 44 + a + b := ⟨_, rfl⟩
  obtain ⟨q, hq, hq2⟩ := Cr.modN cut M (by omega) (by omega)
  obtain ⟨x, hx1, hx2⟩ : ∃ x : Nat, c % 256 = (x : Int) ∧ x < 256 := ⟨(c % 256).toNat, by omega, by omega⟩
  have hx3 : IntKind.u8.wrap c = (x : Int) := hx1
  have hlt := fr_lt m F G a b h
  have CG := hide hg
  have CE : Hid (∀ p c t d w1, Sl .i64 w1 (.slice p a c) a F → Sl .i64 w1 (.slice t b d) b G → Calls Try.prog 10 #[mv m (.slice p a c) (.slice t b d)] w1 fun e w' => ∃ q f, e = .returned (.tuple #[.slice q (M + 4) f, .int .i64 0]) ∧ Cr.Bs w' (.slice q (M + 4) f) (M + 4) (frD m F a G b) ∧ Below w1.heap.size w1 w') := by
    refine hide fun p c t d w1 h1 h2 => (enc_ok m F G _ _ a b w1 h1 h2 h).mono ?_
    rintro e w' ⟨v, rfl, o, b⟩
    rw [show 48 + a + _ = M + 4 by omega] at o
    obtain ⟨q, f, rfl⟩ := owns_shape o
    exact ⟨q, f, rfl, Cr.bs_of_owns o, b⟩
  have CO : Hid (∀ v w1, Cr.Bs w1 v (M + 4) (frD m F a G b) → Calls Try.prog 19 #[v] w1 fun e w' => ∃ g f, e = .returned (.tuple #[.slice (some ⟨g, 0, none⟩) M f, .int .i64 0]) ∧ (M ≤ f ∧ f ≤ maxLen) ∧ Cr.Bs w' (.slice (some ⟨g, 0, none⟩) M f) M (frD m F a G b) ∧ Below w1.heap.size w1 w') := by
    refine hide fun v w1 hs => (Cr.open_ok _ v M w1 hs (fun i _ => hlt i) (by omega) (by rw [hM]; exact fr_sum m F G a b h)).mono ?_
    rintro e w' ⟨v', rfl, o, b⟩
    obtain ⟨g, f, rfl, l1, l2⟩ := Cr.owns_some o (by omega)
    exact ⟨g, f, rfl, ⟨l1, l2⟩, Cr.bs_of_owns o, b⟩
  have CS : Hid (∀ v w1, Cr.Bs w1 v q (frD m F a G b) → Calls Try.prog 20 #[v] w1 fun e w' => ∃ p f, e = .returned (.slice p (q + 4) f) ∧ Cr.Bs w' (.slice p (q + 4) f) (q + 4) (Cr.sealD (frD m F a G b) q (Cr.sumN (frD m F a G b) q)) ∧ Below w1.heap.size w1 w') :=
    hide fun v w1 hs => seal_sl _ v q w1 hs (fun i _ => hlt i) (by omega)
  have CD : Hid (∀ v w1, Cr.Bs w1 v (q + 4) (Cr.sealD (frD m F a G b) q (Cr.sumN (frD m F a G b) q)) → Calls Try.prog 11 #[v] w1 fun e w' => e = .returned (.tuple #[.agg #[.int .i64 0, .int .i64 0, .int .i64 0, .int .i64 0, .int .i64 0, .int .i64 0, .int .i64 0, .int .i64 0, .int .i64 0, .int .i64 0, .int .i64 0, .int .i64 0, .int .i64 0, .int .i64 0, .slice none 0 0, .slice none 0 0], .int .i64 3]) ∧ Below w1.heap.size w1 w') :=
    hide fun v w1 hs => dec_bad _ v _ w1 hs (fun i _ => Cr.sealD_lt _ _ _ _ fun i _ => hlt i) 3 (short_cut m F G a b q h (by omega)) (by decide)
  have CT : Hid (∀ v w1, Cr.Bs w1 v M (frD m F a G b) → Calls Try.prog 9 #[v] w1 fun e w' => ∃ v', e = .returned v' ∧ w'.ownsRow w1.heap.size 5 1 v' M (Cr.bL (frD m F a G b) M) ∧ Below w1.heap.size w1 w') :=
    hide fun v w1 hs => Cr.twin_any _ v M w1 hs (by omega)
  have hml : ∀ i, moreD (frD m F a G b) M x i < 256 := fun i => by
    unfold moreD
    split
    · exact hlt i
    · exact hx2
  have CS2 : Hid (∀ v w1, Cr.Bs w1 v (M + 1) (moreD (frD m F a G b) M x) → Calls Try.prog 20 #[v] w1 fun e w' => ∃ p f, e = .returned (.slice p (M + 1 + 4) f) ∧ Cr.Bs w' (.slice p (M + 1 + 4) f) (M + 1 + 4) (Cr.sealD (moreD (frD m F a G b) M x) (M + 1) (Cr.sumN (moreD (frD m F a G b) M x) (M + 1))) ∧ Below w1.heap.size w1 w') :=
    hide fun v w1 hs => seal_sl _ v (M + 1) w1 hs (fun i _ => hml i) (by omega)
  have CD2 : Hid (∀ v w1, Cr.Bs w1 v (M + 1 + 4) (Cr.sealD (moreD (frD m F a G b) M x) (M + 1) (Cr.sumN (moreD (frD m F a G b) M x) (M + 1))) → Calls Try.prog 11 #[v] w1 fun e w' => e = .returned (.tuple #[.agg #[.int .i64 0, .int .i64 0, .int .i64 0, .int .i64 0, .int .i64 0, .int .i64 0, .int .i64 0, .int .i64 0, .int .i64 0, .int .i64 0, .int .i64 0, .int .i64 0, .int .i64 0, .int .i64 0, .slice none 0 0, .slice none 0 0], .int .i64 3]) ∧ Below w1.heap.size w1 w') :=
    hide fun v w1 hs => dec_bad _ v _ w1 hs (fun i _ => Cr.sealD_lt _ _ _ _ fun i _ => hml i) 3 (by rw [hM]; exact short_more m F G a b x h hx2) (by decide)
  have K1 : Hid (∀ v w1, Cr.Bs w1 v M (frD m F a G b) → Calls Try.prog 21 #[v, .int .i64 0, .int .i64 1] w1 fun e w' => (∃ y, e = .returned (.tuple #[.int .i64 m.kd, .int .i64 y, .int .i64 0])) ∧ w' = w1) :=
    hide fun v w1 hs => fr_get m F G a b 0 (by omega) h v w1 (by rw [← hM]; exact hs)
  have K2 : Hid (∀ v w1, Cr.Bs w1 v M (frD m F a G b) → Calls Try.prog 21 #[v, .int .i64 20, .int .i64 4] w1 fun e w' => (∃ y, e = .returned (.tuple #[.int .i64 m.sq, .int .i64 y, .int .i64 0])) ∧ w' = w1) :=
    hide fun v w1 hs => fr_get m F G a b 7 (by omega) h v w1 (by rw [← hM]; exact hs)
  generalize Cr.sealD (moreD (frD m F a G b) M x) (M + 1) (Cr.sumN (moreD (frD m F a G b) M x) (M + 1)) = S2 at *
  generalize Cr.sealD (frD m F a G b) q (Cr.sumN (frD m F a G b) q) = S1 at *
  generalize frD m F a G b = D at *
  have m44 : 44 ≤ M := by omega
  have m48 : M ≤ 48 := by omega
  clear hg h hml hlt hM ha hb
  unfold mv at CG CE
  have BW := hide (Below.refl w.heap.size w)
  go_enter Try.func6, Try.ntmps6
  go_wp2_with (first
    | (go_at_call 18; (with_reducible refine (unhide CG _).mono ?_); rintro e w1 ⟨p1, c1, t1, d1, rfl, s1, u1, b1⟩; have S := hide s1; have U := hide u1; replace BW := hide (below_of (unhide BW) b1); clear s1 u1 b1)
    | (refine wpList_store_last rfl (.tmp 11) (.tmp 29) rfl _ _ rfl rfl rfl _ rfl rfl (by simp [Value.oneCell']) ?_; have GM := hide (Has.new w1 (.cells #[.int .i64 m.kd, .int .i64 m.fr, .int .i64 m.fi, .int .i64 m.tw, .int .i64 m.ti, .int .i64 m.tp, .int .i64 m.ep, .int .i64 m.sq, .int .i64 m.la, .int .i64 m.va, .int .i64 m.no, .int .i64 m.ic, .int .i64 m.ct, .int .i64 m.hp, .slice p1 a c1, .slice t1 b d1] 24)); have ba := hide (below_alloc (Below.refl w1.heap.size w1) (.cells #[.int .i64 m.kd, .int .i64 m.fr, .int .i64 m.fi, .int .i64 m.tw, .int .i64 m.ti, .int .i64 m.tp, .int .i64 m.ep, .int .i64 m.sq, .int .i64 m.la, .int .i64 m.va, .int .i64 m.no, .int .i64 m.ic, .int .i64 m.ct, .int .i64 m.hp, .slice p1 a c1, .slice t1 b d1] 24)); replace S := hide ((unhide S).below (unhide ba) (Nat.le_refl _)); replace U := hide ((unhide U).below (unhide ba) (Nat.le_refl _)); replace BW := hide (below_of (unhide BW) (unhide ba)); clear ba)
    | (refine wpList_load24 (.tmp 11) rfl (by first | rfl | simp [Region.wanted, yielded]) w1.heap.size #[.int .i64 m.kd, .int .i64 m.fr, .int .i64 m.fi, .int .i64 m.tw, .int .i64 m.ti, .int .i64 m.tp, .int .i64 m.ep, .int .i64 m.sq, .int .i64 m.la, .int .i64 m.va, .int .i64 m.no, .int .i64 m.ic, .int .i64 m.ct, .int .i64 m.hp, .slice p1 a c1, .slice t1 b d1] rfl (unhide GM).2 rfl ?_)
    | (go_at_call 10; (with_reducible refine (unhide CE _ _ _ _ _ (unhide S) (unhide U)).mono ?_); rintro e w2 ⟨p2, c2, rfl, s2, b2⟩; have S2' := hide s2; replace GM := hide ((unhide GM).below b2); replace BW := hide (below_of (unhide BW) b2); clear s2 b2 S U)
    | (go_at_call 19; (with_reducible refine (unhide CO _ _ (unhide S2')).mono ?_); rintro e w3 ⟨g3, c3, rfl, l3, s3, b3⟩; have S3 := hide s3; have L3 := l3; unfold maxLen at L3; replace GM := hide ((unhide GM).below b3); replace BW := hide (below_of (unhide BW) b3); clear s3 b3 S2' l3)
    | (go_at_call 20; (with_reducible refine (unhide CS _ _ (Cr.Bs.take (unhide S3) (by omega) (by omega))).mono ?_); rintro e w4 ⟨p4, c4, rfl, s4, b4⟩; have S4 := hide s4; replace S3 := hide (bs_below (unhide S3) b4); replace GM := hide ((unhide GM).below b4); replace BW := hide (below_of (unhide BW) b4); clear s4 b4 CS)
    | (go_at_call 11; (with_reducible refine (unhide CD _ _ (unhide S4)).mono ?_); rintro e w5 ⟨rfl, b5⟩; replace S3 := hide (bs_below (unhide S3) b5); replace GM := hide ((unhide GM).below b5); replace BW := hide (below_of (unhide BW) b5); clear b5 S4)
    | (refine wpList_store_last rfl (.tmp 16) (.tmp 63) rfl _ _ rfl rfl rfl _ rfl rfl (by simp [Value.oneCell']) ?_; have ba := hide (below_alloc (Below.refl w5.heap.size w5) (.cells #[.int .i64 0, .int .i64 0, .int .i64 0, .int .i64 0, .int .i64 0, .int .i64 0, .int .i64 0, .int .i64 0, .int .i64 0, .int .i64 0, .int .i64 0, .int .i64 0, .int .i64 0, .int .i64 0, .slice none 0 0, .slice none 0 0] 24)); replace S3 := hide (bs_below (unhide S3) (unhide ba)); replace GM := hide ((unhide GM).below (unhide ba)); replace BW := hide (below_of (unhide BW) (unhide ba)); clear ba)
    | (go_at_call 9; (with_reducible refine (unhide CT _ _ (unhide S3)).mono ?_); rintro e w6 ⟨v6, rfl, o6, b6⟩; have O6 := hide o6; have Y6 := hide b6; clear b6 o6 CT)
    | (at_builtin; refine wpList_app8 rfl (.tmp 67) (.tmp 70) rfl _ _ M (fun i => (D i : Int)) rfl ((unhide O6).alloc _) _ 1 (fun _ => (x : Int)) rfl (sl_one1 .u8 w6 (x : Int) 5) (by omega) (by omega) (Nat.le_trans (unhide Y6).size (by simp)) ?_; intro v7 w7 o7 b7; have O7 := hide (more_bs o7); have y7 := ((unhide Y6).alloc (unhide Y6).size (.cells #[.int .u8 (x : Int)] 5)).trans b7; replace S3 := hide (bs_below (unhide S3) y7); replace GM := hide ((unhide GM).below y7); replace BW := hide (below_of (unhide BW) y7); clear o7 b7 y7 O6 Y6)
    | (go_at_call 20; (with_reducible refine (unhide CS2 _ _ (unhide O7)).mono ?_); rintro e w8 ⟨p8, c8, rfl, s8, b8⟩; have S8 := hide s8; replace S3 := hide (bs_below (unhide S3) b8); replace GM := hide ((unhide GM).below b8); replace BW := hide (below_of (unhide BW) b8); clear s8 b8 O7)
    | (go_at_call 11; (with_reducible refine (unhide CD2 _ _ (unhide S8)).mono ?_); rintro e w9 ⟨rfl, b9⟩; replace S3 := hide (bs_below (unhide S3) b9); replace GM := hide ((unhide GM).below b9); replace BW := hide (below_of (unhide BW) b9); clear b9 S8)
    | (refine wpList_store_last rfl (.tmp 18) (.tmp 74) rfl _ _ rfl rfl rfl _ rfl rfl (by simp [Value.oneCell']) ?_; have ba := hide (below_alloc (Below.refl w9.heap.size w9) (.cells #[.int .i64 0, .int .i64 0, .int .i64 0, .int .i64 0, .int .i64 0, .int .i64 0, .int .i64 0, .int .i64 0, .int .i64 0, .int .i64 0, .int .i64 0, .int .i64 0, .int .i64 0, .int .i64 0, .slice none 0 0, .slice none 0 0] 24)); replace S3 := hide (bs_below (unhide S3) (unhide ba)); replace GM := hide ((unhide GM).below (unhide ba)); replace BW := hide (below_of (unhide BW) (unhide ba)); clear ba)
    | (go_at_call 21; (with_reducible refine (unhide K1 _ _ (unhide S3)).mono ?_); rintro e w10 ⟨⟨y1, rfl⟩, rfl⟩)
    | (go_at_call 21; (with_reducible refine (unhide K2 _ _ (unhide S3)).mono ?_); rintro e w11 ⟨⟨y2, rfl⟩, rfl⟩; have f0 := mv_cell (unhide GM).2 0 _ rfl; have f7 := mv_cell (unhide GM).2 7 _ rfl)
    | (go_at_call 16; (with_reducible refine (wakes_any _).mono ?_); rintro e w12 ⟨rfl, b12⟩; replace BW := hide (below_of (unhide BW) b12); clear b12))
  go_ret
  exact ⟨rfl, unhide BW⟩
theorem short_walk (kind n v cut c : Int) (w : World) : Calls Try.prog 6 #[.int .i64 kind, .int .i64 n, .int .i64 v, .int .i64 cut, .int .i64 c] w fun e w' => e = .returned (.bool true) ∧ Below w.heap.size w w' := by
  obtain ⟨m, F, G, a, b, ha, hb, h, hg⟩ := good_law kind n v
  exact short_ok m F G a b kind n v cut c w ha hb h hg
end Go.Proofs.Ytmcmiojidgdjpaa
