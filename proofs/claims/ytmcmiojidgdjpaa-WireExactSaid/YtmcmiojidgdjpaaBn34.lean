/- Walk of the page's Encode. -/
import Derived.Test.YtmcmiojidgdjpaaBn29
import Derived.Test.YtmcmiojidgdjpaaBn30
namespace Go.Proofs.Ytmcmiojidgdjpaa
open Go.RowKit

set_option maxRecDepth 100000 in
set_option maxHeartbeats 4000000 in
theorem renc_ok (m : Mg) (F G : Nat → Int) (p t : Value) (n k : Nat) (w : World) (hp : Sl .i64 w p n F) (ht : Sl .i64 w t k G) (h : chkB m F n G k = true) :
    Calls Try.prog 17 #[mv m p t] w fun e w' => ∃ v, e = .returned v ∧ Cr.Bs w' v (48 + n + k) (frD m F n G k) ∧ Below w.heap.size w w' := by
  obtain ⟨n8, k8, hF, hG⟩ := lists_of m F G n k h
  have hf := fit_le m (fit_of m F G n k h)
  obtain ⟨pp, cp, rfl, _, _⟩ := hp.shape
  obtain ⟨pt, ct, rfl, _, _⟩ := ht.shape
  have C4 : Hid (∀ w1, Calls Try.prog 37 #[.int .i64 4, .int .i64 m.fi] w1 fun e w' => ∃ v, e = .returned v ∧ Sl .u8 w' v 4 (Co.bF 4 m.fi 0) ∧ Below w1.heap.size w1 w') := hide fun w1 => refBytes_sl 4 m.fi (by omega) (hf 4 (by omega)).1 (hf 4 (by omega)).2 w1
  have C5 : Hid (∀ w1, Calls Try.prog 37 #[.int .i64 4, .int .i64 m.ti] w1 fun e w' => ∃ v, e = .returned v ∧ Sl .u8 w' v 4 (Co.bF 4 m.ti 0) ∧ Below w1.heap.size w1 w') := hide fun w1 => refBytes_sl 4 m.ti (by omega) (hf 5 (by omega)).1 (hf 5 (by omega)).2 w1
  have C6 : Hid (∀ w1, Calls Try.prog 37 #[.int .i64 8, .int .i64 m.ep] w1 fun e w' => ∃ v, e = .returned v ∧ Sl .u8 w' v 8 (Co.bF 8 m.ep 0) ∧ Below w1.heap.size w1 w') := hide fun w1 => refBytes_sl 8 m.ep (by omega) (hf 6 (by omega)).1 (hf 6 (by omega)).2 w1
  have C7 : Hid (∀ w1, Calls Try.prog 37 #[.int .i64 4, .int .i64 m.sq] w1 fun e w' => ∃ v, e = .returned v ∧ Sl .u8 w' v 4 (Co.bF 4 m.sq 0) ∧ Below w1.heap.size w1 w') := hide fun w1 => refBytes_sl 4 m.sq (by omega) (hf 7 (by omega)).1 (hf 7 (by omega)).2 w1
  have C8 : Hid (∀ w1, Calls Try.prog 37 #[.int .i64 4, .int .i64 m.la] w1 fun e w' => ∃ v, e = .returned v ∧ Sl .u8 w' v 4 (Co.bF 4 m.la 0) ∧ Below w1.heap.size w1 w') := hide fun w1 => refBytes_sl 4 m.la (by omega) (hf 8 (by omega)).1 (hf 8 (by omega)).2 w1
  have C9 : Hid (∀ w1, Calls Try.prog 37 #[.int .i64 4, .int .i64 m.va] w1 fun e w' => ∃ v, e = .returned v ∧ Sl .u8 w' v 4 (Co.bF 4 m.va 0) ∧ Below w1.heap.size w1 w') := hide fun w1 => refBytes_sl 4 m.va (by omega) (hf 9 (by omega)).1 (hf 9 (by omega)).2 w1
  have C11 : Hid (∀ w1, Calls Try.prog 37 #[.int .i64 4, .int .i64 m.ic] w1 fun e w' => ∃ v, e = .returned v ∧ Sl .u8 w' v 4 (Co.bF 4 m.ic 0) ∧ Below w1.heap.size w1 w') := hide fun w1 => refBytes_sl 4 m.ic (by omega) (hf 11 (by omega)).1 (hf 11 (by omega)).2 w1
  have C12 : Hid (∀ w1, Calls Try.prog 37 #[.int .i64 4, .int .i64 m.ct] w1 fun e w' => ∃ v, e = .returned v ∧ Sl .u8 w' v 4 (Co.bF 4 m.ct 0) ∧ Below w1.heap.size w1 w') := hide fun w1 => refBytes_sl 4 m.ct (by omega) (hf 12 (by omega)).1 (hf 12 (by omega)).2 w1
  have E4 : Hid (vL .u8 (cat (wb m 4) 4 (Co.bF 4 m.fi 0)) (4 + 4) = vL .u8 (wb m 5) 8) := hide (enc_step m 4 (by omega))
  have E5 : Hid (vL .u8 (cat (wb m 5) 8 (Co.bF 4 m.ti 0)) (8 + 4) = vL .u8 (wb m 6) 12) := hide (enc_step m 5 (by omega))
  have E6 : Hid (vL .u8 (cat (wb m 6) 12 (Co.bF 8 m.ep 0)) (12 + 8) = vL .u8 (wb m 7) 20) := hide (enc_step m 6 (by omega))
  have E7 : Hid (vL .u8 (cat (wb m 7) 20 (Co.bF 4 m.sq 0)) (20 + 4) = vL .u8 (wb m 8) 24) := hide (enc_step m 7 (by omega))
  have E8 : Hid (vL .u8 (cat (wb m 8) 24 (Co.bF 4 m.la 0)) (24 + 4) = vL .u8 (wb m 9) 28) := hide (enc_step m 8 (by omega))
  have E9 : Hid (vL .u8 (cat (wb m 9) 28 (Co.bF 4 m.va 0)) (28 + 4) = vL .u8 (wb m 10) 32) := hide (enc_step m 9 (by omega))
  have E10 : Hid (vL .u8 (cat (wb m 10) 32 fun _ => m.no % 256) (32 + 1) = vL .u8 (wb m 11) 33) := hide (enc_step1 m 10 (by omega) rfl)
  have E11 : Hid (vL .u8 (cat (wb m 11) 33 (Co.bF 4 m.ic 0)) (33 + 4) = vL .u8 (wb m 12) 37) := hide (enc_step m 11 (by omega))
  have E12 : Hid (vL .u8 (cat (wb m 12) 37 (Co.bF 4 m.ct 0)) (37 + 4) = vL .u8 (wb m 13) 41) := hide (enc_step m 12 (by omega))
  have E13 : Hid (vL .u8 (cat (wb m 13) 41 fun _ => m.hp % 256) (41 + 1) = vL .u8 (wb m 14) 42) := hide (enc_step1 m 13 (by omega) rfl)
  have E14 : Hid (vL .u8 (cat (wb m 14) 42 (Co.lstF F 0 n F)) (42 + (1 + n)) = vL .u8 (Co.listF (wb m 14) 42 n F) (43 + n)) := hide ((enc_list (wb m 14) F F 42 n (by omega) fun i hi => ⟨(hF i hi).1, by have := hF i hi; omega⟩).trans (by rw [show 42 + 1 + n = 43 + n by omega]))
  have z14 : 42 + (1 + n) = 43 + n := by omega
  have z15 : 43 + n + (1 + k) = 44 + n + k := by omega
  have E15 : Hid (vL .u8 (cat (Co.listF (wb m 14) 42 n F) (43 + n) (Co.lstF G 0 k G)) (43 + n + (1 + k)) = vL .u8 (Co.listF (Co.listF (wb m 14) 42 n F) (43 + n) k G) (44 + n + k)) := hide ((enc_list (Co.listF (wb m 14) 42 n F) G G (43 + n) k (by omega) fun i hi => ⟨(hG i hi).1, by have := hG i hi; omega⟩).trans (by rw [show 43 + n + 1 + k = 44 + n + k by omega]))
  have L1 : Hid (∀ w1, Below w.heap.size w w1 → Calls Try.prog 38 #[.slice pp n cp] w1 fun e w' => ∃ v, e = .returned v ∧ Sl .u8 w' v (1 + n) (Co.lstF F 0 n F) ∧ Below w1.heap.size w1 w') := by
    refine hide fun w1 hb => (rlist_is F _ n w1 (hp.below hb (Nat.le_refl _)) (by omega)).mono ?_
    rintro e w' ⟨v, rfl, o, b⟩
    exact ⟨v, rfl, sl_of_owns o, b⟩
  have L2 : Hid (∀ w1, Below w.heap.size w w1 → Calls Try.prog 38 #[.slice pt k ct] w1 fun e w' => ∃ v, e = .returned v ∧ Sl .u8 w' v (1 + k) (Co.lstF G 0 k G) ∧ Below w1.heap.size w1 w') := by
    refine hide fun w1 hb => (rlist_is G _ k w1 (ht.below hb (Nat.le_refl _)) (by omega)).mono ?_
    rintro e w' ⟨v, rfl, o, b⟩
    exact ⟨v, rfl, sl_of_owns o, b⟩
  have CS : Hid (∀ v w1, Sl .u8 w1 v (44 + n + k) (Co.listF (Co.listF (wb m 14) 42 n F) (43 + n) k G) → Calls Try.prog 39 #[v] w1 fun e w' => ∃ v', e = .returned v' ∧ Cr.Bs w' v' (48 + n + k) (frD m F n G k) ∧ Below w1.heap.size w1 w') := by
    refine hide fun v w1 hs => (Cr.refSeal_is (mD m F n G k) v (44 + n + k) w1 (hs.congr fun i hi => (right_bytes m F G n k h i hi).1.symm) (fun i hi => (right_bytes m F G n k h i hi).2) (by omega)).mono ?_
    rintro e w' ⟨v', rfl, o, b⟩
    have q : 44 + n + k + 4 = 48 + n + k := by omega
    rw [q] at o
    exact ⟨v', rfl, Cr.bs_of_owns o, b⟩
  have HH := hide (enc_head m)
  clear hp ht h hF hG hf
  generalize Co.listF (Co.listF (wb m 14) 42 n F) (43 + n) k G = A2 at *
  generalize Co.listF (wb m 14) 42 n F = A1 at *
  generalize wb m 4 = W4 at *
  generalize wb m 5 = W5 at *
  generalize wb m 6 = W6 at *
  generalize wb m 7 = W7 at *
  generalize wb m 8 = W8 at *
  generalize wb m 9 = W9 at *
  generalize wb m 10 = W10 at *
  generalize wb m 11 = W11 at *
  generalize wb m 12 = W12 at *
  generalize wb m 13 = W13 at *
  generalize wb m 14 = W14 at *
  generalize frD m F n G k = D at *
  unfold mv
  obtain ⟨w0, hw0⟩ : ∃ x, x = w.alloc (.cells #[.int .i64 m.kd, .int .i64 m.fr, .int .i64 m.fi, .int .i64 m.tw, .int .i64 m.ti, .int .i64 m.tp, .int .i64 m.ep, .int .i64 m.sq, .int .i64 m.la, .int .i64 m.va, .int .i64 m.no, .int .i64 m.ic, .int .i64 m.ct, .int .i64 m.hp, .slice pp n cp, .slice pt k ct] 24) := ⟨_, rfl⟩
  have HW0 := hide hw0
  have B0 : Hid (Below w.heap.size w w0) := hide (by rw [hw0]; exact below_alloc (Below.refl _ _) _)
  have GM : Hid (Has w0 w.heap.size (.cells #[.int .i64 m.kd, .int .i64 m.fr, .int .i64 m.fi, .int .i64 m.tw, .int .i64 m.ti, .int .i64 m.tp, .int .i64 m.ep, .int .i64 m.sq, .int .i64 m.la, .int .i64 m.va, .int .i64 m.no, .int .i64 m.ic, .int .i64 m.ct, .int .i64 m.hp, .slice pp n cp, .slice pt k ct] 24)) := hide (by rw [hw0]; exact Has.new _ _)
  have f0 := mv_cell (unhide GM).2 0 _ rfl
  have f1 := mv_cell (unhide GM).2 1 _ rfl
  have f3 := mv_cell (unhide GM).2 3 _ rfl
  have f5 := mv_cell (unhide GM).2 5 _ rfl
  clear hw0
  go_enter Try.func17, Try.ntmps17
  go_upto_region 1 with fail
  rw [← unhide HW0]
  go_upto_region 2 with fail
  obtain ⟨w1, hw1⟩ : ∃ x, x = w0.alloc (.cells #[.int .u8 (m.kd % 256), .int .u8 (m.fr % 256), .int .u8 (m.tw % 256), .int .u8 (m.tp % 256)] 5) := ⟨_, rfl⟩
  have o1 : w1.ownsRow w0.heap.size 5 1 (.slice (some ⟨w0.heap.size, 0, none⟩) 4 4) 4 (vL .u8 W4 4) := by
    rw [hw1, ← unhide HH]
    exact World.ownsRow_lit w0 #[.int .u8 (m.kd % 256), .int .u8 (m.fr % 256), .int .u8 (m.tw % 256), .int .u8 (m.tp % 256)] 4 (Nat.le_refl _) (by unfold maxLen; omega) rfl
  have O := hide o1
  have BW : Hid (Below w0.heap.size w0 w1) := hide (by rw [hw1]; exact below_alloc (Below.refl _ _) _)
  rw [← hw1]
  clear hw1 o1 f0 f1 f3 f5
  have fc := mv_cell ((unhide GM).below (unhide BW)).2 2 _ rfl
  go_wp2_with (first
    | (go_at_call 37; (with_reducible refine (unhide C4 _).mono ?_); rintro e wa4 ⟨va4, rfl, sa, ba⟩; have S := hide sa; replace O := hide (Cr.owns_below (unhide O) ba); replace BW := hide (below_of (unhide BW) ba); clear sa ba fc)
    | (at_builtin; refine wpList_app8 rfl (.tmp 17) (.tmp 20) rfl w0.heap.size _ 4 W4 rfl (unhide O) _ 4 _ rfl (unhide S) (by omega) (by omega) (unhide BW).size ?_; intro vb4 wb4 ob bb; rw [unhide E4] at ob; replace O := hide ob; replace BW := hide (below_up (unhide BW) bb); have fc := mv_cell ((unhide GM).below (unhide BW)).2 4 _ rfl; clear ob bb S E4)
    | (go_at_call 37; (with_reducible refine (unhide C5 _).mono ?_); rintro e wa5 ⟨va5, rfl, sa, ba⟩; have S := hide sa; replace O := hide (Cr.owns_below (unhide O) ba); replace BW := hide (below_of (unhide BW) ba); clear sa ba fc)
    | (at_builtin; refine wpList_app8 rfl (.tmp 22) (.tmp 25) rfl w0.heap.size _ 8 W5 rfl (unhide O) _ 4 _ rfl (unhide S) (by omega) (by omega) (unhide BW).size ?_; intro vb5 wb5 ob bb; rw [unhide E5] at ob; replace O := hide ob; replace BW := hide (below_up (unhide BW) bb); have fc := mv_cell ((unhide GM).below (unhide BW)).2 6 _ rfl; clear ob bb S E5)
    | (go_at_call 37; (with_reducible refine (unhide C6 _).mono ?_); rintro e wa6 ⟨va6, rfl, sa, ba⟩; have S := hide sa; replace O := hide (Cr.owns_below (unhide O) ba); replace BW := hide (below_of (unhide BW) ba); clear sa ba fc)
    | (at_builtin; refine wpList_app8 rfl (.tmp 27) (.tmp 30) rfl w0.heap.size _ 12 W6 rfl (unhide O) _ 8 _ rfl (unhide S) (by omega) (by omega) (unhide BW).size ?_; intro vb6 wb6 ob bb; rw [unhide E6] at ob; replace O := hide ob; replace BW := hide (below_up (unhide BW) bb); have fc := mv_cell ((unhide GM).below (unhide BW)).2 7 _ rfl; clear ob bb S E6)
    | (go_at_call 37; (with_reducible refine (unhide C7 _).mono ?_); rintro e wa7 ⟨va7, rfl, sa, ba⟩; have S := hide sa; replace O := hide (Cr.owns_below (unhide O) ba); replace BW := hide (below_of (unhide BW) ba); clear sa ba fc)
    | (at_builtin; refine wpList_app8 rfl (.tmp 32) (.tmp 35) rfl w0.heap.size _ 20 W7 rfl (unhide O) _ 4 _ rfl (unhide S) (by omega) (by omega) (unhide BW).size ?_; intro vb7 wb7 ob bb; rw [unhide E7] at ob; replace O := hide ob; replace BW := hide (below_up (unhide BW) bb); have fc := mv_cell ((unhide GM).below (unhide BW)).2 8 _ rfl; clear ob bb S E7)
    | (go_at_call 37; (with_reducible refine (unhide C8 _).mono ?_); rintro e wa8 ⟨va8, rfl, sa, ba⟩; have S := hide sa; replace O := hide (Cr.owns_below (unhide O) ba); replace BW := hide (below_of (unhide BW) ba); clear sa ba fc)
    | (at_builtin; refine wpList_app8 rfl (.tmp 37) (.tmp 40) rfl w0.heap.size _ 24 W8 rfl (unhide O) _ 4 _ rfl (unhide S) (by omega) (by omega) (unhide BW).size ?_; intro vb8 wb8 ob bb; rw [unhide E8] at ob; replace O := hide ob; replace BW := hide (below_up (unhide BW) bb); have fc := mv_cell ((unhide GM).below (unhide BW)).2 9 _ rfl; clear ob bb S E8)
    | (go_at_call 37; (with_reducible refine (unhide C9 _).mono ?_); rintro e wa9 ⟨va9, rfl, sa, ba⟩; have S := hide sa; replace O := hide (Cr.owns_below (unhide O) ba); replace BW := hide (below_of (unhide BW) ba); clear sa ba fc)
    | (at_builtin; refine wpList_app8 rfl (.tmp 42) (.tmp 45) rfl w0.heap.size _ 28 W9 rfl (unhide O) _ 4 _ rfl (unhide S) (by omega) (by omega) (unhide BW).size ?_; intro vb9 wb9 ob bb; rw [unhide E9] at ob; replace O := hide ob; replace BW := hide (below_up (unhide BW) bb); have fc := mv_cell ((unhide GM).below (unhide BW)).2 10 _ rfl; clear ob bb S E9)
    | (at_builtin; refine wpList_app8 rfl (.tmp 47) (.tmp 51) rfl w0.heap.size _ 32 W10 rfl ((unhide O).alloc _) _ 1 (fun _ => m.no % 256) rfl (sl_one1 .u8 _ (m.no % 256) 5) (by omega) (by omega) (by have := (unhide BW).size; simp; omega) ?_; intro vb10 wb10 ob bb; rw [unhide E10] at ob; replace O := hide ob; replace BW := hide (below_up ((unhide BW).alloc (unhide BW).size _) bb); clear fc; have fc := mv_cell ((unhide GM).below (unhide BW)).2 11 _ rfl; clear ob bb E10)
    | (go_at_call 37; (with_reducible refine (unhide C11 _).mono ?_); rintro e wa11 ⟨va11, rfl, sa, ba⟩; have S := hide sa; replace O := hide (Cr.owns_below (unhide O) ba); replace BW := hide (below_of (unhide BW) ba); clear sa ba fc)
    | (at_builtin; refine wpList_app8 rfl (.tmp 53) (.tmp 56) rfl w0.heap.size _ 33 W11 rfl (unhide O) _ 4 _ rfl (unhide S) (by omega) (by omega) (unhide BW).size ?_; intro vb11 wb11 ob bb; rw [unhide E11] at ob; replace O := hide ob; replace BW := hide (below_up (unhide BW) bb); have fc := mv_cell ((unhide GM).below (unhide BW)).2 12 _ rfl; clear ob bb S E11)
    | (go_at_call 37; (with_reducible refine (unhide C12 _).mono ?_); rintro e wa12 ⟨va12, rfl, sa, ba⟩; have S := hide sa; replace O := hide (Cr.owns_below (unhide O) ba); replace BW := hide (below_of (unhide BW) ba); clear sa ba fc)
    | (at_builtin; refine wpList_app8 rfl (.tmp 58) (.tmp 61) rfl w0.heap.size _ 37 W12 rfl (unhide O) _ 4 _ rfl (unhide S) (by omega) (by omega) (unhide BW).size ?_; intro vb12 wb12 ob bb; rw [unhide E12] at ob; replace O := hide ob; replace BW := hide (below_up (unhide BW) bb); have fc := mv_cell ((unhide GM).below (unhide BW)).2 13 _ rfl; clear ob bb S E12)
    | (at_builtin; refine wpList_app8 rfl (.tmp 63) (.tmp 67) rfl w0.heap.size _ 41 W13 rfl ((unhide O).alloc _) _ 1 (fun _ => m.hp % 256) rfl (sl_one1 .u8 _ (m.hp % 256) 5) (by omega) (by omega) (by have := (unhide BW).size; simp; omega) ?_; intro vb13 wb13 ob bb; rw [unhide E13] at ob; replace O := hide ob; replace BW := hide (below_up ((unhide BW).alloc (unhide BW).size _) bb); clear fc; have fc := mv_cell ((unhide GM).below (unhide BW)).2 14 _ rfl; clear ob bb E13)
    | (go_at_call 38; (with_reducible refine (unhide L1 _ (below_of (unhide B0) (unhide BW))).mono ?_); rintro e wa14 ⟨va14, rfl, sa, ba⟩; have S := hide sa; replace O := hide (Cr.owns_below (unhide O) ba); replace BW := hide (below_of (unhide BW) ba); clear sa ba fc)
    | (at_builtin; refine wpList_app8 rfl (.tmp 69) (.tmp 72) rfl w0.heap.size _ 42 W14 rfl (unhide O) _ (1 + n) _ rfl (unhide S) (by omega) (by omega) (unhide BW).size ?_; intro vb14 wb14 ob bb; rw [unhide E14, z14] at ob; replace O := hide ob; replace BW := hide (below_up (unhide BW) bb); have fc := mv_cell ((unhide GM).below (unhide BW)).2 15 _ rfl; clear ob bb S E14)
    | (go_at_call 38; (with_reducible refine (unhide L2 _ (below_of (unhide B0) (unhide BW))).mono ?_); rintro e wa15 ⟨va15, rfl, sa, ba⟩; have S := hide sa; replace O := hide (Cr.owns_below (unhide O) ba); replace BW := hide (below_of (unhide BW) ba); clear sa ba fc)
    | (at_builtin; refine wpList_app8 rfl (.tmp 74) (.tmp 77) rfl w0.heap.size _ (43 + n) A1 rfl (unhide O) _ (1 + k) _ rfl (unhide S) (by omega) (by omega) (unhide BW).size ?_; intro vb15 wb15 ob bb; rw [unhide E15, z15] at ob; have S16 := hide (sl_of_owns ob); replace BW := hide (below_up (unhide BW) bb); clear ob bb S E15)
    | (go_at_call 39; refine (unhide CS _ _ (unhide S16)).mono ?_; rintro e w9 ⟨v9, rfl, s9, b9⟩; have S9 := hide s9; replace BW := hide (below_of (unhide BW) b9); clear s9 b9))
  go_ret
  exact ⟨_, rfl, unhide S9, below_of (unhide B0) (unhide BW)⟩
end Go.Proofs.Ytmcmiojidgdjpaa
