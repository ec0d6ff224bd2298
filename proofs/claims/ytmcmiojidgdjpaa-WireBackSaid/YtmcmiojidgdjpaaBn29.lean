/- A right message's frame, and back; bytes that say a message. The page's Encode: plain facts of its appends. -/
import Derived.Test.YtmcmiojidgdjpaaBn28
import Derived.Test.YtmcmiojidgdjpaaBn5
import Derived.Test.YtmcmiojidgdjpaaBn4
namespace Go.Proofs.Ytmcmiojidgdjpaa
open Go.RowKit

theorem fewB_congr {F G : Nat → Int} {n : Nat} (h : ∀ i, i < n → F i = G i) : fewB F n = fewB G n := by
  unfold fewB
  refine decide_eq_decide.2 ⟨fun q => ⟨q.1, fun i hi => ?_⟩, fun q => ⟨q.1, fun i hi => ?_⟩⟩
  · rw [← h i hi]
    exact q.2 i hi
  · rw [h i hi]
    exact q.2 i hi
theorem unB_congr {F G : Nat → Int} {n : Nat} (h : ∀ i, i < n → F i = G i) : unB F n = unB G n := by
  unfold unB Unl
  refine decide_eq_decide.2 ⟨fun q i hi j hj => ?_, fun q i hi j hj => ?_⟩
  · rw [← h i (by omega), ← h j (by omega)]
    exact q i hi j hj
  · rw [h i (by omega), h j (by omega)]
    exact q i hi j hj
theorem lisB_congr (m : Mg) {F F' G G' : Nat → Int} {n k : Nat} (hF : ∀ i, i < n → F i = F' i) (hG : ∀ i, i < k → G i = G' i) : lisB m F n G k = lisB m F' n G' k := by
  unfold lisB
  rw [fewB_congr hF, fewB_congr hG, unB_congr hF, unB_congr (F := cat F n G) (G := cat F' n G') (n := n + k) (fun i hi => by
    unfold cat
    by_cases q : i < n
    · rw [if_pos q, if_pos q, hF i q]
    · rw [if_neg q, if_neg q, hG _ (by omega)])]
  by_cases hn : 0 < n
  · rw [hF 0 hn]
  · simp only [hn, decide_false, Bool.and_false, Bool.false_and]
theorem chkB_congr (m : Mg) {F F' G G' : Nat → Int} {n k : Nat} (hF : ∀ i, i < n → F i = F' i) (hG : ∀ i, i < k → G i = G' i) : chkB m F n G k = chkB m F' n G' k := by
  unfold chkB
  rw [lisB_congr m hF hG]
theorem eqM_refl (m : Mg) : eqM m m = true := by
  unfold eqM
  rw [List.all_eq_true]
  intro i _
  exact beq_self_eq_true _
theorem eqM_eq {a b : Mg} (h : eqM a b = true) : a = b := by
  unfold eqM at h
  rw [List.all_eq_true] at h
  have q : ∀ i, i < 14 → fld a i = fld b i := fun i hi => by simpa using h i (List.mem_range.2 hi)
  have h0 := q 0 (by omega)
  have h1 := q 1 (by omega)
  have h2 := q 2 (by omega)
  have h3 := q 3 (by omega)
  have h4 := q 4 (by omega)
  have h5 := q 5 (by omega)
  have h6 := q 6 (by omega)
  have h7 := q 7 (by omega)
  have h8 := q 8 (by omega)
  have h9 := q 9 (by omega)
  have h10 := q 10 (by omega)
  have h11 := q 11 (by omega)
  have h12 := q 12 (by omega)
  have h13 := q 13 (by omega)
  cases a
  cases b
  simp only [fld, List.getD_cons_zero, List.getD_cons_succ] at h0 h1 h2 h3 h4 h5 h6 h7 h8 h9 h10 h11 h12 h13
  simp only [*]
theorem same_iff (m m' : Mg) (F G F' G' : Nat → Int) (n k n' k' : Nat) : samB m F n G k m' F' n' G' k' = true ↔ m = m' ∧ n = n' ∧ k = k' ∧ (∀ i, i < n → F i = F' i) ∧ ∀ i, i < k → G i = G' i := by
  unfold samB eqB
  simp only [Bool.and_eq_true, decide_eq_true_eq]
  constructor
  · rintro ⟨⟨h1, h2, h3⟩, h4, h5⟩
    exact ⟨eqM_eq h1, h2, h4, h3, h5⟩
  · rintro ⟨rfl, h2, h4, h3, h5⟩
    exact ⟨⟨eqM_refl m, h2, h3⟩, h4, h5⟩

theorem fr_low (m : Mg) (F G : Nat → Int) (n k i : Nat) (hi : i < 44 + n + k) : frD m F n G k i = mD m F n G k i := Cr.sealD_ahead _ _ _ _ hi
theorem fr_msg (m : Mg) (F G : Nat → Int) (n k : Nat) (h : chkB m F n G k = true) (i : Nat) (hi : i < 44 + n + k) : E (frD m F n G k) i = msgF m F n G k i := by
  unfold E
  rw [fr_low m F G n k i hi]
  exact (right_bytes m F G n k h i hi).1
theorem fr_lt (m : Mg) (F G : Nat → Int) (n k : Nat) (h : chkB m F n G k = true) (i : Nat) : frD m F n G k i < 256 := Cr.sealD_lt _ _ _ _ fun i hi => (right_bytes m F G n k h i hi).2
theorem fr_sum (m : Mg) (F G : Nat → Int) (n k : Nat) (h : chkB m F n G k = true) : Cr.sumN (frD m F n G k) (44 + n + k) = Cr.le4 (frD m F n G k) (44 + n + k) := Cr.seal_good _ _ fun i hi => (right_bytes m F G n k h i hi).2
/-- What a right message's frame says. -/
theorem fr_says (m : Mg) (F G : Nat → Int) (n k : Nat) (h : chkB m F n G k = true) :
    rdM (E (frD m F n G k)) = m ∧ frD m F n G k 42 = n ∧ frD m F n G k (43 + n) = k ∧ (∀ i, i < n → E (frD m F n G k) (43 + i) = F i) ∧ ∀ i, i < k → E (frD m F n G k) (44 + n + i) = G i := by
  have q := fr_msg m F G n k h
  refine ⟨?_, ?_, ?_, fun i hi => ?_, fun i hi => ?_⟩
  · rw [rdM_congr (fun i hi => q i (by omega))]
    exact rdM_msgF m (fit_of m F G n k h) F n G k
  · have := q 42 (by omega)
    rw [msgF_n] at this
    unfold E at this
    omega
  · have := q (43 + n) (by omega)
    rw [msgF_k] at this
    unfold E at this
    omega
  · rw [q _ (by omega)]
    exact msgF_F m F n G k i hi
  · rw [q _ (by omega)]
    exact msgF_G m F n G k i
theorem fr_dec (m : Mg) (F G : Nat → Int) (n k : Nat) (h : chkB m F n G k = true) : decC (frD m F n G k) (48 + n + k) = 0 := by
  obtain ⟨h1, h2, _, _⟩ := lists_of m F G n k h
  obtain ⟨e1, e2, e3, e4, e5⟩ := fr_says m F G n k h
  have hw : wholeB (frD m F n G k) (44 + n + k) = true := by
    rw [wholeB_iff]
    refine ⟨?_, by rw [e2, e3]⟩
    rw [← rdM_wf _ 6 (by omega), e1]
    exact (fit_of m F G n k h 6 (by omega)).2
  have hr : rdB (frD m F n G k) = true := by
    unfold rdB
    rw [e2, e3, e1, chkB_congr m e4 e5]
    exact h
  unfold decC
  rw [if_neg (by omega), if_neg (by omega), show 48 + n + k - 4 = 44 + n + k by omega, if_pos (fr_sum m F G n k h), hw, hr, if_pos rfl, if_pos rfl]
/-- Bytes that say a message are the message's frame. -/
theorem reads_fr (D : Nat → Nat) (N : Nat) (hD : ∀ i, i < N → D i < 256) (h : decC D N = 0) :
    chkB (rdM (E D)) (fun i => E D (43 + i)) (D 42) (fun i => E D (44 + D 42 + i)) (D (43 + D 42)) = true ∧ N = 48 + D 42 + D (43 + D 42) ∧ ∀ i, i < N → frD (rdM (E D)) (fun i => E D (43 + i)) (D 42) (fun i => E D (44 + D 42 + i)) (D (43 + D 42)) i = D i := by
  obtain ⟨m, rfl, h80, hs, hW, hr⟩ := decC_ok D N h
  have h2 := hW.2
  unfold rdB at hr
  refine ⟨hr, by omega, fun i hi => ?_⟩
  have low : ∀ i, i < 44 + D 42 + D (43 + D 42) → mD (rdM (E D)) (fun i => E D (43 + i)) (D 42) (fun i => E D (44 + D 42 + i)) (D (43 + D 42)) i = D i := by
    intro i hi
    unfold mD
    rw [msgF_rd (E D) (D 42) (D (43 + D 42)) (fun i hi => by have := hD i (by omega); unfold E; omega) rfl rfl i]
    unfold E
    omega
  unfold frD
  rw [Cr.sumN_congr low, ← h2]
  rw [← h2] at low
  by_cases q : i < m
  · rw [Cr.sealD_ahead _ _ _ _ q]
    exact low i q
  · have e := Cr.seal_eq D m (Cr.sumN D m) hD hs i hi
    rw [← e]
    unfold Cr.sealD
    rw [if_neg q, if_neg q]
/-- A right message's frame is decoded. -/
theorem dec_fr (m : Mg) (F G : Nat → Int) (n k : Nat) (h : chkB m F n G k = true) (v : Value) (w : World) (hv : Cr.Bs w v (48 + n + k) (frD m F n G k)) : Calls Try.prog 11 #[v] w (Fin m F G n k w) := by
  obtain ⟨e1, e2, e3, e4, e5⟩ := fr_says m F G n k h
  have q := dec_ok (frD m F n G k) v _ w hv (fun i _ => fr_lt m F G n k h i) (fr_dec m F G n k h)
  rw [e1, e2, e3] at q
  refine q.mono ?_
  rintro e w' ⟨p, c, t, d, rfl, o1, o2, b⟩
  refine ⟨p, c, t, d, rfl, ?_, ?_, b⟩
  · rwa [← vL_congr e4]
  · rwa [← vL_congr e5]
end Go.Proofs.Ytmcmiojidgdjpaa
namespace Go.Proofs.Ytmcmiojidgdjpaa
open Go.RowKit

theorem enc_step (m : Mg) (j : Nat) (hj : j < 14) : vL .u8 (cat (wb m j) (wst j) (Co.bF (wsz j) (wf m j) 0)) (wst j + wsz j) = vL .u8 (wb m (j + 1)) (wst (j + 1)) := by
  rw [wst_succ j hj]
  refine vL_congr fun i hi => ?_
  show cat (wb m j) (wst j) (Co.bF (wsz j) (wf m j) 0) i = Co.putF (wb m j) (wst j) (wsz j) (wf m j) i
  unfold cat Co.putF Co.bF
  by_cases q : i < wst j
  · rw [if_pos q, if_pos q]
  · rw [if_neg q, if_neg q, if_pos (Nat.zero_le _)]
theorem enc_step1 (m : Mg) (j : Nat) (hj : j < 14) (h1 : wsz j = 1) : vL .u8 (cat (wb m j) (wst j) fun _ => wf m j % 256) (wst j + 1) = vL .u8 (wb m (j + 1)) (wst (j + 1)) := by
  rw [wst_succ j hj, h1]
  refine vL_congr fun i hi => ?_
  show cat (wb m j) (wst j) (fun _ => wf m j % 256) i = Co.putF (wb m j) (wst j) (wsz j) (wf m j) i
  unfold cat Co.putF
  by_cases q : i < wst j
  · rw [if_pos q, if_pos q]
  · rw [if_neg q, if_neg q, h1, show 8 * (1 - 1 - (i - wst j)) = 0 by omega, Int.pow_zero, Int.ediv_one]
theorem enc_list (A F' F : Nat → Int) (L n : Nat) (hn : n ≤ 255) (hF : ∀ i, i < n → Co.IsB (F i)) : vL .u8 (cat A L (Co.lstF F' 0 n F)) (L + (1 + n)) = vL .u8 (Co.listF A L n F) (L + 1 + n) := by
  rw [← Nat.add_assoc]
  refine vL_congr fun i hi => ?_
  unfold cat
  by_cases q : i < L
  · rw [if_pos q, Co.listF_ahead _ _ _ _ _ q]
  · rw [if_neg q, Co.lstF_is F' F 0 n hn hF _ (by omega)]
    unfold Co.listF
    rw [if_neg (by omega), if_neg q]
    by_cases e : i = L
    · rw [if_pos (by omega), if_pos e]
    · rw [if_neg (by omega), if_neg e, show i - L - 0 - 1 = i - L - 1 by omega]
theorem enc_head (m : Mg) : [Value.int .u8 (m.kd % 256), .int .u8 (m.fr % 256), .int .u8 (m.tw % 256), .int .u8 (m.tp % 256)] = vL .u8 (wb m 4) 4 := by
  have e : vL .u8 (wb m 4) 4 = [Value.int .u8 (wb m 4 0), .int .u8 (wb m 4 1), .int .u8 (wb m 4 2), .int .u8 (wb m 4 3)] := rfl
  rw [e]
  simp [wb, Co.putF, wst, wsz, wf]
theorem refBytes_sl (S : Nat) (n : Int) (hS : 1 ≤ S ∧ S ≤ 8) (h0 : 0 ≤ n) (h1 : n ≤ 4611686018427387903) (w : World) :
    Calls Try.prog 37 #[.int .i64 (S : Int), .int .i64 n] w fun e w' => ∃ v, e = .returned v ∧ Sl .u8 w' v S (Co.bF S n 0) ∧ Below w.heap.size w w' := by
  refine (Co.refBytes_is S n hS h0 h1 w).mono ?_
  rintro e w' ⟨rfl, o, b⟩
  exact ⟨_, rfl, sl_of_owns o, b⟩
/-- A number of a right message is none too great. -/
theorem fit_le (m : Mg) (hm : Fit m) (j : Nat) (hj : j < 14) : 0 ≤ wf m j ∧ wf m j ≤ 4611686018427387903 := by
  have h := hm j hj
  have q := (Co.lim_le (wsz j) (wsz_z j hj) (wf m j) h.2).2
  exact ⟨h.1, by omega⟩
end Go.Proofs.Ytmcmiojidgdjpaa
