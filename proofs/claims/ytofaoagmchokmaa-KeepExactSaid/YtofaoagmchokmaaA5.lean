/- Walks of the page's functions. -/
import Derived.Test.YtofaoagmchokmaaA4
namespace Go.Proofs.Ytofaoagmchokmaa
open Go.RowKit

theorem in_yes (n lo hi : Int) (h1 : lo ≤ n) (h2 : n ≤ hi) (w : World) : Calls Try.prog 19 #[.int .i64 n, .int .i64 lo, .int .i64 hi] w fun e w' => e = .returned (.bool true) ∧ w' = w := by
  go_enter Try.func19, Try.ntmps19
  go_wp2
  go_ret
  exact ⟨rfl, rfl⟩
theorem in_no (n lo hi : Int) (h : ¬ (lo ≤ n ∧ n ≤ hi)) (w : World) : Calls Try.prog 19 #[.int .i64 n, .int .i64 lo, .int .i64 hi] w fun e w' => e = .returned (.bool false) ∧ w' = w := by
  by_cases h1 : lo ≤ n
  · have h2 : ¬ n ≤ hi := fun q => h ⟨h1, q⟩
    have h3 : decide (n ≤ hi) = false := by simpa using h2
    clear h
    go_enter Try.func19, Try.ntmps19
    go_wp2
    go_ret
    exact ⟨rfl, rfl⟩
  · clear h
    go_enter Try.func19, Try.ntmps19
    go_wp2
    go_ret
    exact ⟨rfl, rfl⟩
theorem In_yes (n lo hi : Int) (h1 : lo ≤ n) (h2 : n ≤ hi) (w : World) : Calls Try.prog 20 #[.int .i64 n, .int .i64 lo, .int .i64 hi] w fun e w' => e = .returned (.bool true) ∧ w' = w := by
  go_enter Try.func20, Try.ntmps20
  go_wp2
  go_ret
  exact ⟨rfl, rfl⟩
theorem In_no (n lo hi : Int) (h : ¬ (lo ≤ n ∧ n ≤ hi)) (w : World) : Calls Try.prog 20 #[.int .i64 n, .int .i64 lo, .int .i64 hi] w fun e w' => e = .returned (.bool false) ∧ w' = w := by
  by_cases h1 : lo ≤ n
  · have h2 : ¬ n ≤ hi := fun q => h ⟨h1, q⟩
    have h3 : decide (n ≤ hi) = false := by simpa using h2
    clear h
    go_enter Try.func20, Try.ntmps20
    go_wp2
    go_ret
    exact ⟨rfl, rfl⟩
  · clear h
    go_enter Try.func20, Try.ntmps20
    go_wp2
    go_ret
    exact ⟨rfl, rfl⟩
theorem rvalue_yes (v : Int) (h : isV v) (w : World) : Calls Try.prog 13 #[.int .i64 v] w fun e w' => e = .returned (.bool true) ∧ w' = w := by
  have CI := hide (fun W => In_yes v 0 2147483647 h.1 (by have := h.2; omega) W)
  clear h
  go_enter Try.func13, Try.ntmps13
  go_wp2_with (go_at_call 20; refine (unhide CI _).mono ?_; rintro e w ⟨rfl, rfl⟩)
  go_ret
  exact ⟨rfl, rfl⟩
theorem rvalue_no (v : Int) (h : ¬ isV v) (w : World) : Calls Try.prog 13 #[.int .i64 v] w fun e w' => e = .returned (.bool false) ∧ w' = w := by
  have CI := hide (fun W => In_no v 0 2147483647 (fun q => h ⟨q.1, by omega⟩) W)
  clear h
  go_enter Try.func13, Try.ntmps13
  go_wp2_with (go_at_call 20; refine (unhide CI _).mono ?_; rintro e w ⟨rfl, rfl⟩)
  go_ret
  exact ⟨rfl, rfl⟩
set_option maxHeartbeats 2000000 in
set_option maxRecDepth 100000 in
theorem kept_any (L : List It) (want limit : Int) (v : Value) (w : World) (h : KL w v L) :
    Calls Try.prog 10 #[v, .int .i64 want, .int .i64 limit] w fun e w' => (e = .returned (.bool true) ∧ Rt L want limit ∨ e = .returned (.bool false) ∧ ¬ Rt L want limit) ∧ Below w.heap.size w w' := by
  obtain ⟨q, c, rfl⟩ := kl_form h
  obtain ⟨n, hn⟩ : ∃ n, L.length = n := ⟨_, rfl⟩
  have hnc := (kl_cap h).2
  have HR := hide (show Rt L want limit ↔ (1 ≤ want ∧ want ≤ 1073741824 ∧ 1 ≤ limit ∧ limit ≤ 16 ∧ (n : Int) ≤ limit ∧ (n : Int) < want ∧ ∀ i, i < n → okI want L i) by rw [← hn]; exact Iff.rfl)
  have HO := hide (show ∀ i, okI want L i ↔ ((kz L i).1 = want - n + i ∧ isV (kz L i).2) by rw [← hn]; exact fun i => Iff.rfl)
  have HI := hide h
  rw [hn] at HI hnc ⊢
  clear h hn
  generalize Rt L want limit = R at *
  by_cases h12 : 1 ≤ want ∧ want ≤ 1073741824
  case neg =>
    have HF := hide (show ¬ R from fun r => h12 ⟨((unhide HR).1 r).1, ((unhide HR).1 r).2.1⟩)
    have C1 := hide (fun W => in_no want 1 1073741824 h12 W)
    clear HR HO HI h12
    go_enter Try.func10, Try.ntmps10
    go_wp2_with (go_at_call 19; refine (unhide C1 _).mono ?_; rintro e w ⟨rfl, rfl⟩)
    go_ret
    exact ⟨.inr ⟨rfl, unhide HF⟩, Below.refl _ _⟩
  obtain ⟨h1, h2⟩ := h12
  have C1 := hide (fun W => in_yes want 1 1073741824 h1 h2 W)
  by_cases h34 : 1 ≤ limit ∧ limit ≤ 16
  case neg =>
    have HF := hide (show ¬ R from fun r => h34 ⟨((unhide HR).1 r).2.2.1, ((unhide HR).1 r).2.2.2.1⟩)
    have C2 := hide (fun W => in_no limit 1 16 h34 W)
    clear HR HO HI h34
    go_enter Try.func10, Try.ntmps10
    have m1 := trivial
    go_wp2_with (first | (clear m1; go_at_call 19; refine (unhide C1 _).mono ?_; rintro e w ⟨rfl, rfl⟩) | (go_at_call 19; refine (unhide C2 _).mono ?_; rintro e w ⟨rfl, rfl⟩))
    go_ret
    exact ⟨.inr ⟨rfl, unhide HF⟩, Below.refl _ _⟩
  obtain ⟨h3, h4⟩ := h34
  have C2 := hide (fun W => in_yes limit 1 16 h3 h4 W)
  by_cases h5 : (n : Int) ≤ limit
  case neg =>
    have HF := hide (show ¬ R from fun r => h5 ((unhide HR).1 r).2.2.2.2.1)
    clear HR HO HI
    go_enter Try.func10, Try.ntmps10
    have m1 := trivial
    go_wp2_with (first | (clear m1; go_at_call 19; refine (unhide C1 _).mono ?_; rintro e w ⟨rfl, rfl⟩) | (go_at_call 19; refine (unhide C2 _).mono ?_; rintro e w ⟨rfl, rfl⟩))
    go_ret
    exact ⟨.inr ⟨rfl, unhide HF⟩, Below.refl _ _⟩
  by_cases h6 : (n : Int) < want
  case neg =>
    have HF := hide (show ¬ R from fun r => h6 ((unhide HR).1 r).2.2.2.2.2.1)
    clear HR HO HI
    go_enter Try.func10, Try.ntmps10
    have m1 := trivial
    go_wp2_with (first | (clear m1; go_at_call 19; refine (unhide C1 _).mono ?_; rintro e w ⟨rfl, rfl⟩) | (go_at_call 19; refine (unhide C2 _).mono ?_; rintro e w ⟨rfl, rfl⟩))
    go_ret
    exact ⟨.inr ⟨rfl, unhide HF⟩, Below.refl _ _⟩
  have HT := hide (show (∀ i, i < n → okI want L i) → R from fun q => (unhide HR).2 ⟨h1, h2, h3, h4, h5, h6, q⟩)
  have HF := hide (show ∀ i, i < n → ¬ okI want L i → ¬ R from fun i hi q r => q (((unhide HR).1 r).2.2.2.2.2.2 i hi))
  clear HR
  go_enter Try.func10, Try.ntmps10
  have m1 := trivial
  go_wp2_with (first | (clear m1; go_at_call 19; refine (unhide C1 _).mono ?_; rintro e w ⟨rfl, rfl⟩) | (go_at_call 19; refine (unhide C2 _).mono ?_; rintro e w ⟨rfl, rfl⟩))
  go_loopw [7] (fun i w3 => ∃ k : Nat, k ≤ n ∧ i = .int .i64 k ∧ Hid (∀ i, i < k → okI want L i) ∧ Below w.heap.size w w3) (fun i _ => n - (intOf i).toNat)
  case atStart => exact ⟨0, by omega, rfl, hide (fun i hi => absurd hi (Nat.not_lt_zero _)), Below.refl _ _⟩
  case round =>
    obtain ⟨k, hk, rfl, HK, hb⟩ := hrel
    have HB := hide hb
    by_cases hlt : k < n
    · obtain ⟨b, off, rfl, hle, hc, hbb, d1, d2⟩ := kl_cell ((unhide HI).below hb (Nat.le_refl _)) hlt
      have HOk := hide (unhide HO k)
      have HS := hide (show okI want L k → ∀ i, i < k + 1 → okI want L i from fun q i hi => by
        by_cases e : i = k
        · subst e; exact q
        · exact unhide HK i (by omega))
      have HFk := hide (unhide HF k hlt)
      clear hb HO HF HK C1 C2
      generalize okI want L k = O at *
      generalize hS : (∀ i, i < k + 1 → okI want L i) = S at *
      generalize kz L k = y at *
      obtain ⟨y1, y2⟩ := y
      by_cases e1 : y1 = want - n + k
      · subst e1
        by_cases e2 : isV y2
        · have HN := hide (unhide HS ((unhide HOk).2 ⟨rfl, e2⟩))
          have HV := hide (fun W => rvalue_yes y2 e2 W)
          clear e2 HS HFk HOk
          go_wp2_with (go_at_call 13; refine (unhide HV _).mono ?_; rintro e w1 ⟨rfl, rfl⟩)
          go_roundw
          case rel => exact ⟨k + 1, by omega, by go_num, by rw [hS]; exact HN, unhide HB⟩
          case measure => simp [intOf]; omega
        · have HN := hide (unhide HFk (fun q => e2 ((unhide HOk).1 q).2))
          have HV := hide (fun W => rvalue_no y2 e2 W)
          clear e2 HS HFk HOk
          go_wp2_with (go_at_call 13; refine (unhide HV _).mono ?_; rintro e w1 ⟨rfl, rfl⟩)
          go_ret
          exact ⟨.inr ⟨rfl, unhide HN⟩, unhide HB⟩
      · have HN := hide (unhide HFk (fun q => e1 ((unhide HOk).1 q).1))
        have e3 : (y1 != want - n + k) = true := by simp [e1]
        clear e1 HS HFk HOk
        go_wp2
        go_ret
        exact ⟨.inr ⟨rfl, unhide HN⟩, unhide HB⟩
    · obtain rfl : k = n := by omega
      have HN := hide (unhide HT (unhide HK))
      clear hb HO HF HK HT C1 C2
      go_wp2
      go_ret
      exact ⟨.inl ⟨rfl, unhide HN⟩, unhide HB⟩
theorem kept_ok (L : List It) (want limit : Int) (v : Value) (w : World) (h : KL w v L) (hr : Rt L want limit) :
    Calls Try.prog 10 #[v, .int .i64 want, .int .i64 limit] w fun e w' => e = .returned (.bool true) ∧ Below w.heap.size w w' := by
  refine (kept_any L want limit v w h).mono ?_
  rintro e w' ⟨⟨rfl, _⟩ | ⟨_, q⟩, hb⟩
  · exact ⟨rfl, hb⟩
  · exact absurd hr q
theorem kept_no (L : List It) (want limit : Int) (v : Value) (w : World) (h : KL w v L) (hr : ¬ Rt L want limit) :
    Calls Try.prog 10 #[v, .int .i64 want, .int .i64 limit] w fun e w' => e = .returned (.bool false) ∧ Below w.heap.size w w' := by
  refine (kept_any L want limit v w h).mono ?_
  rintro e w' ⟨⟨_, q⟩ | ⟨rfl, _⟩, hb⟩
  · exact absurd q hr
  · exact ⟨rfl, hb⟩
set_option maxHeartbeats 1000000 in
set_option maxRecDepth 100000 in
theorem rpush_k (L : List It) (want limit value : Int) (v : Value) (w : World) (h : KL w v L) (hr : Rt L want limit) :
    Calls Try.prog 14 #[v, .int .i64 want, .int .i64 limit, .int .i64 value] w fun e w' => ∃ v', e = .returned v' ∧ KL w' v' (pu L want limit value) ∧ Below w.heap.size w w' := by
  obtain ⟨r1, r2, r3, r4, r5, r6, -⟩ := id hr
  have HI := hide h
  have LN := hide (show L.length ≤ 1000000 by omega)
  have HP := hide (show pu L want limit value = (L ++ [(want, value)]).drop ((L.length : Int) + 1 - limit).toNat from rfl)
  have H5 := hide r5
  clear h hr r5 r6
  generalize pu L want limit value = PU at *
  go_enter Try.func14, Try.ntmps14
  have m1 := trivial
  go_upto_region 4 with (first
    | (clear m1; at_builtin; refine wpList_addK (by simp [Region.wanted]) _ _ rfl w.heap.size _ _ [] L rfl (KO.nil _ _) rfl (unhide HI) (by simp) (unhide LN) (Nat.le_refl _) ?_; intro v3 w3 o3 b3; rw [List.nil_append] at o3; have O3 := hide o3; have B3 := hide b3; clear o3 b3)
    | (at_builtin; refine wpList_addK (by simp [Region.wanted]) _ _ rfl w.heap.size _ _ L [(want, value)] rfl ((unhide O3).alloc _) rfl (kl_lit _ _ _ _ rfl) (unhide LN) (by simp) (by have := (unhide B3).size; simp; omega) ?_; intro v4 w4 o4 b4; have O4 := hide o4.kl; have B4 := hide ((below_alloc (unhide B3) _).trans b4); clear o4 b4))
  obtain ⟨q4, c4, rfl⟩ := kl_form (unhide O4)
  obtain ⟨m, hm⟩ : ∃ m, (L ++ [(want, value)]).length = m := ⟨_, rfl⟩
  have HM := hide (show m = L.length + 1 by rw [← hm]; simp)
  rw [hm] at O4 ⊢
  have hmx := run_max1 (m : Int) limit
  have m17 : m ≤ 17 := by have := unhide HM; have := unhide H5; omega
  have hX := hide (show ((m : Int) - limit).toNat = ((L.length : Int) + 1 - limit).toNat by rw [unhide HM]; simp)
  have x1 : ((m : Int) - limit).toNat ≤ m := by omega
  clear hm
  generalize ((m : Int) - limit).toNat = X at *
  obtain ⟨a2, c2, hs, hk⟩ := kl_at q4 m c4 (X : Int) (by omega) (by omega)
  simp only [Int.toNat_natCast] at hs hk
  have HK := hide hk
  clear hk
  go_wp2
  go_ret
  exact ⟨_, rfl, by rw [unhide HP, ← unhide hX]; exact unhide HK _ _ (unhide O4), unhide B4⟩
theorem ragain_far (want frm : Int) (v : Value) (w : World) (hw : want ≤ frm) :
    Calls Try.prog 15 #[v, .int .i64 want, .int .i64 frm] w fun e w' => e = .returned (.tuple #[.int .i64 0, .slice none 0 0]) ∧ Below w.heap.size w w' := by
  go_enter Try.func15, Try.ntmps15
  go_wp2
  go_ret2
  exact ⟨rfl, Below.refl _ _⟩
/-- What of the first k ones lies from a place on. -/
def dk (L : List It) (X k : Nat) : List It := (L.drop X).take (k - X)
theorem dk_len {L : List It} {X k : Nat} (h : k ≤ L.length) : (dk L X k).length = k - X := by
  unfold dk
  rw [List.length_take, List.length_drop]
  omega
theorem dk_no {L : List It} {X k : Nat} (h : k < X) : dk L X (k + 1) = dk L X k := by
  unfold dk
  rw [show k + 1 - X = 0 by omega, show k - X = 0 by omega]
theorem dk_yes {L : List It} {X k : Nat} (h : X ≤ k) (hk : k < L.length) : dk L X (k + 1) = dk L X k ++ [kz L k] := by
  unfold dk
  rw [show k + 1 - X = (k - X) + 1 by omega, take_kz (by rw [List.length_drop]; omega), kz_drop, show X + (k - X) = k by omega]
theorem dk_8 {L : List It} {X k : Nat} (h : k - X = 8) : dk L X k = (L.drop X).take 8 := by
  unfold dk
  rw [h]
theorem dk_end {L : List It} {X : Nat} (h : L.length - X ≤ 8) : dk L X L.length = (L.drop X).take 8 := by
  unfold dk
  rw [List.take_of_length_le (by rw [List.length_drop]; omega), List.take_of_length_le (by rw [List.length_drop]; omega)]
set_option maxHeartbeats 4000000 in
set_option maxRecDepth 100000 in
theorem ragain_k (L : List It) (want limit frm : Int) (v : Value) (w : World) (h : KL w v L) (hr : Rt L want limit) (hf : 1 ≤ frm) (hw : frm < want) :
    Calls Try.prog 15 #[v, .int .i64 want, .int .i64 frm] w fun e w' => ∃ v', e = .returned (.tuple #[.int .i64 (agG L.length want frm), v']) ∧ KL w' v' (agL L want frm) ∧ Below w.heap.size w w' := by
  obtain ⟨hr1, hr2, hr3, hr4, hr5, hr6, hr7⟩ := id hr
  have hL16 : L.length ≤ 16 := by omega
  obtain ⟨q, c, rfl⟩ := kl_form h
  obtain ⟨n, hn⟩ : ∃ n, L.length = n := ⟨_, rfl⟩
  obtain ⟨X, hX⟩ : ∃ X, (frm - (want - n)).toNat = X := ⟨_, rfl⟩
  have HX := hide (show ∀ k : Nat, frm ≤ want - n + k ↔ X ≤ k from fun k => by omega)
  have HS := hide (show ∀ i, i < n → (kz L i).1 = want - n + i from fun i hi => by rw [← hn]; exact (hr7 i (by omega)).1)
  have HN := hide hn
  have HI := hide h
  have HP := hide (show agL L want frm = (L.drop X).take 8 by unfold agL; rw [hn, hX])
  have HG := hide (show agG L.length want frm = if frm < want - n then want - n - 1 else 0 by unfold agG; rw [hn])
  rw [hn] at HI hr5 hr6 hL16 HG ⊢
  generalize agG n want frm = G at *
  clear h hn hr hr7 hX
  by_cases g : frm < want - n
  · replace HG := hide (show G = want - n - 1 by rw [unhide HG, if_pos g])
    go_enter Try.func15, Try.ntmps15
    go_wp2
    go_loopw [10, 11] (fun u i w3 => ∃ (V : Value) (k : Nat), k ≤ n ∧ k - X ≤ 8 ∧ u = V ∧ i = .int .i64 k ∧ KO w3 w.heap.size V (dk L X k) ∧ Below w.heap.size w w3) (fun _ i _ => n - (intOf i).toNat)
    case atStart => exact ⟨_, 0, by omega, by omega, rfl, rfl, by rw [show dk L X 0 = [] by simp [dk]]; exact KO.nil _ _, Below.refl _ _⟩
    case round =>
      obtain ⟨V, k, hk, h8, hu, rfl, ho, hb⟩ := hrel
      obtain rfl := hu.symm
      have HO := hide ho
      have HB := hide hb
      obtain ⟨qv, cv, rfl⟩ := kl_form ho.kl
      have hM := dk_len (L := L) (X := X) (k := k) (by have := unhide HN; omega)
      generalize hD : dk L X k = D at *
      have HD := hide hD
      generalize D.length = M at *
      have HM := hide hM
      by_cases hlt : k < n
      · by_cases hm8 : M < 8
        · obtain ⟨b, off, rfl, hle, hc, hbb, c1, c2⟩ := kl_cell ((unhide HI).below hb (Nat.le_refl _)) hlt
          have hs := unhide HS k hlt
          have hkl := hide (show k < L.length by have := unhide HN; omega)
          by_cases hx : X ≤ k
          · have E := hide (show dk L X (k + 1) = D ++ [kz L k] by rw [dk_yes hx (unhide hkl), hD])
            have hx2 := (unhide HX k).2 hx
            have B2 := hide (show ∀ o1, Below w.heap.size w (wr.alloc o1) from fun o1 => hb.alloc hb.size _)
            have LN := hide (show D.length ≤ 1000000 by rw [← hD, dk_len (by have := unhide hkl; omega)]; omega)
            have hk8 := hide (show k + 1 - X ≤ 8 by omega)
            clear ho hb hD hM hx h8
            generalize kz L k = y at *
            obtain ⟨y1, y2⟩ := y
            simp only at hs
            subst hs
            go_wp2_with (at_builtin; refine wpList_addK (by simp [Region.wanted]) _ _ rfl w.heap.size _ _ D [(want - n + k, y2)] rfl ((unhide HO).alloc _) rfl (kl_lit _ _ _ _ rfl) (unhide LN) (by simp) (unhide B2 _).size ?_; intro v4 w4 o4 b4; have O4 := hide o4; have B4 := hide ((unhide B2 _).trans b4); clear o4 b4)
            go_roundw
            case rel => exact ⟨_, k + 1, by omega, unhide hk8, rfl, by go_num, by rw [unhide E]; exact unhide O4, unhide B4⟩
            case measure => simp [intOf]; omega
          · exact absurd ((unhide HX k).1 (by omega)) hx
        · obtain rfl : M = 8 := by omega
          have HE := hide (show D = (L.drop X).take 8 by rw [← hD]; exact dk_8 hM.symm)
          clear ho hb hD hM h8
          go_wp2
          go_ret2
          exact ⟨_, by rw [unhide HG]; rfl, by rw [unhide HP, ← unhide HE]; exact (unhide HO).kl, unhide HB⟩
      · obtain rfl : k = n := by omega
        have HE := hide (show D = (L.drop X).take 8 by rw [← hD, ← unhide HN]; exact dk_end (by rw [unhide HN]; exact h8))
        clear ho hb hD hM h8
        go_wp2
        go_ret2
        exact ⟨_, by rw [unhide HG]; rfl, by rw [unhide HP, ← unhide HE]; exact (unhide HO).kl, unhide HB⟩
  · replace HG := hide (show G = 0 by rw [unhide HG, if_neg g])
    go_enter Try.func15, Try.ntmps15
    go_wp2
    go_loopw [10, 11] (fun u i w3 => ∃ (V : Value) (k : Nat), k ≤ n ∧ k - X ≤ 8 ∧ u = V ∧ i = .int .i64 k ∧ KO w3 w.heap.size V (dk L X k) ∧ Below w.heap.size w w3) (fun _ i _ => n - (intOf i).toNat)
    case atStart => exact ⟨_, 0, by omega, by omega, rfl, rfl, by rw [show dk L X 0 = [] by simp [dk]]; exact KO.nil _ _, Below.refl _ _⟩
    case round =>
      obtain ⟨V, k, hk, h8, hu, rfl, ho, hb⟩ := hrel
      obtain rfl := hu.symm
      have HO := hide ho
      have HB := hide hb
      obtain ⟨qv, cv, rfl⟩ := kl_form ho.kl
      have hM := dk_len (L := L) (X := X) (k := k) (by have := unhide HN; omega)
      generalize hD : dk L X k = D at *
      have HD := hide hD
      generalize D.length = M at *
      have HM := hide hM
      by_cases hlt : k < n
      · by_cases hm8 : M < 8
        · obtain ⟨b, off, rfl, hle, hc, hbb, c1, c2⟩ := kl_cell ((unhide HI).below hb (Nat.le_refl _)) hlt
          have hs := unhide HS k hlt
          have hkl := hide (show k < L.length by have := unhide HN; omega)
          by_cases hx : X ≤ k
          · have E := hide (show dk L X (k + 1) = D ++ [kz L k] by rw [dk_yes hx (unhide hkl), hD])
            have hx2 := (unhide HX k).2 hx
            have B2 := hide (show ∀ o1, Below w.heap.size w (wr.alloc o1) from fun o1 => hb.alloc hb.size _)
            have LN := hide (show D.length ≤ 1000000 by rw [← hD, dk_len (by have := unhide hkl; omega)]; omega)
            have hk8 := hide (show k + 1 - X ≤ 8 by omega)
            clear ho hb hD hM hx h8
            generalize kz L k = y at *
            obtain ⟨y1, y2⟩ := y
            simp only at hs
            subst hs
            go_wp2_with (at_builtin; refine wpList_addK (by simp [Region.wanted]) _ _ rfl w.heap.size _ _ D [(want - n + k, y2)] rfl ((unhide HO).alloc _) rfl (kl_lit _ _ _ _ rfl) (unhide LN) (by simp) (unhide B2 _).size ?_; intro v4 w4 o4 b4; have O4 := hide o4; have B4 := hide ((unhide B2 _).trans b4); clear o4 b4)
            go_roundw
            case rel => exact ⟨_, k + 1, by omega, unhide hk8, rfl, by go_num, by rw [unhide E]; exact unhide O4, unhide B4⟩
            case measure => simp [intOf]; omega
          · have E := hide (show dk L X (k + 1) = D by rw [dk_no (by omega), hD])
            have hx2 : ¬ frm ≤ want - n + k := fun z => hx ((unhide HX k).1 z)
            have hk8 := hide (show k + 1 - X ≤ 8 by omega)
            clear ho hb hD hM hx h8
            generalize kz L k = y at *
            obtain ⟨y1, y2⟩ := y
            simp only at hs
            subst hs
            go_wp2
            go_roundw
            case rel => exact ⟨_, k + 1, by omega, unhide hk8, rfl, by go_num, by rw [unhide E]; exact unhide HO, unhide HB⟩
            case measure => simp [intOf]; omega
        · obtain rfl : M = 8 := by omega
          have HE := hide (show D = (L.drop X).take 8 by rw [← hD]; exact dk_8 hM.symm)
          clear ho hb hD hM h8
          go_wp2
          go_ret2
          exact ⟨_, by rw [unhide HG]; rfl, by rw [unhide HP, ← unhide HE]; exact (unhide HO).kl, unhide HB⟩
      · obtain rfl : k = n := by omega
        have HE := hide (show D = (L.drop X).take 8 by rw [← hD, ← unhide HN]; exact dk_end (by rw [unhide HN]; exact h8))
        clear ho hb hD hM h8
        go_wp2
        go_ret2
        exact ⟨_, by rw [unhide HG]; rfl, by rw [unhide HP, ← unhide HE]; exact (unhide HO).kl, unhide HB⟩
end Go.Proofs.Ytofaoagmchokmaa
