/- Walk of wire.read. -/
import Derived.Test.YtmcmiojidgdjpaaBn24
import Derived.Test.YtmcmiojidgdjpaaBn15
import Derived.Test.YtmcmiojidgdjpaaBn20
import Derived.Test.YtmcmiojidgdjpaaBn4
namespace Go.Proofs.Ytmcmiojidgdjpaa
open Go.RowKit

/-- A function that answers what a cell of its own holds, whole, and one value more. -/
theorem ret_mix {fn : Func} {R : Ending → World → Prop} {a : Act} {w : World} (p q : Tmp) (h : fn.results = #[.cell p 24, .tmp q]) (g : Nat) (cs : Array Value) (v : Value)
    (hp : a.tmps.getD p undef = .pointer (some ⟨g, 0, none⟩)) (hq : a.tmps.getD q undef = v) (hg : w.heap[g]? = some (.cells cs 24))
    (hc : cs.size = 16) (hde : a.defers = []) (hR : R (.returned (.tuple #[.agg cs, v])) w) : bodyPost Try.prog fn R .ret a w := by
  refine bodyPost_ret ?_ hde hR
  have hp' : a.tmps[p]?.getD undef = .pointer (some ⟨g, 0, none⟩) := by simpa using hp
  have hq' : a.tmps[q]?.getD undef = v := by simpa using hq
  have h1 := run_loadVar_row (P := Try.prog) w g 24 24 cs (0, 0) _ hg Try.underlying24 rfl (by rw [hc]; exact info24)
  simp [results, h, hp', hq', asAddr, h1]
/-- What read answers. -/
def RdR (D : Nat → Nat) (m B : Nat) (w' : World) (e : Ending) : Prop :=
  (¬ Whole D m ∧ e = .returned (.tuple #[mv zeroM (.slice none 0 0) (.slice none 0 0), .bool false])) ∨
  (Whole D m ∧ ∃ p c t d, e = .returned (.tuple #[mv (rdM (E D)) (.slice p (D 42) c) (.slice t (D (43 + D 42)) d), .bool true]) ∧ w'.ownsRow B 3 1 (.slice p (D 42) c) (D 42) (vL .i64 (fun i => E D (43 + i)) (D 42)) ∧ w'.ownsRow B 3 1 (.slice t (D (43 + D 42)) d) (D (43 + D 42)) (vL .i64 (fun i => E D (44 + D 42 + i)) (D (43 + D 42))))
/-- GetList's answer, of bytes. -/
def GR2 (D : Nat → Nat) (m a B : Nat) (w : World) (v : Value) (t c : Int) : Prop :=
  ((m ≤ a ∨ m < a + 1 + D a) ∧ v = .slice none 0 0 ∧ t = 0 ∧ c = 2) ∨
  (a < m ∧ a + 1 + D a ≤ m ∧ t = ((a + 1 + D a : Nat) : Int) ∧ c = 0 ∧ w.ownsRow B 3 1 v (D a) (vL .i64 (fun i => E D (a + 1 + i)) (D a)))
theorem getl_own (D : Nat → Nat) (v : Value) (m a : Nat) (w : World) (hv : Sl .u8 w v m (E D)) (hf : ∀ i, i < m → 0 ≤ E D i ∧ E D i < 256) (hm : m ≤ 100000) :
    Calls Try.prog 52 #[v, .int .i64 (a : Int)] w fun e w' => ∃ x t c, e = .returned (.tuple #[x, .int .i64 t, .int .i64 c]) ∧ GR2 D m a w.heap.size w' x t c ∧ Below w.heap.size w w' := by
  by_cases hA : a < m
  · by_cases h2 : a + 1 + D a ≤ m
    · refine (Co.getl_is (E D) v m a (D a) w hv hf hA (by omega) rfl h2).mono ?_
      rintro e w' ⟨x, rfl, o, b⟩
      exact ⟨x, _, _, rfl, .inr ⟨hA, h2, by omega, rfl, o⟩, b⟩
    · refine (Co.getl_cut (E D) v m a w hv hf hA (by omega) (fun q => h2 (by have := q.2; unfold E at this; omega))).mono ?_
      rintro e w' ⟨rfl, b⟩
      exact ⟨_, _, _, rfl, .inl ⟨.inr (by omega), rfl, rfl, rfl⟩, b⟩
  · obtain ⟨p, cap, rfl, _, hc⟩ := hv.shape
    refine (Co.getl_at p m cap a (by unfold maxLen; omega) (fun q => hA (by have := q.2; omega)) w).mono ?_
    rintro e w' ⟨rfl, b⟩
    exact ⟨_, _, _, rfl, .inl ⟨.inl (by omega), rfl, rfl, rfl⟩, b⟩
/-- The first j of the numbers, as they are read. -/
def Rd14 (D : Nat → Nat) (j : Nat) (cs : Array Value) : Prop := cs.size = 14 ∧ ∀ i, i < 14 → cs[i]? = some (.int .i64 (if i < j then gN (E D) i else 0))
theorem Rd14.next {D : Nat → Nat} {j : Nat} {cs : Array Value} (h : Rd14 D j cs) (hj : j < 14) : Rd14 D (j + 1) (cs.setIfInBounds j (.int .i64 (gN (E D) j))) := by
  refine ⟨by rw [Array.size_setIfInBounds]; exact h.1, fun i hi => ?_⟩
  rw [Array.getElem?_setIfInBounds]
  by_cases e : j = i
  · subst e
    rw [if_pos rfl, if_pos (by rw [h.1]; exact hj), if_pos (by omega)]
  · rw [if_neg e, h.2 i hi]
    by_cases q : i < j
    · rw [if_pos q, if_pos (by omega)]
    · rw [if_neg q, if_neg (by omega)]
theorem Rd14.done {D : Nat → Nat} {cs : Array Value} (h : Rd14 D 14 cs) : .agg cs = wv (rdM (E D)) := by
  unfold wv
  congr 1
  apply Array.ext_getElem?
  intro i
  by_cases hi : i < 14
  · rw [h.2 i hi, if_pos hi, wf_at _ i hi, rdM_wf _ i hi]
  · rw [Array.getElem?_eq_none (by rw [h.1]; omega), Array.getElem?_eq_none (by show 14 ≤ i; omega)]
set_option maxRecDepth 100000 in
set_option maxHeartbeats 2000000 in
theorem read_is (D : Nat → Nat) (v : Value) (m : Nat) (w : World) (hv : Cr.Bs w v m D) (hD : ∀ i, i < m → D i < 256) (hm : m ≤ 10000) :
    Calls Try.prog 25 #[v] w fun e w' => RdR D m w.heap.size w' e ∧ Below w.heap.size w w' := by
  have hf : ∀ i, i < m → 0 ≤ E D i ∧ E D i < 256 := fun i hi => by have := hD i hi; unfold E; omega
  obtain ⟨pv, cv, rfl, _, lv⟩ := Sl.shape hv
  have CG : Hid (∀ j, j < 14 → ∀ w1, Below w.heap.size w w1 → Calls Try.prog 21 #[.slice pv m cv, .int .i64 (wst j : Int), .int .i64 (wsz j : Int)] w1 fun e w' => e = .returned (.tuple #[.int .i64 (Co.gy (E D) m (wst j : Int) (wsz j : Int)), .int .i64 (Co.gn (E D) m (wst j : Int) (wsz j : Int)), .int .i64 (Co.gf (E D) m (wst j : Int) (wsz j : Int))]) ∧ w' = w1) :=
    hide fun j _ w1 hb => Co.get_all (E D) _ m _ _ w1 (Sl.below hv hb (Nat.le_refl _)) hf (by omega)
  have CL : Hid (∀ (a : Nat) w1, Below w.heap.size w w1 → Calls Try.prog 52 #[.slice pv m cv, .int .i64 (a : Int)] w1 fun e w' => ∃ x t c, e = .returned (.tuple #[x, .int .i64 t, .int .i64 c]) ∧ GR2 D m a w1.heap.size w' x t c ∧ Below w1.heap.size w1 w') :=
    hide fun a w1 hb => getl_own D _ m a w1 (Sl.below hv hb (Nat.le_refl _)) hf (by omega)
  have HD := hide hD
  have B0 : Hid (Below w.heap.size w ((w.alloc (.cells #[.int .i64 0, .int .i64 0, .int .i64 0, .int .i64 0, .int .i64 0, .int .i64 0, .int .i64 0, .int .i64 0, .int .i64 0, .int .i64 0, .int .i64 0, .int .i64 0, .int .i64 0, .int .i64 0, .slice none 0 0, .slice none 0 0] 24)).alloc (.cells #[.int .i64 0, .int .i64 0, .int .i64 0, .int .i64 0, .int .i64 0, .int .i64 0, .int .i64 0, .int .i64 0, .int .i64 0, .int .i64 0, .int .i64 0, .int .i64 0, .int .i64 0, .int .i64 0] 65))) := hide (((Below.refl _ _).alloc (Nat.le_refl _) _).alloc (by simp) _)
  have GA0 := hide (heap_alloc2_old w (.cells #[.int .i64 0, .int .i64 0, .int .i64 0, .int .i64 0, .int .i64 0, .int .i64 0, .int .i64 0, .int .i64 0, .int .i64 0, .int .i64 0, .int .i64 0, .int .i64 0, .int .i64 0, .int .i64 0, .slice none 0 0, .slice none 0 0] 24) (.cells #[.int .i64 0, .int .i64 0, .int .i64 0, .int .i64 0, .int .i64 0, .int .i64 0, .int .i64 0, .int .i64 0, .int .i64 0, .int .i64 0, .int .i64 0, .int .i64 0, .int .i64 0, .int .i64 0] 65))
  have GB0 := hide (heap_alloc2_new w (.cells #[.int .i64 0, .int .i64 0, .int .i64 0, .int .i64 0, .int .i64 0, .int .i64 0, .int .i64 0, .int .i64 0, .int .i64 0, .int .i64 0, .int .i64 0, .int .i64 0, .int .i64 0, .int .i64 0, .slice none 0 0, .slice none 0 0] 24) (.cells #[.int .i64 0, .int .i64 0, .int .i64 0, .int .i64 0, .int .i64 0, .int .i64 0, .int .i64 0, .int .i64 0, .int .i64 0, .int .i64 0, .int .i64 0, .int .i64 0, .int .i64 0, .int .i64 0] 65))
  clear hv hD hf
  have hmm : (m : Int) ≤ 10000 := by omega
  go_enter Try.func25, Try.ntmps25
  go_wp2
  go_loopw [13] (fun xi w2 => ∃ j : Nat, j ≤ 14 ∧ xi = .int .i64 j ∧ (∀ i, i < j → Co.gf (E D) m (wst i : Int) (wsz i : Int) = 0) ∧ w2.heap[w.heap.size]? = some (.cells #[.int .i64 0, .int .i64 0, .int .i64 0, .int .i64 0, .int .i64 0, .int .i64 0, .int .i64 0, .int .i64 0, .int .i64 0, .int .i64 0, .int .i64 0, .int .i64 0, .int .i64 0, .int .i64 0, .slice none 0 0, .slice none 0 0] 24) ∧ (∃ cs, Rd14 D j cs ∧ w2.heap[w.heap.size + 1]? = some (.cells cs 65)) ∧ Below w.heap.size w w2) (fun i _ => 14 - (intOf i).toNat)
  case atStart =>
    refine ⟨0, by omega, rfl, fun i hi => by omega, unhide GA0, ⟨_, ⟨rfl, fun i hi => ?_⟩, unhide GB0⟩, unhide B0⟩
    rw [if_neg (by omega)]
    match i, hi with
    | 0, _ | 1, _ | 2, _ | 3, _ | 4, _ | 5, _ | 6, _ | 7, _ | 8, _ | 9, _ | 10, _ | 11, _ | 12, _ | 13, _ => rfl
  case round =>
    clear GA0 GB0 B0
    obtain ⟨j, hj, rfl, hok, ga, ⟨cs, hcs, gb⟩, hb⟩ := hrel
    have HO := hide hok
    have GA := hide ga
    have HB := hide hb
    clear hok ga hb
    by_cases hlt : j < 14
    · have c1 := hide (start_is j (by omega))
      have c2 := hide (size_is j hlt)
      have c3 := hide (unhide CG j hlt _ (unhide HB))
      have hj1 : j + 1 ≤ 14 := by omega
      by_cases h0 : Co.gf (E D) m (wst j : Int) (wsz j : Int) = 0
      · rw [h0, gy_ok D m j h0] at c3
        have cj := mv_cell gb j _ (hcs.2 j hlt)
        have fj := frozen_of_row wr (w.heap.size + 1) j _ _ gb
        have GB := hide gb
        have HC := hide hcs
        clear gb hcs
        generalize hx : gN (E D) j = x at *
        have HX := hide hx
        clear hx
        generalize Co.gn (E D) m (wst j : Int) (wsz j : Int) = y at *
        have q14 : (j : Int) < 14 := by omega
        go_wp2_with (first
          | (go_at_call 51; with_reducible refine (unhide c1 _).mono ?_; rintro e w3 ⟨rfl, hw⟩; obtain rfl := hw.symm)
          | (go_at_call 49; with_reducible refine (unhide c2 _).mono ?_; rintro e w3 ⟨rfl, hw⟩; obtain rfl := hw.symm)
          | (go_at_call 21; with_reducible refine (unhide c3).mono ?_; rintro e w3 ⟨rfl, hw⟩; obtain rfl := hw.symm))
        go_roundw
        case rel =>
          refine ⟨j + 1, hj1, by go_num, fun i hi => ?_, (heap_setCell_other _ _ _ _ (by simp)).trans (unhide GA), ⟨_, ?_, heap_setCell_same _ _ _ _ _ _ (unhide GB)⟩, (unhide HB).setCell (by simp) _⟩
          · by_cases e : i = j
            · rw [e]; exact h0
            · exact unhide HO i (by omega)
          · rw [← unhide HX]
            exact (unhide HC).next hlt
        case measure => simp [intOf]; omega
      · have hbad := hide (gf_bad D m j (unhide HD) hlt h0)
        have d0 : (Co.gf (E D) m (wst j : Int) (wsz j : Int) != 0) = true := by simpa using h0
        clear gb hcs
        generalize Co.gf (E D) m (wst j : Int) (wsz j : Int) = z at *
        generalize Co.gy (E D) m (wst j : Int) (wsz j : Int) = x at *
        generalize Co.gn (E D) m (wst j : Int) (wsz j : Int) = y at *
        go_wp2_with (first
          | (go_at_call 51; with_reducible refine (unhide c1 _).mono ?_; rintro e w3 ⟨rfl, hw⟩; obtain rfl := hw.symm)
          | (go_at_call 49; with_reducible refine (unhide c2 _).mono ?_; rintro e w3 ⟨rfl, hw⟩; obtain rfl := hw.symm)
          | (go_at_call 21; with_reducible refine (unhide c3).mono ?_; rintro e w3 ⟨rfl, hw⟩; obtain rfl := hw.symm)
          | (refine wpList_store_row rfl 24 (.tmp 2) (.tmp 28) rfl w.heap.size #[.int .i64 0, .int .i64 0, .int .i64 0, .int .i64 0, .int .i64 0, .int .i64 0, .int .i64 0, .int .i64 0, .int .i64 0, .int .i64 0, .int .i64 0, .int .i64 0, .int .i64 0, .int .i64 0, .slice none 0 0, .slice none 0 0] rfl rfl 24 _ (unhide GA) info24 rfl (by simp [Value.oneCell']) ?_))
        exact ret_mix 2 3 rfl _ _ _ rfl rfl (setRow_heap _ _ _ _ _ _ (unhide GA)) rfl rfl ⟨.inl ⟨unhide hbad, rfl⟩, below_setRow (unhide HB) (Nat.le_refl _)⟩
    · obtain rfl : j = 14 := by omega
      have h6 := ((gf_zero D m 6 (by omega)).1 (unhide HO 6 (by omega))).2
      have H6 := hide h6
      have HC := hide hcs
      have GB := hide gb
      clear hcs gb h6
      have c1 : Hid (∀ w, Calls Try.prog 51 #[.int .i64 14] w fun e w' => e = .returned (.int .i64 42) ∧ w' = w) := hide start_14
      have c2 : Hid (Calls Try.prog 52 #[.slice pv m cv, .int .i64 42] wr fun e w' => ∃ x t c, e = .returned (.tuple #[x, .int .i64 t, .int .i64 c]) ∧ GR2 D m 42 wr.heap.size w' x t c ∧ Below wr.heap.size wr w') := hide (unhide CL 42 wr (unhide HB))
      have la := (Array.getElem?_eq_some_iff.1 (unhide GA)).1
      have lb := (Array.getElem?_eq_some_iff.1 (unhide GB)).1
      have LA := hide la
      have LB := hide lb
      clear la lb
      go_upto_if 41 with (first
          | (go_at_call 51; with_reducible refine (unhide c1 _).mono ?_; rintro e w3 ⟨rfl, hw⟩; obtain rfl := hw.symm)
          | (go_at_call 52; with_reducible refine (unhide c2).mono ?_; rintro e w3 ⟨v3, t3, c3, rfl, r3, b3⟩; have R3 := hide r3; have B3 := hide b3; clear r3 b3))
      have GA3 := hide (((unhide B3).block _ (unhide LA)).trans (unhide GA))
      have GB3 := hide (((unhide B3).block _ (unhide LB)).trans (unhide GB))
      have HB3 := hide (below_of (unhide HB) (unhide B3))
      rcases unhide R3 with ⟨_, rfl, rfl, rfl⟩ | ⟨hA, hle, rfl, rfl, o3⟩
      · have hbad := hide (show ¬ Whole D m from fun q => by have := q.2; omega)
        clear R3 c1 c2
        rename_i hbad0
        clear hbad0
        rw [show ((2 : Int) != 0) = true from rfl]
        go_wp2_with (refine wpList_store_row rfl 24 (.tmp 2) (.tmp 42) rfl w.heap.size #[.int .i64 0, .int .i64 0, .int .i64 0, .int .i64 0, .int .i64 0, .int .i64 0, .int .i64 0, .int .i64 0, .int .i64 0, .int .i64 0, .int .i64 0, .int .i64 0, .int .i64 0, .int .i64 0, .slice none 0 0, .slice none 0 0] rfl rfl 24 _ (unhide GA3) info24 rfl (by simp [Value.oneCell']) ?_)
        exact ret_mix 2 3 rfl _ _ _ rfl rfl (setRow_heap _ _ _ _ _ _ (unhide GA3)) rfl rfl ⟨.inl ⟨unhide hbad, rfl⟩, below_setRow (unhide HB3) (Nat.le_refl _)⟩
      · clear R3 c1 c2
        have O3 := hide o3
        clear o3
        have c2 := hide (unhide CL (42 + 1 + D 42) w3 (unhide HB3))
        have L3 : Hid (w.heap.size < wr.heap.size ∧ wr.heap.size ≤ w3.heap.size) := hide ⟨unhide LA, (unhide B3).size⟩
        have q43 : 42 + 1 + D 42 = 43 + D 42 := by omega
        rw [q43] at hle c2 ⊢
        generalize hn : D 42 = n at *
        have HN := hide hn
        clear hn
        rw [show ((0 : Int) != 0) = false from rfl]
        have e43 : ((43 + n : Nat) : Int) = 43 + (n : Int) := by omega
        rw [e43] at c2
        clear e43
        have HA := hide hA
        have HL := hide hle
        clear hA hle q43
        go_upto_region 14 with (go_at_call 52; with_reducible refine (unhide c2).mono ?_; rintro e w4 ⟨v4, t4, c4, rfl, r4, b4⟩; have R4 := hide r4; have B4 := hide b4; clear r4 b4)
        have GA4 := hide (((unhide B4).block _ (by have := unhide L3; omega)).trans (unhide GA3))
        have GB4 := hide (((unhide B4).block _ (by have := unhide LB; have := unhide L3; omega)).trans (unhide GB3))
        have HB4 := hide (below_of (unhide HB3) (unhide B4))
        have O3' := hide (owns_above (unhide O3) (fun g _ hg => (unhide B4).block g hg))
        have L4 : Hid (w3.heap.size ≤ w4.heap.size) := hide (unhide B4).size
        have hN := unhide HN
        rcases unhide R4 with ⟨_, rfl, rfl, rfl⟩ | ⟨hA4, hle4, hT, rfl, o4⟩
        · have hbad := hide (show ¬ Whole D m from fun q => by have := q.2; rw [hN] at this; omega)
          rename_i hb0
          clear R4 c2 hb0 hN
          go_wp2_with (refine wpList_store_row rfl 24 (.tmp 2) (.tmp 58) rfl w.heap.size #[.int .i64 0, .int .i64 0, .int .i64 0, .int .i64 0, .int .i64 0, .int .i64 0, .int .i64 0, .int .i64 0, .int .i64 0, .int .i64 0, .int .i64 0, .int .i64 0, .int .i64 0, .int .i64 0, .slice none 0 0, .slice none 0 0] rfl rfl 24 _ (unhide GA4) info24 rfl (by simp [Value.oneCell']) ?_)
          exact ret_mix 2 3 rfl _ _ _ rfl rfl (setRow_heap _ _ _ _ _ _ (unhide GA4)) rfl rfl ⟨.inl ⟨unhide hbad, rfl⟩, below_setRow (unhide HB4) (Nat.le_refl _)⟩
        · have O4 := hide o4
          clear o4 R4 c2
          by_cases hw : 44 + n + D (43 + n) = m
          · have hgood := hide (show Whole D m from ⟨unhide H6, by rw [hN]; omega⟩)
            have d1 : (t4 != (m : Int)) = false := by
              rw [bne_eq_false_iff_eq, hT]
              omega
            obtain ⟨p3, k3, rfl⟩ := owns_shape (unhide O3)
            obtain ⟨p4, k4, rfl⟩ := owns_shape (unhide O4)
            have ec := (unhide HC).done
            unfold wv at ec
            injection ec with ec
            subst ec
            have CM := hide (fun w => wmessage_any (rdM (E D)) p3 p4 n k3 (D (43 + n)) k4 w)
            unfold mv wv at CM
            clear hA4 hle4 hT hw hN
            generalize hk : D (43 + n) = k at *
            have HK := hide hk
            clear hk
            go_wp2_with (first
              | (refine wpList_load_row rfl 65 (.tmp 4) rfl (w.heap.size + 1) rfl 65 _ (0, 0) _ (unhide GB4) Try.underlying65 rfl info40 ?_)
              | (go_at_call 53; with_reducible refine (unhide CM _).mono ?_; rintro e w5 ⟨rfl, b5⟩; have B5 := hide b5; clear b5)
              | (refine wpList_store_row rfl 24 (.tmp 2) (.tmp 62) rfl w.heap.size _ rfl rfl 24 _ (((unhide B5).block _ (by have := unhide L3; have := unhide L4; omega)).trans (unhide GA4)) info24 rfl (by simp [Value.oneCell']) ?_))
            have hl3 := unhide L3
            have hl4 := unhide L4
            refine ret_mix 2 3 rfl _ _ _ rfl rfl (setRow_heap _ _ _ _ _ _ (((unhide B5).block _ (by omega)).trans (unhide GA4))) rfl rfl ⟨.inr ⟨unhide hgood, ?_⟩, below_setRow (below_of (unhide HB4) (unhide B5)) (Nat.le_refl _)⟩
            rw [unhide HN, unhide HK]
            refine ⟨p3, k3, p4, k4, rfl, ?_, ?_⟩
            · refine owns_mono (owns_above (unhide O3') fun g hg hl => ?_) (Nat.le_of_lt hl3.1)
              exact (setRow_other _ _ _ _ (by omega)).trans ((unhide B5).block g hl)
            · have q44 : ∀ i, 43 + n + 1 + i = 44 + n + i := fun i => by omega
              have o4 := unhide O4
              simp only [q44] at o4
              refine owns_mono (owns_above o4 fun g hg hl => ?_) (by omega)
              exact (setRow_other _ _ _ _ (by omega)).trans ((unhide B5).block g hl)
          · have hbad := hide (show ¬ Whole D m from fun q => hw (by have := q.2; rw [hN] at this; omega))
            have d1 : (t4 != (m : Int)) = true := by
              rw [bne_iff_ne, hT]
              omega
            clear hA4 hle4 hT hw hN
            go_wp2_with (refine wpList_store_row rfl 24 (.tmp 2) (.tmp 58) rfl w.heap.size #[.int .i64 0, .int .i64 0, .int .i64 0, .int .i64 0, .int .i64 0, .int .i64 0, .int .i64 0, .int .i64 0, .int .i64 0, .int .i64 0, .int .i64 0, .int .i64 0, .int .i64 0, .int .i64 0, .slice none 0 0, .slice none 0 0] rfl rfl 24 _ (unhide GA4) info24 rfl (by simp [Value.oneCell']) ?_)
            exact ret_mix 2 3 rfl _ _ _ rfl rfl (setRow_heap _ _ _ _ _ _ (unhide GA4)) rfl rfl ⟨.inl ⟨unhide hbad, rfl⟩, below_setRow (unhide HB4) (Nat.le_refl _)⟩
end Go.Proofs.Ytmcmiojidgdjpaa
