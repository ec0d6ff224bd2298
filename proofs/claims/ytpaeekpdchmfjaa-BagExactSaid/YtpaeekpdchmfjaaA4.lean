/- Appends to a row of frames of the call's own; walks of slices.Grow at nil, of slices.Concat. -/
import Derived.Test.YtpaeekpdchmfjaaA1
import Derived.Lib.AppendZerosOnto
namespace Go.Proofs.Ytpaeekpdchmfjaa
open Go.RowKit

/-- The slice v of n frames has the cells L. -/
def Rw (w : World) (v : Value) (n : Nat) (L : List Value) : Prop :=
  ∃ p cap, v = .slice p n cap ∧ n ≤ maxLen ∧ L.length = n * 2 ∧ (∀ u ∈ L, u.oneCell' = true) ∧ (p = none → n = 0 ∧ cap = 0) ∧ (∀ ad, p = some ad → ∀ j u, L[j]? = some u → w.cell? (ad.add j) = some u) ∧ ∀ ad, p = some ad → 0 < n → ad.block < w.heap.size
theorem addr_block (a : Addr) (j : Nat) : (a.add j).block = a.block := by
  unfold Addr.add
  split <;> rfl
theorem Rw.below {w w' : World} {v : Value} {n B : Nat} {L : List Value} (h : Rw w v n L) (hb : Below B w w') (hB : w.heap.size ≤ B) : Rw w' v n L := by
  obtain ⟨p, cap, h1, h0, h2, h3, h4, h5, h6⟩ := h
  refine ⟨p, cap, h1, h0, h2, h3, h4, fun ad e j u hu => ?_, fun ad e hn => Nat.lt_of_lt_of_le (h6 ad e hn) hb.size⟩
  have hj : j < n * 2 := by have := (List.getElem?_eq_some_iff.1 hu).1; omega
  have hl := h6 ad e (by omega)
  exact (hb.cell (p := ad.add j) (by rw [addr_block]; omega)).trans (h5 ad e j u hu)
theorem Fs.rw' {w : World} {v : Value} {n : Nat} {X : Nat → Fm} (h : Fs w v n X) : ∃ B : Nat → Value, (∀ i, i < n → Sl .u8 w (B i) (X i).n (X i).b) ∧ Rw w v n (fL (fun i => (X i).t) B n) := by
  obtain ⟨p, cap, rfl, h1, h2⟩ := h.shape
  obtain ⟨c1, B, c2, c3⟩ := h.cells
  refine ⟨B, c2, p, cap, rfl, Nat.le_trans h1 h2, fL_length _ _ _, fL_one _ _ _ fun i hi => (c2 i hi).one, c1, c3, fun ad e hn => ?_⟩
  obtain ⟨b, off, _, e', hb, _⟩ := h.some hn
  rw [e] at e'
  cases e'
  exact hb
theorem wpList_appF {w : World} {ops : Array Oper} {rest : List Oper} {o : Oper} {a : Act} {Q : Exit → Act → World → Prop} (hgd : o.guard = none) (s x : Operand)
    (ho : o.op = .call { callee := .builtin .append, args := #[s, x], argTypes := #[22, 22] }) (base : Nat)
    (v : Value) (n : Nat) (xs : List Value) (hs : a.eval s = v) (hown : w.ownsRow base 25 2 v n xs)
    (u : Value) (m : Nat) (L : List Value) (hx : a.eval x = u) (hu : Rw w u m L) (hn : n ≤ 1000000) (hm : m ≤ 1000000) (hbase : base ≤ w.heap.size)
    (h : ∀ v' w', w'.ownsRow base 25 2 v' (n + m) (xs ++ L) → Below base w w' → wpList Try.prog ops Q rest (a.put o.dst v') w') : wpList Try.prog ops Q (o :: rest) a w := by
  obtain ⟨j, hj, hz0, hz1, hz2⟩ := info_parts info25
  obtain ⟨p, cap, rfl, _, h2, h3, h4, h5, _⟩ := hu
  cases p with
  | none =>
    obtain ⟨rfl, rfl⟩ := h4 rfl
    refine wpList_append_own_none hgd s x 22 ho base 25 j 2 Try.underlying22 hj v n xs hs hown hx ?_
    obtain rfl : L = [] := List.length_eq_zero_iff.1 (by simpa using h2)
    exact h v w (by simpa using hown) (Below.refl _ _)
  | some ad =>
    refine wpList_append_own _ hgd s x 22 ho base 25 j (.agg #[.int .i64 0, .slice none 0 0]) 2 32 Try.underlying22 hj hz0 hz1 hz2 rfl (by decide) v n xs hs hown ad m cap L hx h2 (h5 ad rfl) h3 (by unfold maxLen; omega) (by omega) hbase ?_
    intro v' w' ho' hg' _
    exact h v' w' ho' ((Below.refl _ _).grown hg' hbase fun k hk => (hown.lt k hk).1)

set_option maxHeartbeats 1000000 in
set_option maxRecDepth 100000 in
theorem grow_nil (n : Nat) (w : World) (hn : n ≤ 1000000) :
    Calls Try.prog 29 #[.slice none 0 0, .int .i64 n] w fun e w' => ∃ v', e = .returned v' ∧ w'.ownsRow w.heap.size 25 2 v' 0 [] ∧ Below w.heap.size w w' := by
  obtain ⟨i0, hi, hz0, hz1, hz2⟩ := info_parts info25
  by_cases h0 : n = 0
  · subst h0
    go_enter Try.func29, Try.ntmps29
    go_wp2
    go_ret
    exact ⟨_, rfl, World.ownsRow_nil _ _ _ _, Below.refl _ _⟩
  · have h1 : ¬ ((n : Int) < 0) := by omega
    have h4 : (n : Int) > 0 := by omega
    have hold : (Builtin.firstCells i0.size 0 (.slice none 0 0)).run Try.prog w.drew = .ok (#[] : Array Value) w.drew := run_firstCells_none w.drew i0.size 0 0 0
    have hrz : ∀ ty, (Builtin.append_ #[22, 3] ty #[.slice none 0 0, .int .i64 (n : Int)]).run Try.prog w = _ := fun ty =>
      Lib.run_append_grow_zeros w 22 3 ty 25 i0 _ .i64 .i64 Try.underlying22 Try.underlying3 hi hz0 none 0 0 [] hold n (by omega) (by omega) (by omega) (by omega) (by rw [hz2]; omega) (growslice_fits (by omega) (by rw [hz2]; omega))
    rw [Nat.zero_add] at hrz
    have hGn : n ≤ grownCap w n 0 25 := grownCap_ge w _ _ _
    have hGm : grownCap w n 0 25 ≤ maxLen := grownCap_le_maxLen w n 0 25 (by unfold maxLen; omega)
    generalize hcs : ([] : List Value).toArray ++ Builtin.zeroCells (Value.agg #[.int .i64 0, .slice none 0 0]).cells n ++ Builtin.zeroCells (Value.agg #[.int .i64 0, .slice none 0 0]).cells (grownCap w n 0 25 - n) = cs at hrz
    have hsz : cs.size = grownCap w n 0 25 * 2 := by
      rw [← hcs]
      simp [size_zeroCells, Value.cells]
      omega
    generalize grownCap w n 0 25 = G at *
    have HO : Hid ((w.drew.alloc (.cells cs 25)).ownsRow w.heap.size 25 2 (.slice (some ⟨w.heap.size, 0, none⟩) 0 G) 0 []) :=
      hide ⟨rfl, .inr ⟨w.heap.size, _, _, rfl, Nat.le_refl _, heap_alloc_new w.drew _, Nat.zero_le _, hGm, hsz, by simp⟩⟩
    have B1 := hide (below_alloc (w' := w.drew) (below_drewN (Below.refl w.heap.size w) 1) (.cells cs 25))
    have hG63 : G ≤ 9223372036854775807 := by unfold maxLen at hGm; omega
    clear hcs hsz
    generalize w.drew.alloc (.cells cs 25) = W2 at *
    clear hold hGm
    go_enter Try.func29, Try.ntmps29
    go_wp2_with (at_builtin; refine Lib.wpList_append_run _ rfl _ _ _ _ rfl _ _ rfl rfl _ _ (hrz _) ?_)
    go_ret
    exact ⟨_, rfl, unhide HO, unhide B1⟩

/-- Sums and lists of the first k. -/
def sm (N : Nat → Nat) : Nat → Nat
  | 0 => 0
  | k + 1 => sm N k + N k
def cl (L : Nat → List Value) : Nat → List Value
  | 0 => []
  | k + 1 => cl L k ++ L k
theorem sm_le (N : Nat → Nat) {k m : Nat} (h : k ≤ m) : sm N k ≤ sm N m := by
  induction m with
  | zero => obtain rfl : k = 0 := by omega
            exact Nat.le_refl _
  | succ m ih =>
    by_cases hk : k = m + 1
    · subst hk; exact Nat.le_refl _
    · have := ih (by omega)
      show sm N k ≤ sm N m + N m
      omega
set_option maxHeartbeats 1000000 in
set_option maxRecDepth 100000 in
theorem concat_any (V : Nat → Value) (N : Nat → Nat) (L : Nat → List Value) (b off m c : Nat) (w : World) (hc : m ≤ c) (hc2 : c ≤ 1000) (hb : b < w.heap.size) (hv : ∀ j, j < m → w.cell? ⟨b, off + j, none⟩ = some (V j)) (hr : ∀ j, j < m → Rw w (V j) (N j) (L j)) (hs : sm N m ≤ 1000000) :
    Calls Try.prog 26 #[.slice (some ⟨b, off, none⟩) m c] w fun e w' => ∃ v', e = .returned v' ∧ w'.ownsRow w.heap.size 25 2 v' (sm N m) (cl L m) ∧ Below w.heap.size w w' := by
  have HV := hide hv
  have HR := hide hr
  have HB := hide hb
  clear hv hr hb
  go_enter Try.func26, Try.ntmps26
  go_wp2
  go_loop [3, 11] (fun s i => ∃ k : Nat, k ≤ m ∧ s = .int .i64 (sm N k : Nat) ∧ i = .int .i64 k) (fun _ i => m - (intOf i).toNat)
  case atStart => exact ⟨0, by omega, rfl, rfl⟩
  case round =>
    obtain ⟨k, hk, rfl, rfl⟩ := hrel
    by_cases hlt : k < m
    · have hcell := unhide HV k hlt
      obtain ⟨p, cap, hvk, -⟩ := unhide HR k hlt
      rw [hvk] at hcell
      have s1 := sm_le N (show k + 1 ≤ m by omega)
      have s2 : sm N (k + 1) = sm N k + N k := rfl
      have S2 := hide s2
      have s3 : sm N k + N k ≤ 1000000 := by omega
      clear s1 s2 hvk
      go_wp2
      go_round
      case rel => exact ⟨k + 1, by omega, by rw [unhide S2]; go_num, by go_num⟩
      case measure => simp [intOf]; omega
    · obtain rfl : k = m := by omega
      have G := hide (grow_nil (sm N k) w hs)
      go_wp2_with (go_at_call 29; refine (unhide G).mono ?_; rintro e w1 ⟨v1, rfl, o1, b1⟩)
      have O1 := hide o1
      have B1 := hide b1
      clear o1 b1
      go_loopw [6, 27] (fun v i w2 => ∃ j : Nat, j ≤ k ∧ i = .int .i64 j ∧ w2.ownsRow w.heap.size 25 2 v (sm N j) (cl L j) ∧ Below w.heap.size w w2) (fun _ i _ => k - (intOf i).toNat)
      case atStart => exact ⟨0, by omega, rfl, unhide O1, unhide B1⟩
      case round =>
        clear O1 B1 G
        obtain ⟨j, hj, rfl, ho, hbl⟩ := hrel
        have HO := hide ho
        have HBL := hide hbl
        by_cases hlt : j < k
        · have hcell : wr.cell? ⟨b, off + j, none⟩ = some (V j) := (hbl.cell (p := ⟨b, off + j, none⟩) (unhide HB)).trans (unhide HV j hlt)
          have hrw := (unhide HR j hlt).below hbl (Nat.le_refl _)
          have RW := hide hrw
          obtain ⟨p, cap, hvk, h2, -⟩ := hrw
          rw [hvk] at hcell RW
          have s1 := sm_le N (show j + 1 ≤ k by omega)
          have s2 : sm N (j + 1) = sm N j + N j := rfl
          have c2 : cl L (j + 1) = cl L j ++ L j := rfl
          have S2 := hide s2
          have C2 := hide c2
          have s3 : sm N j + N j ≤ 1000000 := by omega
          clear s1 s2 c2 hvk h2 ho hbl
          go_wp2_with (at_builtin; refine wpList_appF rfl (.tmp 31) (.tmp 32) rfl w.heap.size _ (sm N j) (cl L j) rfl (unhide HO) _ (N j) (L j) rfl (unhide RW) (by omega) (by omega) (unhide HBL).size ?_)
          intro v2 w2 o2 b2
          go_wp2
          go_roundw
          case rel => exact ⟨j + 1, by omega, by go_num, by rw [unhide S2, unhide C2]; exact o2, below_up (unhide HBL) b2⟩
          case measure => simp [intOf]; omega
        · obtain rfl : j = k := by omega
          clear ho hbl
          go_wp2
          go_ret
          exact ⟨_, rfl, unhide HO, unhide HBL⟩
end Go.Proofs.Ytpaeekpdchmfjaa
