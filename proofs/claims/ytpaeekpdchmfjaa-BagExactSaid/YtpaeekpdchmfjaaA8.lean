/- Appends of frames in guarded and in drawing regions; walks of TwinFrames, Heavy. -/
import Derived.Test.YtpaeekpdchmfjaaA3
import Derived.Test.YtpaeekpdchmfjaaA4
import Derived.Test.YtpaeekpdchmfjaaA6
namespace Go.Proofs.Ytpaeekpdchmfjaa
open Go.RowKit

theorem run_appF {w : World} (ty : TypeId) (base : Nat) (v : Value) (n : Nat) (xs : List Value) (hown : w.ownsRow base 25 2 v n xs)
    (u : Value) (m : Nat) (L : List Value) (hu : Rw w u m L) (hn : n ≤ 1000000) (hm : m ≤ 1000000) (hbase : base ≤ w.heap.size) :
    ∃ v' w', (Builtin.append_ #[22, 22] ty #[v, u]).run Try.prog w = .ok v' w' ∧ w'.ownsRow base 25 2 v' (n + m) (xs ++ L) ∧ Below base w w' ∧ w.grownBy w' v.ownBlock := by
  obtain ⟨j, hj, hz0, hz1, hz2⟩ := info_parts info25
  obtain ⟨p, cap, rfl, _, h2, h3, h4, h5, _⟩ := hu
  cases p with
  | none =>
    obtain ⟨rfl, rfl⟩ := h4 rfl
    obtain rfl : L = [] := List.length_eq_zero_iff.1 (by simpa using h2)
    exact ⟨v, w, run_append_owned_none w base 22 ty 25 j 2 Try.underlying22 hj v n xs hown, by simpa using hown, Below.refl _ _, World.grownBy.refl _ _⟩
  | some ad =>
    obtain ⟨v', w', hrun, r1, r2, _⟩ := run_append_own (P := Try.prog) w base 22 ty 25 j (.agg #[.int .i64 0, .slice none 0 0]) 2 32 Try.underlying22 hj hz0 hz1 hz2 rfl (by decide) v n xs hown ad m cap L h2 (h5 ad rfl) h3 (by unfold maxLen; omega) (by omega) hbase
    exact ⟨v', w', hrun, r1, (Below.refl _ _).grown r2 hbase (fun k hk => (hown.lt k hk).1), r2⟩
theorem wpList_appF_g {w : World} {ops : Array Oper} {rest : List Oper} {o : Oper} {a : Act} {Q : Exit → Act → World → Prop} (hw : Region.wanted o (yielded ops a.tmps) = true) (s x : Operand)
    (hop : o.op = .call { callee := .builtin .append, args := #[s, x], argTypes := #[22, 22] }) (base : Nat)
    (v : Value) (n : Nat) (xs : List Value) (hs : a.eval s = v) (hown : w.ownsRow base 25 2 v n xs)
    (u : Value) (m : Nat) (L : List Value) (hx : a.eval x = u) (hu : Rw w u m L) (hn : n ≤ 1000000) (hm : m ≤ 1000000) (hbase : base ≤ w.heap.size)
    (h : ∀ v' w', w'.ownsRow base 25 2 v' (n + m) (xs ++ L) → Below base w w' → w.grownBy w' v.ownBlock → wpList Try.prog ops Q rest (a.put o.dst v') w') : wpList Try.prog ops Q (o :: rest) a w := by
  refine wpList_step fun K hK => ?_
  rw [if_pos hw]
  obtain ⟨v', w', hrun, r1, r2, r3⟩ := run_appF o.type base v n xs hown u m L hu hn hm hbase
  unfold Oper.wp
  simp [execOp, hop, resolve, invoke, builtin, hs, hx, hrun, Result.andThen]
  exact hK _ _ (h v' w' r1 r2 r3)
theorem step_appF {ops : Array Oper} {o : Oper} {a : Act} {w : World} {K : Act → World → Prop} {Q : Exit → Act → World → Prop} {E : Prop} (hw : Region.wanted o (yielded ops a.tmps) = true) (s x : Operand)
    (hop : o.op = .call { callee := .builtin .append, args := #[s, x], argTypes := #[22, 22] }) (base : Nat)
    (v : Value) (n : Nat) (xs : List Value) (hs : a.eval s = v) (hown : w.ownsRow base 25 2 v n xs)
    (u : Value) (m : Nat) (L : List Value) (hx : a.eval x = u) (hu : Rw w u m L) (hn : n ≤ 1000000) (hm : m ≤ 1000000) (hbase : base ≤ w.heap.size)
    (h : ∀ v' w', w'.ownsRow base 25 2 v' (n + m) (xs ++ L) → Below base w w' → w.grownBy w' v.ownBlock → K (a.put o.dst v') w') :
    if Region.wanted o (yielded ops a.tmps) = true then Oper.wp Try.prog o a w K Q else E := by
  rw [if_pos hw]
  obtain ⟨v', w', hrun, r1, r2, r3⟩ := run_appF o.type base v n xs hown u m L hu hn hm hbase
  unfold Oper.wp
  simp [execOp, hop, resolve, invoke, builtin, hs, hx, hrun, Result.andThen]
  exact h v' w' r1 r2 r3
/-- A literal of one frame. -/
theorem rw_one (w : World) (t : Int) (v : Value) (h1 : v.oneCell' = true) (t2 : TypeId) : Rw (w.alloc (.cells #[.int .i64 t, v] t2)) (.slice (some ⟨w.heap.size, 0, none⟩) 1 1) 1 [.int .i64 t, v] := by
  refine ⟨_, _, rfl, by decide, rfl, ?_, fun h => by (cases h), fun ad e j u hu => ?_, fun ad e _ => ?_⟩
  · intro u hu
    simp at hu
    rcases hu with rfl | rfl
    · rfl
    · exact h1
  · cases e
    exact cells_lit w [.int .i64 t, v] t2 j u hu
  · cases e
    simp
/-- A row of frames, and one frame more. -/
theorem own_next {w1 w2 w3 : World} {b0 n : Nat} {v3 vb : Value} {X : Nat → Fm} {B : Nat → Value} (h1 : ∀ i, i < n → w1.ownsRow b0 5 1 (B i) (X i).n (vL .u8 (X i).b (X i).n)) (h2 : ∀ i j, i < j → j < n → ∀ b, (B i).ownBlock = some b → (B j).ownBlock ≠ some b)
    (b2 : Below w1.heap.size w1 w2) (o2 : w2.ownsRow w1.heap.size 5 1 vb (X n).n (vL .u8 (X n).b (X n).n)) (hb : b0 ≤ w1.heap.size)
    (o3 : w3.ownsRow b0 25 2 v3 (n + 1) (fL (fun i => (X i).t) B n ++ [.int .i64 (X n).t, vb])) (keep : ∀ {B0 m : Nat} {v : Value} {L : List Value}, w2.ownsRow B0 5 1 v m L → w3.ownsRow B0 5 1 v m L) : Own w3 b0 v3 (n + 1) X := by
  have e : fL (fun i => (X i).t) B n ++ [.int .i64 (X n).t, vb] = fL (fun i => (X i).t) (fun i => if i = n then vb else B i) (n + 1) := by
    show _ = fL _ _ n ++ [_, if n = n then vb else B n]
    rw [if_pos rfl]
    exact congrArg (· ++ [Value.int .i64 (X n).t, vb]) (fL_congr fun i hi => ⟨rfl, by simp [show i ≠ n by omega]⟩)
  rw [e] at o3
  refine ⟨_, o3, fun i hi => ?_, fun i j hij hj b hb2 => ?_⟩
  · by_cases q : i = n
    · subst q
      simp only [if_true]
      exact keep (owns_mono o2 hb)
    · simp only [if_neg q]
      exact keep (owns_below (h1 i (by omega)) b2)
  · simp only [if_neg (show i ≠ n by omega)] at hb2
    by_cases q : j = n
    · subst q
      simp only [if_true]
      intro z
      have l1 := ((h1 i hij).lt b hb2).2
      have l2 := (o2.lt b z).1
      omega
    · simp only [if_neg q]
      exact h2 i j hij (by omega) b hb2
/-- What a row's growing leaves: rows of another kind. -/
theorem owns_grown {w w' : World} {base n : Nat} {v : Value} {xs : List Value} (h : w.ownsRow base 25 2 v n xs) (hg : w.grownBy w' v.ownBlock) {B0 k : Nat} {u : Value} {L : List Value} (ho : w.ownsRow B0 5 1 u k L) : w'.ownsRow B0 5 1 u k L :=
  ho.kept hg (owns_apart h ho (by decide))
set_option maxHeartbeats 1000000 in
set_option maxRecDepth 100000 in
theorem twinFrames_any (X : Nat → Fm) (v : Value) (n : Nat) (w : World) (hv : Fs w v n X) (hn : n ≤ 1000000) (hx : ∀ i, i < n → (X i).n ≤ 1000000) :
    Calls Try.prog 8 #[v] w fun e w' => ∃ v', e = .returned v' ∧ Own w' w.heap.size v' n X ∧ Below w.heap.size w w' := by
  obtain ⟨p, c, rfl, hc1, hc2⟩ := hv.shape
  unfold maxLen at hc2
  have HV := hide hv
  have HX := hide hx
  clear hv hx
  go_enter Try.func8, Try.ntmps8
  go_wp2
  go_loopw [3, 4] (fun vo i w2 => ∃ k : Nat, k ≤ n ∧ i = .int .i64 k ∧ Own w2 w.heap.size vo k X ∧ Below w.heap.size w w2) (fun _ i _ => n - (intOf i).toNat)
  case atStart => exact ⟨0, by omega, rfl, own_nil _ _ _, Below.refl _ _⟩
  case round =>
    obtain ⟨k, hk, rfl, ho, hb⟩ := hrel
    have HO := hide ho
    have HB := hide hb
    by_cases hlt : k < n
    · obtain ⟨b, off, BV, rfl, hbw, hcell⟩ := (unhide HV).some (by omega)
      obtain ⟨q1, q2, q3⟩ := hcell k hlt
      replace q1 := (hb.cell (p := ⟨b, off + k * 2, none⟩) hbw).trans q1
      replace q2 := (hb.cell (p := ⟨b, off + k * 2 + 1, none⟩) hbw).trans q2
      replace q3 := q3.below hb (Nat.le_refl _)
      have hbb := Nat.lt_of_lt_of_le hbw hb.size
      obtain ⟨pk, ck, hbk, -, -⟩ := q3.shape
      rw [hbk] at q2 q3
      have Q3 := hide q3
      have XK := hide (unhide HX k hlt)
      obtain ⟨B, h1, h2, h3⟩ := ho
      have H1 := hide h1
      have H2 := hide h2
      have H3 := hide h3
      have hsz := hide hb.size
      clear hcell q3 hbk h1 h2 h3 hb
      have i1 : (0 : Int) ≤ (k : Int) := by omega
      have i2 : (k : Int) < (n : Int) := by omega
      go_wp2
      go_region_held3 (fun w' => w'.cell? ⟨b, off + k * 2, none⟩ = some (.int .i64 (X k).t) ∧ w'.cell? ⟨b, off + k * 2 + 1, none⟩ = some (.slice pk (X k).n ck))
        (first
          | exact ⟨q1, q2⟩
          | exact ⟨(by assumption), (by assumption)⟩
          | go_keep)
        (first
          | (go_at_call 19; refine (twin_any (X k).b _ (X k).n _ ((unhide Q3).below (below_drewN (Below.refl _ _) 1) (Nat.le_refl _)) (unhide XK)).mono ?_; rintro e w3 ⟨v3, rfl, o3, b3⟩; obtain ⟨p3, c3, rfl⟩ := owns_shape o3; have z1 := (b3.cell (p := ⟨b, off + k * 2, none⟩) hbb).trans q1; have z2 := (b3.cell (p := ⟨b, off + k * 2 + 1, none⟩) hbb).trans q2; have O3 := hide o3; have B3 := hide b3; clear b3 o3)
          | (refine step_appF (by simp [Region.wanted]) (.tmp 11) (.tmp 24) rfl w.heap.size _ k (fL (fun i => (X i).t) B k) rfl ((owns_below (owns_below (w' := wr.drewN 1) (unhide H1) (below_drewN (Below.refl _ _) 1)) (unhide B3)).alloc _) _ 1 [.int .i64 (X k).t, .slice p3 (X k).n c3] rfl (rw_one _ _ _ (oneCell_slice _ _ _) _) (by omega) (by omega) (by have := (unhide B3).size; have := unhide hsz; simp at *; omega) ?_; intro v4 w4 o4 b4 g4; obtain ⟨p4, c4, rfl⟩ := owns_shape o4; have y1 := (b4.cell (p := ⟨b, off + k * 2, none⟩) hbw).trans ((World.cell?_alloc_past _ _ _ (Nat.lt_of_lt_of_le hbb (unhide B3).size)).trans z1); have y2 := (b4.cell (p := ⟨b, off + k * 2 + 1, none⟩) hbw).trans ((World.cell?_alloc_past _ _ _ (Nat.lt_of_lt_of_le hbb (unhide B3).size)).trans z2); have O4 := hide o4; have B4 := hide b4; have G4 := hide g4; clear o4 b4 g4))
      go_wp2
      go_roundw
      case rel =>
        have b5 : Below wr.heap.size wr (w3.alloc (.cells #[.int .i64 (X k).t, .slice p3 (X k).n c3] 25)) := below_alloc (below_of (w0 := wr.drewN 1) (below_drewN (Below.refl _ _) 1) (unhide B3)) _
        exact ⟨k + 1, by omega, by go_num, own_next (unhide H2) (unhide H3) b5 ((unhide O3).alloc _) (unhide hsz) (unhide O4) (fun ho => owns_grown (owns_below (unhide H1) b5) (unhide G4) ho), below_up (below_of (unhide HB) b5) (unhide B4)⟩
      case measure => simp [intOf]; omega
    · obtain rfl : k = n := by omega
      clear ho hb
      go_wp2
      go_ret
      exact ⟨_, rfl, unhide HO, unhide HB⟩
end Go.Proofs.Ytpaeekpdchmfjaa
