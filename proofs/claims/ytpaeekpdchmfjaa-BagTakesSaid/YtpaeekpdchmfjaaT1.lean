/- Rows of ints of the call's own; what BagTakes asks of each call. -/
import Derived.Test.YtpaeekpdchmfjaaB3
namespace Go.Proofs.Ytpaeekpdchmfjaa
open Go.RowKit

theorem vL_append (k : IntKind) (F G : Nat → Int) (n m : Nat) : vL k F n ++ vL k G m = vL k (cat F n G) (n + m) := by
  induction m with
  | zero =>
    simp only [vL, List.range_zero, List.map_nil, List.append_nil, Nat.add_zero]
    exact vL_congr fun j hj => by simp [cat, hj]
  | succ m ih =>
    rw [vL_succ, ← List.append_assoc, ih, ← Nat.add_assoc, vL_succ]
    simp [cat, show ¬ n + m < n by omega]
theorem run_app64 {w : World} (ty : TypeId) (base : Nat) (v : Value) (n : Nat) (F : Nat → Int) (hown : w.ownsRow base 3 1 v n (vL .i64 F n))
    (u : Value) (m : Nat) (G : Nat → Int) (hu : Sl .i64 w u m G) (hn : n ≤ 1000000) (hm : m ≤ 1000000) (hbase : base ≤ w.heap.size) :
    ∃ v' w', (Builtin.append_ #[43, 43] ty #[v, u]).run Try.prog w = .ok v' w' ∧ w'.ownsRow base 3 1 v' (n + m) (vL .i64 (cat F n G) (n + m)) ∧ Below base w w' ∧ w.grownBy w' v.ownBlock := by
  obtain ⟨j, hj, hz0, hz1, hz2⟩ := info_parts info3
  obtain ⟨p, cap, rfl, hc1, hc2⟩ := hu.shape
  have hcs := hu.cells
  cases p with
  | none =>
    obtain ⟨rfl, rfl⟩ := hcs.1 rfl
    exact ⟨v, w, run_append_owned_none w base 43 ty 3 j 1 Try.underlying43 hj v n _ hown, by rw [← vL_append]; simpa [vL] using hown, Below.refl _ _, World.grownBy.refl _ _⟩
  | some ad =>
    obtain ⟨v', w', hrun, r1, r2, _⟩ := run_append_own (P := Try.prog) w base 43 ty 3 j (.int .i64 0) 1 8 Try.underlying43 hj hz0 hz1 hz2 rfl (by decide) v n _ hown ad m cap (vL .i64 G m) (by rw [vL_length]; omega) (hcs.2 ad rfl) (vL_one _ G m) (by unfold maxLen; omega) (by omega) hbase
    rw [vL_append] at r1
    exact ⟨v', w', hrun, r1, (Below.refl _ _).grown r2 hbase (fun k hk => (hown.lt k hk).1), r2⟩
theorem wpList_app64 {w : World} {ops : Array Oper} {rest : List Oper} {o : Oper} {a : Act} {Q : Exit → Act → World → Prop} (hw : Region.wanted o (yielded ops a.tmps) = true) (s x : Operand)
    (hop : o.op = .call { callee := .builtin .append, args := #[s, x], argTypes := #[43, 43] }) (base : Nat)
    (v : Value) (n : Nat) (F : Nat → Int) (hs : a.eval s = v) (hown : w.ownsRow base 3 1 v n (vL .i64 F n))
    (u : Value) (m : Nat) (G : Nat → Int) (hx : a.eval x = u) (hu : Sl .i64 w u m G) (hn : n ≤ 1000000) (hm : m ≤ 1000000) (hbase : base ≤ w.heap.size)
    (h : ∀ v' w', w'.ownsRow base 3 1 v' (n + m) (vL .i64 (cat F n G) (n + m)) → Below base w w' → w.grownBy w' v.ownBlock → wpList Try.prog ops Q rest (a.put o.dst v') w') : wpList Try.prog ops Q (o :: rest) a w := by
  refine wpList_step fun K hK => ?_
  rw [if_pos hw]
  obtain ⟨v', w', hrun, r1, r2, r3⟩ := run_app64 o.type base v n F hown u m G hu hn hm hbase
  unfold Oper.wp
  simp [execOp, hop, resolve, invoke, builtin, hs, hx, hrun, Result.andThen]
  exact hK _ _ (h v' w' r1 r2 r3)
theorem step_app64 {ops : Array Oper} {o : Oper} {a : Act} {w : World} {K : Act → World → Prop} {Q : Exit → Act → World → Prop} {E : Prop} (hw : Region.wanted o (yielded ops a.tmps) = true) (s x : Operand)
    (hop : o.op = .call { callee := .builtin .append, args := #[s, x], argTypes := #[43, 43] }) (base : Nat)
    (v : Value) (n : Nat) (F : Nat → Int) (hs : a.eval s = v) (hown : w.ownsRow base 3 1 v n (vL .i64 F n))
    (u : Value) (m : Nat) (G : Nat → Int) (hx : a.eval x = u) (hu : Sl .i64 w u m G) (hn : n ≤ 1000000) (hm : m ≤ 1000000) (hbase : base ≤ w.heap.size)
    (h : ∀ v' w', w'.ownsRow base 3 1 v' (n + m) (vL .i64 (cat F n G) (n + m)) → Below base w w' → w.grownBy w' v.ownBlock → K (a.put o.dst v') w') :
    if Region.wanted o (yielded ops a.tmps) = true then Oper.wp Try.prog o a w K Q else E := by
  rw [if_pos hw]
  obtain ⟨v', w', hrun, r1, r2, r3⟩ := run_app64 o.type base v n F hown u m G hu hn hm hbase
  unfold Oper.wp
  simp [execOp, hop, resolve, invoke, builtin, hs, hx, hrun, Result.andThen]
  exact h v' w' r1 r2 r3
theorem own_grown {w w' : World} {base n b0 m : Nat} {v u : Value} {xs : List Value} {X : Nat → Fm} (h : w.ownsRow base 3 1 v n xs) (hg : w.grownBy w' v.ownBlock) (ho : Own w b0 u m X) : Own w' b0 u m X := by
  obtain ⟨B, h1, h2, h3⟩ := ho
  exact ⟨B, h1.kept hg (owns_apart h h1 (by decide)), fun i hi => (h2 i hi).kept hg (owns_apart h (h2 i hi) (by decide)), h3⟩
theorem sl_take {k : IntKind} {w : World} {b off n cp j : Nat} {F : Nat → Int} (h : Sl k w (.slice (some ⟨b, off, none⟩) n cp) n F) (hj : j ≤ n) : Sl k w (.slice (some ⟨b, off, none⟩) j cp) j F := by
  obtain ⟨_, _, e, h1, h2⟩ := h.shape
  cases e
  by_cases hz : j = 0
  · subst hz
    exact .inl ⟨rfl, .inr ⟨_, cp, rfl, h2⟩⟩
  · obtain ⟨b', off', e, h3, h4⟩ := h.some (by omega)
    cases e
    exact .inr ⟨b, off, cp, rfl, by omega, h2, h3, fun i hi => h4 i (by omega)⟩
theorem sl_drop {k : IntKind} {w : World} {b off n cp j : Nat} {F : Nat → Int} (h : Sl k w (.slice (some ⟨b, off, none⟩) n cp) n F) : Sl k w (.slice (some ⟨b, off + j, none⟩) (n - j) (cp - j)) (n - j) (fun i => F (j + i)) := by
  obtain ⟨_, _, e, h1, h2⟩ := h.shape
  cases e
  by_cases hz : n - j = 0
  · rw [hz]
    exact .inl ⟨rfl, .inr ⟨_, cp - j, rfl, by omega⟩⟩
  · obtain ⟨b', off', e, h3, h4⟩ := h.some (by omega)
    cases e
    refine .inr ⟨b, off + j, cp - j, rfl, by omega, by omega, h3, fun i hi => ?_⟩
    rw [show off + j + i = off + (j + i) by omega]
    exact h4 (j + i) (by omega)
theorem sl_drew {k : IntKind} {w : World} {v : Value} {n : Nat} {F : Nat → Int} (h : Sl k w v n F) (q : Nat) : Sl k (w.drewN q) v n F := h.below (below_drewN (Below.refl _ _) q) (Nat.le_refl _)
/-- The rest of a slice of ints behind K, wherever it lies. -/
theorem slice_rest (g m c K M : Nat) (hM : m = M + 1) (hK : K < m) (hc : m ≤ c) (_ : c ≤ maxLen) : ∃ a2 c2, (∀ w, (Instr.slice 43 (.slice (some ⟨g, 0, none⟩) m c) (some (.int .i64 ((K : Int) + 1))) none none).run Try.prog w = .ok (.slice a2 (M - K) c2) w) ∧
    ∀ (w : World) (F : Nat → Int), Sl .i64 w (.slice (some ⟨g, 0, none⟩) m c) m F → Sl .i64 w (.slice a2 (M - K) c2) (M - K) (fun i => F (K + 1 + i)) := by
  obtain ⟨i, hi, hz0, hz1, hz2⟩ := info_parts info3
  have hu : Try.prog.underlying 43 = some (.slice 3) := Try.underlying43
  have z3 : ∀ w, (Go.sizeOf 3).run Try.prog w = .ok 1 w := fun w => by simp [Go.sizeOf, typeInfo, hi, hz1]
  have e1 : ((K : Int) + 1).toNat = K + 1 := by omega
  have hrun : ∀ w, (Instr.slice 43 (.slice (some ⟨g, 0, none⟩) m c) (some (.int .i64 ((K : Int) + 1))) none none).run Try.prog w = .ok (.slice (if c = K + 1 then some ⟨g, 0, none⟩ else (some ⟨g, 0, none⟩ : Option Addr).map (·.add ((K + 1) * 1))) (m - (K + 1)) (c - (K + 1))) w := by
    intro w
    rw [run_slice_l (P := Try.prog) (w := w) 43 _ _ _ (by rw [hu]; rfl) .i64 ((K : Int) + 1) (by omega) (by omega)]
    simp only [show Try.prog.elem 43 = 3 from rfl, z3, Result.andThen, sliced, e1]
  refine ⟨_, _, fun w => by rw [hrun w, show m - (K + 1) = M - K by omega], fun w F h => ?_⟩
  rw [show M - K = m - (K + 1) by omega]
  by_cases e : c = K + 1
  · rw [if_pos e, show m - (K + 1) = 0 by omega]
    exact .inl ⟨rfl, .inr ⟨_, _, rfl, by omega⟩⟩
  · rw [if_neg e]
    have := sl_drop (j := K + 1) h
    rw [Nat.zero_add] at this
    simpa [Addr.add] using this
/-- The law's frames. -/
def tk (i : Nat) : Fm := ⟨(i : Int) % 8, 2, fun j => if j = 0 then (i : Int) else 7⟩
theorem tk_bd (i : Nat) : 0 ≤ (tk i).t ∧ (tk i).t < 8 ∧ (tk i).n ≤ 80 := ⟨Int.emod_nonneg _ (by decide), Int.emod_lt_of_pos _ (by decide), (by decide : 2 ≤ 80)⟩
theorem sl_two_bytes (w : World) (i : Nat) (g : Nat) (hg : g = w.heap.size) : Sl .u8 (w.alloc (.cells #[.int .u8 (i : Int), .int .u8 7] 5)) (.slice (some ⟨g, 0, none⟩) 2 2) 2 (tk i).b := by
  subst hg
  refine (sl_lit .u8 w [(i : Int), 7] 5 2 rfl (by unfold maxLen; omega)).congr fun j hj => ?_
  rcases (show j = 0 ∨ j = 1 by omega) with rfl | rfl
  · rfl
  · rfl
theorem tk_put (k : Nat) (v : Value) (w : World) (hk : k < 40) (hv : Fs w v k tk) :
    Calls Try.prog 9 #[v, .agg #[.int .i64 ((k : Int) % 8), .slice (some ⟨w.heap.size, 0, none⟩) 2 2]] (w.alloc (.cells #[.int .u8 (k : Int), .int .u8 7] 5)) fun e w' => ∃ p c, e = .returned (.tuple #[.slice p (k + 1) c, .int .i64 0]) ∧ Own w' w.heap.size (.slice p (k + 1) c) (k + 1) tk ∧ Below w.heap.size w w' := by
  have bx := below_alloc (Below.refl w.heap.size w) (.cells #[.int .u8 (k : Int), .int .u8 7] 5)
  refine (put_ok v _ k tk (tk k) _ (hv.below bx (Nat.le_refl _)) (sl_two_bytes w k _ rfl) (putE_zero.2 ⟨chk_of (by omega) fun i _ => tk_bd i, okB_iff.2 (tk_bd k), by omega⟩)).mono ?_
  rintro e w' ⟨p, c, rfl, o, b⟩
  refine ⟨p, c, rfl, (o.congr fun i hi => ?_).mono bx.size, below_of bx b⟩
  by_cases e : i < k
  · rw [snoc_lt _ _ _ _ e]; exact ⟨rfl, rfl, fun _ _ => rfl⟩
  · obtain rfl : i = k := by omega
    rw [snoc_at]; exact ⟨rfl, rfl, fun _ _ => rfl⟩
/-- G without its number k. -/
def lackN (G : Nat → Nat) (k : Nat) : Nat → Nat := cat G k fun i => G (k + 1 + i)
theorem own_zero {w : World} {base K : Nat} {v : Value} {F G : Nat → Int} (h : w.ownsRow base 3 1 v (0 + K) (vL .i64 (cat F 0 G) (0 + K))) : w.ownsRow base 3 1 v K (vL .i64 G K) := by
  rw [Nat.zero_add] at h
  rwa [vL_congr (G := G) fun j _ => by simp [cat]] at h
theorem lackN_cast (G : Nat → Nat) (K : Nat) : (cat (fun i => (G i : Int)) K fun i => (G (K + 1 + i) : Int)) = fun i => (lackN G K i : Int) := by
  funext i
  unfold lackN cat
  split <;> rfl
theorem own_rest {w : World} {base K M : Nat} {v : Value} {G : Nat → Nat} (hK : K ≤ M) (h : w.ownsRow base 3 1 v (K + (M - K)) (vL .i64 (cat (fun i => (G i : Int)) K fun i => (G (K + 1 + i) : Int)) (K + (M - K)))) : w.ownsRow base 3 1 v M (vL .i64 (fun i => (lackN G K i : Int)) M) := by
  rw [show K + (M - K) = M by omega, lackN_cast] at h
  exact h
theorem lackN_lt {G : Nat → Nat} {K b : Nat} (h : ∀ i, G i < b) (i : Nat) : lackN G K i < b := by
  unfold lackN cat
  split
  · exact h _
  · exact h _
theorem tk_take (G : Nat → Nat) (M m k : Nat) (hM : m = M + 1) (hm : m ≤ 40) (hk : k < m) (p : Option Addr) (c : Nat) (w : World) (hv : Fs w (.slice p m c) m (fun i => tk (G i))) :
    Calls Try.prog 10 #[.slice p m c, .int .i64 k] w fun e w' => ∃ q d p2 c2, e = .returned (.tuple #[.agg #[.int .i64 ((G k : Int) % 8), .slice q 2 d], .slice p2 M c2, .int .i64 0]) ∧ Sl .u8 w' (.slice q 2 d) 2 (tk (G k)).b ∧ Fs w' (.slice p2 M c2) M (fun i => tk (lackN G k i)) ∧ Below w.heap.size w w' := by
  subst hM
  refine (take_in _ (M + 1) (fun i => tk (G i)) k w hv hk (chk_of (by omega) fun i _ => tk_bd _)).mono ?_
  rintro e w' ⟨q, d, p2, c2, rfl, s, o, b⟩
  refine ⟨q, d, p2, c2, rfl, s, o.fs.congr fun i hi => ?_, b⟩
  have : lack (fun i => tk (G i)) k i = tk (lackN G k i) := by
    unfold lack lackN cat
    split <;> rfl
  rw [this]
  exact ⟨rfl, rfl, fun _ _ => rfl⟩
theorem tk_frame (i : Nat) (va vb : Value) (w : World) (ha : Sl .u8 w va 2 (tk i).b) (hb : Sl .u8 w vb 2 (tk i).b) :
    Calls Try.prog 17 #[.agg #[.int .i64 ((i : Int) % 8), va], .agg #[.int .i64 ((i : Int) % 8), vb]] w fun e w' => e = .returned (.bool true) ∧ Below w.heap.size w w' := frame_self (tk i) va vb w ha hb
theorem tk_check (G : Nat → Nat) (m : Nat) (hm : m ≤ 40) (v : Value) (w : World) (hv : Fs w v m (fun i => tk (G i))) : Calls Try.prog 14 #[v] w fun e w' => e = .returned (.int .i64 0) ∧ Below w.heap.size w w' := by
  have := check_any _ v m w hv
  rwa [chk_of (by omega) fun i _ => tk_bd (G i)] at this
end Go.Proofs.Ytpaeekpdchmfjaa
