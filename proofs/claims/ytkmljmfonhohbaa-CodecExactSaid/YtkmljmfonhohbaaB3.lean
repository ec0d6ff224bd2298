/- Walk of the page's Bytes; append as a step that may be guarded. -/
import Derived.Test.YtkmljmfonhohbaaB1
namespace Go.Proofs.Ytkmljmfonhohbaa
open Go.RowKit

/-- append onto a row of the call's own, as a step of a region that may be guarded. -/
theorem wpList_append_own_g {P : Program} {w : World} {ops : Array Oper} {rest : List Oper} {o : Oper} {a : Act} {Q : Exit → Act → World → Prop} (hw : Region.wanted o (yielded ops a.tmps) = true) (s x : Operand) (t : TypeId)
    (hop : o.op = Op.call { callee := Callee.builtin Builtin.append, args := #[s, x], argTypes := #[t, t] })
    (base : Nat) (e : TypeId) (i : TypeInfo) (z : Value) (bytes : Nat) (ht : P.underlying t = some (.slice e)) (hi : P.info? e = some i) (hz : i.zero = some z)
    (hsize : i.size = 1) (hby : i.bytes = bytes) (hzs : z.cells.size = 1)
    (v : Value) (n : Nat) (xs : List Value) (hs : a.eval s = v) (hown : w.ownsRow base e 1 v n xs)
    (ad : Addr) (m c : Nat) (news : List Value) (hx : a.eval x = .slice (some ad) m c) (hl : news.length = m * 1) (hnews : ∀ j u, news[j]? = some u → w.cell? (ad.add j) = some u) (h1 : ∀ u ∈ news, u.oneCell' = true)
    (h63 : n + m ≤ maxLen) (hbytes : (n + m) * bytes ≤ 140737488355328) (hbase : base ≤ w.heap.size)
    (h : ∀ v' w', w'.ownsRow base e 1 v' (n + m) (xs ++ news) → w.grownBy w' v.ownBlock → wpList P ops Q rest (a.put o.dst v') w') : wpList P ops Q (o :: rest) a w := by
  refine wpList_step fun K hK => ?_
  rw [if_pos hw]
  obtain ⟨v', w', hrun, r1, r2, _⟩ := run_append_own (P := P) w base t o.type e i z 1 bytes ht hi hz hsize hby hzs (by decide) v n xs hown ad m c news hl hnews h1 h63 hbytes hbase
  unfold Oper.wp
  simp [execOp, hop, resolve, invoke, builtin, hs, hx, hrun, Result.andThen]
  exact hK _ _ (h v' w' r1 r2)

/-- The number's bytes from place k on, nought ahead. -/
def bF (S : Nat) (n : Int) (k j : Nat) : Int := if k ≤ j then n / 2 ^ (8 * (S - 1 - j)) % 256 else 0
theorem bF_set (S : Nat) (n : Int) (j : Nat) (h : j < S) : (vL .u8 (bF S n (j + 1)) S).set j (.int .u8 (n / 2 ^ (8 * (S - 1 - j)) % 256)) = vL .u8 (bF S n j) S := by
  apply List.ext_getElem?
  intro t
  by_cases ht : t < S
  · by_cases e : j = t
    · subst e
      rw [List.getElem?_set_self (by rw [vL_length]; exact h), vL_get _ _ _ _ ht]
      simp [bF]
    · rw [List.getElem?_set_ne e, vL_get _ _ _ _ ht, vL_get _ _ _ _ ht]
      unfold bF
      by_cases g : j + 1 ≤ t
      · rw [if_pos g, if_pos (by omega)]
      · rw [if_neg g, if_neg (by omega)]
  · rw [List.getElem?_eq_none (by rw [List.length_set, vL_length]; omega), List.getElem?_eq_none (by rw [vL_length]; omega)]
theorem bF_start (S : Nat) (n : Int) : List.replicate S (Value.int .u8 0) = vL .u8 (bF S n S) S := by
  apply List.ext_getElem?
  intro t
  by_cases ht : t < S
  · rw [vL_get _ _ _ _ ht, bF, if_neg (by omega)]
    simp [ht]
  · rw [List.getElem?_eq_none (by simp; omega), List.getElem?_eq_none (by rw [vL_length]; omega)]
theorem div_next (n : Int) (S j : Nat) (h : j < S) : n / 2 ^ (8 * (S - 1 - j)) / 256 = n / 2 ^ (8 * (S - j)) := by
  rw [show 8 * (S - j) = 8 * (S - 1 - j) + 8 by omega, Int.pow_add, ← Int.ediv_ediv_of_nonneg (Int.pow_nonneg (by decide))]
  rfl
set_option maxRecDepth 100000 in
theorem refBytes_is (S : Nat) (n : Int) (hS : 1 ≤ S ∧ S ≤ 8) (h0 : 0 ≤ n) (h1 : n ≤ 4611686018427387903) (w : World) :
    Calls Try.prog 17 #[.int .i64 (S : Int), .int .i64 n] w fun e w' => e = .returned (.slice (some ⟨w.heap.size, 0, none⟩) S S) ∧ w'.ownsRow w.heap.size 5 1 (.slice (some ⟨w.heap.size, 0, none⟩) S S) S (vL .u8 (bF S n 0) S) ∧ Below w.heap.size w w' := by
  obtain ⟨i, hi, hz0, hz1, hz2⟩ := info_parts info5
  have HB := hide (bF_start S n)
  go_enter Try.func17, Try.ntmps17
  go_wp2_with (at_make; refine wpList_make_full _ rfl _ _ 22 rfl w.heap.size 5 i (.int .u8 0) 1 Try.underlying22 hi hz0 hz1 .i64 .i64 (S : Int) (S : Int) S rfl rfl rfl rfl (by rw [hz2]; omega) (by unfold maxLen; omega) (Nat.le_refl _) ?_)
  intro w1 hown hgrow
  have hbel : Below w.heap.size w w1 := (Below.refl _ _).grown hgrow (Nat.le_refl _) (by intro k h; cases h)
  have he : (madeCells #[Value.int .u8 0] S).toList = vL .u8 (bF S n S) S := by
    rw [← unhide HB]
    exact toList_madeCells_one _ _
  rw [he] at hown
  clear hgrow he
  go_wp2
  go_loopw [1, 6] (fun xn xi w2 => ∃ k : Nat, k ≤ S ∧ xi = .int .i64 ((k : Int) - 1) ∧ xn = .int .i64 (n / 2 ^ (8 * (S - k))) ∧ w2.ownsRow w.heap.size 5 1 (.slice (some ⟨w.heap.size, 0, none⟩) S S) S (vL .u8 (bF S n k) S) ∧ Below w.heap.size w w2) (fun _ i _ => (intOf i + 1).toNat)
  case atStart => exact ⟨S, by omega, rfl, by simp, hown, hbel⟩
  case round =>
    clear hown hbel
    obtain ⟨k, hk, rfl, rfl, hown, hbel⟩ := hrel
    cases k with
    | zero =>
      have d : decide (0 ≤ ((0 : Nat) : Int) - 1) = false := by decide
      go_wp2
      go_ret
      exact ⟨rfl, hown, hbel⟩
    | succ j =>
      have e1 : ((j + 1 : Nat) : Int) - 1 = j := by omega
      rw [e1]
      have hx0 : 0 ≤ n / 2 ^ (8 * (S - (j + 1))) := Int.ediv_nonneg h0 (Int.pow_nonneg (by decide))
      have hx1 : n / 2 ^ (8 * (S - (j + 1))) ≤ n := Int.ediv_le_self _ h0
      have hset := bF_set S n j (by omega)
      have hdiv := div_next n S j (by omega)
      rw [show S - 1 - j = S - (j + 1) by omega] at hset hdiv
      have hst := hown.stored j (.int .u8 (n / 2 ^ (8 * (S - (j + 1))) % 256))
      rw [hset] at hst
      have hc : wr.cell? ⟨w.heap.size, j, none⟩ = some (.int .u8 (bF S n (j + 1) j)) := by rw [hown.cellAt j (by omega), vL_get _ _ _ _ (by omega)]
      have hf := hown.frozenAt j
      have ST := hide hst
      have HD := hide hdiv
      have HB2 := hide hbel
      have hx2 : n / 2 ^ (8 * (S - (j + 1))) ≤ 4611686018427387903 := by omega
      clear e1 hset hdiv hst hown hbel hx1
      generalize n / 2 ^ (8 * (S - (j + 1))) = x at *
      go_wp2
      go_roundw
      case rel => exact ⟨j, by omega, rfl, by rw [← unhide HD], (unhide ST).1, (unhide HB2).grown (unhide ST).2 (unhide HB2).size (by intro k h; cases h; exact Nat.le_refl _)⟩
      case measure => simp [intOf]
end Go.Proofs.Ytkmljmfonhohbaa
