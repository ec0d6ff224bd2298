/- Walk of sha.Hex. -/
import Derived.Test.YtaojifgbnllebaaDoorA7
import Derived.Deep.RegionLaw
import Derived.Laws.BytesArg
namespace Go.Proofs.YtaojifgbnllebaaDoor
open Go.RowKit

/-- A hexadecimal digit. -/
def hexd (m : Int) : Int := if m < 10 then 48 + m else 87 + m
/-- The digits of the first k bytes. -/
def hexI (f : Nat → Int) : Nat → List Int
  | 0 => []
  | k + 1 => hexI f k ++ [hexd (f k / 16), hexd (f k % 16)]
theorem hexI_length (f : Nat → Int) (k : Nat) : (hexI f k).length = 2 * k := by
  induction k with
  | zero => rfl
  | succ k ih => simp [hexI, ih]; omega
theorem and15 (x : Int) (h0 : 0 ≤ x) (h1 : x < 256) : bits .and .u8 x 15 = x % 16 := by
  obtain ⟨n, rfl⟩ := Int.eq_ofNat_of_zero_le h0
  have : ∀ m : Fin 256, bits .and .u8 ((m.val : Nat) : Int) 15 = ((m.val : Nat) : Int) % 16 := by decide +kernel
  exact this ⟨n, by omega⟩
theorem idxDig (m : Int) (h0 : 0 ≤ m) (h1 : m < 16) (w : World) : (Instr.index 9 (.string { data := #[48, 49, 50, 51, 52, 53, 54, 55, 56, 57, 97, 98, 99, 100, 101, 102] }) (.int .u8 m)).run Tryd.prog w = .ok (.int .u8 (hexd m)) w := by
  unfold hexd
  obtain ⟨n, rfl⟩ := Int.eq_ofNat_of_zero_le h0
  have h2 : n < 16 := by omega
  match n, h2 with
  | 0, _ | 1, _ | 2, _ | 3, _ | 4, _ | 5, _ | 6, _ | 7, _ | 8, _ | 9, _ | 10, _ | 11, _ | 12, _ | 13, _ | 14, _ | 15, _ =>
    unfold Instr.index
    simp only [Sem.run_bind, asIntOf, Sem.run_pure, Result.andThen_ok, run_underlying Tryd.underlying9 w]
    rfl
/-- append within the capacity, as one step of a region that draws. -/
theorem step_append_fits {P : Program} {ops : Array Oper} {o : Oper} {a : Act} {w : World} {K : Act → World → Prop} {Q : Exit → Act → World → Prop} {E : Prop}
    (hg : o.guard = none) (s x : Operand) (t : TypeId) (hop : o.op = Op.call { callee := Callee.builtin Builtin.append, args := #[s, x], argTypes := #[t, t] })
    (base : Nat) (e : TypeId) (i : TypeInfo) (size : Nat) (h1 : P.underlying t = some (.slice e)) (h2 : P.info? e = some i) (h4 : i.size = size)
    (g k cap : Nat) (xs : List Value) (hs : a.eval s = .slice (some ⟨g, 0, none⟩) k cap) (hown : w.ownsRow base e size (.slice (some ⟨g, 0, none⟩) k cap) k xs) (ad : Addr) (m c : Nat) (news : List Value) (hx : a.eval x = .slice (some ad) m c) (hn : news.length = m * size)
    (hc : ∀ j u, news[j]? = some u → w.cell? (ad.add j) = some u) (h1c : ∀ u ∈ news, u.oneCell' = true) (b1 : k + m ≤ cap)
    (hK : ∀ w', w'.ownsRow base e size (.slice (some ⟨g, 0, none⟩) (k + m) cap) (k + m) (xs ++ news) → w.grownBy w' (some g) → K (a.put o.dst (.slice (some ⟨g, 0, none⟩) (k + m) cap)) w') :
    if Region.wanted o (yielded ops a.tmps) = true then Oper.wp P o a w K Q else E := by
  have hw : Region.wanted o (yielded ops a.tmps) = true := by simp [Region.wanted, hg]
  rw [if_pos hw]
  obtain ⟨w', hrun, r1, r2⟩ := run_append_fits (P := P) w base t o.type e i size h1 h2 h4 g k cap xs hown ad m c news hn hc h1c b1
  unfold Oper.wp
  simp [execOp, hop, resolve, invoke, builtin, hs, hx, hrun, Result.andThen]
  exact hK w' r1 r2

set_option maxRecDepth 100000 in
set_option maxHeartbeats 1000000 in
theorem hex_some (f : Nat → Int) (b off n cap : Nat) (w : World)
    (hc : ∀ i : Nat, i < n → w.cell? ⟨b, off + i, none⟩ = some (.int .u8 (f i))) (hbs : ∀ i, 0 ≤ f i ∧ f i < 256) (hn : n ≤ 100000) (hcap : n ≤ cap) (hb : b < w.heap.size) :
    Calls Tryd.prog 11 #[.slice (some ⟨b, off, none⟩) n cap] w fun e w' => e = .returned (.string (strOfNums (hexI f n))) ∧ Below w.heap.size w w' := by
  obtain ⟨i, hi, hz0, hz1, hz2⟩ := info_parts info5
  go_enter Tryd.func11, Tryd.ntmps11
  go_wp2_with (at_make; refine wpList_make_own _ rfl _ _ 22 rfl w.heap.size 5 i (.int .u8 0) 1 Tryd.underlying22 hi hz0 hz1 .i64 .i64 (2 * (n : Int)) (2 * n) rfl rfl (by omega) (by rw [hz2]; omega) (by unfold maxLen; omega) (Nat.le_refl _) ?_)
  intro w1 hown hgrow
  have hbel : Below w.heap.size w w1 := (Below.refl _ _).grown hgrow (Nat.le_refl _) (by intro k h; cases h)
  clear hgrow
  go_wp2
  go_loopw [3, 12] (fun v xi w2 => ∃ k : Nat, k ≤ n ∧ xi = .int .i64 k ∧ v = .slice (some ⟨w.heap.size, 0, none⟩) (2 * k) (2 * n) ∧ w2.ownsRow w.heap.size 5 1 v (2 * k) ((hexI f k).map (Value.int .u8)) ∧ Below w.heap.size w w2) (fun _ i _ => n - (intOf i).toNat)
  case atStart => exact ⟨0, by omega, rfl, rfl, hown, hbel⟩
  case round =>
    clear hown hbel
    obtain ⟨k, hk, rfl, rfl, hown, hbel⟩ := hrel
    by_cases hlt : k < n
    · have hx : wr.cell? ⟨b, off + k, none⟩ = some (.int .u8 (f k)) := by
        rw [hbel.cell (show (⟨b, off + k, none⟩ : Addr).block < w.heap.size from hb)]; exact hc _ hlt
      have hb0 := (hbs k).1
      have hb1 := (hbs k).2
      have hand := and15 (f k) hb0 hb1
      have i1 := idxDig (f k / 16) (by omega) (by omega)
      have i2 := idxDig (f k % 16) (by omega) (by omega)
      have hgl := (hown.lt w.heap.size rfl).2
      clear hc
      go_wp2
      go_region_law (refine step_append_fits rfl (.tmp 16) (.tmp 23) 22 rfl w.heap.size 5 i 1 Tryd.underlying22 hi hz1 w.heap.size (2 * k) (2 * n) _ rfl (hown.alloc _) ⟨wr.heap.size, 0, none⟩ 2 2 [.int .u8 (hexd (f k / 16)), .int .u8 (hexd (f k % 16))] rfl rfl (cells_lit _ _ 5) (by intro u hu; simp at hu; rcases hu with rfl | rfl <;> rfl) (by omega) ?_; intro w2 hown2 hgrow2)
      all_goals (go_wp2; go_roundw)
      all_goals try (simp [intOf]; omega; done)
      all_goals
        refine ⟨k + 1, by omega, by go_num, rfl, ?_, ?_⟩
        · have := hown2
          rw [hexI, List.map_append]
          exact this
        · exact (hbel.alloc hbel.size _).drew.grown hgrow2 (by simp; omega) (by intro k h; cases h; exact Nat.le_refl _)
    · have : k = n := by omega
      subst this
      have hcv := run_convert_bytes_arg (P := Tryd.prog) wr 22 5 Tryd.underlying22 Tryd.underlying5 w.heap.size 0 (2 * k) (2 * k) (hexI f k) (hexI_length f k) (fun j hj => by
        rw [Nat.zero_add, hown.cellAt j (by omega)]
        have hl := hexI_length f k
        simp [List.getD, List.getElem?_eq_getElem (show j < (hexI f k).length by omega)]) 9 Tryd.underlying9
      go_wp2
      go_ret
      exact ⟨rfl, hbel⟩
end Go.Proofs.YtaojifgbnllebaaDoor
