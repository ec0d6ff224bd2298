/- Walk of the page's times. -/
import Derived.Test.YtaojifgbnllebaaDoorR1
import Derived.BigRegion
namespace Go.Proofs.YtaojifgbnllebaaDoor
open Go.RowKit

theorem rowIs_of_owns {w : World} {base g n : Nat} {e : TypeId} {xs : List Value} {f : Nat → Value} (h : w.ownsRow base e 1 (.slice (some ⟨g, 0, none⟩) n n) n xs) (hx : ∀ i, i < n → xs[i]? = some (f i)) : w.rowIs g e n f := by
  obtain ⟨hl, h2⟩ := h
  rcases h2 with ⟨h2, _⟩ | ⟨g', cap, cur, hv, _, hg, _, _, hs, ht⟩
  · cases h2
  · injection hv with h3 h4 h5
    injection h3 with h3
    injection h3 with h6
    subst h6
    subst h5
    refine ⟨cur, hg, by omega, fun i hi => ?_⟩
    rw [← hx i hi, ← ht, List.getElem?_take_of_lt (by omega)]
    simp
theorem owns_of_rowIs {w : World} {base g n : Nat} {e : TypeId} {f : Nat → Value} (h : w.rowIs g e n f) (hb : base ≤ g) (hn : n ≤ maxLen) : w.ownsRow base e 1 (.slice (some ⟨g, 0, none⟩) n n) n ((List.range n).map f) := by
  obtain ⟨c, hg, hs, hc⟩ := h
  refine ⟨by simp, .inr ⟨g, n, c, rfl, hb, hg, Nat.le_refl _, hn, by omega, ?_⟩⟩
  apply List.ext_getElem?
  intro i
  by_cases hi : i < n
  · rw [List.getElem?_take_of_lt (by omega)]
    simp [hc i hi, hi]
  · rw [List.getElem?_eq_none (by simp; omega), List.getElem?_eq_none (by simp; omega)]
/-- A store of a number into a row of numbers. -/
theorem urow_set {w : World} {b t n : Nat} {F G : Nat → Int} (h : w.rowIs b t n (fun m => .int .u64 (F m))) (k : Nat) (v : Int) (e : ∀ m, m < n → (if m = k then v else F m) = G m) :
    (w.setCell ⟨b, k, none⟩ (.int .u64 v)).rowIs b t n (fun m => .int .u64 (G m)) := by
  refine (h.set k (.int .u64 v)).congr ?_
  intro m hm
  rw [← e m hm]; split <;> rfl

set_option maxRecDepth 100000 in
set_option maxHeartbeats 2000000 in
theorem times_any (A Bf : Nat → Int) (ga la ca gb lb cb : Nat) (w : World) (hla : la ≤ 20) (hlb : lb ≤ 20) (hga : ga < w.heap.size) (hgb : gb < w.heap.size) (hdA : Dig A la) (hdB : Dig Bf lb)
    (hA : ∀ i : Nat, i < la → w.cell? ⟨ga, i, none⟩ = some (.int .u64 (A i))) (hB : ∀ i : Nat, i < lb → w.cell? ⟨gb, i, none⟩ = some (.int .u64 (Bf i))) :
    Calls Tryd.prog 26 #[.slice (some ⟨ga, 0, none⟩) la ca, .slice (some ⟨gb, 0, none⟩) lb cb] w fun e w' => e = .returned (.slice (some ⟨w.heap.size, 0, none⟩) (la + lb + 1) (la + lb + 1)) ∧
      ∃ F, Dig F (la + lb + 1) ∧ val F (la + lb + 1) = val A la * val Bf lb ∧ w'.rowIs w.heap.size 41 (la + lb + 1) (fun j => .int .u64 (F j)) ∧ Below w.heap.size w w' := by
  obtain ⟨i, hi, hz0, hz1, hz2⟩ := info_parts info41
  have HA := hide hA
  have HB := hide hB
  clear hA hB
  go_enter Tryd.func26, Tryd.ntmps26
  go_wp2_with (at_make; refine wpList_make_full _ rfl _ _ 46 rfl w.heap.size 41 i (.int .u64 0) 1 Tryd.underlying46 hi hz0 hz1 .i64 .i64 ((la : Int) + lb + 1) ((la : Int) + lb + 1) (la + lb + 1) rfl rfl (by omega) (by omega) (by rw [hz2]; omega) (by unfold maxLen; omega) (Nat.le_refl _) ?_)
  intro w1 hown hgrow
  have hrow : w1.rowIs w.heap.size 41 (la + lb + 1) (fun j => .int .u64 ((fun _ => (0 : Int)) j)) := rowIs_of_owns hown (fun i hi => by
    rw [toList_madeCells_one]
    simp [hi])
  have hbel : Below w.heap.size w w1 := (Below.refl _ _).grown hgrow (Nat.le_refl _) (by intro k h; cases h)
  clear hown hgrow
  go_wp2
  go_loopw [6] (fun xi w2 => ∃ i : Nat, i ≤ la ∧ xi = .int .i64 i ∧ ∃ F, Dig F (la + lb + 1) ∧ val F (la + lb + 1) = val A i * val Bf lb ∧ w2.rowIs w.heap.size 41 (la + lb + 1) (fun j => .int .u64 (F j)) ∧ Below w.heap.size w w2) (fun i _ => la - (intOf i).toNat)
  case atStart =>
    refine ⟨0, by omega, rfl, fun _ => 0, fun j _ => by simp, ?_, hrow, hbel⟩
    have : ∀ n, val (fun _ => 0) n = 0 := fun n => by induction n with
      | zero => rfl
      | succ n ih => rw [val, ih]; omega
    rw [this]; simp [val]
  case round =>
    clear hrow hbel
    obtain ⟨i1, hi1, rfl, F, hdF, hvF, hrow, hbel⟩ := hrel
    by_cases hlt : i1 < la
    · go_wp2
      go_loopw [7] (fun xk w3 => ∃ k : Nat, k ≤ lb ∧ xk = .int .i64 k ∧ ∃ F, Dig F (la + lb + 1) ∧ val F (la + lb + 1) = val A i1 * val Bf lb + A i1 * pw i1 * val Bf k ∧ w3.rowIs w.heap.size 41 (la + lb + 1) (fun j => .int .u64 (F j)) ∧ Below w.heap.size w w3) (fun k _ => lb - (intOf k).toNat)
      case atStart => exact ⟨0, by omega, rfl, F, hdF, by rw [hvF]; simp [val], hrow, hbel⟩
      case round =>
        clear hrow hbel hdF hvF F
        obtain ⟨k, hk, rfl, F, hdF, hvF, hrow, hbel⟩ := hrel
        by_cases hkt : k < lb
        · have ca : wr.cell? ⟨ga, i1, none⟩ = some (.int .u64 (A i1)) := (hbel.cell (p := ⟨ga, i1, none⟩) hga).trans (unhide HA i1 hlt)
          have cb : wr.cell? ⟨gb, k, none⟩ = some (.int .u64 (Bf k)) := (hbel.cell (p := ⟨gb, k, none⟩) hgb).trans (unhide HB k hkt)
          have co := hrow.cell (i := i1 + k) (by omega)
          have fo := hrow.frozen (i1 + k)
          have hw : IntKind.i64.wrap ((i1 : Int) + k) = (i1 : Int) + k := wrap_id _ (by omega) (by omega)
          have e1 : ((i1 : Int) + k).toNat = i1 + k := by omega
          have hx1 : (i1 : Int) + k < (la : Int) + lb + 1 := by omega
          have hx2 : i1 + k < la + lb + 1 := by omega
          have Hrow := hide hrow
          clear hrow
          go_wp2
          go_region
          go_wp2
          have hbA := hdA i1 hlt
          have hbB := hdB k hkt
          have hbF := hdF (i1 + k) (by omega)
          have hprod : 0 ≤ A i1 * Bf k ∧ A i1 * Bf k ≤ 4294836225 := by
            have h1 := Int.mul_nonneg hbA.1 hbB.1
            have h2 : A i1 * Bf k ≤ 65535 * Bf k := Int.mul_le_mul_of_nonneg_right (by omega) hbB.1
            omega
          have hwv : IntKind.u64.wrap (F (i1 + k) + IntKind.u64.wrap (A i1 * Bf k)) = F (i1 + k) + A i1 * Bf k := by
            have h1 : IntKind.u64.wrap (A i1 * Bf k) = A i1 * Bf k := by simp [IntKind.wrap, IntKind.bits, IntKind.signed]; omega
            rw [h1]; simp [IntKind.wrap, IntKind.bits, IntKind.signed]; omega
          have hVlt := prod_bd hdA hdB hlt (k := k + 1) (by omega)
          rw [hwv]
          go_loopw [8] (fun xq w4 => ∃ q : Nat, q < la + lb + 1 ∧ xq = .int .i64 q ∧ ∃ G : Nat → Int, (∀ j, j < la + lb + 1 → 0 ≤ G j) ∧ (∀ j, j < la + lb + 1 → j ≠ q → G j < 65536) ∧ G q < 8589934592 ∧ val G (la + lb + 1) = val A i1 * val Bf lb + A i1 * pw i1 * val Bf (k + 1) ∧ w4.rowIs w.heap.size 41 (la + lb + 1) (fun j => .int .u64 (G j)) ∧ Below w.heap.size w w4) (fun q _ => la + lb + 1 - (intOf q).toNat)
          case atStart =>
            refine ⟨i1 + k, by omega, by go_num, fun j => if j = i1 + k then F (i1 + k) + A i1 * Bf k else F j, ?_, ?_, ?_, ?_, World.rowIs.drew (urow_set (unhide Hrow) (i1 + k) _ (fun m _ => rfl)), (hbel.setCell (Nat.le_refl _) _).drew⟩
            · intro j hj
              show 0 ≤ (if j = i1 + k then F (i1 + k) + A i1 * Bf k else F j)
              split
              · omega
              · exact (hdF j hj).1
            · intro j hj hne
              show (if j = i1 + k then F (i1 + k) + A i1 * Bf k else F j) < 65536
              rw [if_neg hne]
              exact (hdF j hj).2
            · show (if i1 + k = i1 + k then F (i1 + k) + A i1 * Bf k else F (i1 + k)) < 8589934592
              rw [if_pos rfl]; omega
            · rw [val_upd F (i1 + k) _ _ (by omega), hvF, show F (i1 + k) + A i1 * Bf k - F (i1 + k) = A i1 * Bf k by omega]
              show _ = val A i1 * val Bf lb + A i1 * pw i1 * (val Bf k + Bf k * pw k)
              rw [pw_add, Int.mul_add, show A i1 * Bf k * (pw i1 * pw k) = A i1 * pw i1 * (Bf k * pw k) by
                rw [Int.mul_assoc, Int.mul_assoc, ← Int.mul_assoc (Bf k), Int.mul_comm (Bf k) (pw i1), Int.mul_assoc]]
              omega
          case round =>
            clear hvF hwv hprod hbF hdF co fo cb ca hw e1 Hrow hbel
            obtain ⟨q, hq, rfl, G, hG0, hG1, hG2, hGv, hrow, hbel⟩ := hrel
            have cq := hrow.cell hq
            have g0 := hG0 q hq
            by_cases hbig : 65536 ≤ G q
            · have hq1 := carry_fits hG0 hq hGv hVlt hbig
              have cq1 := hrow.cell (i := q + 1) (by omega)
              have fq := hrow.frozen q
              have fq1 := hrow.frozen (q + 1)
              have g1 := hG0 (q + 1) (by omega)
              have g2 := hG1 (q + 1) (by omega) (by omega)
              have hw : IntKind.i64.wrap ((q : Int) + 1) = (q : Int) + 1 := wrap_id _ (by omega) (by omega)
              have e1 : ((q : Int) + 1).toNat = q + 1 := by omega
              have hx1 : (q : Int) + 1 < (la : Int) + lb + 1 := by omega
              have Hv := hide hGv
              have Hrow := hide hrow
              clear hGv hrow hVlt
              go_wp2
              go_region
              go_wp2
              go_roundw
              case rel =>
                refine ⟨q + 1, by omega, by go_num, carried G q, ?_, ?_, ?_, by rw [val_carried G q _ (by omega)]; exact unhide Hv, World.rowIs.drew (urow_set (urow_set (unhide Hrow) (q + 1) _ (fun m _ => rfl)) q _ (fun m _ => rfl)), ((hbel.setCell (Nat.le_refl _) _).setCell (Nat.le_refl _) _).drew⟩
                · intro j hj
                  unfold carried
                  split
                  · omega
                  · split
                    · omega
                    · exact hG0 j hj
                · intro j hj hne
                  unfold carried
                  split
                  · omega
                  · exact hG1 j hj (by omega)
                · unfold carried
                  rw [if_neg (by omega), if_pos rfl]
                  omega
              case measure => simp [intOf]; omega
            · have hbig2 : G q < 65536 := by omega
              have Hv := hide hGv
              clear hGv hVlt
              go_wp2
              go_roundw
              case rel =>
                refine ⟨k + 1, by omega, by go_num, G, fun j hj => ⟨hG0 j hj, ?_⟩, unhide Hv, hrow, hbel⟩
                by_cases e : j = q
                · subst e; exact hbig2
                · exact hG1 j hj e
              case measure => simp [intOf]; omega
        · obtain rfl : k = lb := by omega
          have Hv := hide hvF
          clear hvF
          go_wp2
          go_roundw
          case rel =>
            refine ⟨i1 + 1, by omega, by go_num, F, hdF, ?_, hrow, hbel⟩
            rw [unhide Hv, ← Int.add_mul]
            rfl
          case measure => simp [intOf]; omega
    · obtain rfl : i1 = la := by omega
      have Hv := hide hvF
      clear hvF
      go_wp2
      go_ret
      exact ⟨rfl, F, hdF, unhide Hv, hrow, hbel⟩
end Go.Proofs.YtaojifgbnllebaaDoor
