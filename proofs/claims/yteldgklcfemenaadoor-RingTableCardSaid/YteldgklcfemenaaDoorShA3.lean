/- Walk of sha.words. -/
import Derived.Test.YteldgklcfemenaaDoorShH
namespace Go.Proofs.YteldgklcfemenaaDoor.Sh
open Go.RowKit

set_option maxRecDepth 100000 in
theorem words_any (b off cap : Nat) (bs : Nat → Int) (w : World) (hc : ∀ i : Nat, i < 64 → w.cell? ⟨b, off + i, none⟩ = some (.int .u8 (bs i))) (hbs : ∀ i, 0 ≤ bs i ∧ bs i < 256) (hcap : 64 ≤ cap) (hcap2 : cap < 2 ^ 63) (hb : b < w.heap.size) :
    Calls Tryd.prog 34 #[.slice (some ⟨b, off, none⟩) 64 cap] w fun e w' => e = .returned (.agg (arr 64 (wordsOf bs))) ∧ Below w.heap.size w w' := by
  go_enter Tryd.func34, Tryd.ntmps34
  go_wp2
  go_loopw [10] (fun xi w1 => ∃ k : Nat, k ≤ 16 ∧ xi = .int .i64 k ∧ w1.rowIs (w.heap.size + 1) 52 64 (fun m => .int .u32 (laidW bs k 0 m)) ∧ w1.rowIs w.heap.size 52 64 (fun _ => .int .u32 0) ∧ w1.heap.size = w.heap.size + 2 ∧ Below w.heap.size w w1) (fun i _ => 16 - (intOf i).toNat)
  case atStart =>
    refine ⟨0, by omega, rfl, ?_, ?_, by simp, ((Below.refl _ _).alloc (Nat.le_refl _) _).alloc (by simp) _⟩
    · refine ⟨arr 64 (fun _ => 0), heap_alloc2_new _ _ _, arr_size _ _, fun i hi => ?_⟩
      have : laidW bs 0 0 i = 0 := by unfold laidW; split <;> simp_all [wacc]
      rw [arr_get _ _ i hi]; show some (Value.int .u32 0) = some (Value.int .u32 (laidW bs 0 0 i)); rw [this]
    · exact ⟨arr 64 (fun _ => 0), heap_alloc2_old _ _ _, arr_size _ _, fun i hi => arr_get _ _ i hi⟩
  case round =>
    obtain ⟨k, hk, rfl, hrow, hres, hsz, hbel⟩ := hrel
    by_cases hlt : k < 16
    · have h4 : 4 * (k + 1) - 4 * k = 4 := by omega
      go_wp2
      go_loopw [21] (fun xj w1 => ∃ j : Nat, j ≤ 4 ∧ xj = .int .i64 j ∧ w1.rowIs (w.heap.size + 1) 52 64 (fun m => .int .u32 (laidW bs k j m)) ∧ w1.rowIs w.heap.size 52 64 (fun _ => .int .u32 0) ∧ w1.heap.size = w.heap.size + 2 ∧ Below w.heap.size w w1) (fun j _ => 4 - (intOf j).toNat)
      case atStart => exact ⟨0, by omega, rfl, hrow, hres, hsz, hbel⟩
      case round =>
        clear hrow hres hsz hbel
        obtain ⟨j, hj, rfl, hrow, hres, hsz, hbel⟩ := hrel
        by_cases hjt : j < 4
        · have hx : wr.cell? ⟨b, off + 4 * k + j, none⟩ = some (.int .u8 (bs (4 * k + j))) := by
            rw [hbel.cell (show (⟨b, off + 4 * k + j, none⟩ : Addr).block < w.heap.size from hb), Nat.add_assoc]; exact hc _ (by omega)
          have hv := hrow.cell (i := k) (by omega)
          rw [laidW_at] at hv
          have hf := hrow.frozen k
          have hb0 := (hbs (4 * k + j)).1
          have hb1 := (hbs (4 * k + j)).2
          clear hc
          go_wp2
          go_roundw
          case rel =>
            refine ⟨j + 1, by omega, by go_num, row_set hrow k _ (fun m _ => laidW_step bs k j m), hres.setOther (by simp) _, by simp [hsz], hbel.setCell (by simp) _⟩
          case measure => simp [intOf]; omega
        · have : j = 4 := by omega
          subst this
          go_wp2
          go_roundw
          case rel =>
            exact ⟨k + 1, by omega, by go_num, hrow.congr (fun m _ => by rw [laidW_turn]), hres, hsz, hbel⟩
          case measure => simp [intOf]; omega
    · have : k = 16 := by omega
      subst this
      go_wp2
      go_loopw [7] (fun xi w1 => ∃ n : Nat, n ≤ 48 ∧ xi = .int .i64 ((16 : Int) + n) ∧ w1.rowIs (w.heap.size + 1) 52 64 (fun m => .int .u32 (extW (laidW bs 16 0) n m)) ∧ w1.rowIs w.heap.size 52 64 (fun _ => .int .u32 0) ∧ w1.heap.size = w.heap.size + 2 ∧ Below w.heap.size w w1) (fun j _ => 64 - (intOf j).toNat)
      case atStart => exact ⟨0, by omega, rfl, hrow, hres, hsz, hbel⟩
      case round =>
        clear hrow hres hsz hbel hc
        obtain ⟨n, hn, rfl, hrow, hres, hsz, hbel⟩ := hrel
        by_cases hnt : n < 48
        · have c15 := hrow.cell (i := 1 + n) (by omega)
          have c2 := hrow.cell (i := 14 + n) (by omega)
          have c16 := hrow.cell (i := n) (by omega)
          have c7 := hrow.cell (i := 9 + n) (by omega)
          have e15 : (16 : Int) + n - 15 = ((1 + n : Nat) : Int) := by omega
          have e2 : (16 : Int) + n - 2 = ((14 + n : Nat) : Int) := by omega
          have e16 : (16 : Int) + n - 16 = n := by omega
          have e7 : (16 : Int) + n - 7 = ((9 + n : Nat) : Int) := by omega
          have c0 := hrow.cell (i := 16 + n) (by omega)
          have hf := hrow.frozen (16 + n)
          go_wp2
          go_quiet ((go_at_call 35; refine (turned_any _ _ (by omega) (by omega) _).mono ?_; rintro e w' ⟨rfl, rfl⟩; exact ⟨rfl, _, rfl⟩))
          go_wp2
          go_quiet ((go_at_call 35; refine (turned_any _ _ (by omega) (by omega) _).mono ?_; rintro e w' ⟨rfl, rfl⟩; exact ⟨rfl, _, rfl⟩))
          go_wp2
          go_region
          go_wp2
          go_roundw
          case rel =>
            exact ⟨n + 1, by omega, by go_num, row_set (w := wr.drewN _) hrow (16 + n) _ (fun m _ => extW_step _ n m), World.rowIs.setOther (w := wr.drewN _) hres (by simp) _, by simp [hsz], (below_drewN hbel _).setCell (by simp) _⟩
          case measure => simp [intOf]; omega
        · have : n = 48 := by omega
          subst this
          have hg := row_arr hrow
          have hg2 := row_arr (F := fun _ => 0) hres
          go_wp2_with (first | (refine wpList_load_row rfl 52 (.tmp 3) rfl (w.heap.size + 1) rfl 52 _ (0, 0) _ hg Tryd.underlying52 rfl (by rw [arr_size]; exact size43) ?_) | (refine wpList_store_row rfl 52 (.tmp 2) (.tmp 89) rfl w.heap.size _ rfl rfl 52 _ hg2 (by rw [arr_size]; exact size43) (by rw [arr_size, arr_size]) (arr_all _ _) ?_))
          refine bodyPost_ret (v := .agg (arr 64 (wordsOf bs))) (results_cell_row (p := 2) (ty := 52) Tryd.results34 _ _ w.heap.size 52 _ (0, 0) _ rfl (setRow_heap _ _ _ _ _ _ hg2) Tryd.underlying52 rfl (by rw [arr_size]; exact size43)) rfl ⟨rfl, ?_⟩
          exact below_setRow hbel (Nat.le_refl _) _
end Go.Proofs.YteldgklcfemenaaDoor.Sh
