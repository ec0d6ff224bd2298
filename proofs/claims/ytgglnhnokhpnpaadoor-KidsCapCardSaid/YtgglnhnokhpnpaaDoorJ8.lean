/- Walk of slices.Insert of one kid: the row grows. -/
import Derived.Test.YtgglnhnokhpnpaaDoorJ7
import Derived.Test.YtgglnhnokhpnpaaDoorM1
namespace Go.Proofs.YtgglnhnokhpnpaaDoor
open Go.RowKit

theorem grow_run (w1 : World) (ty : TypeId) (M : List Kd) (g n cap a k : Nat) (cur : Array Value) (hn : M.length = n) (hg : w1.heap[g]? = some (.cells cur 45 (0, 0))) (ht : cur.toList.take (n * 3) = fl M) (ha : a < n) (hk : a + k = n + 1) (hc : cap < n + 1) (hl : n ≤ 1000) :
    ∃ GC w2, ∃ cur0 : List Value, (Builtin.append_ #[22, 3] ty #[.slice (some ⟨g, 0, none⟩) a cap, .int .i64 (k : Nat)]).run Tryd.prog w1 = .ok (.slice (some ⟨w1.heap.size, 0, none⟩) (n + 1) GC) w2 ∧ n + 1 ≤ GC ∧ GC ≤ maxLen ∧ w2.heap[w1.heap.size]? = some (.cells cur0.toArray 45 (0, 0)) ∧ cur0.length = GC * 3 ∧ cur0.take (a * 3) = (fl M).take (a * 3) ∧ Below w1.heap.size w1 w2 := by
  obtain ⟨j, hj, hz0, hz1, hz2⟩ := info_parts info45
  have hf : (fl M).length = n * 3 := by rw [fl_length, hn]
  have hlen : ((fl M).take (a * 3)).length = a * 3 := by rw [List.length_take, hf]; omega
  have hold : (Builtin.firstCells j.size a (.slice (some ⟨g, 0, none⟩) a cap)).run Tryd.prog w1.drew = .ok ((fl M).take (a * 3)).toArray w1.drew := by
    have := run_loadCells_list (P := Tryd.prog) w1.drew ⟨g, 0, none⟩ ((fl M).take (a * 3)) (fun i u hu => by
      rw [Addr.add_lit, cell_of_row w1.drew g _ _ 45 (0, 0) hg]
      rw [List.getElem?_take] at hu
      split at hu
      · rw [← ht, List.getElem?_take] at hu
        split at hu
        · simpa using hu
        · cases hu
      · cases hu)
    rw [hlen] at this
    unfold Builtin.firstCells
    rw [hz1]
    exact this
  have hrun := Lib.run_append_grow_zeros (P := Tryd.prog) w1 22 3 ty 45 j (.agg #[.int .i64 0, .int .i64 0, .int .i64 0]) .i64 .i64 Tryd.underlying22 Tryd.underlying3 hj hz0 (some ⟨g, 0, none⟩) a cap ((fl M).take (a * 3)) hold k (by omega) (by rw [hz1]; decide) (by omega) (by omega) (by rw [hz2]; omega) (by rw [hz2]; exact growslice_fits (by omega) (by omega))
  rw [hk] at hrun
  have hge := grownCap_ge w1 (n + 1) cap 45
  have hle := grownCap_le_maxLen w1 (n + 1) cap 45 (by unfold maxLen; omega)
  generalize grownCap w1 (n + 1) cap 45 = GC at *
  refine ⟨GC, _, (((fl M).take (a * 3)).toArray ++ Builtin.zeroCells (Value.cells (.agg #[.int .i64 0, .int .i64 0, .int .i64 0])) k ++ Builtin.zeroCells (Value.cells (.agg #[.int .i64 0, .int .i64 0, .int .i64 0])) (GC - (n + 1))).toList, hrun, hge, hle, ?_, ?_, ?_, ?_⟩
  · show (w1.heap.push _)[w1.heap.size]? = _
    simp
  · have hzs : (Value.cells (.agg #[.int .i64 0, .int .i64 0, .int .i64 0])).size = 3 := rfl
    simp only [Array.length_toList, Array.size_append, List.size_toArray, size_zeroCells, hzs, hlen]
    omega
  · simp only [Array.toList_append, List.append_assoc]
    rw [List.take_append_of_le_length (by rw [hlen]; exact Nat.le_refl _), List.take_of_length_le (by rw [hlen]; exact Nat.le_refl _)]
  · exact (below_drewN (Below.refl w1.heap.size w1) 1).alloc (Nat.le_refl _) _
set_option maxRecDepth 100000 in
set_option maxHeartbeats 2000000 in
theorem insert_grow (M : List Kd) (g n cap a : Nat) (cur : Array Value) (B : Nat) (x1 x2 x3 : Int) (w : World) (hn : M.length = n) (hbg : B ≤ g) (hg : w.heap[g]? = some (.cells cur 45 (0, 0))) (hc0 : n ≤ cap) (hc : cap < n + 1) (ht : cur.toList.take (n * 3) = fl M) (ha : a < n) (hl : n ≤ 1000) :
    Calls Tryd.prog 38 #[.slice (some ⟨g, 0, none⟩) n cap, .int .i64 a, .slice (some ⟨w.heap.size, 0, none⟩) 1 1] (w.alloc (.cells #[.int .i64 x1, .int .i64 x2, .int .i64 x3] 45)) fun e w' => ∃ v', e = .returned v' ∧ KO w' B v' (put M a (x1, x2, x3)) ∧ Below B w w' := by
  have hgw : g < w.heap.size := (Array.getElem?_eq_some_iff.1 hg).1
  have hf : (fl M).length = n * 3 := by rw [fl_length, hn]
  have hf2 : ((fl M).drop (a * 3)).length = (n - a) * 3 := by rw [List.length_drop, hf]; omega
  have hg1 : (w.alloc (.cells #[.int .i64 x1, .int .i64 x2, .int .i64 x3] 45)).heap[g]? = some (.cells cur 45 (0, 0)) := by
    have := ((Below.refl w.heap.size w).alloc (Nat.le_refl _) (.cells #[.int .i64 x1, .int .i64 x2, .int .i64 x3] 45)).block g hgw
    rw [this, hg]
  have HXs := hide (show ∀ j u, [Value.int .i64 x1, .int .i64 x2, .int .i64 x3][j]? = some u → (w.alloc (.cells #[.int .i64 x1, .int .i64 x2, .int .i64 x3] 45)).cell? ((⟨w.heap.size, 0, none⟩ : Addr).add j) = some u from fun j u hu => cells_lit w _ 45 j u hu)
  have HS1 := hide (show ∀ j u, ((fl M).drop (a * 3))[j]? = some u → (w.alloc (.cells #[.int .i64 x1, .int .i64 x2, .int .i64 x3] 45)).cell? ((⟨g, a * 3, none⟩ : Addr).add j) = some u from fun j u hu => by
    rw [Addr.add_lit, cell_of_row _ g _ _ 45 (0, 0) hg1]
    rw [List.getElem?_drop, ← ht, List.getElem?_take] at hu
    split at hu
    · simpa using hu
    · cases hu)
  have HO1 := hide (show ∀ v ∈ (fl M).drop (a * 3), v.oneCell' = true from fun v hv => fl_one M v (List.mem_of_mem_drop hv))
  have HO2 := hide (show ∀ v ∈ [Value.int .i64 x1, .int .i64 x2, .int .i64 x3], v.oneCell' = true from fun v hv => by simp at hv; rcases hv with rfl | rfl | rfl <;> rfl)
  have hs1 : (w.alloc (.cells #[.int .i64 x1, .int .i64 x2, .int .i64 x3] 45)).heap.size = w.heap.size + 1 := by simp
  have HB1 : Hid (Below B w (w.alloc (.cells #[.int .i64 x1, .int .i64 x2, .int .i64 x3] 45))) := hide ((Below.refl _ _).alloc (by omega) _)
  obtain ⟨k, hk⟩ : ∃ k, a + k = n + 1 := ⟨n + 1 - a, by omega⟩
  have hkI : (n : Int) + 1 - (a : Int) = (k : Int) := by omega
  have HR := hide (fun ty => grow_run (w.alloc (.cells #[.int .i64 x1, .int .i64 x2, .int .i64 x3] 45)) ty M g n cap a k cur hn hg1 ht ha hk hc hl)
  obtain ⟨G, hs2⟩ : ∃ G, G = w.heap.size + 1 := ⟨_, rfl⟩
  rw [← hs2] at hs1
  rw [hs1] at HR
  have hwG : w.heap.size < G := by omega
  clear hg hg1 ht hs2
  generalize w.alloc (.cells #[.int .i64 x1, .int .i64 x2, .int .i64 x3] 45) = w1 at *
  have hwr : IntKind.i64.wrap ((a : Int) + 1) = (a : Int) + 1 := by rw [IntWalk.i64_left, IntWalk.wrap64_in _ (by omega)]
  have htn : ((a : Int) + 1).toNat = a + 1 := by omega
  have h1 : (0 : Int) ≤ (a : Int) + 1 := by omega
  have h2 : (a : Int) + 1 ≤ (n : Int) + 1 := by omega
  have h5 : (a : Int) ≤ (n : Int) + 1 := by omega
  have h6 : n + 1 - (a + 1) = n - a := by omega
  have h7 : (a : Int) ≤ (n : Int) := by omega
  go_enter Tryd.func38, Tryd.ntmps38
  go_upto_region 10 with (at_builtin; obtain ⟨GC, w2, cur0, hr, hGC, hGm, hg2, hcl, hct, hb2⟩ := unhide HR _; refine Lib.wpList_append_run _ rfl (.tmp 34) (.tmp 39) 22 3 rfl _ _ rfl rfl _ _ hr ?_; have HG2 := hide hg2; have HB2 := hide hb2; have HCT := hide hct; have HCL := hide hcl; unfold maxLen at hGm; clear hr hg2 hb2 hct hcl)
  have HX2 := hide (show ∀ j u, [Value.int .i64 x1, .int .i64 x2, .int .i64 x3][j]? = some u → w2.cell? ((⟨w.heap.size, 0, none⟩ : Addr).add j) = some u from fun j u hu => by
    have := unhide HXs j u hu
    rw [Addr.add_lit] at this ⊢
    exact ((unhide HB2).cell (p := ⟨w.heap.size, 0 + j, none⟩) (by show w.heap.size < G; omega)).trans this)
  have HS2 := hide (show ∀ j u, ((fl M).drop (a * 3))[j]? = some u → w2.cell? ((⟨g, a * 3, none⟩ : Addr).add j) = some u from fun j u hu => by
    have := unhide HS1 j u hu
    rw [Addr.add_lit] at this ⊢
    exact ((unhide HB2).cell (p := ⟨g, a * 3 + j, none⟩) (by show g < G; omega)).trans this)
  have HF2 := hide (show a * 3 + [Value.int .i64 x1, .int .i64 x2, .int .i64 x3].length ≤ cur0.length by
    rw [unhide HCL]; simp only [List.length_cons, List.length_nil]; omega)
  have HN2 := hide (show [Value.int .i64 x1, .int .i64 x2, .int .i64 x3].length = Nat.min 1 (n + 1 - a) * 3 by
    rw [show Nat.min 1 (n + 1 - a) = 1 from Nat.min_eq_left (by omega)]; rfl)
  have h3 : ¬ GC = a + 1 := by omega
  have h4 : ¬ GC = a := by omega
  have h8 : ¬ cap = a := by omega
  have h9 : G ≠ g := by omega
  go_upto_region 11 with ((with_reducible show wpList _ _ _ (Oper.mk (some 45) _ _ _ _ _ :: _) _ _); refine wpList_copy3 rfl (.tmp 43) (.tmp 44) rfl G (a * 3) (n + 1 - a) (GC - a) ⟨w.heap.size, 0, none⟩ 1 1 rfl rfl _ _ (unhide HG2) (unhide HN2) (unhide HX2) (unhide HF2) (unhide HO2) ?_; intro w4 hg4 hb4; have HG4 := hide hg4; have HB4 := hide hb4; clear hg4 hb4)
  have HGd : Hid (w4.drew.heap[G]? = some (.cells (splice cur0 (a * 3) [Value.int .i64 x1, .int .i64 x2, .int .i64 x3]).toArray 45 (0, 0))) := HG4
  have HSd : Hid (∀ j u, ((fl M).drop (a * 3))[j]? = some u → w4.drew.cell? ((⟨g, a * 3, none⟩ : Addr).add j) = some u) := hide fun j u hu => by
    refine ((unhide HB4).cell (unhide HS2 j u hu) ?_ :)
    rw [Addr.add_lit]
    intro e
    exact h9 (Option.some.inj e).symm
  have HF4 := hide (show (a + 1) * 3 + ((fl M).drop (a * 3)).length ≤ (splice cur0 (a * 3) [Value.int .i64 x1, .int .i64 x2, .int .i64 x3]).length by
    rw [splice_len _ _ _ (unhide HF2), unhide HCL, hf2]; omega)
  have HN4 := hide (show ((fl M).drop (a * 3)).length = Nat.min (n - a) (n - a) * 3 by
    rw [show Nat.min (n - a) (n - a) = n - a from Nat.min_self _, hf2])
  go_region_law (refine step_copy3 rfl (.tmp 50) (.tmp 53) rfl G ((a + 1) * 3) (n - a) (GC - (a + 1)) ⟨g, a * 3, none⟩ (n - a) (cap - a) (by simp [Act.eval, Act.put]) (by simp [Act.eval, Act.put]) _ _ (unhide HGd) (unhide HN4) (unhide HSd) (unhide HF4) (unhide HO1) ?_; intro w5 hg5 hb5; have HG5 := hide hg5; have HB5 := hide hb5; clear hg5 hb5)
  go_wp2
  go_ret
  refine ⟨.slice (some ⟨G, 0, none⟩) (n + 1) GC, rfl, ⟨?_, .inr ⟨G, GC, _, by rw [put_len, hn], by omega, unhide HG5, by rw [put_len, hn]; exact hGC, by unfold maxLen; exact hGm, ?_, ?_⟩⟩, ?_⟩
  · rw [fl_length]
  · rw [List.size_toArray, splice_len _ _ _ (unhide HF4), splice_len _ _ _ (unhide HF2), unhide HCL]
  · rw [put_len, hn, fl_put]
    have := splice_grow cur0 (fl M) (c3 (x1, x2, x3)) (a * 3) (n * 3) 3 hf rfl (by omega) (by rw [unhide HCL]; omega) (unhide HCT)
    rw [show a * 3 + 3 = (a + 1) * 3 by omega, show n * 3 + 3 = (n + 1) * 3 by omega] at this
    exact this
  · have s1 := (unhide HB1).size
    have b2 := (unhide HB1).trans ((unhide HB2).mono (show B ≤ G by omega))
    have s2 := b2.size
    have b4 := b2.grown (unhide HB4) (by omega) (fun k hk => by injection hk with e; omega)
    have s4 := b4.size
    have b5 := below_drewN b4 1
    exact b5.grown (unhide HB5) (show B ≤ w4.heap.size by omega) (fun k hk => by injection hk with e; omega)
end Go.Proofs.YtgglnhnokhpnpaaDoor
