/- Walk of slices.Insert of one kid into a row of the call's own. -/
import Derived.Test.YtgglnhnokhpnpaaDoorJ6
namespace Go.Proofs.YtgglnhnokhpnpaaDoor
open Go.RowKit

set_option maxHeartbeats 1000000 in
theorem insert_end (M : List Kd) (v : Value) (B : Nat) (x1 x2 x3 : Int) (w : World) (ho : KO w B v M) (hB : B ≤ w.heap.size) (hl : M.length ≤ 1000) :
    Calls Tryd.prog 38 #[v, .int .i64 M.length, .slice (some ⟨w.heap.size, 0, none⟩) 1 1] (w.alloc (.cells #[.int .i64 x1, .int .i64 x2, .int .i64 x3] 45)) fun e w' => ∃ v', e = .returned v' ∧ KO w' B v' (put M M.length (x1, x2, x3)) ∧ Below B w w' := by
  rw [put_end]
  have hb1 : Below B w (w.alloc (.cells #[.int .i64 x1, .int .i64 x2, .int .i64 x3] 45)) := (Below.refl _ _).alloc hB _
  have HO := hide (ho.below ((Below.refl w.heap.size w).alloc (Nat.le_refl _) (.cells #[.int .i64 x1, .int .i64 x2, .int .i64 x3] 45)) (Nat.le_refl _))
  have HX := hide (kl_lit' w x1 x2 x3 _ rfl)
  have HB := hide hb1
  have LN := hide (show M.length ≤ 1000000 by omega)
  have HS := hide (show B ≤ (w.alloc (.cells #[.int .i64 x1, .int .i64 x2, .int .i64 x3] 45)).heap.size from Nat.le_trans hB hb1.size)
  rcases id ho.2 with ⟨rfl, h0⟩ | ⟨g, cap, cur, rfl, hbg, hg, hc, hm, hs, ht⟩
  · obtain rfl : M = [] := List.length_eq_zero_iff.1 h0
    clear ho hb1 h0
    simp only [List.length_nil]
    go_enter Tryd.func38, Tryd.ntmps38
    go_wp2_with (at_builtin; refine wpList_addK (by simp [Region.wanted]) _ _ rfl B _ _ [] [(x1, x2, x3)] rfl (unhide HO) rfl (unhide HX) (unhide LN) (by simp) (unhide HS) ?_; intro v4 w4 o4 b4; have O4 := hide o4; have B4 := hide ((unhide HB).trans b4); clear o4 b4)
    go_ret
    exact ⟨_, rfl, unhide O4, unhide B4⟩
  · unfold maxLen at hm
    obtain ⟨n, hn⟩ : ∃ n, M.length = n := ⟨_, rfl⟩
    rw [hn] at HO hc ⊢
    clear ho hb1 hg ht hs hn hl
    go_enter Tryd.func38, Tryd.ntmps38
    go_wp2_with (at_builtin; refine wpList_addK (by simp [Region.wanted]) _ _ rfl B _ _ M [(x1, x2, x3)] rfl (unhide HO) rfl (unhide HX) (unhide LN) (by simp) (unhide HS) ?_; intro v4 w4 o4 b4; have O4 := hide o4; have B4 := hide ((unhide HB).trans b4); clear o4 b4)
    all_goals go_ret
    all_goals exact ⟨_, rfl, unhide O4, unhide B4⟩
set_option maxRecDepth 100000 in
set_option maxHeartbeats 2000000 in
theorem insert_room (M : List Kd) (g n cap a : Nat) (cur : Array Value) (B : Nat) (x1 x2 x3 : Int) (w : World) (hn : M.length = n) (hbg : B ≤ g) (hg : w.heap[g]? = some (.cells cur 45 (0, 0))) (hc : n + 1 ≤ cap) (hm : cap ≤ maxLen) (hs : cur.size = cap * 3) (ht : cur.toList.take (n * 3) = fl M) (ha : a < n) (hl : n ≤ 1000) :
    Calls Tryd.prog 38 #[.slice (some ⟨g, 0, none⟩) n cap, .int .i64 a, .slice (some ⟨w.heap.size, 0, none⟩) 1 1] (w.alloc (.cells #[.int .i64 x1, .int .i64 x2, .int .i64 x3] 45)) fun e w' => ∃ v', e = .returned v' ∧ KO w' B v' (put M a (x1, x2, x3)) ∧ Below B w w' := by
  unfold maxLen at hm
  have hgw : g < w.heap.size := (Array.getElem?_eq_some_iff.1 hg).1
  have hcl : cur.toList.length = cap * 3 := by rw [Array.length_toList, hs]
  have hf : (fl M).length = n * 3 := by rw [fl_length, hn]
  have hg1 : (w.alloc (.cells #[.int .i64 x1, .int .i64 x2, .int .i64 x3] 45)).heap[g]? = some (.cells cur.toList.toArray 45 (0, 0)) := by
    have := ((Below.refl w.heap.size w).alloc (Nat.le_refl _) (.cells #[.int .i64 x1, .int .i64 x2, .int .i64 x3] 45)).block g hgw
    rw [this, hg]
  have hx1 : (w.alloc (.cells #[.int .i64 x1, .int .i64 x2, .int .i64 x3] 45)).heap[w.heap.size]? = some (.cells #[.int .i64 x1, .int .i64 x2, .int .i64 x3] 45 (0, 0)) := by
    show (w.heap.push _)[w.heap.size]? = _
    simp
  have over := over_no (w := w.alloc (.cells #[.int .i64 x1, .int .i64 x2, .int .i64 x3] 45)) ⟨w.heap.size, 0, none⟩ ⟨g, (a + 1) * 3, none⟩ 1 1 (n - a) (cap - (a + 1)) (by show w.heap.size ≠ g; omega) 45 45 3 (cap * 3) (by unfold World.shape?; rw [hx1]; rfl) (by simp [World.shape?, hg1, hs]) (by omega) (frozen_of_row _ _ 0 _ 45 hx1) (frozen_of_row _ _ 3 _ 45 hx1)
  have HG := hide hg1
  have HN1 := hide (show ((fl M).drop (a * 3)).length = Nat.min (n + 1 - a) (n - a) * 3 by
    rw [show Nat.min (n + 1 - a) (n - a) = n - a from Nat.min_eq_right (by omega), List.length_drop, hf]; omega)
  have HF1 := hide (show (a + 1) * 3 + ((fl M).drop (a * 3)).length ≤ cur.toList.length by rw [List.length_drop, hf, Array.length_toList, hs]; omega)
  have HO1 := hide (show ∀ v ∈ (fl M).drop (a * 3), v.oneCell' = true from fun v hv => fl_one M v (List.mem_of_mem_drop hv))
  have HS1 := hide (show ∀ j u, ((fl M).drop (a * 3))[j]? = some u → (w.alloc (.cells #[.int .i64 x1, .int .i64 x2, .int .i64 x3] 45)).cell? ((⟨g, a * 3, none⟩ : Addr).add j) = some u from fun j u hu => by
    rw [Addr.add_lit, cell_of_row _ g _ _ 45 (0, 0) hg1]
    rw [List.getElem?_drop, ← ht, List.getElem?_take] at hu
    split at hu
    · simpa using hu
    · cases hu)
  have HXs := hide (show ∀ j u, [Value.int .i64 x1, .int .i64 x2, .int .i64 x3][j]? = some u → (w.alloc (.cells #[.int .i64 x1, .int .i64 x2, .int .i64 x3] 45)).cell? ((⟨w.heap.size, 0, none⟩ : Addr).add j) = some u from fun j u hu => cells_lit w _ 45 j u hu)
  clear hg hg1 hx1
  generalize hw1 : w.alloc (.cells #[.int .i64 x1, .int .i64 x2, .int .i64 x3] 45) = w1 at *
  go_enter Tryd.func38, Tryd.ntmps38
  go_wp2
  have hwr : IntKind.i64.wrap ((a : Int) + 1) = (a : Int) + 1 := by rw [IntWalk.i64_left, IntWalk.wrap64_in _ (by omega)]
  have htn : ((a : Int) + 1).toNat = a + 1 := by omega
  have h1 : (0 : Int) ≤ (a : Int) + 1 := by omega
  have h2 : (a : Int) + 1 ≤ (n : Int) + 1 := by omega
  have h3 : ¬ cap = a + 1 := by omega
  have h4 : ¬ cap = a := by omega
  have h5 : (a : Int) ≤ (n : Int) + 1 := by omega
  have h6 : n + 1 - (a + 1) = n - a := by omega
  have h7 : (a : Int) ≤ (n : Int) := by omega
  have HGd : Hid (w1.drew.heap[g]? = some (.cells cur.toList.toArray 45 (0, 0))) := HG
  have HSd : Hid (∀ j u, ((fl M).drop (a * 3))[j]? = some u → w1.drew.cell? ((⟨g, a * 3, none⟩ : Addr).add j) = some u) := HS1
  go_region_law (refine step_copy3 rfl (.tmp 73) (.tmp 76) rfl g ((a + 1) * 3) (n - a) (cap - (a + 1)) ⟨g, a * 3, none⟩ (n + 1 - a) (cap - a) (by simp [Act.eval, Act.put]) (by simp [Act.eval, Act.put]) cur.toList ((fl M).drop (a * 3)) (unhide HGd) (unhide HN1) (unhide HSd) (unhide HF1) (unhide HO1) ?_; intro w4 hg4 hb4; have HG4 := hide hg4; have HB4 := hide hb4; clear hg4 hb4)
  have HXc : Hid (∀ j u, [Value.int .i64 x1, .int .i64 x2, .int .i64 x3][j]? = some u → w4.cell? ((⟨w.heap.size, 0, none⟩ : Addr).add j) = some u) := hide fun j u hu => by
    refine (unhide HB4).cell ?_ (by rw [Addr.add_lit]; intro e; have e2 : w.heap.size = g := Option.some.inj e; omega)
    exact unhide HXs j u hu
  have HF2 := hide (show a * 3 + [Value.int .i64 x1, .int .i64 x2, .int .i64 x3].length ≤ (splice cur.toList ((a + 1) * 3) ((fl M).drop (a * 3))).length by
    rw [splice_len _ _ _ (unhide HF1), hcl]; simp only [List.length_cons, List.length_nil]; omega)
  have HN2 := hide (show [Value.int .i64 x1, .int .i64 x2, .int .i64 x3].length = Nat.min 1 (n + 1 - a) * 3 by
    rw [show Nat.min 1 (n + 1 - a) = 1 from Nat.min_eq_left (by omega)]; rfl)
  have HO2 := hide (show ∀ v ∈ [Value.int .i64 x1, .int .i64 x2, .int .i64 x3], v.oneCell' = true from fun v hv => by simp at hv; rcases hv with rfl | rfl | rfl <;> rfl)
  go_wp2_with ((with_reducible show wpList _ _ _ (Oper.mk (some 82) _ _ _ _ _ :: _) _ _); refine wpList_copy3 rfl (.tmp 80) (.tmp 81) rfl g (a * 3) (n + 1 - a) (cap - a) ⟨w.heap.size, 0, none⟩ 1 1 rfl rfl _ _ (unhide HG4) (unhide HN2) (unhide HXc) (unhide HF2) (unhide HO2) ?_; intro w5 hg5 hb5; have HG5 := hide hg5; have HB5 := hide hb5; clear hg5 hb5)
  go_ret
  refine ⟨.slice (some ⟨g, 0, none⟩) (n + 1) cap, rfl, ⟨?_, .inr ⟨g, cap, _, by rw [put_len, hn], hbg, unhide HG5, by rw [put_len, hn]; exact hc, by unfold maxLen; exact hm, ?_, ?_⟩⟩, ?_⟩
  · rw [fl_length]
  · rw [List.size_toArray, splice_len _ _ _ (unhide HF2), splice_len _ _ _ (unhide HF1), Array.length_toList, hs]
  · rw [put_len, hn, fl_put]
    have := splice_room cur.toList (fl M) (c3 (x1, x2, x3)) (a * 3) (n * 3) 3 hf rfl (by omega) (by rw [Array.length_toList, hs]; omega) ht
    rw [show a * 3 + 3 = (a + 1) * 3 by omega, show n * 3 + 3 = (n + 1) * 3 by omega] at this
    exact this
  · have b1 : Below B w w1 := hw1 ▸ (Below.refl B w).alloc (by omega) _
    have b2 : Below B w w1.drew := below_drewN b1 1
    have s1 := b1.size
    have b4 := b2.grown (unhide HB4) (show B ≤ w1.heap.size by omega) (fun k hk => by injection hk with e; omega)
    have s4 := b4.size
    exact b4.grown (unhide HB5) (by omega) (fun k hk => by injection hk with e; omega)
end Go.Proofs.YtgglnhnokhpnpaaDoor
