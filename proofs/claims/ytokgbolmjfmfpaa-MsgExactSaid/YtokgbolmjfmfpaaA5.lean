/- Walk of msg.Unlike: a sorted copy has two alike side by side just if two are alike. -/
import Derived.Test.YtokgbolmjfmfpaaA4
import Derived.Test.YtokgbolmjfmfpaaShelf
import Derived.Sort.WalkC
import Derived.Lib.RowBridge
namespace Go.Proofs.Ytokgbolmjfmfpaa
open Go.RowKit

/-- The first n numbers. -/
def lst (F : Nat → Int) (n : Nat) : List Int := (List.range n).map F
theorem lst_length (F : Nat → Int) (n : Nat) : (lst F n).length = n := by simp [lst]
theorem lst_getD (F : Nat → Int) (n i : Nat) (h : i < n) : (lst F n).getD i 0 = F i := by simp [lst, List.getD, h]
theorem lst_vL (F : Nat → Int) (n : Nat) : (lst F n).map (Value.int .i64) = vL .i64 F n := by simp [lst, vL]
theorem nodup_lst (F : Nat → Int) (n : Nat) : (lst F n).Nodup ↔ Unl F n := by
  unfold lst Unl
  rw [List.Nodup, List.pairwise_map, List.pairwise_iff_getElem]
  constructor
  · intro h i hi j hj
    have := h j i (by simp; omega) (by simp; omega) hj
    simpa using this
  · intro h i j hi hj hij
    simp at hi hj
    simpa using h j hj i hij
/-- The sorted numbers. -/
def srt (F : Nat → Int) (n : Nat) : List Int := (lst F n).mergeSort fun x y => decide (x ≤ y)
theorem srt_length (F : Nat → Int) (n : Nat) : (srt F n).length = n := by rw [srt, List.length_mergeSort, lst_length]
theorem srt_perm (F : Nat → Int) (n : Nat) : (srt F n).Perm (lst F n) := List.mergeSort_perm _ _
theorem srt_pair (F : Nat → Int) (n : Nat) : (srt F n).Pairwise (fun x y => x ≤ y) := by
  have := List.pairwise_mergeSort (le := fun (x y : Int) => decide (x ≤ y)) (by intro a b c h1 h2; simp at *; omega) (by intro a b; simp; omega) (lst F n)
  exact this.imp (by intro a b h; simpa using h)
theorem srt_side (F : Nat → Int) (n : Nat) : Unl F n ↔ ∀ i, i + 1 < n → (srt F n).getD (i + 1) 0 ≠ (srt F n).getD i 0 := by
  rw [← nodup_lst, ← (srt_perm F n).nodup_iff]
  have hp := srt_pair F n
  have hl := srt_length F n
  generalize srt F n = L at *
  subst hl
  rw [List.Nodup, List.pairwise_iff_getElem]
  rw [List.pairwise_iff_getElem] at hp
  constructor
  · intro h i hi e
    have h1 := h i (i + 1) (by omega) hi (by omega)
    simp [List.getD, hi, show i < L.length by omega] at e
    exact h1 e.symm
  · intro h i j hi hj hij e
    have h1 := h i (by omega)
    simp [List.getD, show i + 1 < L.length by omega, hi] at h1
    have h2 := hp i (i + 1) hi (by omega) (by omega)
    by_cases hj2 : j = i + 1
    · subst hj2
      exact h1 e.symm
    · have h3 := hp (i + 1) j (by omega) hj (by omega)
      omega
theorem clone_sl (F : Nat → Int) (v : Value) (n : Nat) (w : World) (hv : Sl .i64 w v n F) (hn : n ≤ 1000000) :
    Calls Try.prog 29 #[v] w fun e w' => ∃ q c, e = .returned (.slice q n c) ∧ w'.ownsRow w.heap.size 3 1 (.slice q n c) n (vL .i64 F n) ∧ Below w.heap.size w w' := by
  rcases hv with ⟨rfl, rfl | ⟨x, cap, rfl, hc⟩⟩ | ⟨b, off, cap, rfl, hle, hcap, hb, hcell⟩
  · refine (Try.slices_Clone_int_nil 0 0 w).mono ?_
    rintro e w' ⟨rfl, rfl⟩
    exact ⟨_, _, rfl, World.ownsRow_nil _ _ _ _, Below.refl _ _⟩
  · refine (Try.slices_Clone_int_zero x cap w).mono ?_
    rintro e w' ⟨v', rfl, o, _, b⟩
    obtain ⟨q, c, rfl⟩ := owns_shape o
    exact ⟨q, c, rfl, o, b⟩
  · refine (Try.slices_Clone_int b off n cap (lst F n) w (by rw [lst_length]; exact Nat.le_refl _) (by omega) (fun j hj => ?_)).mono ?_
    · rw [lst_length] at hj
      rw [hcell j hj, lst_getD F n j hj]
    · rintro e w' ⟨v', rfl, o, _, b⟩
      rw [List.take_of_length_le (by rw [lst_length]; exact Nat.le_refl _), lst_vL] at o
      obtain ⟨q, c, rfl⟩ := owns_shape o
      exact ⟨q, c, rfl, o, b⟩
open Go.Sort in
theorem sort_own (F : Nat → Int) (q : Option Addr) (c n B : Nat) (w : World) (ho : w.ownsRow B 3 1 (.slice q n c) n (vL .i64 F n)) (hn : n ≤ 1000000) :
    Calls Try.prog 30 #[.slice q n c] w fun e w' => e = .returned (.tuple #[]) ∧ Sl .i64 w' (.slice q n c) n (fun i => (srt F n).getD i 0) ∧ Below B w w' := by
  rcases ho.2 with ⟨h1, rfl⟩ | ⟨g, cap, cur, h1, hB, hg, hc1, hc2, _, _⟩
  · cases h1
    refine (Try.slices_Sort_int_none none 0 w).mono ?_
    rintro e w' ⟨rfl, rfl⟩
    exact ⟨rfl, .inl ⟨rfl, .inl rfl⟩, Below.refl _ _⟩
  · cases h1
    have hlt : g < w.heap.size := (Array.getElem?_eq_some_iff.1 hg).1
    have hl : (lst F n).toArray.size = n := by simp [lst_length]
    have hH : Holds (Value.int .i64) w g 0 (lst F n).toArray := by
      intro j hj
      rw [hl] at hj
      refine ⟨?_, ?_⟩
      · rw [Nat.zero_add, ho.cellAt j (by omega), vL_get .i64 F n j hj]
        simp [lst, hj]
      · exact ho.frozenAt (0 + j)
    have hs : (srt F n).toArray.size = (lst F n).toArray.size := by simp [srt_length, lst_length]
    have h := Try.slices_Sort_int g 0 c (lst F n) w hH hlt (by rw [lst_length]; omega)
    rw [lst_length] at h
    refine h.mono ?_
    rintro e w' ⟨rfl, m, os, rfl⟩
    refine ⟨rfl, .inr ⟨g, 0, c, rfl, hc1, hc2, by simp; omega, fun i hi => ?_⟩, ?_⟩
    · have hp := holds_putRow (Value.int .i64) (Sort.ahead w m) g 0 _ (srt F n).toArray (holds_ahead _ w m g 0 _ hH) hs
      have hq := holds_grow (Value.int .i64) _ os g 0 _ (by simp; exact hlt) hp
      have := (hq i (by simp [srt_length]; exact hi)).1
      refine this.trans ?_
      have hi2 : i < (srt F n).length := by rw [srt_length]; exact hi
      simp [List.getD, hi2]
    · refine ⟨rfl, rfl, rfl, by simp, fun k hk => ?_⟩
      have hk2 : k < w.heap.size := by omega
      rw [heap_grow_old _ _ (by simp; exact hk2)]
      unfold putRow mapBlock
      rw [Array.getElem?_modify, if_neg (by omega)]
      rfl
set_option maxRecDepth 100000 in
set_option maxHeartbeats 1000000 in
theorem unlike_any (F : Nat → Int) (v : Value) (n : Nat) (w : World) (hv : Sl .i64 w v n F) (hn : n ≤ 1000000) :
    Calls Try.prog 13 #[v] w fun e w' => e = .returned (.bool (unB F n)) ∧ Below w.heap.size w w' := by
  have c1 := hide (clone_sl F v n w hv hn)
  clear hv
  go_enter Try.func13, Try.ntmps13
  go_wp2_with (first
    | (go_at_call 29; refine (unhide c1).mono ?_; rintro e w1 ⟨q, c, rfl, o1, b1⟩; have O1 := hide o1; have B1 := hide b1; clear o1 b1)
    | (go_at_call 30; refine (sort_own F q c n w.heap.size _ (unhide O1) hn).mono ?_; rintro e w2 ⟨rfl, s2, b2⟩; have S2 := hide s2; have B2 := hide ((unhide B1).trans b2); clear s2 b2))
  obtain ⟨p, cap, hpc, hc1, hc2⟩ := (unhide S2).shape
  cases hpc
  unfold maxLen at hc2
  have i0 : ((0 : Nat) : Int) = 0 := rfl
  go_loopw [4] (fun xi w3 => ∃ k : Nat, (k + 1 ≤ n ∨ k = 0) ∧ xi = .int .i64 ((k : Int) + 1) ∧ (∀ i, i < k → (srt F n).getD (i + 1) 0 ≠ (srt F n).getD i 0) ∧ ∃ m, w3 = w2.drewN m) (fun i _ => n - (intOf i).toNat)
  case atStart => exact ⟨0, .inr rfl, by simp, fun i hi => by omega, 0, rfl⟩
  case round =>
    obtain ⟨k, hk, rfl, hall, m, hW⟩ := hrel
    have HL := hide hall
    clear hall
    by_cases hlt : k + 1 < n
    · obtain ⟨b, off, rfl, _, hc⟩ := (unhide S2).some (by omega)
      have c1 : wr.cell? ⟨b, off + (k + 1), none⟩ = some (.int .i64 ((srt F n).getD (k + 1) 0)) := by rw [hW]; exact hc (k + 1) hlt
      have c2 : wr.cell? ⟨b, off + k, none⟩ = some (.int .i64 ((srt F n).getD k 0)) := by rw [hW]; exact hc k (by omega)
      have HW := hide hW
      clear hW hc
      generalize hx : (srt F n).getD (k + 1) 0 = x at *
      generalize hy : (srt F n).getD k 0 = y at *
      have HX := hide hx
      have HY := hide hy
      clear hx hy
      by_cases e : x = y
      · have d1 : (x == y) = true := by simp [e]
        have HE := hide e
        clear e
        go_wp2
        go_quiet (fail)
        go_wp2
        go_ret
        refine ⟨?_, ?_⟩
        · rw [unB, decide_eq_false (fun q => (srt_side F n).1 q k hlt (by rw [unhide HX, unhide HY]; exact unhide HE))]
          rfl
        · rw [unhide HW]
          exact below_drewN (below_drewN (unhide B2) m) nq
      · have d1 : (x == y) = false := by simp [e]
        have HE := hide e
        clear e
        go_wp2
        go_quiet (fail)
        go_wp2
        go_roundw
        case rel =>
          refine ⟨k + 1, .inl (by omega), by go_num, fun i hi => ?_, m + nq, by rw [unhide HW, World.drewN_drewN]⟩
          by_cases e : i = k
          · rw [e, unhide HX, unhide HY]; exact unhide HE
          · exact unhide HL i (by omega)
        case measure => simp [intOf]; omega
    · subst hW
      go_wp2
      go_ret
      refine ⟨?_, below_drewN (unhide B2) m⟩
      rw [unB, decide_eq_true ((srt_side F n).2 fun i hi => unhide HL i (by omega))]
      rfl
end Go.Proofs.Ytokgbolmjfmfpaa
