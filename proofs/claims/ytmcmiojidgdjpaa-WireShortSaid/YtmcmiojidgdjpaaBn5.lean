/- Walks of fewNodes and of the page's nodes. Walk of the page's Unlike. Walk of msg.Unlike: a sorted copy has two alike side by side just if two are alike. Walk of listsRight. Walk of keep.Ints. Walks of the page's Open; both Opens of the same bytes. What the rows of this seat want. Messages and slices that came in. Bytes that came in; an array of four bytes. -/
import Derived.Test.YtmcmiojidgdjpaaBn2
import Derived.Test.YtmcmiojidgdjpaaBn1
import Derived.Sort.WalkC
import Derived.Lib.RowBridge
import Derived.Test.YtmcmiojidgdjpaaBn3
import Derived.Test.YtmcmiojidgdjpaaBn4
import Derived.Deep.DeepHandedRow
import Derived.ShutString
import Derived.ChangeOld
import Derived.ChangeSlices
import Derived.ProofKit
import Derived.OpenShut
import Derived.JoinedOf
import Derived.Carry
namespace Go.Proofs.Ytmcmiojidgdjpaa
open Go.RowKit

/-- At most eight numbers, all nodes. -/
def fewB (F : Nat → Int) (n : Nat) : Bool := decide (n ≤ 8 ∧ ∀ i, i < n → 0 ≤ F i ∧ F i ≤ 7)
theorem few_any (F : Nat → Int) (v : Value) (n : Nat) (w : World) (h : Sl .i64 w v n F) :
    Calls Try.prog 59 #[v] w fun e w' => e = .returned (.bool (fewB F n)) ∧ w' = w := by
  obtain ⟨p, cap, rfl, hc1, hc2⟩ := h.shape
  unfold maxLen at hc2
  have H := hide h
  clear h
  by_cases h8 : n ≤ 8
  · have d8 : decide ((8 : Int) < (n : Int)) = false := decide_eq_false (by omega)
    go_enter Try.func59, Try.ntmps59
    go_wp2
    go_loop [10] (fun xi => ∃ k : Nat, k ≤ n ∧ xi = .int .i64 k ∧ ∀ i, i < k → 0 ≤ F i ∧ F i ≤ 7) (fun i => n - (intOf i).toNat)
    case atStart => exact ⟨0, by omega, rfl, fun i hi => by omega⟩
    case round =>
      obtain ⟨k, hk, rfl, hall⟩ := hrel
      by_cases hlt : k < n
      · obtain ⟨b, off, rfl, _, hcell⟩ := (unhide H).some (by omega)
        have hck := hcell k hlt
        clear hcell
        have HA := hide hall
        clear hall
        obtain ⟨x, hx⟩ : ∃ x, x = F k := ⟨_, rfl⟩
        rw [← hx] at hck
        have HX := hide hx
        clear hx
        by_cases h0 : x < 0
        · have d0 : decide (x < 0) = true := decide_eq_true h0
          go_wp2
          go_ret
          refine ⟨?_, rfl⟩
          rw [fewB, decide_eq_false (fun q => by have := q.2 k hlt; rw [← unhide HX] at this; omega)]
          rfl
        · have d0 : decide (x < 0) = false := decide_eq_false h0
          by_cases h7 : 7 < x
          · have d7 : decide (7 < x) = true := decide_eq_true h7
            go_wp2
            go_ret
            refine ⟨?_, rfl⟩
            rw [fewB, decide_eq_false (fun q => by have := q.2 k hlt; rw [← unhide HX] at this; omega)]
            rfl
          · have d7 : decide (7 < x) = false := decide_eq_false h7
            go_wp2
            go_round
            case rel =>
              refine ⟨k + 1, by omega, by go_num, fun i hi => ?_⟩
              by_cases e : i = k
              · rw [e, ← unhide HX]; omega
              · exact unhide HA i (by omega)
            case measure => simp [intOf]; omega
      · have HA := hide hall
        clear hall
        go_wp2
        go_ret
        refine ⟨?_, rfl⟩
        rw [fewB, decide_eq_true ⟨h8, fun i hi => unhide HA i (by omega)⟩]
        rfl
  · have d8 : decide ((8 : Int) < (n : Int)) = true := decide_eq_true (by omega)
    go_enter Try.func59, Try.ntmps59
    go_wp2
    go_ret
    refine ⟨?_, rfl⟩
    rw [fewB, decide_eq_false (fun q => h8 q.1)]
    rfl
theorem nodes_any (F : Nat → Int) (v : Value) (n : Nat) (w : World) (h : Sl .i64 w v n F) :
    Calls Try.prog 34 #[v] w fun e w' => e = .returned (.bool (fewB F n)) ∧ w' = w := by
  obtain ⟨p, cap, rfl, hc1, hc2⟩ := h.shape
  unfold maxLen at hc2
  have H := hide h
  clear h
  go_enter Try.func34, Try.ntmps34
  go_wp2
  go_loop [3] (fun xi => ∃ k : Nat, k ≤ n ∧ xi = .int .i64 k ∧ ∀ i, i < k → 0 ≤ F i ∧ F i ≤ 7) (fun i => n - (intOf i).toNat)
  case atStart => exact ⟨0, by omega, rfl, fun i hi => by omega⟩
  case round =>
    obtain ⟨k, hk, rfl, hall⟩ := hrel
    have HA := hide hall
    clear hall
    by_cases hlt : k < n
    · obtain ⟨b, off, rfl, _, hcell⟩ := (unhide H).some (by omega)
      have hck := hcell k hlt
      clear hcell
      obtain ⟨x, hx⟩ : ∃ x, x = F k := ⟨_, rfl⟩
      rw [← hx] at hck
      have HX := hide hx
      clear hx
      by_cases h0 : 0 ≤ x ∧ x ≤ 7
      · have d0 : decide (0 ≤ x) = true := decide_eq_true h0.1
        have d1 : decide (x ≤ 7) = true := decide_eq_true h0.2
        go_wp2_with (go_at_call 31; refine (isNode_any _ _).mono ?_; rw [d0, d1]; rintro e w1 ⟨rfl, rfl⟩)
        go_round
        case rel =>
          refine ⟨k + 1, by omega, by go_num, fun i hi => ?_⟩
          by_cases e : i = k
          · rw [e, ← unhide HX]; exact h0
          · exact unhide HA i (by omega)
        case measure => simp [intOf]; omega
      · have d0 : (decide (0 ≤ x) && decide (x ≤ 7)) = false := by rw [← Bool.decide_and]; exact decide_eq_false h0
        go_wp2_with (go_at_call 31; refine (isNode_any _ _).mono ?_; rw [d0]; rintro e w1 ⟨rfl, rfl⟩)
        go_ret
        refine ⟨?_, rfl⟩
        rw [fewB, decide_eq_false (fun q => by have := q.2 k hlt; rw [← unhide HX] at this; exact h0 this)]
        rfl
    · go_wp2
      go_ret
      refine ⟨?_, rfl⟩
      have e8 : decide ((n : Int) ≤ 8) = fewB F n := decide_eq_decide.2 ⟨fun q => ⟨by omega, fun i hi => unhide HA i (by omega)⟩, fun q => by have := q.1; omega⟩
      rw [← e8]
      simp
end Go.Proofs.Ytmcmiojidgdjpaa
namespace Go.Proofs.Ytmcmiojidgdjpaa
open Go.RowKit

/-- All numbers are unlike. -/
abbrev Unl (F : Nat → Int) (n : Nat) : Prop := ∀ i, i < n → ∀ j, j < i → F j ≠ F i
def unB (F : Nat → Int) (n : Nat) : Bool := decide (Unl F n)
set_option maxRecDepth 100000 in
set_option maxHeartbeats 1000000 in
theorem runlike_any (F : Nat → Int) (va : Value) (n : Nat) (w : World) (ha : Sl .i64 w va n F) :
    Calls Try.prog 35 #[va] w fun e w' => e = .returned (.bool (unB F n)) ∧ ∃ m, w' = w.drewN m := by
  obtain ⟨pa, ca, rfl, la, ka⟩ := ha.shape
  unfold maxLen at ka
  have HA := hide ha
  clear ha
  go_enter Try.func35, Try.ntmps35
  go_wp2
  go_loopw [3] (fun xi w1 => ∃ k : Nat, k ≤ n ∧ xi = .int .i64 k ∧ Unl F k ∧ ∃ m, w1 = w.drewN m) (fun i _ => n - (intOf i).toNat)
  case atStart => exact ⟨0, by omega, rfl, fun i hi => by omega, 0, rfl⟩
  case round =>
    obtain ⟨k, hk, rfl, hall, m, hW⟩ := hrel
    have HL := hide hall
    clear hall
    by_cases hlt : k < n
    · obtain ⟨ba, oa, rfl, _, hca⟩ := (unhide HA).some (by omega)
      have HC := hide hca
      have HW := hide hW
      clear hW hca
      go_wp2
      go_loopw [4] (fun xi w1 => ∃ l : Nat, l ≤ k ∧ xi = .int .i64 l ∧ (∀ j, j < l → F j ≠ F k) ∧ ∃ m, w1 = w.drewN m) (fun i _ => k - (intOf i).toNat)
      case atStart => exact ⟨0, by omega, rfl, fun i hi => by omega, m, unhide HW⟩
      case round =>
        obtain ⟨l, hl, rfl, hall2, m2, hW2⟩ := hrel
        have HL2 := hide hall2
        clear hall2
        by_cases hlt2 : l < k
        · have c1 : wr.cell? ⟨ba, oa + k, none⟩ = some (.int .i64 (F k)) := by rw [hW2]; exact unhide HC k hlt
          have c2 : wr.cell? ⟨ba, oa + l, none⟩ = some (.int .i64 (F l)) := by rw [hW2]; exact unhide HC l (by omega)
          have HW2 := hide hW2
          clear hW2
          by_cases hx : F l = F k
          · have d1 : (F l == F k) = true := by simp [hx]
            have HX := hide hx
            clear hx
            go_wp2
            go_quiet (fail)
            go_wp2
            go_ret
            refine ⟨?_, m2 + nq, by rw [unhide HW2, World.drewN_drewN]⟩
            rw [unB, decide_eq_false (fun q => q k hlt l hlt2 (unhide HX))]
            rfl
          · have d1 : (F l == F k) = false := by simp [hx]
            have HX := hide hx
            clear hx
            go_wp2
            go_quiet (fail)
            go_wp2
            go_roundw
            case rel =>
              refine ⟨l + 1, by omega, by go_num, fun i hi => ?_, m2 + nq, by rw [unhide HW2, World.drewN_drewN]⟩
              by_cases e : i = l
              · rw [e]; exact unhide HX
              · exact unhide HL2 i (by omega)
            case measure => simp [intOf]; omega
        · go_wp2
          go_roundw
          case rel =>
            refine ⟨k + 1, by omega, by go_num, fun i hi j hj => ?_, m2, by first | exact hW2 | rfl⟩
            by_cases e : i = k
            · rw [e]; exact unhide HL2 j (by omega)
            · exact unhide HL i (by omega) j hj
          case measure => simp [intOf]; omega
    · subst hW
      go_wp2
      go_ret
      refine ⟨?_, m, rfl⟩
      obtain rfl : k = n := by omega
      rw [unB, decide_eq_true (unhide HL)]
      rfl
end Go.Proofs.Ytmcmiojidgdjpaa
namespace Go.Proofs.Ytmcmiojidgdjpaa
open Go.RowKit

/-- The first n numbers. -/
def lst (F : Nat → Int) (n : Nat) : List Int := (List.range n).map F
theorem lst_length (F : Nat → Int) (n : Nat) : (lst F n).length = n := by simp [lst]
theorem lst_getD (F : Nat → Int) (n i : Nat) (h : i < n) : (lst F n).getD i 0 = F i := by simp [lst, List.getD, h]
theorem lst_vL (F : Nat → Int) (n : Nat) : (lst F n).map (Value.int .i64) = vL .i64 F n := by simp [lst, vL]
theorem nodup_lst (F : Nat → Int) (n : Nat) : (lst F n).Nodup ↔ Unl F n := by
  unfold lst Unl
  rw [List.Nodup, List.pairwise_map, List.pairwise_iff_getElem]
  constructor
  · intro h i hi j hj
    have := h j i (by simp; omega) (by simp; omega) hj
    simpa using this
  · intro h i j hi hj hij
    simp at hi hj
    simpa using h j hj i hij
/-- The sorted numbers. -/
def srt (F : Nat → Int) (n : Nat) : List Int := (lst F n).mergeSort fun x y => decide (x ≤ y)
theorem srt_length (F : Nat → Int) (n : Nat) : (srt F n).length = n := by rw [srt, List.length_mergeSort, lst_length]
theorem srt_perm (F : Nat → Int) (n : Nat) : (srt F n).Perm (lst F n) := List.mergeSort_perm _ _
theorem srt_pair (F : Nat → Int) (n : Nat) : (srt F n).Pairwise (fun x y => x ≤ y) := by
  have := List.pairwise_mergeSort (le := fun (x y : Int) => decide (x ≤ y)) (by intro a b c h1 h2; simp at *; omega) (by intro a b; simp; omega) (lst F n)
  exact this.imp (by intro a b h; simpa using h)
theorem srt_side (F : Nat → Int) (n : Nat) : Unl F n ↔ ∀ i, i + 1 < n → (srt F n).getD (i + 1) 0 ≠ (srt F n).getD i 0 := by
  rw [← nodup_lst, ← (srt_perm F n).nodup_iff]
  have hp := srt_pair F n
  have hl := srt_length F n
  generalize srt F n = L at *
  subst hl
  rw [List.Nodup, List.pairwise_iff_getElem]
  rw [List.pairwise_iff_getElem] at hp
  constructor
  · intro h i hi e
    have h1 := h i (i + 1) (by omega) hi (by omega)
    simp [List.getD, hi, show i < L.length by omega] at e
    exact h1 e.symm
  · intro h i j hi hj hij e
    have h1 := h i (by omega)
    simp [List.getD, show i + 1 < L.length by omega, hi] at h1
    have h2 := hp i (i + 1) hi (by omega) (by omega)
    by_cases hj2 : j = i + 1
    · subst hj2
      exact h1 e.symm
    · have h3 := hp (i + 1) j (by omega) hj (by omega)
      omega
theorem clone_sl (F : Nat → Int) (v : Value) (n : Nat) (w : World) (hv : Sl .i64 w v n F) (hn : n ≤ 1000000) :
    Calls Try.prog 64 #[v] w fun e w' => ∃ q c, e = .returned (.slice q n c) ∧ w'.ownsRow w.heap.size 3 1 (.slice q n c) n (vL .i64 F n) ∧ Below w.heap.size w w' := by
  rcases hv with ⟨rfl, rfl | ⟨x, cap, rfl, hc⟩⟩ | ⟨b, off, cap, rfl, hle, hcap, hb, hcell⟩
  · refine (Try.slices_Clone_int_nil 0 0 w).mono ?_
    rintro e w' ⟨rfl, rfl⟩
    exact ⟨_, _, rfl, World.ownsRow_nil _ _ _ _, Below.refl _ _⟩
  · refine (Try.slices_Clone_int_zero x cap w).mono ?_
    rintro e w' ⟨v', rfl, o, _, b⟩
    obtain ⟨q, c, rfl⟩ := owns_shape o
    exact ⟨q, c, rfl, o, b⟩
  · refine (Try.slices_Clone_int b off n cap (lst F n) w (by rw [lst_length]; exact Nat.le_refl _) (by omega) (fun j hj => ?_)).mono ?_
    · rw [lst_length] at hj
      rw [hcell j hj, lst_getD F n j hj]
    · rintro e w' ⟨v', rfl, o, _, b⟩
      rw [List.take_of_length_le (by rw [lst_length]; exact Nat.le_refl _), lst_vL] at o
      obtain ⟨q, c, rfl⟩ := owns_shape o
      exact ⟨q, c, rfl, o, b⟩
open Go.Sort in
theorem sort_own (F : Nat → Int) (q : Option Addr) (c n B : Nat) (w : World) (ho : w.ownsRow B 3 1 (.slice q n c) n (vL .i64 F n)) (hn : n ≤ 1000000) :
    Calls Try.prog 65 #[.slice q n c] w fun e w' => e = .returned (.tuple #[]) ∧ Sl .i64 w' (.slice q n c) n (fun i => (srt F n).getD i 0) ∧ Below B w w' := by
  rcases ho.2 with ⟨h1, rfl⟩ | ⟨g, cap, cur, h1, hB, hg, hc1, hc2, _, _⟩
  · cases h1
    refine (Try.slices_Sort_int_none none 0 w).mono ?_
    rintro e w' ⟨rfl, rfl⟩
    exact ⟨rfl, .inl ⟨rfl, .inl rfl⟩, Below.refl _ _⟩
  · cases h1
    have hlt : g < w.heap.size := (Array.getElem?_eq_some_iff.1 hg).1
    have hl : (lst F n).toArray.size = n := by simp [lst_length]
    have hH : Holds (Value.int .i64) w g 0 (lst F n).toArray := by
      intro j hj
      rw [hl] at hj
      refine ⟨?_, ?_⟩
      · rw [Nat.zero_add, ho.cellAt j (by omega), vL_get .i64 F n j hj]
        simp [lst, hj]
      · exact ho.frozenAt (0 + j)
    have hs : (srt F n).toArray.size = (lst F n).toArray.size := by simp [srt_length, lst_length]
    have h := Try.slices_Sort_int g 0 c (lst F n) w hH hlt (by rw [lst_length]; omega)
    rw [lst_length] at h
    refine h.mono ?_
    rintro e w' ⟨rfl, m, os, rfl⟩
    refine ⟨rfl, .inr ⟨g, 0, c, rfl, hc1, hc2, by simp; omega, fun i hi => ?_⟩, ?_⟩
    · have hp := holds_putRow (Value.int .i64) (Sort.ahead w m) g 0 _ (srt F n).toArray (holds_ahead _ w m g 0 _ hH) hs
      have hq := holds_grow (Value.int .i64) _ os g 0 _ (by simp; exact hlt) hp
      have := (hq i (by simp [srt_length]; exact hi)).1
      refine this.trans ?_
      have hi2 : i < (srt F n).length := by rw [srt_length]; exact hi
      simp [List.getD, hi2]
    · refine ⟨rfl, rfl, rfl, by simp, fun k hk => ?_⟩
      have hk2 : k < w.heap.size := by omega
      rw [heap_grow_old _ _ (by simp; exact hk2)]
      unfold putRow mapBlock
      rw [Array.getElem?_modify, if_neg (by omega)]
      rfl
set_option maxRecDepth 100000 in
set_option maxHeartbeats 1000000 in
theorem unlike_any (F : Nat → Int) (v : Value) (n : Nat) (w : World) (hv : Sl .i64 w v n F) (hn : n ≤ 1000000) :
    Calls Try.prog 60 #[v] w fun e w' => e = .returned (.bool (unB F n)) ∧ Below w.heap.size w w' := by
  have c1 := hide (clone_sl F v n w hv hn)
  clear hv
  go_enter Try.func60, Try.ntmps60
  go_wp2_with (first
    | (go_at_call 64; refine (unhide c1).mono ?_; rintro e w1 ⟨q, c, rfl, o1, b1⟩; have O1 := hide o1; have B1 := hide b1; clear o1 b1)
    | (go_at_call 65; refine (sort_own F q c n w.heap.size _ (unhide O1) hn).mono ?_; rintro e w2 ⟨rfl, s2, b2⟩; have S2 := hide s2; have B2 := hide ((unhide B1).trans b2); clear s2 b2))
  obtain ⟨p, cap, hpc, hc1, hc2⟩ := (unhide S2).shape
  cases hpc
  unfold maxLen at hc2
  have i0 : ((0 : Nat) : Int) = 0 := rfl
  go_loopw [4] (fun xi w3 => ∃ k : Nat, (k + 1 ≤ n ∨ k = 0) ∧ xi = .int .i64 ((k : Int) + 1) ∧ (∀ i, i < k → (srt F n).getD (i + 1) 0 ≠ (srt F n).getD i 0) ∧ ∃ m, w3 = w2.drewN m) (fun i _ => n - (intOf i).toNat)
  case atStart => exact ⟨0, .inr rfl, by simp, fun i hi => by omega, 0, rfl⟩
  case round =>
    obtain ⟨k, hk, rfl, hall, m, hW⟩ := hrel
    have HL := hide hall
    clear hall
    by_cases hlt : k + 1 < n
    · obtain ⟨b, off, rfl, _, hc⟩ := (unhide S2).some (by omega)
      have c1 : wr.cell? ⟨b, off + (k + 1), none⟩ = some (.int .i64 ((srt F n).getD (k + 1) 0)) := by rw [hW]; exact hc (k + 1) hlt
      have c2 : wr.cell? ⟨b, off + k, none⟩ = some (.int .i64 ((srt F n).getD k 0)) := by rw [hW]; exact hc k (by omega)
      have HW := hide hW
      clear hW hc
      generalize hx : (srt F n).getD (k + 1) 0 = x at *
      generalize hy : (srt F n).getD k 0 = y at *
      have HX := hide hx
      have HY := hide hy
      clear hx hy
      by_cases e : x = y
      · have d1 : (x == y) = true := by simp [e]
        have HE := hide e
        clear e
        go_wp2
        go_quiet (fail)
        go_wp2
        go_ret
        refine ⟨?_, ?_⟩
        · rw [unB, decide_eq_false (fun q => (srt_side F n).1 q k hlt (by rw [unhide HX, unhide HY]; exact unhide HE))]
          rfl
        · rw [unhide HW]
          exact below_drewN (below_drewN (unhide B2) m) nq
      · have d1 : (x == y) = false := by simp [e]
        have HE := hide e
        clear e
        go_wp2
        go_quiet (fail)
        go_wp2
        go_roundw
        case rel =>
          refine ⟨k + 1, .inl (by omega), by go_num, fun i hi => ?_, m + nq, by rw [unhide HW, World.drewN_drewN]⟩
          by_cases e : i = k
          · rw [e, unhide HX, unhide HY]; exact unhide HE
          · exact unhide HL i (by omega)
        case measure => simp [intOf]; omega
    · subst hW
      go_wp2
      go_ret
      refine ⟨?_, below_drewN (unhide B2) m⟩
      rw [unB, decide_eq_true ((srt_side F n).2 fun i hi => unhide HL i (by omega))]
      rfl
end Go.Proofs.Ytmcmiojidgdjpaa
namespace Go.Proofs.Ytmcmiojidgdjpaa
open Go.RowKit

/-- The lists are such as one of its kind may have. -/
def lisB (m : Mg) (F : Nat → Int) (n : Nat) (G : Nat → Int) (k : Nat) : Bool :=
  if m.kd = 3 then decide (k = 0) && decide (0 < n) && decide (F 0 = m.fr) && fewB F n && unB F n
  else if m.kd = 11 then fewB F n && fewB G k && unB (cat F n G) (n + k)
  else decide (n = 0) && decide (k = 0)
set_option maxRecDepth 100000 in
set_option maxHeartbeats 1000000 in
theorem lists_other (m : Mg) (F G : Nat → Int) (p t : Value) (n k : Nat) (w : World) (hp : Sl .i64 w p n F) (ht : Sl .i64 w t k G) (_ : n ≤ 1000) (_ : k ≤ 1000) (h3 : m.kd ≠ 3) (h11 : m.kd ≠ 11) :
    Calls Try.prog 46 #[mv m p t] w fun e w' => e = .returned (.bool (lisB m F n G k)) ∧ Below w.heap.size w w' := by
  obtain ⟨pp, cp, rfl, lp, kp⟩ := hp.shape
  obtain ⟨pt, ct, rfl, lt, kt⟩ := ht.shape
  unfold maxLen at kp kt
  have HP := hide hp
  have HT := hide ht
  clear hp ht
  have B0 : Hid (Below w.heap.size w (w.alloc (.cells #[.int .i64 m.kd, .int .i64 m.fr, .int .i64 m.fi, .int .i64 m.tw, .int .i64 m.ti, .int .i64 m.tp, .int .i64 m.ep, .int .i64 m.sq, .int .i64 m.la, .int .i64 m.va, .int .i64 m.no, .int .i64 m.ic, .int .i64 m.ct, .int .i64 m.hp, .slice pp n cp, .slice pt k ct] 24))) := hide ((Below.refl _ _).alloc (Nat.le_refl _) _)
  have hr : lisB m F n G k = (decide (n = 0) && decide (k = 0)) := by simp [lisB, h3, h11]
  rw [hr]
  have d3 : (m.kd == 3) = false := by simp [h3]
  have d11 : (m.kd == 11) = false := by simp [h11]
  clear h3 h11 hr
  unfold mv
  by_cases h0 : n = 0
  · have e0 : ((n : Int) == 0) = true := by simp; omega
    have e1 : ((k : Int) == 0) = decide (k = 0) := by by_cases q : k = 0 <;> simp [q]
    have e2 : decide (n = 0) = true := decide_eq_true h0
    clear h0
    generalize m.kd = x1 at *
    go_enter Try.func46, Try.ntmps46
    go_wp2
    go_ret
    exact ⟨by simp [e2], (Below.refl _ _).alloc (Nat.le_refl _) _⟩
  · have e0 : ((n : Int) == 0) = false := by simp; omega
    have e2 : decide (n = 0) = false := decide_eq_false h0
    clear h0
    generalize m.kd = x1 at *
    go_enter Try.func46, Try.ntmps46
    go_wp2
    go_ret
    exact ⟨by simp [e2], (Below.refl _ _).alloc (Nat.le_refl _) _⟩
set_option maxRecDepth 100000 in
set_option maxHeartbeats 1000000 in
theorem lists_any (m : Mg) (F G : Nat → Int) (p t : Value) (n k : Nat) (w : World) (hp : Sl .i64 w p n F) (ht : Sl .i64 w t k G) (hn : n ≤ 1000) (hk : k ≤ 1000) (h11 : m.kd = 11) :
    Calls Try.prog 46 #[mv m p t] w fun e w' => e = .returned (.bool (lisB m F n G k)) ∧ Below w.heap.size w w' := by
  obtain ⟨pp, cp, rfl, lp, kp⟩ := hp.shape
  obtain ⟨pt, ct, rfl, lt, kt⟩ := ht.shape
  unfold maxLen at kp kt
  have HP := hide hp
  have HT := hide ht
  clear hp ht
  have B0 : Hid (Below w.heap.size w (w.alloc (.cells #[.int .i64 m.kd, .int .i64 m.fr, .int .i64 m.fi, .int .i64 m.tw, .int .i64 m.ti, .int .i64 m.tp, .int .i64 m.ep, .int .i64 m.sq, .int .i64 m.la, .int .i64 m.va, .int .i64 m.no, .int .i64 m.ic, .int .i64 m.ct, .int .i64 m.hp, .slice pp n cp, .slice pt k ct] 24))) := hide ((Below.refl _ _).alloc (Nat.le_refl _) _)
  have hr : lisB m F n G k = (fewB F n && fewB G k && unB (cat F n G) (n + k)) := by simp [lisB, h11]
  rw [hr]
  have d3 : (m.kd == 3) = false := by simp [h11]
  have d11 : (m.kd == 11) = true := by simp [h11]
  clear h11 hr
  unfold mv
  have m1 := trivial
  have CF := hide (few_any F (.slice pp n cp) n _ ((unhide HP).below (unhide B0) (Nat.le_refl _)))
  have CG := hide (few_any G (.slice pt k ct) k _ ((unhide HT).below (unhide B0) (Nat.le_refl _)))
  cases hF : fewB F n with
  | false =>
    rw [hF] at CF
    generalize m.kd = x1 at *
    go_enter Try.func46, Try.ntmps46
    go_wp2_with (go_at_call 59; with_reducible refine (unhide CF).mono ?_; rintro e w1 ⟨rfl, rfl⟩)
    go_ret
    exact ⟨rfl, unhide B0⟩
  | true =>
    cases hG : fewB G k with
    | false =>
      rw [hF] at CF
      rw [hG] at CG
      generalize m.kd = x1 at *
      go_enter Try.func46, Try.ntmps46
      go_wp2_with (first
        | (clear m1; go_at_call 59; with_reducible refine (unhide CF).mono ?_; rintro e w1 ⟨rfl, rfl⟩)
        | (go_at_call 59; with_reducible refine (unhide CG).mono ?_; rintro e w1 ⟨rfl, rfl⟩))
      go_ret
      exact ⟨rfl, unhide B0⟩
    | true =>
      rw [hF] at CF
      rw [hG] at CG
      have CC := hide (concat_any F G (.slice pp n cp) (.slice pt k ct) n k (w.heap.size + 1) ((w.alloc (.cells #[.int .i64 m.kd, .int .i64 m.fr, .int .i64 m.fi, .int .i64 m.tw, .int .i64 m.ti, .int .i64 m.tp, .int .i64 m.ep, .int .i64 m.sq, .int .i64 m.la, .int .i64 m.va, .int .i64 m.no, .int .i64 m.ic, .int .i64 m.ct, .int .i64 m.hp, .slice pp n cp, .slice pt k ct] 24)).alloc (.cells #[.slice pp n cp, .slice pt k ct] 22)) ((unhide HP).below (((unhide B0)).alloc (by simp) _) (Nat.le_refl _)) ((unhide HT).below (((unhide B0)).alloc (by simp) _) (Nat.le_refl _)) (mv_cell (heap_alloc2_new _ _ _) 0 _ rfl) (mv_cell (heap_alloc2_new _ _ _) 1 _ rfl) hn hk)
      generalize m.kd = x1 at *
      go_enter Try.func46, Try.ntmps46
      go_wp2_with (first
        | (clear m1; go_at_call 59; with_reducible refine (unhide CF).mono ?_; rintro e w1 ⟨rfl, rfl⟩)
        | (go_at_call 59; with_reducible refine (unhide CG).mono ?_; rintro e w1 ⟨rfl, rfl⟩)
        | (go_at_call 61; with_reducible refine (unhide CC).mono ?_; rintro e w2 ⟨q2, d2, rfl, s2, b2⟩; have S2 := hide s2; have B2 := hide (below_of ((unhide B0).alloc (by simp) _) b2); clear s2 b2)
        | (go_at_call 60; with_reducible refine (unlike_any (cat F n G) _ (n + k) _ (unhide S2) (by omega)).mono ?_; rintro e w3 ⟨rfl, b3⟩; have B3 := hide (below_of (unhide B2) b3); clear b3))
      go_ret
      exact ⟨rfl, unhide B3⟩
end Go.Proofs.Ytmcmiojidgdjpaa
namespace Go.Proofs.Ytmcmiojidgdjpaa
open Go.RowKit

/-- The same numbers. -/
def eqB (F : Nat → Int) (n : Nat) (G : Nat → Int) (k : Nat) : Bool := decide (n = k ∧ ∀ i, i < n → F i = G i)
set_option maxRecDepth 100000 in
theorem ints_any (F G : Nat → Int) (va vb : Value) (n k : Nat) (w : World) (ha : Sl .i64 w va n F) (hb : Sl .i64 w vb k G) :
    Calls Try.prog 29 #[va, vb] w fun e w' => e = .returned (.bool (eqB F n G k)) ∧ ∃ m, w' = w.drewN m := by
  obtain ⟨pa, ca, rfl, la, ka⟩ := ha.shape
  obtain ⟨pb, cb, rfl, lb, kb⟩ := hb.shape
  unfold maxLen at ka kb
  have HA := hide ha
  have HB := hide hb
  clear ha hb
  by_cases hnk : n = k
  · subst hnk
    go_enter Try.func29, Try.ntmps29
    go_wp2
    go_loopw [5] (fun xi w1 => ∃ k : Nat, k ≤ n ∧ xi = .int .i64 k ∧ (∀ i, i < k → F i = G i) ∧ ∃ m, w1 = w.drewN m) (fun i _ => n - (intOf i).toNat)
    case atStart => exact ⟨0, by omega, rfl, fun i hi => by omega, 0, rfl⟩
    case round =>
      obtain ⟨k, hk, rfl, hall, m, hW⟩ := hrel
      have HL := hide hall
      clear hall
      by_cases hlt : k < n
      · obtain ⟨ba, oa, rfl, _, hca⟩ := (unhide HA).some (by omega)
        obtain ⟨bb, ob, rfl, _, hcb⟩ := (unhide HB).some (by omega)
        have c1 : wr.cell? ⟨ba, oa + k, none⟩ = some (.int .i64 (F k)) := by rw [hW]; exact hca k hlt
        have c2 : wr.cell? ⟨bb, ob + k, none⟩ = some (.int .i64 (G k)) := by rw [hW]; exact hcb k hlt
        have HW := hide hW
        clear hW hca hcb
        by_cases hx : F k = G k
        · have d1 : (F k != G k) = false := by simp [hx]
          have HX := hide hx
          clear hx
          go_wp2
          go_quiet (fail)
          go_wp2
          go_roundw
          case rel =>
            refine ⟨k + 1, by omega, by go_num, fun i hi => ?_, m + nq, by rw [unhide HW, World.drewN_drewN]⟩
            by_cases e : i = k
            · rw [e]; exact unhide HX
            · exact unhide HL i (by omega)
          case measure => simp [intOf]; omega
        · have d1 : (F k != G k) = true := by simp [hx]
          have HX := hide hx
          clear hx
          go_wp2
          go_quiet (fail)
          go_wp2
          go_ret
          refine ⟨?_, m + nq, by rw [unhide HW, World.drewN_drewN]⟩
          rw [eqB, decide_eq_false (fun q => unhide HX (q.2 k hlt))]
          rfl
      · subst hW
        go_wp2
        go_ret
        refine ⟨?_, m, rfl⟩
        rw [eqB, decide_eq_true ⟨rfl, fun i hi => unhide HL i (by omega)⟩]
        rfl
  · have d : ((n : Int) != (k : Int)) = true := by simp; omega
    go_enter Try.func29, Try.ntmps29
    go_wp2
    go_ret
    refine ⟨?_, 0, rfl⟩
    rw [eqB, decide_eq_false (fun q => hnk q.1)]
    rfl
theorem ints_b (F G : Nat → Int) (va vb : Value) (n k : Nat) (w : World) (ha : Sl .i64 w va n F) (hb : Sl .i64 w vb k G) :
    Calls Try.prog 29 #[va, vb] w fun e w' => e = .returned (.bool (eqB F n G k)) ∧ Below w.heap.size w w' := by
  refine (ints_any F G va vb n k w ha hb).mono ?_
  rintro e w' ⟨rfl, m, rfl⟩
  exact ⟨rfl, below_drewN (Below.refl _ _) m⟩
end Go.Proofs.Ytmcmiojidgdjpaa
namespace Go.Proofs.Ytmcmiojidgdjpaa.Cr
open Go.RowKit

/-- All right, or a first one that is not. -/
theorem first_bad (P : Nat → Prop) [DecidablePred P] (n : Nat) : (∀ i, i < n → P i) ∨ ∃ j, j < n ∧ (∀ i, i < j → P i) ∧ ¬ P j := by
  induction n with
  | zero => exact .inl fun i hi => by omega
  | succ n ih =>
    rcases ih with h | ⟨j, h1, h2, h3⟩
    · by_cases hp : P n
      · exact .inl fun i hi => by
          by_cases e : i < n
          · exact h i e
          · obtain rfl : i = n := by omega
            exact hp
      · exact .inr ⟨n, by omega, h, hp⟩
    · exact .inr ⟨j, by omega, h2, h3⟩
theorem bytes_f (F G : Nat → Nat) (va vb : Value) (n : Nat) (w : World) (ha : Bs w va n F) (hb : Bs w vb n G) (h : ¬ ∀ i, i < n → F i = G i) :
    Calls Try.prog 14 #[va, vb] w fun e w' => e = .returned (.bool false) ∧ Below w.heap.size w w' := by
  rcases first_bad (fun i => F i = G i) n with h2 | ⟨j, h1, h2, h3⟩
  · exact absurd h2 h
  · refine (bytes_d _ _ va vb n j w ha hb h1 (fun i hi => by show (F i : Int) = (G i : Int); rw [h2 i hi]) (fun q => h3 (by exact Int.ofNat_inj.1 q))).mono ?_
    rintro e w' ⟨rfl, m, rfl⟩
    exact ⟨rfl, below_drewN (Below.refl _ _) m⟩
theorem seal_eq (D : Nat → Nat) (m S : Nat) (hD : ∀ i, i < m + 4 → D i < 256) (h : S = le4 D m) (i : Nat) (hi : i < m + 4) : sealD D m S i = D i := by
  unfold sealD
  by_cases e : i < m
  · rw [if_pos e]
  · rw [if_neg e]
    obtain ⟨j, rfl⟩ : ∃ j, i = m + j := ⟨i - m, by omega⟩
    rw [Nat.add_sub_cancel_left, h]
    have h0 := hD m (by omega)
    have h1 := hD (m + 1) (by omega)
    have h2 := hD (m + 2) (by omega)
    have h3 := hD (m + 3) (by omega)
    unfold le4
    match j, hi with
    | 0, _ =>
      simp only [Nat.mul_zero, Nat.pow_zero, Nat.div_one, Nat.add_zero]
      omega
    | 1, _ =>
      simp only [show 2 ^ (8 * 1) = 256 from rfl]
      omega
    | 2, _ =>
      simp only [show 2 ^ (8 * 2) = 65536 from rfl]
      omega
    | 3, _ =>
      simp only [show 2 ^ (8 * 3) = 16777216 from rfl]
      omega
    | j + 4, hi => omega
theorem refOpen_short (p : Option Addr) (n cap : Nat) (hn : n < 4) (w : World) :
    Calls Try.prog 26 #[.slice p n cap] w fun e w' => e = .returned (.tuple #[.slice none 0 0, .int .i64 2]) ∧ w' = w := by
  have d : decide ((n : Int) < 4) = true := decide_eq_true (by omega)
  go_enter Try.func26, Try.ntmps26
  go_wp2
  go_ret2
  exact ⟨rfl, rfl⟩
set_option maxRecDepth 100000 in
theorem refOpen_any (D : Nat → Nat) (v : Value) (n m : Nat) (w : World) (hv : Bs w v n D) (hD : ∀ i, i < n → D i < 256) (hn : n ≤ 100000) (hm : n = m + 4) :
    Calls Try.prog 26 #[v] w fun e w' => Below w.heap.size w w' ∧ ((sumN D m ≠ le4 D m ∧ e = .returned (.tuple #[.slice none 0 0, .int .i64 4])) ∨
      (sumN D m = le4 D m ∧ ∃ v', e = .returned (.tuple #[v', .int .i64 0]) ∧ Bs w' v' m D)) := by
  obtain ⟨p, cap, rfl, hc1, hc2⟩ := Sl.shape hv
  unfold maxLen at hc2
  obtain ⟨b, off, rfl, hb, hcell⟩ := Sl.some hv (by omega)
  have hT : Bs w (.slice (some ⟨b, off, none⟩) m cap) m D := .inr ⟨b, off, cap, rfl, by omega, hc2, hb, fun i h => hcell i (by omega)⟩
  have c1 : Hid (Calls Try.prog 39 #[.slice (some ⟨b, off, none⟩) m cap] w fun e w' => ∃ v', e = .returned v' ∧ Bs w' v' n (sealD D m (sumN D m)) ∧ Below w.heap.size w w') := by
    refine hide ((refSeal_is D _ m w hT (fun i hi => hD i (by omega)) (by omega)).mono ?_)
    rintro e w' ⟨v', rfl, o, bl⟩
    rw [hm]
    exact ⟨v', rfl, bs_of_owns o, bl⟩
  have c3 : Hid (∀ w1, Below w.heap.size w w1 → Calls Try.prog 9 #[.slice (some ⟨b, off, none⟩) m cap] w1 fun e w' => ∃ v', e = .returned v' ∧ Bs w' v' m D ∧ Below w1.heap.size w1 w') := by
    refine hide fun w1 h => (twin_any _ _ m w1 (Sl.below hT h (Nat.le_refl _)) (by omega)).mono ?_
    rintro e w' ⟨v', rfl, o, bl⟩
    exact ⟨v', rfl, sl_of_owns o, bl⟩
  have d : decide ((n : Int) < 4) = false := decide_eq_false (by omega)
  have e1 : (n : Int) - 4 = (m : Int) := by omega
  have i1 : (m : Int) ≤ (cap : Int) := by omega
  have i2 : m ≤ cap := by omega
  by_cases hSL : sumN D m = le4 D m
  · have c2 : Hid (∀ v w1, Below w.heap.size w w1 → Bs w1 v n (sealD D m (sumN D m)) → Calls Try.prog 14 #[v, .slice (some ⟨b, off, none⟩) n cap] w1 fun e w' => e = .returned (.bool true) ∧ Below w1.heap.size w1 w') := by
      refine hide fun v w1 h1 h2 => bytes_b _ v _ n w1 (Sl.congr h2 fun i hi => ?_) (Sl.below hv h1 (Nat.le_refl _))
      rw [seal_eq D m _ (by rw [← hm]; exact hD) hSL i (by omega)]
    have HSL := hide hSL
    clear hv hD hT hcell hm hSL
    generalize sealD D m (sumN D m) = F at *
    go_enter Try.func26, Try.ntmps26
    go_wp2_with (first
      | (go_at_call 39; refine (unhide c1).mono ?_; rintro e w1 ⟨v1, rfl, s1, b1⟩; have S1 := hide s1; have B1 := hide b1; clear s1 b1)
      | (go_at_call 14; refine (unhide c2 _ _ (unhide B1) (unhide S1)).mono ?_; rintro e w2 ⟨rfl, b2⟩; replace B1 := hide (below_of (unhide B1) b2); clear b2)
      | (go_at_call 9; refine (unhide c3 _ (unhide B1)).mono ?_; rintro e w3 ⟨v3, rfl, s3, b3⟩; have S3 := hide s3; replace B1 := hide (below_of (unhide B1) b3); clear s3 b3))
    go_ret2
    exact ⟨unhide B1, .inr ⟨unhide HSL, _, rfl, unhide S3⟩⟩
  · have c2 : Hid (∀ v w1, Below w.heap.size w w1 → Bs w1 v n (sealD D m (sumN D m)) → Calls Try.prog 14 #[v, .slice (some ⟨b, off, none⟩) n cap] w1 fun e w' => e = .returned (.bool false) ∧ Below w1.heap.size w1 w') := by
      refine hide fun v w1 h1 h2 => bytes_f _ D v _ n w1 h2 (Sl.below hv h1 (Nat.le_refl _)) fun q => hSL ?_
      have h4 := le4_seal D m (sumN D m) (sumN_lt fun i hi => hD i (by omega))
      rw [← h4]
      unfold le4
      rw [q m (by omega), q (m + 1) (by omega), q (m + 2) (by omega), q (m + 3) (by omega)]
    have HSL := hide hSL
    clear hv hD hT hcell hm hSL
    generalize sealD D m (sumN D m) = F at *
    go_enter Try.func26, Try.ntmps26
    go_wp2_with (first
      | (go_at_call 39; refine (unhide c1).mono ?_; rintro e w1 ⟨v1, rfl, s1, b1⟩; have S1 := hide s1; have B1 := hide b1; clear s1 b1)
      | (go_at_call 14; refine (unhide c2 _ _ (unhide B1) (unhide S1)).mono ?_; rintro e w2 ⟨rfl, b2⟩; replace B1 := hide (below_of (unhide B1) b2); clear b2))
    go_ret2
    exact ⟨unhide B1, .inl ⟨unhide HSL, rfl⟩⟩
/-- Both Opens answer the same. -/
theorem open_both (D : Nat → Nat) (n : Nat) (hD : ∀ i, i < n → D i < 256) (hn : n ≤ 100000) : ∃ (k : Nat) (c : Int),
    (∀ v w, Bs w v n D → Calls Try.prog 19 #[v] w fun e w' => ∃ v', e = .returned (.tuple #[v', .int .i64 c]) ∧ Bs w' v' k D ∧ Below w.heap.size w w') ∧
    (∀ v w, Bs w v n D → Calls Try.prog 26 #[v] w fun e w' => ∃ v', e = .returned (.tuple #[v', .int .i64 c]) ∧ Bs w' v' k D ∧ Below w.heap.size w w') := by
  by_cases h4 : n < 4
  · refine ⟨0, 2, fun v w hv => ?_, fun v w hv => ?_⟩
    · obtain ⟨p, cap, rfl, _, _⟩ := Sl.shape hv
      refine (open_short p n cap h4 w).mono ?_
      rintro e w' ⟨rfl, rfl⟩
      exact ⟨_, rfl, .inl ⟨rfl, .inl rfl⟩, Below.refl _ _⟩
    · obtain ⟨p, cap, rfl, _, _⟩ := Sl.shape hv
      refine (refOpen_short p n cap h4 w).mono ?_
      rintro e w' ⟨rfl, rfl⟩
      exact ⟨_, rfl, .inl ⟨rfl, .inl rfl⟩, Below.refl _ _⟩
  · obtain ⟨m, rfl⟩ : ∃ m, n = m + 4 := ⟨n - 4, by omega⟩
    by_cases h : sumN D m = le4 D m
    · refine ⟨m, 0, fun v w hv => ?_, fun v w hv => ?_⟩
      · refine (open_ok D v m w hv hD hn h).mono ?_
        rintro e w' ⟨v', rfl, o, b⟩
        exact ⟨v', rfl, bs_of_owns o, b⟩
      · refine (refOpen_any D v _ m w hv hD hn rfl).mono ?_
        rintro e w' ⟨hb, ⟨h2, _⟩ | ⟨_, v', rfl, s⟩⟩
        · exact absurd h h2
        · exact ⟨v', rfl, s, hb⟩
    · refine ⟨0, 4, fun v w hv => ?_, fun v w hv => ?_⟩
      · refine (open_bad D v m w hv hD hn h).mono ?_
        rintro e w' ⟨rfl, b⟩
        exact ⟨_, rfl, .inl ⟨rfl, .inl rfl⟩, b⟩
      · refine (refOpen_any D v _ m w hv hD hn rfl).mono ?_
        rintro e w' ⟨hb, ⟨_, rfl⟩ | ⟨h2, _⟩⟩
        · exact ⟨_, rfl, .inl ⟨rfl, .inl rfl⟩, hb⟩
        · exact absurd h2 h
end Go.Proofs.Ytmcmiojidgdjpaa.Cr
namespace Go.Proofs.Ytmcmiojidgdjpaa
open Go.ChangeShapes Go.WideShapes Go.ChangeAt Go.RowKit

theorem own0 : ownKnob Try.prog.godebug = none := by kernel_rfl
theorem laidOut : laidOutB Try.prog = true := by kernel_rfl
end Go.Proofs.Ytmcmiojidgdjpaa
namespace Go.Proofs.Ytmcmiojidgdjpaa
open Go.ChangeShapes Go.WideShapes Go.ChangeAt Go.RowKit

/-- A slice of numbers that came in. -/
def IsRow (k : IntKind) (w : World) (a : Option Addr) (len cap : Nat) (zs : List Int) : Prop :=
  (a = none ∧ len = 0 ∧ cap = 0 ∧ zs = []) ∨
  ∃ x, a = some x ∧ len ≤ cap ∧ cap ≤ maxLen ∧ zs.length = cap ∧ (∀ i, i < zs.length → w.cell? (x.add i) = some (.int k (zs.getD i 0))) ∧ ∀ n ∈ zs, (Lit.int k n).wf = true
def rowF (zs : List Int) (i : Nat) : Int := zs.getD i 0
theorem IsRow.sl {k : IntKind} {w : World} {a : Option Addr} {len cap : Nat} {zs : List Int} (h : IsRow k w a len cap zs) : Sl k w (.slice a len cap) len (rowF zs) := by
  rcases h with ⟨rfl, rfl, rfl, rfl⟩ | ⟨x, rfl, h1, h2, h3, h4, _⟩
  · exact .inl ⟨rfl, .inl rfl⟩
  · by_cases h0 : len = 0
    · subst h0
      exact .inl ⟨rfl, .inr ⟨x, cap, rfl, by omega⟩⟩
    · obtain ⟨b, off, spot⟩ := x
      have hc := h4 0 (by omega)
      have hspot : spot = none := by simpa [Addr.add] using World.cell?_spot hc
      subst hspot
      have hc0 := block_lt_of_cell hc
      refine .inr ⟨b, off, cap, rfl, h1, h2, by simpa [Addr.add] using hc0, fun i hi => ?_⟩
      have := h4 i (by omega)
      rwa [Addr.add_lit] at this
theorem IsRow.len {k : IntKind} {w : World} {a : Option Addr} {len cap : Nat} {zs : List Int} (h : IsRow k w a len cap zs) : len ≤ maxLen := by
  rcases h with ⟨_, rfl, _, _⟩ | ⟨x, _, h1, h2, _⟩
  · exact Nat.zero_le _
  · omega
theorem row_cell {H : Type} {enc : TypeId × Value → H} {W : World} {base fuel : Nat} {held : Bool} {u : Value} {o : Option (DataW H × List MemPlace)} (ho : o.isSome = true)
    (hf : DataW.trod enc Try.prog W base (fun _ => true) held fuel 22 [u] = o) : ∃ a len cap zs, u = .slice a len cap ∧ IsRow .i64 W a len cap zs := by
  obtain ⟨x, rfl⟩ := Option.isSome_iff_exists.1 ho
  rcases open_ints Try.underlying22 Try.underlying3 (by kernel_rfl) hf with ⟨hcs, _⟩ | ⟨x, l, c, zs, hcs, _, hl, hm, hz, _, hcell, hwz⟩
  · exact ⟨none, 0, 0, [], (List.cons.inj hcs).1, .inl ⟨rfl, rfl, rfl, rfl⟩⟩
  · exact ⟨some x, l, c, zs, (List.cons.inj hcs).1, .inr ⟨_, rfl, hl, hm, by simpa using hz, hcell, hwz⟩⟩
theorem int_cell {H : Type} {enc : TypeId × Value → H} {W : World} {base fuel : Nat} {held : Bool} {u : Value} {o : Option (DataW H × List MemPlace)} (ho : o.isSome = true)
    (hf : DataW.trod enc Try.prog W base (fun _ => true) held fuel 3 [u] = o) : ∃ n, u = .int .i64 n := by
  obtain ⟨x, rfl⟩ := Option.isSome_iff_exists.1 ho
  obtain ⟨n, h, _⟩ := DataW.trod_int Try.underlying3 hf
  exact ⟨n, (List.cons.inj h).1⟩
theorem open_row64 {H : Type} {enc : TypeId × Value → H} {W : World} {base : Nat} {held : Bool} {a : Option Addr} {len cap : Nat} {d : DataW H} {p : List MemPlace}
    (h : ∃ fuel, DataW.trod enc Try.prog W base (fun _ => true) held fuel 22 (Value.slice a len cap).cells.toList = some (d, p)) : ∃ zs, IsRow .i64 W a len cap zs := by
  obtain ⟨fuel, hf⟩ := h
  obtain ⟨a', len', cap', zs, e, hr⟩ := row_cell (u := .slice a len cap) (o := some (d, p)) rfl hf
  cases e
  exact ⟨zs, hr⟩
theorem cells24 : Try.prog.cellsOf 24 = 16 := by kernel_rfl
theorem c3 : Try.prog.cellsOf 3 = 1 := by kernel_rfl
theorem c22 : Try.prog.cellsOf 22 = 1 := by kernel_rfl
set_option maxRecDepth 10000 in
theorem open_msg {H : Type} {enc : TypeId × Value → H} {W : World} {r : Reach} {base b0 : Nat} {held : Bool} {v : Value} {d : DataW H} {p : List MemPlace}
    (hv : Value.okWide Try.prog W r b0 24 v) (h : ∃ fuel, DataW.trod enc Try.prog W base (fun _ => true) held fuel 24 v.cells.toList = some (d, p)) :
    ∃ (m : Mg) (x : Option Addr) (n c : Nat) (zs : List Int) (y : Option Addr) (k e : Nat) (us : List Int), v = mv m (.slice x n c) (.slice y k e) ∧ IsRow .i64 W x n c zs ∧ IsRow .i64 W y k e us := by
  obtain ⟨cs, rfl, hs⟩ := okWide_struct Try.underlying24 hv
  obtain ⟨fuel, hf⟩ := h
  rw [cells24] at hs
  obtain ⟨xs, m, _, _, hl, hlen, hx⟩ := DataW.trod_struct Try.underlying24 hf
  have hlen' : xs.length = 16 := hlen
  obtain ⟨l⟩ := cs
  match l, hs with
  | [a0, a1, a2, a3, a4, a5, a6, a7, a8, a9, a10, a11, a12, a13, a14, a15], _ =>
    have q0 : DataW.trod enc Try.prog W base (fun _ => true) held m 3 (([a0, a1, a2, a3, a4, a5, a6, a7, a8, a9, a10, a11, a12, a13, a14, a15].drop 0).take (Try.prog.cellsOf 3)) = xs[0]? := hx 0 _ rfl
    rw [c3] at q0
    obtain ⟨n0, e0⟩ := int_cell (u := a0) (by simp [hlen']) q0
    have q1 : DataW.trod enc Try.prog W base (fun _ => true) held m 3 (([a0, a1, a2, a3, a4, a5, a6, a7, a8, a9, a10, a11, a12, a13, a14, a15].drop 1).take (Try.prog.cellsOf 3)) = xs[1]? := hx 1 _ rfl
    rw [c3] at q1
    obtain ⟨n1, e1⟩ := int_cell (u := a1) (by simp [hlen']) q1
    have q2 : DataW.trod enc Try.prog W base (fun _ => true) held m 3 (([a0, a1, a2, a3, a4, a5, a6, a7, a8, a9, a10, a11, a12, a13, a14, a15].drop 2).take (Try.prog.cellsOf 3)) = xs[2]? := hx 2 _ rfl
    rw [c3] at q2
    obtain ⟨n2, e2⟩ := int_cell (u := a2) (by simp [hlen']) q2
    have q3 : DataW.trod enc Try.prog W base (fun _ => true) held m 3 (([a0, a1, a2, a3, a4, a5, a6, a7, a8, a9, a10, a11, a12, a13, a14, a15].drop 3).take (Try.prog.cellsOf 3)) = xs[3]? := hx 3 _ rfl
    rw [c3] at q3
    obtain ⟨n3, e3⟩ := int_cell (u := a3) (by simp [hlen']) q3
    have q4 : DataW.trod enc Try.prog W base (fun _ => true) held m 3 (([a0, a1, a2, a3, a4, a5, a6, a7, a8, a9, a10, a11, a12, a13, a14, a15].drop 4).take (Try.prog.cellsOf 3)) = xs[4]? := hx 4 _ rfl
    rw [c3] at q4
    obtain ⟨n4, e4⟩ := int_cell (u := a4) (by simp [hlen']) q4
    have q5 : DataW.trod enc Try.prog W base (fun _ => true) held m 3 (([a0, a1, a2, a3, a4, a5, a6, a7, a8, a9, a10, a11, a12, a13, a14, a15].drop 5).take (Try.prog.cellsOf 3)) = xs[5]? := hx 5 _ rfl
    rw [c3] at q5
    obtain ⟨n5, e5⟩ := int_cell (u := a5) (by simp [hlen']) q5
    have q6 : DataW.trod enc Try.prog W base (fun _ => true) held m 3 (([a0, a1, a2, a3, a4, a5, a6, a7, a8, a9, a10, a11, a12, a13, a14, a15].drop 6).take (Try.prog.cellsOf 3)) = xs[6]? := hx 6 _ rfl
    rw [c3] at q6
    obtain ⟨n6, e6⟩ := int_cell (u := a6) (by simp [hlen']) q6
    have q7 : DataW.trod enc Try.prog W base (fun _ => true) held m 3 (([a0, a1, a2, a3, a4, a5, a6, a7, a8, a9, a10, a11, a12, a13, a14, a15].drop 7).take (Try.prog.cellsOf 3)) = xs[7]? := hx 7 _ rfl
    rw [c3] at q7
    obtain ⟨n7, e7⟩ := int_cell (u := a7) (by simp [hlen']) q7
    have q8 : DataW.trod enc Try.prog W base (fun _ => true) held m 3 (([a0, a1, a2, a3, a4, a5, a6, a7, a8, a9, a10, a11, a12, a13, a14, a15].drop 8).take (Try.prog.cellsOf 3)) = xs[8]? := hx 8 _ rfl
    rw [c3] at q8
    obtain ⟨n8, e8⟩ := int_cell (u := a8) (by simp [hlen']) q8
    have q9 : DataW.trod enc Try.prog W base (fun _ => true) held m 3 (([a0, a1, a2, a3, a4, a5, a6, a7, a8, a9, a10, a11, a12, a13, a14, a15].drop 9).take (Try.prog.cellsOf 3)) = xs[9]? := hx 9 _ rfl
    rw [c3] at q9
    obtain ⟨n9, e9⟩ := int_cell (u := a9) (by simp [hlen']) q9
    have q10 : DataW.trod enc Try.prog W base (fun _ => true) held m 3 (([a0, a1, a2, a3, a4, a5, a6, a7, a8, a9, a10, a11, a12, a13, a14, a15].drop 10).take (Try.prog.cellsOf 3)) = xs[10]? := hx 10 _ rfl
    rw [c3] at q10
    obtain ⟨n10, e10⟩ := int_cell (u := a10) (by simp [hlen']) q10
    have q11 : DataW.trod enc Try.prog W base (fun _ => true) held m 3 (([a0, a1, a2, a3, a4, a5, a6, a7, a8, a9, a10, a11, a12, a13, a14, a15].drop 11).take (Try.prog.cellsOf 3)) = xs[11]? := hx 11 _ rfl
    rw [c3] at q11
    obtain ⟨n11, e11⟩ := int_cell (u := a11) (by simp [hlen']) q11
    have q12 : DataW.trod enc Try.prog W base (fun _ => true) held m 3 (([a0, a1, a2, a3, a4, a5, a6, a7, a8, a9, a10, a11, a12, a13, a14, a15].drop 12).take (Try.prog.cellsOf 3)) = xs[12]? := hx 12 _ rfl
    rw [c3] at q12
    obtain ⟨n12, e12⟩ := int_cell (u := a12) (by simp [hlen']) q12
    have q13 : DataW.trod enc Try.prog W base (fun _ => true) held m 3 (([a0, a1, a2, a3, a4, a5, a6, a7, a8, a9, a10, a11, a12, a13, a14, a15].drop 13).take (Try.prog.cellsOf 3)) = xs[13]? := hx 13 _ rfl
    rw [c3] at q13
    obtain ⟨n13, e13⟩ := int_cell (u := a13) (by simp [hlen']) q13
    have q14 : DataW.trod enc Try.prog W base (fun _ => true) held m 22 (([a0, a1, a2, a3, a4, a5, a6, a7, a8, a9, a10, a11, a12, a13, a14, a15].drop 14).take (Try.prog.cellsOf 22)) = xs[14]? := hx 14 _ rfl
    rw [c22] at q14
    obtain ⟨x14, l14, k14, z14, e14, r14⟩ := row_cell (u := a14) (by simp [hlen']) q14
    have q15 : DataW.trod enc Try.prog W base (fun _ => true) held m 22 (([a0, a1, a2, a3, a4, a5, a6, a7, a8, a9, a10, a11, a12, a13, a14, a15].drop 15).take (Try.prog.cellsOf 22)) = xs[15]? := hx 15 _ rfl
    rw [c22] at q15
    obtain ⟨x15, l15, k15, z15, e15, r15⟩ := row_cell (u := a15) (by simp [hlen']) q15
    subst e0 e1 e2 e3 e4 e5 e6 e7 e8 e9 e10 e11 e12 e13 e14 e15
    exact ⟨⟨n0, n1, n2, n3, n4, n5, n6, n7, n8, n9, n10, n11, n12, n13⟩, x14, l14, k14, z14, x15, l15, k15, z15, rfl, r14, r15⟩
end Go.Proofs.Ytmcmiojidgdjpaa
namespace Go.Proofs.Ytmcmiojidgdjpaa
open Go.ChangeShapes Go.WideShapes Go.ChangeAt Go.RowKit

theorem IsRow.bd {w : World} {a : Option Addr} {len cap : Nat} {zs : List Int} (h : IsRow .u8 w a len cap zs) (i : Nat) : 0 ≤ rowF zs i ∧ rowF zs i < 256 := by
  have hwf : ∀ n ∈ zs, (Lit.int .u8 n).wf = true := by
    rcases h with ⟨_, _, _, rfl⟩ | ⟨x, _, _, _, _, _, h⟩
    · simp
    · exact h
  unfold rowF
  simp only [List.getD]
  cases hq : zs[i]? with
  | none => simp
  | some n =>
    have := hwf n (List.mem_of_getElem? hq)
    simp [Lit.wf, IntKind.min, IntKind.max, IntKind.signed, IntKind.bits] at this
    simp
    omega
theorem open_row8 {H : Type} {enc : TypeId × Value → H} {W : World} {base : Nat} {held : Bool} {a : Option Addr} {len cap : Nat} {d : DataW H} {p : List MemPlace}
    (h : ∃ fuel, DataW.trod enc Try.prog W base (fun _ => true) held fuel 25 (Value.slice a len cap).cells.toList = some (d, p)) : ∃ zs, IsRow .u8 W a len cap zs := by
  obtain ⟨fuel, hf⟩ := h
  rcases open_ints Try.underlying25 Try.underlying5 (by kernel_rfl) hf with ⟨hcs, _⟩ | ⟨x, l, c, zs, hcs, _, hl, hm, hz, _, hcell, hwz⟩
  · simp [Value.cells] at hcs
    obtain ⟨rfl, rfl, rfl⟩ := hcs
    exact ⟨[], .inl ⟨rfl, rfl, rfl, rfl⟩⟩
  · simp [Value.cells] at hcs
    obtain ⟨rfl, rfl, rfl⟩ := hcs
    exact ⟨zs, .inr ⟨_, rfl, hl, hm, by simpa using hz, hcell, hwz⟩⟩
/-- The bytes that came in, as natural numbers. -/
def rowD (zs : List Int) (i : Nat) : Nat := (rowF zs i).toNat
theorem IsRow.bs {w : World} {a : Option Addr} {len cap : Nat} {zs : List Int} (h : IsRow .u8 w a len cap zs) : Cr.Bs w (.slice a len cap) len (rowD zs) :=
  Sl.congr h.sl fun i _ => by have := h.bd i; unfold rowD; omega
theorem IsRow.lt {w : World} {a : Option Addr} {len cap : Nat} {zs : List Int} (h : IsRow .u8 w a len cap zs) (i : Nat) : rowD zs i < 256 := by
  have := h.bd i
  unfold rowD
  omega
theorem c39 : Try.prog.cellsOf 39 = 4 := by kernel_rfl
theorem c5 : Try.prog.cellsOf 5 = 1 := by kernel_rfl
theorem open_four {H : Type} {enc : TypeId × Value → H} {W : World} {r : Reach} {base b0 : Nat} {held : Bool} {v : Value} {d : DataW H} {p : List MemPlace}
    (hv : Value.okWide Try.prog W r b0 39 v) (h : ∃ fuel, DataW.trod enc Try.prog W base (fun _ => true) held fuel 39 v.cells.toList = some (d, p)) :
    ∃ x0 x1 x2 x3 : Nat, v = .agg #[.int .u8 (x0 : Int), .int .u8 (x1 : Int), .int .u8 (x2 : Int), .int .u8 (x3 : Int)] ∧ x0 < 256 ∧ x1 < 256 ∧ x2 < 256 ∧ x3 < 256 := by
  simp only [Value.okWide, Try.underlying39] at hv
  obtain ⟨cs, rfl, h2, _⟩ := hv
  obtain ⟨fuel, hf⟩ := h
  rw [c39] at h2
  obtain ⟨l⟩ := cs
  obtain ⟨xs, m, rfl, _, hl, hlen, hx⟩ := DataW.trod_array Try.underlying39 hf
  rw [c5] at hx
  match l, h2 with
  | [a, b, c, e], _ =>
    have g : ∀ (i : Nat) (u : Value), i < 4 → (([a, b, c, e] : List Value).drop (i * 1)).take 1 = [u] → ∃ n : Nat, u = .int .u8 (n : Int) ∧ n < 256 := by
      intro i u hi hu
      have h3 := hx i hi
      simp only [Value.cells] at h3
      rw [hu, List.getElem?_eq_getElem (by omega)] at h3
      obtain ⟨n, h4, _, h5⟩ := DataW.trod_int Try.underlying5 h3
      simp [Lit.wf, IntKind.min, IntKind.max, IntKind.signed, IntKind.bits] at h5
      refine ⟨n.toNat, ?_, by omega⟩
      rw [show ((n.toNat : Nat) : Int) = n by omega]
      exact (List.cons.inj h4).1
    obtain ⟨x0, rfl, k0⟩ := g 0 a (by omega) rfl
    obtain ⟨x1, rfl, k1⟩ := g 1 b (by omega) rfl
    obtain ⟨x2, rfl, k2⟩ := g 2 c (by omega) rfl
    obtain ⟨x3, rfl, k3⟩ := g 3 e (by omega) rfl
    exact ⟨x0, x1, x2, x3, rfl, k0, k1, k2, k3⟩
end Go.Proofs.Ytmcmiojidgdjpaa
