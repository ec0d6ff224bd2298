/- Walks of the page's Drop, OlderKids, of keep.TwinKids, slices.Clone, keep.Kids of what is the same. -/
import Derived.Test.YtgglnhnokhpnpaaDoorJ2
import Derived.Lib.SliceRun
namespace Go.Proofs.YtgglnhnokhpnpaaDoor
open Go.RowKit

set_option maxHeartbeats 1000000 in
set_option maxRecDepth 100000 in
theorem rdrop_k (L : List Kd) (x : Int) (v : Value) (w : World) (h : KL w v L) (hl : L.length ≤ 1000) :
    Calls Tryd.prog 14 #[v, .int .i64 x] w fun e w' => ∃ v', e = .returned v' ∧ KO w' w.heap.size v' (dr L x) ∧ Below w.heap.size w w' := by
  obtain ⟨q, c, rfl⟩ := kl_form h
  obtain ⟨n, hn⟩ : ∃ n, L.length = n := ⟨_, rfl⟩
  have HN := hide hn
  have HI := hide h
  have HE := hide (show dr (L.take n) x = dr L x by rw [← hn, List.take_length])
  rw [hn] at HI hl ⊢
  clear h hn
  go_enter Tryd.func14, Tryd.ntmps14
  go_wp2
  go_loopw [5, 6] (fun u i w3 => ∃ (V : Value) (k : Nat), k ≤ n ∧ u = V ∧ i = .int .i64 k ∧ KO w3 w.heap.size V (dr (L.take k) x) ∧ Below w.heap.size w w3) (fun _ i _ => n - (intOf i).toNat)
  case atStart => exact ⟨_, 0, by omega, rfl, rfl, KO.nil _ _, Below.refl _ _⟩
  case round =>
    obtain ⟨V, k, hk, hu, rfl, ho, hb⟩ := hrel
    obtain rfl := hu.symm
    have HO := hide ho
    have HB := hide hb
    by_cases hlt : k < n
    · obtain ⟨b, off, rfl, hle, hc, hbb, c1, c2, c3⟩ := kl_cell ((unhide HI).below hb (Nat.le_refl _)) hlt (by rw [unhide HN]; exact Nat.le_refl _)
      have hkl : k < L.length := by rw [unhide HN]; exact hlt
      clear ho hb
      by_cases hx : (kz L k).1 = x
      · have E := hide (dr_no hkl hx)
        have e1 : ((kz L k).1 != x) = false := by simp [hx]
        clear hx hkl
        generalize kz L k = y at *
        obtain ⟨y1, y2, y3⟩ := y
        go_wp2
        go_roundw
        case rel => exact ⟨_, k + 1, by omega, rfl, by go_num, by rw [unhide E]; exact unhide HO, unhide HB⟩
        case measure => simp [intOf]; omega
      · have E := hide (dr_yes hkl hx)
        have e1 : ((kz L k).1 != x) = true := by simp [hx]
        have LN := hide (show (dr (L.take k) x).length ≤ 1000000 by have := dr_len (L.take k) x; simp at this; omega)
        clear hx hkl
        generalize kz L k = y at *
        obtain ⟨y1, y2, y3⟩ := y
        have B2 := hide (show ∀ o1, Below w.heap.size w (wr.alloc o1) from fun o1 => (unhide HB).alloc (unhide HB).size _)
        go_wp2_with (at_builtin; refine wpList_addK (by simp [Region.wanted]) _ _ rfl w.heap.size _ _ _ [(y1, y2, y3)] rfl ((unhide HO).alloc _) rfl (kl_lit' _ _ _ _ _ rfl) (unhide LN) (by simp) (unhide B2 _).size ?_; intro v4 w4 o4 b4; have O4 := hide o4; have B4 := hide ((unhide B2 _).trans b4); clear o4 b4)
        go_roundw
        case rel => exact ⟨_, k + 1, by omega, rfl, by go_num, by rw [unhide E]; exact unhide O4, unhide B4⟩
        case measure => simp [intOf]; omega
    · obtain rfl : k = n := by omega
      clear ho hb
      go_wp2
      go_ret
      exact ⟨_, rfl, by rw [← unhide HE]; exact unhide HO, unhide HB⟩
set_option maxHeartbeats 1000000 in
set_option maxRecDepth 100000 in
theorem rolder_k (L : List Kd) (v : Value) (w : World) (h : KL w v L) (hl : L.length ≤ 1000) (hr : ∀ x ∈ L, 0 ≤ x.2.2 ∧ x.2.2 ≤ 6) :
    Calls Tryd.prog 20 #[v] w fun e w' => ∃ v', e = .returned v' ∧ KO w' w.heap.size v' (old L) ∧ Below w.heap.size w w' := by
  obtain ⟨q, c, rfl⟩ := kl_form h
  obtain ⟨n, hn⟩ : ∃ n, L.length = n := ⟨_, rfl⟩
  have HN := hide hn
  have HI := hide h
  have HR := hide hr
  have HE := hide (show old (L.take n) = old L by rw [← hn, List.take_length])
  rw [hn] at HI hl ⊢
  clear h hn hr
  go_enter Tryd.func20, Tryd.ntmps20
  go_wp2
  go_loopw [3, 4] (fun u i w3 => ∃ (V : Value) (k : Nat), k ≤ n ∧ u = V ∧ i = .int .i64 k ∧ KO w3 w.heap.size V (old (L.take k)) ∧ Below w.heap.size w w3) (fun _ i _ => n - (intOf i).toNat)
  case atStart => exact ⟨_, 0, by omega, rfl, rfl, KO.nil _ _, Below.refl _ _⟩
  case round =>
    obtain ⟨V, k, hk, hu, rfl, ho, hb⟩ := hrel
    obtain rfl := hu.symm
    have HO := hide ho
    have HB := hide hb
    by_cases hlt : k < n
    · obtain ⟨b, off, rfl, hle, hc, hbb, c1, c2, c3⟩ := kl_cell ((unhide HI).below hb (Nat.le_refl _)) hlt (by rw [unhide HN]; exact Nat.le_refl _)
      have hkl : k < L.length := by rw [unhide HN]; exact hlt
      have ha := unhide HR _ (kz_mem hkl)
      clear ho hb
      by_cases hx : (kz L k).2.2 + 1 ≤ 6
      · have E := hide (old_yes hkl hx)
        have LN := hide (show (old (L.take k)).length ≤ 1000000 by have := old_len (L.take k); simp at this; omega)
        clear hkl
        generalize kz L k = y at *
        obtain ⟨y1, y2, y3⟩ := y
        obtain ⟨ha1, ha2⟩ := ha
        simp only at ha1 ha2 hx
        have B2 := hide (show ∀ o1 o2, Below w.heap.size w ((wr.alloc o1).alloc o2) from fun o1 o2 => ((unhide HB).alloc (unhide HB).size _).alloc ((unhide HB).alloc (unhide HB).size _).size _)
        go_wp2_with (at_builtin; refine wpList_addK (by simp [Region.wanted]) _ _ rfl w.heap.size _ _ _ [(y1, y2, y3 + 1)] rfl (((unhide HO).alloc _).alloc _) rfl (kl_lit' _ _ _ _ _ (by simp)) (unhide LN) (by simp) (unhide B2 _ _).size ?_; intro v4 w4 o4 b4; have O4 := hide o4; have B4 := hide ((unhide B2 _ _).trans b4); clear o4 b4)
        go_roundw
        case rel => exact ⟨_, k + 1, by omega, rfl, by go_num, by rw [unhide E]; exact unhide O4, unhide B4⟩
        case measure => simp [intOf]; omega
      · have E := hide (old_no hkl hx)
        clear hkl
        generalize kz L k = y at *
        obtain ⟨y1, y2, y3⟩ := y
        obtain ⟨ha1, ha2⟩ := ha
        simp only at ha1 ha2 hx
        go_wp2
        go_roundw
        case rel => exact ⟨_, k + 1, by omega, rfl, by go_num, by rw [unhide E]; exact (unhide HO).alloc _, (unhide HB).alloc (unhide HB).size _⟩
        case measure => simp [intOf]; omega
    · obtain rfl : k = n := by omega
      clear ho hb
      go_wp2
      go_ret
      exact ⟨_, rfl, by rw [← unhide HE]; exact unhide HO, unhide HB⟩
set_option maxRecDepth 100000 in
theorem twin_k (L : List Kd) (v : Value) (w : World) (h : KL w v L) (hl : L.length ≤ 1000) :
    Calls Tryd.prog 9 #[v] w fun e w' => ∃ v', e = .returned v' ∧ KO w' w.heap.size v' L ∧ Below w.heap.size w w' := by
  have HI := hide h
  have LN := hide (show L.length ≤ 1000000 by omega)
  obtain ⟨q, c, rfl⟩ := kl_form h
  obtain ⟨n, hn⟩ : ∃ n, L.length = n := ⟨_, rfl⟩
  rw [hn] at HI ⊢
  clear hn h hl
  go_enter Tryd.func9, Tryd.ntmps9
  go_wp2_with (at_builtin; refine wpList_addK (by simp [Region.wanted]) _ _ rfl w.heap.size _ _ [] L rfl (KO.nil _ _) rfl (unhide HI) (by simp) (unhide LN) (Nat.le_refl _) ?_; intro v4 w4 o4 b4; have O4 := hide o4; have B4 := hide b4; clear o4 b4)
  go_ret
  exact ⟨_, rfl, unhide O4, unhide B4⟩
set_option maxRecDepth 100000 in
theorem clone_k (L : List Kd) (v : Value) (w : World) (h : KL w v L) (hl : L.length ≤ 1000) :
    Calls Tryd.prog 28 #[v] w fun e w' => ∃ v', e = .returned v' ∧ KO w' w.heap.size v' L ∧ Below w.heap.size w w' := by
  have q22 : ∀ (w : World) (a : Option Addr) (n c n' c' : Nat), (binOp .eql 22 (.slice a n c) (.slice none n' c')).run Tryd.prog w = .ok (.bool a.isNone) w := fun w a n c n' c' => Lib.run_eql_slice_nil w _ _ a n c n' c' Tryd.underlying22
  have HI := hide (show ∀ o, KL (w.alloc o) v L from fun o => h.below ((Below.refl _ _).alloc (Nat.le_refl _) o) (Nat.le_refl _))
  have LN := hide (show L.length ≤ 1000000 by omega)
  have HO := hide (World.ownsRow_lit (base := w.heap.size) (e := 45) (size := 3) w #[] 0 (Nat.le_refl _) (by unfold maxLen; omega) rfl)
  obtain ⟨q, c, rfl, hq, -⟩ := kl_src h
  cases q with
  | none =>
    obtain ⟨h0, rfl⟩ := hq rfl
    obtain rfl : L = [] := List.length_eq_zero_iff.1 h0
    clear h hl hq h0 HI LN HO
    show Calls Tryd.prog 28 #[.slice none 0 0] w _
    go_enter Tryd.func28, Tryd.ntmps28
    go_wp2
    go_ret
    exact ⟨_, rfl, KO.nil _ _, Below.refl _ _⟩
  | some a =>
    obtain ⟨n, hn⟩ : ∃ n, L.length = n := ⟨_, rfl⟩
    rw [hn] at HI ⊢
    clear hn h hl hq
    go_enter Tryd.func28, Tryd.ntmps28
    go_wp2_with (at_builtin; refine wpList_addK (by simp [Region.wanted]) _ _ rfl w.heap.size _ _ [] L rfl (unhide HO) rfl (unhide HI _) (by simp) (unhide LN) (by simp) ?_; intro v4 w4 o4 b4; have O4 := hide o4; have B4 := hide ((below_alloc (Below.refl w.heap.size w) _).trans b4); clear o4 b4)
    go_ret
    exact ⟨_, rfl, unhide O4, unhide B4⟩
set_option maxHeartbeats 1000000 in
theorem kids_same (L : List Kd) (v v' : Value) (w : World) (h : KL w v L) (h' : KL w v' L) :
    Calls Tryd.prog 12 #[v, v'] w fun e w' => e = .returned (.bool true) ∧ Below w.heap.size w w' := by
  obtain ⟨q, c, rfl⟩ := kl_form h
  obtain ⟨q', c', rfl⟩ := kl_form h'
  obtain ⟨n, hn⟩ : ∃ n, L.length = n := ⟨_, rfl⟩
  have HN := hide (show n ≤ L.length by omega)
  have HI := hide h
  have HJ := hide h'
  rw [hn] at HI HJ ⊢
  clear h hn h'
  go_enter Tryd.func12, Tryd.ntmps12
  go_wp2
  go_loopw [5] (fun xi w3 => ∃ k : Nat, k ≤ n ∧ xi = .int .i64 k ∧ Below w.heap.size w w3) (fun i _ => n - (intOf i).toNat)
  case atStart => exact ⟨0, by omega, rfl, Below.refl _ _⟩
  case round =>
    obtain ⟨k, hk, rfl, hb⟩ := hrel
    have HB := hide hb
    by_cases hlt : k < n
    · obtain ⟨b, off, rfl, hle, hc, hbb, c1, c2, c3⟩ := kl_cell ((unhide HI).below hb (Nat.le_refl _)) hlt (unhide HN)
      obtain ⟨b', off', rfl, hle', hc', hbb', c1', c2', c3'⟩ := kl_cell ((unhide HJ).below hb (Nat.le_refl _)) hlt (unhide HN)
      clear hb
      generalize kz L k = y at *
      obtain ⟨y1, y2, y3⟩ := y
      go_wp2
      go_region
      all_goals go_wp2
      all_goals go_roundw
      case rel => exact ⟨k + 1, by omega, by go_num, below_drewN (unhide HB) _⟩
      case measure => simp [intOf]; omega
    · obtain rfl : k = n := by omega
      go_wp2
      go_ret
      exact ⟨rfl, unhide HB⟩
end Go.Proofs.YtgglnhnokhpnpaaDoor
