/- Walks of keep.TwinItems, slices.Clone, keep.Items of what is the same. -/
import Derived.Test.YtofaoagmchokmaaA1
namespace Go.Proofs.Ytofaoagmchokmaa
open Go.RowKit

set_option maxRecDepth 100000 in
theorem twin_k (L : List It) (v : Value) (w : World) (h : KL w v L) (hl : L.length ≤ 1000) :
    Calls Try.prog 6 #[v] w fun e w' => ∃ v', e = .returned v' ∧ KO w' w.heap.size v' L ∧ Below w.heap.size w w' := by
  have HI := hide h
  have LN := hide (show L.length ≤ 1000000 by omega)
  obtain ⟨q, c, rfl⟩ := kl_form h
  obtain ⟨n, hn⟩ : ∃ n, L.length = n := ⟨_, rfl⟩
  rw [hn] at HI ⊢
  clear hn h hl
  go_enter Try.func6, Try.ntmps6
  go_wp2_with (at_builtin; refine wpList_addK (by simp [Region.wanted]) _ _ rfl w.heap.size _ _ [] L rfl (KO.nil _ _) rfl (unhide HI) (by simp) (unhide LN) (Nat.le_refl _) ?_; intro v4 w4 o4 b4; have O4 := hide o4; have B4 := hide b4; clear o4 b4)
  go_ret
  exact ⟨_, rfl, unhide O4, unhide B4⟩
set_option maxRecDepth 100000 in
theorem clone_k (L : List It) (v : Value) (w : World) (h : KL w v L) (hl : L.length ≤ 1000) :
    Calls Try.prog 17 #[v] w fun e w' => ∃ v', e = .returned v' ∧ KO w' w.heap.size v' L ∧ Below w.heap.size w w' := by
  have q22 : ∀ (w : World) (a : Option Addr) (n c n' c' : Nat), (binOp .eql 22 (.slice a n c) (.slice none n' c')).run Try.prog w = .ok (.bool a.isNone) w := fun w a n c n' c' => Lib.run_eql_slice_nil w _ _ a n c n' c' Try.underlying22
  have HI := hide (show ∀ o, KL (w.alloc o) v L from fun o => h.below ((Below.refl _ _).alloc (Nat.le_refl _) o) (Nat.le_refl _))
  have LN := hide (show L.length ≤ 1000000 by omega)
  have HO := hide (World.ownsRow_lit (base := w.heap.size) (e := 41) (size := 2) w #[] 0 (Nat.le_refl _) (by unfold maxLen; omega) rfl)
  obtain ⟨q, c, rfl, hq, -⟩ := kl_src h
  cases q with
  | none =>
    obtain ⟨h0, rfl⟩ := hq rfl
    obtain rfl : L = [] := List.length_eq_zero_iff.1 h0
    clear h hl hq h0 HI LN HO
    show Calls Try.prog 17 #[.slice none 0 0] w _
    go_enter Try.func17, Try.ntmps17
    go_wp2
    go_ret
    exact ⟨_, rfl, KO.nil _ _, Below.refl _ _⟩
  | some a =>
    obtain ⟨n, hn⟩ : ∃ n, L.length = n := ⟨_, rfl⟩
    rw [hn] at HI ⊢
    clear hn h hl hq
    go_enter Try.func17, Try.ntmps17
    go_wp2_with (at_builtin; refine wpList_addK (by simp [Region.wanted]) _ _ rfl w.heap.size _ _ [] L rfl (unhide HO) rfl (unhide HI _) (by simp) (unhide LN) (by simp) ?_; intro v4 w4 o4 b4; have O4 := hide o4; have B4 := hide ((below_alloc (Below.refl w.heap.size w) _).trans b4); clear o4 b4)
    go_ret
    exact ⟨_, rfl, unhide O4, unhide B4⟩
set_option maxHeartbeats 1000000 in
theorem items_same (L : List It) (v v' : Value) (w : World) (h : KL w v L) (h' : KL w v' L) :
    Calls Try.prog 9 #[v, v'] w fun e w' => e = .returned (.bool true) ∧ Below w.heap.size w w' := by
  obtain ⟨q, c, rfl⟩ := kl_form h
  obtain ⟨q', c', rfl⟩ := kl_form h'
  obtain ⟨n, hn⟩ : ∃ n, L.length = n := ⟨_, rfl⟩
  have HI := hide h
  have HJ := hide h'
  rw [hn] at HI HJ ⊢
  clear h hn h'
  go_enter Try.func9, Try.ntmps9
  go_wp2
  go_loopw [5] (fun xi w3 => ∃ k : Nat, k ≤ n ∧ xi = .int .i64 k ∧ Below w.heap.size w w3) (fun i _ => n - (intOf i).toNat)
  case atStart => exact ⟨0, by omega, rfl, Below.refl _ _⟩
  case round =>
    obtain ⟨k, hk, rfl, hb⟩ := hrel
    have HB := hide hb
    by_cases hlt : k < n
    · obtain ⟨b, off, rfl, hle, hc, hbb, c1, c2⟩ := kl_cell ((unhide HI).below hb (Nat.le_refl _)) hlt
      obtain ⟨b', off', rfl, hle', hc', hbb', c1', c2'⟩ := kl_cell ((unhide HJ).below hb (Nat.le_refl _)) hlt
      clear hb
      generalize kz L k = y at *
      obtain ⟨y1, y2⟩ := y
      go_wp2
      go_region
      all_goals go_wp2
      all_goals go_roundw
      case rel => exact ⟨k + 1, by omega, by go_num, below_drewN (unhide HB) _⟩
      case measure => simp [intOf]; omega
    · obtain rfl : k = n := by omega
      go_wp2
      go_ret
      exact ⟨rfl, unhide HB⟩
end Go.Proofs.Ytofaoagmchokmaa
