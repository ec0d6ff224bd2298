/- Plain facts of layer 4; walks of isSize, Size, limit, fits, In, Key, Here, Fits. Slices of bytes and of ints; walks of copied, Twin, TwinInts. Walks of keep.Bytes, keep.Ints, of what is the same. Walks of codec.Put. Walks of codec.Get. Walks of codec.PutList. Walks of codec.GetList. Walks of the page's Number and Bytes; append as a step that may be guarded. Walk of the page's Bytes; append as a step that may be guarded. Walks of CodecBack. What the calls of layer 4 answer, in one word each. Walks of slices.Grow of nothing and of slices.Concat of two slices. -/
import Derived.Test.YtmcmiojidgdjpaaBn2
import Derived.Test.YtmcmiojidgdjpaaRows
import Derived.WalkKit
import Derived.WalkSpells
import Derived.StillTactics
import Derived.Laws.Pointers
import Derived.RowKit3
import Derived.Deep.QuietTactic
import Derived.BigQuiet
import Derived.Deep.OwnRows
import Derived.Laws.Rows
import Derived.Laws.Tables
import Derived.Laws.AppendOwn
import Derived.Laws.AppendOwnNone
import Derived.Laws.OwnMore
import Derived.OwnWalk
import Derived.Deep.DeepCutAuto
import Derived.Lib.AppendZerosOnto
import Derived.LoopN
namespace Go.Proofs.Ytmcmiojidgdjpaa.Co
open Go.RowKit

/-- A size that a number may have. -/
abbrev IsZ (s : Int) : Prop := s = 1 ∨ s = 2 ∨ s = 4 ∨ s = 8
/-- The least number that is too great. -/
def lim (s : Int) : Int := if s = 1 then 256 else if s = 2 then 65536 else if s = 4 then 4294967296 else 4611686018427387904

theorem isSize_t (s : Int) (h : IsZ s) (w : World) : Calls Try.prog 42 #[.int .i64 s] w fun e w' => e = .returned (.bool true) ∧ w' = w := by
  rcases h with rfl | rfl | rfl | rfl <;>
  · go_enter Try.func42, Try.ntmps42
    go_wp2
    go_ret
    exact ⟨rfl, rfl⟩
theorem isSize_f (s : Int) (h : ¬ IsZ s) (w : World) : Calls Try.prog 42 #[.int .i64 s] w fun e w' => e = .returned (.bool false) ∧ w' = w := by
  have h1 : (s == 1) = false := by simp; intro e; exact h (.inl e)
  have h2 : (s == 2) = false := by simp; intro e; exact h (.inr (.inl e))
  have h4 : (s == 4) = false := by simp; intro e; exact h (.inr (.inr (.inl e)))
  have h8 : (s == 8) = false := by simp; intro e; exact h (.inr (.inr (.inr e)))
  clear h
  go_enter Try.func42, Try.ntmps42
  go_wp2
  go_ret
  exact ⟨rfl, rfl⟩
theorem limit_is (s : Int) (h : IsZ s) (w : World) : Calls Try.prog 62 #[.int .i64 s] w fun e w' => e = .returned (.int .i64 (lim s)) ∧ w' = w := by
  rcases h with rfl | rfl | rfl | rfl <;>
  · go_enter Try.func62, Try.ntmps62
    go_wp2
    go_ret
    exact ⟨rfl, rfl⟩
theorem in_any (n lo hi : Int) (w : World) : Calls Try.prog 30 #[.int .i64 n, .int .i64 lo, .int .i64 hi] w fun e w' => e = .returned (.bool (decide (lo ≤ n ∧ n ≤ hi))) ∧ w' = w := by
  by_cases h1 : lo ≤ n
  · by_cases h2 : n ≤ hi
    · have e : decide (lo ≤ n ∧ n ≤ hi) = true := decide_eq_true ⟨h1, h2⟩
      rw [e]
      clear e
      go_enter Try.func30, Try.ntmps30
      go_wp2
      go_ret
      exact ⟨rfl, rfl⟩
    · have e : decide (lo ≤ n ∧ n ≤ hi) = false := decide_eq_false (fun h => h2 h.2)
      rw [e]
      clear e
      go_enter Try.func30, Try.ntmps30
      go_wp2
      go_ret
      exact ⟨rfl, rfl⟩
  · have e : decide (lo ≤ n ∧ n ≤ hi) = false := decide_eq_false (fun h => h1 h.1)
    rw [e]
    clear e
    go_enter Try.func30, Try.ntmps30
    go_wp2
    go_ret
    exact ⟨rfl, rfl⟩
/-- A number of so many bytes. -/
abbrev IsNum (s n : Int) : Prop := 0 ≤ n ∧ n < lim s
/-- So many bytes stand at a place. -/
abbrev Here (m : Nat) (a z : Int) : Prop := 0 ≤ a ∧ a + z ≤ m
theorem fits_any (p : Option Addr) (m cap : Nat) (a z : Int) (hm : m ≤ maxLen) (hz : 0 ≤ z) (hz2 : z ≤ 1000) (w : World) :
    Calls Try.prog 43 #[.slice p m cap, .int .i64 a, .int .i64 z] w fun e w' => e = .returned (.bool (decide (Here m a z))) ∧ w' = w := by
  unfold maxLen at hm
  by_cases h1 : 0 ≤ a
  · have hsub : wrap64 ((m : Int) - z) = m - z := by unfold wrap64; omega
    by_cases h2 : a ≤ m - z
    · have e : decide (Here m a z) = true := decide_eq_true ⟨h1, by omega⟩
      rw [e]
      clear e
      go_enter Try.func43, Try.ntmps43
      go_wp2
      go_ret
      exact ⟨rfl, rfl⟩
    · have e : decide (Here m a z) = false := decide_eq_false (fun h => h2 (by have := h.2; omega))
      rw [e]
      clear e
      go_enter Try.func43, Try.ntmps43
      go_wp2
      go_ret
      exact ⟨rfl, rfl⟩
  · have e : decide (Here m a z) = false := decide_eq_false (fun h => h1 h.1)
    rw [e]
    clear e
    go_enter Try.func43, Try.ntmps43
    go_wp2
    go_ret
    exact ⟨rfl, rfl⟩
theorem here_any (p : Option Addr) (m cap : Nat) (a z : Int) (hm : m ≤ maxLen) (hz : 0 ≤ z) (w : World) :
    Calls Try.prog 54 #[.slice p m cap, .int .i64 a, .int .i64 z] w fun e w' => e = .returned (.bool (decide (Here m a z))) ∧ w' = w := by
  unfold maxLen at hm
  by_cases h1 : 0 ≤ a ∧ a ≤ m
  · have c := hide (in_any a 0 m)
    rw [decide_eq_true h1] at c
    have hsub : wrap64 ((m : Int) - a) = m - a := by unfold wrap64; omega
    by_cases h2 : z ≤ m - a
    · have e : decide (Here m a z) = true := decide_eq_true ⟨h1.1, by omega⟩
      rw [e]
      clear e
      go_enter Try.func54, Try.ntmps54
      go_wp2_with (go_at_call 30; refine (unhide c _).mono ?_; rintro e w1 ⟨rfl, rfl⟩)
      go_ret
      exact ⟨rfl, rfl⟩
    · have e : decide (Here m a z) = false := decide_eq_false (fun h => h2 (by have := h.2; omega))
      have hd := decide_eq_false h2
      rw [e]
      clear e
      go_enter Try.func54, Try.ntmps54
      go_wp2_with (go_at_call 30; refine (unhide c _).mono ?_; rintro e w1 ⟨rfl, rfl⟩)
      go_ret
      exact ⟨rfl, rfl⟩
  · have c := hide (in_any a 0 m)
    rw [decide_eq_false h1] at c
    have e : decide (Here m a z) = false := decide_eq_false (fun h => h1 ⟨h.1, by have := h.2; omega⟩)
    rw [e]
    clear e h1
    go_enter Try.func54, Try.ntmps54
    go_wp2_with (go_at_call 30; refine (unhide c _).mono ?_; rintro e w1 ⟨rfl, rfl⟩)
    go_ret
    exact ⟨rfl, rfl⟩
end Go.Proofs.Ytmcmiojidgdjpaa.Co
namespace Go.Proofs.Ytmcmiojidgdjpaa.Co
open Go.RowKit

theorem info3 : (Try.prog.info? 3).map (fun i => (i.zero, i.size, i.bytes)) = some (some (.int .i64 0), 1, 8) := by kernel_rfl
theorem info5 : (Try.prog.info? 5).map (fun i => (i.zero, i.size, i.bytes)) = some (some (.int .u8 0), 1, 1) := by kernel_rfl

set_option maxRecDepth 100000 in
theorem copied_any (F : Nat → Int) (v : Value) (m k : Nat) (w : World) (hv : Sl .u8 w v m F) (hm : m ≤ 1000000) (hk : k ≤ 1000000) :
    Calls Try.prog 63 #[v, .int .i64 (k : Int)] w fun e w' => e = .returned (.slice (some ⟨w.heap.size, 0, none⟩) m (m + k)) ∧ w'.ownsRow w.heap.size 5 1 (.slice (some ⟨w.heap.size, 0, none⟩) m (m + k)) m (vL .u8 F m) ∧ Below w.heap.size w w' := by
  obtain ⟨i, hi, hz0, hz1, hz2⟩ := info_parts info5
  obtain ⟨p, cap, rfl, hc1, hc2⟩ := hv.shape
  unfold maxLen at hc2
  have HV := hide hv
  clear hv
  go_enter Try.func63, Try.ntmps63
  go_wp2_with (at_make; refine wpList_make_own _ rfl _ _ 25 rfl w.heap.size 5 i (.int .u8 0) 1 Try.underlying25 hi hz0 hz1 .i64 .i64 ((m : Int) + k) (m + k) rfl rfl (by omega) (by rw [hz2]; omega) (by unfold maxLen; omega) (Nat.le_refl _) ?_)
  intro w1 hown hgrow
  have hbel : Below w.heap.size w w1 := (Below.refl _ _).grown hgrow (Nat.le_refl _) (by intro k h; cases h)
  have hcs := ((unhide HV).below hbel (Nat.le_refl _)).cells
  clear hgrow
  go_wp2_with (at_builtin; refine wpList_append_fits_any _ rfl (.tmp 9) (.tmp 10) 25 rfl w.heap.size 5 i 1 Try.underlying25 hi hz1 w.heap.size 0 (m + k) [] rfl hown p m cap (vL .u8 F m) rfl (by rw [vL_length, Nat.mul_one]) hcs.1 hcs.2 (vL_one _ F m) (by omega) ?_)
  intro w2 hown2 hgrow2
  go_wp2
  go_ret
  exact ⟨rfl, hown2, hbel.grown hgrow2 hbel.size (by intro k h; cases h; exact Nat.le_refl _)⟩

set_option maxRecDepth 100000 in
theorem twin_any (F : Nat → Int) (v : Value) (n : Nat) (w : World) (hv : Sl .u8 w v n F) (hn : n ≤ 1000000) :
    Calls Try.prog 9 #[v] w fun e w' => ∃ v', e = .returned v' ∧ w'.ownsRow w.heap.size 5 1 v' n (vL .u8 F n) ∧ Below w.heap.size w w' := by
  obtain ⟨i, hi, hz0, hz1, hz2⟩ := info_parts info5
  have key : ∀ (x : Addr) (cap : Nat), (∀ j u, (vL .u8 F n)[j]? = some u → w.cell? (x.add j) = some u) → Calls Try.prog 9 #[.slice (some x) n cap] w fun e w' => ∃ v', e = .returned v' ∧ w'.ownsRow w.heap.size 5 1 v' n (vL .u8 F n) ∧ Below w.heap.size w w' := by
    intro x cap hc
    have HC := hide hc
    clear hc
    go_enter Try.func9, Try.ntmps9
    go_wp2_with (at_builtin; refine wpList_append_own _ rfl (.tmp 4) (.tmp 5) 25 rfl w.heap.size 5 i (.int .u8 0) 1 1 Try.underlying25 hi hz0 hz1 hz2 rfl (by decide) (.slice none 0 0) 0 [] rfl (World.ownsRow_nil _ _ _ _) x n cap (vL .u8 F n) rfl (by rw [vL_length]; omega) (unhide HC) (vL_one _ F n) (by unfold maxLen; omega) (by omega) (Nat.le_refl _) ?_)
    intro v2 w2 hown2 hgrow2 _
    go_wp2
    go_ret
    refine ⟨v2, rfl, by simpa using hown2, (Below.refl _ _).grown hgrow2 (Nat.le_refl _) (by intro k h; cases h)⟩
  obtain ⟨p, cap, rfl, hc1, hc2⟩ := hv.shape
  have hcs := hv.cells
  cases p with
  | none =>
    obtain ⟨rfl, rfl⟩ := hcs.1 rfl
    clear hcs
    go_enter Try.func9, Try.ntmps9
    go_wp2_with (at_builtin; refine wpList_append_own_none rfl (.tmp 4) (.tmp 5) 25 rfl w.heap.size 5 i 1 Try.underlying25 hi (.slice none 0 0) 0 [] rfl (World.ownsRow_nil _ _ _ _) rfl ?_)
    go_wp2
    go_ret
    exact ⟨_, rfl, World.ownsRow_nil _ _ _ _, Below.refl _ _⟩
  | some x => exact key x cap (hcs.2 x rfl)
end Go.Proofs.Ytmcmiojidgdjpaa.Co
namespace Go.Proofs.Ytmcmiojidgdjpaa.Co
open Go.RowKit

set_option maxRecDepth 100000 in
theorem bytes_t (F : Nat → Int) (va vb : Value) (n : Nat) (w : World) (ha : Sl .u8 w va n F) (hb : Sl .u8 w vb n F) :
    Calls Try.prog 14 #[va, vb] w fun e w' => e = .returned (.bool true) ∧ ∃ m, w' = w.drewN m := by
  obtain ⟨pa, ca, rfl, la, ka⟩ := ha.shape
  obtain ⟨pb, cb, rfl, lb, kb⟩ := hb.shape
  unfold maxLen at ka kb
  have HA := hide ha
  have HB := hide hb
  clear ha hb
  go_enter Try.func14, Try.ntmps14
  go_wp2
  go_loopw [5] (fun xi w1 => ∃ k : Nat, k ≤ n ∧ xi = .int .i64 k ∧ ∃ m, w1 = w.drewN m) (fun i _ => n - (intOf i).toNat)
  case atStart => exact ⟨0, by omega, rfl, 0, rfl⟩
  case round =>
    obtain ⟨k, hk, rfl, m, hW⟩ := hrel
    by_cases hlt : k < n
    · obtain ⟨ba, oa, rfl, _, hca⟩ := (unhide HA).some (by omega)
      obtain ⟨bb, ob, rfl, _, hcb⟩ := (unhide HB).some (by omega)
      have c1 : wr.cell? ⟨ba, oa + k, none⟩ = some (.int .u8 (F k)) := by rw [hW]; exact hca k hlt
      have c2 : wr.cell? ⟨bb, ob + k, none⟩ = some (.int .u8 (F k)) := by rw [hW]; exact hcb k hlt
      have HW := hide hW
      clear hW hca hcb
      go_wp2
      go_quiet (fail)
      go_wp2
      go_roundw
      case rel => exact ⟨k + 1, by omega, by go_num, m + nq, by rw [unhide HW, World.drewN_drewN]⟩
      case measure => simp [intOf]; omega
    · subst hW
      go_wp2
      go_ret
      exact ⟨rfl, m, rfl⟩
set_option maxRecDepth 100000 in
theorem ints_t (F : Nat → Int) (va vb : Value) (n : Nat) (w : World) (ha : Sl .i64 w va n F) (hb : Sl .i64 w vb n F) :
    Calls Try.prog 29 #[va, vb] w fun e w' => e = .returned (.bool true) ∧ ∃ m, w' = w.drewN m := by
  obtain ⟨pa, ca, rfl, la, ka⟩ := ha.shape
  obtain ⟨pb, cb, rfl, lb, kb⟩ := hb.shape
  unfold maxLen at ka kb
  have HA := hide ha
  have HB := hide hb
  clear ha hb
  go_enter Try.func29, Try.ntmps29
  go_wp2
  go_loopw [5] (fun xi w1 => ∃ k : Nat, k ≤ n ∧ xi = .int .i64 k ∧ ∃ m, w1 = w.drewN m) (fun i _ => n - (intOf i).toNat)
  case atStart => exact ⟨0, by omega, rfl, 0, rfl⟩
  case round =>
    obtain ⟨k, hk, rfl, m, hW⟩ := hrel
    by_cases hlt : k < n
    · obtain ⟨ba, oa, rfl, _, hca⟩ := (unhide HA).some (by omega)
      obtain ⟨bb, ob, rfl, _, hcb⟩ := (unhide HB).some (by omega)
      have c1 : wr.cell? ⟨ba, oa + k, none⟩ = some (.int .i64 (F k)) := by rw [hW]; exact hca k hlt
      have c2 : wr.cell? ⟨bb, ob + k, none⟩ = some (.int .i64 (F k)) := by rw [hW]; exact hcb k hlt
      have HW := hide hW
      clear hW hca hcb
      go_wp2
      go_quiet (fail)
      go_wp2
      go_roundw
      case rel => exact ⟨k + 1, by omega, by go_num, m + nq, by rw [unhide HW, World.drewN_drewN]⟩
      case measure => simp [intOf]; omega
    · subst hW
      go_wp2
      go_ret
      exact ⟨rfl, m, rfl⟩
theorem below_drewN {B : Nat} {a w : World} (h : Below B a w) (n : Nat) : Below B a (w.drewN n) := ⟨h.os, h.tape, h.output, h.size, h.block⟩
theorem bytes_b (F : Nat → Int) (va vb : Value) (n : Nat) (w : World) (ha : Sl .u8 w va n F) (hb : Sl .u8 w vb n F) :
    Calls Try.prog 14 #[va, vb] w fun e w' => e = .returned (.bool true) ∧ Below w.heap.size w w' := by
  refine (bytes_t F va vb n w ha hb).mono ?_
  rintro e w' ⟨rfl, m, rfl⟩
  exact ⟨rfl, below_drewN (Below.refl _ _) m⟩
theorem ints_b (F : Nat → Int) (va vb : Value) (n : Nat) (w : World) (ha : Sl .i64 w va n F) (hb : Sl .i64 w vb n F) :
    Calls Try.prog 29 #[va, vb] w fun e w' => e = .returned (.bool true) ∧ Below w.heap.size w w' := by
  refine (ints_t F va vb n w ha hb).mono ?_
  rintro e w' ⟨rfl, m, rfl⟩
  exact ⟨rfl, below_drewN (Below.refl _ _) m⟩
end Go.Proofs.Ytmcmiojidgdjpaa.Co
namespace Go.Proofs.Ytmcmiojidgdjpaa.Co
open Go.RowKit

/-- The bytes with the number's behind. -/
def putF (F : Nat → Int) (m S : Nat) (n : Int) (i : Nat) : Int := if i < m then F i else n / 2 ^ (8 * (S - 1 - (i - m))) % 256
theorem putF_ahead (F : Nat → Int) (m S : Nat) (n : Int) (i : Nat) (h : i < m) : putF F m S n i = F i := by unfold putF; rw [if_pos h]

theorem put_size (v : Value) (s n : Int) (hs : ¬ IsZ s) (w : World) :
    Calls Try.prog 48 #[v, .int .i64 s, .int .i64 n] w fun e w' => e = .returned (.tuple #[.slice none 0 0, .int .i64 1]) ∧ w' = w := by
  have c := hide (isSize_f s hs)
  clear hs
  go_enter Try.func48, Try.ntmps48
  go_wp2_with (go_at_call 42; refine (unhide c _).mono ?_; rintro e w1 ⟨rfl, rfl⟩)
  go_ret2
  exact ⟨rfl, rfl⟩
theorem put_num (v : Value) (s n : Int) (hs : IsZ s) (hn : ¬ IsNum s n) (w : World) :
    Calls Try.prog 48 #[v, .int .i64 s, .int .i64 n] w fun e w' => e = .returned (.tuple #[.slice none 0 0, .int .i64 1]) ∧ w' = w := by
  have c := hide (isSize_t s hs)
  have c2 := hide (limit_is s hs)
  by_cases h0 : n < 0
  · clear hs hn
    go_enter Try.func48, Try.ntmps48
    go_wp2_with (go_at_call 42; refine (unhide c _).mono ?_; rintro e w1 ⟨rfl, rfl⟩)
    go_ret2
    exact ⟨rfl, rfl⟩
  · have h1 : lim s ≤ n := by have : ¬ n < lim s := fun q => hn ⟨by omega, q⟩; omega
    have h2 := decide_eq_true h1
    have h3 := decide_eq_false h0
    clear hs hn
    generalize lim s = L at *
    go_enter Try.func48, Try.ntmps48
    go_wp2_with (first
      | (go_at_call 42; refine (unhide c _).mono ?_; rintro e w1 ⟨rfl, rfl⟩)
      | (go_at_call 62; refine (unhide c2 _).mono ?_; rintro e w1 ⟨rfl, rfl⟩))
    go_ret2
    exact ⟨rfl, rfl⟩

set_option maxRecDepth 100000 in
theorem put_is (F : Nat → Int) (v : Value) (m S : Nat) (n : Int) (hs : IsZ S) (hn : IsNum S n) (w : World) (hv : Sl .u8 w v m F) (hm : m ≤ 100000) :
    Calls Try.prog 48 #[v, .int .i64 (S : Int), .int .i64 n] w fun e w' => ∃ v', e = .returned (.tuple #[v', .int .i64 0]) ∧ w'.ownsRow w.heap.size 5 1 v' (m + S) (vL .u8 (putF F m S n) (m + S)) ∧ Below w.heap.size w w' := by
  obtain ⟨i, hi, hz0, hz1, hz2⟩ := info_parts info5
  have c := hide (isSize_t S hs)
  have c2 := hide (limit_is S hs)
  have c3 := hide (copied_any F v m S)
  have HV := hide hv
  obtain ⟨h0, h1⟩ := hn
  have g0 := decide_eq_false (Int.not_lt.2 h0)
  have g1 := decide_eq_false (Int.not_le.2 h1)
  have hS : 1 ≤ S ∧ S ≤ 8 := by rcases hs with h | h | h | h <;> omega
  have hE : vL .u8 (putF F m S n) m = vL .u8 F m := vL_congr fun j hj => putF_ahead F m S n j hj
  have HE := hide hE
  clear hs hv hE
  generalize lim S = L at *
  go_enter Try.func48, Try.ntmps48
  go_wp2_with (first
      | (go_at_call 42; refine (unhide c _).mono ?_; rintro e w1 ⟨rfl, hw⟩; obtain rfl := hw.symm)
      | (go_at_call 62; refine (unhide c2 _).mono ?_; rintro e w1 ⟨rfl, hw⟩; obtain rfl := hw.symm)
      | (go_at_call 63; refine (unhide c3 _ (unhide HV) (by omega) (by omega)).mono ?_; rintro e w1 ⟨rfl, hown, hbel⟩))
  go_loopw [8, 9] (fun xo xs w2 => ∃ k : Nat, k ≤ S ∧ xs = .int .i64 (8 * ((S : Int) - 1 - k)) ∧ xo = .slice (some ⟨w.heap.size, 0, none⟩) (m + k) (m + S) ∧ w2.ownsRow w.heap.size 5 1 xo (m + k) (vL .u8 (putF F m S n) (m + k)) ∧ Below w.heap.size w w2) (fun _ s _ => (intOf s + 8).toNat)
  case atStart =>
    refine ⟨0, by omega, ?_, rfl, ?_, hbel⟩
    · simp
    · rw [Nat.add_zero, unhide HE]; exact hown
  case round =>
    clear hown hbel
    obtain ⟨k, hk, rfl, rfl, hown, hbel⟩ := hrel
    by_cases hlt : k < S
    · have d1 : decide (0 ≤ 8 * ((S : Int) - 1 - k)) = true := decide_eq_true (by omega)
      have e2 : min (8 * ((S : Int) - 1 - k)).toNat 64 = 8 * (S - 1 - k) := by omega
      have hnew : vL .u8 (putF F m S n) (m + k) ++ [.int .u8 (n / 2 ^ (8 * (S - 1 - k)) % 256)] = vL .u8 (putF F m S n) (m + (k + 1)) := by
        rw [← Nat.add_assoc, vL_succ]
        unfold putF
        rw [if_neg (by omega), Nat.add_sub_cancel_left]
      have HN := hide hnew
      clear hnew
      go_wp2_with (at_builtin; refine wpList_append_fits _ rfl (.tmp 33) (.tmp 38) 25 rfl w.heap.size 5 i 1 Try.underlying25 hi hz1 w.heap.size (m + k) (m + S) (vL .u8 (putF F m S n) (m + k)) rfl (hown.alloc _) ⟨wr.heap.size, 0, none⟩ 1 1 [.int .u8 (n / 2 ^ (8 * (S - 1 - k)) % 256)] rfl rfl ?_ ?_ (by omega) ?_)
      · exact cells_lit wr [.int .u8 (n / 2 ^ (8 * (S - 1 - k)) % 256)] 5
      · intro u hu
        simp at hu
        subst hu
        rfl
      · intro w2 hown2 hgrow2
        rw [unhide HN] at hown2
        go_wp2
        go_roundw
        case rel => exact ⟨k + 1, by omega, by go_num, rfl, hown2, (hbel.alloc hbel.size _).grown hgrow2 (by simp; have := hbel.size; omega) (by intro k h; cases h; exact Nat.le_refl _)⟩
        case measure => simp [intOf]; omega
    · obtain rfl : S = k := by omega
      have d1 : decide (0 ≤ 8 * ((S : Int) - 1 - S)) = false := decide_eq_false (by omega)
      go_wp2
      go_ret2
      exact ⟨_, rfl, hown, hbel⟩
end Go.Proofs.Ytmcmiojidgdjpaa.Co
namespace Go.Proofs.Ytmcmiojidgdjpaa.Co
open Go.RowKit

/-- The number of k bytes from a place on. -/
def num (F : Nat → Int) (a : Nat) : Nat → Int
  | 0 => 0
  | k + 1 => num F a k * 256 + F (a + k)
theorem num_bd (F : Nat → Int) (a : Nat) : ∀ k, (∀ i, i < k → 0 ≤ F (a + i) ∧ F (a + i) < 256) → 0 ≤ num F a k ∧ num F a k < 256 ^ k
  | 0, _ => by simp [num]
  | k + 1, hf => by
    have := num_bd F a k (fun i hi => hf i (by omega))
    have := hf k (by omega)
    rw [num, Int.pow_succ]
    omega
theorem pow_le (k : Nat) (h : k ≤ 7) : (256 : Int) ^ k ≤ 2 ^ 56 := by
  match k, h with
  | 0, _ | 1, _ | 2, _ | 3, _ | 4, _ | 5, _ | 6, _ | 7, _ => decide
theorem or_bytes (a x : Int) (h0 : 0 ≤ a) (h1 : a < 2 ^ 56) (h2 : 0 ≤ x) (h3 : x < 256) : bits .or .u64 (IntKind.u64.wrap (a * 256)) x = a * 256 + x := by
  have hm : IntKind.u64.wrap (a * 256) = a * 256 := by simp [IntKind.wrap, IntKind.bits, IntKind.signed]; omega
  rw [hm]
  obtain ⟨n, rfl⟩ := Int.eq_ofNat_of_zero_le h0
  obtain ⟨m, rfl⟩ := Int.eq_ofNat_of_zero_le h2
  have e1 : (BitVec.ofInt 64 ((n : Int) * 256)).toNat = 2 ^ 8 * n := by
    rw [BitVec.toNat_ofInt]; omega
  have e2 : (BitVec.ofInt 64 (m : Int)).toNat = m := by
    rw [BitVec.toNat_ofInt]; omega
  have e3 := Nat.two_pow_add_eq_or_of_lt (i := 8) (b := m) (by omega) n
  show IntKind.u64.wrap (((BitVec.ofInt 64 ((n : Int) * 256) ||| BitVec.ofInt 64 (m : Int)).toNat : Nat) : Int) = _
  rw [BitVec.toNat_or, e1, e2, ← e3]
  simp [IntKind.wrap, IntKind.bits, IntKind.signed]
  omega

theorem get_size (v : Value) (a s : Int) (hs : ¬ IsZ s) (w : World) :
    Calls Try.prog 21 #[v, .int .i64 a, .int .i64 s] w fun e w' => e = .returned (.tuple #[.int .i64 0, .int .i64 0, .int .i64 1]) ∧ w' = w := by
  have c := hide (isSize_f s hs)
  clear hs
  go_enter Try.func21, Try.ntmps21
  go_wp2_with (go_at_call 42; refine (unhide c _).mono ?_; rintro e w1 ⟨rfl, rfl⟩)
  go_ret3
  exact ⟨rfl, rfl⟩
theorem get_len (p : Option Addr) (m cap : Nat) (a s : Int) (hs : IsZ s) (hm : m ≤ maxLen) (hh : ¬ Here m a s) (w : World) :
    Calls Try.prog 21 #[.slice p m cap, .int .i64 a, .int .i64 s] w fun e w' => e = .returned (.tuple #[.int .i64 0, .int .i64 0, .int .i64 2]) ∧ w' = w := by
  have c := hide (isSize_t s hs)
  have c2 := hide (fits_any p m cap a s hm (by rcases hs with h | h | h | h <;> omega) (by rcases hs with h | h | h | h <;> omega))
  rw [decide_eq_false hh] at c2
  clear hs hh
  go_enter Try.func21, Try.ntmps21
  go_wp2_with (first
    | (go_at_call 42; refine (unhide c _).mono ?_; rintro e w1 ⟨rfl, rfl⟩)
    | (go_at_call 43; refine (unhide c2 _).mono ?_; rintro e w1 ⟨rfl, rfl⟩))
  go_ret3
  exact ⟨rfl, rfl⟩
/-- What Get answers of a number that stands there. -/
def getA (x : Int) (nx : Int) : Array Value := if x < 4611686018427387904 then #[.int .i64 x, .int .i64 nx, .int .i64 0] else #[.int .i64 0, .int .i64 0, .int .i64 1]
set_option maxRecDepth 100000 in
theorem get_is (F : Nat → Int) (v : Value) (m a S : Nat) (hs : IsZ S) (w : World) (hv : Sl .u8 w v m F) (hf : ∀ i, i < m → 0 ≤ F i ∧ F i < 256) (ha : a + S ≤ m) :
    Calls Try.prog 21 #[v, .int .i64 (a : Int), .int .i64 (S : Int)] w fun e w' => e = .returned (.tuple (getA (num F a S) ((a : Int) + S))) ∧ w' = w := by
  have hS : 1 ≤ S ∧ S ≤ 8 := by rcases hs with h | h | h | h <;> omega
  obtain ⟨p, cap, rfl, hc1, hc2⟩ := hv.shape
  have c := hide (isSize_t S hs)
  have c2 := hide (fits_any p m cap a S (by omega) (by omega) (by omega))
  rw [decide_eq_true (show Here m a S from ⟨by omega, by omega⟩)] at c2
  obtain ⟨b, off, rfl, hb, hcell⟩ := hv.some (by omega)
  unfold maxLen at hc2
  have HC := hide hcell
  have HF := hide hf
  clear hs hv hcell hf
  have hne : ¬ cap = a := by omega
  have hne2 : ¬ cap - a = 0 := by omega
  have hsub : a + S - a = S := by omega
  go_enter Try.func21, Try.ntmps21
  go_wp2_with (first
    | (go_at_call 42; refine (unhide c _).mono ?_; rintro e w1 ⟨rfl, hw⟩; obtain rfl := hw.symm)
    | (go_at_call 43; refine (unhide c2 _).mono ?_; rintro e w1 ⟨rfl, hw⟩; obtain rfl := hw.symm))
  go_loopw [9, 27] (fun x xi w2 => ∃ k : Nat, k ≤ S ∧ xi = .int .i64 k ∧ x = .int .u64 (num F a k) ∧ w2 = w) (fun _ i _ => S - (intOf i).toNat)
  case atStart => exact ⟨0, by omega, rfl, rfl, rfl⟩
  case round =>
    obtain ⟨k, hk, rfl, rfl, hw⟩ := hrel
    obtain rfl := hw.symm
    by_cases hlt : k < S
    · have hx := unhide HC (a + k) (by omega)
      rw [← Nat.add_assoc] at hx
      have hb := unhide HF (a + k) (by omega)
      have hh := num_bd F a k (fun i hi => unhide HF (a + i) (by omega))
      have hp := pow_le k (by omega)
      have hor := or_bytes (num F a k) (F (a + k)) hh.1 (by omega) hb.1 hb.2
      obtain ⟨hb0, hb1⟩ := hb
      clear hp hh
      go_wp2
      go_roundw
      case rel => exact ⟨k + 1, by omega, by go_num, rfl, trivial⟩
      case measure => simp [intOf]; omega
    · obtain rfl : S = k := by omega
      have hh := num_bd F a S (fun i hi => unhide HF (a + i) (by omega))
      obtain ⟨hh0, hh1⟩ := hh
      clear hh1
      by_cases hx : num F a S < 4611686018427387904
      · have hA : getA (num F a S) ((a : Int) + S) = #[.int .i64 (num F a S), .int .i64 ((a : Int) + S), .int .i64 0] := if_pos hx
        have HA := hide hA
        have hx' := decide_eq_false (Int.not_le.2 hx)
        clear hA
        go_wp2
        go_ret3
        exact ⟨by rw [unhide HA]; rfl, rfl⟩
      · have hA : getA (num F a S) ((a : Int) + S) = #[.int .i64 0, .int .i64 0, .int .i64 1] := if_neg hx
        have HA := hide hA
        have hx' := decide_eq_true (Int.not_lt.1 hx)
        clear hA
        go_wp2
        go_ret3
        exact ⟨by rw [unhide HA]; rfl, rfl⟩
end Go.Proofs.Ytmcmiojidgdjpaa.Co
namespace Go.Proofs.Ytmcmiojidgdjpaa.Co
open Go.RowKit

/-- The bytes with the list's behind. -/
def listF (F : Nat → Int) (m n : Nat) (G : Nat → Int) (i : Nat) : Int := if i < m then F i else if i = m then n else G (i - m - 1)
theorem listF_ahead (F : Nat → Int) (m n : Nat) (G : Nat → Int) (i : Nat) (h : i < m) : listF F m n G i = F i := by unfold listF; rw [if_pos h]
theorem listF_len (F : Nat → Int) (m n : Nat) (G : Nat → Int) : listF F m n G m = n := by unfold listF; simp
theorem listF_at (F : Nat → Int) (m n : Nat) (G : Nat → Int) (j : Nat) : listF F m n G (m + 1 + j) = G j := by
  unfold listF
  rw [if_neg (by omega), if_neg (by omega)]
  congr 1
  omega

theorem putl_long (v : Value) (p : Option Addr) (n cap : Nat) (hn : 255 < n) (hm : n ≤ maxLen) (w : World) :
    Calls Try.prog 50 #[v, .slice p n cap] w fun e w' => e = .returned (.tuple #[.slice none 0 0, .int .i64 2]) ∧ w' = w := by
  unfold maxLen at hm
  have h1 : decide ((255 : Int) < (n : Int)) = true := decide_eq_true (by omega)
  go_enter Try.func50, Try.ntmps50
  go_wp2
  go_ret2
  exact ⟨rfl, rfl⟩

/-- A value that a list may have. -/
abbrev IsB (x : Int) : Prop := 0 ≤ x ∧ x ≤ 255

set_option maxRecDepth 100000 in
/-- The list's first j are right: then either all are, or the one at j is not. -/
theorem putl_any (F G : Nat → Int) (v l : Value) (m n j : Nat) (w : World) (hv : Sl .u8 w v m F) (hl : Sl .i64 w l n G) (hm : m ≤ 100000) (hn : n ≤ 255) (hj : j ≤ n) (hg : ∀ i, i < j → IsB (G i)) (hbad : j < n → ¬ IsB (G j)) :
    Calls Try.prog 50 #[v, l] w fun e w' => Below w.heap.size w w' ∧ ((j < n ∧ e = .returned (.tuple #[.slice none 0 0, .int .i64 1])) ∨ (j = n ∧ ∃ v', e = .returned (.tuple #[v', .int .i64 0]) ∧ w'.ownsRow w.heap.size 5 1 v' (m + 1 + n) (vL .u8 (listF F m n G) (m + 1 + n)))) := by
  obtain ⟨i, hi, hz0, hz1, hz2⟩ := info_parts info5
  have e1 : ((1 + n : Nat) : Int) = (1 : Int) + (n : Int) := by omega
  have c3 := hide (copied_any F v m (1 + n))
  rw [e1] at c3
  clear e1
  have HV := hide hv
  obtain ⟨p, cap, rfl, hc1, hc2⟩ := hl.shape
  unfold maxLen at hc2
  have HL := hide hl
  have HG := hide hg
  have HB := hide hbad
  clear hv hl hg hbad
  have h255 : decide ((255 : Int) < (n : Int)) = false := decide_eq_false (by omega)
  have hE : vL .u8 F m ++ [.int .u8 (n : Int)] = vL .u8 (listF F m n G) (m + 1) := by
    rw [vL_succ, listF_len]
    congr 1
    exact vL_congr fun j hj => (listF_ahead F m n G j hj).symm
  have HE := hide hE
  clear hE
  have hw8 : (n : Int) % 256 = n := by omega
  go_enter Try.func50, Try.ntmps50
  go_wp2_with (first
    | (go_at_call 63; refine (unhide c3 _ (unhide HV) (by omega) (by omega)).mono ?_; rintro e w1 ⟨rfl, hown, hbel⟩)
    | (at_builtin; refine wpList_append_fits _ rfl (.tmp 16) (.tmp 20) 25 rfl w.heap.size 5 i 1 Try.underlying25 hi hz1 w.heap.size m (m + (1 + n)) (vL .u8 F m) rfl (hown.alloc _) ⟨w1.heap.size, 0, none⟩ 1 1 [.int .u8 (n : Int)] rfl rfl ?_ ?_ (by omega) ?_))
  · exact cells_lit w1 [.int .u8 (n : Int)] 5
  · intro u hu
    simp at hu
    subst hu
    rfl
  · intro w2 hown2 hgrow2
    rw [unhide HE] at hown2
    have hbel2 : Below w.heap.size w w2 := (hbel.alloc hbel.size _).grown hgrow2 (by simp; have := hbel.size; omega) (by intro k h; cases h; exact Nat.le_refl _)
    clear hgrow2 hown hbel hw8
    go_wp2
    go_loopw [6, 24] (fun xo xi w3 => ∃ k : Nat, k ≤ j ∧ xi = .int .i64 k ∧ xo = .slice (some ⟨w.heap.size, 0, none⟩) (m + 1 + k) (m + (1 + n)) ∧ w3.ownsRow w.heap.size 5 1 xo (m + 1 + k) (vL .u8 (listF F m n G) (m + 1 + k)) ∧ Below w.heap.size w w3) (fun _ i _ => n - (intOf i).toNat)
    case atStart => exact ⟨0, by omega, rfl, rfl, hown2, hbel2⟩
    case round =>
      clear hown2 hbel2
      obtain ⟨k, hk, rfl, rfl, hown, hbel⟩ := hrel
      by_cases hkn : k < n
      · obtain ⟨b, off, rfl, hb, hcell⟩ := (unhide HL).some (by omega)
        have hck : wr.cell? ⟨b, off + k, none⟩ = some (.int .i64 (G k)) := (hbel.cell (p := ⟨b, off + k, none⟩) hb).trans (hcell k hkn)
        clear hcell
        by_cases hlt : k < j
        · have hnew : vL .u8 (listF F m n G) (m + 1 + k) ++ [.int .u8 (G k)] = vL .u8 (listF F m n G) (m + 1 + (k + 1)) := by
            rw [← Nat.add_assoc, vL_succ, listF_at]
          have HN := hide hnew
          have hB := unhide HG k hlt
          have b0 := decide_eq_false (Int.not_lt.2 hB.1)
          have b1 := decide_eq_false (Int.not_lt.2 hB.2)
          have hw8 : (G k) % 256 = G k := by have := hB.1; have := hB.2; omega
          clear hnew hB
          generalize G k = x at *
          go_wp2_with (at_builtin; refine wpList_append_fits _ rfl (.tmp 34) (.tmp 37) 25 rfl w.heap.size 5 i 1 Try.underlying25 hi hz1 w.heap.size (m + 1 + k) (m + (1 + n)) (vL .u8 (listF F m n G) (m + 1 + k)) rfl (hown.alloc _) ⟨wr.heap.size, 0, none⟩ 1 1 [.int .u8 x] rfl rfl ?_ ?_ (by omega) ?_)
          · exact cells_lit wr [.int .u8 x] 5
          · intro u hu
            simp at hu
            subst hu
            rfl
          · intro w2 hown2 hgrow2
            rw [unhide HN] at hown2
            go_wp2
            go_roundw
            case rel => exact ⟨k + 1, by omega, by go_num, rfl, hown2, (hbel.alloc hbel.size _).grown hgrow2 (by simp; have := hbel.size; omega) (by intro k h; cases h; exact Nat.le_refl _)⟩
            case measure => simp [intOf]; omega
        · obtain rfl : j = k := by omega
          have hB := unhide HB hkn
          generalize G j = x at *
          by_cases h0 : x < 0
          · have b0 := decide_eq_true h0
            clear hB
            go_wp2
            go_ret2
            exact ⟨hbel, .inl ⟨hkn, rfl⟩⟩
          · have b0 := decide_eq_false h0
            have b1 : decide (255 < x) = true := decide_eq_true (by have : ¬ x ≤ 255 := fun q => hB ⟨by omega, q⟩; omega)
            clear hB
            go_wp2
            go_ret2
            exact ⟨hbel, .inl rfl⟩
      · obtain rfl : n = k := by omega
        obtain rfl : n = j := by omega
        go_wp2
        go_ret2
        exact ⟨hbel, _, rfl, hown⟩
theorem putl_is (F G : Nat → Int) (v l : Value) (m n : Nat) (w : World) (hv : Sl .u8 w v m F) (hl : Sl .i64 w l n G) (hm : m ≤ 100000) (hn : n ≤ 255) (hg : ∀ i, i < n → IsB (G i)) :
    Calls Try.prog 50 #[v, l] w fun e w' => ∃ v', e = .returned (.tuple #[v', .int .i64 0]) ∧ w'.ownsRow w.heap.size 5 1 v' (m + 1 + n) (vL .u8 (listF F m n G) (m + 1 + n)) ∧ Below w.heap.size w w' := by
  refine (putl_any F G v l m n n w hv hl hm hn (Nat.le_refl _) hg (fun h => absurd h (Nat.lt_irrefl _))).mono ?_
  rintro e w' ⟨hb, ⟨h, _⟩ | ⟨_, v', rfl, ho⟩⟩
  · omega
  · exact ⟨v', rfl, ho, hb⟩
/-- All right, or a first one that is not. -/
theorem first_bad (P : Nat → Prop) [DecidablePred P] (n : Nat) : (∀ i, i < n → P i) ∨ ∃ j, j < n ∧ (∀ i, i < j → P i) ∧ ¬ P j := by
  induction n with
  | zero => exact .inl fun i hi => by omega
  | succ n ih =>
    rcases ih with h | ⟨j, h1, h2, h3⟩
    · by_cases hp : P n
      · exact .inl fun i hi => by
          by_cases e : i < n
          · exact h i e
          · obtain rfl : i = n := by omega
            exact hp
      · exact .inr ⟨n, by omega, h, hp⟩
    · exact .inr ⟨j, by omega, h2, h3⟩
theorem putl_bad (F G : Nat → Int) (v l : Value) (m n : Nat) (w : World) (hv : Sl .u8 w v m F) (hl : Sl .i64 w l n G) (hm : m ≤ 100000) (hn : n ≤ 255) (hg : ¬ ∀ i, i < n → IsB (G i)) :
    Calls Try.prog 50 #[v, l] w fun e w' => e = .returned (.tuple #[.slice none 0 0, .int .i64 1]) ∧ Below w.heap.size w w' := by
  rcases first_bad (fun i => IsB (G i)) n with h | ⟨j, h1, h2, h3⟩
  · exact absurd h hg
  · refine (putl_any F G v l m n j w hv hl hm hn (by omega) h2 (fun _ => h3)).mono ?_
    rintro e w' ⟨hb, ⟨_, rfl⟩ | ⟨h, _⟩⟩
    · exact ⟨rfl, hb⟩
    · omega
end Go.Proofs.Ytmcmiojidgdjpaa.Co
namespace Go.Proofs.Ytmcmiojidgdjpaa.Co
open Go.RowKit

theorem getl_at (p : Option Addr) (m cap : Nat) (a : Int) (hm : m ≤ maxLen) (hh : ¬ Here m a 1) (w : World) :
    Calls Try.prog 52 #[.slice p m cap, .int .i64 a] w fun e w' => e = .returned (.tuple #[.slice none 0 0, .int .i64 0, .int .i64 2]) ∧ Below w.heap.size w w' := by
  have c2 := hide (fits_any p m cap a 1 hm (by omega) (by omega))
  rw [decide_eq_false hh] at c2
  clear hh
  go_enter Try.func52, Try.ntmps52
  go_wp2_with (go_at_call 43; refine (unhide c2 _).mono ?_; rintro e w1 ⟨rfl, hw⟩; obtain rfl := hw.symm)
  go_ret3
  exact ⟨rfl, Below.refl _ _⟩
set_option maxRecDepth 100000 in
theorem getl_cut (F : Nat → Int) (v : Value) (m a : Nat) (w : World) (hv : Sl .u8 w v m F) (hf : ∀ i, i < m → 0 ≤ F i ∧ F i < 256) (ha : a < m) (hm : m ≤ 1000000) (hh : ¬ Here m ((a : Int) + 1) (F a)) :
    Calls Try.prog 52 #[v, .int .i64 (a : Int)] w fun e w' => e = .returned (.tuple #[.slice none 0 0, .int .i64 0, .int .i64 2]) ∧ Below w.heap.size w w' := by
  obtain ⟨p, cap, rfl, hc1, hc2⟩ := hv.shape
  have hb := hf a ha
  have c := hide (fits_any p m cap a 1 (by omega) (by omega) (by omega))
  rw [decide_eq_true (show Here m a 1 from ⟨by omega, by omega⟩)] at c
  have c2 := hide (fits_any p m cap ((a : Int) + 1) (F a) (by omega) hb.1 (by omega))
  rw [decide_eq_false hh] at c2
  obtain ⟨b, off, rfl, _, hcell⟩ := hv.some (by omega)
  have hck := hcell a ha
  unfold maxLen at hc2
  have m1 := trivial
  obtain ⟨hb0, hb1⟩ := hb
  clear hv hcell hf hh
  generalize F a = x at *
  go_enter Try.func52, Try.ntmps52
  go_wp2_with (clear m1; go_at_call 43; refine (unhide c _).mono ?_; rintro e w1 ⟨rfl, hw⟩; obtain rfl := hw.symm)
  go_quiet (fail)
  go_wp2_with (go_at_call 43; refine (unhide c2 _).mono ?_; rintro e w1 ⟨rfl, hw⟩; obtain rfl := hw.symm)
  go_ret3
  exact ⟨rfl, below_drewN (Below.refl _ _) _⟩
set_option maxRecDepth 100000 in
theorem getl_is (F : Nat → Int) (v : Value) (m a n : Nat) (w : World) (hv : Sl .u8 w v m F) (hf : ∀ i, i < m → 0 ≤ F i ∧ F i < 256) (ha : a < m) (hm : m ≤ 1000000) (hn : F a = n) (hh : a + 1 + n ≤ m) :
    Calls Try.prog 52 #[v, .int .i64 (a : Int)] w fun e w' => ∃ v', e = .returned (.tuple #[v', .int .i64 ((a : Int) + 1 + n), .int .i64 0]) ∧ w'.ownsRow w.heap.size 3 1 v' n (vL .i64 (fun i => F (a + 1 + i)) n) ∧ Below w.heap.size w w' := by
  obtain ⟨i, hi, hz0, hz1, hz2⟩ := info_parts info3
  obtain ⟨p, cap, rfl, hc1, hc2⟩ := hv.shape
  have hb := hf a ha
  rw [hn] at hb
  have c := hide (fits_any p m cap a 1 (by omega) (by omega) (by omega))
  rw [decide_eq_true (show Here m a 1 from ⟨by omega, by omega⟩)] at c
  have c2 := hide (fits_any p m cap ((a : Int) + 1) n (by omega) hb.1 (by omega))
  rw [decide_eq_true (show Here m ((a : Int) + 1) n from ⟨by omega, by omega⟩)] at c2
  obtain ⟨b, off, rfl, hbs, hcell⟩ := hv.some (by omega)
  have hck := hcell a ha
  rw [hn] at hck
  unfold maxLen at hc2
  have m1 := trivial
  have HC := hide hcell
  have HF := hide hf
  obtain ⟨hb0, hb1⟩ := hb
  have hsub : a + 1 + n - (a + 1) = n := by omega
  clear hv hcell hf hn
  go_enter Try.func52, Try.ntmps52
  go_wp2_with (clear m1; go_at_call 43; refine (unhide c _).mono ?_; rintro e w1 ⟨rfl, hw⟩; obtain rfl := hw.symm)
  go_quiet (fail)
  obtain ⟨wq, hwq⟩ : ∃ x, x = w.drewN nq := ⟨_, rfl⟩
  rw [← hwq]
  have hsz : wq.heap.size = w.heap.size := by rw [hwq]; rfl
  have hbq : Below w.heap.size w wq := by rw [hwq]; exact below_drewN (Below.refl _ _) _
  have HQ := hide hsz
  clear hwq hsz hck
  by_cases hca : cap = a + 1
  · obtain rfl : n = 0 := by omega
    subst hca
    go_wp2_with (first
      | (go_at_call 43; refine (unhide c2 _).mono ?_; rintro e w1 ⟨rfl, hw⟩; obtain rfl := hw.symm)
      | (at_make; refine wpList_make_own _ rfl _ _ 22 rfl w.heap.size 3 i (.int .i64 0) 1 Try.underlying22 hi hz0 hz1 .i64 .i64 0 0 rfl rfl rfl (by rw [hz2]; omega) (by unfold maxLen; omega) (by rw [unhide HQ]; exact Nat.le_refl _) ?_))
    intro w1 hown hgrow
    rw [unhide HQ] at hown
    have hbel : Below w.heap.size w w1 := hbq.grown hgrow (by rw [unhide HQ]; exact Nat.le_refl _) (by intro k h; cases h)
    rw [unhide HQ]
    clear hgrow hbq
    go_wp2
    go_loopw [4, 36] (fun xo xi w2 => xi = .int .i64 0 ∧ xo = .slice (some ⟨w.heap.size, 0, none⟩) 0 0 ∧ w2 = w1) (fun _ _ _ => 0)
    case atStart => exact ⟨rfl, rfl, rfl⟩
    case round =>
      obtain ⟨rfl, rfl, rfl⟩ := hrel
      go_wp2
      go_ret3
      exact ⟨_, rfl, hown, hbel⟩
  · go_wp2_with (first
      | (go_at_call 43; refine (unhide c2 _).mono ?_; rintro e w1 ⟨rfl, hw⟩; obtain rfl := hw.symm)
      | (at_make; refine wpList_make_own _ rfl _ _ 22 rfl w.heap.size 3 i (.int .i64 0) 1 Try.underlying22 hi hz0 hz1 .i64 .i64 (n : Int) n rfl rfl rfl (by rw [hz2]; omega) (by unfold maxLen; omega) (by rw [unhide HQ]; exact Nat.le_refl _) ?_))
    intro w1 hown hgrow
    rw [unhide HQ] at hown
    have hbel : Below w.heap.size w w1 := hbq.grown hgrow (by rw [unhide HQ]; exact Nat.le_refl _) (by intro k h; cases h)
    rw [unhide HQ]
    clear hgrow hbq
    go_wp2
    rw [hsub]
    clear hsub
    go_loopw [4, 36] (fun xo xi w2 => ∃ k : Nat, k ≤ n ∧ xi = .int .i64 k ∧ xo = .slice (some ⟨w.heap.size, 0, none⟩) k n ∧ w2.ownsRow w.heap.size 3 1 xo k (vL .i64 (fun i => F (a + 1 + i)) k) ∧ Below w.heap.size w w2) (fun _ i _ => n - (intOf i).toNat)
    case atStart => exact ⟨0, by omega, rfl, rfl, hown, hbel⟩
    case round =>
      clear hown hbel
      obtain ⟨k, hk, rfl, rfl, hown, hbel⟩ := hrel
      by_cases hlt : k < n
      · have hck : wr.cell? ⟨b, off + (a + 1) + k, none⟩ = some (.int .u8 (F (a + 1 + k))) := by
          rw [Nat.add_assoc off]
          exact (hbel.cell (p := ⟨b, off + (a + 1 + k), none⟩) hbs).trans (unhide HC (a + 1 + k) (by omega))
        have hbd := unhide HF (a + 1 + k) (by omega)
        have hnew : vL .i64 (fun i => F (a + 1 + i)) k ++ [.int .i64 (F (a + 1 + k))] = vL .i64 (fun i => F (a + 1 + i)) (k + 1) := by rw [vL_succ]
        have HN := hide hnew
        obtain ⟨hbd0, hbd1⟩ := hbd
        clear hnew
        generalize F (a + 1 + k) = x at *
        go_wp2_with (at_builtin; refine wpList_append_fits _ rfl (.tmp 40) (.tmp 43) 22 rfl w.heap.size 3 i 1 Try.underlying22 hi hz1 w.heap.size k n (vL .i64 (fun i => F (a + 1 + i)) k) rfl (hown.alloc _) ⟨wr.heap.size, 0, none⟩ 1 1 [.int .i64 x] rfl rfl ?_ ?_ (by omega) ?_)
        · exact cells_lit wr [.int .i64 x] 3
        · intro u hu
          simp at hu
          subst hu
          rfl
        · intro w2 hown2 hgrow2
          rw [unhide HN] at hown2
          go_wp2
          go_roundw
          case rel => exact ⟨k + 1, by omega, by go_num, rfl, hown2, (hbel.alloc hbel.size _).grown hgrow2 (by simp; have := hbel.size; omega) (by intro k h; cases h; exact Nat.le_refl _)⟩
          case measure => simp [intOf]; omega
      · obtain rfl : n = k := by omega
        go_wp2
        go_ret3
        exact ⟨_, rfl, hown, hbel⟩
end Go.Proofs.Ytmcmiojidgdjpaa.Co
namespace Go.Proofs.Ytmcmiojidgdjpaa.Co
open Go.RowKit

theorem num_shift (F : Nat → Int) (a : Nat) : ∀ k, num (fun i => F (a + i)) 0 k = num F a k
  | 0 => rfl
  | k + 1 => by rw [num, num, num_shift F a k, Nat.zero_add]
theorem num_low (F : Nat → Int) (n : Nat) (hf : ∀ i, i < n → 0 ≤ F i ∧ F i < 256) (h : num F 0 n < 4611686018427387904) : ∀ k, k < n → num F 0 k < 18014398509481984 := by
  have mono : ∀ d k, k + d = n → 0 ≤ num F 0 k → num F 0 k ≤ num F 0 n := by
    intro d
    induction d with
    | zero => intro k hk _; rw [show k = n by omega]; exact Int.le_refl _
    | succ d ih =>
      intro k hk h0
      have hb := hf k (by omega)
      have h2 : num F 0 (k + 1) = num F 0 k * 256 + F k := by rw [num, Nat.zero_add]
      have := ih (k + 1) (by omega) (by omega)
      omega
  intro k hk
  have h0 := (num_bd F 0 k (fun i hi => by rw [Nat.zero_add]; exact hf i (by omega))).1
  have hb := hf k hk
  have h2 : num F 0 (k + 1) = num F 0 k * 256 + F k := by rw [num, Nat.zero_add]
  have := mono (n - (k + 1)) (k + 1) (by omega) (by omega)
  omega
set_option maxRecDepth 100000 in
theorem number_t (F : Nat → Int) (v : Value) (n : Nat) (w : World) (hv : Sl .u8 w v n F) (hf : ∀ i, i < n → 0 ≤ F i ∧ F i < 256) (hn : n ≤ 8) (hx : num F 0 n < 4611686018427387904) :
    Calls Try.prog 27 #[v] w fun e w' => e = .returned (.tuple #[.int .i64 (num F 0 n), .bool true]) ∧ w' = w := by
  obtain ⟨p, cap, rfl, hc1, hc2⟩ := hv.shape
  unfold maxLen at hc2
  have HV := hide hv
  have HF := hide hf
  have HX := hide (num_low F n hf hx)
  clear hv hf hx
  go_enter Try.func27, Try.ntmps27
  go_wp2
  go_loopw [4, 5] (fun x xi w2 => ∃ k : Nat, k ≤ n ∧ xi = .int .i64 k ∧ x = .int .i64 (num F 0 k) ∧ w2 = w) (fun _ i _ => n - (intOf i).toNat)
  case atStart => exact ⟨0, by omega, rfl, rfl, rfl⟩
  case round =>
    obtain ⟨k, hk, rfl, rfl, hw⟩ := hrel
    obtain rfl := hw.symm
    by_cases hlt : k < n
    · obtain ⟨b, off, rfl, _, hcell⟩ := (unhide HV).some (by omega)
      have hck := hcell k hlt
      have hb := unhide HF k hlt
      have h0 := (num_bd F 0 k (fun i hi => by rw [Nat.zero_add]; exact unhide HF i (by omega))).1
      have hx := unhide HX k hlt
      have hd := decide_eq_false (Int.not_le.2 hx)
      have hs : num F 0 (k + 1) = 256 * num F 0 k + F k := by rw [num, Nat.zero_add, Int.mul_comm]
      have HS := hide hs
      obtain ⟨hb0, hb1⟩ := hb
      clear hcell hs
      generalize num F 0 k = y at *
      generalize F k = x at *
      go_wp2
      go_roundw
      case rel => exact ⟨k + 1, by omega, by go_num, by rw [unhide HS], trivial⟩
      case measure => simp [intOf]; omega
    · obtain rfl : n = k := by omega
      go_wp2
      go_ret2
      exact ⟨rfl, rfl⟩
set_option maxRecDepth 100000 in
theorem number_f (F : Nat → Int) (v : Value) (n : Nat) (w : World) (hv : Sl .u8 w v n F) (hf : ∀ i, i < n → 0 ≤ F i ∧ F i < 256) (hn : n ≤ 8) (hx : 4611686018427387904 ≤ num F 0 n) :
    Calls Try.prog 27 #[v] w fun e w' => e = .returned (.tuple #[.int .i64 0, .bool false]) ∧ w' = w := by
  have hf0 : ∀ i, i < n → 0 ≤ F (0 + i) ∧ F (0 + i) < 256 := fun i hi => by rw [Nat.zero_add]; exact hf i hi
  obtain rfl : n = 8 := by
    have h1 := (num_bd F 0 n hf0).2
    by_cases h8 : n ≤ 7
    · have := pow_le n h8
      omega
    · omega
  have h7 : 18014398509481984 ≤ num F 0 7 := by
    have h2 : num F 0 8 = num F 0 7 * 256 + F 7 := by rw [num, Nat.zero_add]
    have := hf 7 (by omega)
    omega
  have hlow : ∀ k, k < 7 → num F 0 k < 18014398509481984 := by
    intro k hk
    have h1 := (num_bd F 0 k (fun i hi => hf0 i (by omega))).2
    have h2 : (256 : Int) ^ k ≤ 2 ^ 48 := by
      have : k ≤ 6 := by omega
      match k, this with
      | 0, _ | 1, _ | 2, _ | 3, _ | 4, _ | 5, _ | 6, _ => decide
    omega
  obtain ⟨p, cap, rfl, hc1, hc2⟩ := hv.shape
  unfold maxLen at hc2
  have HV := hide hv
  have HF := hide hf
  have HX := hide hlow
  have H7 := hide h7
  clear hv hf hx hlow hf0 h7
  go_enter Try.func27, Try.ntmps27
  go_wp2
  go_loopw [4, 5] (fun x xi w2 => ∃ k : Nat, k ≤ 7 ∧ xi = .int .i64 k ∧ x = .int .i64 (num F 0 k) ∧ w2 = w) (fun _ i _ => 8 - (intOf i).toNat)
  case atStart => exact ⟨0, by omega, rfl, rfl, rfl⟩
  case round =>
    obtain ⟨k, hk, rfl, rfl, hw⟩ := hrel
    obtain rfl := hw.symm
    by_cases hlt : k < 7
    · obtain ⟨b, off, rfl, _, hcell⟩ := (unhide HV).some (by omega)
      have hck := hcell k (by omega)
      have hb := unhide HF k (by omega)
      have h0 := (num_bd F 0 k (fun i hi => by rw [Nat.zero_add]; exact unhide HF i (by omega))).1
      have hx := unhide HX k hlt
      have hd := decide_eq_false (Int.not_le.2 hx)
      have hs : num F 0 (k + 1) = 256 * num F 0 k + F k := by rw [num, Nat.zero_add, Int.mul_comm]
      have HS := hide hs
      obtain ⟨hb0, hb1⟩ := hb
      clear hcell hs
      generalize num F 0 k = y at *
      generalize F k = x at *
      go_wp2
      go_roundw
      case rel => exact ⟨k + 1, by omega, by go_num, by rw [unhide HS], trivial⟩
      case measure => simp [intOf]; omega
    · obtain rfl : k = 7 := by omega
      have hd := decide_eq_true (unhide H7)
      generalize num F 0 7 = y at *
      go_wp2
      go_ret2
      exact ⟨rfl, rfl⟩
end Go.Proofs.Ytmcmiojidgdjpaa.Co
namespace Go.Proofs.Ytmcmiojidgdjpaa.Co
open Go.RowKit

/-- append onto a row of the call's own, as a step of a region that may be guarded. -/
theorem wpList_append_own_g {P : Program} {w : World} {ops : Array Oper} {rest : List Oper} {o : Oper} {a : Act} {Q : Exit → Act → World → Prop} (hw : Region.wanted o (yielded ops a.tmps) = true) (s x : Operand) (t : TypeId)
    (hop : o.op = Op.call { callee := Callee.builtin Builtin.append, args := #[s, x], argTypes := #[t, t] })
    (base : Nat) (e : TypeId) (i : TypeInfo) (z : Value) (bytes : Nat) (ht : P.underlying t = some (.slice e)) (hi : P.info? e = some i) (hz : i.zero = some z)
    (hsize : i.size = 1) (hby : i.bytes = bytes) (hzs : z.cells.size = 1)
    (v : Value) (n : Nat) (xs : List Value) (hs : a.eval s = v) (hown : w.ownsRow base e 1 v n xs)
    (ad : Addr) (m c : Nat) (news : List Value) (hx : a.eval x = .slice (some ad) m c) (hl : news.length = m * 1) (hnews : ∀ j u, news[j]? = some u → w.cell? (ad.add j) = some u) (h1 : ∀ u ∈ news, u.oneCell' = true)
    (h63 : n + m ≤ maxLen) (hbytes : (n + m) * bytes ≤ 140737488355328) (hbase : base ≤ w.heap.size)
    (h : ∀ v' w', w'.ownsRow base e 1 v' (n + m) (xs ++ news) → w.grownBy w' v.ownBlock → wpList P ops Q rest (a.put o.dst v') w') : wpList P ops Q (o :: rest) a w := by
  refine wpList_step fun K hK => ?_
  rw [if_pos hw]
  obtain ⟨v', w', hrun, r1, r2, _⟩ := run_append_own (P := P) w base t o.type e i z 1 bytes ht hi hz hsize hby hzs (by decide) v n xs hown ad m c news hl hnews h1 h63 hbytes hbase
  unfold Oper.wp
  simp [execOp, hop, resolve, invoke, builtin, hs, hx, hrun, Result.andThen]
  exact hK _ _ (h v' w' r1 r2)

/-- The number's bytes from place k on, nought ahead. -/
def bF (S : Nat) (n : Int) (k j : Nat) : Int := if k ≤ j then n / 2 ^ (8 * (S - 1 - j)) % 256 else 0
theorem bF_set (S : Nat) (n : Int) (j : Nat) (h : j < S) : (vL .u8 (bF S n (j + 1)) S).set j (.int .u8 (n / 2 ^ (8 * (S - 1 - j)) % 256)) = vL .u8 (bF S n j) S := by
  apply List.ext_getElem?
  intro t
  by_cases ht : t < S
  · by_cases e : j = t
    · subst e
      rw [List.getElem?_set_self (by rw [vL_length]; exact h), vL_get _ _ _ _ ht]
      simp [bF]
    · rw [List.getElem?_set_ne e, vL_get _ _ _ _ ht, vL_get _ _ _ _ ht]
      unfold bF
      by_cases g : j + 1 ≤ t
      · rw [if_pos g, if_pos (by omega)]
      · rw [if_neg g, if_neg (by omega)]
  · rw [List.getElem?_eq_none (by rw [List.length_set, vL_length]; omega), List.getElem?_eq_none (by rw [vL_length]; omega)]
theorem bF_start (S : Nat) (n : Int) : List.replicate S (Value.int .u8 0) = vL .u8 (bF S n S) S := by
  apply List.ext_getElem?
  intro t
  by_cases ht : t < S
  · rw [vL_get _ _ _ _ ht, bF, if_neg (by omega)]
    simp [ht]
  · rw [List.getElem?_eq_none (by simp; omega), List.getElem?_eq_none (by rw [vL_length]; omega)]
theorem div_next (n : Int) (S j : Nat) (h : j < S) : n / 2 ^ (8 * (S - 1 - j)) / 256 = n / 2 ^ (8 * (S - j)) := by
  rw [show 8 * (S - j) = 8 * (S - 1 - j) + 8 by omega, Int.pow_add, ← Int.ediv_ediv_of_nonneg (Int.pow_nonneg (by decide))]
  rfl
set_option maxRecDepth 100000 in
theorem refBytes_is (S : Nat) (n : Int) (hS : 1 ≤ S ∧ S ≤ 8) (h0 : 0 ≤ n) (h1 : n ≤ 4611686018427387903) (w : World) :
    Calls Try.prog 37 #[.int .i64 (S : Int), .int .i64 n] w fun e w' => e = .returned (.slice (some ⟨w.heap.size, 0, none⟩) S S) ∧ w'.ownsRow w.heap.size 5 1 (.slice (some ⟨w.heap.size, 0, none⟩) S S) S (vL .u8 (bF S n 0) S) ∧ Below w.heap.size w w' := by
  obtain ⟨i, hi, hz0, hz1, hz2⟩ := info_parts info5
  have HB := hide (bF_start S n)
  go_enter Try.func37, Try.ntmps37
  go_wp2_with (at_make; refine wpList_make_full _ rfl _ _ 25 rfl w.heap.size 5 i (.int .u8 0) 1 Try.underlying25 hi hz0 hz1 .i64 .i64 (S : Int) (S : Int) S rfl rfl rfl rfl (by rw [hz2]; omega) (by unfold maxLen; omega) (Nat.le_refl _) ?_)
  intro w1 hown hgrow
  have hbel : Below w.heap.size w w1 := (Below.refl _ _).grown hgrow (Nat.le_refl _) (by intro k h; cases h)
  have he : (madeCells #[Value.int .u8 0] S).toList = vL .u8 (bF S n S) S := by
    rw [← unhide HB]
    exact toList_madeCells_one _ _
  rw [he] at hown
  clear hgrow he
  go_wp2
  go_loopw [1, 6] (fun xn xi w2 => ∃ k : Nat, k ≤ S ∧ xi = .int .i64 ((k : Int) - 1) ∧ xn = .int .i64 (n / 2 ^ (8 * (S - k))) ∧ w2.ownsRow w.heap.size 5 1 (.slice (some ⟨w.heap.size, 0, none⟩) S S) S (vL .u8 (bF S n k) S) ∧ Below w.heap.size w w2) (fun _ i _ => (intOf i + 1).toNat)
  case atStart => exact ⟨S, by omega, rfl, by simp, hown, hbel⟩
  case round =>
    clear hown hbel
    obtain ⟨k, hk, rfl, rfl, hown, hbel⟩ := hrel
    cases k with
    | zero =>
      have d : decide (0 ≤ ((0 : Nat) : Int) - 1) = false := by decide
      go_wp2
      go_ret
      exact ⟨rfl, hown, hbel⟩
    | succ j =>
      have e1 : ((j + 1 : Nat) : Int) - 1 = j := by omega
      rw [e1]
      have hx0 : 0 ≤ n / 2 ^ (8 * (S - (j + 1))) := Int.ediv_nonneg h0 (Int.pow_nonneg (by decide))
      have hx1 : n / 2 ^ (8 * (S - (j + 1))) ≤ n := Int.ediv_le_self _ h0
      have hset := bF_set S n j (by omega)
      have hdiv := div_next n S j (by omega)
      rw [show S - 1 - j = S - (j + 1) by omega] at hset hdiv
      have hst := hown.stored j (.int .u8 (n / 2 ^ (8 * (S - (j + 1))) % 256))
      rw [hset] at hst
      have hc : wr.cell? ⟨w.heap.size, j, none⟩ = some (.int .u8 (bF S n (j + 1) j)) := by rw [hown.cellAt j (by omega), vL_get _ _ _ _ (by omega)]
      have hf := hown.frozenAt j
      have ST := hide hst
      have HD := hide hdiv
      have HB2 := hide hbel
      have hx2 : n / 2 ^ (8 * (S - (j + 1))) ≤ 4611686018427387903 := by omega
      clear e1 hset hdiv hst hown hbel hx1
      generalize n / 2 ^ (8 * (S - (j + 1))) = x at *
      go_wp2
      go_roundw
      case rel => exact ⟨j, by omega, rfl, by rw [← unhide HD], (unhide ST).1, (unhide HB2).grown (unhide ST).2 (unhide HB2).size (by intro k h; cases h; exact Nat.le_refl _)⟩
      case measure => simp [intOf]
end Go.Proofs.Ytmcmiojidgdjpaa.Co
namespace Go.Proofs.Ytmcmiojidgdjpaa.Co
open Go.RowKit

theorem num_congr {F G : Nat → Int} {a : Nat} : ∀ {k : Nat}, (∀ i, i < k → F (a + i) = G (a + i)) → num F a k = num G a k
  | 0, _ => rfl
  | k + 1, h => by rw [num, num, num_congr (k := k) (fun i hi => h i (by omega)), h k (by omega)]
theorem num_put (F : Nat → Int) (m S : Nat) (n : Int) (h0 : 0 ≤ n) (h1 : n < 2 ^ (8 * S)) : ∀ k, k ≤ S → num (putF F m S n) m k = n / 2 ^ (8 * (S - k))
  | 0, _ => by rw [num, Nat.sub_zero, Int.ediv_eq_zero_of_lt h0 h1]
  | k + 1, hk => by
    rw [num, num_put F m S n h0 h1 k (by omega)]
    unfold putF
    rw [if_neg (by omega), Nat.add_sub_cancel_left]
    have e : (2 : Int) ^ (8 * (S - k)) = 2 ^ (8 * (S - (k + 1))) * 256 := by
      rw [show 8 * (S - k) = 8 * (S - (k + 1)) + 8 by omega, Int.pow_add]
      rfl
    rw [e, ← Int.ediv_ediv_of_nonneg (Int.pow_nonneg (by decide)), show S - 1 - k = S - (k + 1) by omega]
    omega
theorem lim_le (S : Nat) (hs : IsZ S) (n : Int) (h : n < lim S) : n < 2 ^ (8 * S) ∧ n < 4611686018427387904 := by
  have : S = 1 ∨ S = 2 ∨ S = 4 ∨ S = 8 := by rcases hs with h | h | h | h <;> omega
  rcases this with rfl | rfl | rfl | rfl <;> simp [lim] at h <;> omega
theorem num_put_all (F : Nat → Int) (m S : Nat) (n : Int) (hs : IsZ S) (h : IsNum S n) : num (putF F m S n) m S = n := by
  rw [num_put F m S n h.1 (lim_le S hs n h.2).1 S (Nat.le_refl _), Nat.sub_self]
  simp
theorem putF_bd (F : Nat → Int) (m S : Nat) (n : Int) (hF : ∀ i, i < m → 0 ≤ F i ∧ F i < 256) (i : Nat) : 0 ≤ putF F m S n i ∧ putF F m S n i < 256 := by
  unfold putF
  split
  · exact hF i (by assumption)
  · omega
theorem listF_bd (F : Nat → Int) (m n : Nat) (G : Nat → Int) (hF : ∀ i, i < m → 0 ≤ F i ∧ F i < 256) (hn : n ≤ 255) (hG : ∀ i, i < n → IsB (G i)) (i : Nat) (hi : i < m + 1 + n) : 0 ≤ listF F m n G i ∧ listF F m n G i < 256 := by
  unfold listF
  split
  · exact hF i (by assumption)
  · split
    · omega
    · have := hG (i - m - 1) (by omega)
      unfold IsB at this
      omega

theorem put_err (v : Value) (s n : Int) (h : ¬ (IsZ s ∧ IsNum s n)) (w : World) :
    Calls Try.prog 48 #[v, .int .i64 s, .int .i64 n] w fun e w' => e = .returned (.tuple #[.slice none 0 0, .int .i64 1]) ∧ w' = w := by
  by_cases hs : IsZ s
  · exact put_num v s n hs (fun q => h ⟨hs, q⟩) w
  · exact put_size v s n hs w

end Go.Proofs.Ytmcmiojidgdjpaa.Co
namespace Go.Proofs.Ytmcmiojidgdjpaa.Co
open Go.RowKit

theorem owns_below {e : TypeId} {w w' : World} {B n : Nat} {v : Value} {L : List Value} (h : w.ownsRow B e 1 v n L) (hb : Below w.heap.size w w') : w'.ownsRow B e 1 v n L := by
  rcases h.2 with h2 | ⟨g, cap, cur, h1, h2, hg, h3⟩
  · exact ⟨h.1, .inl h2⟩
  · exact ⟨h.1, .inr ⟨g, cap, cur, h1, h2, (hb.block g (Array.getElem?_eq_some_iff.1 hg).1).trans hg, h3⟩⟩
theorem vL_append (k : IntKind) (F G : Nat → Int) (m n : Nat) : vL k F m ++ vL k G n = vL k (fun i => if i < m then F i else G (i - m)) (m + n) := by
  apply List.ext_getElem?
  intro t
  by_cases h : t < m
  · rw [List.getElem?_append_left (by rw [vL_length]; exact h), vL_get _ _ _ _ h, vL_get _ _ _ _ (by omega), if_pos h]
  · rw [List.getElem?_append_right (by rw [vL_length]; omega), vL_length]
    by_cases h2 : t < m + n
    · rw [vL_get _ _ _ _ (by omega), vL_get _ _ _ _ h2, if_neg h]
    · rw [List.getElem?_eq_none (by rw [vL_length]; omega), List.getElem?_eq_none (by rw [vL_length]; omega)]
theorem vL_put (F : Nat → Int) (m S : Nat) (n : Int) : vL .u8 F m ++ vL .u8 (bF S n 0) S = vL .u8 (putF F m S n) (m + S) := by
  rw [vL_append]
  apply vL_congr
  intro j _
  simp [putF, bF]
/-- Put's answer. -/
def PR (F : Nat → Int) (m : Nat) (s n : Int) (w : World) (x : Value) (c : Int) : Prop :=
  (¬ (IsZ s ∧ IsNum s n) ∧ c = 1 ∧ x = .slice none 0 0) ∨ (∃ S : Nat, s = S ∧ IsZ S ∧ IsNum S n ∧ c = 0 ∧ Sl .u8 w x (m + S) (putF F m S n))
theorem PR.below {F : Nat → Int} {m : Nat} {s n : Int} {w w' : World} {x : Value} {c : Int} (h : PR F m s n w x c) (hb : Below w.heap.size w w') : PR F m s n w' x c := by
  rcases h with h | ⟨S, h1, h2, h3, h4, h5⟩
  · exact .inl h
  · exact .inr ⟨S, h1, h2, h3, h4, h5.below hb (Nat.le_refl _)⟩
theorem put_all (F : Nat → Int) (v : Value) (m : Nat) (s n : Int) (w : World) (hv : Sl .u8 w v m F) (hm : m ≤ 100000) :
    Calls Try.prog 48 #[v, .int .i64 s, .int .i64 n] w fun e w' => ∃ x c, e = .returned (.tuple #[x, .int .i64 c]) ∧ PR F m s n w' x c ∧ Below w.heap.size w w' := by
  by_cases h : IsZ s ∧ IsNum s n
  · obtain ⟨hs, hn⟩ := h
    obtain ⟨S, rfl⟩ : ∃ S : Nat, s = S := ⟨s.toNat, by rcases hs with h | h | h | h <;> omega⟩
    refine (put_is F v m S n hs hn w hv hm).mono ?_
    rintro e w' ⟨x, rfl, o, b⟩
    exact ⟨x, 0, rfl, .inr ⟨S, rfl, hs, hn, rfl, sl_of_owns o⟩, b⟩
  · refine (put_err v s n h w).mono ?_
    rintro e w' ⟨rfl, rfl⟩
    exact ⟨_, _, rfl, .inl ⟨h, rfl, rfl⟩, Below.refl _ _⟩

/-- Get's answer: why not. -/
def gf (F : Nat → Int) (m : Nat) (a s : Int) : Int := if IsZ s then if Here m a s then if num F a.toNat s.toNat < 4611686018427387904 then 0 else 1 else 2 else 1
def gy (F : Nat → Int) (m : Nat) (a s : Int) : Int := if gf F m a s = 0 then num F a.toNat s.toNat else 0
def gn (F : Nat → Int) (m : Nat) (a s : Int) : Int := if gf F m a s = 0 then a + s else 0
theorem get_all (F : Nat → Int) (v : Value) (m : Nat) (a s : Int) (w : World) (hv : Sl .u8 w v m F) (hf : ∀ i, i < m → 0 ≤ F i ∧ F i < 256) (hm : m ≤ 100000) :
    Calls Try.prog 21 #[v, .int .i64 a, .int .i64 s] w fun e w' => e = .returned (.tuple #[.int .i64 (gy F m a s), .int .i64 (gn F m a s), .int .i64 (gf F m a s)]) ∧ w' = w := by
  unfold gy gn
  by_cases hs : IsZ s
  · by_cases hh : Here m a s
    · obtain ⟨S, rfl⟩ : ∃ S : Nat, s = S := ⟨s.toNat, by rcases hs with h | h | h | h <;> omega⟩
      obtain ⟨A, rfl⟩ : ∃ A : Nat, a = A := ⟨a.toNat, by have := hh.1; omega⟩
      refine (get_is F v m A S hs w hv hf (by have := hh.2; omega)).mono ?_
      rintro e w' ⟨rfl, rfl⟩
      refine ⟨?_, rfl⟩
      unfold gf getA
      rw [if_pos hs, if_pos hh, Int.toNat_natCast, Int.toNat_natCast]
      by_cases hx : num F A S < 4611686018427387904
      · simp [hx]
      · simp [hx]
    · obtain ⟨p, cap, rfl, _, hc⟩ := hv.shape
      refine (get_len p m cap a s hs (by unfold maxLen; omega) hh w).mono ?_
      rintro e w' ⟨rfl, rfl⟩
      simp [gf, hs, hh]
  · refine (get_size v a s hs w).mono ?_
    rintro e w' ⟨rfl, rfl⟩
    simp [gf, hs]

/-- PutList's answer. -/
def LR (F G : Nat → Int) (m k : Nat) (w : World) (z : Value) (c : Int) : Prop :=
  (255 < k ∧ c = 2 ∧ z = .slice none 0 0) ∨ (k ≤ 255 ∧ (¬ ∀ i, i < k → IsB (G i)) ∧ c = 1 ∧ z = .slice none 0 0) ∨ (k ≤ 255 ∧ (∀ i, i < k → IsB (G i)) ∧ c = 0 ∧ Sl .u8 w z (m + 1 + k) (listF F m k G))
theorem LR.below {F G : Nat → Int} {m k : Nat} {w w' : World} {x : Value} {c : Int} (h : LR F G m k w x c) (hb : Below w.heap.size w w') : LR F G m k w' x c := by
  rcases h with h | h | ⟨h1, h2, h3, h4⟩
  · exact .inl h
  · exact .inr (.inl h)
  · exact .inr (.inr ⟨h1, h2, h3, h4.below hb (Nat.le_refl _)⟩)
theorem putl_all (F G : Nat → Int) (v l : Value) (m k : Nat) (w : World) (hv : Sl .u8 w v m F) (hl : Sl .i64 w l k G) (hm : m ≤ 100000) :
    Calls Try.prog 50 #[v, l] w fun e w' => ∃ x c, e = .returned (.tuple #[x, .int .i64 c]) ∧ LR F G m k w' x c ∧ Below w.heap.size w w' := by
  by_cases h : 255 < k
  · obtain ⟨p, cap, rfl, h1, h2⟩ := hl.shape
    refine (putl_long v p k cap h (by omega) w).mono ?_
    rintro e w' ⟨rfl, rfl⟩
    exact ⟨_, _, rfl, .inl ⟨h, rfl, rfl⟩, Below.refl _ _⟩
  · by_cases hg : ∀ i, i < k → IsB (G i)
    · refine (putl_is F G v l m k w hv hl hm (by omega) hg).mono ?_
      rintro e w' ⟨x, rfl, o, b⟩
      exact ⟨x, 0, rfl, .inr (.inr ⟨by omega, hg, rfl, sl_of_owns o⟩), b⟩
    · refine (putl_bad F G v l m k w hv hl hm (by omega) hg).mono ?_
      rintro e w' ⟨rfl, b⟩
      exact ⟨_, _, rfl, .inr (.inl ⟨by omega, hg, rfl, rfl⟩), b⟩

/-- The page's list: the bytes, the length, the values, each as a byte. -/
def lstF (F : Nat → Int) (m k : Nat) (G : Nat → Int) (i : Nat) : Int := if i < m then F i else if i = m then (k : Int) % 256 else G (i - m - 1) % 256
theorem lstF_start (F G : Nat → Int) (m k : Nat) : vL .u8 F m ++ [.int .u8 ((k : Int) % 256)] = vL .u8 (lstF F m k G) (m + 1) := by
  rw [vL_succ]
  congr 1
  · exact vL_congr fun j hj => by rw [lstF, if_pos hj]
  · simp [lstF]
theorem lstF_next (F G : Nat → Int) (m k j : Nat) : vL .u8 (lstF F m k G) (m + 1 + j) ++ [.int .u8 (G j % 256)] = vL .u8 (lstF F m k G) (m + 1 + (j + 1)) := by
  rw [← Nat.add_assoc, vL_succ]
  congr 1
  rw [lstF, if_neg (by omega), if_neg (by omega), show m + 1 + j - m - 1 = j by omega]
theorem lstF_is (F G : Nat → Int) (m k : Nat) (hk : k ≤ 255) (hg : ∀ i, i < k → IsB (G i)) (i : Nat) (hi : i < m + 1 + k) : lstF F m k G i = listF F m k G i := by
  unfold lstF listF
  split
  · rfl
  · split
    · omega
    · have := hg (i - m - 1) (by omega)
      unfold IsB at this
      omega
/-- Why a list is not put, of its first values. -/
def wy (G : Nat → Int) : Nat → Int
  | 0 => 0
  | j + 1 => if IsB (G j) then wy G j else 1
theorem wy_ok (G : Nat → Int) : ∀ j, (∀ i, i < j → IsB (G i)) → wy G j = 0
  | 0, _ => rfl
  | j + 1, h => by rw [wy, if_pos (h j (by omega)), wy_ok G j (fun i hi => h i (by omega))]
theorem wy_01 (G : Nat → Int) : ∀ j, wy G j = 0 ∨ wy G j = 1
  | 0 => .inl rfl
  | j + 1 => by
    rw [wy]
    split
    · exact wy_01 G j
    · exact .inr rfl
theorem wy_bad (G : Nat → Int) : ∀ j, (¬ ∀ i, i < j → IsB (G i)) → wy G j = 1
  | 0, h => absurd (fun i hi => by omega) h
  | j + 1, h => by
    rw [wy]
    split
    · rename_i hb
      refine wy_bad G j fun q => h fun i hi => ?_
      by_cases e : i < j
      · exact q i e
      · obtain rfl : i = j := by omega
        exact hb
    · rfl

/-- GetList's answer. -/
def GR (F : Nat → Int) (m : Nat) (a : Int) (w : World) (v : Value) (t c : Int) : Prop :=
  ((¬ Here m a 1 ∨ ∃ A : Nat, a = A ∧ A < m ∧ ¬ Here m ((A : Int) + 1) (F A)) ∧ v = .slice none 0 0 ∧ t = 0 ∧ c = 2) ∨
  ∃ A N : Nat, a = A ∧ A < m ∧ F A = N ∧ A + 1 + N ≤ m ∧ t = (A : Int) + 1 + N ∧ c = 0 ∧ Sl .i64 w v N (fun i => F (A + 1 + i))
theorem GR.below {F : Nat → Int} {m : Nat} {a : Int} {w w' : World} {x : Value} {t c : Int} (h : GR F m a w x t c) (hb : Below w.heap.size w w') : GR F m a w' x t c := by
  rcases h with h | ⟨A, N, h1, h2, h3, h4, h5, h6, h7⟩
  · exact .inl h
  · exact .inr ⟨A, N, h1, h2, h3, h4, h5, h6, h7.below hb (Nat.le_refl _)⟩
theorem getl_all (F : Nat → Int) (v : Value) (m : Nat) (a : Int) (w : World) (hv : Sl .u8 w v m F) (hf : ∀ i, i < m → 0 ≤ F i ∧ F i < 256) (hm : m ≤ 100000) :
    Calls Try.prog 52 #[v, .int .i64 a] w fun e w' => ∃ x t c, e = .returned (.tuple #[x, .int .i64 t, .int .i64 c]) ∧ GR F m a w' x t c ∧ Below w.heap.size w w' := by
  by_cases h : Here m a 1
  · obtain ⟨A, rfl⟩ : ∃ A : Nat, a = A := ⟨a.toNat, by have := h.1; omega⟩
    have hA : A < m := by have := h.2; omega
    by_cases h2 : Here m ((A : Int) + 1) (F A)
    · obtain ⟨N, hN⟩ : ∃ N : Nat, F A = N := ⟨(F A).toNat, by have := hf A hA; omega⟩
      rw [hN] at h2
      have h3 : A + 1 + N ≤ m := by have := h2.2; omega
      refine (getl_is F v m A N w hv hf hA (by omega) hN h3).mono ?_
      rintro e w' ⟨x, rfl, o, b⟩
      exact ⟨x, _, _, rfl, .inr ⟨A, N, rfl, hA, hN, h3, rfl, rfl, sl_of_owns o⟩, b⟩
    · refine (getl_cut F v m A w hv hf hA (by omega) h2).mono ?_
      rintro e w' ⟨rfl, b⟩
      exact ⟨_, _, _, rfl, .inl ⟨.inr ⟨A, rfl, hA, h2⟩, rfl, rfl, rfl⟩, b⟩
  · obtain ⟨p, cap, rfl, _, hc⟩ := hv.shape
    refine (getl_at p m cap a (by unfold maxLen; omega) h w).mono ?_
    rintro e w' ⟨rfl, b⟩
    exact ⟨_, _, _, rfl, .inl ⟨.inl h, rfl, rfl, rfl⟩, b⟩
end Go.Proofs.Ytmcmiojidgdjpaa.Co
namespace Go.Proofs.Ytmcmiojidgdjpaa
open Go.RowKit

set_option maxRecDepth 100000 in
set_option maxHeartbeats 1000000 in
theorem grow0 (n : Nat) (w : World) (hn : n ≤ 1000000) :
    Calls Try.prog 66 #[.slice none 0 0, .int .i64 (n : Int)] w fun e w' => ∃ q c, e = .returned (.slice q 0 c) ∧ w'.ownsRow w.heap.size 3 1 (.slice q 0 c) 0 [] ∧ Below w.heap.size w w' := by
  obtain ⟨i, hi, hz0, hz1, hz2⟩ := info_parts info3
  by_cases h0 : n = 0
  · subst h0
    go_enter Try.func66, Try.ntmps66
    go_wp2
    go_ret
    exact ⟨_, _, rfl, World.ownsRow_nil _ _ _ _, Below.refl _ _⟩
  · have hGn : n ≤ grownCap w n 0 3 := grownCap_ge w _ _ _
    have hG := grownCap_le_maxLen w n 0 3 (by unfold maxLen; omega)
    have hrz : ∀ ty, (Builtin.append_ #[22, 3] ty #[.slice none 0 0, .int .i64 (n : Int)]).run Try.prog w =
        .ok (.slice (some ⟨w.heap.size, 0, none⟩) n (grownCap w n 0 3)) (w.drew.alloc (.cells (([] : List Value).toArray ++ Builtin.zeroCells (Value.int .i64 0).cells n ++ Builtin.zeroCells (Value.int .i64 0).cells (grownCap w n 0 3 - n)) 3)) := fun ty => by
      have h := Lib.run_append_grow_zeros w 22 3 ty 3 i (.int .i64 0) .i64 .i64 Try.underlying22 Try.underlying3 hi hz0 none 0 0 [] (run_firstCells_none w.drew i.size 0 0 0) n (by omega) (by rw [hz1]; omega) (by omega) (by omega) (by rw [hz2]; omega) (by rw [Nat.zero_add]; exact growslice_fits (by omega) (by rw [hz2]; omega))
      rw [Nat.zero_add] at h
      exact h
    generalize grownCap w n 0 3 = G at *
    have d1 : decide ((0 : Int) < (n : Int)) = true := decide_eq_true (by omega)
    have d2 : decide ((n : Int) < 0) = false := decide_eq_false (by omega)
    have hG2 := hide hG
    unfold maxLen at hG
    go_enter Try.func66, Try.ntmps66
    go_wp2_with (at_builtin; refine Lib.wpList_append_run _ rfl _ _ _ _ rfl _ _ rfl rfl _ _ (hrz _) ?_)
    go_ret
    refine ⟨_, _, rfl, ?_, ((Below.refl _ _).alloc (Nat.le_refl _) _).drew⟩
    exact (World.ownsRow_made (base := w.heap.size) (e := 3) (size := 1) w (Builtin.zeroCells #[Value.int .i64 0] n ++ Builtin.zeroCells #[Value.int .i64 0] (G - n)) G (Nat.le_refl _) (unhide hG2) (by simp [Builtin.zeroCells]; omega)).drew
/-- One behind the other. -/
def cat (F : Nat → Int) (m : Nat) (G : Nat → Int) (i : Nat) : Int := if i < m then F i else G (i - m)
theorem vL_append (k : IntKind) (F G : Nat → Int) (m n : Nat) : vL k F m ++ vL k G n = vL k (cat F m G) (m + n) := by
  apply List.ext_getElem?
  intro t
  by_cases h : t < m
  · rw [List.getElem?_append_left (by rw [vL_length]; exact h), vL_get _ _ _ _ h, vL_get _ _ _ _ (by omega), cat, if_pos h]
  · rw [List.getElem?_append_right (by rw [vL_length]; omega), vL_length]
    by_cases h2 : t < m + n
    · rw [vL_get _ _ _ _ (by omega), vL_get _ _ _ _ h2, cat, if_neg h]
    · rw [List.getElem?_eq_none (by rw [vL_length]; omega), List.getElem?_eq_none (by rw [vL_length]; omega)]
/-- append of a slice, whatever its shape, to a row of the call's own. -/
theorem wpList_append_sl {w : World} {ops : Array Oper} {rest : List Oper} {o : Oper} {a : Act} {Q : Exit → Act → World → Prop} (hgd : o.guard = none) (s x : Operand)
    (ho : o.op = .call { callee := .builtin .append, args := #[s, x], argTypes := #[22, 22] }) (base : Nat)
    (v : Value) (n : Nat) (F : Nat → Int) (hs : a.eval s = v) (hown : w.ownsRow base 3 1 v n (vL .i64 F n))
    (u : Value) (m : Nat) (G : Nat → Int) (hx : a.eval x = u) (hu : Sl .i64 w u m G) (hn : n ≤ 1000000) (hm : m ≤ 1000000) (hbase : base ≤ w.heap.size)
    (h : ∀ v' w', w'.ownsRow base 3 1 v' (n + m) (vL .i64 (cat F n G) (n + m)) → Below base w w' → wpList Try.prog ops Q rest (a.put o.dst v') w') : wpList Try.prog ops Q (o :: rest) a w := by
  obtain ⟨i, hi, hz0, hz1, hz2⟩ := info_parts info3
  obtain ⟨p, cap, rfl, hc1, hc2⟩ := hu.shape
  have hcs := hu.cells
  cases p with
  | none =>
    obtain ⟨rfl, rfl⟩ := hcs.1 rfl
    refine wpList_append_own_none hgd s x 22 ho base 3 i 1 Try.underlying22 hi v n _ hs hown hx ?_
    refine h v w ?_ (Below.refl _ _)
    rw [← vL_append]
    simpa [vL] using hown
  | some ad =>
    refine wpList_append_own w hgd s x 22 ho base 3 i (.int .i64 0) 1 8 Try.underlying22 hi hz0 hz1 hz2 rfl (by decide) v n _ hs hown ad m cap (vL .i64 G m) hx (by rw [vL_length]; omega) (hcs.2 ad rfl) (vL_one _ G m) (by unfold maxLen; omega) (by omega) hbase ?_
    intro v' w' ho' hg' _
    rw [vL_append] at ho'
    exact h v' w' ho' ((Below.refl _ _).grown hg' hbase fun k hk => (hown.lt k hk).1)
set_option maxRecDepth 100000 in
set_option maxHeartbeats 1000000 in
theorem concat_any (F G : Nat → Int) (u v : Value) (n k g : Nat) (w : World) (hu : Sl .i64 w u n F) (hv : Sl .i64 w v k G) (c0 : w.cell? ⟨g, 0, none⟩ = some u) (c1 : w.cell? ⟨g, 1, none⟩ = some v) (hn : n ≤ 1000) (hk : k ≤ 1000) :
    Calls Try.prog 61 #[.slice (some ⟨g, 0, none⟩) 2 2] w fun e w' => ∃ q c, e = .returned (.slice q (n + k) c) ∧ Sl .i64 w' (.slice q (n + k) c) (n + k) (cat F n G) ∧ Below w.heap.size w w' := by
  obtain ⟨pu, cu, rfl, lu, mu⟩ := hu.shape
  obtain ⟨pv, cv, rfl, lv, mv⟩ := hv.shape
  unfold maxLen at mu mv
  have HU := hide hu
  have HV := hide hv
  have hg : g < w.heap.size := block_lt_of_cell c0
  have HG := hide hg
  clear hu hv hg
  go_enter Try.func61, Try.ntmps61
  go_wp2
  go_loop [11, 3] (fun xi xs => (xi = .int .i64 0 ∧ xs = .int .i64 0) ∨ (xi = .int .i64 1 ∧ xs = .int .i64 (n : Int)) ∨ (xi = .int .i64 2 ∧ xs = .int .i64 ((n : Int) + k))) (fun i _ => 2 - (intOf i).toNat)
  case atStart => exact .inl ⟨rfl, rfl⟩
  case round =>
    rcases hrel with ⟨rfl, rfl⟩ | ⟨rfl, rfl⟩ | ⟨rfl, rfl⟩
    · go_wp2
      go_round
      case rel => exact .inr (.inl ⟨rfl, by simp⟩)
      case measure => simp [intOf]
    · go_wp2
      go_round
      case rel => exact .inr (.inr ⟨rfl, by simp⟩)
      case measure => simp [intOf]
    · have C0 := hide c0
      have C1 := hide c1
      clear c0 c1
      go_wp2_with (go_at_call 66; refine (grow0 (n + k) w (by omega)).mono ?_; rintro e w1 ⟨q1, d1, rfl, o1, b1⟩; have O1 := hide o1; have B1 := hide b1; clear o1 b1)
      go_loopw [27, 6] (fun xi xs w2 => Below w.heap.size w w2 ∧ ((xi = .int .i64 0 ∧ w2.ownsRow w.heap.size 3 1 xs 0 (vL .i64 F 0)) ∨ (xi = .int .i64 1 ∧ w2.ownsRow w.heap.size 3 1 xs n (vL .i64 F n)) ∨ (xi = .int .i64 2 ∧ w2.ownsRow w.heap.size 3 1 xs (n + k) (vL .i64 (cat F n G) (n + k))))) (fun i _ _ => 2 - (intOf i).toNat)
      case atStart => exact ⟨unhide B1, .inl ⟨rfl, by simpa [vL] using unhide O1⟩⟩
      case round =>
        obtain ⟨b2, hrel⟩ := hrel
        have c0 : wr.cell? ⟨g, 0, none⟩ = some (.slice pu n cu) := (b2.cell (unhide HG)).trans (unhide C0)
        have c1 : wr.cell? ⟨g, 1, none⟩ = some (.slice pv k cv) := (b2.cell (unhide HG)).trans (unhide C1)
        have B2 := hide b2
        clear b2
        rcases hrel with ⟨rfl, o2⟩ | ⟨rfl, o2⟩ | ⟨rfl, o2⟩
        · have O2 := hide o2
          clear o2
          go_wp2_with (at_builtin; refine wpList_append_sl rfl (.tmp 31) (.tmp 32) rfl w.heap.size _ 0 F rfl (unhide O2) (.slice pu n cu) n F rfl ((unhide HU).below (unhide B2) (Nat.le_refl _)) (by omega) (by omega) (unhide B2).size ?_)
          intro v3 w3 o3 b3
          have O3 := hide o3
          have B3 := hide ((unhide B2).trans b3)
          clear o3 b3 c0 c1
          go_wp2
          go_roundw
          case rel =>
            refine ⟨unhide B3, .inr (.inl ⟨rfl, ?_⟩)⟩
            have := unhide O3
            rw [vL_congr (G := F) (fun j _ => by simp [cat])] at this
            exact this
          case measure => simp [intOf]
        · have O2 := hide o2
          clear o2
          go_wp2_with (at_builtin; refine wpList_append_sl rfl (.tmp 31) (.tmp 32) rfl w.heap.size _ n F rfl (unhide O2) (.slice pv k cv) k G rfl ((unhide HV).below (unhide B2) (Nat.le_refl _)) (by omega) (by omega) (unhide B2).size ?_)
          intro v3 w3 o3 b3
          have O3 := hide o3
          have B3 := hide ((unhide B2).trans b3)
          clear o3 b3 c0 c1
          go_wp2
          go_roundw
          case rel => exact ⟨unhide B3, .inr (.inr ⟨rfl, unhide O3⟩)⟩
          case measure => simp [intOf]
        · obtain ⟨q, c, rfl⟩ := owns_shape o2
          have O2 := hide o2
          clear o2
          go_wp2
          go_ret
          exact ⟨q, c, rfl, sl_of_owns (unhide O2), unhide B2⟩
end Go.Proofs.Ytmcmiojidgdjpaa
