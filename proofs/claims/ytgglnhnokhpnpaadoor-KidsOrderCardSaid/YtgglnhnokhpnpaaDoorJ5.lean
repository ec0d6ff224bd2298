/- Walks of kids.Has and the page's Has. -/
import Derived.Test.YtgglnhnokhpnpaaDoorJ4
import Derived.Shelf.Abstract
namespace Go.Proofs.YtgglnhnokhpnpaaDoor
open Go.RowKit Go.Shelf

theorem e30 : ∀ args w, (callFunc 30 args).run Tryd.prog w = .ok (.enter 30 args) w := enters_of Tryd.func30 (by kernel_rfl) rfl
theorem make_func (fn : Fn) (first cap : Array Value) (w : World) : (Instr.makeFunc fn first cap).run Tryd.prog w = .ok (.func fn first cap) w := rfl
theorem has1_k (y1 y2 y3 n : Int) (B : Nat) (w : World) (hc : w.cell? ⟨B, 0, none⟩ = some (.int .i64 n)) :
    Calls Tryd.prog 30 #[.agg #[.int .i64 y1, .int .i64 y2, .int .i64 y3], .pointer (some ⟨B, 0, none⟩)] w fun e w' => e = .returned (.bool (y1 == n)) ∧ Below w.heap.size w w' := by
  have hB := block_lt_of_cell hc
  go_enter Tryd.func30, Tryd.ntmps30
  go_wp2
  go_ret
  exact ⟨rfl, (Below.refl _ _).alloc (Nat.le_refl _) _⟩
set_option maxHeartbeats 1000000 in
theorem index_k (L : List Kd) (n : Int) (B : Nat) (v : Value) (w : World) (h : KL w v L) (hc : w.cell? ⟨B, 0, none⟩ = some (.int .i64 n)) :
    Calls Tryd.prog 39 #[v, .func (.func 30) #[] #[.pointer (some ⟨B, 0, none⟩)]] w fun e w' => ∃ r : Int, e = .returned (.int .i64 r) ∧ decide (0 ≤ r) = hs L n ∧ Below w.heap.size w w' := by
  have hB := block_lt_of_cell hc
  obtain ⟨q, c, rfl⟩ := kl_form h
  obtain ⟨m, hn⟩ : ∃ m, L.length = m := ⟨_, rfl⟩
  have HN := hide hn
  have HI := hide h
  have HC := hide (show ∀ w', Below w.heap.size w w' → w'.cell? ⟨B, 0, none⟩ = some (.int .i64 n) from fun w' hb => (hb.cell (p := ⟨B, 0, none⟩) hB).trans hc)
  have eg := e30
  rw [hn] at HI ⊢
  clear h hn hc
  go_enter Tryd.func39, Tryd.ntmps39
  go_wp2
  go_loopw [8] (fun xi w3 => ∃ k : Nat, k ≤ m ∧ xi = .int .i64 k ∧ Hid (∀ i, i < k → (kz L i).1 ≠ n) ∧ Below w.heap.size w w3) (fun i _ => m - (intOf i).toNat)
  case atStart => exact ⟨0, by omega, rfl, hide (fun i hi => absurd hi (Nat.not_lt_zero _)), Below.refl _ _⟩
  case round =>
    obtain ⟨k, hk, rfl, HR, hb⟩ := hrel
    have HB := hide hb
    by_cases hlt : k < m
    · obtain ⟨b, off, rfl, hle, hcc, hbb, c1, c2, c3⟩ := kl_cell ((unhide HI).below hb (Nat.le_refl _)) hlt (by rw [unhide HN]; exact Nat.le_refl _)
      have hkl : k < L.length := by rw [unhide HN]; exact hlt
      by_cases hx : (kz L k).1 = n
      · have E := hide (hs_yes hkl hx)
        have C := has1_k (kz L k).1 (kz L k).2.1 (kz L k).2.2 n B wr (unhide HC _ hb)
        rw [show ((kz L k).1 == n) = true by simp [hx]] at C
        have C := hide C
        clear hx hkl hb
        generalize kz L k = y at *
        obtain ⟨y1, y2, y3⟩ := y
        go_wp2_with (go_at_fn 30; refine (unhide C).mono ?_; rintro e w4 ⟨rfl, b4⟩; have B4 := hide ((unhide HB).trans (b4.mono (unhide HB).size)); clear b4)
        go_ret
        exact ⟨_, rfl, by rw [unhide E]; exact decide_eq_true (by omega), unhide B4⟩
      · have HR2 : Hid (∀ i, i < k + 1 → (kz L i).1 ≠ n) := hide fun i hi => by
          by_cases e : i = k
          · subst e; exact hx
          · exact unhide HR i (by omega)
        have C := has1_k (kz L k).1 (kz L k).2.1 (kz L k).2.2 n B wr (unhide HC _ hb)
        rw [show ((kz L k).1 == n) = false by simp [hx]] at C
        have C := hide C
        clear hx hkl hb
        generalize kz L k = y at *
        obtain ⟨y1, y2, y3⟩ := y
        go_wp2_with (go_at_fn 30; refine (unhide C).mono ?_; rintro e w4 ⟨rfl, b4⟩; have B4 := hide ((unhide HB).trans (b4.mono (unhide HB).size)); clear b4)
        go_roundw
        case rel => exact ⟨k + 1, by omega, by go_num, HR2, unhide B4⟩
        case measure => simp [intOf]; omega
    · obtain rfl : k = m := by omega
      have E := hide (hs_not (L := L) (n := n) (by rw [unhide HN]; exact unhide HR))
      clear hb
      go_wp2
      go_ret
      exact ⟨_, rfl, by rw [unhide E]; rfl, unhide HB⟩
theorem contains_k (L : List Kd) (n : Int) (B : Nat) (v : Value) (w : World) (h : KL w v L) (hc : w.cell? ⟨B, 0, none⟩ = some (.int .i64 n)) :
    Calls Tryd.prog 29 #[v, .func (.func 30) #[] #[.pointer (some ⟨B, 0, none⟩)]] w fun e w' => e = .returned (.bool (hs L n)) ∧ Below w.heap.size w w' := by
  have C := hide (index_k L n B v w h hc)
  obtain ⟨q, c, rfl⟩ := kl_form h
  clear h hc
  generalize hs L n = H at *
  go_enter Tryd.func29, Tryd.ntmps29
  go_wp2_with (go_at_call 39; (with_reducible refine (unhide C).mono ?_); rintro e w1 ⟨r, rfl, hr, b1⟩; have HR := hide hr; have B1 := hide b1; clear hr b1)
  go_ret
  exact ⟨by rw [← unhide HR]; rfl, unhide B1⟩
theorem has_k (L : List Kd) (n : Int) (v : Value) (w : World) (h : KL w v L) :
    Calls Tryd.prog 15 #[v, .int .i64 n] w fun e w' => e = .returned (.bool (hs L n)) ∧ Below w.heap.size w w' := by
  have C := hide (show ∀ g, g = w.heap.size → Calls Tryd.prog 29 #[v, .func (.func 30) #[] #[.pointer (some ⟨g, 0, none⟩)]] (w.alloc (.cells #[.int .i64 n] 3)) fun e w' => e = .returned (.bool (hs L n)) ∧ Below w.heap.size w w' from fun g hg => by
    subst hg
    have hb : Below w.heap.size w (w.alloc (.cells #[.int .i64 n] 3)) := (Below.refl _ _).alloc (Nat.le_refl _) _
    exact (contains_k L n w.heap.size v _ (h.below hb (Nat.le_refl _)) (by simp [go_sem])).mono fun e w' ⟨h1, h2⟩ => ⟨h1, below_of hb h2⟩)
  have mf := make_func
  obtain ⟨q, c, rfl⟩ := kl_form h
  clear h
  generalize hs L n = H at *
  go_enter Tryd.func15, Tryd.ntmps15
  go_wp2_with (go_at_call 29; refine (unhide C _ rfl).mono ?_; rintro e w1 ⟨rfl, b1⟩; have B1 := hide b1; clear b1)
  go_ret
  exact ⟨rfl, unhide B1⟩
set_option maxHeartbeats 1000000 in
theorem rhas_k (L : List Kd) (n : Int) (v : Value) (w : World) (h : KL w v L) :
    Calls Tryd.prog 16 #[v, .int .i64 n] w fun e w' => e = .returned (.bool (hs L n)) ∧ w' = w := by
  obtain ⟨q, c, rfl⟩ := kl_form h
  obtain ⟨m, hn⟩ : ∃ m, L.length = m := ⟨_, rfl⟩
  have HN := hide hn
  have HI := hide h
  rw [hn] at HI ⊢
  clear h hn
  go_enter Tryd.func16, Tryd.ntmps16
  go_wp2
  go_loop [5] (fun xi => ∃ k : Nat, k ≤ m ∧ xi = .int .i64 k ∧ Hid (∀ i, i < k → (kz L i).1 ≠ n)) (fun i => m - (intOf i).toNat)
  case atStart => exact ⟨0, by omega, rfl, hide (fun i hi => absurd hi (Nat.not_lt_zero _))⟩
  case round =>
    obtain ⟨k, hk, rfl, HR⟩ := hrel
    by_cases hlt : k < m
    · obtain ⟨b, off, rfl, hle, hcc, hbb, c1, c2, c3⟩ := kl_cell (unhide HI) hlt (by rw [unhide HN]; exact Nat.le_refl _)
      have hkl : k < L.length := by rw [unhide HN]; exact hlt
      by_cases hx : (kz L k).1 = n
      · have E := hide (hs_yes hkl hx)
        have e1 : ((kz L k).1 == n) = true := by simp [hx]
        clear hx hkl
        generalize kz L k = y at *
        obtain ⟨y1, y2, y3⟩ := y
        go_wp2
        go_ret
        exact ⟨by rw [unhide E]; rfl, rfl⟩
      · have HR2 : Hid (∀ i, i < k + 1 → (kz L i).1 ≠ n) := hide fun i hi => by
          by_cases e : i = k
          · subst e; exact hx
          · exact unhide HR i (by omega)
        have e1 : ((kz L k).1 == n) = false := by simp [hx]
        clear hx hkl
        generalize kz L k = y at *
        obtain ⟨y1, y2, y3⟩ := y
        go_wp2
        go_round
        case rel => exact ⟨k + 1, by omega, by go_num, HR2⟩
        case measure => simp [intOf]; omega
    · obtain rfl : k = m := by omega
      have E := hide (hs_not (L := L) (n := n) (by rw [unhide HN]; exact unhide HR))
      go_wp2
      go_ret
      exact ⟨by rw [unhide E]; rfl, rfl⟩
end Go.Proofs.YtgglnhnokhpnpaaDoor
