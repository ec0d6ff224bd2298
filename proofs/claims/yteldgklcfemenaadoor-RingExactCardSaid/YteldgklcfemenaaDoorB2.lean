/- Walk of bellwetherlaw03.RingNearer. -/
import Derived.Test.YteldgklcfemenaaDoorB1
namespace Go.Proofs.YteldgklcfemenaaDoor
open Go.RowKit

/-- Is o among the first k of some ints? -/
def metF (G : Nat → Int) (o : Int) : Nat → Bool
  | 0 => false
  | k + 1 => metF G o k || (G k == o)
theorem metF_of (G : Nat → Int) (o : Int) (i : Nat) (h : G i = o) : ∀ n, i < n → metF G o n = true
  | 0, hi => absurd hi (Nat.not_lt_zero _)
  | n + 1, hi => by
    unfold metF
    by_cases e : i = n
    · subst e
      simp [h]
    · rw [metF_of G o i h n (by omega)]
      rfl

theorem nearer_le (t a b : Int) (ht : IsT t) (ha : IsN a) (hb : IsN b) (h : gp t b ≤ gp t a) (w : World) (hG : Glob w) :
    Calls Tryd.prog 12 #[.int .i64 t, .int .i64 a, .int .i64 b] w fun e w' => e = .returned (.bool false) ∧ w' = w :=
  nearer_f t a b ht ha hb (by omega) w hG

theorem nearerlaw_none (t a b c : Int) (x : Option Addr) (n cap : Nat) (w : World) (hn : n = 0 ∨ 20 < n) (hm : n ≤ maxLen) :
    Calls Tryd.prog 5 #[.int .i64 t, .int .i64 a, .int .i64 b, .int .i64 c, .slice x n cap] w fun e w' => e = .returned (.bool true) ∧ w' = w := by
  unfold maxLen at hm
  rcases hn with rfl | hn
  · go_enter Tryd.func5, Tryd.ntmps5
    go_wp2
    go_ret
    exact ⟨rfl, rfl⟩
  · go_enter Tryd.func5, Tryd.ntmps5
    go_wp2
    go_ret
    exact ⟨rfl, rfl⟩

set_option maxHeartbeats 4000000 in
theorem nearerlaw_some (t a b c : Int) (b0 off m cap : Nat) (F : Nat → Int) (w : World) (hG : Glob w) (hm : m < 20) (hcap : m + 1 ≤ cap) (hcap2 : cap ≤ maxLen)
    (hb0 : b0 < w.heap.size) (hc : ∀ i, i < m + 1 → w.cell? ⟨b0, off + i, none⟩ = some (.int .i64 (F i))) :
    Calls Tryd.prog 5 #[.int .i64 t, .int .i64 a, .int .i64 b, .int .i64 c, .slice (some ⟨b0, off, none⟩) (m + 1 : Nat) cap] w fun e w' => e = .returned (.bool true) ∧ Below w.heap.size w w' := by
  unfold maxLen at hcap2
  obtain ⟨i3, hi3, hz30, hz31, hz32⟩ := info_parts info3
  obtain ⟨T, hT, kT⟩ : ∃ T, wrap64 ((IntKind.u64.wrap t).tmod 4) = T ∧ IsT T := ⟨_, mod4 t, mod4_topic t⟩
  obtain ⟨A, hA, kA⟩ : ∃ T, wrap64 ((IntKind.u64.wrap a).tmod 8) = T ∧ IsN T := ⟨_, mod8 a, mod8_node a⟩
  obtain ⟨B, hB, kB⟩ : ∃ T, wrap64 ((IntKind.u64.wrap b).tmod 8) = T ∧ IsN T := ⟨_, mod8 b, mod8_node b⟩
  obtain ⟨C, hC, kC⟩ : ∃ T, wrap64 ((IntKind.u64.wrap c).tmod 8) = T ∧ IsN T := ⟨_, mod8 c, mod8_node c⟩
  obtain ⟨G, hGF, hGN⟩ : ∃ G : Nat → Int, (∀ i, wrap64 ((IntKind.u64.wrap (F i)).tmod 8) = G i) ∧ ∀ i, IsN (G i) := ⟨fun i => F i % 8, fun i => mod8 (F i), fun i => mod8_node (F i)⟩
  have hinj := hide (gp_inj kT kA kB)
  have hz : ((m : Int) + 1 == 0) = false := beq_false_of_ne (by omega)
  have h20 : decide ((20 : Int) < (m : Int) + 1) = false := decide_eq_false (by omega)
  have HG := hide hG
  have HC := hide hc
  clear hc
  by_cases hAB : A = B
  all_goals
    by_cases hx : gp T A < gp T B
  all_goals
    by_cases hy : gp T B < gp T A
  all_goals
    by_cases hu : gp T B < gp T C
  all_goals
    by_cases hv : gp T A < gp T C
  all_goals try omega
  all_goals try (exfalso; exact hAB (unhide hinj (by omega)))
  all_goals try (exfalso; subst hAB; omega)
  all_goals try subst hAB
  all_goals
    clear hinj
    go_enter Tryd.func5, Tryd.ntmps5
    go_wp2_with (first
      | (go_at_call 12; refine (nearer_t _ _ _ (by assumption) (by assumption) (by assumption) (by assumption) _ (by assumption)).mono ?_; rintro e w1 ⟨rfl, rfl⟩)
      | (go_at_call 12; refine (nearer_le _ _ _ (by assumption) (by assumption) (by assumption) (by assumption) _ (by assumption)).mono ?_; rintro e w1 ⟨rfl, rfl⟩))
    obtain ⟨ws, hws⟩ : ∃ x, w1 = x := ⟨_, rfl⟩
    subst hws
    clear hG
    go_loopw [14, 15] (fun v xi w2 => ∃ k : Nat, k ≤ m + 1 ∧ xi = .int .i64 k ∧ w2.ownsRow w1.heap.size 3 1 v k (iL G k) ∧ Below w1.heap.size w1 w2) (fun _ i _ => m + 1 - (intOf i).toNat)
    case atStart => exact ⟨0, by omega, rfl, World.ownsRow_nil _ _ _ _, Below.refl _ _⟩
    case round =>
      obtain ⟨k, hk, rfl, hown, hbel⟩ := hrel
      by_cases hlt : k < m + 1
      · have hck : wr.cell? ⟨b0, off + k, none⟩ = some (.int .i64 (F k)) := (hbel.cell (p := ⟨b0, off + k, none⟩) hb0).trans (unhide HC k hlt)
        have hgk := hGF k
        have hGs := iL_succ G k
        clear hGF
        generalize F k = x at *
        generalize hy : G k = y at *
        go_wp2_with (at_builtin; refine wpList_append_own _ rfl (.tmp 103) (.tmp 111) 22 rfl w1.heap.size 3 i3 (.int .i64 0) 1 8 Tryd.underlying22 hi3 hz30 hz31 hz32 rfl (by decide) _ k _ rfl (hown.alloc _) ⟨wr.heap.size, 0, none⟩ 1 1 [.int .i64 y] rfl rfl (cells_lit _ _ 3) (by intro u hu; simp at hu; subst hu; rfl) (by unfold maxLen; omega) (by omega) (by have := hbel.size; simp; omega) ?_)
        intro v2 w2 hown2 hgrow2 _
        rw [← hGs] at hown2
        go_wp2
        go_roundw
        case rel =>
          refine ⟨k + 1, by omega, by go_num, hown2, (hbel.alloc hbel.size _).grown hgrow2 (by have := hbel.size; simp; omega) (fun b hb => (hown.lt b hb).1)⟩
        case measure => simp [intOf]; omega
      · obtain rfl : k = m + 1 := by omega
        have gw := (unhide HG).below hbel (unhide HG).size
        have IS := isl_of_owns hown
        rcases id IS with ⟨h0, _⟩ | ⟨g, o2, cap2, rfl, hle2, hcap3, hg2, hcell2⟩
        · omega
        · unfold maxLen at hcap3
          have HB := hide hbel
          clear hown hbel
          obtain ⟨O, hO, kO, hleast, hmet⟩ : ∃ O, own T G m = O ∧ IsN O ∧ (∀ i, i ≤ m → gp T O ≤ gp T (G i)) ∧ metF G O (m + 1) = true := by
            obtain ⟨i, hi, e⟩ := own_met T G m
            exact ⟨_, rfl, own_node (n := m + 1) (fun i _ => hGN i) (by omega), fun i hi => own_least T G m i hi, metF_of G _ i e.symm (m + 1) (by omega)⟩
          have HM := hide hmet
          clear hmet
          go_wp2_with (first
            | (go_at_call 11; refine (owner_is T _ m G kT _ gw IS (fun i _ => hGN i)).mono ?_; rw [hO]; rintro e w3 ⟨rfl, rfl⟩))
          clear IS hO
          go_loop [18, 19] (fun x xi => ∃ k : Nat, k ≤ m + 1 ∧ xi = .int .i64 k ∧ x = .bool (metF G O k)) (fun _ i => m + 1 - (intOf i).toNat)
          case atStart => exact ⟨0, by omega, rfl, rfl⟩
          case round =>
            obtain ⟨k, hk, rfl, rfl⟩ := hrel
            by_cases hlt : k < m + 1
            · have hck := hcell2 k hlt
              have hkn := hGN k
              have hkl := hleast k (by omega)
              have hsucc : metF G O (k + 1) = (metF G O k || (G k == O)) := rfl
              clear hcell2 hleast
              generalize G k = y at *
              by_cases hmk : metF G O k = true
              · rw [hmk] at hsucc ⊢
                clear hmk
                go_wp2_with (first
                  | (go_at_call 12; refine (nearer_le _ _ _ (by assumption) (by assumption) (by assumption) (by assumption) _ (by assumption)).mono ?_; rintro e w4 ⟨rfl, rfl⟩))
                go_round
                case rel => exact ⟨k + 1, by omega, by go_num, by rw [hsucc]; rfl⟩
                case measure => simp [intOf]; omega
              · rw [Bool.not_eq_true] at hmk
                rw [hmk] at hsucc ⊢
                clear hmk
                go_wp2_with (first
                  | (go_at_call 12; refine (nearer_le _ _ _ (by assumption) (by assumption) (by assumption) (by assumption) _ (by assumption)).mono ?_; rintro e w4 ⟨rfl, rfl⟩))
                go_round
                case rel => exact ⟨k + 1, by omega, by go_num, by rw [hsucc]; rfl⟩
                case measure => simp [intOf]; omega
            · obtain rfl : k = m + 1 := by omega
              rw [unhide HM]
              clear hcell2
              go_wp2_with (first
                | (go_at_call 17; refine (wakes_any _ (by assumption)).mono ?_; rintro e w4 ⟨rfl, hb4⟩))
              go_ret
              exact ⟨rfl, (unhide HB).trans (hb4.mono (unhide HB).size)⟩
end Go.Proofs.YteldgklcfemenaaDoor
