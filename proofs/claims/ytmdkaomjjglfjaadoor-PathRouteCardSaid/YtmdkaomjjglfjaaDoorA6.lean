/- Walks of slices.Index, slices.Contains, route.areNodesRising, route.Check. -/
import Derived.Test.YtmdkaomjjglfjaaDoorP1
namespace Go.Proofs.YtmdkaomjjglfjaaDoor
open Go.RowKit

/-- A slice that holds a list. -/
def IL (w : World) (v : Value) (L : List Int) : Prop := ISl w v L.length (zF L)
theorem IL.below {w w' : World} {v : Value} {L : List Int} {B : Nat} (h : IL w v L) (hb : Below B w w') (hB : w.heap.size ≤ B) : IL w' v L := ISl.below h hb hB
/-- Where in a list something stands first. -/
theorem index_is (L : List Int) (x : Int) (v : Value) (w : World) (h : IL w v L) :
    Calls Tryd.prog 45 #[v, .int .i64 x] w fun e w' => (∃ k : Int, e = .returned (.int .i64 k) ∧ (0 ≤ k ↔ x ∈ L)) ∧ w' = w := by
  rcases h with ⟨h0, hv⟩ | ⟨b, off, cap, rfl, hle, hcap, hb, hcell⟩
  · have hL : L = [] := List.length_eq_zero_iff.1 h0
    subst hL
    rcases hv with rfl | ⟨a, cap, rfl, hc⟩
    · go_enter Tryd.func45, Tryd.ntmps45
      go_wp2
      go_loop [8] (fun xi => xi = .int .i64 0) (fun _ => 0)
      case atStart => rfl
      case round =>
        subst hrel
        go_wp2
        go_ret
        exact ⟨⟨_, rfl, by simp⟩, rfl⟩
    · unfold maxLen at hc
      go_enter Tryd.func45, Tryd.ntmps45
      go_wp2
      go_loop [8] (fun xi => xi = .int .i64 0) (fun _ => 0)
      case atStart => rfl
      case round =>
        subst hrel
        go_wp2
        go_ret
        exact ⟨⟨_, rfl, by simp⟩, rfl⟩
  · unfold maxLen at hcap
    obtain ⟨n, hn⟩ : ∃ n, L.length = n := ⟨_, rfl⟩
    rw [hn] at hle hcell ⊢
    have HN := hide hn
    clear hn
    go_enter Tryd.func45, Tryd.ntmps45
    go_wp2
    go_loop [8] (fun xi => ∃ k : Nat, k ≤ n ∧ xi = .int .i64 k ∧ ∀ i, i < k → zF L i ≠ x) (fun i => n - (intOf i).toNat)
    case atStart => exact ⟨0, by omega, rfl, fun i hi => absurd hi (Nat.not_lt_zero _)⟩
    case round =>
      obtain ⟨k, hk, rfl, hno⟩ := hrel
      by_cases hlt : k < n
      · have hck := hcell k hlt
        have hm : zF L k ∈ L := zF_mem (by rw [unhide HN]; exact hlt)
        clear hcell
        by_cases hx : zF L k = x
        · rw [hx] at hck hm
          have HM := hide hm
          clear hx hno hm
          go_wp2
          go_ret
          refine ⟨⟨(k : Int), rfl, ?_⟩, rfl⟩
          exact Iff.intro (fun _ => unhide HM) (fun _ => by omega)
        · have hno2 : ∀ i, i < k + 1 → zF L i ≠ x := fun i hi => by
            by_cases e : i = k
            · subst e; exact hx
            · exact hno i (by omega)
          have HNO := hide hno2
          have hne : (x == zF L k) = false := beq_false_of_ne fun q => hx q.symm
          clear hno hno2 hx hm
          generalize zF L k = y at *
          go_wp2
          go_round
          case rel => exact ⟨k + 1, by omega, by go_num, unhide HNO⟩
          case measure => simp [intOf]; omega
      · obtain rfl : n = k := by omega
        have HNO := hide hno
        clear hno hcell
        go_wp2
        go_ret
        refine ⟨⟨_, rfl, ⟨fun q => by simp at q, fun q => ?_⟩⟩, rfl⟩
        obtain ⟨i, h1, h2⟩ := zF_of_mem q
        rw [unhide HN] at h1
        exact absurd h2 (unhide HNO i h1)
theorem contains_is (L : List Int) (x : Int) (v : Value) (w : World) (h : IL w v L) :
    Calls Tryd.prog 41 #[v, .int .i64 x] w fun e w' => e = .returned (.bool (decide (x ∈ L))) ∧ w' = w := by
  have c := hide (index_is L x v w h)
  clear h
  obtain ⟨d, hd⟩ : ∃ d, decide (x ∈ L) = d := ⟨_, rfl⟩
  rw [hd]
  have HD := hide hd
  clear hd
  go_enter Tryd.func41, Tryd.ntmps41
  go_wp2_with (go_at_call 45; refine (unhide c).mono ?_; rintro e w1 ⟨⟨k, rfl, hk⟩, rfl⟩; have HK := hide hk; clear hk)
  go_ret
  refine ⟨?_, rfl⟩
  rw [← unhide HD]
  congr 2
  first | exact decide_eq_decide.2 (unhide HK) | simp [unhide HK]
/-- Numbers of nodes, rising. -/
def Ris (L : List Int) : Prop := L.Pairwise (fun x y => x < y) ∧ Nds L
/-- What the number at k may be at least. -/
def lea (L : List Int) (k : Nat) : Int := if k = 0 then 0 else zF L (k - 1) + 1
theorem lea_succ (L : List Int) (k : Nat) : lea L (k + 1) = zF L k + 1 := rfl
theorem ris_iff (L : List Int) : Ris L ↔ ∀ i, i < L.length → lea L i ≤ zF L i ∧ zF L i < 8 := by
  constructor
  · rintro ⟨h1, h2⟩ i hi
    have h3 := h2 _ (zF_mem hi)
    refine ⟨?_, h3.2⟩
    cases i with
    | zero => exact h3.1
    | succ i =>
      rw [lea_succ]
      have := List.pairwise_iff_getElem.1 h1 i (i + 1) (by omega) hi (by omega)
      simp only [zF, List.getD, List.getElem?_eq_getElem hi, List.getElem?_eq_getElem (show i < L.length by omega), Option.getD_some]
      omega
  · intro h
    have up : ∀ j, j < L.length → ∀ i, i < j → zF L i < zF L j := by
      intro j
      induction j with
      | zero => intro _ i hi; omega
      | succ j ih =>
        intro hj i hi
        have h1 := (h (j + 1) hj).1
        rw [lea_succ] at h1
        by_cases e : i = j
        · subst e; omega
        · have := ih (by omega) i (by omega)
          omega
    have low : ∀ j, j < L.length → 0 ≤ zF L j := by
      intro j hj
      have h0 := (h 0 (by omega)).1
      have e0 : lea L 0 = 0 := rfl
      rw [e0] at h0
      cases j with
      | zero => exact h0
      | succ j => have := up (j + 1) hj 0 (by omega); omega
    refine ⟨?_, ?_⟩
    · rw [List.pairwise_iff_getElem]
      intro i j hi hj hij
      have := up j hj i hij
      simpa only [zF, List.getD, List.getElem?_eq_getElem hi, List.getElem?_eq_getElem hj, Option.getD_some] using this
    · intro x hx
      obtain ⟨i, hi, rfl⟩ := zF_of_mem hx
      exact ⟨low i hi, (h i hi).2⟩
theorem rising_t (L : List Int) (v : Value) (w : World) (h : IL w v L) (hR : Ris L) :
    Calls Tryd.prog 40 #[v] w fun e w' => e = .returned (.bool true) ∧ w' = w := by
  have hA := (ris_iff L).1 hR
  clear hR
  rcases h with ⟨h0, hv⟩ | ⟨b, off, cap, rfl, hle, hcap, hb, hcell⟩
  · rcases hv with rfl | ⟨a, cap, rfl, hc⟩
    · clear hA h0
      go_enter Tryd.func40, Tryd.ntmps40
      go_wp2
      go_loop [8] (fun xi => xi = .int .i64 0) (fun _ => 0)
      case atStart => rfl
      case round =>
        subst hrel
        go_wp2
        go_ret
        exact ⟨rfl, rfl⟩
    · unfold maxLen at hc
      clear hA h0
      go_enter Tryd.func40, Tryd.ntmps40
      go_wp2
      go_loop [8] (fun xi => xi = .int .i64 0) (fun _ => 0)
      case atStart => rfl
      case round =>
        subst hrel
        go_wp2
        go_ret
        exact ⟨rfl, rfl⟩
  · unfold maxLen at hcap
    obtain ⟨n, hn⟩ : ∃ n, L.length = n := ⟨_, rfl⟩
    rw [hn] at hle hcell hA ⊢
    clear hn
    have HA := hide hA
    clear hA
    go_enter Tryd.func40, Tryd.ntmps40
    go_wp2
    go_loop [3, 8] (fun xl xi => ∃ k : Nat, k ≤ n ∧ xi = .int .i64 k ∧ xl = .int .i64 (lea L k)) (fun _ i => n - (intOf i).toNat)
    case atStart => exact ⟨0, by omega, rfl, rfl⟩
    case round =>
      obtain ⟨k, hk, rfl, rfl⟩ := hrel
      by_cases hlt : k < n
      · have hck := hcell k hlt
        obtain ⟨h1, h2⟩ := unhide HA k hlt
        have hl : -1 ≤ lea L k := by
          unfold lea
          split
          · omega
          · have := (unhide HA (k - 1) (by omega)).1
            clear h1 h2
            have low : ∀ j, j < n → -1 ≤ zF L j ∧ 0 ≤ zF L j := by
              intro j
              induction j with
              | zero => intro hj; have := (unhide HA 0 hj).1; have e0 : lea L 0 = 0 := rfl; rw [e0] at this; omega
              | succ j ih => intro hj; have a := (unhide HA (j + 1) hj).1; rw [lea_succ] at a; have := ih (by omega); omega
            have := low (k - 1) (by omega)
            omega
        have e2 := lea_succ L k
        have E2 := hide e2
        clear e2 hcell
        have t1 : decide (zF L k < lea L k) = false := decide_eq_false (by omega)
        have t2 : decide (8 ≤ zF L k) = false := decide_eq_false (by omega)
        generalize zF L k = x at *
        generalize lea L k = l at *
        go_wp2
        go_round
        case rel => exact ⟨k + 1, by omega, by go_num, by rw [unhide E2]⟩
        case measure => simp [intOf]; omega
      · go_wp2
        go_ret
        exact ⟨rfl, rfl⟩
theorem rising_f (L : List Int) (v : Value) (w : World) (h : IL w v L) (hR : ¬ Ris L) :
    Calls Tryd.prog 40 #[v] w fun e w' => e = .returned (.bool false) ∧ w' = w := by
  rw [ris_iff] at hR
  obtain ⟨j, hj, hA, hF⟩ : ∃ j, j < L.length ∧ (∀ i, i < j → lea L i ≤ zF L i ∧ zF L i < 8) ∧ ¬ (lea L j ≤ zF L j ∧ zF L j < 8) := by
    have : ∀ n, (∀ i, i < n → lea L i ≤ zF L i ∧ zF L i < 8) ∨ ∃ j, j < n ∧ (∀ i, i < j → lea L i ≤ zF L i ∧ zF L i < 8) ∧ ¬ (lea L j ≤ zF L j ∧ zF L j < 8) := by
      intro n
      induction n with
      | zero => exact .inl fun i hi => absurd hi (Nat.not_lt_zero _)
      | succ n ih =>
        rcases ih with ih | ⟨j, h1, h2⟩
        · by_cases q : lea L n ≤ zF L n ∧ zF L n < 8
          · refine .inl fun i hi => ?_
            by_cases e : i = n
            · subst e; exact q
            · exact ih i (by omega)
          · exact .inr ⟨n, by omega, ih, q⟩
        · exact .inr ⟨j, by omega, h2⟩
    rcases this L.length with h | ⟨j, h1, h2, h3⟩
    · exact absurd h hR
    · exact ⟨j, h1, h2, h3⟩
  clear hR
  rcases h with ⟨h0, hv⟩ | ⟨b, off, cap, rfl, hle, hcap, hb, hcell⟩
  · omega
  · unfold maxLen at hcap
    obtain ⟨n, hn⟩ : ∃ n, L.length = n := ⟨_, rfl⟩
    rw [hn] at hle hcell hj ⊢
    clear hn
    have HA := hide hA
    have HF := hide hF
    clear hA hF
    have low : ∀ k, k ≤ j → 0 ≤ lea L k ∧ lea L k ≤ 8 := by
      intro k
      induction k with
      | zero => intro _; exact ⟨Int.le_refl _, (by omega : (0 : Int) ≤ 8)⟩
      | succ k ih => intro hk; have a := unhide HA k (by omega); rw [lea_succ]; have := ih (by omega); omega
    have LO := hide low
    clear low
    go_enter Tryd.func40, Tryd.ntmps40
    go_wp2
    go_loop [3, 8] (fun xl xi => ∃ k : Nat, k ≤ j ∧ xi = .int .i64 k ∧ xl = .int .i64 (lea L k)) (fun _ i => j - (intOf i).toNat)
    case atStart => exact ⟨0, by omega, rfl, rfl⟩
    case round =>
      obtain ⟨k, hk, rfl, rfl⟩ := hrel
      obtain ⟨l1, l2⟩ := unhide LO k hk
      by_cases hlt : k < j
      · have hck := hcell k (by omega)
        obtain ⟨h1, h2⟩ := unhide HA k hlt
        have e2 := lea_succ L k
        have E2 := hide e2
        clear e2 hcell
        have t1 : decide (zF L k < lea L k) = false := decide_eq_false (by omega)
        have t2 : decide (8 ≤ zF L k) = false := decide_eq_false (by omega)
        generalize zF L k = x at *
        generalize lea L k = l at *
        go_wp2
        go_round
        case rel => exact ⟨k + 1, by omega, by go_num, by rw [unhide E2]⟩
        case measure => simp [intOf]; omega
      · obtain rfl : k = j := by omega
        have hck := hcell k (by omega)
        clear hcell
        by_cases h1 : zF L k < lea L k
        · generalize zF L k = x at *
          generalize lea L k = l at *
          go_wp2
          go_ret
          exact ⟨rfl, rfl⟩
        · have h2 : 8 ≤ zF L k := by have := unhide HF; omega
          generalize zF L k = x at *
          generalize lea L k = l at *
          go_wp2
          go_ret
          exact ⟨rfl, rfl⟩
theorem check_ok (L : List Int) (s : Int) (v : Value) (w : World) (h : IL w v L) (hR : Ris L) (hs : s ∈ L) :
    Calls Tryd.prog 32 #[v, .int .i64 s] w fun e w' => e = .returned (.int .i64 0) ∧ w' = w := by
  have c1 := hide (rising_t L v w h hR)
  have c2 := contains_is L s v w h
  rw [decide_eq_true hs] at c2
  have c2 := hide c2
  clear h hR hs
  go_enter Tryd.func32, Tryd.ntmps32
  go_wp2_with (first
    | (go_at_call 40; refine (unhide c1).mono ?_; rintro e w1 ⟨rfl, rfl⟩)
    | (go_at_call 41; refine (unhide c2).mono ?_; rintro e w1 ⟨rfl, rfl⟩))
  go_ret
  exact ⟨rfl, rfl⟩
theorem check_arg (L : List Int) (s : Int) (v : Value) (w : World) (h : IL w v L) (hR : ¬ (Ris L ∧ s ∈ L)) :
    Calls Tryd.prog 32 #[v, .int .i64 s] w fun e w' => e = .returned (.int .i64 1) ∧ w' = w := by
  by_cases hr : Ris L
  · have hs : ¬ s ∈ L := fun q => hR ⟨hr, q⟩
    have c1 := hide (rising_t L v w h hr)
    have c2 := contains_is L s v w h
    rw [decide_eq_false hs] at c2
    have c2 := hide c2
    clear h hR hs hr
    go_enter Tryd.func32, Tryd.ntmps32
    go_wp2_with (first
      | (go_at_call 40; refine (unhide c1).mono ?_; rintro e w1 ⟨rfl, rfl⟩)
      | (go_at_call 41; refine (unhide c2).mono ?_; rintro e w1 ⟨rfl, rfl⟩))
    go_ret
    exact ⟨rfl, rfl⟩
  · have c1 := hide (rising_f L v w h hr)
    clear h hR hr
    go_enter Tryd.func32, Tryd.ntmps32
    go_wp2_with (first
      | (go_at_call 40; refine (unhide c1).mono ?_; rintro e w1 ⟨rfl, rfl⟩))
    go_ret
    exact ⟨rfl, rfl⟩
end Go.Proofs.YtmdkaomjjglfjaaDoor
