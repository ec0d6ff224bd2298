/- A slice's rest; ways as right paths. -/
import Derived.Test.YtmdkaomjjglfjaaDoorS2
import Derived.Test.YtmdkaomjjglfjaaDoorK8
import Derived.Test.YtmdkaomjjglfjaaDoorV1
namespace Go.Proofs.YtmdkaomjjglfjaaDoor
open Go.RowKit

theorem zF_drop_fun (L : List Int) (k : Nat) : zF (L.drop k) = fun i => zF L (k + i) := funext fun i => zF_drop L k i
/-- The rest of a slice of ints behind K, wherever it lies. -/
theorem slice_rest (g m c K : Nat) (hK : K < m) (hc : m ≤ c) (hc2 : c ≤ maxLen) : ∃ a2 c2, (∀ w, (Instr.slice 22 (.slice (some ⟨g, 0, none⟩) m c) (some (.int .i64 ((K : Int) + 1))) none none).run Tryd.prog w = .ok (.slice a2 (m - (K + 1)) c2) w) ∧
    ∀ (w : World) (L : List Int), L.length = m → IL w (.slice (some ⟨g, 0, none⟩) m c) L → IL w (.slice a2 (m - (K + 1)) c2) (L.drop (K + 1)) := by
  obtain ⟨i, hi, hz0, hz1, hz2⟩ := info_parts info3
  have hu : Tryd.prog.underlying 22 = some (.slice 3) := Tryd.underlying22
  have z3 : ∀ w, (Go.sizeOf 3).run Tryd.prog w = .ok 1 w := fun w => by simp [Go.sizeOf, typeInfo, hi, hz1]
  have e1 : ((K : Int) + 1).toNat = K + 1 := by omega
  have hrun : ∀ w, (Instr.slice 22 (.slice (some ⟨g, 0, none⟩) m c) (some (.int .i64 ((K : Int) + 1))) none none).run Tryd.prog w = .ok (.slice (if c = K + 1 then some ⟨g, 0, none⟩ else (some ⟨g, 0, none⟩ : Option Addr).map (·.add ((K + 1) * 1))) (m - (K + 1)) (c - (K + 1))) w := by
    intro w
    rw [run_slice_l (P := Tryd.prog) (w := w) 22 _ _ _ (by rw [hu]; rfl) .i64 ((K : Int) + 1) (by omega) (by omega)]
    simp only [show Tryd.prog.elem 22 = 3 from rfl, z3, Result.andThen, sliced, e1]
  refine ⟨_, _, hrun, fun w L hL h => ?_⟩
  have hl : (L.drop (K + 1)).length = m - (K + 1) := by rw [List.length_drop, hL]
  unfold IL at h ⊢
  rw [hl, zF_drop_fun]
  rw [hL] at h
  by_cases e : c = K + 1
  · rw [if_pos e]
    exact .inl ⟨by omega, .inr ⟨⟨g, 0, none⟩, c - (K + 1), by rw [show m - (K + 1) = 0 by omega], by omega⟩⟩
  · rw [if_neg e]
    rcases h with ⟨h0, _⟩ | ⟨b, off, cap, hv, h1, h2, h3, h4⟩
    · omega
    · injection hv with hv1 _ hv2
      injection hv1 with hv1
      injection hv1 with hv1 hv3
      subst hv1
      subst hv2
      subst hv3
      exact .inr ⟨g, K + 1, c - (K + 1), by simp [Addr.add], by omega, by omega, h3, fun i hi => by have := h4 (K + 1 + i) (by omega); rwa [Nat.zero_add] at this⟩
theorem owns_some {w : World} {B n : Nat} {v : Value} {L : List Int} (h : OL w B v L) (hn : L.length = n) (h0 : 0 < n) :
    ∃ g c, v = .slice (some ⟨g, 0, none⟩) n c ∧ n ≤ c ∧ c ≤ maxLen ∧ g < w.heap.size ∧ ∀ i, i < n → w.cell? ⟨g, i, none⟩ = some (.int .i64 (zF L i)) := by
  have hi := h.il
  unfold IL at hi
  rcases h.2 with ⟨_, q⟩ | ⟨g, cap, cur, rfl, hB, hg, _⟩
  · omega
  · rw [hn] at hi ⊢
    rcases hi with ⟨q, _⟩ | ⟨b, off, c, hv, h1, h2, h3, h4⟩
    · omega
    · injection hv with hv1 _ hv2
      injection hv1 with hv1
      injection hv1 with hv1 hv3
      subst hv1
      subst hv2
      subst hv3
      exact ⟨g, cap, rfl, h1, h2, h3, fun i hi => by have := h4 i hi; rwa [Nat.zero_add] at this⟩

/-- A slice of ints from K on, wherever it lies. -/
theorem slice_at (g m c K : Nat) (hK : K < m) (hc : m ≤ c) (hc2 : c ≤ maxLen) : ∃ a2 c2, (∀ w, (Instr.slice 22 (.slice (some ⟨g, 0, none⟩) m c) (some (.int .i64 (K : Int))) none none).run Tryd.prog w = .ok (.slice a2 (m - K) c2) w) ∧
    ∀ (w : World) (L : List Int), L.length = m → IL w (.slice (some ⟨g, 0, none⟩) m c) L → IL w (.slice a2 (m - K) c2) (L.drop K) := by
  obtain ⟨i, hi, hz0, hz1, hz2⟩ := info_parts info3
  have hu : Tryd.prog.underlying 22 = some (.slice 3) := Tryd.underlying22
  have z3 : ∀ w, (Go.sizeOf 3).run Tryd.prog w = .ok 1 w := fun w => by simp [Go.sizeOf, typeInfo, hi, hz1]
  have e1 : ((K : Int)).toNat = K := by omega
  have hrun : ∀ w, (Instr.slice 22 (.slice (some ⟨g, 0, none⟩) m c) (some (.int .i64 (K : Int))) none none).run Tryd.prog w = .ok (.slice (if c = K then some ⟨g, 0, none⟩ else (some ⟨g, 0, none⟩ : Option Addr).map (·.add (K * 1))) (m - K) (c - K)) w := by
    intro w
    rw [run_slice_l (P := Tryd.prog) (w := w) 22 _ _ _ (by rw [hu]; rfl) .i64 (K : Int) (by omega) (by omega)]
    simp only [show Tryd.prog.elem 22 = 3 from rfl, z3, Result.andThen, sliced, e1]
  refine ⟨_, _, hrun, fun w L hL h => ?_⟩
  have hl : (L.drop K).length = m - K := by rw [List.length_drop, hL]
  unfold IL at h ⊢
  rw [hl, zF_drop_fun]
  rw [hL] at h
  rw [if_neg (by omega)]
  rcases h with ⟨h0, _⟩ | ⟨b, off, cap, hv, h1, h2, h3, h4⟩
  · omega
  · injection hv with hv1 _ hv2
    injection hv1 with hv1
    injection hv1 with hv1 hv3
    subst hv1
    subst hv2
    subst hv3
    exact .inr ⟨g, K, c - K, by by_cases q : K = 0 <;> simp [Addr.add, q], by omega, by omega, h3, fun i hi => by have := h4 (K + i) (by omega); rwa [Nat.zero_add] at this⟩
theorem lst_cons (s : Int) (L : List Int) : ∀ k, lst s L k = zF (s :: L) k
  | 0 => rfl
  | k + 1 => (zF_cons s L k).symm
theorem way_step {T s : Int} {L W : List Int} (hT : IsT T) (hN : Nds L) (hs : s ∈ L) (hW : IsWay T L s W) (i : Nat) (hi : i < W.length) : IsN (zF W i) ∧ IsN (zF (s :: W) i) ∧ gp T (zF W i) < gp T (zF (s :: W) i) := by
  obtain ⟨h1, h2⟩ := isway_step hW i hi
  have h3 := isway_mem hs hW i (by omega)
  have h4 := isway_mem hs hW (i + 1) (by omega)
  rw [zF_cons] at h4
  refine ⟨hN _ h4, hN _ h3, ?_⟩
  have := nxt_near hT hN h3 (by rw [h1]; exact h2)
  rwa [h1] at this
theorem way_ne {T s : Int} {L W : List Int} (hT : IsT T) (hN : Nds L) (hs : s ∈ L) (hW : IsWay T L s W) : ne T s W = true := by
  refine (neK_iff T s W _).2 fun i hi => ?_
  obtain ⟨h1, h2, h3⟩ := way_step hT hN hs hW i hi
  rw [lst_cons]
  exact decide_eq_true ⟨hT, h1, h2, h3⟩
theorem way_fall {T s : Int} {L W : List Int} (hT : IsT T) (hN : Nds L) (hs : s ∈ L) (hW : IsWay T L s W) : ∀ i, i < W.length → gp T (zF W i) < gp T s
  | 0, hi => (way_step hT hN hs hW 0 hi).2.2
  | i + 1, hi => by
    have h1 := (way_step hT hN hs hW (i + 1) hi).2.2
    rw [zF_cons] at h1
    have h2 := way_fall hT hN hs hW i (by omega)
    omega
theorem way_chk {T s : Int} {L W : List Int} (hT : IsT T) (hN : Nds L) (hs : s ∈ L) (hW : IsWay T L s W) (d : Int) (h1 : 1 ≤ d) (h2 : d ≤ 8) : chk T s W d = if d < (W.length : Int) then 12 else 0 := by
  have h3 := way_ne hT hN hs hW
  unfold chk
  rw [if_neg (fun q => q ⟨hT, hN s hs⟩), if_neg (by rw [nd_of_ne h3]; rintro (q | q | q) <;> first | omega | cases q), if_pos h3]
theorem way_add {T s : Int} {L W : List Int} (hT : IsT T) (hN : Nds L) (hs : s ∈ L) (hW : IsWay T L s W) (h7 : W.length < 8) : adE T s W = 0 := by
  have h := way_chk hT hN hs hW 8 (by omega) (by omega)
  rw [if_neg (by omega)] at h
  unfold adE
  rw [if_neg (fun q => by have := q.2; omega), h]
theorem way_back {T s : Int} {L W : List Int} (hT : IsT T) (hN : Nds L) (hs : s ∈ L) (hW : IsWay T L s W) (i : Nat) (hi : i < W.length) : chk T (zF W i) [s] 8 = 1 := by
  have h1 := way_fall hT hN hs hW i hi
  have h2 := (way_step hT hN hs hW i hi).1
  have h3 := hN s hs
  have h4 : nd [s] = true := (nd_iff _).2 fun x hx => by simp at hx; subst hx; exact h3
  have h5 : ne T (zF W i) [s] = false := by
    have : nb T s (zF W i) = false := decide_eq_false fun q => by have := q.2.2.2; omega
    show (true && nb T s (zF W i)) = false
    rw [this]; rfl
  unfold chk
  rw [if_neg (fun q => q ⟨hT, h2⟩), if_neg (by rw [h4]; rintro (q | q | q) <;> first | omega | cases q), if_neg (by simp), h5, if_neg (by simp)]
end Go.Proofs.YtmdkaomjjglfjaaDoor
