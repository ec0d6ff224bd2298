/- Walk of bellwetherlaw11.RouteSteps. -/
import Derived.Test.YtmfgbecdimndcaaDoorS3
namespace Go.Proofs.YtmfgbecdimndcaaDoor
open Go.RowKit

theorem zF_drop_fun (L : List Int) (k : Nat) : zF (L.drop k) = fun i => zF L (k + i) := funext fun i => zF_drop L k i
/-- The rest of a slice of ints behind K, wherever it lies. -/
theorem slice_rest (g m c K : Nat) (hK : K < m) (hc : m ≤ c) (hc2 : c ≤ maxLen) : ∃ a2 c2, (∀ w, (Instr.slice 22 (.slice (some ⟨g, 0, none⟩) m c) (some (.int .i64 ((K : Int) + 1))) none none).run Tryd.prog w = .ok (.slice a2 (m - (K + 1)) c2) w) ∧
    ∀ (w : World) (L : List Int), L.length = m → IL w (.slice (some ⟨g, 0, none⟩) m c) L → IL w (.slice a2 (m - (K + 1)) c2) (L.drop (K + 1)) := by
  obtain ⟨i, hi, hz0, hz1, hz2⟩ := info_parts info3
  have hu : Tryd.prog.underlying 22 = some (.slice 3) := Tryd.underlying22
  have z3 : ∀ w, (Go.sizeOf 3).run Tryd.prog w = .ok 1 w := fun w => by simp [Go.sizeOf, typeInfo, hi, hz1]
  have e1 : ((K : Int) + 1).toNat = K + 1 := by omega
  have hrun : ∀ w, (Instr.slice 22 (.slice (some ⟨g, 0, none⟩) m c) (some (.int .i64 ((K : Int) + 1))) none none).run Tryd.prog w = .ok (.slice (if c = K + 1 then some ⟨g, 0, none⟩ else (some ⟨g, 0, none⟩ : Option Addr).map (·.add ((K + 1) * 1))) (m - (K + 1)) (c - (K + 1))) w := by
    intro w
    rw [run_slice_l (P := Tryd.prog) (w := w) 22 _ _ _ (by rw [hu]; rfl) .i64 ((K : Int) + 1) (by omega) (by omega)]
    simp only [show Tryd.prog.elem 22 = 3 from rfl, z3, Result.andThen, sliced, e1]
  refine ⟨_, _, hrun, fun w L hL h => ?_⟩
  have hl : (L.drop (K + 1)).length = m - (K + 1) := by rw [List.length_drop, hL]
  unfold IL at h ⊢
  rw [hl, zF_drop_fun]
  rw [hL] at h
  by_cases e : c = K + 1
  · rw [if_pos e]
    exact .inl ⟨by omega, .inr ⟨⟨g, 0, none⟩, c - (K + 1), by rw [show m - (K + 1) = 0 by omega], by omega⟩⟩
  · rw [if_neg e]
    rcases h with ⟨h0, _⟩ | ⟨b, off, cap, hv, h1, h2, h3, h4⟩
    · omega
    · injection hv with hv1 _ hv2
      injection hv1 with hv1
      injection hv1 with hv1 hv3
      subst hv1
      subst hv2
      subst hv3
      exact .inr ⟨g, K + 1, c - (K + 1), by simp [Addr.add], by omega, by omega, h3, fun i hi => by have := h4 (K + 1 + i) (by omega); rwa [Nat.zero_add] at this⟩
theorem owns_some {w : World} {B n : Nat} {v : Value} {L : List Int} (h : OL w B v L) (hn : L.length = n) (h0 : 0 < n) :
    ∃ g c, v = .slice (some ⟨g, 0, none⟩) n c ∧ n ≤ c ∧ c ≤ maxLen ∧ g < w.heap.size ∧ ∀ i, i < n → w.cell? ⟨g, i, none⟩ = some (.int .i64 (zF L i)) := by
  have hi := h.il
  unfold IL at hi
  rcases h.2 with ⟨_, q⟩ | ⟨g, cap, cur, rfl, hB, hg, _⟩
  · omega
  · rw [hn] at hi ⊢
    rcases hi with ⟨q, _⟩ | ⟨b, off, c, hv, h1, h2, h3, h4⟩
    · omega
    · injection hv with hv1 _ hv2
      injection hv1 with hv1
      injection hv1 with hv1 hv3
      subst hv1
      subst hv2
      subst hv3
      exact ⟨g, cap, rfl, h1, h2, h3, fun i hi => by have := h4 i hi; rwa [Nat.zero_add] at this⟩
set_option maxRecDepth 100000 in
set_option maxHeartbeats 4000000 in
theorem steps_walk (t bits self at' : Int) (w : World) (hG : Glob w) :
    Calls Tryd.prog 8 #[.int .i64 t, .int .i64 bits, .int .i64 self, .int .i64 at'] w fun e w' => e = .returned (.bool true) ∧ Below w.heap.size w w' := by
  obtain ⟨T, hT, kT⟩ : ∃ T, wrap64 ((IntKind.u64.wrap t).tmod 4) = T ∧ IsT T := ⟨_, mod4 t, mod4_topic t⟩
  have KT := hide kT
  have HG := hide hG
  clear hG kT
  go_enter Tryd.func8, Tryd.ntmps8
  go_wp2_with fail
  rw [hT]
  clear hT
  go_wp2_with (go_at_call 23; refine (some_is _ _ _).mono ?_; rintro e w2 ⟨v, L, s, rfl, ho, hR, hs, hb⟩; have O2 := hide ho; have HR := hide hR; have HS := hide hs; have B2 := hide hb; clear ho hR hs hb)
  obtain ⟨W, hW, hWl⟩ := way_ex (unhide KT) (unhide HR).2 (unhide HS)
  have hl8 := ris_le (unhide HR)
  have G2 := hide ((unhide HG).below (unhide B2) (unhide HG).size)
  have c1 := hide (way_is T L s W v w2 (unhide G2) (unhide O2).il (unhide HR) (unhide HS) (unhide KT) hW (by omega))
  by_cases h0 : W = []
  · subst h0
    have c2 := fun (w3 : World) (hb : Below w2.heap.size w2 w3) => next_is T L s v w3 ((unhide G2).below hb (unhide G2).size) ((unhide O2).il.below hb (Nat.le_refl _)) (unhide HR) (unhide HS) (unhide KT)
    rw [if_pos (show nxt T L s = s from hW)] at c2
    have c2 := hide c2
    have c3 := hide (fun (w3 : World) (hb : Below w2.heap.size w2 w3) => wakes_any w3 ((unhide G2).below hb (unhide G2).size))
    clear hW hWl hl8
    go_wp2_with (first
      | (go_at_call 13; refine (unhide c1).mono ?_; rintro e w3 ⟨v3, rfl, ho, hb⟩; obtain ⟨q3, k3, rfl⟩ := owns_shape ho; have B3 := hide hb; clear ho hb)
      | (go_at_call 12; refine (unhide c2 _ (unhide B3)).mono ?_; rintro e w4 ⟨rfl, hb⟩; have B4 := hide ((unhide B3).trans (hb.mono (unhide B3).size)); clear hb)
      | (go_at_call 17; refine (unhide c3 _ (unhide B4)).mono ?_; rintro e w5 ⟨rfl, hb⟩; have B5 := hide ((unhide B4).trans (hb.mono (unhide B4).size)); clear hb))
    go_ret
    exact ⟨rfl, (unhide B2).trans ((unhide B5).mono (unhide B2).size)⟩
  · have hn0 := List.length_pos_iff.2 h0
    obtain ⟨n, hn⟩ : ∃ n, W.length = n := ⟨_, rfl⟩
    rw [hn] at hn0 hWl
    obtain ⟨N, hN, hN2⟩ := modN at' n hn0 (by omega)
    have hX : zF W N ∈ L := by have := isway_mem (unhide HS) hW (N + 1) (by omega); rwa [zF_cons] at this
    have hWX : IsWay T L (zF W N) (W.drop (N + 1)) := by have := isway_drop hW (N + 1) (by omega); rwa [zF_cons] at this
    have hdl : (W.drop (N + 1)).length = n - (N + 1) := by rw [List.length_drop, hn]
    have c2 := hide (fun (w3 : World) (hb : Below w2.heap.size w2 w3) => way_is T L (zF W N) (W.drop (N + 1)) v w3 ((unhide G2).below hb (unhide G2).size) ((unhide O2).il.below hb (Nat.le_refl _)) (unhide HR) hX (unhide KT) hWX (by omega))
    have c3 := hide (fun (w3 : World) (hb : Below w2.heap.size w2 w3) => wakes_any w3 ((unhide G2).below hb (unhide G2).size))
    have c4 := hide (fun (v v' : Value) (w : World) h h' => ints_same (W.drop (N + 1)) v v' w h h')
    have HWN := hide hn
    have hnz : ((n : Int) == 0) = false := beq_false_of_ne (by omega)
    have hw : IntKind.u64.wrap (n : Int) = (n : Int) := by rw [show IntKind.u64.wrap (n : Int) = (n : Int) % 18446744073709551616 from rfl]; omega
    have hNz : (N : Int) < (n : Int) := by omega
    have hw1 : IntKind.i64.wrap ((N : Int) + 1) = (N : Int) + 1 := by rw [IntKind.wrap_i64]; omega
    clear hW hX hWX hl8 hWl h0
    have HDL := hide hdl
    clear hdl
    have HN2 := hide hN2
    clear hN2
    have m1 := trivial
    go_wp2_with (first
      | (clear m1; go_at_call 13; refine (unhide c1).mono ?_; rintro e w3 ⟨v3, rfl, ho, hb⟩; obtain ⟨g3, k3, rfl, hk1, hk2, hg3, hcell⟩ := owns_some ho hn hn0; obtain ⟨a2, z2, hsl, hrest⟩ := slice_rest g3 n k3 N (unhide HN2) hk1 hk2; have hck := hcell N (unhide HN2); have I3 := hide (hrest _ W hn ho.il); have B3 := hide hb; unfold maxLen at hk2; have hN2 := unhide HN2; clear ho hb hcell hrest)
      | (go_at_call 13; refine (unhide c2 _ (unhide B3)).mono ?_; rintro e w4 ⟨v4, rfl, ho, hb⟩; have O4 := hide ho.il; have I4 := hide ((unhide I3).below hb (Nat.le_refl _)); have B4 := hide ((unhide B3).trans (hb.mono (unhide B3).size)); clear ho hb)
      | (go_at_call 14; refine (unhide c4 _ _ _ (unhide O4) (unhide I4)).mono ?_; rintro e w5 ⟨rfl, hb⟩; have B5 := hide ((unhide B4).trans (hb.mono (unhide B4).size)); clear hb)
      | (go_at_call 17; refine (unhide c3 _ (unhide B5)).mono ?_; rintro e w6 ⟨rfl, hb⟩; have B6 := hide ((unhide B5).trans (hb.mono (unhide B5).size)); clear hb))
    go_ret
    exact ⟨rfl, (unhide B2).trans ((unhide B6).mono (unhide B2).size)⟩
end Go.Proofs.YtmfgbecdimndcaaDoor
