/- Walk of bellwetherlaw11.RouteWay. -/
import Derived.Test.YtmfgbecdimndcaaDoorL1
namespace Go.Proofs.YtmfgbecdimndcaaDoor
open Go.RowKit

set_option maxRecDepth 100000 in
set_option maxHeartbeats 4000000 in
theorem way_walk (t bits self : Int) (w : World) (hG : Glob w) :
    Calls Tryd.prog 4 #[.int .i64 t, .int .i64 bits, .int .i64 self] w fun e w' => e = .returned (.bool true) ∧ Below w.heap.size w w' := by
  obtain ⟨T, hT, kT⟩ : ∃ T, wrap64 ((IntKind.u64.wrap t).tmod 4) = T ∧ IsT T := ⟨_, mod4 t, mod4_topic t⟩
  have KT := hide kT
  have HG := hide hG
  clear hG kT
  go_enter Tryd.func4, Tryd.ntmps4
  go_wp2_with fail
  rw [hT]
  clear hT
  go_wp2_with (go_at_call 23; refine (some_is _ _ _).mono ?_; rintro e w2 ⟨v, L, s, rfl, ho, hR, hs, hb⟩; obtain ⟨ql, cl, rfl⟩ := owns_shape ho; have O2 := hide ho; have HR := hide hR; have HS := hide hs; have B2 := hide hb; clear ho hR hs hb)
  obtain ⟨W, hW, hWl⟩ := way_ex (unhide KT) (unhide HR).2 (unhide HS)
  have hl8 := ris_le (unhide HR)
  have G2 := hide ((unhide HG).below (unhide B2) (unhide HG).size)
  have I2 := hide (unhide O2).il
  obtain ⟨m, hm⟩ : ∃ m, L.length = m := ⟨_, rfl⟩
  rw [hm] at I2 hWl hl8 ⊢
  have c1 := hide (way_is T L s W (.slice ql m cl) w2 (unhide G2) (unhide I2) (unhide HR) (unhide HS) (unhide KT) hW (by omega))
  have c2 := hide (fun (w3 : World) (hb : Below w2.heap.size w2 w3) => owner_il T L (.slice ql m cl) w3 ((unhide G2).below hb (unhide G2).size) (unhide KT) ((unhide I2).below hb (Nat.le_refl _)) (unhide HR).2 (mem_ne (unhide HS)))
  have c3 := hide (fun (x : Int) (hx : x ∈ L) (w3 : World) (hb : Below w2.heap.size w2 w3) => next_is T L x (.slice ql m cl) w3 ((unhide G2).below hb (unhide G2).size) ((unhide I2).below hb (Nat.le_refl _)) (unhide HR) hx (unhide KT))
  have c4 := hide (fun (w3 : World) (hb : Below w2.heap.size w2 w3) => wakes_any w3 ((unhide G2).below hb (unhide G2).size))
  have c5 := hide (fun (x y : Int) (hx : x ∈ L) (hy : y ∈ L) (h : gp T x < gp T y) (w3 : World) (hb : Below w2.heap.size w2 w3) => nearer_t T x y (unhide KT) ((unhide HR).2 x hx) ((unhide HR).2 y hy) h w3 ((unhide G2).below hb (unhide G2).size))
  have c6 := fun (x : Int) (hx : x ∈ L) (w3 : World) (hb : Below w2.heap.size w2 w3) => nodes_ris L x (.slice ql m cl) w3 ((unhide I2).below hb (Nat.le_refl _)) (unhide HR)
  have c6 := hide (fun (x : Int) (hx : x ∈ L) (w3 : World) (hb : Below w2.heap.size w2 w3) => (decide_eq_true hx) ▸ c6 x hx w3 hb)
  obtain ⟨n, hn⟩ : ∃ n, W.length = n := ⟨_, rfl⟩
  have HM := hide (isway_mem (unhide HS) hW)
  have HST := hide (isway_step hW)
  have HE := hide (isway_end hW)
  have hnm : decide (m ≤ n) = false := decide_eq_false (by omega)
  have hn8 : n < 8 := by omega
  have e0 : s = zF (s :: W) 0 := rfl
  have E0 := hide e0
  have HN := hide hn
  clear e0 hW hWl hl8 hm
  go_wp2_with (first
    | (go_at_call 13; refine (unhide c1).mono ?_; rintro e w3 ⟨v3, rfl, ho, hb⟩; obtain ⟨q3, k3, rfl⟩ := owns_shape ho; have I3 := hide ho.il; have B3 := hide hb; clear ho hb)
    | (go_at_call 24; refine (unhide c2 _ (unhide B3)).mono ?_; rintro e w3 ⟨rfl, rfl⟩))
  have I3 := hide (show ISl w3 (.slice q3 n k3) n (zF W) from by have := unhide I3; unfold IL at this; rwa [hn] at this)
  clear hn
  go_loopw [13, 14] (fun xa xi w4 => ∃ k : Nat, k ≤ n ∧ xi = .int .i64 k ∧ xa = .int .i64 (zF (s :: W) k) ∧ Hid (Below w3.heap.size w3 w4)) (fun _ i _ => n - (intOf i).toNat)
  case atStart => exact ⟨0, by omega, rfl, by rw [← unhide E0], hide (Below.refl _ _)⟩
  case round =>
    obtain ⟨k, hk, rfl, rfl, HB⟩ := hrel
    have Br := hide ((unhide B3).trans ((unhide HB).mono (unhide B3).size))
    by_cases hlt : k < n
    · have hkm : k < W.length := by rw [unhide HN]; exact hlt
      obtain ⟨q1, q2⟩ := unhide HST k hkm
      have hx := unhide HM k (by omega)
      have hy := unhide HM (k + 1) (by omega)
      rw [zF_cons] at hy
      have d3 := unhide c3 _ hx wr (unhide Br)
      rw [q1, if_neg q2] at d3
      have d3 := hide d3
      have hlt2 : gp T (zF W k) < gp T (zF (s :: W) k) := by
        have := nxt_near (unhide KT) (unhide HR).2 hx (by rw [q1]; exact q2)
        rwa [q1] at this
      have d5 := hide (unhide c5 _ _ hy hx hlt2)
      have d6 := hide (unhide c6 _ hy)
      have e1 : zF (s :: W) (k + 1) = zF W k := zF_cons _ _ _
      have HE1 := hide e1
      clear e1 q1 q2 hx hy hlt2 hkm
      rcases (unhide I3).below (unhide HB) (Nat.le_refl _) with ⟨h0, _⟩ | ⟨g3, o3, c3', hv3, hle3, hc3, hg3, hcell3⟩
      · omega
      · injection hv3 with hp _ hc
        subst hp
        subst hc
        unfold maxLen at hc3
        have hltz : (k : Int) < (n : Int) := by omega
        have hck := hide (fun (w5 : World) (hb : Below wr.heap.size wr w5) => (hb.cell (p := ⟨g3, o3 + k, none⟩) hg3).trans (hcell3 k hlt))
        clear hcell3
        generalize zF (s :: W) k = x at *
        generalize zF W k = y at *
        go_wp2_with (first
          | (go_at_call 12; refine (unhide d3).mono ?_; rintro e w5 ⟨rfl, hb⟩; have B5 := hide hb; have k5 := unhide hck w5 hb; have R5 := hide ((unhide Br).trans (hb.mono (unhide Br).size)); clear hb)
          | (go_at_call 25; refine (unhide d5 _ (unhide R5)).mono ?_; rintro e w5 ⟨rfl, rfl⟩)
          | (go_at_call 15; refine (unhide d6 _ (unhide R5)).mono ?_; rintro e w6 ⟨rfl, hb⟩; have B6 := hide ((unhide B5).trans (hb.mono (unhide B5).size)); clear hb))
        go_roundw
        case rel => exact ⟨k + 1, by omega, by go_num, by rw [unhide HE1], hide ((unhide HB).trans ((unhide B6).mono (unhide HB).size))⟩
        case measure => simp [intOf]; omega
    · obtain rfl : k = n := by omega
      have hx := unhide HM k (by rw [unhide HN]; exact Nat.le_refl _)
      have hE := unhide HE
      rw [unhide HN] at hE
      have d3 := unhide c3 _ hx wr (unhide Br)
      rw [if_pos hE] at d3
      have d3 := hide d3
      have hO : ow T L = zF (s :: W) k := (nxt_own (unhide KT) (unhide HR).2 hx).1 hE
      clear hx hE
      rw [hO]
      clear hO
      generalize zF (s :: W) k = x at *
      go_wp2_with (first
        | (go_at_call 12; refine (unhide d3).mono ?_; rintro e w5 ⟨rfl, hb⟩; have B5 := hide ((unhide Br).trans (hb.mono (unhide Br).size)); clear hb)
        | (go_at_call 17; refine (unhide c4 _ (unhide B5)).mono ?_; rintro e w6 ⟨rfl, hb⟩; have B6 := hide ((unhide B5).trans (hb.mono (unhide B5).size)); clear hb))
      go_ret
      exact ⟨rfl, (unhide B2).trans ((unhide B6).mono (unhide B2).size)⟩
end Go.Proofs.YtmfgbecdimndcaaDoor
