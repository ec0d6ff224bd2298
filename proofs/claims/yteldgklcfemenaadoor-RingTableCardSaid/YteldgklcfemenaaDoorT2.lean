/- Walk of bellwetherlaw03.RingTable. -/
import Derived.Test.YteldgklcfemenaaDoorT1
namespace Go.Proofs.YteldgklcfemenaaDoor
open Go.RowKit

theorem nk_inj_nat : ∀ a, a < 8 → ∀ b, b < 8 → nk (a : Nat) = nk (b : Nat) → a = b := by decide +kernel
theorem nk_tk_nat : ∀ a, a < 8 → ∀ b, b < 4 → nk (a : Nat) ≠ tk (b : Nat) := by decide +kernel
theorem nk_inj {a b : Int} (ha : IsN a) (hb : IsN b) (h : nk a = nk b) : a = b := by
  obtain ⟨a1, a2⟩ := ha
  obtain ⟨b1, b2⟩ := hb
  obtain ⟨a, rfl⟩ := Int.eq_ofNat_of_zero_le a1
  obtain ⟨b, rfl⟩ := Int.eq_ofNat_of_zero_le b1
  exact congrArg _ (nk_inj_nat a (by omega) b (by omega) h)
theorem nk_tk {a b : Int} (ha : IsN a) (hb : IsT b) : nk a ≠ tk b := by
  obtain ⟨a1, a2⟩ := ha
  obtain ⟨b1, b2⟩ := hb
  obtain ⟨a, rfl⟩ := Int.eq_ofNat_of_zero_le a1
  obtain ⟨b, rfl⟩ := Int.eq_ofNat_of_zero_le b1
  exact nk_tk_nat a (by omega) b (by omega)

set_option maxRecDepth 100000 in
set_option maxHeartbeats 4000000 in
theorem tablelaw_any (n t m : Int) (w : World) (hG : Glob w) (hS : Sh.Glob Sh.s0 Sh.kk w) :
    Calls Tryd.prog 4 #[.int .i64 n, .int .i64 t, .int .i64 m] w fun e w' => e = .returned (.bool true) ∧ Below w.heap.size w w' := by
  obtain ⟨N, hN, kN⟩ : ∃ T, wrap64 ((IntKind.u64.wrap n).tmod 8) = T ∧ IsN T := ⟨_, mod8 n, mod8_node n⟩
  obtain ⟨M, hM, kM⟩ : ∃ T, wrap64 ((IntKind.u64.wrap m).tmod 8) = T ∧ IsN T := ⟨_, mod8 m, mod8_node m⟩
  obtain ⟨T, hT, kT⟩ : ∃ T, wrap64 ((IntKind.u64.wrap t).tmod 4) = T ∧ IsT T := ⟨_, mod4 t, mod4_topic t⟩
  have kT' : IsN T := ⟨kT.1, by have := kT.2; omega⟩
  have cN := hide (node_is N kN)
  have cM := hide (node_is M kM)
  have cT := hide (topic_is T kT)
  have hcv := fun (W : World) (s : ByteArray) => run_bytes_of_string (P := Tryd.prog) W 9 37 5 s Tryd.underlying9 Tryd.underlying37 Tryd.underlying5
  have s1 := slice_dig N kN
  have s2 := slice_dig T kT'
  have a1 := add_dig 110 N
  have a2 := add_dig 116 T
  have z1 := nam_size 110 N
  have z2 := nam_size 116 T
  have d1 := hide (fun W fr hG => head_at W 110 N kN fr hG)
  have d2 := hide (fun W fr hG => head_at W 116 T kT' fr hG)
  have e110 : (110 : UInt8).toNat = 110 := rfl
  have e116 : (116 : UInt8).toNat = 116 := rfl
  rw [e110, head_n N kN] at d1
  rw [e116, head_t T kT] at d2
  have b1 : Hid (N = M) ∨ Hid ((nk N == nk M) = false ∧ (N == M) = false) := by
    by_cases h : N = M
    · exact .inl h
    · exact .inr ⟨beq_false_of_ne fun q => h (nk_inj kN kM q), beq_false_of_ne h⟩
  have b2 : (nk N != tk T) = true := bne_iff_ne.2 (nk_tk kN kT)
  have w8 : N + 1 ≤ 8 := by have := kN.2; omega
  have w4 : T + 1 ≤ 8 := by have := kT.2; omega
  have N0 := kN.1
  have T0 := kT.1
  have HS := hide hS
  clear e110 e116 kN kM kT kT' hS
  have m1 := trivial
  have m2 := trivial
  rcases b1 with b1 | b1
  · obtain rfl := unhide b1
    clear b1
    generalize nk N = p at *
    generalize tk T = q at *
    go_enter Tryd.func4, Tryd.ntmps4
    go_wp2_with (first
      | (clear m1; go_at_call 8; refine (unhide cN _ hG).mono ?_; rintro e w1 ⟨rfl, rfl⟩)
      | (go_at_call 8; refine (unhide cM _ hG).mono ?_; rintro e w1 ⟨rfl, rfl⟩)
      | (go_at_call 9; refine (unhide cT _ hG).mono ?_; rintro e w1 ⟨rfl, rfl⟩)
      | (clear m2; go_at_call 21; refine (unhide d1 _ _ (unhide HS)).mono ?_; rintro e w2 ⟨rfl, hb⟩; have B2 := hide hb; have S2 := hide ((unhide HS).below hb (unhide HS).size); clear hb)
      | (go_at_call 21; refine (unhide d2 _ _ (unhide S2)).mono ?_; rintro e w3 ⟨rfl, hb⟩; have B3 := hide ((unhide B2).trans (hb.mono (unhide B2).size)); clear hb)
      | (go_at_call 17; refine (wakes_any _ (hG.below (unhide B3) hG.size)).mono ?_; rintro e w4 ⟨rfl, hb4⟩))
    go_ret
    exact ⟨rfl, (unhide B3).trans (hb4.mono (unhide B3).size)⟩
  · obtain ⟨b3, b4⟩ := unhide b1
    clear b1
    generalize nk N = p at *
    generalize nk M = r at *
    generalize tk T = q at *
    go_enter Tryd.func4, Tryd.ntmps4
    go_wp2_with (first
      | (clear m1; go_at_call 8; refine (unhide cN _ hG).mono ?_; rintro e w1 ⟨rfl, rfl⟩)
      | (go_at_call 8; refine (unhide cM _ hG).mono ?_; rintro e w1 ⟨rfl, rfl⟩)
      | (go_at_call 9; refine (unhide cT _ hG).mono ?_; rintro e w1 ⟨rfl, rfl⟩)
      | (clear m2; go_at_call 21; refine (unhide d1 _ _ (unhide HS)).mono ?_; rintro e w2 ⟨rfl, hb⟩; have B2 := hide hb; have S2 := hide ((unhide HS).below hb (unhide HS).size); clear hb)
      | (go_at_call 21; refine (unhide d2 _ _ (unhide S2)).mono ?_; rintro e w3 ⟨rfl, hb⟩; have B3 := hide ((unhide B2).trans (hb.mono (unhide B2).size)); clear hb)
      | (go_at_call 17; refine (wakes_any _ (hG.below (unhide B3) hG.size)).mono ?_; rintro e w4 ⟨rfl, hb4⟩))
    go_ret
    exact ⟨rfl, (unhide B3).trans (hb4.mono (unhide B3).size)⟩
end Go.Proofs.YteldgklcfemenaaDoor
