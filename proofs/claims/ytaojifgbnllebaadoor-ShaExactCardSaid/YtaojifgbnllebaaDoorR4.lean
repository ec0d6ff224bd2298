/- Walk of the page's roots. -/
import Derived.Test.YtaojifgbnllebaaDoorR3
namespace Go.Proofs.YtaojifgbnllebaaDoor
open Go.RowKit

/-- No number from 2 on below d divides p. -/
def pB (p : Nat) : Nat → Bool
  | 0 => true
  | d + 1 => if d < 2 then true else (pB p d && decide (p % d ≠ 0))
/-- The root of p, t bits of it, from above. -/
def rootR (p power : Nat) : Nat → Int
  | 0 => 0
  | t + 1 => if powN (rootR p power t + 2 ^ (35 - t)) power ≤ (p : Int) * pw (2 * power) then rootR p power t + 2 ^ (35 - t) else rootR p power t
/-- The roots of the primes below p. -/
def rootsL (power : Nat) : Nat → List Int
  | 0 => []
  | p + 1 => if 2 ≤ p ∧ pB p p = true then rootsL power p ++ [rootR p power 36 % 4294967296] else rootsL power p
theorem rootR_bd (p power : Nat) : ∀ t, t ≤ 36 → 0 ≤ rootR p power t ∧ rootR p power t ≤ 2 ^ 36 - 2 ^ (36 - t)
  | 0, _ => by simp [rootR]
  | t + 1, h => by
    have ih := rootR_bd p power t (by omega)
    have e : (2 : Int) ^ (36 - t) = 2 ^ (35 - t) * 2 := by rw [show 36 - t = (35 - t) + 1 by omega, Int.pow_succ]
    have e2 : 36 - (t + 1) = 35 - t := by omega
    have hp : (0 : Int) < 2 ^ (35 - t) := Int.pow_pos (by decide)
    rw [e2]
    unfold rootR
    split <;> omega
theorem rootsL_prefix (power : Nat) : ∀ (q p : Nat), p ≤ q → ∃ r, rootsL power q = rootsL power p ++ r
  | 0, p, h => by obtain rfl : p = 0 := by omega
                  exact ⟨[], by simp⟩
  | q + 1, p, h => by
    by_cases e : p = q + 1
    · subst e; exact ⟨[], by simp⟩
    · obtain ⟨r, hr⟩ := rootsL_prefix power q p (by omega)
      rw [show rootsL power (q + 1) = if 2 ≤ q ∧ pB q q = true then rootsL power q ++ [rootR q power 36 % 4294967296] else rootsL power q from rfl]
      split
      · exact ⟨r ++ [rootR q power 36 % 4294967296], by rw [hr, List.append_assoc]⟩
      · exact ⟨r, hr⟩
theorem rootsL_eq (power p q : Nat) (h : p ≤ q) (hl : (rootsL power q).length ≤ (rootsL power p).length) : rootsL power p = rootsL power q := by
  obtain ⟨r, hr⟩ := rootsL_prefix power q p h
  rw [hr] at hl ⊢
  rw [List.length_append] at hl
  have : r = [] := List.eq_nil_of_length_eq_zero (by omega)
  subst this; simp
theorem owns_len {w : World} {B n : Nat} {e : TypeId} {v : Value} {xs : List Value} (h : w.ownsRow B e 1 v n xs) : ∃ a cap, v = .slice a n cap := by
  rcases h.2 with ⟨h1, h2⟩ | ⟨g, cap, cur, hv, _⟩
  · exact ⟨none, 0, by rw [h1, h2]⟩
  · exact ⟨_, cap, hv⟩
theorem mod_ne (p d : Nat) : ((p : Int) % (d : Int) != 0) = decide (p % d ≠ 0) := by
  rw [← Int.natCast_emod]
  by_cases h : p % d = 0
  · simp [h]
  · have h2 : ((p % d : Nat) : Int) ≠ 0 := by omega
    rw [decide_eq_true (p := p % d ≠ 0) h]
    exact bne_iff_ne.2 h2
theorem owns_below {w w' : World} {B n : Nat} {e : TypeId} {v : Value} {xs : List Value} (h : w.ownsRow B e 1 v n xs) (hb : Below w.heap.size w w') : w'.ownsRow B e 1 v n xs := by
  obtain ⟨h1, h2⟩ := h
  refine ⟨h1, ?_⟩
  rcases h2 with h2 | ⟨g, cap, cur, a, b, c, d⟩
  · exact .inl h2
  · exact .inr ⟨g, cap, cur, a, b, (hb.block g (Array.getElem?_eq_some_iff.1 c).1).trans c, d⟩
theorem info33 : (Tryd.prog.info? 33).map (fun i => (i.zero, i.size, i.bytes)) = some (some (.int .u32 0), 1, 4) := by kernel_rfl

set_option maxRecDepth 100000 in
set_option maxHeartbeats 2000000 in
theorem roots_any (n power Pm : Nat) (hp : power = 2 ∨ power = 3) (hn : n ≤ 64) (hPm : Pm ≤ 1000) (hP2 : 2 ≤ Pm) (hlen : (rootsL power Pm).length = n) (w : World) :
    Calls Tryd.prog 19 #[.int .i64 n, .int .i64 power] w fun e w' => ∃ v, e = .returned v ∧ w'.ownsRow w.heap.size 33 1 v n ((rootsL power Pm).map (Value.int .u32)) ∧ Below w.heap.size w w' := by
  obtain ⟨i, hi, hz0, hz1, hz2⟩ := info_parts info33
  have Hlen := hide hlen
  have Hp := hide hp
  clear hlen hp
  go_enter Tryd.func19, Tryd.ntmps19
  go_wp2
  go_loopw [5, 6] (fun v xp w1 => ∃ p : Nat, 2 ≤ p ∧ p ≤ Pm ∧ xp = .int .i64 p ∧ w1.ownsRow w.heap.size 33 1 v (rootsL power p).length ((rootsL power p).map (Value.int .u32)) ∧ Below w.heap.size w w1) (fun _ p _ => Pm - (intOf p).toNat)
  case atStart => exact ⟨2, by omega, hP2, rfl, World.ownsRow_nil _ _ _ _, Below.refl _ _⟩
  case round =>
    obtain ⟨p, hp2, hpm, rfl, hown, hbel⟩ := hrel
    obtain ⟨av, cv, rfl⟩ := owns_len hown
    by_cases hlt : (rootsL power p).length < n
    · have hpt : p < Pm := by
        rcases Nat.lt_or_ge p Pm with h | h
        · exact h
        · obtain rfl : p = Pm := by omega
          have := unhide Hlen; omega
      have hll : (rootsL power p).length ≤ 64 := by omega
      go_wp2
      go_loopw [7, 8] (fun b xd w2 => ∃ d : Nat, 2 ≤ d ∧ d ≤ p ∧ xd = .int .i64 d ∧ b = .bool (pB p d) ∧ w2 = wr) (fun _ d _ => p - (intOf d).toNat)
      case atStart => exact ⟨2, by omega, hp2, rfl, rfl, rfl⟩
      case round =>
        obtain ⟨d, hd2, hdp, rfl, rfl, rfl⟩ := hrel
        by_cases hdt : d < p
        · have hpb : pB p (d + 1) = (pB p d && decide (p % d ≠ 0)) := by rw [pB, if_neg (by omega)]
          have HB := hide hpb
          clear hpb
          have hne0 : ((d : Int) == 0) = false := by simp; omega
          cases hq : pB p d
          · go_wp2
            exact ⟨⟨d + 1, by omega, by omega, by go_num, by rw [unhide HB, hq]; rfl, trivial⟩, by simp [intOf]; omega⟩
          · go_wp2
            exact ⟨⟨d + 1, by omega, by omega, by go_num, by rw [unhide HB, hq, mod_ne]; rfl, trivial⟩, by simp [intOf]; omega⟩
        · obtain rfl : d = p := by omega
          have hrl : rootsL power (d + 1) = if 2 ≤ d ∧ pB d d = true then rootsL power d ++ [rootR d power 36 % 4294967296] else rootsL power d := rfl
          cases hq : pB d d
          · rw [if_neg (by rw [hq]; simp)] at hrl
            have HL := hide hrl
            clear hrl
            go_wp2
            exact ⟨⟨d + 1, by omega, by omega, by go_num, by rw [unhide HL]; exact hown, hbel⟩, by simp [intOf]; omega⟩
          · rw [if_pos ⟨hp2, hq⟩] at hrl
            have HL := hide hrl
            clear hrl
            have hpow : power ≤ 3 := by have := unhide Hp; omega
            go_wp2
            go_loopw [9, 10] (fun xr xb w3 => ∃ t : Nat, t ≤ 36 ∧ xb = .int .i64 (35 - (t : Int)) ∧ xr = .int .u64 (rootR d power t) ∧ w3.ownsRow w.heap.size 33 1 (.slice av (rootsL power d).length cv) (rootsL power d).length ((rootsL power d).map (Value.int .u32)) ∧ Below w.heap.size w w3) (fun _ b _ => (intOf b + 1).toNat)
            case atStart => exact ⟨0, by omega, rfl, rfl, hown, hbel⟩
            case round =>
              clear hown hbel
              obtain ⟨t, ht, rfl, rfl, hown, hbel⟩ := hrel
              by_cases htt : t < 36
              · have hb := rootR_bd d power t (by omega)
                have hp1 : (0 : Int) < 2 ^ (35 - t) := Int.pow_pos (by decide)
                have e1 : (35 - (t : Int)).toNat = 35 - t := by omega
                have e2 : min (35 - t) 64 = 35 - t := by omega
                have e3 : (2 : Int) ^ (36 - t) = 2 ^ (35 - t) * 2 := by rw [show 36 - t = (35 - t) + 1 by omega, Int.pow_succ]
                have hb2 : rootR d power t + 2 ^ (35 - t) ≤ 68719476736 := by omega
                obtain ⟨hb0, hb1⟩ := hb
                have hsm : (2 : Int) ^ (35 - t) ≤ 68719476736 := by omega
                clear hb1 e3
                have hst : rootR d power (t + 1) = if powN (rootR d power t + 2 ^ (35 - t)) power ≤ (d : Int) * pw (2 * power) then rootR d power t + 2 ^ (35 - t) else rootR d power t := rfl
                by_cases hc : powN (rootR d power t + 2 ^ (35 - t)) power ≤ (d : Int) * pw (2 * power)
                · rw [if_pos hc] at hst
                  have HS := hide hst
                  have hcb : decide (powN (rootR d power t + 2 ^ (35 - t)) power ≤ (d : Int) * pw (2 * power)) = true := decide_eq_true hc
                  clear hst hc
                  go_wp2_with (go_at_call 23; go_must (refine (less_any _ _ power (unhide Hp) (by omega) (by omega) (by omega) (by omega) _).mono ?_); rintro e w4 ⟨rfl, hb4⟩)
                  exact ⟨⟨t + 1, by omega, by go_num, by rw [unhide HS], owns_below hown hb4, hbel.trans (hb4.mono hbel.size)⟩, by simp [intOf]; omega⟩
                · rw [if_neg hc] at hst
                  have HS := hide hst
                  have hcb : decide (powN (rootR d power t + 2 ^ (35 - t)) power ≤ (d : Int) * pw (2 * power)) = false := decide_eq_false hc
                  clear hst hc
                  go_wp2_with (go_at_call 23; go_must (refine (less_any _ _ power (unhide Hp) (by omega) (by omega) (by omega) (by omega) _).mono ?_); rintro e w4 ⟨rfl, hb4⟩)
                  exact ⟨⟨t + 1, by omega, by go_num, by rw [unhide HS], owns_below hown hb4, hbel.trans (hb4.mono hbel.size)⟩, by simp [intOf]; omega⟩
              · obtain rfl : t = 36 := by omega
                have hb := rootR_bd d power 36 (by omega)
                obtain ⟨hb0, hb1⟩ := hb
                go_wp2_with (at_builtin; refine wpList_append_own _ rfl (.tmp 46) (.tmp 49) 38 rfl w.heap.size 33 i (.int .u32 0) 1 4 Tryd.underlying38 hi hz0 hz1 hz2 rfl (by decide) _ _ _ rfl (hown.alloc _) ⟨wr.heap.size, 0, none⟩ 1 1 [.int .u32 (rootR d power 36 % 4294967296)] rfl rfl (cells_lit _ _ 33) (by intro u hu; simp at hu; subst hu; rfl) (by unfold maxLen; omega) (by omega) (by have := hbel.size; simp; omega) ?_)
                intro v2 w2 hown2 hgrow2 _
                go_wp2
                refine ⟨⟨d + 1, by omega, by omega, by go_num, ?_, (hbel.alloc hbel.size _).grown hgrow2 (by have := hbel.size; simp; omega) (fun b hb => (hown.lt b hb).1)⟩, by simp [intOf]; omega⟩
                rw [unhide HL, List.length_append, List.map_append]
                exact hown2
    · have hge : n ≤ (rootsL power p).length := by omega
      have heq := rootsL_eq power p Pm hpm (by rw [unhide Hlen]; exact hge)
      have hll2 : (rootsL power p).length = n := by rw [heq]; exact unhide Hlen
      rw [heq, unhide Hlen] at hown
      rw [hll2] at hlt ⊢
      go_wp2
      go_ret
      exact ⟨_, rfl, hown, hbel⟩
end Go.Proofs.YtaojifgbnllebaaDoor
