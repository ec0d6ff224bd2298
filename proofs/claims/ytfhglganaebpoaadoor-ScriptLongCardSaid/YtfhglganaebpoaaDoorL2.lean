/- Walk of ScriptLong. -/
import Derived.Test.YtfhglganaebpoaaDoorL1
import Derived.Test.YtfhglganaebpoaaDoorW1
import Derived.Test.YtfhglganaebpoaaDoorD1
namespace Go.Proofs.YtfhglganaebpoaaDoor
open Go.RowKit

/-- Steps of the number c, then of zeros. -/
def cz (c : Int) (K j : Nat) : Int := if j < K then c else 0
/-- A slice's length. -/
def lenV : Value → Nat
  | .slice _ n _ => n
  | _ => 0
theorem Glob.grown {w w' : World} {e : Addr} {row : Option Nat} (h : Glob w e) (g : w.grownBy w' row) (hr : ∀ k, row = some k → 2 ≤ k) : Glob w' e := by
  have b : Below 2 w w' := (Below.refl 2 w).grown g h.1 hr
  exact ⟨Nat.lt_of_lt_of_le h.1 b.size, (b.cell (p := ⟨0, 0, none⟩) (by decide)).trans h.2.1, (b.cell (p := ⟨1, 0, none⟩) (by decide)).trans h.2.2⟩
set_option maxRecDepth 100000 in
set_option maxHeartbeats 8000000 in
theorem long_walk (less c : Int) (w : World) (hG : GlobE w) (hc : 0 ≤ c ∧ c < 256) : Calls Tryd.prog 6 #[.int .i64 less, .int .u8 c] w fun e w' => e = .returned (.bool true) ∧ Below w.heap.size w w' := by
  obtain ⟨e, hG⟩ := hG
  obtain ⟨L, hL, hL2⟩ : ∃ q : Nat, wrap64 ((IntKind.u64.wrap less).tmod 20) = q ∧ q < 20 := modN less 20 (by omega) (by omega)
  obtain ⟨i, hi, hz0, hz1, hz2⟩ := info_parts info5
  obtain ⟨i7, hi7, hy0, hy1, hy2⟩ := info_parts info27'
  obtain ⟨n, hn⟩ : ∃ n : Nat, n + L = 4000 := ⟨4000 - L, by omega⟩
  obtain ⟨M, hM⟩ : ∃ M : Nat, M = n / 5 := ⟨_, rfl⟩
  have HG := hide hG
  have HC := hide hc
  have HL := hide hL
  have hn2 : n ≤ 4000 := by omega
  have hn0 : 0 < n := by omega
  have w1' : IntKind.i64.wrap (4000 - (L : Int)) = (n : Int) := by rw [IntKind.wrap_i64]; omega
  have HN := hide (show n + L = 4000 ∧ M = n / 5 ∧ M ≤ 800 ∧ M * 5 ≤ n ∧ 0 < M from by omega)
  clear hG hc hL
  go_enter Tryd.func6, Tryd.ntmps6
  go_upto_region 2 with fail
  rw [unhide HL]
  go_wp2_with (at_make; refine wpList_make_full _ rfl _ _ 24 rfl w.heap.size 5 i (.int .u8 0) 1 Tryd.underlying24 hi hz0 hz1 .i64 .i64 n n n rfl rfl rfl rfl (by rw [hz2]; omega) (by unfold maxLen; omega) (Nat.le_refl _) ?_)
  intro w1 hown hgrow
  have hbel := (Below.refl w.heap.size w).grown hgrow (Nat.le_refl _) (by intro k h; cases h)
  have R1 := hide (row1_of_owns hown)
  have HB := hide hbel
  obtain ⟨g, hg⟩ : ∃ g, g = w.heap.size := ⟨_, rfl⟩
  have GE := hide (show w.heap.size ≤ g by omega)
  rw [← hg] at R1 ⊢
  clear hown hgrow hbel hn hM w1' HL hg
  go_wp2
  go_loopw [6] (fun v w2 => ∃ k : Nat, k ≤ n ∧ v = .int .i64 k ∧ (∃ f, w2.rowIs g 5 n f ∧ ∀ j, j < k → f j = .int .u8 c) ∧ Below w.heap.size w w2) (fun v _ => n - (intOf v).toNat)
  case atStart => exact ⟨0, by omega, rfl, ⟨_, unhide R1, fun j hj => by omega⟩, unhide HB⟩
  case round =>
    clear R1 HB
    obtain ⟨k, hk, rfl, ⟨f, hr, hf⟩, hb⟩ := hrel
    have HR := hide hr
    have HF := hide hf
    have HB := hide hb
    by_cases hlt : k < n
    · have cc := hr.cell hlt
      have ff := hr.frozen k
      have lt := hr.lt
      have N1 := hide (show ∃ f, (wr.setCell ⟨g, k, none⟩ (.int .u8 c)).rowIs g 5 n f ∧ ∀ j, j < k + 1 → f j = .int .u8 c from ⟨_, hr.set k _, fun j hj => by
        by_cases e : j = k
        · simp [e]
        · simp only [if_neg e]; exact hf j (by omega)⟩)
      have N2 := hide (hb.setCell (p := ⟨g, k, none⟩) (unhide GE) (.int .u8 c))
      generalize f k = u at *
      clear hr hf hb HR HF HB
      go_wp2
      go_roundw
      case rel => exact ⟨k + 1, by omega, by go_num, unhide N1, unhide N2⟩
      case measure => simp [intOf]; omega
    · obtain rfl : k = n := by omega
      have S0 := hide (sl_of_row1 (F := fun _ => c) hr hf (by unfold maxLen; omega))
      have G0 := hide ((unhide HG).below hb)
      have P1 := hide (parse_ok (fun _ => c) _ k M wr (unhide S0) (fun _ _ => unhide HC) hn2 (unhide HN).2.1)
      have e0 : (k : Int) / 5 = M := by have := unhide HN; omega
      have e5 : (k : Int) - (k : Int) % 5 = (M : Int) * 5 := by have := unhide HN; omega
      clear hr hf HR HF hb hk hlt
      go_upto_region 9 with (first
        | (go_at_call 9; refine (unhide P1).mono ?_; rintro ev w4 ⟨rfl, o4, b4⟩; have O4 := hide o4; have B4 := hide (below_of (unhide HB) b4); have G4 := hide ((unhide G0).below b4); have HO := hide (owns_mono (B' := w.heap.size) o4 (unhide HB).size); obtain ⟨Gc, W5, hrz, b5⟩ := zeros_onto g k (L + 1) (fun _ => c) w4 ((unhide S0).below b4 (Nat.le_refl _)) hn0 hn2 (by omega) (by omega); obtain ⟨gl, hgl⟩ : ∃ z, z = wr.heap.size := ⟨_, rfl⟩; rw [← hgl] at HO O4 ⊢; rw [show ((L + 1 : Nat) : Int) = (L : Int) + 1 by omega] at hrz; clear P1 o4 b4 hgl)
        | (at_builtin; refine Lib.wpList_append_run _ rfl _ _ _ _ rfl _ _ rfl rfl _ _ (hrz _) ?_)
        | (go_at_call 9; refine (parse_long _ _ _ _ (by have := unhide HN; omega) (by have := unhide HN; unfold maxLen; omega)).mono ?_; rintro ev w6 ⟨rfl, hw⟩; obtain rfl := hw.symm))
      have HO5 := hide (owns_below (unhide HO) b5)
      have S5 := hide (ss_of_owns (unhide HO5))
      have B5 := hide (below_of (unhide B4) b5)
      have G5 := hide ((unhide G4).below b5)
      have wc : IntKind.i64.wrap c = c := wrap_byte (unhide HC)
      have hM8 : M ≤ 800 := (unhide HN).2.2.1
      clear b5 hrz O4 B4 G4 HO S0 G0 HB
      go_wp2
      go_loopw [11] (fun v w2 => ∃ j : Nat, j ≤ M ∧ v = .int .i64 j ∧ w2 = W5) (fun v _ => M - (intOf v).toNat)
      case atStart => exact ⟨0, by omega, rfl, rfl⟩
      case round =>
        obtain ⟨j, hj, rfl, hw⟩ := hrel
        obtain rfl := hw.symm
        by_cases hlt : j < M
        · obtain ⟨b, off, he, _, hcell⟩ := (unhide S5).some (by omega)
          cases he
          obtain ⟨q0, q1, q2, q3, q4⟩ := Ss.five hcell j hlt
          rw [Nat.zero_add] at q0 q1 q2 q3 q4
          clear hcell
          go_wp2
          go_roundw
          case rel => exact ⟨j + 1, by omega, by go_num, trivial⟩
          case measure => simp [intOf]; omega
        · obtain rfl : j = M := by omega
          clear hj hlt wc
          go_upto_region 17 with (go_at_call 10; refine (bytes_ok (fun _ => c) _ j e _ (unhide G5) (unhide S5) (okS_of fun _ _ => by have := unhide HC; omega) hM8).mono ?_; rintro ev w6 ⟨g6, rfl, o6, b6⟩; have HO6 := hide (owns_below (unhide HO5) b6); have B6 := hide (below_of (unhide B5) b6); have G6 := hide ((unhide G5).below b6); clear o6 b6)
          have HO7 := hide (show w6.ownsRow w.heap.size 27 5 (.slice (some ⟨gl, 0, none⟩) j j) j (vL .i64 (cz c (j * 5)) (j * 5)) from by
            rw [vL_congr (F := cz c (j * 5)) (G := fun _ => c) (fun q hq => if_pos hq)]
            exact unhide HO6)
          have HJ := hide (unhide HN).2.2.2.2
          clear S5 G5 HO5 B5 HO6
          go_loopw [7] (fun v w2 => ∃ m p q, j ≤ m ∧ m ≤ 801 ∧ v = .slice p m q ∧ w2.ownsRow w.heap.size 27 5 (.slice p m q) m (vL .i64 (cz c (j * 5)) (m * 5)) ∧ Below w.heap.size w w2 ∧ Glob w2 e) (fun v _ => 801 - lenV v)
          case atStart => exact ⟨j, _, _, Nat.le_refl _, by omega, rfl, unhide HO7, unhide B6, unhide G6⟩
          case round =>
            clear HO7 B6 G6
            obtain ⟨m, p, q, hjm, hm, rfl, ho, hb, hg⟩ := hrel
            have HO := hide ho
            have HB := hide hb
            have HGr := hide hg
            have HJM := hide hjm
            clear ho hg hjm
            by_cases hlt : m ≤ 800
            · have LC := hide (cells_lit wr [.int .i64 0, .int .i64 0, .int .i64 0, .int .i64 0, .int .i64 0] 27)
              have O2 := hide ((unhide HO).alloc (.cells #[.int .i64 0, .int .i64 0, .int .i64 0, .int .i64 0, .int .i64 0] 27))
              have B2 := hide (below_alloc hb (.cells #[.int .i64 0, .int .i64 0, .int .i64 0, .int .i64 0, .int .i64 0] 27))
              have G2 := hide ((unhide HGr).below (below_alloc (Below.refl _ _) (.cells #[.int .i64 0, .int .i64 0, .int .i64 0, .int .i64 0, .int .i64 0] 27)))
              have L1 : ∀ u ∈ ([.int .i64 0, .int .i64 0, .int .i64 0, .int .i64 0, .int .i64 0] : List Value), u.oneCell' = true := by intro u hu; simp at hu; rw [hu]; rfl
              clear hb
              go_wp2_with (at_builtin; refine wpList_append_own _ rfl (.tmp 86) (.tmp 88) 25 rfl w.heap.size 27 i7 (.agg #[.int .i64 0, .int .i64 0, .int .i64 0, .int .i64 0, .int .i64 0]) 5 40 Tryd.underlying25 hi7 hy0 hy1 hy2 rfl (by decide) (.slice p m q) m (vL .i64 (cz c (j * 5)) (m * 5)) rfl ?own ⟨wr.heap.size, 0, none⟩ 1 1 [.int .i64 0, .int .i64 0, .int .i64 0, .int .i64 0, .int .i64 0] ?hx ?hn ?hc L1 ?b1 ?b2 ?b3 ?main; (case own => exact unhide O2); (case hx => rfl); (case hn => rfl); (case hc => exact unhide LC); (case b1 => (unfold maxLen; omega)); (case b2 => omega); (case b3 => exact (unhide B2).size))
              intro v4 w4 o4 g4 _
              have O4 := hide (show w4.ownsRow w.heap.size 27 5 v4 (m + 1) (vL .i64 (cz c (j * 5)) ((m + 1) * 5)) by
                have z : ∀ d, cz c (j * 5) (m * 5 + d) = 0 := fun d => if_neg (by have := unhide HJM; omega)
                have z0 : cz c (j * 5) (m * 5) = 0 := z 0
                rw [vL_five, z0, z 1, z 2, z 3, z 4]
                exact o4)
              have B4 := hide ((unhide B2).grown g4 (unhide B2).size fun k hk => ((unhide O2).lt k hk).1)
              have G4 := hide (Glob.grown (unhide G2) g4 fun k hk => Nat.le_trans (unhide HG).1 ((unhide O2).lt k hk).1)
              obtain ⟨p4, q4, rfl⟩ : ∃ p4 q4, v4 = .slice p4 (m + 1) q4 := by
                rcases (unhide O4).2 with ⟨rfl, h⟩ | ⟨_, _, _, rfl, _⟩
                · exact absurd h (by omega)
                · exact ⟨_, _, rfl⟩
              clear o4 g4 LC O2 B2 G2
              go_wp2
              go_roundw
              case rel => exact ⟨m + 1, p4, q4, by have := unhide HJM; omega, by omega, rfl, unhide O4, unhide B4, unhide G4⟩
              case measure => simp [lenV]; omega
            · obtain rfl : m = 801 := by omega
              have S8 := hide (ss_of_owns (unhide HO))
              have HE := hide (show byE (cz c (j * 5)) 801 = 2 by
                have : okS (cz c (j * 5)) 801 = true := okS_of fun q _ => by
                  unfold cz
                  have := unhide HC
                  split <;> omega
                simp [byE, this])
              clear hm hb
              go_wp2_with (first
                | (go_at_call 10; refine (bytes_bad (cz c (j * 5)) _ 801 e _ (unhide HGr) (unhide S8) (by rw [unhide HE]; decide)).mono ?_; rw [unhide HE]; rintro ev w8 ⟨rfl, b8⟩; replace HB := hide (below_of (unhide HB) b8); replace HGr := hide ((unhide HGr).below b8); clear b8)
                | (go_at_call 18; refine (wakes_any e _ (unhide HGr)).mono ?_; rintro ev w9 ⟨rfl, b9⟩; replace HB := hide (below_of (unhide HB) b9); clear b9))
              go_ret
              exact ⟨rfl, unhide HB⟩
end Go.Proofs.YtfhglganaebpoaaDoor
