/- Walk of ScriptExact, put together. -/
import Derived.Test.YtfhglganaebpoaaDoorY6
namespace Go.Proofs.YtfhglganaebpoaaDoor
open Go.RowKit

theorem exact_walk (c : Cf) (p : Option Addr) (n cp : Nat) (zs : List Int) (q : Option Addr) (m d : Nat) (F2 : Nat → Int) (s : Stp) (w : World) (hG : GlobE w) (hb : IsRow .u8 w p n cp zs) (hl : Ss w (.slice q m d) m F2) :
    Calls Tryd.prog 3 #[cV c, .slice p n cp, .slice q m d, sV s] w fun e w' => e = .returned (.bool true) ∧ Below w.heap.size w w' := by
  obtain ⟨e, hG⟩ := hG
  have k1 : n ≤ maxLen := hb.sl.len
  have k2 : m ≤ maxLen := by
    obtain ⟨_, _, h1, h2, h3⟩ := hl.shape
    cases h1
    exact Nat.le_trans h2 h3
  by_cases a1 : 300 < n ∧ n ≤ 4000
  · exact exact_out_a c s p q n cp m d w a1 k1 k2
  by_cases a2 : 4020 < n
  · exact exact_out_b c s p q n cp m d w a2 k1 k2
  by_cases a3 : 60 < m ∧ m < 790
  · by_cases a4 : n ≤ 300
    · exact exact_out_c1 c s p q n cp m d w a3 k1 k2 a4
    · exact exact_out_c2 c s p q n cp m d w a3 k1 k2 (by omega)
  by_cases a5 : 820 < m
  · by_cases a4 : n ≤ 300
    · exact exact_out_d1 c s p q n cp m d w a5 k1 k2 a4
    · exact exact_out_d2 c s p q n cp m d w a5 k1 k2 (by omega)
  obtain ⟨f0, f1, f2, f3, f4, f5, f6⟩ := c
  obtain ⟨kd, nd, tp, vl, ms⟩ := s
  exact exact_main f0 f1 f2 f3 f4 f5 f6 kd nd tp vl ms p q n cp m d _ F2 e w hG hb.sl (fun i _ => hb.bd i) hl (by omega) (by omega)
end Go.Proofs.YtfhglganaebpoaaDoor
