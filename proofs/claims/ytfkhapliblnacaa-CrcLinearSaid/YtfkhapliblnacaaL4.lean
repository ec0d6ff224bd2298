/- CrcLinear of whatever came in. -/
import Derived.Test.YtfkhapliblnacaaL2
import Derived.Test.YtfkhapliblnacaaL3
import Derived.Test.YtfkhapliblnacaaD1
namespace Go.Proofs.Ytfkhapliblnacaa
open Go.RowKit

theorem IsRow.cap {k : IntKind} {w : World} {a : Option Addr} {len cap : Nat} {zs : List Int} (h : IsRow k w a len cap zs) : (a = none → len = 0 ∧ cap = 0) ∧ len ≤ cap ∧ cap ≤ maxLen := by
  rcases h with ⟨rfl, rfl, rfl, rfl⟩ | ⟨x, rfl, h1, h2, _⟩
  · exact ⟨fun _ => ⟨rfl, rfl⟩, Nat.le_refl _, Nat.zero_le _⟩
  · exact ⟨fun h => (by cases h), h1, h2⟩
theorem lin_walk (p : Option Addr) (la ca : Nat) (za : List Int) (q : Option Addr) (lb cb : Nat) (zb : List Int) (r : Option Addr) (lc cc : Nat) (zc : List Int) (w : World)
    (ha : IsRow .u8 w p la ca za) (hb : IsRow .u8 w q lb cb zb) (hc : IsRow .u8 w r lc cc zc) :
    Calls Try.prog 5 #[.slice p la ca, .slice q lb cb, .slice r lc cc] w fun e w' => e = .returned (.bool true) ∧ Below w.heap.size w w' := by
  by_cases h : 400 < la ∧ 400 < lb ∧ 400 < lc
  · exact lin_long p q r la lb lc ca cb cc w ha.len hb.len hc.len h
  · obtain ⟨n, hn⟩ : ∃ n, n = min (min la lb) lc := ⟨_, rfl⟩
    by_cases h0 : n = 0
    · exact lin_none p q r la lb lc ca cb cc w ha.cap.1 hb.cap.1 hc.cap.1 ha.cap.2 hb.cap.2 hc.cap.2 (by omega)
    · obtain ⟨ba, oa, rfl, _, _⟩ := Sl.some ha.bs (by omega)
      obtain ⟨bb, ob, rfl, _, _⟩ := Sl.some hb.bs (by omega)
      obtain ⟨bc, oc, rfl, _, _⟩ := Sl.some hc.bs (by omega)
      exact lin_some (rowD za) (rowD zb) (rowD zc) ba oa bb ob bc oc la lb lc ca cb cc n w ha.bs hb.bs hc.bs (fun i _ => ha.lt i) (fun i _ => hb.lt i) (fun i _ => hc.lt i) hn (by omega) (by omega)
end Go.Proofs.Ytfkhapliblnacaa
