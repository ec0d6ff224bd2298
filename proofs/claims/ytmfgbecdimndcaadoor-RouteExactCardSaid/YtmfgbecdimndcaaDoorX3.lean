/- Walk of bellwetherlaw11.RouteExact: every way. -/
import Derived.Test.YtmfgbecdimndcaaDoorX2
import Derived.Test.YtmfgbecdimndcaaDoorD1
namespace Go.Proofs.YtmfgbecdimndcaaDoor
open Go.RowKit

theorem row_il {w : World} {a : Option Addr} {len cap : Nat} {zs : List Int} (h : IsRow w a len cap zs) : ∃ L : List Int, L.length = len ∧ IL w (.slice a len cap) L := by
  have hl : ((List.range len).map (rowF zs)).length = len := by simp
  refine ⟨(List.range len).map (rowF zs), hl, ?_⟩
  unfold IL
  rw [hl]
  exact h.isl.congr fun i hi => by simp [zF, List.getD, hi]
theorem exact_walk (t : Int) (x : Option Addr) (len cap : Nat) (zs : List Int) (s : Int) (w : World) (hG : Glob w) (h : IsRow w x len cap zs) :
    Calls Tryd.prog 3 #[.int .i64 t, .slice x len cap, .int .i64 s] w fun e w' => e = .returned (.bool true) ∧ Below w.heap.size w w' := by
  obtain ⟨L, hL, hI⟩ := row_il h
  by_cases hn : 30 < len
  · refine (exact_many t s x len cap w hn h.len).mono ?_
    rintro e w' ⟨rfl, rfl⟩
    exact ⟨rfl, Below.refl _ _⟩
  · by_cases hR : Ris L ∧ s ∈ L
    · by_cases hT : IsT t
      · exact exact_topic t s x len cap L w hG hL hI (by omega) hR.1 hR.2 hT
      · exact exact_notopic t s x len cap L w hG hL hI (by omega) hR.1 hR.2 hT
    · exact exact_arg t s x len cap L w hG hL hI (by omega) hR
end Go.Proofs.YtmfgbecdimndcaaDoor
