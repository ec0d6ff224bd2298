/- Walks of kids.isInc, kids.Check, kids.Drop, the page's Drop. -/
import Derived.Test.YtgglnhnokhpnpaaDoorJ1
namespace Go.Proofs.YtgglnhnokhpnpaaDoor
open Go.RowKit

/-- An incarnation that a child may have. -/
def okI (i : Int) : Bool := decide (1 ≤ i) && decide (i ≤ 1073741824)
theorem isInc_any (i : Int) (w : World) : Calls Tryd.prog 26 #[.int .i64 i] w fun e w' => e = .returned (.bool (okI i)) ∧ w' = w := by
  by_cases h1 : 1 ≤ i
  · by_cases h2 : i ≤ 1073741824
    · rw [show okI i = true by simp [okI, h1, h2]]
      go_enter Tryd.func26, Tryd.ntmps26
      go_wp2
      go_ret
      exact ⟨rfl, rfl⟩
    · rw [show okI i = false by simp [okI, h2]]
      go_enter Tryd.func26, Tryd.ntmps26
      go_wp2
      go_ret
      exact ⟨rfl, rfl⟩
  · rw [show okI i = false by simp [okI, h1]]
    go_enter Tryd.func26, Tryd.ntmps26
    go_wp2
    go_ret
    exact ⟨rfl, rfl⟩

set_option maxHeartbeats 1000000 in
set_option maxRecDepth 100000 in
theorem drop_k (L : List Kd) (x : Int) (v : Value) (w : World) (h : KL w v L) (hl : L.length ≤ 1000) :
    Calls Tryd.prog 13 #[v, .int .i64 x] w fun e w' => ∃ v', e = .returned v' ∧ KO w' w.heap.size v' (dr L x) ∧ Below w.heap.size w w' := by
  obtain ⟨q, c, rfl⟩ := kl_form h
  obtain ⟨n, hn⟩ : ∃ n, L.length = n := ⟨_, rfl⟩
  have HN := hide hn
  have HI := hide h
  have HE := hide (show dr (L.take n) x = dr L x by rw [← hn, List.take_length])
  rw [hn] at HI hl ⊢
  clear h hn
  go_enter Tryd.func13, Tryd.ntmps13
  go_wp2
  go_loopw [5, 10] (fun u i w3 => ∃ (V : Value) (k : Nat), k ≤ n ∧ u = V ∧ i = .int .i64 k ∧ KO w3 w.heap.size V (dr (L.take k) x) ∧ Below w.heap.size w w3) (fun _ i _ => n - (intOf i).toNat)
  case atStart => exact ⟨_, 0, by omega, rfl, rfl, KO.nil _ _, Below.refl _ _⟩
  case round =>
    obtain ⟨V, k, hk, hu, rfl, ho, hb⟩ := hrel
    obtain rfl := hu.symm
    have HO := hide ho
    have HB := hide hb
    by_cases hlt : k < n
    · obtain ⟨b, off, rfl, hle, hc, hbb, c1, c2, c3⟩ := kl_cell ((unhide HI).below hb (Nat.le_refl _)) hlt (by rw [unhide HN]; exact Nat.le_refl _)
      have hkl : k < L.length := by rw [unhide HN]; exact hlt
      clear ho hb
      by_cases hx : (kz L k).1 = x
      · have E := hide (dr_no hkl hx)
        have e1 : ((kz L k).1 != x) = false := by simp [hx]
        clear hx hkl
        generalize kz L k = y at *
        obtain ⟨y1, y2, y3⟩ := y
        go_wp2
        go_roundw
        case rel => exact ⟨_, k + 1, by omega, rfl, by go_num, by rw [unhide E]; exact (unhide HO).alloc _, (unhide HB).alloc (unhide HB).size _⟩
        case measure => simp [intOf]; omega
      · have E := hide (dr_yes hkl hx)
        have e1 : ((kz L k).1 != x) = true := by simp [hx]
        have LN := hide (show (dr (L.take k) x).length ≤ 1000000 by have := dr_len (L.take k) x; simp at this; omega)
        clear hx hkl
        generalize kz L k = y at *
        obtain ⟨y1, y2, y3⟩ := y
        have B2 := hide (show ∀ o1 o2, Below w.heap.size w ((wr.alloc o1).alloc o2) from fun o1 o2 => ((unhide HB).alloc (unhide HB).size _).alloc ((unhide HB).alloc (unhide HB).size _).size _)
        go_wp2_with (at_builtin; refine wpList_addK (by simp [Region.wanted]) _ _ rfl w.heap.size _ _ _ [(y1, y2, y3)] rfl (((unhide HO).alloc _).alloc _) rfl (kl_lit' _ _ _ _ _ (by simp)) (unhide LN) (by simp) (unhide B2 _ _).size ?_; intro v4 w4 o4 b4; have O4 := hide o4; have B4 := hide ((unhide B2 _ _).trans b4); clear o4 b4)
        go_roundw
        case rel => exact ⟨_, k + 1, by omega, rfl, by go_num, by rw [unhide E]; exact unhide O4, unhide B4⟩
        case measure => simp [intOf]; omega
    · obtain rfl : k = n := by omega
      clear ho hb
      go_wp2
      go_ret
      exact ⟨_, rfl, by rw [← unhide HE]; exact unhide HO, unhide HB⟩
end Go.Proofs.YtgglnhnokhpnpaaDoor
