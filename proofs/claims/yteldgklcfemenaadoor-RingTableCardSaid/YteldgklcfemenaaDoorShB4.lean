/- Walk of sha.Sum of no bytes, the slice not nil. -/
import Derived.Test.YteldgklcfemenaaDoorShB1
namespace Go.Proofs.YteldgklcfemenaaDoor.Sh
open Go.RowKit

set_option maxRecDepth 100000 in
set_option maxHeartbeats 4000000 in
theorem sum_zero (s0 : S8) (kk bs : Nat → Int) (x : Addr) (cap : Nat) (w : World) (hG : Glob s0 kk w) (hbs : ∀ i, 0 ≤ bs i ∧ bs i < 256) :
    Calls Tryd.prog 27 #[.slice (some x) 0 cap] w fun e w' => ∃ g, e = .returned (.slice (some ⟨g, 0, none⟩) 32 32) ∧ w'.ownsRow w.heap.size 5 1 (.slice (some ⟨g, 0, none⟩) 32 32) 32 ((S8.blocks kk (padF bs 0 0 64 8) s0 1).bytes 8) ∧ Below w.heap.size w w' := by
  obtain ⟨g, c0, c1, c2, c3, c4, c5, c6, c7, ck⟩ := hG
  have CK := hide ck
  clear ck
  have hca : ∀ o i, (w.alloc o).cell? ⟨2, i, none⟩ = w.cell? ⟨2, i, none⟩ := fun o i => Below.cell ((Below.refl _ _).alloc (Nat.le_refl _) _) (p := ⟨2, i, none⟩) (by show 2 < w.heap.size; omega)
  go_enter Tryd.func27, Tryd.ntmps27
  go_wp2
  go_cut [4] (fun x wx => ∃ g, x = .pointer (some ⟨g, 0, none⟩) ∧ Holds wx g s0 ∧ w.heap.size ≤ g ∧ Below w.heap.size w wx)
  case first =>
    go_region_with (first
      | (go_at_call 30
         go_must (refine (mixAll_none s0 _ _ _).mono ?_)
         rintro e w1 ⟨rfl, hb1⟩
         obtain ⟨hc1, hf1⟩ := bcell hb1
         have hs1 := hb1.size
         simp only [heap_drew] at hc1 hf1 hs1
         have H1 := hide hb1
         clear hb1))
    all_goals (go_wp2; go_meet)
    all_goals first
      | with_reducible exact ⟨_, rfl, end_a (unhide H1) s0⟩
      | with_reducible exact ⟨_, rfl, end_b (unhide H1) s0⟩
  case rest =>
    obtain ⟨gb, rfl, hst, hgb, hbel⟩ := hcut
    clear c0 c1 c2 c3 c4 c5 c6 c7 hca
    obtain ⟨c0, c1, c2, c3, c4, c5, c6, c7⟩ := hst.cells
    have hf : ∀ i, wc.frozen? ⟨gb, i, none⟩ = false := hst.frozen
    have hgl := hst.lt
    have hws := hbel.size
    have CKc : Hid (∀ i : Nat, i < 64 → wc.cell? ⟨3, i, none⟩ = some (.int .u32 (kk i))) := fun i hi => by rw [hbel.cell (p := ⟨3, i, none⟩) g]; exact unhide CK i hi
    clear CK
    go_wp2
    go_cut [0, 4] (fun _ x wx => x = .pointer (some ⟨gb, 0, none⟩) ∧ Holds wx gb (S8.blocks kk (padF bs 0 0 64 8) s0 1) ∧ Below w.heap.size w wx)
    case first =>
        go_region_with (first
          | (go_at_call 31
             go_must (refine (padded_one _ 0 _ bs 0 _ (by omega) (by omega) (by omega) (by omega) ?_).mono ?_
                      · intro hpos
                        exfalso; omega)
             rintro e w1 ⟨rfl, hrow1, hb1⟩
             obtain ⟨hc1, hf1⟩ := bcell hb1
             have hs1 := hb1.size
             simp only [heap_drew] at hc1 hf1 hs1 hrow1
             have hgl1 : gb < w1.heap.size := by omega
             have H1 := hide hb1
             have HR1 := hide hrow1
             clear hb1 hrow1)
          | (go_at_call 30
             go_must (refine (mixAll_at s0 kk (padF bs 0 0 64 8) wc.heap.size 0 1 64 _ ?_ ?_ ?_ (fun i => padF_bd _ _ _ _ _ _ (fun i => hbs _)) (by omega) (by omega) ?_).mono ?_
                      · intro i hi; rw [(unhide H1).cell (p := ⟨3, i, none⟩) (by show 3 < wc.heap.size; omega)]; exact unhide CKc i hi
                      · omega
                      · intro i hi; rw [Nat.zero_add]; exact (unhide HR1).cell (by omega)
                      · exact (unhide HR1).lt)
             rintro e w2 ⟨rfl, hb2⟩
             obtain ⟨hc2, hf2⟩ := bcell hb2
             have hs2 := hb2.size
             have H2 := hide hb2
             clear hb2))
        all_goals (go_wp2; go_meet)
        all_goals with_reducible exact ⟨rfl, end_c hst hbel hgb (unhide H1) (unhide H2) _⟩
    case rest =>
      obtain ⟨rfl, hst2, hbel2⟩ := hcut
      clear c0 c1 c2 c3 c4 c5 c6 c7 CKc hf hst hbel
      go_wp2_with (first
        | (refine wpList_load_row rfl 47 (.tmp 4) rfl gb rfl 47 _ (0, 0) _ hst2 Tryd.underlying47 rfl (by rw [S8.vals_size]; exact size34) ?_)
        | (go_at_call 32
           refine (bytesOf_any _ _).mono ?_
           rintro e w3 ⟨rfl, hown3, hb3⟩))
      go_ret
      exact ⟨_, rfl, ownsRow_base (by have := hbel2.size; omega) hown3, hbel2.trans (hb3.mono hbel2.size)⟩
end Go.Proofs.YteldgklcfemenaaDoor.Sh
