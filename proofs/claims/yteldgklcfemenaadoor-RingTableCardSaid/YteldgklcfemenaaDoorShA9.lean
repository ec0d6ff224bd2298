/- Walk of sha.Sum, the padding taking two blocks. -/
import Derived.Test.YteldgklcfemenaaDoorShA7
namespace Go.Proofs.YteldgklcfemenaaDoor.Sh
open Go.RowKit

set_option maxRecDepth 100000 in
set_option maxHeartbeats 4000000 in
theorem sum_two (s0 : S8) (kk bs : Nat → Int) (b off q r cap : Nat) (w : World) (hG : Glob s0 kk w)
    (hc : ∀ i : Nat, i < 64 * q + r → w.cell? ⟨b, off + i, none⟩ = some (.int .u8 (bs i))) (hbs : ∀ i, 0 ≤ bs i ∧ bs i < 256) (hlo : 56 ≤ r) (hr : r < 64) (hcap : 64 * q + r ≤ cap) (hcap2 : cap < 2 ^ 63) (hn60 : 64 * q + r < 2 ^ 60) (hb : b < w.heap.size) :
    Calls Tryd.prog 27 #[.slice (some ⟨b, off, none⟩) (64 * q + r) cap] w fun e w' => ∃ g, e = .returned (.slice (some ⟨g, 0, none⟩) 32 32) ∧ w'.ownsRow w.heap.size 5 1 (.slice (some ⟨g, 0, none⟩) 32 32) 32 ((S8.blocks kk (padF (fun i => bs (64 * q + i)) r ((64 * (q : Int) + r) * 8) 128 8) (S8.blocks kk bs s0 q) 2).bytes 8) ∧ Below w.heap.size w w' := by
  have h1 : (64 * (q : Int) + r) % 64 = r := by omega
  have h2 : 64 * (q : Int) + r - r = 64 * q := by omega
  obtain ⟨g, c0, c1, c2, c3, c4, c5, c6, c7, ck⟩ := hG
  have CK := hide ck
  have HC := hide hc
  clear ck hc
  have hca : ∀ o i, (w.alloc o).cell? ⟨2, i, none⟩ = w.cell? ⟨2, i, none⟩ := fun o i => Below.cell ((Below.refl _ _).alloc (Nat.le_refl _) _) (p := ⟨2, i, none⟩) (by show 2 < w.heap.size; omega)
  go_enter Tryd.func27, Tryd.ntmps27
  go_wp2
  go_cut [4] (fun x wx => ∃ g, x = .pointer (some ⟨g, 0, none⟩) ∧ Holds wx g (S8.blocks kk bs s0 q) ∧ w.heap.size ≤ g ∧ Below w.heap.size w wx)
  case first =>
    go_region_with (first
      | (go_at_call 30
         go_must (refine (mixAll_at s0 kk bs b off q cap _ ?_ ?_ ?_ hbs ?_ ?_ ?_).mono ?_
                  · intro i hi; have := unhide CK i hi; simp [go_sem, World.cell?_alloc_past, this, g]
                  · simp; omega
                  · intro i hi; have := unhide HC i (by omega); simp [go_sem, World.cell?_alloc_past, this, hb]
                  · omega
                  · omega
                  · simp; omega)
         rintro e w1 ⟨rfl, hb1⟩
         obtain ⟨hc1, hf1⟩ := bcell hb1
         have hs1 := hb1.size
         simp only [heap_drew] at hc1 hf1 hs1
         have H1 := hide hb1
         clear hb1))
    all_goals (go_wp2; go_meet)
    all_goals first
      | with_reducible exact ⟨_, rfl, end_a (unhide H1) (S8.blocks kk bs s0 q)⟩
      | with_reducible exact ⟨_, rfl, end_b (unhide H1) (S8.blocks kk bs s0 q)⟩
  case rest =>
    obtain ⟨gb, rfl, hst, hgb, hbel⟩ := hcut
    clear c0 c1 c2 c3 c4 c5 c6 c7 hca
    obtain ⟨c0, c1, c2, c3, c4, c5, c6, c7⟩ := hst.cells
    have hf : ∀ i, wc.frozen? ⟨gb, i, none⟩ = false := hst.frozen
    have hgl := hst.lt
    have hws := hbel.size
    generalize hR : S8.blocks kk bs s0 q = R at *
    have HR := hide hR
    clear hR
    have CKc : Hid (∀ i : Nat, i < 64 → wc.cell? ⟨3, i, none⟩ = some (.int .u32 (kk i))) := fun i hi => by rw [hbel.cell (p := ⟨3, i, none⟩) g]; exact unhide CK i hi
    have HCc : Hid (∀ i : Nat, i < 64 * q + r → wc.cell? ⟨b, off + i, none⟩ = some (.int .u8 (bs i))) := fun i hi => by rw [hbel.cell (p := ⟨b, off + i, none⟩) hb]; exact unhide HC i hi
    clear CK HC
    go_wp2
    go_cut [0, 4] (fun _ x wx => x = .pointer (some ⟨gb, 0, none⟩) ∧ Holds wx gb (S8.blocks kk (padF (fun i => bs (64 * q + i)) r ((64 * (q : Int) + r) * 8) 128 8) R 2) ∧ Below w.heap.size w wx)
    case first =>
      rcases Nat.eq_or_lt_of_le (show 64 * q ≤ cap by omega) with hcq | hcq
      · exfalso; omega
      · have hne : ¬ cap = 64 * q := by omega
        go_region_with (first
          | (go_at_call 31
             go_must (refine (padded_two _ r _ (fun i => bs (64 * q + i)) _ _ hlo hr (by omega) (by omega) ?_).mono ?_
                      · intro hpos
                        first
                          | (exfalso; omega)
                          | exact ⟨b, off + 64 * q, rfl, by simp; omega, fun i hi => by rw [Nat.add_assoc]; exact unhide HCc _ (by omega)⟩)
             rintro e w1 ⟨rfl, hrow1, hb1⟩
             obtain ⟨hc1, hf1⟩ := bcell hb1
             have hs1 := hb1.size
             simp only [heap_drew] at hc1 hf1 hs1 hrow1
             have hgl1 : gb < w1.heap.size := by omega
             have H1 := hide hb1
             have HR1 := hide hrow1
             clear hb1 hrow1)
          | (go_at_call 30
             go_must (refine (mixAll_at R kk (padF (fun i => bs (64 * q + i)) r ((64 * (q : Int) + r) * 8) 128 8) wc.heap.size 0 2 128 _ ?_ ?_ ?_ (fun i => padF_bd _ _ _ _ _ _ (fun i => hbs _)) (by omega) (by omega) ?_).mono ?_
                      · intro i hi; rw [(unhide H1).cell (p := ⟨3, i, none⟩) (by show 3 < wc.heap.size; omega)]; exact unhide CKc i hi
                      · omega
                      · intro i hi; rw [Nat.zero_add]; exact (unhide HR1).cell (by omega)
                      · exact (unhide HR1).lt)
             rintro e w2 ⟨rfl, hb2⟩
             obtain ⟨hc2, hf2⟩ := bcell hb2
             have hs2 := hb2.size
             have H2 := hide hb2
             clear hb2))
        all_goals (go_wp2; go_meet)
        all_goals with_reducible exact ⟨rfl, end_c hst hbel hgb (unhide H1) (unhide H2) _⟩
    case rest =>
      obtain ⟨rfl, hst2, hbel2⟩ := hcut
      clear c0 c1 c2 c3 c4 c5 c6 c7 CKc HCc hf hst hbel
      go_wp2_with (first
        | (refine wpList_load_row rfl 47 (.tmp 4) rfl gb rfl 47 _ (0, 0) _ hst2 Tryd.underlying47 rfl (by rw [S8.vals_size]; exact size34) ?_)
        | (go_at_call 32
           refine (bytesOf_any _ _).mono ?_
           rintro e w3 ⟨rfl, hown3, hb3⟩))
      go_ret
      exact ⟨_, rfl, ownsRow_base (by have := hbel2.size; omega) (by rw [unhide HR]; exact hown3), hbel2.trans (hb3.mono hbel2.size)⟩
end Go.Proofs.YteldgklcfemenaaDoor.Sh
