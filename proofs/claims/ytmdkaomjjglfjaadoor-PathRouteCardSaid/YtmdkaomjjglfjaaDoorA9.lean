/- Walks of slices.DeleteFunc over route's closure, and of route.Ahead. -/
import Derived.Test.YtmdkaomjjglfjaaDoorA8
namespace Go.Proofs.YtmdkaomjjglfjaaDoor
open Go.RowKit

open Go.Shelf Go.Lib Go.Sort in
theorem isself_is (s x : Int) (B : Nat) (W : World) (hc : W.cell? ⟨B, 0, none⟩ = some (.int .i64 s)) :
    FnGives Tryd.prog 51 #[.pointer (some ⟨B, 0, none⟩)] #[.int .i64 x] (.bool (x == s)) W := by
  show Calls Tryd.prog 51 #[.int .i64 x, .pointer (some ⟨B, 0, none⟩)] W _
  go_enter Tryd.func51, Tryd.ntmps51
  go_wp2
  go_ret
  exact ⟨rfl, 0, rfl⟩
theorem oth_not (L : List Int) (s : Int) : (L.toArray.toList.filter fun x => !(x == s)) = oth L s := by
  simp only [oth]
  rfl
open Go.Shelf Go.Lib Go.Sort in
theorem delete_ol (L : List Int) (s : Int) (q : Option Addr) (c X B : Nat) (w : World) (ho : OL w B (.slice q L.length c) L) (h0 : L ≠ [])
    (hX : X < w.heap.size) (hXB : X < B) (hc : w.cell? ⟨X, 0, none⟩ = some (.int .i64 s)) (hn : L.length ≤ 1000000) :
    Calls Tryd.prog 49 #[.slice q L.length c, .func (.func 51) #[] #[.pointer (some ⟨X, 0, none⟩)]] w fun e w' => e = .returned (.slice q (oth L s).length c) ∧ OL w' B (.slice q (oth L s).length c) (oth L s) ∧ ∀ (w0 : World), Below B w0 w → Below B w0 w' := by
  have hl := List.length_pos_iff.2 h0
  have hle : (oth L s).length ≤ L.length := List.length_filter_le _ _
  obtain ⟨g, cap', hv, hBg, hlt, hcap, _, _, hH⟩ := Lib.holds_of_ownsRow ho (by intro e; injection e with e1 e2; omega)
  injection hv with hv1 _ hv2
  subst hv1
  subst hv2
  have hp : PredAt Tryd.prog 51 #[.pointer (some ⟨X, 0, none⟩)] (Value.int .i64) (fun x => x == s) w :=
    fun W x hb => isself_is s x X W ((hb.cell (p := ⟨X, 0, none⟩) hX).trans hc)
  have hpo : PredOver Tryd.prog 51 #[.pointer (some ⟨X, 0, none⟩)] (Value.int .i64) (fun x => x == s) g 0 L.toArray.size w :=
    fun n os dk x _ => isself_is s x X _ (by
      unfold sortWorld
      rw [cell?_grow _ _ _ (by show X < (putRow _ _ _ _ _).heap.size; rw [size_putRow]; exact hX), cell?_putRow_other _ _ g 0 _ _ (Or.inl (by show X ≠ g; omega))]
      exact hc)
  have hcon := AnyE.slices_DeleteFunc Tryd.laysDel (Value.int .i64) (fun _ => rfl) (fun x => x == s) 51 #[.pointer (some ⟨X, 0, none⟩)] e32 0 Tryd.zeroValue3 g 0 c L.toArray w hp hpo hH (by simp; omega) (by simpa using hcap)
  change Calls Tryd.prog 49 _ _ _ at hcon
  have e0 : L.toArray.size = L.length := by simp
  rw [e0] at hcon
  rw [oth_not] at hcon
  refine hcon.mono ?_
  rintro e w' ⟨rfl, m, rfl⟩
  refine ⟨rfl, ?_, fun w0 hb => Lib.below_putRow hb hBg⟩
  have hr := Lib.ownsRow_putRow (q := m) (k := (oth L s).length) (ys := oth L s ++ List.replicate (L.length - (oth L s).length) 0) ho (by simp; omega) hle
  rw [List.take_left] at hr
  exact hr

theorem ahead_arg (L : List Int) (s : Int) (v : Value) (w : World) (h : IL w v L) (hR : ¬ (Ris L ∧ s ∈ L)) :
    Calls Tryd.prog 44 #[v, .int .i64 s] w fun e w' => e = .returned (.tuple #[.int .i64 0, .int .i64 1]) ∧ Below w.heap.size w w' := by
  have hb0 : Below w.heap.size w (w.alloc (.cells #[.int .i64 s] 3)) := (Below.refl _ _).alloc (Nat.le_refl _) _
  have c := hide (check_arg L s v _ (h.below hb0 (Nat.le_refl _)) hR)
  have HB := hide hb0
  clear hb0 h hR
  go_enter Tryd.func44, Tryd.ntmps44
  go_wp2_with (go_at_call 32; refine (unhide c).mono ?_; rintro e w1 ⟨rfl, rfl⟩)
  go_ret2
  exact ⟨rfl, unhide HB⟩
theorem ris_le {L : List Int} (hR : Ris L) : L.length ≤ 8 := by
  have h := (ris_iff L).1 hR
  have low : ∀ i, i < L.length → (i : Int) ≤ zF L i := by
    intro i
    induction i with
    | zero => intro hi; have := (h 0 hi).1; have e0 : lea L 0 = 0 := rfl; rw [e0] at this; simpa using this
    | succ i ih => intro hi; have a := (h (i + 1) hi).1; rw [lea_succ] at a; have := ih (by omega); push_cast; omega
  rcases Nat.lt_or_ge 8 L.length with q | q
  · have := low 8 q
    have := (h 8 q).2
    omega
  · exact q
set_option maxHeartbeats 1000000 in
theorem ahead_both (L : List Int) (s : Int) (v : Value) (w : World) (hG : Glob w) (h : IL w v L) (hR : Ris L) (hs : s ∈ L) :
    Calls Tryd.prog 44 #[v, .int .i64 s] w fun e w' => e = .returned (.tuple (if oth L s = [] then #[.int .i64 0, .int .i64 7] else #[.int .i64 (ahd L s), .int .i64 0])) ∧ Below w.heap.size w w' := by
  have hb0 : Below w.heap.size w (w.alloc (.cells #[.int .i64 s] 3)) := (Below.refl _ _).alloc (Nat.le_refl _) _
  have hN := hR.2
  have hl := ris_le hR
  have i1 := h.below hb0 (Nat.le_refl _)
  have c1 := hide (check_ok L s v _ i1 hR hs)
  have c2 := hide (clone_il L v _ i1 (by omega))
  have hne := mem_ne hs
  have hmf := make_func
  have hcell : (w.alloc (.cells #[.int .i64 s] 3)).cell? ⟨w.heap.size, 0, none⟩ = some (.int .i64 s) := by simp [go_sem]
  have hsz : (w.alloc (.cells #[.int .i64 s] 3)).heap.size = w.heap.size + 1 := by simp
  obtain ⟨w1, hw1⟩ : ∃ x, w.alloc (.cells #[.int .i64 s] 3) = x := ⟨_, rfl⟩
  have g1 : Glob w1 := hw1 ▸ hG.alloc _
  rw [hw1] at hb0 c1 c2 hcell hsz
  have HW1 := hide hw1
  have HB0 := hide hb0
  have HSZ := hide hsz
  have c3 := hide (fun (q : Option Addr) (c : Nat) (w2 : World) (ho : OL w2 w1.heap.size (.slice q L.length c) L) (hb : Below w1.heap.size w1 w2) =>
    delete_ol L s q c w.heap.size w1.heap.size w2 ho hne (by have := hb.size; omega) (by omega) ((hb.cell (p := ⟨w.heap.size, 0, none⟩) (by show w.heap.size < w1.heap.size; omega)).trans hcell) (by omega))
  have c4 := hide (fun (v' : Value) (w3 : World) (hI : IL w3 v' (oth L s)) (hb : Below w1.heap.size w1 w3) (h0 : oth L s ≠ []) =>
    minfunc_is 53 (.pointer (some ⟨w.heap.size, 0, none⟩)) (fun n => bh n s) (oth L s) v' w3 e34
      (fun W a b ha hb2 hW => (closer_is a b s w.heap.size (hN a (oth_mem.1 ha).1) (hN b (oth_mem.1 hb2).1) (hN s hs) W ((g1.below hb g1.size).below hW (g1.below hb g1.size).size)
        ((hW.cell (p := ⟨w.heap.size, 0, none⟩) (by show w.heap.size < w3.heap.size; have := hb.size; omega)).trans ((hb.cell (p := ⟨w.heap.size, 0, none⟩) (by show w.heap.size < w1.heap.size; omega)).trans hcell))).mono fun e w' ⟨h1, q, h2⟩ => ⟨h1, h2 ▸ below_drewN hW q⟩) hI h0)
  have e1 : mnL (fun n => bh n s) (oth L s) = ahd L s := rfl
  rw [e1] at c4
  clear e1 hw1 hb0 hsz hcell g1 i1 h hG hR hs hne hl hN
  by_cases h0 : oth L s = []
  · rw [if_pos h0]
    have hlen : (oth L s).length = 0 := by rw [h0]; rfl
    generalize (oth L s).length = n at *
    clear c4
    subst hlen
    go_enter Tryd.func44, Tryd.ntmps44
    go_wp2_with fail
    rw [unhide HW1]
    go_wp2_with (first
      | (go_at_call 32; refine (unhide c1).mono ?_; rintro e w1 ⟨rfl, rfl⟩)
      | (go_at_call 50; refine (unhide c2).mono ?_; rintro e w2 ⟨q, c, rfl, ho, hb⟩; have HO := hide ho; have HB := hide hb; clear ho hb)
      | (go_at_call 49; refine (unhide c3 _ _ _ (unhide HO) (unhide HB)).mono ?_; rintro e w3 ⟨rfl, ho, hb⟩; have HB3 := hide (hb _ (unhide HB)); clear ho hb))
    go_ret2
    exact ⟨rfl, (unhide HB0).trans ((unhide HB3).mono (unhide HB0).size)⟩
  · rw [if_neg h0]
    have hlen : (((oth L s).length : Int) == 0) = false := beq_false_of_ne (by have := List.length_pos_iff.2 h0; omega)
    obtain ⟨n, hn⟩ : ∃ n, (oth L s).length = n := ⟨_, rfl⟩
    rw [hn] at c3 hlen
    have HL := hide h0
    clear h0 hn
    generalize ahd L s = r at *
    go_enter Tryd.func44, Tryd.ntmps44
    go_wp2_with fail
    rw [unhide HW1]
    go_wp2_with (first
      | (go_at_call 32; refine (unhide c1).mono ?_; rintro e w1 ⟨rfl, rfl⟩)
      | (go_at_call 50; refine (unhide c2).mono ?_; rintro e w2 ⟨q, c, rfl, ho, hb⟩; have HO := hide ho; have HB := hide hb; clear ho hb)
      | (go_at_call 49; refine (unhide c3 _ _ _ (unhide HO) (unhide HB)).mono ?_; rintro e w3 ⟨rfl, ho, hb⟩; have HO3 := hide ho; have HB3 := hide (hb _ (unhide HB)); clear ho hb)
      | (go_at_call 52; refine (unhide c4 _ _ (unhide HO3).il (unhide HB3) (unhide HL)).mono ?_; rintro e w4 ⟨rfl, hb⟩; have HB4 := hide ((unhide HB3).trans (hb.mono (unhide HB3).size)); clear hb))
    go_ret2
    exact ⟨rfl, (unhide HB0).trans ((unhide HB4).mono (unhide HB0).size)⟩
end Go.Proofs.YtmdkaomjjglfjaaDoor
