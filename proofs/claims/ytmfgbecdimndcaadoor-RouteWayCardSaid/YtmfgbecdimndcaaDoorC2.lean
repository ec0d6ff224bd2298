/- Walk of the page's Owner; append of a slice of ints that came in to a nil slice. -/
import Derived.Test.YtmfgbecdimndcaaDoorC1
import Derived.Laws.OwnMore
namespace Go.Proofs.YtmfgbecdimndcaaDoor
open Go.RowKit

/-- The page's best one of the first k. -/
def bst (t : Int) (F : Nat → Int) : Nat → Int
  | 0 => -1
  | k + 1 => own t F k
set_option maxHeartbeats 1000000 in
theorem rowner_is (t : Int) (v : Value) (n : Nat) (F : Nat → Int) (ht : IsT t) (w : World) (h : ISl w v n F) (h0 : 0 < n) (hn : NodesTo F n) :
    Calls Tryd.prog 49 #[.int .i64 t, v] w fun e w' => e = .returned (.int .i64 (own t F (n - 1))) ∧ Below w.heap.size w w' := by
  rcases h with ⟨h1, _⟩ | ⟨b, off, cap, rfl, hle, hcap, hb, hcell⟩
  · omega
  · unfold maxLen at hcap
    have HC := hide hcell
    clear hcell
    go_enter Tryd.func49, Tryd.ntmps49
    go_wp2
    go_loopw [5, 6] (fun o xi w1 => ∃ k : Nat, k ≤ n ∧ xi = .int .i64 k ∧ o = .int .i64 (bst t F k) ∧ Below w.heap.size w w1) (fun _ i _ => n - (intOf i).toNat)
    case atStart => exact ⟨0, by omega, rfl, rfl, Below.refl _ _⟩
    case round =>
      obtain ⟨k, hk, rfl, rfl, hbel⟩ := hrel
      by_cases hlt : k < n
      · have hck : wr.cell? ⟨b, off + k, none⟩ = some (.int .i64 (F k)) := (hbel.cell (p := ⟨b, off + k, none⟩) hb).trans (unhide HC k hlt)
        match k, hlt, hck with
        | 0, hlt, hck =>
          rw [Nat.add_zero] at hck
          have e1 : own t F 0 = F 0 := rfl
          have hbst : bst t F 0 = -1 := rfl
          rw [hbst]
          clear hbst
          have E1 := hide e1
          clear e1
          generalize F 0 = x at *
          go_wp2
          go_roundw
          case rel => exact ⟨1, by omega, rfl, by rw [show bst t F 1 = x from unhide E1], hbel⟩
          case measure => simp [intOf]; omega
        | m + 1, hlt, hck =>
          have hkn := hn (m + 1) hlt
          have hno : IsN (own t F m) := own_node hn (by omega)
          have hneg : ¬ own t F m < 0 := by have := hno.1; omega
          have hneg' : decide (own t F m < 0) = false := decide_eq_false hneg
          have hbst : bst t F (m + 1) = own t F m := rfl
          rw [hbst]
          clear hbst
          have c1 := hide (rgap_is t (F (m + 1)) ht hkn)
          have c2 := hide (rgap_is t (own t F m) ht hno)
          have hs : bst t F (m + 1 + 1) = if gp t (F (m + 1)) < gp t (own t F m) then F (m + 1) else own t F m := rfl
          have HB := hide hbel
          clear hbel hneg
          generalize hX : F (m + 1) = x at *
          generalize own t F m = y at *
          generalize gp t x = p at *
          generalize gp t y = q at *
          have m1 := trivial
          by_cases hpq : p < q
          · rw [if_pos hpq] at hs
            have HS := hide hs
            clear hs
            go_wp2_with (first
              | (clear m1; go_at_call 62; refine (unhide c1 _).mono ?_; rintro e w2 ⟨rfl, hb2⟩; have B1 := hide ((unhide HB).trans (hb2.mono (unhide HB).size)); clear hb2)
              | (go_at_call 62; refine (unhide c2 _).mono ?_; rintro e w3 ⟨rfl, hb2⟩; have B2 := (unhide B1).trans (hb2.mono (unhide B1).size); have hck3 : w3.cell? ⟨b, off + (m + 1), none⟩ = some (.int .i64 x) := (B2.cell (p := ⟨b, off + (m + 1), none⟩) hb).trans ((unhide HC (m + 1) hlt).trans (by rw [hX])); clear hb2))
            go_roundw
            case rel => exact ⟨m + 1 + 1, by omega, by go_num, by rw [unhide HS], B2⟩
            case measure => simp [intOf]; omega
          · rw [if_neg hpq] at hs
            have HS := hide hs
            clear hs
            go_wp2_with (first
              | (clear m1; go_at_call 62; refine (unhide c1 _).mono ?_; rintro e w2 ⟨rfl, hb2⟩; have B1 := hide ((unhide HB).trans (hb2.mono (unhide HB).size)); clear hb2)
              | (go_at_call 62; refine (unhide c2 _).mono ?_; rintro e w3 ⟨rfl, hb2⟩; have B2 := (unhide B1).trans (hb2.mono (unhide B1).size); clear hb2))
            go_roundw
            case rel => exact ⟨m + 1 + 1, by omega, by go_num, by rw [unhide HS], B2⟩
            case measure => simp [intOf]; omega
      · obtain rfl : n = k := by omega
        obtain ⟨m, rfl⟩ : ∃ m, n = m + 1 := ⟨n - 1, by omega⟩
        go_wp2
        go_ret
        exact ⟨rfl, hbel⟩

/-- append of ints that came in to a nil slice. -/
theorem wpList_append_isl {w : World} {ops : Array Oper} {rest : List Oper} {o : Oper} {a : Act} {Q : Exit → Act → World → Prop} (hgd : o.guard = none) (s x : Operand)
    (ho : o.op = .call { callee := .builtin .append, args := #[s, x], argTypes := #[22, 22] })
    (v : Value) (n : Nat) (F : Nat → Int) (hs : a.eval s = .slice none 0 0) (hx : a.eval x = v) (hv : ISl w v n F) (hn : n ≤ 1000)
    (h : ∀ v' w', w'.ownsRow w.heap.size 3 1 v' n (iL F n) → Below w.heap.size w w' → wpList Tryd.prog ops Q rest (a.put o.dst v') w') : wpList Tryd.prog ops Q (o :: rest) a w := by
  obtain ⟨i3, hi3, hz30, hz31, hz32⟩ := info_parts info3
  have key : ∀ (ad : Addr) (c : Nat), v = .slice (some ad) n c → (∀ j u, (iL F n)[j]? = some u → w.cell? (ad.add j) = some u) → wpList Tryd.prog ops Q (o :: rest) a w := by
    intro ad c hv2 hcell
    refine wpList_append_own _ hgd s x 22 ho w.heap.size 3 i3 (.int .i64 0) 1 8 Tryd.underlying22 hi3 hz30 hz31 hz32 rfl (by decide) (.slice none 0 0) 0 [] hs (World.ownsRow_nil _ _ _ _) ad n c (iL F n) (by rw [hx, hv2]) (by rw [iL_length, Nat.mul_one]) hcell (iL_one F n) (by unfold maxLen; omega) (by omega) (Nat.le_refl _) ?_
    intro v' w' ho2 hg _
    rw [Nat.zero_add, List.nil_append] at ho2
    exact h v' w' ho2 ((Below.refl _ _).grown hg (Nat.le_refl _) (fun b hb => by cases hb))
  rcases id hv with ⟨rfl, rfl | ⟨ad, c, rfl, _⟩⟩ | ⟨b, off, c, rfl, _⟩
  · refine wpList_plain hgd fun _ hK => ?_
    have hr := run_append_owned_none (P := Tryd.prog) (w := w) w.heap.size 22 o.type 3 i3 1 Tryd.underlying22 hi3 (.slice none 0 0) 0 [] (World.ownsRow_nil _ _ _ _)
    unfold Oper.wp execOp
    simp only [ho, resolve, invoke, builtin, Sem.run_bind, Sem.run_pure, Result.andThen_ok, List.map_toArray, List.map_cons, List.map_nil, hs, hx, hr]
    exact hK _ _ (h _ _ (World.ownsRow_nil _ _ _ _) (Below.refl _ _))
  · exact key ad c rfl (fun j u hu => by cases hu)
  · exact key _ c rfl (isl_cells hv)
end Go.Proofs.YtmfgbecdimndcaaDoor
