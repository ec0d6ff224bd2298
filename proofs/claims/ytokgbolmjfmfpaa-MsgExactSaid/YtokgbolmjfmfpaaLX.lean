/- The law MsgExact: it answers true. -/
import Derived.Test.YtokgbolmjfmfpaaLW
import Derived.Test.YtokgbolmjfmfpaaR7
import Derived.Test.YtokgbolmjfmfpaaRA
import Derived.Test.YtokgbolmjfmfpaaA5
import Derived.Test.YtokgbolmjfmfpaaW1
namespace Go.Proofs.Ytokgbolmjfmfpaa
open Go.RowKit

theorem sam_self (m : Mg) (F G : Nat → Int) (n k : Nat) : samB m F n G k m F n G k = true := by
  rw [samB_iff]
  simp
theorem eq_self (F : Nat → Int) (n : Nat) : eqB F n F n = true := by simp [eqB]
/-- What a call of the law comes to. -/
def LQ (w : World) (e : Exit) (a' : Act) (w' : World) : Prop := e = .ret ∧ a'.defers = [] ∧ a'.eval (.tmp 6) = .bool true ∧ Below w.heap.size w w'
set_option maxRecDepth 100000 in
set_option maxHeartbeats 4000000 in
theorem exact_law (a b : Mg) (Fa Ga Fb Gb L : Nat → Int) (va ua vb ub l : Value) (na ka nb kb nl : Nat) (w : World) (hpa : Sl .i64 w va na Fa) (hta : Sl .i64 w ua ka Ga) (hpb : Sl .i64 w vb nb Fb) (htb : Sl .i64 w ub kb Gb) (hl : Sl .i64 w l nl L) :
    Calls Try.prog 3 #[mv a va ua, mv b vb ub, l] w fun e w' => e = .returned (.bool true) ∧ Below w.heap.size w w' := by
  obtain ⟨pa, ca, rfl, _, _⟩ := hpa.shape
  obtain ⟨ta, ea, rfl, _, _⟩ := hta.shape
  obtain ⟨pb, cb, rfl, _, _⟩ := hpb.shape
  obtain ⟨tb, eb, rfl, _, _⟩ := htb.shape
  obtain ⟨pl, cl, rfl, _, _⟩ := hl.shape
  unfold mv
  go_enter Try.func3, Try.ntmps3
  refine wp_mono (Q := LQ w) ?_ ?_
  rotate_left
  · rintro e a' w' ⟨rfl, hd, hv, hb⟩
    refine bodyPost_ret (results_tmp rfl _ _ _) hd ⟨?_, hb⟩
    exact congrArg Ending.returned hv
  refine wp_seq_k fun K0 hK0 => ?_
  refine law0 _ _ _ _ _ _ _ _ _ _ _ _ _ _ _ _ _ _ _ _ _ _ _ _ _ _ _ _ _ _ _ _ _ _ _ _ pl nl cl rfl rfl rfl rfl rfl ?_
  intro a0 f0
  refine hK0 _ _ ?_
  have hga : ((w.alloc (.cells #[.int .i64 a.kd, .int .i64 a.fr, .int .i64 a.fi, .int .i64 a.tw, .int .i64 a.ti, .int .i64 a.tp, .int .i64 a.ep, .int .i64 a.sq, .int .i64 a.la, .int .i64 a.va, .int .i64 a.no, .int .i64 a.ic, .int .i64 a.ct, .int .i64 a.hp, .slice pa na ca, .slice ta ka ea] 24)).alloc (.cells #[.int .i64 b.kd, .int .i64 b.fr, .int .i64 b.fi, .int .i64 b.tw, .int .i64 b.ti, .int .i64 b.tp, .int .i64 b.ep, .int .i64 b.sq, .int .i64 b.la, .int .i64 b.va, .int .i64 b.no, .int .i64 b.ic, .int .i64 b.ct, .int .i64 b.hp, .slice pb nb cb, .slice tb kb eb] 24)).heap[w.heap.size]? = some (.cells #[.int .i64 a.kd, .int .i64 a.fr, .int .i64 a.fi, .int .i64 a.tw, .int .i64 a.ti, .int .i64 a.tp, .int .i64 a.ep, .int .i64 a.sq, .int .i64 a.la, .int .i64 a.va, .int .i64 a.no, .int .i64 a.ic, .int .i64 a.ct, .int .i64 a.hp, .slice pa na ca, .slice ta ka ea] 24) := heap_alloc2_old _ _ _
  have hgb : ((w.alloc (.cells #[.int .i64 a.kd, .int .i64 a.fr, .int .i64 a.fi, .int .i64 a.tw, .int .i64 a.ti, .int .i64 a.tp, .int .i64 a.ep, .int .i64 a.sq, .int .i64 a.la, .int .i64 a.va, .int .i64 a.no, .int .i64 a.ic, .int .i64 a.ct, .int .i64 a.hp, .slice pa na ca, .slice ta ka ea] 24)).alloc (.cells #[.int .i64 b.kd, .int .i64 b.fr, .int .i64 b.fi, .int .i64 b.tw, .int .i64 b.ti, .int .i64 b.tp, .int .i64 b.ep, .int .i64 b.sq, .int .i64 b.la, .int .i64 b.va, .int .i64 b.no, .int .i64 b.ic, .int .i64 b.ct, .int .i64 b.hp, .slice pb nb cb, .slice tb kb eb] 24)).heap[(w.alloc (.cells #[.int .i64 a.kd, .int .i64 a.fr, .int .i64 a.fi, .int .i64 a.tw, .int .i64 a.ti, .int .i64 a.tp, .int .i64 a.ep, .int .i64 a.sq, .int .i64 a.la, .int .i64 a.va, .int .i64 a.no, .int .i64 a.ic, .int .i64 a.ct, .int .i64 a.hp, .slice pa na ca, .slice ta ka ea] 24)).heap.size]? = some (.cells #[.int .i64 b.kd, .int .i64 b.fr, .int .i64 b.fi, .int .i64 b.tw, .int .i64 b.ti, .int .i64 b.tp, .int .i64 b.ep, .int .i64 b.sq, .int .i64 b.la, .int .i64 b.va, .int .i64 b.no, .int .i64 b.ic, .int .i64 b.ct, .int .i64 b.hp, .slice pb nb cb, .slice tb kb eb] 24) := heap_alloc_new _ _
  have B0 : Below w.heap.size w ((w.alloc (.cells #[.int .i64 a.kd, .int .i64 a.fr, .int .i64 a.fi, .int .i64 a.tw, .int .i64 a.ti, .int .i64 a.tp, .int .i64 a.ep, .int .i64 a.sq, .int .i64 a.la, .int .i64 a.va, .int .i64 a.no, .int .i64 a.ic, .int .i64 a.ct, .int .i64 a.hp, .slice pa na ca, .slice ta ka ea] 24)).alloc (.cells #[.int .i64 b.kd, .int .i64 b.fr, .int .i64 b.fi, .int .i64 b.tw, .int .i64 b.ti, .int .i64 b.tp, .int .i64 b.ep, .int .i64 b.sq, .int .i64 b.la, .int .i64 b.va, .int .i64 b.no, .int .i64 b.ic, .int .i64 b.ct, .int .i64 b.hp, .slice pb nb cb, .slice tb kb eb] 24)) := ((Below.refl _ _).alloc (Nat.le_refl _) _).alloc (by simp) _
  clear hK0
  generalize (w.alloc (.cells #[.int .i64 a.kd, .int .i64 a.fr, .int .i64 a.fi, .int .i64 a.tw, .int .i64 a.ti, .int .i64 a.tp, .int .i64 a.ep, .int .i64 a.sq, .int .i64 a.la, .int .i64 a.va, .int .i64 a.no, .int .i64 a.ic, .int .i64 a.ct, .int .i64 a.hp, .slice pa na ca, .slice ta ka ea] 24)).alloc (.cells #[.int .i64 b.kd, .int .i64 b.fr, .int .i64 b.fi, .int .i64 b.tw, .int .i64 b.ti, .int .i64 b.tp, .int .i64 b.ep, .int .i64 b.sq, .int .i64 b.la, .int .i64 b.va, .int .i64 b.no, .int .i64 b.ic, .int .i64 b.ct, .int .i64 b.hp, .slice pb nb cb, .slice tb kb eb] 24) = W at *
  generalize (w.alloc (.cells #[.int .i64 a.kd, .int .i64 a.fr, .int .i64 a.fi, .int .i64 a.tw, .int .i64 a.ti, .int .i64 a.tp, .int .i64 a.ep, .int .i64 a.sq, .int .i64 a.la, .int .i64 a.va, .int .i64 a.no, .int .i64 a.ic, .int .i64 a.ct, .int .i64 a.hp, .slice pa na ca, .slice ta ka ea] 24)).heap.size = gb at *
  have La : w.heap.size < W.heap.size := (Array.getElem?_eq_some_iff.1 hga).1
  have Lb : gb < W.heap.size := (Array.getElem?_eq_some_iff.1 hgb).1
  refine wp_seq_k fun K1 hK1 => ?_
  refine wp_seq_k fun K2 hK2 => ?_
  refine law1 _ _ _ _ w.heap.size gb #[.int .i64 a.kd, .int .i64 a.fr, .int .i64 a.fi, .int .i64 a.tw, .int .i64 a.ti, .int .i64 a.tp, .int .i64 a.ep, .int .i64 a.sq, .int .i64 a.la, .int .i64 a.va, .int .i64 a.no, .int .i64 a.ic, .int .i64 a.ct, .int .i64 a.hp, .slice pa na ca, .slice ta ka ea] #[.int .i64 b.kd, .int .i64 b.fr, .int .i64 b.fi, .int .i64 b.tw, .int .i64 b.ti, .int .i64 b.tp, .int .i64 b.ep, .int .i64 b.sq, .int .i64 b.la, .int .i64 b.va, .int .i64 b.no, .int .i64 b.ic, .int .i64 b.ct, .int .i64 b.hp, .slice pb nb cb, .slice tb kb eb] pl nl cl _ _ f0 hga hgb rfl rfl (fun w => heavy_any a pa ta na ka ca ea w) (fun w => heavy_any b pb tb nb kb cb eb w) ?_
  intro a1 w1 f1 e20 b1
  refine hK2 _ _ ?_
  have B1 := below_of B0 b1
  cases hh : (decide (30 < na) || decide (30 < ka) || (decide (30 < nb) || decide (30 < kb)) || decide (50 < (nl : Int))) with
  | true =>
    refine wp_cond_true (e20.trans (by rw [hh])) ?_
    refine wp_seq_k fun K3 hK3 => ?_
    refine law2 _ _ _ _ f1.sz ?_
    intro a2 d2 v2
    refine hK3 _ _ ?_
    refine wp_ret ?_
    exact ⟨rfl, d2.trans f1.df, v2, B1⟩
  | false =>
    refine wp_cond_false (e20.trans (by rw [hh])) ?_
    refine wp_skip ?_
    refine hK1 _ _ ?_
    have hb : na ≤ 30 ∧ ka ≤ 30 ∧ nb ≤ 30 ∧ kb ≤ 30 ∧ nl ≤ 50 := by
      simp at hh
      omega
    clear hh e20
    have hga1 := (b1.block _ La).trans hga
    have hgb1 := (b1.block _ Lb).trans hgb
    refine wp_seq_k fun K3 hK3 => ?_
    refine law3 _ _ _ _ w.heap.size gb a Fa Ga L pa na ca ta ka ea pl nl cl f1 hga1 (hpa.below B1 (Nat.le_refl _)) (hta.below B1 (Nat.le_refl _)) (hl.below B1 (Nat.le_refl _)) (by omega) (by omega) (by omega) ?_
    intro a3 w3 gi q c r d s e f3 hgi hq hr hs b3
    refine hK3 _ _ ?_
    have B3 := below_of B1 b3
    have hga3 := (b3.block _ (Nat.lt_of_lt_of_le La b1.size)).trans hga1
    have hgb3 := (b3.block _ (Nat.lt_of_lt_of_le Lb b1.size)).trans hgb1
    have Li : gi < w3.heap.size := (Array.getElem?_eq_some_iff.1 hgi).1
    refine wp_seq_k fun K4 hK4 => ?_
    refine law4 _ _ _ _ w.heap.size gb gi pl nl cl s nl e f3 ?_
    intro a4 f4 e9
    refine hK4 _ _ ?_
    refine wp_seq_k fun K5 hK5 => ?_
    refine wp_seq_k fun K6 hK6 => ?_
    refine law5 _ _ _ _ #[.int .i64 a.kd, .int .i64 a.fr, .int .i64 a.fi, .int .i64 a.tw, .int .i64 a.ti, .int .i64 a.tp, .int .i64 a.ep, .int .i64 a.sq, .int .i64 a.la, .int .i64 a.va, .int .i64 a.no, .int .i64 a.ic, .int .i64 a.ct, .int .i64 a.hp, .slice pa na ca, .slice ta ka ea] 5 _ w.heap.size gb gi pl nl cl s nl e f4 e9 hga3 rfl (ref_any a Fa Ga (.slice pa na ca) (.slice ta ka ea) na ka w3 (hpa.below B3 (Nat.le_refl _)) (hta.below B3 (Nat.le_refl _)) (by omega) (by omega)) ?_
    intro a5 w5 f5 e95 e26 b5
    refine hK6 _ _ ?_
    have B5 := below_of B3 b5
    have hga5 := (b5.block _ (Array.getElem?_eq_some_iff.1 hga3).1).trans hga3
    have hgb5 := (b5.block _ (Array.getElem?_eq_some_iff.1 hgb3).1).trans hgb3
    have hgi5 := (b5.block _ Li).trans hgi
    have hq5 := hq.below b5 (Nat.le_refl _)
    have hr5 := hr.below b5 (Nat.le_refl _)
    have hs5 := hs.below b5 (Nat.le_refl _)
    have hpa5 := hpa.below B5 (Nat.le_refl _)
    have hta5 := hta.below B5 (Nat.le_refl _)
    have hpb5 := hpb.below B5 (Nat.le_refl _)
    have htb5 := htb.below B5 (Nat.le_refl _)
    have hl5 := hl.below B5 (Nat.le_refl _)
    have last : ∀ (a6 : Act), Fm a6 w.heap.size gb gi pl nl cl s nl e → a6.eval (.tmp 9) = .int .i64 (if chkB a Fa na Ga ka then 0 else 5) → K5 a6 w5 := by
      intro a6 f6 e96
      refine hK5 _ _ ?_
      refine wp_seq_k fun K7 hK7 => ?_
      refine law7 _ _ _ _ w.heap.size gb gi #[.int .i64 a.kd, .int .i64 a.fr, .int .i64 a.fi, .int .i64 a.tw, .int .i64 a.ti, .int .i64 a.tp, .int .i64 a.ep, .int .i64 a.sq, .int .i64 a.la, .int .i64 a.va, .int .i64 a.no, .int .i64 a.ic, .int .i64 a.ct, .int .i64 a.hp, .slice pa na ca, .slice ta ka ea] #[.int .i64 b.kd, .int .i64 b.fr, .int .i64 b.fi, .int .i64 b.tw, .int .i64 b.ti, .int .i64 b.tp, .int .i64 b.ep, .int .i64 b.sq, .int .i64 b.la, .int .i64 b.va, .int .i64 b.no, .int .i64 b.ic, .int .i64 b.ct, .int .i64 b.hp, .slice pb nb cb, .slice tb kb eb] #[.int .i64 a.kd, .int .i64 a.fr, .int .i64 a.fi, .int .i64 a.tw, .int .i64 a.ti, .int .i64 a.tp, .int .i64 a.ep, .int .i64 a.sq, .int .i64 a.la, .int .i64 a.va, .int .i64 a.no, .int .i64 a.ic, .int .i64 a.ct, .int .i64 a.hp, .slice q na c, .slice r ka d] _ pl nl cl s nl e (samB a Fa na Ga ka b Fb nb Gb kb) (unB L nl) f6.fl.sz f6.fl.e2 f6.fl.e3 f6.fl.e4 f6.e7 f6.e8 e96 hga5 hgb5 hgi5 rfl rfl rfl
        (fun w1 b1 => check_any a Fa Ga (.slice q na c) (.slice r ka d) na ka w1 (hq5.below b1 (Nat.le_refl _)) (hr5.below b1 (Nat.le_refl _)) (by omega) (by omega))
        (fun w1 b1 => same_any a b Fa Ga Fb Gb (.slice q na c) (.slice r ka d) (.slice pb nb cb) (.slice tb kb eb) na ka nb kb w1 (hq5.below b1 (Nat.le_refl _)) (hr5.below b1 (Nat.le_refl _)) (hpb5.below b1 (Nat.le_refl _)) (htb5.below b1 (Nat.le_refl _)) (by omega) (by omega) (by omega) (by omega))
        (fun w1 b1 => keepMsg_any a b Fa Ga Fb Gb (.slice pa na ca) (.slice ta ka ea) (.slice pb nb cb) (.slice tb kb eb) na ka nb kb w1 (hpa5.below b1 (Nat.le_refl _)) (hta5.below b1 (Nat.le_refl _)) (hpb5.below b1 (Nat.le_refl _)) (htb5.below b1 (Nat.le_refl _)))
        (fun w1 b1 => sam_self a Fa Ga na ka ▸ same_any a a Fa Ga Fa Ga (.slice q na c) (.slice r ka d) (.slice pa na ca) (.slice ta ka ea) na ka na ka w1 (hq5.below b1 (Nat.le_refl _)) (hr5.below b1 (Nat.le_refl _)) (hpa5.below b1 (Nat.le_refl _)) (hta5.below b1 (Nat.le_refl _)) (by omega) (by omega) (by omega) (by omega))
        (fun w1 b1 => unlike_any L (.slice s nl e) nl w1 (hs5.below b1 (Nat.le_refl _)) (by omega))
        (fun w1 b1 => runlike_b L (.slice pl nl cl) nl w1 (hl5.below b1 (Nat.le_refl _)))
        (fun w1 b1 => sam_self a Fa Ga na ka ▸ keepMsg_any a a Fa Ga Fa Ga (.slice q na c) (.slice r ka d) (.slice pa na ca) (.slice ta ka ea) na ka na ka w1 (hq5.below b1 (Nat.le_refl _)) (hr5.below b1 (Nat.le_refl _)) (hpa5.below b1 (Nat.le_refl _)) (hta5.below b1 (Nat.le_refl _)))
        (fun w1 b1 => eq_self L nl ▸ ints_b L L (.slice s nl e) (.slice pl nl cl) nl nl w1 (hs5.below b1 (Nat.le_refl _)) (hl5.below b1 (Nat.le_refl _)))
        (fun w1 _ => wakes_any w1) ?_
      intro a7 w7 _ d7 v7 b7
      refine hK7 _ _ ?_
      refine wp_ret ?_
      exact ⟨rfl, d7.trans f6.fl.df, v7, below_of B5 b7⟩
    cases hc : chkB a Fa na Ga ka with
    | true =>
      rw [hc] at last
      refine wp_cond_true (e26.trans (by rw [hc])) ?_
      refine law6 _ _ _ _ w.heap.size gb gi pl nl cl s nl e f5 ?_
      intro a6 f6 e96
      exact last a6 f6 e96
    | false =>
      rw [hc] at last
      refine wp_cond_false (e26.trans (by rw [hc])) ?_
      refine wp_skip ?_
      exact last a5 f5 e95
end Go.Proofs.Ytokgbolmjfmfpaa
