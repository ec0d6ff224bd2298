/- Slices that hold a list of items. -/
import Derived.Test.YtofaoagmchokmaaRows
import Derived.WalkKit
import Derived.WalkSpells
import Derived.StillTactics
import Derived.Laws.Pointers
import Derived.RowKit3
import Derived.Deep.QuietTactic
import Derived.BigQuiet
import Derived.Deep.OwnRows
import Derived.Laws.Rows
import Derived.Laws.Tables
import Derived.Laws.AppendOwn
import Derived.Laws.AppendOwnNone
import Derived.Laws.OwnMore
import Derived.OwnWalk
import Derived.Deep.DeepCutAuto
import Derived.Deep.RegionHeld3
import Derived.Deep.Cut
import Derived.Lib.SliceRun
namespace Go.Proofs.Ytofaoagmchokmaa
open Go.RowKit

/-- A proposition that no walk looks into. -/
def Hid (p : Prop) : Prop := p
theorem hide {p : Prop} (h : p) : Hid p := h
theorem unhide {p : Prop} (h : Hid p) : p := h
theorem below_drewN {B : Nat} {a w : World} (h : Below B a w) (n : Nat) : Below B a (w.drewN n) := ⟨h.os, h.tape, h.output, h.size, h.block⟩
theorem below_alloc {w w' : World} (h : Below w.heap.size w w') (o : Obj) : Below w.heap.size w (w'.alloc o) := h.alloc h.size o
theorem below_of {w w0 w' : World} (h0 : Below w.heap.size w w0) (h : Below w0.heap.size w0 w') : Below w.heap.size w w' := h0.trans (h.mono h0.size)
theorem below_up {B : Nat} {a w w' : World} (h : Below B a w) (h' : Below B w w') : Below B a w' := h.trans h'

/-- An item: its number, its value. -/
abbrev It : Type := Int × Int
/-- The item at a place of a list. -/
def kz (L : List It) (i : Nat) : It := L.getD i (0, 0)
theorem kz_mem {L : List It} {i : Nat} (h : i < L.length) : kz L i ∈ L := by simp [kz, List.getD, List.getElem?_eq_getElem h]
theorem kz_get {L : List It} {i : Nat} (h : i < L.length) : L[i]? = some (kz L i) := by simp [kz, List.getD, List.getElem?_eq_getElem h]
theorem kz_of_mem {L : List It} {x : It} (h : x ∈ L) : ∃ i, i < L.length ∧ kz L i = x := by
  obtain ⟨i, h1, h2⟩ := List.getElem_of_mem h
  exact ⟨i, h1, by simp [kz, List.getD, List.getElem?_eq_getElem h1, h2]⟩
theorem take_kz {L : List It} {k : Nat} (h : k < L.length) : L.take (k + 1) = L.take k ++ [kz L k] := by
  rw [List.take_add_one, kz_get h]
  rfl
theorem kz_drop (L : List It) (i j : Nat) : kz (L.drop i) j = kz L (i + j) := by simp [kz, List.getD, List.getElem?_drop]
theorem kz_take {L : List It} {i j : Nat} (h : j < i) : kz (L.take i) j = kz L j := by simp [kz, List.getD, h]
theorem kz_left {L M : List It} {i : Nat} (h : i < L.length) : kz (L ++ M) i = kz L i := by simp [kz, List.getD, List.getElem?_append_left h]
theorem kz_right {L M : List It} {i : Nat} (h : L.length ≤ i) : kz (L ++ M) i = kz M (i - L.length) := by simp [kz, List.getD, List.getElem?_append_right h]
theorem kz_ext {L M : List It} (hl : L.length = M.length) (h : ∀ i, i < L.length → kz L i = kz M i) : L = M := by
  apply List.ext_getElem? 
  intro i
  by_cases hi : i < L.length
  · rw [kz_get hi, kz_get (by omega), h i hi]
  · rw [List.getElem?_eq_none (by omega), List.getElem?_eq_none (by omega)]
/-- The cells of a list of items. -/
def fl : List It → List Value
  | [] => []
  | k :: L => .int .i64 k.1 :: .int .i64 k.2 :: fl L
theorem fl_append (L M : List It) : fl (L ++ M) = fl L ++ fl M := by
  induction L with
  | nil => rfl
  | cons x L ih => simp [fl, ih]
theorem fl_length (L : List It) : (fl L).length = L.length * 2 := by
  induction L with
  | nil => rfl
  | cons x L ih => simp [fl, ih]; omega
theorem fl_one (L : List It) : ∀ u ∈ fl L, u.oneCell' = true := by
  induction L with
  | nil => intro u hu; cases hu
  | cons x L ih =>
    intro u hu
    simp only [fl, List.mem_cons] at hu
    rcases hu with rfl | rfl | hu
    · rfl
    · rfl
    · exact ih u hu
theorem fl_get (L : List It) : ∀ i, i < L.length → (fl L)[i * 2]? = some (.int .i64 (kz L i).1) ∧ (fl L)[i * 2 + 1]? = some (.int .i64 (kz L i).2) := by
  induction L with
  | nil => intro i hi; exact absurd hi (Nat.not_lt_zero _)
  | cons x L ih =>
    intro i hi
    cases i with
    | zero => exact ⟨rfl, rfl⟩
    | succ i =>
      have h := ih i (by simpa using hi)
      have e : (i + 1) * 2 = i * 2 + 2 := by omega
      rw [e]
      exact h
theorem fl_take (L : List It) (k : Nat) : fl (L.take k) = (fl L).take (k * 2) := by
  induction L generalizing k with
  | nil => simp [fl]
  | cons x L ih =>
    cases k with
    | zero => simp [fl]
    | succ k =>
      have e : (k + 1) * 2 = k * 2 + 2 := by omega
      rw [e, List.take_succ_cons]
      simp [fl, ih]
theorem fl_drop (L : List It) (k : Nat) : fl (L.drop k) = (fl L).drop (k * 2) := by
  induction L generalizing k with
  | nil => simp [fl]
  | cons x L ih =>
    cases k with
    | zero => simp [fl]
    | succ k =>
      have e : (k + 1) * 2 = k * 2 + 2 := by omega
      rw [e, List.drop_succ_cons]
      simp [fl, ih]

/-- A slice that holds a list of items. -/
def KL (w : World) (v : Value) (L : List It) : Prop :=
  (L = [] ∧ (v = .slice none 0 0 ∨ ∃ x cap, v = .slice (some x) 0 cap ∧ cap ≤ maxLen)) ∨
  ∃ b off cap, v = .slice (some ⟨b, off, none⟩) L.length cap ∧ L.length ≤ cap ∧ cap ≤ maxLen ∧ b < w.heap.size ∧ ∀ j u, (fl L)[j]? = some u → w.cell? ⟨b, off + j, none⟩ = some u
theorem KL.nil (w : World) : KL w (.slice none 0 0) [] := .inl ⟨rfl, .inl rfl⟩
theorem KL.below {w w' : World} {v : Value} {L : List It} {B : Nat} (h : KL w v L) (hb : Below B w w') (hB : w.heap.size ≤ B) : KL w' v L := by
  rcases h with h | ⟨b, off, cap, h1, h2, h3, h4, h5⟩
  · exact .inl h
  · exact .inr ⟨b, off, cap, h1, h2, h3, Nat.lt_of_lt_of_le h4 hb.size, fun j u hu => (hb.cell (p := ⟨b, off + j, none⟩) (by show b < B; omega)).trans (h5 j u hu)⟩
theorem kl_form {w : World} {v : Value} {L : List It} (h : KL w v L) : ∃ q c, v = .slice q L.length c := by
  rcases h with ⟨rfl, rfl | ⟨a, cap, rfl, hc⟩⟩ | ⟨b, off, cap, rfl, _⟩
  · exact ⟨_, _, rfl⟩
  · exact ⟨_, _, rfl⟩
  · exact ⟨_, _, rfl⟩
theorem kl_cap {w : World} {q : Option Addr} {n c : Nat} {L : List It} (h : KL w (.slice q n c) L) : n = L.length ∧ n ≤ c ∧ c ≤ 9223372036854775807 := by
  rcases h with ⟨rfl, h | ⟨a, cap, h, hc⟩⟩ | ⟨b, off, cap, h, h1, h2, _⟩
  · cases h; exact ⟨rfl, by omega, by omega⟩
  · cases h; unfold maxLen at hc; exact ⟨rfl, by omega, by omega⟩
  · cases h; unfold maxLen at h2; exact ⟨rfl, h1, by omega⟩
theorem kl_cell {w : World} {q : Option Addr} {n c : Nat} {L : List It} (h : KL w (.slice q n c) L) {k : Nat} (hk : k < n) :
    ∃ b off, q = some ⟨b, off, none⟩ ∧ n ≤ c ∧ c ≤ 9223372036854775807 ∧ b < w.heap.size ∧ w.cell? ⟨b, off + k * 2, none⟩ = some (.int .i64 (kz L k).1) ∧ w.cell? ⟨b, off + k * 2 + 1, none⟩ = some (.int .i64 (kz L k).2) := by
  have hn : n = L.length := (kl_cap h).1
  rcases h with ⟨rfl, _⟩ | ⟨b, off, cap, hv, h1, h2, h3, h4⟩
  · simp at hn; omega
  · injection hv with e1 e2 e3
    subst e1
    subst e3
    unfold maxLen at h2
    obtain ⟨f1, f2⟩ := fl_get L k (by omega)
    refine ⟨b, off, rfl, by omega, by omega, h3, h4 _ _ f1, ?_⟩
    rw [Nat.add_assoc]; exact h4 _ _ f2
theorem kl_src {w : World} {v : Value} {L : List It} (h : KL w v L) : ∃ q c, v = .slice q L.length c ∧ (q = none → L.length = 0 ∧ c = 0) ∧ ∀ ad, q = some ad → ∀ i u, (fl L)[i]? = some u → w.cell? (ad.add i) = some u := by
  rcases h with ⟨rfl, rfl | ⟨a, cap, rfl, hc⟩⟩ | ⟨b, off, cap, rfl, h1, h2, h3, h4⟩
  · exact ⟨none, 0, rfl, fun _ => ⟨rfl, rfl⟩, fun ad e => by cases e⟩
  · exact ⟨some a, cap, rfl, fun e => by (cases e), fun ad e i u hu => by simp [fl] at hu⟩
  · refine ⟨_, cap, rfl, fun e => by (cases e), fun ad e i u hu => ?_⟩
    cases e
    rw [Addr.add_lit]
    exact h4 i u hu
theorem info41 : (Try.prog.info? 41).map (fun i => (i.zero, i.size, i.bytes)) = some (some (.agg #[.int .i64 0, .int .i64 0]), 2, 16) := by kernel_rfl
/-- A slice of the call's own that holds a list of items. -/
def KO (w : World) (B : Nat) (v : Value) (L : List It) : Prop := w.ownsRow B 41 2 v L.length (fl L)
theorem KO.nil (w : World) (B : Nat) : KO w B (.slice none 0 0) [] := World.ownsRow_nil _ _ _ _
theorem KO.kl {w : World} {B : Nat} {v : Value} {L : List It} (h : KO w B v L) : KL w v L := by
  rcases id h.2 with ⟨rfl, h0⟩ | ⟨g, cap, cur, rfl, hB, hg, hc, hm, _, _⟩
  · exact .inl ⟨List.length_eq_zero_iff.1 h0, .inl rfl⟩
  · refine .inr ⟨g, 0, cap, rfl, hc, hm, (Array.getElem?_eq_some_iff.1 hg).1, fun j u hu => ?_⟩
    have hj : j < (fl L).length := (List.getElem?_eq_some_iff.1 hu).1
    rw [fl_length] at hj
    have hx : w.ownsRow B 41 2 (.slice (some ⟨g, 0, none⟩) L.length cap) L.length (fl L) := h
    rw [Nat.zero_add, hx.cellAt j hj]
    exact hu
theorem KO.mono {w : World} {A B : Nat} {v : Value} {L : List It} (h : KO w B v L) (hA : A ≤ B) : KO w A v L := by
  refine ⟨h.1, ?_⟩
  rcases h.2 with q | ⟨g, cap, cur, e, hb, r⟩
  · exact .inl q
  · exact .inr ⟨g, cap, cur, e, by omega, r⟩
theorem KO.below {w w' : World} {B C : Nat} {v : Value} {L : List It} (h : KO w B v L) (hb : Below C w w') (hC : w.heap.size ≤ C) : KO w' B v L := by
  refine ⟨h.1, ?_⟩
  rcases h.2 with q | ⟨g, cap, cur, e, hB, hg, r⟩
  · exact .inl q
  · have hlt : g < w.heap.size := (Array.getElem?_eq_some_iff.1 hg).1
    exact .inr ⟨g, cap, cur, e, hB, (hb.block g (by omega)).trans hg, r⟩
/-- A slice literal of one item. -/
theorem kl_lit (w : World) (y1 y2 : Int) (g : Nat) (hg : g = w.heap.size) : KL (w.alloc (.cells #[.int .i64 y1, .int .i64 y2] 41)) (.slice (some ⟨g, 0, none⟩) 1 1) [(y1, y2)] := by
  subst hg
  refine .inr ⟨w.heap.size, 0, 1, rfl, by simp, by unfold maxLen; omega, by simp, fun j u hu => ?_⟩
  rw [Nat.zero_add]
  simp only [fl] at hu
  simp [go_sem, hu]
/-- An append to a row of items of the call's own. -/
theorem run_addK {w : World} (ty : TypeId) (base : Nat) (v : Value) (L : List It) (hown : KO w base v L) (u : Value) (M : List It) (hu : KL w u M) (hn : L.length ≤ 1000000) (hm : M.length ≤ 1000000) (hbase : base ≤ w.heap.size) :
    ∃ v' w', (Builtin.append_ #[22, 22] ty #[v, u]).run Try.prog w = .ok v' w' ∧ KO w' base v' (L ++ M) ∧ Below base w w' ∧ w.grownBy w' v.ownBlock := by
  obtain ⟨j, hj, hz0, hz1, hz2⟩ := info_parts info41
  obtain ⟨q, c, rfl, hq, hc⟩ := kl_src hu
  cases q with
  | none =>
    obtain ⟨h0, rfl⟩ := hq rfl
    rw [h0]
    obtain rfl : M = [] := List.length_eq_zero_iff.1 h0
    exact ⟨v, w, run_append_owned_none w base 22 ty 41 j 2 Try.underlying22 hj v L.length _ hown, by simpa using hown, Below.refl _ _, World.grownBy.refl _ _⟩
  | some ad =>
    obtain ⟨v', w', hrun, r1, r2, _⟩ := run_append_own (P := Try.prog) w base 22 ty 41 j (.agg #[.int .i64 0, .int .i64 0]) 2 16 Try.underlying22 hj hz0 hz1 hz2 rfl (by decide) v L.length _ hown ad M.length c (fl M) (fl_length M) (hc ad rfl) (fl_one M) (by unfold maxLen; omega) (by omega) hbase
    refine ⟨v', w', hrun, ?_, (Below.refl _ _).grown r2 hbase (fun k hk => (hown.lt k hk).1), r2⟩
    unfold KO
    rw [fl_append, List.length_append]
    exact r1
theorem wpList_addK {w : World} {ops : Array Oper} {rest : List Oper} {o : Oper} {a : Act} {Q : Exit → Act → World → Prop} (hw : Region.wanted o (yielded ops a.tmps) = true) (s x : Operand)
    (hop : o.op = .call { callee := .builtin .append, args := #[s, x], argTypes := #[22, 22] }) (base : Nat)
    (v u : Value) (L M : List It) (hs : a.eval s = v) (hown : KO w base v L) (hx : a.eval x = u) (hu : KL w u M) (hn : L.length ≤ 1000000) (hm : M.length ≤ 1000000) (hbase : base ≤ w.heap.size)
    (h : ∀ v' w', KO w' base v' (L ++ M) → Below base w w' → wpList Try.prog ops Q rest (a.put o.dst v') w') : wpList Try.prog ops Q (o :: rest) a w := by
  refine wpList_step fun K' hK => ?_
  rw [if_pos hw]
  obtain ⟨v', w', hrun, r1, r2, _⟩ := run_addK o.type base v L hown u M hu hn hm hbase
  unfold Oper.wp
  simp [execOp, hop, resolve, invoke, builtin, hs, hx, hrun, Result.andThen]
  exact hK _ _ (h v' w' r1 r2)
/-- What is left of a slice from a place on. -/
theorem kl_at (q : Option Addr) (n c : Nat) (x : Int) (h0 : 0 ≤ x) (h1 : x ≤ (n : Int)) : ∃ a2 c2, (∀ w, (Instr.slice 22 (.slice q n c) (some (.int .i64 x)) none none).run Try.prog w = .ok (.slice a2 (n - x.toNat) c2) w) ∧
    ∀ (w : World) (L : List It), KL w (.slice q n c) L → KL w (.slice a2 (n - x.toNat) c2) (L.drop x.toNat) := by
  obtain ⟨i, hi, hz0, hz1, hz2⟩ := info_parts info41
  have hu : Try.prog.underlying 22 = some (.slice 41) := Try.underlying22
  have z3 : ∀ w, (Go.sizeOf 41).run Try.prog w = .ok 2 w := fun w => by simp [Go.sizeOf, typeInfo, hi, hz1]
  have hrun : ∀ w, (Instr.slice 22 (.slice q n c) (some (.int .i64 x)) none none).run Try.prog w = .ok (.slice (if c = x.toNat then q else q.map (·.add (x.toNat * 2))) (n - x.toNat) (c - x.toNat)) w := by
    intro w
    rw [run_slice_l (P := Try.prog) (w := w) 22 _ _ _ (by rw [hu]; rfl) .i64 x h0 h1]
    simp only [show Try.prog.elem 22 = 41 from rfl, z3, Result.andThen, sliced]
  refine ⟨_, _, hrun, fun w L h => ?_⟩
  obtain ⟨hn, hc, hc2⟩ := kl_cap h
  have hl : (L.drop x.toNat).length = n - x.toNat := by rw [List.length_drop, hn]
  have hd : n - x.toNat = 0 → L.drop x.toNat = [] := fun e => List.length_eq_zero_iff.1 (by rw [hl, e])
  by_cases e : n - x.toNat = 0
  · rw [hd e, e]
    rcases h with ⟨rfl, h | ⟨a, cap, h, hm⟩⟩ | ⟨b, off, cap, h, h1, h2, h3, h4⟩
    · cases h
      exact .inl ⟨rfl, .inl (by simp)⟩
    · cases h
      refine .inl ⟨rfl, .inr ?_⟩
      by_cases g : c = x.toNat
      · rw [if_pos g]; exact ⟨_, _, rfl, by omega⟩
      · rw [if_neg g]; exact ⟨_, _, rfl, by omega⟩
    · cases h
      refine .inl ⟨rfl, .inr ?_⟩
      by_cases g : c = x.toNat
      · rw [if_pos g]; exact ⟨_, _, rfl, by omega⟩
      · rw [if_neg g]; exact ⟨_, _, rfl, by omega⟩
  · rw [if_neg (by omega)]
    rcases h with ⟨rfl, _⟩ | ⟨b, off, cap, hv, h1, h2, h3, h4⟩
    · simp at hn; omega
    · injection hv with hv1 _ hv2
      subst hv1
      subst hv2
      refine .inr ⟨b, off + x.toNat * 2, c - x.toNat, by rw [hl]; rcases Nat.eq_zero_or_pos x.toNat with q | q <;> simp [Addr.add] <;> omega, by omega, by omega, h3, fun j u hu => ?_⟩
      rw [fl_drop, List.getElem?_drop] at hu
      have := h4 _ _ hu
      rwa [Nat.add_assoc]
theorem kl_take {w : World} {q : Option Addr} {n p c : Nat} {L : List It} (h : KL w (.slice q n c) L) (hp : p ≤ n) : KL w (.slice q p c) (L.take p) := by
  obtain ⟨hn, hnc, hc⟩ := kl_cap h
  by_cases h0 : p = 0
  · subst h0
    rcases h with ⟨rfl, h | ⟨a, cap, h, _⟩⟩ | ⟨b, off, cap, h, h1, h2, h3, h4⟩
    · cases h
      exact .inl ⟨by simp, .inl rfl⟩
    · cases h
      exact .inl ⟨by simp, .inr ⟨_, _, rfl, by unfold maxLen; omega⟩⟩
    · cases h
      exact .inl ⟨by simp, .inr ⟨_, _, rfl, by unfold maxLen; omega⟩⟩
  · rcases h with ⟨rfl, h⟩ | ⟨b, off, cap, h, h1, h2, h3, h4⟩
    · simp at hn; omega
    · injection h with q1 q2 q3
      subst q1
      subst q3
      have hl : (L.take p).length = p := by rw [List.length_take]; omega
      refine .inr ⟨b, off, c, by rw [hl], by omega, h2, h3, fun j u hu => h4 j u ?_⟩
      rw [fl_take, List.getElem?_take] at hu
      split at hu
      · exact hu
      · cases hu
end Go.Proofs.Ytofaoagmchokmaa
