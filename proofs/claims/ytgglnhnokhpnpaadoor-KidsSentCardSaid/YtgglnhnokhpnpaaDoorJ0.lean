/- Slices that hold a list of kids. -/
import Derived.Test.YtgglnhnokhpnpaaDoorK0
import Derived.Test.YtgglnhnokhpnpaaDoorK1
import Derived.Laws.AppendOwnNone
namespace Go.Proofs.YtgglnhnokhpnpaaDoor
open Go.RowKit

/-- The numbers of a kid: its node, its incarnation, its age. -/
abbrev Kd : Type := Int × Int × Int
/-- The kid at a place of a list. -/
def kz (L : List Kd) (i : Nat) : Kd := L.getD i (0, 0, 0)
theorem kz_mem {L : List Kd} {i : Nat} (h : i < L.length) : kz L i ∈ L := by simp [kz, List.getD, List.getElem?_eq_getElem h]
theorem kz_get {L : List Kd} {i : Nat} (h : i < L.length) : L[i]? = some (kz L i) := by simp [kz, List.getD, List.getElem?_eq_getElem h]
theorem kz_of_mem {L : List Kd} {x : Kd} (h : x ∈ L) : ∃ i, i < L.length ∧ kz L i = x := by
  obtain ⟨i, h1, h2⟩ := List.getElem_of_mem h
  exact ⟨i, h1, by simp [kz, List.getD, List.getElem?_eq_getElem h1, h2]⟩
theorem take_kz {L : List Kd} {k : Nat} (h : k < L.length) : L.take (k + 1) = L.take k ++ [kz L k] := by
  rw [List.take_add_one, kz_get h]
  rfl
/-- The cells of a list of kids. -/
def fl : List Kd → List Value
  | [] => []
  | k :: L => .int .i64 k.1 :: .int .i64 k.2.1 :: .int .i64 k.2.2 :: fl L
theorem fl_append (L M : List Kd) : fl (L ++ M) = fl L ++ fl M := by
  induction L with
  | nil => rfl
  | cons x L ih => simp [fl, ih]
theorem fl_length (L : List Kd) : (fl L).length = L.length * 3 := by
  induction L with
  | nil => rfl
  | cons x L ih => simp [fl, ih]; omega
theorem fl_one (L : List Kd) : ∀ u ∈ fl L, u.oneCell' = true := by
  induction L with
  | nil => intro u hu; cases hu
  | cons x L ih =>
    intro u hu
    simp only [fl, List.mem_cons] at hu
    rcases hu with rfl | rfl | rfl | hu
    · rfl
    · rfl
    · rfl
    · exact ih u hu
theorem fl_get (L : List Kd) : ∀ i, i < L.length → (fl L)[i * 3]? = some (.int .i64 (kz L i).1) ∧ (fl L)[i * 3 + 1]? = some (.int .i64 (kz L i).2.1) ∧ (fl L)[i * 3 + 2]? = some (.int .i64 (kz L i).2.2) := by
  induction L with
  | nil => intro i hi; exact absurd hi (Nat.not_lt_zero _)
  | cons x L ih =>
    intro i hi
    cases i with
    | zero => exact ⟨rfl, rfl, rfl⟩
    | succ i =>
      have h := ih i (by simpa using hi)
      have e : (i + 1) * 3 = i * 3 + 3 := by omega
      rw [e]
      exact h
theorem fl_take (L : List Kd) (k : Nat) : fl (L.take k) = (fl L).take (k * 3) := by
  induction L generalizing k with
  | nil => simp [fl]
  | cons x L ih =>
    cases k with
    | zero => simp [fl]
    | succ k =>
      have e : (k + 1) * 3 = k * 3 + 3 := by omega
      rw [e, List.take_succ_cons]
      simp [fl, ih]
theorem fl_drop (L : List Kd) (k : Nat) : fl (L.drop k) = (fl L).drop (k * 3) := by
  induction L generalizing k with
  | nil => simp [fl]
  | cons x L ih =>
    cases k with
    | zero => simp [fl]
    | succ k =>
      have e : (k + 1) * 3 = k * 3 + 3 := by omega
      rw [e, List.drop_succ_cons]
      simp [fl, ih]

/-- A slice that holds a list of kids. -/
def KL (w : World) (v : Value) (L : List Kd) : Prop :=
  (L = [] ∧ (v = .slice none 0 0 ∨ ∃ x cap, v = .slice (some x) 0 cap ∧ cap ≤ maxLen)) ∨
  ∃ b off cap, v = .slice (some ⟨b, off, none⟩) L.length cap ∧ L.length ≤ cap ∧ cap ≤ maxLen ∧ b < w.heap.size ∧ ∀ j u, (fl L)[j]? = some u → w.cell? ⟨b, off + j, none⟩ = some u
theorem KL.nil (w : World) : KL w (.slice none 0 0) [] := .inl ⟨rfl, .inl rfl⟩
theorem KL.below {w w' : World} {v : Value} {L : List Kd} {B : Nat} (h : KL w v L) (hb : Below B w w') (hB : w.heap.size ≤ B) : KL w' v L := by
  rcases h with h | ⟨b, off, cap, h1, h2, h3, h4, h5⟩
  · exact .inl h
  · exact .inr ⟨b, off, cap, h1, h2, h3, Nat.lt_of_lt_of_le h4 hb.size, fun j u hu => (hb.cell (p := ⟨b, off + j, none⟩) (by show b < B; omega)).trans (h5 j u hu)⟩
theorem kl_form {w : World} {v : Value} {L : List Kd} (h : KL w v L) : ∃ q c, v = .slice q L.length c := by
  rcases h with ⟨rfl, rfl | ⟨a, cap, rfl, hc⟩⟩ | ⟨b, off, cap, rfl, _⟩
  · exact ⟨_, _, rfl⟩
  · exact ⟨_, _, rfl⟩
  · exact ⟨_, _, rfl⟩
theorem kl_cap {w : World} {q : Option Addr} {n c : Nat} {L : List Kd} (h : KL w (.slice q n c) L) : n = L.length ∧ n ≤ c ∧ c ≤ 9223372036854775807 := by
  rcases h with ⟨rfl, h | ⟨a, cap, h, hc⟩⟩ | ⟨b, off, cap, h, h1, h2, _⟩
  · cases h; exact ⟨rfl, by omega, by omega⟩
  · cases h; unfold maxLen at hc; exact ⟨rfl, by omega, by omega⟩
  · cases h; unfold maxLen at h2; exact ⟨rfl, h1, by omega⟩
theorem kl_cell {w : World} {q : Option Addr} {n c : Nat} {L : List Kd} (h : KL w (.slice q n c) L) {k : Nat} (hk : k < n) (hn : n ≤ L.length) :
    ∃ b off, q = some ⟨b, off, none⟩ ∧ n ≤ c ∧ c ≤ 9223372036854775807 ∧ b < w.heap.size ∧ w.cell? ⟨b, off + k * 3, none⟩ = some (.int .i64 (kz L k).1) ∧ w.cell? ⟨b, off + k * 3 + 1, none⟩ = some (.int .i64 (kz L k).2.1) ∧ w.cell? ⟨b, off + k * 3 + 2, none⟩ = some (.int .i64 (kz L k).2.2) := by
  rcases h with ⟨rfl, _⟩ | ⟨b, off, cap, hv, h1, h2, h3, h4⟩
  · simp at hn; omega
  · injection hv with e1 e2 e3
    subst e1
    subst e3
    unfold maxLen at h2
    obtain ⟨f1, f2, f3⟩ := fl_get L k (by omega)
    refine ⟨b, off, rfl, by omega, by omega, h3, h4 _ _ f1, ?_, ?_⟩
    · rw [Nat.add_assoc]; exact h4 _ _ f2
    · rw [Nat.add_assoc]; exact h4 _ _ f3
theorem kl_src {w : World} {v : Value} {L : List Kd} (h : KL w v L) : ∃ q c, v = .slice q L.length c ∧ (q = none → L.length = 0 ∧ c = 0) ∧ ∀ ad, q = some ad → ∀ i u, (fl L)[i]? = some u → w.cell? (ad.add i) = some u := by
  rcases h with ⟨rfl, rfl | ⟨a, cap, rfl, hc⟩⟩ | ⟨b, off, cap, rfl, h1, h2, h3, h4⟩
  · exact ⟨none, 0, rfl, fun _ => ⟨rfl, rfl⟩, fun ad e => by cases e⟩
  · exact ⟨some a, cap, rfl, fun e => by (cases e), fun ad e i u hu => by simp [fl] at hu⟩
  · refine ⟨_, cap, rfl, fun e => by (cases e), fun ad e i u hu => ?_⟩
    cases e
    rw [Addr.add_lit]
    exact h4 i u hu
theorem info45 : (Tryd.prog.info? 45).map (fun i => (i.zero, i.size, i.bytes)) = some (some (.agg #[.int .i64 0, .int .i64 0, .int .i64 0]), 3, 24) := by kernel_rfl
/-- A slice of the call's own that holds a list of kids. -/
def KO (w : World) (B : Nat) (v : Value) (L : List Kd) : Prop := w.ownsRow B 45 3 v L.length (fl L)
theorem KO.nil (w : World) (B : Nat) : KO w B (.slice none 0 0) [] := World.ownsRow_nil _ _ _ _
theorem KO.kl {w : World} {B : Nat} {v : Value} {L : List Kd} (h : KO w B v L) : KL w v L := by
  rcases id h.2 with ⟨rfl, h0⟩ | ⟨g, cap, cur, rfl, hB, hg, hc, hm, _, _⟩
  · exact .inl ⟨List.length_eq_zero_iff.1 h0, .inl rfl⟩
  · refine .inr ⟨g, 0, cap, rfl, hc, hm, (Array.getElem?_eq_some_iff.1 hg).1, fun j u hu => ?_⟩
    have hj : j < (fl L).length := (List.getElem?_eq_some_iff.1 hu).1
    rw [fl_length] at hj
    have hx : w.ownsRow B 45 3 (.slice (some ⟨g, 0, none⟩) L.length cap) L.length (fl L) := h
    rw [Nat.zero_add, hx.cellAt j hj]
    exact hu
theorem KO.mono {w : World} {A B : Nat} {v : Value} {L : List Kd} (h : KO w B v L) (hA : A ≤ B) : KO w A v L := by
  refine ⟨h.1, ?_⟩
  rcases h.2 with q | ⟨g, cap, cur, e, hb, r⟩
  · exact .inl q
  · exact .inr ⟨g, cap, cur, e, by omega, r⟩
theorem KO.below {w w' : World} {B C : Nat} {v : Value} {L : List Kd} (h : KO w B v L) (hb : Below C w w') (hC : w.heap.size ≤ C) : KO w' B v L := by
  refine ⟨h.1, ?_⟩
  rcases h.2 with q | ⟨g, cap, cur, e, hB, hg, r⟩
  · exact .inl q
  · have hlt : g < w.heap.size := (Array.getElem?_eq_some_iff.1 hg).1
    exact .inr ⟨g, cap, cur, e, hB, (hb.block g (by omega)).trans hg, r⟩
/-- A slice literal of one kid. -/
theorem kl_lit (w : World) (x : Kd) : KL (w.alloc (.cells #[.int .i64 x.1, .int .i64 x.2.1, .int .i64 x.2.2] 45)) (.slice (some ⟨w.heap.size, 0, none⟩) 1 1) [x] := by
  refine .inr ⟨w.heap.size, 0, 1, rfl, by simp, by unfold maxLen; omega, by simp, fun j u hu => ?_⟩
  rw [Nat.zero_add]
  simp only [fl] at hu
  simp [go_sem, hu]
theorem kl_lit' (w : World) (y1 y2 y3 : Int) (g : Nat) (hg : g = w.heap.size) : KL (w.alloc (.cells #[.int .i64 y1, .int .i64 y2, .int .i64 y3] 45)) (.slice (some ⟨g, 0, none⟩) 1 1) [(y1, y2, y3)] := by
  subst hg
  exact kl_lit w (y1, y2, y3)
/-- An append to a row of kids of the call's own. -/
theorem run_addK {w : World} (ty : TypeId) (base : Nat) (v : Value) (L : List Kd) (hown : KO w base v L) (u : Value) (M : List Kd) (hu : KL w u M) (hn : L.length ≤ 1000000) (hm : M.length ≤ 1000000) (hbase : base ≤ w.heap.size) :
    ∃ v' w', (Builtin.append_ #[22, 22] ty #[v, u]).run Tryd.prog w = .ok v' w' ∧ KO w' base v' (L ++ M) ∧ Below base w w' ∧ w.grownBy w' v.ownBlock := by
  obtain ⟨j, hj, hz0, hz1, hz2⟩ := info_parts info45
  obtain ⟨q, c, rfl, hq, hc⟩ := kl_src hu
  cases q with
  | none =>
    obtain ⟨h0, rfl⟩ := hq rfl
    rw [h0]
    obtain rfl : M = [] := List.length_eq_zero_iff.1 h0
    exact ⟨v, w, run_append_owned_none w base 22 ty 45 j 3 Tryd.underlying22 hj v L.length _ hown, by simpa using hown, Below.refl _ _, World.grownBy.refl _ _⟩
  | some ad =>
    obtain ⟨v', w', hrun, r1, r2, _⟩ := run_append_own (P := Tryd.prog) w base 22 ty 45 j (.agg #[.int .i64 0, .int .i64 0, .int .i64 0]) 3 24 Tryd.underlying22 hj hz0 hz1 hz2 rfl (by decide) v L.length _ hown ad M.length c (fl M) (fl_length M) (hc ad rfl) (fl_one M) (by unfold maxLen; omega) (by omega) hbase
    refine ⟨v', w', hrun, ?_, (Below.refl _ _).grown r2 hbase (fun k hk => (hown.lt k hk).1), r2⟩
    unfold KO
    rw [fl_append, List.length_append]
    exact r1
theorem wpList_addK {w : World} {ops : Array Oper} {rest : List Oper} {o : Oper} {a : Act} {Q : Exit → Act → World → Prop} (hw : Region.wanted o (yielded ops a.tmps) = true) (s x : Operand)
    (hop : o.op = .call { callee := .builtin .append, args := #[s, x], argTypes := #[22, 22] }) (base : Nat)
    (v u : Value) (L M : List Kd) (hs : a.eval s = v) (hown : KO w base v L) (hx : a.eval x = u) (hu : KL w u M) (hn : L.length ≤ 1000000) (hm : M.length ≤ 1000000) (hbase : base ≤ w.heap.size)
    (h : ∀ v' w', KO w' base v' (L ++ M) → Below base w w' → wpList Tryd.prog ops Q rest (a.put o.dst v') w') : wpList Tryd.prog ops Q (o :: rest) a w := by
  refine wpList_step fun K' hK => ?_
  rw [if_pos hw]
  obtain ⟨v', w', hrun, r1, r2, _⟩ := run_addK o.type base v L hown u M hu hn hm hbase
  unfold Oper.wp
  simp [execOp, hop, resolve, invoke, builtin, hs, hx, hrun, Result.andThen]
  exact hK _ _ (h v' w' r1 r2)
theorem below_drewN {B : Nat} {a w : World} (h : Below B a w) (n : Nat) : Below B a (w.drewN n) := ⟨h.os, h.tape, h.output, h.size, h.block⟩
theorem below_alloc {w w' : World} (h : Below w.heap.size w w') (o : Obj) : Below w.heap.size w (w'.alloc o) := h.alloc h.size o
theorem below_of {w w0 w' : World} (h0 : Below w.heap.size w w0) (h : Below w0.heap.size w0 w') : Below w.heap.size w w' := h0.trans (h.mono h0.size)
theorem below_up {B : Nat} {a w w' : World} (h : Below B a w) (h' : Below B w w') : Below B a w' := h.trans h'
end Go.Proofs.YtgglnhnokhpnpaaDoor
