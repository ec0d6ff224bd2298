/- What BagExact asks of each call, told at once. -/
import Derived.Test.YtpaeekpdchmfjaaB3
namespace Go.Proofs.Ytpaeekpdchmfjaa
open Go.RowKit

/-- A list that a call answers beside the error E. -/
def LsR (E : Int) (n : Nat) (Y : Nat → Fm) (w : World) (v : Value) : Prop := (E = 0 → (∃ p c, v = .slice p n c) ∧ Fs w v n Y) ∧ (E ≠ 0 → v = .slice none 0 0)
theorem LsR.below {E : Int} {n B : Nat} {Y : Nat → Fm} {w w' : World} {v : Value} (h : LsR E n Y w v) (hb : Below B w w') (hB : w.heap.size ≤ B) : LsR E n Y w' v := ⟨fun e => ⟨(h.1 e).1, (h.1 e).2.below hb hB⟩, h.2⟩
theorem LsR.shape {E : Int} {n : Nat} {Y : Nat → Fm} {w : World} {v : Value} (h : LsR E n Y w v) : ∃ p m c, v = .slice p m c ∧ m ≤ n := by
  by_cases e : E = 0
  · obtain ⟨⟨p, c, rfl⟩, _⟩ := h.1 e
    exact ⟨p, n, c, rfl, Nat.le_refl _⟩
  · exact ⟨none, 0, 0, h.2 e, Nat.zero_le _⟩
/-- Twice's list, in memory of its own. -/
def OwR (E : Int) (n : Nat) (Y : Nat → Fm) (b0 : Nat) (w : World) (v : Value) : Prop := (E = 0 → (∃ p c, v = .slice p n c) ∧ Own w b0 v n Y) ∧ (E ≠ 0 → v = .slice none 0 0)
theorem OwR.below {E : Int} {n b0 : Nat} {Y : Nat → Fm} {w w' : World} {v : Value} (h : OwR E n Y b0 w v) (hb : Below w.heap.size w w') : OwR E n Y b0 w' v := ⟨fun e => ⟨(h.1 e).1, (h.1 e).2.below hb⟩, h.2⟩
theorem OwR.ls {E : Int} {n b0 : Nat} {Y : Nat → Fm} {w : World} {v : Value} (h : OwR E n Y b0 w v) : LsR E n Y w v := ⟨fun e => ⟨(h.1 e).1, (h.1 e).2.fs⟩, h.2⟩
/-- Take's frame. -/
def TkR (E : Int) (f : Fm) (w : World) (t : Int) (nn : Nat) (q : Option Addr) (d : Nat) : Prop := (E = 0 → t = f.t ∧ nn = f.n ∧ Sl .u8 w (.slice q nn d) f.n f.b) ∧ (E ≠ 0 → t = 0 ∧ nn = 0 ∧ q = none ∧ d = 0)
theorem TkR.below {E : Int} {f : Fm} {B : Nat} {w w' : World} {t : Int} {nn : Nat} {q : Option Addr} {d : Nat} (h : TkR E f w t nn q d) (hb : Below B w w') (hB : w.heap.size ≤ B) : TkR E f w' t nn q d := ⟨fun e => ⟨(h.1 e).1, (h.1 e).2.1, (h.1 e).2.2.below hb hB⟩, h.2⟩
theorem put_all (l bv : Value) (n : Nat) (X : Nat → Fm) (f : Fm) (w : World) (hl : Fs w l n X) (hf : Sl .u8 w bv f.n f.b) :
    Calls Try.prog 9 #[l, .agg #[.int .i64 f.t, bv]] w fun e w' => ∃ v, e = .returned (.tuple #[v, .int .i64 (putE n X f)]) ∧ LsR (putE n X f) (n + 1) (snoc X n f) w' v ∧ Below w.heap.size w w' := by
  by_cases h : putE n X f = 0
  · refine (put_ok l bv n X f w hl hf h).mono ?_
    rintro e w' ⟨p, c, rfl, o, b⟩
    exact ⟨_, by rw [h], ⟨fun _ => ⟨⟨p, c, rfl⟩, o.fs⟩, fun q => absurd h q⟩, b⟩
  · refine (put_bad l bv n X f w hl hf h).mono ?_
    rintro e w' ⟨rfl, b⟩
    exact ⟨_, rfl, ⟨fun q => absurd q h, fun _ => rfl⟩, b⟩
theorem take_all (l : Value) (n : Nat) (X : Nat → Fm) (k : Int) (w : World) (hl : Fs w l n X) :
    Calls Try.prog 10 #[l, .int .i64 k] w fun e w' => ∃ t nn q d v, e = .returned (.tuple #[.agg #[.int .i64 t, .slice q nn d], v, .int .i64 (chkAt n X k)]) ∧ TkR (chkAt n X k) (X k.toNat) w' t nn q d ∧ LsR (chkAt n X k) (n - 1) (lack X k.toNat) w' v ∧ Below w.heap.size w w' := by
  by_cases h : chkAt n X k = 0
  · obtain ⟨a, b, c⟩ := chkAt_zero.1 h
    obtain ⟨kk, rfl⟩ := Int.eq_ofNat_of_zero_le b
    refine (take_in l n X kk w hl (by omega) a).mono ?_
    rintro e w' ⟨q, d, p, c, rfl, s, o, b⟩
    exact ⟨_, _, q, d, _, by rw [h]; rfl, ⟨fun _ => ⟨rfl, rfl, s⟩, fun q => absurd h q⟩, ⟨fun _ => ⟨⟨p, c, rfl⟩, o.fs⟩, fun q => absurd h q⟩, b⟩
  · refine (take_out l n X k w hl h).mono ?_
    rintro e w' ⟨rfl, b⟩
    exact ⟨_, _, _, _, _, rfl, ⟨fun q => absurd q h, fun _ => ⟨rfl, rfl, rfl, rfl⟩⟩, ⟨fun q => absurd q h, fun _ => rfl⟩, b⟩
theorem twE_zero {n : Nat} {X : Nat → Fm} {k : Int} : twE n X k = 0 ↔ chkAt n X k = 0 ∧ n ≠ 300 := by
  unfold twE
  by_cases a : chkAt n X k = 0
  · rw [if_neg (by simpa using a)]
    by_cases c : n = 300
    · rw [if_pos c]; exact ⟨fun h => (by omega), fun h => absurd c h.2⟩
    · rw [if_neg c]; exact ⟨fun _ => ⟨a, c⟩, fun _ => rfl⟩
  · rw [if_pos a]
    exact ⟨fun h => absurd h a, fun h => absurd h.1 a⟩
theorem twice_all (l : Value) (n : Nat) (X : Nat → Fm) (k : Int) (w : World) (hl : Fs w l n X) :
    Calls Try.prog 11 #[l, .int .i64 k] w fun e w' => ∃ v, e = .returned (.tuple #[v, .int .i64 (twE n X k)]) ∧ OwR (twE n X k) (n + 1) (snoc X n (X k.toNat)) w.heap.size w' v ∧ Below w.heap.size w w' := by
  by_cases h : chkAt n X k = 0
  · obtain ⟨a, b, c⟩ := chkAt_zero.1 h
    obtain ⟨kk, rfl⟩ := Int.eq_ofNat_of_zero_le b
    refine (twice_in l n X kk w hl (by omega) a).mono ?_
    rintro e w' ⟨v, rfl, b, h1, h2⟩
    refine ⟨v, rfl, ⟨fun q => ?_, fun q => ?_⟩, b⟩
    · obtain ⟨p, c, rfl, o⟩ := h1 (twE_zero.1 q).2
      exact ⟨⟨p, c, rfl⟩, o⟩
    · exact h2 (Classical.byContradiction fun z => q (twE_zero.2 ⟨h, z⟩))
  · refine (twice_out l n X k w hl h).mono ?_
    rintro e w' ⟨rfl, b⟩
    exact ⟨_, rfl, ⟨fun q => absurd (twE_zero.1 q).1 h, fun _ => rfl⟩, b⟩
/-- X, a byte of its frame k bent. -/
def bent (X : Nat → Fm) (k : Nat) (place mask : Int) : Nat → Fm := upd X k (setB (X k) place.toNat (x8 ((X k).b place.toNat) mask))
theorem cor_all (l : Value) (n : Nat) (X : Nat → Fm) (k place mask : Int) (w : World) (hl : Fs w l n X) (ho : ∀ i j, 0 ≤ (X i).b j ∧ (X i).b j < 256) :
    Calls Try.prog 12 #[l, .int .i64 k, .int .i64 place, .int .i64 mask] w fun e w' => ∃ v, e = .returned (.tuple #[v, .int .i64 (corE n X k place mask)]) ∧ LsR (corE n X k place mask) n (bent X k.toNat place mask) w' v ∧ Below w.heap.size w w' := by
  by_cases h : corE n X k place mask = 0
  · obtain ⟨a0, a1, a2, a3, a4⟩ := corE_zero.1 h
    obtain ⟨a, b, c⟩ := chkAt_zero.1 a0
    obtain ⟨kk, rfl⟩ := Int.eq_ofNat_of_zero_le b
    obtain ⟨j, rfl⟩ := Int.eq_ofNat_of_zero_le a1
    refine (cor_ok l n X kk j mask w hl (by omega) a (by simpa using a4) ⟨a2, a3⟩ (ho _ _)).mono ?_
    rintro e w' ⟨p, c, rfl, o, b⟩
    exact ⟨_, by rw [h], ⟨fun _ => ⟨⟨p, c, rfl⟩, o.fs⟩, fun q => absurd h q⟩, b⟩
  · refine (cor_bad l n X k place mask w hl h).mono ?_
    rintro e w' ⟨rfl, b⟩
    exact ⟨_, rfl, ⟨fun q => absurd q h, fun _ => rfl⟩, b⟩
/-- A row of frames of the call's own, with others behind. -/
theorem fs_app {w w' : World} {b0 n m : Nat} {v v' : Value} {X Y : Nat → Fm} {B B' : Nat → Value} (h1 : w.ownsRow b0 25 2 v n (fL (fun i => (X i).t) B n)) (h2 : ∀ i, i < n → w.ownsRow b0 5 1 (B i) (X i).n (vL .u8 (X i).b (X i).n))
    (h3 : ∀ i, i < m → Sl .u8 w' (B' i) (Y i).n (Y i).b) (g : w.grownBy w' v.ownBlock) (o : w'.ownsRow b0 25 2 v' (n + m) (fL (fun i => (X i).t) B n ++ fL (fun i => (Y i).t) B' m)) : Fs w' v' (n + m) (cat X n Y) := by
  rw [fL_append] at o
  refine fs_of_row (b0 := b0) (B := cat B n B') ?_ fun i hi => ?_
  · rwa [fL_congr (T' := cat (fun i => (X i).t) n fun i => (Y i).t) (B' := cat B n B') (fun i hi => ⟨?_, rfl⟩)]
    unfold cat
    split <;> rfl
  · unfold cat
    by_cases e : i < n
    · rw [if_pos e, if_pos e]
      exact sl_of_owns (owns_grown h1 g (h2 i e))
    · rw [if_neg e, if_neg e]
      exact h3 (i - n) (by omega)
/-- The rest of a list of frames behind K, wherever it lies. -/
theorem slice_restF (b off n c K : Nat) (hK : K < n) (_hc : n ≤ c) (_hc2 : c ≤ maxLen) : ∃ a2 c2, (∀ w, (Instr.slice 22 (.slice (some ⟨b, off, none⟩) n c) (some (.int .i64 ((K : Int) + 1))) none none).run Try.prog w = .ok (.slice a2 (n - (K + 1)) c2) w) ∧
    ∀ (w : World) (X : Nat → Fm), Fs w (.slice (some ⟨b, off, none⟩) n c) n X → Fs w (.slice a2 (n - (K + 1)) c2) (n - (K + 1)) (fun i => X (K + 1 + i)) := by
  obtain ⟨i, hi, hz0, hz1, hz2⟩ := info_parts info25
  have hu : Try.prog.underlying 22 = some (.slice 25) := Try.underlying22
  have z3 : ∀ w, (Go.sizeOf 25).run Try.prog w = .ok 2 w := fun w => by simp [Go.sizeOf, typeInfo, hi, hz1]
  have e1 : ((K : Int) + 1).toNat = K + 1 := by omega
  have hrun : ∀ w, (Instr.slice 22 (.slice (some ⟨b, off, none⟩) n c) (some (.int .i64 ((K : Int) + 1))) none none).run Try.prog w = .ok (.slice (if c = K + 1 then some ⟨b, off, none⟩ else (some ⟨b, off, none⟩ : Option Addr).map (·.add ((K + 1) * 2))) (n - (K + 1)) (c - (K + 1))) w := by
    intro w
    rw [run_slice_l (P := Try.prog) (w := w) 22 _ _ _ (by rw [hu]; rfl) .i64 ((K : Int) + 1) (by omega) (by omega)]
    simp only [show Try.prog.elem 22 = 25 from rfl, z3, Result.andThen, sliced, e1]
  refine ⟨_, _, hrun, fun w X h => ?_⟩
  have hr := fs_rest h hK
  by_cases e : c = K + 1
  · rw [if_pos e] at hr ⊢
    exact hr
  · rw [if_neg e] at hr ⊢
    simpa [Addr.add] using hr
end Go.Proofs.Ytpaeekpdchmfjaa
