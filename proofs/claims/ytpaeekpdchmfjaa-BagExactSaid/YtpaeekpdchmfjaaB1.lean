/- Walk of BagBack. -/
import Derived.Test.YtpaeekpdchmfjaaF1
import Derived.Test.YtpaeekpdchmfjaaD1
namespace Go.Proofs.Ytpaeekpdchmfjaa
open Go.RowKit

theorem sameX_of {n : Nat} {X Y : Nat → Fm} (e : ∀ i, i < n → (X i).t = (Y i).t ∧ (X i).n = (Y i).n ∧ ∀ j, j < (X i).n → (X i).b j = (Y i).b j) : sameX n n X Y = true := sameX_self n fun i hi => sameF_self _ _ (e i hi).1 (e i hi).2.1 (e i hi).2.2
/-- What the law asks of Corrupt: refused, or bent and bent back. -/
theorem back_twice (v : Value) (n : Nat) (X : Nat → Fm) (k : Nat) (place mask : Int) (w : World) (hv : Fs w v n X) (hk : k < n) (h0 : chk n X = 0) (hok : ∀ i, i < n → (X i).ok) (hc : corE n X k place mask = 0) :
    Calls Try.prog 12 #[v, .int .i64 k, .int .i64 place, .int .i64 mask] w fun e w' => ∃ p c, ∃ Y : Nat → Fm, e = .returned (.tuple #[.slice p n c, .int .i64 0]) ∧ Fs w' (.slice p n c) n Y ∧ Below w.heap.size w w' ∧ sameX n n Y X = false ∧
      ∀ u w2, Fs w2 u n Y → Calls Try.prog 12 #[u, .int .i64 k, .int .i64 place, .int .i64 mask] w2 fun e w3 => ∃ p c, ∃ Z : Nat → Fm, e = .returned (.tuple #[.slice p n c, .int .i64 0]) ∧ Fs w3 (.slice p n c) n Z ∧ Below w2.heap.size w2 w3 ∧ sameX n n Z X = true := by
  obtain ⟨_, a1, a2, a3, a4⟩ := corE_zero.1 hc
  obtain ⟨j, rfl⟩ := Int.eq_ofNat_of_zero_le a1
  have hj : j < (X k).n := by simpa using a4
  have hb := hok k hk j
  obtain ⟨Y, hY⟩ : ∃ Y, Y = upd X k (setB (X k) j (x8 ((X k).b j) mask)) := ⟨_, rfl⟩
  have ht : ∀ i, (Y i).t = (X i).t ∧ (Y i).n = (X i).n := by
    intro i
    rw [hY]
    unfold upd
    split
    · rename_i e; subst e; exact ⟨rfl, rfl⟩
    · exact ⟨rfl, rfl⟩
  have hYk : Y k = setB (X k) j (x8 ((X k).b j) mask) := by rw [hY]; simp [upd]
  have hYj : (Y k).b j = x8 ((X k).b j) mask := by rw [hYk]; simp [setB, upd]
  obtain ⟨z1, z2⟩ := chk_zero h0
  have hcY : chk n Y = 0 := chk_of z1 fun i hi => by rw [(ht i).1, (ht i).2]; exact z2 i hi
  refine (cor_ok v n X k j mask w hv hk h0 hj ⟨a2, a3⟩ hb).mono ?_
  rintro e w' ⟨p, c, rfl, o, b⟩
  rw [← hY] at o
  refine ⟨p, c, Y, rfl, o.fs, b, ?_, fun u w2 hu => ?_⟩
  · have hf : sameF (Y k) (X k) = false := by
      have : sameB (Y k).n (X k).n (Y k).b (X k).b = false := by
        unfold sameB
        rw [eqk_false (k := j) (by rw [(ht k).2]; exact hj) (by rw [hYj]; exact x8_ne _ _ hb.1 a2), Bool.and_false]
      unfold sameF
      rw [this, Bool.and_false]
    unfold sameX
    rw [eqF_false hk hf, Bool.and_false]
  · refine (cor_ok u n Y k j mask w2 hu hk hcY (by rw [(ht k).2]; exact hj) ⟨a2, a3⟩ (by rw [hYj]; exact x8_bd _ _ hb (by omega))).mono ?_
    rintro e w3 ⟨p3, c3, rfl, o3, b3⟩
    refine ⟨p3, c3, _, rfl, o3.fs, b3, sameX_of fun i hi => ?_⟩
    unfold upd
    split
    · rename_i e
      subst e
      refine ⟨(ht i).1, (ht i).2, fun q _ => ?_⟩
      show upd (Y i).b j (x8 ((Y i).b j) mask) q = _
      unfold upd
      split
      · rename_i e2
        subst e2
        rw [hYj, x8_back _ _ hb.1]
      · rename_i e2
        rw [hYk]
        show upd (X i).b j _ q = _
        simp [upd, e2]
    · rename_i e
      have : Y i = X i := by rw [hY]; simp [upd, e]
      rw [this]
      exact ⟨rfl, rfl, fun _ _ => rfl⟩
end Go.Proofs.Ytpaeekpdchmfjaa
