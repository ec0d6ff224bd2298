/- Walk of BagBack: Corrupt refuses. -/
import Derived.Test.YtpaeekpdchmfjaaB3
namespace Go.Proofs.Ytpaeekpdchmfjaa
open Go.RowKit

set_option maxHeartbeats 4000000 in
set_option maxRecDepth 100000 in
theorem back_plain (x : Option Addr) (n cap : Nat) (X : Nat → Fm) (f : Fm) (y : Option Addr) (c : Nat) (k place mask : Int) (w : World) (hX : Fs w (.slice x n cap) n X) (hf : Sl .u8 w (.slice y f.n c) f.n f.b) (ho : ∀ i, (X i).ok) (hof : f.ok) (h1 : Lt n X) (h2 : n ≤ 60) (h3 : f.n ≤ 200) (h4 : putE n X f = 0)
    (K : Nat) (hq : wrap64 ((IntKind.u64.wrap k).tmod ((n : Int) + 1)) = (K : Int)) (hK : K < n + 1) (h5 : corE (n + 1) (snoc X n f) K place mask ≠ 0) :
    Calls Try.prog 4 #[.slice x n cap, .agg #[.int .i64 f.t, .slice y f.n c], .int .i64 k, .int .i64 place, .int .i64 mask] w fun e w' => e = .returned (.bool true) ∧ Below w.heap.size w w' := by
  have bx := below_alloc (Below.refl w.heap.size w) (.cells #[.int .i64 f.t, .slice y f.n c] 25)
  have B := hide bx
  have hx := hX.below bx (Nat.le_refl _)
  have hfx := hf.below bx (Nat.le_refl _)
  have HL := hide hx
  have HF := hide hfx
  have HX := hide (Has.new w (.cells #[.int .i64 f.t, .slice y f.n c] 25))
  have H := hide (heavy_no X _ n _ hx h1)
  have hca := snoc_chk h4
  obtain ⟨A, hA⟩ : ∃ A, A = snoc X n f := ⟨_, rfl⟩
  have hAn : A n = f := by rw [hA]; exact snoc_at X n f
  have hAl : ∀ i, i < n → A i = X i := fun i hi => by rw [hA]; exact snoc_lt X n f i hi
  have hAo : ∀ i, (A i).ok := fun i => by
    rw [hA]
    unfold snoc cat
    split
    · exact ho i
    · exact hof
  obtain ⟨m, hm⟩ : ∃ m, m = n + 1 := ⟨_, rfl⟩
  have P : Hid (Calls Try.prog 9 #[.slice x n cap, .agg #[.int .i64 f.t, .slice y f.n c]] (w.alloc (.cells #[.int .i64 f.t, .slice y f.n c] 25)) fun e w' => ∃ pv cv, e = .returned (.tuple #[.slice pv m cv, .int .i64 0]) ∧ Fs w' (.slice pv m cv) m A ∧ Below (w.alloc (.cells #[.int .i64 f.t, .slice y f.n c] 25)).heap.size (w.alloc (.cells #[.int .i64 f.t, .slice y f.n c] 25)) w') := by
    refine hide ((put_ok _ _ n X f _ hx hfx h4).mono ?_)
    rintro e w' ⟨pv, cv, rfl, o, b⟩
    rw [hm, hA]
    exact ⟨pv, cv, rfl, o.fs, b⟩
  rw [← hA, ← hm] at hca h5
  rw [← hm] at hK
  have hm61 : m ≤ 61 := by omega
  obtain ⟨M, hM⟩ : ∃ M, M = m + 1 := ⟨_, rfl⟩
  have hD := twice_chk A m K hm61 hK hca
  have T1 : Hid (∀ p c w2, Fs w2 (.slice p m c) m A → Calls Try.prog 10 #[.slice p m c, .int .i64 n] w2 fun e w' => ∃ q d p2 c2, e = .returned (.tuple #[.agg #[.int .i64 f.t, .slice q f.n d], .slice p2 n c2, .int .i64 0]) ∧ Sl .u8 w' (.slice q f.n d) f.n f.b ∧ Fs w' (.slice p2 n c2) n X ∧ Below w2.heap.size w2 w') :=
    hide fun p c w2 h => by
      have := take_last X A n m hm hAl hca p c w2 h
      rwa [hAn] at this
  have T2 : Hid (∀ p c w2, Fs w2 (.slice p m c) m A → Calls Try.prog 10 #[.slice p m c, .int .i64 K] w2 fun e w' => ∃ q d p2 c2, e = .returned (.tuple #[.agg #[.int .i64 (A K).t, .slice q (A K).n d], .slice p2 n c2, .int .i64 0]) ∧ Sl .u8 w' (.slice q (A K).n d) (A K).n (A K).b ∧ Below w2.heap.size w2 w') := hide fun p c w2 h => take_mid A n m K hm hK hca p c w2 h
  have TW : Hid (∀ p c w2, Fs w2 (.slice p m c) m A → Calls Try.prog 11 #[.slice p m c, .int .i64 K] w2 fun e w' => ∃ p2 c2, e = .returned (.tuple #[.slice p2 M c2, .int .i64 0]) ∧ Fs w' (.slice p2 M c2) M (snoc A m (A K)) ∧ Below w2.heap.size w2 w') := hide fun p c w2 h => twice_any A m M K hM hm61 hK hca p c w2 h
  have T3 : Hid (∀ p c w2, Fs w2 (.slice p M c) M (snoc A m (A K)) → Calls Try.prog 10 #[.slice p M c, .int .i64 m] w2 fun e w' => ∃ q d p2 c2, e = .returned (.tuple #[.agg #[.int .i64 (A K).t, .slice q (A K).n d], .slice p2 m c2, .int .i64 0]) ∧ Sl .u8 w' (.slice q (A K).n d) (A K).n (A K).b ∧ Fs w' (.slice p2 m c2) m A ∧ Below w2.heap.size w2 w') :=
    hide fun p c w2 h => by
      have := take_last A (snoc A m (A K)) m M hM (fun i hi => snoc_lt A m (A K) i hi) (by rw [hM]; exact hD) p c w2 h
      rwa [snoc_at] at this
  obtain ⟨E, hE⟩ : ∃ E, E = corE m A K place mask := ⟨_, rfl⟩
  rw [← hE] at h5
  have C1 : Hid (∀ p c w2, Fs w2 (.slice p m c) m A → Calls Try.prog 12 #[.slice p m c, .int .i64 K, .int .i64 place, .int .i64 mask] w2 fun e w' => e = .returned (.tuple #[.slice none 0 0, .int .i64 E]) ∧ Below w2.heap.size w2 w') := hide fun p c w2 h => by
    rw [hE] at h5 ⊢
    exact cor_bad _ m A K place mask w2 h h5
  have e5 : (E == 0) = false := by simpa using h5
  clear hE
  have e3 : decide ((f.n : Int) > 200) = false := decide_eq_false (by omega)
  have e2 : ¬ ((n : Int) > 60) := by omega
  have HQ := hide hm
  clear hX hf h4 bx hx hfx h1 hA hAn hAl hAo hD hca ho hof hm hM
  go_enter Try.func4, Try.ntmps4
  go_wp2_with (first
    | (go_at_call 7; (with_reducible refine (unhide H).mono ?_); rintro e w2 ⟨rfl, rfl⟩)
    | (go_at_call 9; (with_reducible refine (unhide P).mono ?_); rintro e w2 ⟨p1, c1, rfl, fa, b⟩; have HA := hide fa; have bb := b; replace HL := hide ((unhide HL).below bb (Nat.le_refl _)); replace HF := hide ((unhide HF).below bb (Nat.le_refl _)); replace HX := hide ((unhide HX).below bb); replace B := hide (below_of (unhide B) bb); clear b bb fa)
    | (go_at_call 10; refine (unhide T1 _ _ _ (unhide HA)).mono ?_; rintro e w3 ⟨q3, d3, p3, c3, rfl, s3, f3, b⟩; have S3 := hide s3; have F3 := hide f3; have bb := b; replace HL := hide ((unhide HL).below bb (Nat.le_refl _)); replace HF := hide ((unhide HF).below bb (Nat.le_refl _)); replace HX := hide ((unhide HX).below bb); replace HA := hide ((unhide HA).below bb (Nat.le_refl _)); replace B := hide (below_of (unhide B) bb); have lt := (unhide HX).1; have c0 := (unhide HX).cell (k := 0) rfl; have c1 := (unhide HX).cell (k := 1) rfl; clear b bb s3 f3 T1)
    | (go_at_call 17; refine (frame_self f _ _ _ ((unhide S3).below (below_alloc (Below.refl _ _) _) (Nat.le_refl _)) ((unhide HF).below (below_alloc (Below.refl _ _) _) (Nat.le_refl _))).mono ?_; rintro e w4 ⟨rfl, b⟩; have bb := below_of (below_alloc (Below.refl _ _) _) b; replace HL := hide ((unhide HL).below bb (Nat.le_refl _)); replace F3 := hide ((unhide F3).below bb (Nat.le_refl _)); replace HA := hide ((unhide HA).below bb (Nat.le_refl _)); replace B := hide (below_of (unhide B) bb); clear b bb S3 HF HX lt c0 c1)
    | (go_at_call 16; refine (frames_self X n _ _ _ (unhide F3) (unhide HL)).mono ?_; rintro e w5 ⟨rfl, b⟩; have bb := b; replace HA := hide ((unhide HA).below bb (Nat.le_refl _)); replace B := hide (below_of (unhide B) bb); clear b bb F3 HL)
    | (go_at_call 12; refine (unhide C1 _ _ _ (unhide HA)).mono ?_; rintro e w6 ⟨rfl, b⟩; have bb := b; replace HA := hide ((unhide HA).below bb (Nat.le_refl _)); replace B := hide (below_of (unhide B) bb); clear b bb C1)
    | (go_at_call 11; refine (unhide TW _ _ _ (unhide HA)).mono ?_; rintro e w10 ⟨p10, c10, rfl, f10, b⟩; have F10 := hide f10; have bb := b; replace HA := hide ((unhide HA).below bb (Nat.le_refl _)); replace B := hide (below_of (unhide B) bb); clear b bb f10 TW)
    | (go_at_call 10; refine (unhide T2 _ _ _ (unhide HA)).mono ?_; rintro e w11 ⟨q11, d11, p11, c11, rfl, s11, b⟩; have S11 := hide s11; have bb := b; replace HA := hide ((unhide HA).below bb (Nat.le_refl _)); replace F10 := hide ((unhide F10).below bb (Nat.le_refl _)); replace B := hide (below_of (unhide B) bb); clear b bb s11 T2)
    | (go_at_call 10; refine (unhide T3 _ _ _ ((unhide F10).below (below_alloc (Below.refl _ _) _) (Nat.le_refl _))).mono ?_; rintro e w12 ⟨q12, d12, p12, c12, rfl, s12, f12, b⟩; have S12 := hide s12; have F12 := hide f12; have H22 := hide (Has.below (Has.new w11 _) b); have bb := below_of (below_alloc (Below.refl _ _) _) b; replace HA := hide ((unhide HA).below bb (Nat.le_refl _)); replace S11 := hide ((unhide S11).below bb (Nat.le_refl _)); replace B := hide (below_of (unhide B) bb); have lt := (unhide H22).1; have c0 := (unhide H22).cell (k := 0) rfl; have c1 := (unhide H22).cell (k := 1) rfl; clear b bb s12 f12 T3 F10)
    | (go_at_call 17; refine (frame_self (A K) _ _ _ ((unhide S11).below (below_alloc (Below.refl _ _) _) (Nat.le_refl _)) ((unhide S12).below (below_alloc (Below.refl _ _) _) (Nat.le_refl _))).mono ?_; rintro e w13 ⟨rfl, b⟩; have bb := below_of (below_alloc (Below.refl _ _) _) b; replace HA := hide ((unhide HA).below bb (Nat.le_refl _)); replace F12 := hide ((unhide F12).below bb (Nat.le_refl _)); replace B := hide (below_of (unhide B) bb); clear b bb S11 S12 lt c0 c1)
    | (go_at_call 16; refine (frames_self A m _ _ _ (unhide F12) (unhide HA)).mono ?_; rintro e w14 ⟨rfl, b⟩; have bb := b; replace B := hide (below_of (unhide B) bb); clear b bb F12)
    | (go_at_call 18; refine (wakes_any _).mono ?_; rintro e w15 ⟨rfl, b⟩; have bb := b; replace B := hide (below_of (unhide B) bb); clear b bb))
  go_ret
  exact ⟨rfl, unhide B⟩
end Go.Proofs.Ytpaeekpdchmfjaa
