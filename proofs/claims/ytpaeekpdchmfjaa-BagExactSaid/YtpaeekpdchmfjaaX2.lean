/- Walk of BagExact. -/
import Derived.Test.YtpaeekpdchmfjaaX0
import Derived.Test.YtpaeekpdchmfjaaD1
import Derived.Test.YtpaeekpdchmfjaaF1
import Derived.Test.YtpaeekpdchmfjaaW2
namespace Go.Proofs.Ytpaeekpdchmfjaa
open Go.RowKit

theorem OwR.mono {E : Int} {n b0 b1 : Nat} {Y : Nat → Fm} {w : World} {v : Value} (h : OwR E n Y b0 w v) (hb : b1 ≤ b0) : OwR E n Y b1 w v := ⟨fun e => ⟨(h.1 e).1, (h.1 e).2.mono hb⟩, h.2⟩
set_option maxHeartbeats 8000000 in
set_option maxRecDepth 100000 in
theorem exact_main (x : Option Addr) (n cap : Nat) (X : Nat → Fm) (f : Fm) (y : Option Addr) (c : Nat) (k place mask : Int) (w : World) (hX : Fs w (.slice x n cap) n X) (hf : Sl .u8 w (.slice y f.n c) f.n f.b) (ho : ∀ i, (X i).ok) (h1 : Lt n X) (h3 : f.n ≤ 200) :
    Calls Try.prog 3 #[.slice x n cap, .agg #[.int .i64 f.t, .slice y f.n c], .int .i64 k, .int .i64 place, .int .i64 mask] w fun e w' => e = .returned (.bool true) ∧ Below w.heap.size w w' := by
  have bx := below_alloc (Below.refl w.heap.size w) (.cells #[.int .i64 f.t, .slice y f.n c] 25)
  have B := hide bx
  have hx := hX.below bx (Nat.le_refl _)
  have HL := hide hx
  have HF := hide (hf.below bx (Nat.le_refl _))
  have HX := hide (Has.new w (.cells #[.int .i64 f.t, .slice y f.n c] 25))
  have H := hide (heavy_no X _ n _ hx h1)
  have HN := hide (show ∀ i, i < n → (X i).n ≤ 1000000 from fun i hi => by have := h1.2 i hi; omega)
  have HO : Hid (∀ i j, 0 ≤ (X i).b j ∧ (X i).b j < 256) := hide fun i j => ho i j
  have hn : n ≤ 303 := by rcases h1.1 with h | h <;> omega
  obtain ⟨P, hp⟩ : ∃ P, putE n X f = P := ⟨_, rfl⟩
  obtain ⟨Tk, ht⟩ : ∃ P, chkAt n X k = P := ⟨_, rfl⟩
  obtain ⟨Tw, hw⟩ : ∃ P, twE n X k = P := ⟨_, rfl⟩
  obtain ⟨Co, hc⟩ : ∃ P, corE n X k place mask = P := ⟨_, rfl⟩
  obtain ⟨Ck, hk⟩ : ∃ P, chk n X = P := ⟨_, rfl⟩
  have HP := hide hp
  have HT := hide ht
  have HW := hide hw
  have HC := hide hc
  have HK := hide hk
  have e3 : decide ((f.n : Int) > 200) = false := decide_eq_false (by omega)
  have g0 : (Ck != Ck) = false := by simp
  obtain ⟨x', cap', hxs, hx1, hx2⟩ := hX.shape
  unfold maxLen at hx2
  clear hX hf bx hx h1 ho hp ht hw hc hk hxs
  go_enter Try.func3, Try.ntmps3
  go_upto_region 11 with (first
    | (go_at_call 7; (with_reducible refine (unhide H).mono ?_); rintro e w2 ⟨rfl, rfl⟩)
    | (go_at_call 8; refine (twinFrames_any X _ n _ (unhide HL) (by omega) (unhide HN)).mono ?_; rintro e w3 ⟨v3, rfl, o3, b⟩; have HI := hide o3.fs; have bb := b; replace HL := hide ((unhide HL).below bb (Nat.le_refl _)); replace HF := hide ((unhide HF).below bb (Nat.le_refl _)); replace HX := hide ((unhide HX).below bb); replace B := hide (below_of (unhide B) bb); have lt := (unhide HX).1; have c0 := (unhide HX).cell (k := 0) rfl; have c1 := (unhide HX).cell (k := 1) rfl; clear b bb o3)
    | (go_at_call 9; refine (put_all _ _ n X f _ (unhide HI) (unhide HF)).mono ?_; rw [unhide HP]; rintro e w4 ⟨va, rfl, r, b⟩; have RA := hide r; have bb := b; replace HL := hide ((unhide HL).below bb (Nat.le_refl _)); replace HF := hide ((unhide HF).below bb (Nat.le_refl _)); replace HX := hide ((unhide HX).below bb); replace B := hide (below_of (unhide B) bb); replace HI := hide ((unhide HI).below bb (Nat.le_refl _)); clear b bb r lt c0 c1)
    | (go_at_call 10; refine (take_all _ n X k _ (unhide HI)).mono ?_; rw [unhide HT]; rintro e w5 ⟨tx, nx, qx, dx, vb, rfl, rx, r, b⟩; have RX := hide rx; have RB := hide r; have bb := b; replace HL := hide ((unhide HL).below bb (Nat.le_refl _)); replace HF := hide ((unhide HF).below bb (Nat.le_refl _)); replace HX := hide ((unhide HX).below bb); replace B := hide (below_of (unhide B) bb); replace HI := hide ((unhide HI).below bb (Nat.le_refl _)); replace RA := hide ((unhide RA).below bb (Nat.le_refl _)); have X14 := trivial; clear b bb r rx)
    | (go_at_call 11; refine (twice_all _ n X k _ ((unhide HI).below (below_alloc (Below.refl _ _) _) (Nat.le_refl _))).mono ?_; rw [unhide HW]; rintro e w6 ⟨vc, rfl, r, b⟩; have RC : Hid (OwR Tw (n + 1) (snoc X n (X k.toNat)) w5.heap.size w6 vc) := hide (r.mono (by simp)); have H14 := hide (Has.below (Has.new w5 _) b); have G5 := hide (below_of (below_alloc (Below.refl w5.heap.size w5) _) b); have HI5 := HI; have HL5 := HL; have B5 := B; have bb := below_of (below_alloc (Below.refl _ _) _) b; replace HL := hide ((unhide HL).below bb (Nat.le_refl _)); replace HF := hide ((unhide HF).below bb (Nat.le_refl _)); replace HX := hide ((unhide HX).below bb); replace B := hide (below_of (unhide B) bb); replace HI := hide ((unhide HI).below bb (Nat.le_refl _)); replace RA := hide ((unhide RA).below bb (Nat.le_refl _)); replace RX := hide ((unhide RX).below bb (Nat.le_refl _)); replace RB := hide ((unhide RB).below bb (Nat.le_refl _)); clear b bb r)
    | (go_at_call 12; refine (cor_all _ n X k place mask _ (unhide HI) (unhide HO)).mono ?_; rw [unhide HC]; rintro e w7 ⟨vd, rfl, r, b⟩; have RD := hide r; have bb := b; replace HL := hide ((unhide HL).below bb (Nat.le_refl _)); replace HF := hide ((unhide HF).below bb (Nat.le_refl _)); replace HX := hide ((unhide HX).below bb); replace B := hide (below_of (unhide B) bb); replace HI := hide ((unhide HI).below bb (Nat.le_refl _)); replace RA := hide ((unhide RA).below bb (Nat.le_refl _)); replace RX := hide ((unhide RX).below bb (Nat.le_refl _)); replace RB := hide ((unhide RB).below bb (Nat.le_refl _)); replace RC := hide ((unhide RC).below bb); replace H14 := hide ((unhide H14).below bb); replace G5 := hide (below_of (unhide G5) bb); clear b bb r)
    | (go_at_call 13; refine (rbag_any X _ n _ (unhide HL)).mono ?_; rw [unhide HK]; rintro e w8 ⟨rfl, b⟩; have bb := b; replace HL := hide ((unhide HL).below bb (Nat.le_refl _)); replace HF := hide ((unhide HF).below bb (Nat.le_refl _)); replace HX := hide ((unhide HX).below bb); replace B := hide (below_of (unhide B) bb); replace HI := hide ((unhide HI).below bb (Nat.le_refl _)); replace RA := hide ((unhide RA).below bb (Nat.le_refl _)); replace RX := hide ((unhide RX).below bb (Nat.le_refl _)); replace RB := hide ((unhide RB).below bb (Nat.le_refl _)); replace RC := hide ((unhide RC).below bb); replace H14 := hide ((unhide H14).below bb); replace G5 := hide (below_of (unhide G5) bb); replace RD := hide ((unhide RD).below bb (Nat.le_refl _)); clear b bb)
    | (go_at_call 14; refine (check_any X _ n _ (unhide HI)).mono ?_; rw [unhide HK]; rintro e w9 ⟨rfl, b⟩; have bb := b; replace HL := hide ((unhide HL).below bb (Nat.le_refl _)); replace HF := hide ((unhide HF).below bb (Nat.le_refl _)); replace HX := hide ((unhide HX).below bb); replace B := hide (below_of (unhide B) bb); replace HI := hide ((unhide HI).below bb (Nat.le_refl _)); replace RA := hide ((unhide RA).below bb (Nat.le_refl _)); replace RX := hide ((unhide RX).below bb (Nat.le_refl _)); replace RB := hide ((unhide RB).below bb (Nat.le_refl _)); replace RC := hide ((unhide RC).below bb); replace H14 := hide ((unhide H14).below bb); replace G5 := hide (below_of (unhide G5) bb); replace RD := hide ((unhide RD).below bb (Nat.le_refl _)); clear b bb))
  clear H e3
  go_upto_if 76 with fail
  go_cut [22, 23, 24] from 75 to 93 (fun a b c wc => a = .int .i64 P ∧ b = .int .i64 Tk ∧ c = .int .i64 Tw ∧ Below w9.heap.size w9 wc)
  case first => as_aux_lemma =>
    by_cases hz : Ck = 0
    · have c0 := (unhide HX).cell (k := 0) rfl
      have c1 := (unhide HX).cell (k := 1) rfl
      have hn3 : n ≤ 300 := (chk_zero ((unhide HK).trans hz)).1
      have hck := (unhide HK).trans hz
      obtain ⟨r, hr⟩ : ∃ r, okB f.t f.n = r := ⟨_, rfl⟩
      have HR := hide hr
      have EP : Hid (P = if r = false then 1 else if n = 300 then 6 else 0) := hide (by rw [← unhide HP]; unfold putE; rw [if_neg (by simpa using hck), hr])
      have ET : Hid (Tk = if 0 ≤ k ∧ k < n then 0 else 7) := hide (by rw [← unhide HT]; unfold chkAt; rw [if_neg (by simpa using hck)])
      have EW : Hid (Tw = if 0 ≤ k ∧ k < n then (if n = 300 then 6 else 0) else 7) := hide (by
        rw [← unhide HW]
        unfold twE chkAt
        rw [if_neg (show ¬ chk n X ≠ 0 by simpa using hck)]
        by_cases q : 0 ≤ k ∧ k < n
        · rw [if_pos q, if_pos q, if_neg (by simp)]
        · rw [if_neg q, if_neg q, if_pos (by decide)])
      have z1 : (Ck == 0) = true := by simpa using hz
      clear hr hz hck g0
      clear HP HT HW HC HK RA RX RB RC RD HI HL HI5 HL5 HF H14 G5 B HN HO
      by_cases h300 : n = 300
      · have z2 : decide ((n : Int) ≥ 300) = true := decide_eq_true (by omega)
        have E6 := hide h300
        clear h300
        cases r with
        | true =>
          by_cases hk0 : 0 ≤ k
          · by_cases hkn : k < n
            · have z3 : ¬ (k < 0) := by omega
              have z4 : decide (k ≥ (n : Int)) = false := decide_eq_false (by omega)
              have E7 := hide (show 0 ≤ k ∧ k < n from ⟨hk0, hkn⟩)
              clear hk0 hkn
              go_wp2_with (go_at_call 15; refine (rframe_any _ _ _ _ _).mono ?_; rw [unhide HR]; rintro e w10 ⟨rfl, b⟩; have BB := hide b; clear b)
              go_meet
              exact ⟨by rw [unhide EP]; first | (simp; done) | simp [unhide E6], by rw [unhide ET]; first | (rw [if_pos (unhide E7)] <;> rfl) | (rw [if_neg (unhide E7)] <;> rfl), by rw [unhide EW]; first | (rw [if_pos (unhide E7), if_pos (unhide E6)] <;> rfl) | (rw [if_pos (unhide E7), if_neg (unhide E6)] <;> rfl) | (rw [if_neg (unhide E7)] <;> rfl), unhide BB⟩
            · have z3 : ¬ (k < 0) := by omega
              have z4 : decide (k ≥ (n : Int)) = true := decide_eq_true (by omega)
              have E7 := hide (show ¬ (0 ≤ k ∧ k < n) from fun q => hkn q.2)
              clear hk0 hkn
              go_wp2_with (go_at_call 15; refine (rframe_any _ _ _ _ _).mono ?_; rw [unhide HR]; rintro e w10 ⟨rfl, b⟩; have BB := hide b; clear b)
              go_meet
              exact ⟨by rw [unhide EP]; first | (simp; done) | simp [unhide E6], by rw [unhide ET]; first | (rw [if_pos (unhide E7)] <;> rfl) | (rw [if_neg (unhide E7)] <;> rfl), by rw [unhide EW]; first | (rw [if_pos (unhide E7), if_pos (unhide E6)] <;> rfl) | (rw [if_pos (unhide E7), if_neg (unhide E6)] <;> rfl) | (rw [if_neg (unhide E7)] <;> rfl), unhide BB⟩
          · have z3 : k < 0 := by omega
            have E7 := hide (show ¬ (0 ≤ k ∧ k < n) from fun q => hk0 q.1)
            clear hk0
            go_wp2_with (go_at_call 15; refine (rframe_any _ _ _ _ _).mono ?_; rw [unhide HR]; rintro e w10 ⟨rfl, b⟩; have BB := hide b; clear b)
            go_meet
            exact ⟨by rw [unhide EP]; first | (simp; done) | simp [unhide E6], by rw [unhide ET]; first | (rw [if_pos (unhide E7)] <;> rfl) | (rw [if_neg (unhide E7)] <;> rfl), by rw [unhide EW]; first | (rw [if_pos (unhide E7), if_pos (unhide E6)] <;> rfl) | (rw [if_pos (unhide E7), if_neg (unhide E6)] <;> rfl) | (rw [if_neg (unhide E7)] <;> rfl), unhide BB⟩
        | false =>
          by_cases hk0 : 0 ≤ k
          · by_cases hkn : k < n
            · have z3 : ¬ (k < 0) := by omega
              have z4 : decide (k ≥ (n : Int)) = false := decide_eq_false (by omega)
              have E7 := hide (show 0 ≤ k ∧ k < n from ⟨hk0, hkn⟩)
              clear hk0 hkn
              go_wp2_with (go_at_call 15; refine (rframe_any _ _ _ _ _).mono ?_; rw [unhide HR]; rintro e w10 ⟨rfl, b⟩; have BB := hide b; clear b)
              go_meet
              exact ⟨by rw [unhide EP]; first | (simp; done) | simp [unhide E6], by rw [unhide ET]; first | (rw [if_pos (unhide E7)] <;> rfl) | (rw [if_neg (unhide E7)] <;> rfl), by rw [unhide EW]; first | (rw [if_pos (unhide E7), if_pos (unhide E6)] <;> rfl) | (rw [if_pos (unhide E7), if_neg (unhide E6)] <;> rfl) | (rw [if_neg (unhide E7)] <;> rfl), unhide BB⟩
            · have z3 : ¬ (k < 0) := by omega
              have z4 : decide (k ≥ (n : Int)) = true := decide_eq_true (by omega)
              have E7 := hide (show ¬ (0 ≤ k ∧ k < n) from fun q => hkn q.2)
              clear hk0 hkn
              go_wp2_with (go_at_call 15; refine (rframe_any _ _ _ _ _).mono ?_; rw [unhide HR]; rintro e w10 ⟨rfl, b⟩; have BB := hide b; clear b)
              go_meet
              exact ⟨by rw [unhide EP]; first | (simp; done) | simp [unhide E6], by rw [unhide ET]; first | (rw [if_pos (unhide E7)] <;> rfl) | (rw [if_neg (unhide E7)] <;> rfl), by rw [unhide EW]; first | (rw [if_pos (unhide E7), if_pos (unhide E6)] <;> rfl) | (rw [if_pos (unhide E7), if_neg (unhide E6)] <;> rfl) | (rw [if_neg (unhide E7)] <;> rfl), unhide BB⟩
          · have z3 : k < 0 := by omega
            have E7 := hide (show ¬ (0 ≤ k ∧ k < n) from fun q => hk0 q.1)
            clear hk0
            go_wp2_with (go_at_call 15; refine (rframe_any _ _ _ _ _).mono ?_; rw [unhide HR]; rintro e w10 ⟨rfl, b⟩; have BB := hide b; clear b)
            go_meet
            exact ⟨by rw [unhide EP]; first | (simp; done) | simp [unhide E6], by rw [unhide ET]; first | (rw [if_pos (unhide E7)] <;> rfl) | (rw [if_neg (unhide E7)] <;> rfl), by rw [unhide EW]; first | (rw [if_pos (unhide E7), if_pos (unhide E6)] <;> rfl) | (rw [if_pos (unhide E7), if_neg (unhide E6)] <;> rfl) | (rw [if_neg (unhide E7)] <;> rfl), unhide BB⟩
      · have z2 : decide ((n : Int) ≥ 300) = false := decide_eq_false (by omega)
        have E6 := hide h300
        clear h300
        cases r with
        | true =>
          by_cases hk0 : 0 ≤ k
          · by_cases hkn : k < n
            · have z3 : ¬ (k < 0) := by omega
              have z4 : decide (k ≥ (n : Int)) = false := decide_eq_false (by omega)
              have E7 := hide (show 0 ≤ k ∧ k < n from ⟨hk0, hkn⟩)
              clear hk0 hkn
              go_wp2_with (go_at_call 15; refine (rframe_any _ _ _ _ _).mono ?_; rw [unhide HR]; rintro e w10 ⟨rfl, b⟩; have BB := hide b; clear b)
              go_meet
              exact ⟨by rw [unhide EP]; first | (simp; done) | simp [unhide E6], by rw [unhide ET]; first | (rw [if_pos (unhide E7)] <;> rfl) | (rw [if_neg (unhide E7)] <;> rfl), by rw [unhide EW]; first | (rw [if_pos (unhide E7), if_pos (unhide E6)] <;> rfl) | (rw [if_pos (unhide E7), if_neg (unhide E6)] <;> rfl) | (rw [if_neg (unhide E7)] <;> rfl), unhide BB⟩
            · have z3 : ¬ (k < 0) := by omega
              have z4 : decide (k ≥ (n : Int)) = true := decide_eq_true (by omega)
              have E7 := hide (show ¬ (0 ≤ k ∧ k < n) from fun q => hkn q.2)
              clear hk0 hkn
              go_wp2_with (go_at_call 15; refine (rframe_any _ _ _ _ _).mono ?_; rw [unhide HR]; rintro e w10 ⟨rfl, b⟩; have BB := hide b; clear b)
              go_meet
              exact ⟨by rw [unhide EP]; first | (simp; done) | simp [unhide E6], by rw [unhide ET]; first | (rw [if_pos (unhide E7)] <;> rfl) | (rw [if_neg (unhide E7)] <;> rfl), by rw [unhide EW]; first | (rw [if_pos (unhide E7), if_pos (unhide E6)] <;> rfl) | (rw [if_pos (unhide E7), if_neg (unhide E6)] <;> rfl) | (rw [if_neg (unhide E7)] <;> rfl), unhide BB⟩
          · have z3 : k < 0 := by omega
            have E7 := hide (show ¬ (0 ≤ k ∧ k < n) from fun q => hk0 q.1)
            clear hk0
            go_wp2_with (go_at_call 15; refine (rframe_any _ _ _ _ _).mono ?_; rw [unhide HR]; rintro e w10 ⟨rfl, b⟩; have BB := hide b; clear b)
            go_meet
            exact ⟨by rw [unhide EP]; first | (simp; done) | simp [unhide E6], by rw [unhide ET]; first | (rw [if_pos (unhide E7)] <;> rfl) | (rw [if_neg (unhide E7)] <;> rfl), by rw [unhide EW]; first | (rw [if_pos (unhide E7), if_pos (unhide E6)] <;> rfl) | (rw [if_pos (unhide E7), if_neg (unhide E6)] <;> rfl) | (rw [if_neg (unhide E7)] <;> rfl), unhide BB⟩
        | false =>
          by_cases hk0 : 0 ≤ k
          · by_cases hkn : k < n
            · have z3 : ¬ (k < 0) := by omega
              have z4 : decide (k ≥ (n : Int)) = false := decide_eq_false (by omega)
              have E7 := hide (show 0 ≤ k ∧ k < n from ⟨hk0, hkn⟩)
              clear hk0 hkn
              go_wp2_with (go_at_call 15; refine (rframe_any _ _ _ _ _).mono ?_; rw [unhide HR]; rintro e w10 ⟨rfl, b⟩; have BB := hide b; clear b)
              go_meet
              exact ⟨by rw [unhide EP]; first | (simp; done) | simp [unhide E6], by rw [unhide ET]; first | (rw [if_pos (unhide E7)] <;> rfl) | (rw [if_neg (unhide E7)] <;> rfl), by rw [unhide EW]; first | (rw [if_pos (unhide E7), if_pos (unhide E6)] <;> rfl) | (rw [if_pos (unhide E7), if_neg (unhide E6)] <;> rfl) | (rw [if_neg (unhide E7)] <;> rfl), unhide BB⟩
            · have z3 : ¬ (k < 0) := by omega
              have z4 : decide (k ≥ (n : Int)) = true := decide_eq_true (by omega)
              have E7 := hide (show ¬ (0 ≤ k ∧ k < n) from fun q => hkn q.2)
              clear hk0 hkn
              go_wp2_with (go_at_call 15; refine (rframe_any _ _ _ _ _).mono ?_; rw [unhide HR]; rintro e w10 ⟨rfl, b⟩; have BB := hide b; clear b)
              go_meet
              exact ⟨by rw [unhide EP]; first | (simp; done) | simp [unhide E6], by rw [unhide ET]; first | (rw [if_pos (unhide E7)] <;> rfl) | (rw [if_neg (unhide E7)] <;> rfl), by rw [unhide EW]; first | (rw [if_pos (unhide E7), if_pos (unhide E6)] <;> rfl) | (rw [if_pos (unhide E7), if_neg (unhide E6)] <;> rfl) | (rw [if_neg (unhide E7)] <;> rfl), unhide BB⟩
          · have z3 : k < 0 := by omega
            have E7 := hide (show ¬ (0 ≤ k ∧ k < n) from fun q => hk0 q.1)
            clear hk0
            go_wp2_with (go_at_call 15; refine (rframe_any _ _ _ _ _).mono ?_; rw [unhide HR]; rintro e w10 ⟨rfl, b⟩; have BB := hide b; clear b)
            go_meet
            exact ⟨by rw [unhide EP]; first | (simp; done) | simp [unhide E6], by rw [unhide ET]; first | (rw [if_pos (unhide E7)] <;> rfl) | (rw [if_neg (unhide E7)] <;> rfl), by rw [unhide EW]; first | (rw [if_pos (unhide E7), if_pos (unhide E6)] <;> rfl) | (rw [if_pos (unhide E7), if_neg (unhide E6)] <;> rfl) | (rw [if_neg (unhide E7)] <;> rfl), unhide BB⟩
    · have EP : Hid (P = Ck) := hide (by rw [← unhide HP, ← unhide HK]; unfold putE; rw [if_pos (by rw [unhide HK]; exact hz)])
      have ET : Hid (Tk = Ck) := hide (by rw [← unhide HT, ← unhide HK]; unfold chkAt; rw [if_pos (by rw [unhide HK]; exact hz)])
      have EW : Hid (Tw = Ck) := hide (by rw [← unhide HW, ← unhide ET, ← unhide HT]; unfold twE; rw [if_pos (by rw [unhide HT, unhide ET]; exact hz)])
      have z1 : (Ck == 0) = false := by simpa using hz
      clear hz g0
      clear HP HT HW HC HK RA RX RB RC RD HI HL HI5 HL5 HF H14 G5 B HN HO
      go_wp2
      go_meet
      exact ⟨by rw [unhide EP], by rw [unhide ET], by rw [unhide EW], Below.refl _ _⟩
  case rest => as_aux_lemma =>
    obtain ⟨rfl, rfl, rfl, hcut⟩ := hcut
    obtain ⟨w10, hw⟩ : ∃ z, z = wc := ⟨_, rfl⟩
    rw [← hw] at hcut ⊢
    clear hw
    replace HL := hide ((unhide HL).below hcut (Nat.le_refl _))
    replace HF := hide ((unhide HF).below hcut (Nat.le_refl _))
    replace HX := hide ((unhide HX).below hcut)
    replace B := hide (below_of (unhide B) hcut)
    replace HI := hide ((unhide HI).below hcut (Nat.le_refl _))
    replace RA := hide ((unhide RA).below hcut (Nat.le_refl _))
    replace RX := hide ((unhide RX).below hcut (Nat.le_refl _))
    replace RB := hide ((unhide RB).below hcut (Nat.le_refl _))
    replace RC := hide ((unhide RC).below hcut)
    replace H14 := hide ((unhide H14).below hcut)
    replace G5 := hide (below_of (unhide G5) hcut)
    replace RD := hide ((unhide RD).below hcut (Nat.le_refl _))
    clear hcut
    go_upto_if 96 with fail
    go_cut [25] from 95 to 114 (fun a wc => a = .int .i64 Co ∧ wc = w10)
    case first => as_aux_lemma =>
      by_cases hT : Tk = 0
      · obtain ⟨hck, hk0, hkn⟩ := chkAt_zero.1 ((unhide HT).trans hT)
        obtain ⟨K, hkK⟩ := Int.eq_ofNat_of_zero_le hk0
        subst hkK
        obtain ⟨lb, lo, LB, rfl, hlb, hlc⟩ := (unhide HL).some (by omega)
        obtain ⟨q1, q2, q3⟩ := hlc K (by omega)
        obtain ⟨pk, ck, hbk, -, -⟩ := q3.shape
        rw [hbk] at q2
        have EC : Hid (Co = if place < 0 ∨ mask < 1 ∨ 255 < mask then 1 else if ((X K).n : Int) ≤ place then 2 else 0) := hide (by
          rw [← unhide HC]
          unfold corE
          rw [if_neg (by rw [unhide HT]; simpa using hT)]
          rfl)
        have T0 := hide hT
        have z1 : (Tk == 0) = true := by simpa using hT
        have i1 : (0 : Int) ≤ (K : Int) := by omega
        have i2 : (K : Int) < (n : Int) := by omega
        clear hT hck hk0 hkn hlc q1 q3 hbk
        clear HP HT HW HC HK RA RX RB RC RD HI HL HI5 HL5 HF H14 G5 B HN HO
        by_cases h1 : place < 0
        · have E5 := hide (show place < 0 ∨ mask < 1 ∨ 255 < mask from .inl h1)
          go_wp2
          go_meet
          exact ⟨by rw [unhide EC, if_pos (unhide E5)] <;> rfl, rfl⟩
        · by_cases h2 : mask < 1
          · have E5 := hide (show place < 0 ∨ mask < 1 ∨ 255 < mask from .inr (.inl h2))
            go_wp2
            go_meet
            exact ⟨by rw [unhide EC, if_pos (unhide E5)] <;> rfl, rfl⟩
          · by_cases h4 : 255 < mask
            · have E5 := hide (show place < 0 ∨ mask < 1 ∨ 255 < mask from .inr (.inr h4))
              have z5 : decide (mask > 255) = true := decide_eq_true h4
              clear h4
              go_wp2
              go_meet
              exact ⟨by rw [unhide EC, if_pos (unhide E5)] <;> rfl, rfl⟩
            · have E5 := hide (show ¬ (place < 0 ∨ mask < 1 ∨ 255 < mask) by omega)
              have z5 : decide (mask > 255) = false := decide_eq_false (by omega)
              clear h4
              by_cases h5 : ((X K).n : Int) ≤ place
              · have E6 := hide h5
                have z6 : decide (place ≥ ((X K).n : Int)) = true := decide_eq_true h5
                clear h5
                go_wp2
                go_meet
                exact ⟨by rw [unhide EC, if_neg (unhide E5), if_pos (unhide E6)] <;> rfl, rfl⟩
              · have E6 := hide h5
                have z6 : decide (place ≥ ((X K).n : Int)) = false := decide_eq_false (by omega)
                clear h5
                go_wp2
                go_meet
                exact ⟨by rw [unhide EC, if_neg (unhide E5), if_neg (Int.not_le.2 (unhide E6)), unhide T0], rfl⟩
      · have EC : Hid (Co = Tk) := hide (by
          rw [← unhide HC]
          unfold corE
          rw [if_pos (by rw [unhide HT]; exact hT), unhide HT])
        have z1 : (Tk == 0) = false := by simpa using hT
        clear hT
        clear HP HT HW HC HK RA RX RB RC RD HI HL HI5 HL5 HF H14 G5 B HN HO
        go_wp2
        go_meet
        exact ⟨by rw [unhide EC], rfl⟩
    case rest => as_aux_lemma =>
      obtain ⟨rfl, hw⟩ := hcut
      obtain rfl := hw.symm
      have gP : (P != P) = false := by simp
      have gT : (Tk != Tk) = false := by simp
      have gW : (Tw != Tw) = false := by simp
      have gC : (Co != Co) = false := by simp
      go_upto_region 30 with fail
      go_cut [153] from 133 to 152 (fun xb wc => xb = .bool false ∧ Below w10.heap.size w10 wc)
      case first => as_aux_lemma =>
        by_cases hP : P = 0
        · obtain ⟨⟨pa, ca, rfl⟩, fa⟩ := (unhide RA).1 hP
          have FA := hide fa
          have c0 := (unhide HX).cell (k := 0) rfl
          have c1 := (unhide HX).cell (k := 1) rfl
          have hlt := (unhide HX).1
          have b10 := hide (below_drewN (Below.refl w10.heap.size w10) 1)
          have b10a := hide (below_drewN (below_alloc (Below.refl w10.heap.size w10) (.cells #[.int .i64 f.t, .slice y f.n c] 25)) 1)
          subst hP
          clear fa gP gT gW gC HP HT HW HC HK RA RX RB RC RD HI HI5 HL5 H14 G5 HX HO
          refine wa_start (fun w' => w'.cell? ⟨w.heap.size, 0, none⟩ = some (.int .i64 f.t) ∧ w'.cell? ⟨w.heap.size, 1, none⟩ = some (.slice y f.n c)) ⟨c0, c1⟩ ?_
          refine wa_take (v := (.int .i64 0)) 0 rfl (by kernel_rfl) (by kernel_rfl) (by kernel_rfl) (fun _ _ _ h => h) (by kernel_rfl) (fun w hSw => ?_) ⟨c0, c1⟩ ?_
          · try dsimp only at hSw
            go_simp
          try simp only [Act.put, List.setIfInBounds_toArray, List.set_cons_zero, List.set_cons_succ]
          refine wa_take (v := (.bool true)) 1 rfl (by kernel_rfl) (by kernel_rfl) (by kernel_rfl) (fun _ _ _ h => h) (by kernel_rfl) (fun w hSw => ?_) ⟨c0, c1⟩ ?_
          · try dsimp only at hSw
            go_simp
          try simp only [Act.put, List.setIfInBounds_toArray, List.set_cons_zero, List.set_cons_succ]
          refine wa_take (v := (.bool true)) 2 rfl (by kernel_rfl) (by kernel_rfl) (by kernel_rfl) (fun _ _ _ h => h) (by kernel_rfl) (fun w hSw => ?_) ⟨c0, c1⟩ ?_
          · try dsimp only at hSw
            go_simp
          try simp only [Act.put, List.setIfInBounds_toArray, List.set_cons_zero, List.set_cons_succ]
          refine wa_take (v := (.slice pa (n + 1) ca)) 3 rfl (by kernel_rfl) (by kernel_rfl) (by kernel_rfl) (fun _ _ _ h => h) (by kernel_rfl) (fun w hSw => ?_) ⟨c0, c1⟩ ?_
          · try dsimp only at hSw
            go_simp
          try simp only [Act.put, List.setIfInBounds_toArray, List.set_cons_zero, List.set_cons_succ]
          refine wa_take (v := (.slice x n cap)) 4 rfl (by kernel_rfl) (by kernel_rfl) (by kernel_rfl) (fun _ _ _ h => h) (by kernel_rfl) (fun w hSw => ?_) ⟨c0, c1⟩ ?_
          · try dsimp only at hSw
            go_simp
          try simp only [Act.put, List.setIfInBounds_toArray, List.set_cons_zero, List.set_cons_succ]
          refine wa_take (v := (.agg #[.int .i64 f.t, .slice y f.n c])) 6 rfl (by kernel_rfl) (by kernel_rfl) (by kernel_rfl) (fun _ _ _ h => h) (by kernel_rfl) (fun w hSw => ?_) ⟨c0, c1⟩ ?_
          · try dsimp only at hSw
            go_simp
          try simp only [Act.put, List.setIfInBounds_toArray, List.set_cons_zero, List.set_cons_succ]
          refine wa_two 5 7 (by kernel_rfl) rfl rfl (by kernel_rfl) (by kernel_rfl) (fun Kc hK => ?_) (fun Kc hK => ?_)
          · go_simp
            go_at_call 8
            refine (twinFrames_any X _ n (w10.drewN 1) ((unhide HL).below (unhide b10) (Nat.le_refl _)) (by omega) (unhide HN)).mono ?_
            rintro e w11 ⟨v11, rfl, o11, b⟩
            obtain ⟨B11, r1, r2, r3⟩ := o11
            obtain ⟨p11, c11, rfl⟩ := owns_shape r1
            have BB := hide (below_of (w0 := w10.drewN 1) (unhide b10) b)
            have R1 := hide (owns_mono (B' := w10.heap.size) r1 (unhide b10).size)
            have R2 := hide (show ∀ i, i < n → w11.ownsRow w10.heap.size 5 1 (B11 i) (X i).n (vL .u8 (X i).b (X i).n) from fun i hi => owns_mono (r2 i hi) (unhide b10).size)
            have d0 := ((unhide BB).cell (p := ⟨w.heap.size, 0, none⟩) hlt).trans c0
            have d1 := ((unhide BB).cell (p := ⟨w.heap.size, 1, none⟩) hlt).trans c1
            have hlt1 := Nat.lt_of_lt_of_le hlt (unhide BB).size
            have hsz := (unhide BB).size
            clear b r1 r2 r3
            refine hK.out _ _ ⟨d0, d1⟩ ?_
            clear hK Kc
            try simp only [Act.put, List.setIfInBounds_toArray, List.set_cons_zero, List.set_cons_succ]
            refine wa_one 7 (by kernel_rfl) rfl (by kernel_rfl) (fun Kc hK => ?_)
            go_simp
            refine hK.out _ _ ⟨(World.cell?_alloc_past _ _ _ hlt1).trans d0, (World.cell?_alloc_past _ _ _ hlt1).trans d1⟩ ?_
            clear hK Kc
            try simp only [Act.put, List.setIfInBounds_toArray, List.set_cons_zero, List.set_cons_succ]
            refine wa_one 8 (by kernel_rfl) rfl (by kernel_rfl) (fun Kc hK => ?_)
            refine wp_appF (.tmp 138) (.tmp 140) rfl w10.heap.size _ n (fL (fun i => (X i).t) B11 n) rfl ((unhide R1).alloc _) _ 1 [.int .i64 f.t, .slice y f.n c] rfl (rw_at _ _ _ (oneCell_slice _ _ _) _ _ (by simp)) (by omega) (by omega) (by simp; omega) ?_
            intro v12 w12 o12 b12 g12
            have B12 := hide (below_up (below_alloc (unhide BB) _) b12)
            have F12 := hide (fs_app (B' := fun _ => .slice y f.n c) (Y := fun _ => f) (m := 1) ((unhide R1).alloc _) (fun i hi => (unhide R2 i hi).alloc _) (fun i _ => (unhide HF).below (unhide B12) (Nat.le_refl _)) g12 o12)
            replace d0 := ((unhide B12).cell (p := ⟨w.heap.size, 0, none⟩) hlt).trans c0
            replace d1 := ((unhide B12).cell (p := ⟨w.heap.size, 1, none⟩) hlt).trans c1
            clear o12 b12 g12
            obtain ⟨p12, c12, rfl, -, -⟩ := (unhide F12).shape
            refine hK.out _ _ ⟨d0, d1⟩ ?_
            clear hK Kc
            try simp only [Act.put, List.setIfInBounds_toArray, List.set_cons_zero, List.set_cons_succ]
            refine wa_one 9 (by kernel_rfl) rfl (by kernel_rfl) (fun Kc hK => ?_)
            go_simp
            go_at_call 16
            refine (frames_self (snoc X n f) (n + 1) _ _ _ ((unhide FA).below (unhide B12) (Nat.le_refl _)) (unhide F12)).mono ?_
            rintro e w13 ⟨rfl, b⟩
            have B13 := hide (below_of (unhide B12) b)
            replace d0 := ((unhide B13).cell (p := ⟨w.heap.size, 0, none⟩) hlt).trans c0
            replace d1 := ((unhide B13).cell (p := ⟨w.heap.size, 1, none⟩) hlt).trans c1
            clear b
            refine hK.out _ _ ⟨d0, d1⟩ ?_
            clear hK Kc
            try simp only [Act.put, List.setIfInBounds_toArray, List.set_cons_zero, List.set_cons_succ]
            refine wa_take (v := (.bool false)) 10 rfl (by kernel_rfl) (by kernel_rfl) (by kernel_rfl) (fun _ _ _ h => h) (by kernel_rfl) (fun w hSw => ?_) ⟨d0, d1⟩ ?_
            · try dsimp only at hSw
              go_simp
            try simp only [Act.put, List.setIfInBounds_toArray, List.set_cons_zero, List.set_cons_succ]
            refine wa_take (v := (.bool false)) 11 rfl (by kernel_rfl) (by kernel_rfl) (by kernel_rfl) (fun _ _ _ h => h) (by kernel_rfl) (fun w hSw => ?_) ⟨d0, d1⟩ ?_
            · try dsimp only at hSw
              go_simp
            try simp only [Act.put, List.setIfInBounds_toArray, List.set_cons_zero, List.set_cons_succ]
            refine wa_take (v := (.bool false)) 12 rfl (by kernel_rfl) (by kernel_rfl) (by kernel_rfl) (fun _ _ _ h => h) (by kernel_rfl) (fun w hSw => ?_) ⟨d0, d1⟩ ?_
            · try dsimp only at hSw
              go_simp
            try simp only [Act.put, List.setIfInBounds_toArray, List.set_cons_zero, List.set_cons_succ]
            refine wa_take (v := (.int .i64 0)) 13 rfl (by kernel_rfl) (by kernel_rfl) (by kernel_rfl) (fun _ _ _ h => h) (by kernel_rfl) (fun w hSw => ?_) ⟨d0, d1⟩ ?_
            · try dsimp only at hSw
              go_simp
            try simp only [Act.put, List.setIfInBounds_toArray, List.set_cons_zero, List.set_cons_succ]
            refine wa_take (v := (.bool false)) 14 rfl (by kernel_rfl) (by kernel_rfl) (by kernel_rfl) (fun _ _ _ h => h) (by kernel_rfl) (fun w hSw => ?_) ⟨d0, d1⟩ ?_
            · try dsimp only at hSw
              go_simp
            try simp only [Act.put, List.setIfInBounds_toArray, List.set_cons_zero, List.set_cons_succ]
            refine wa_take (v := (.bool false)) 15 rfl (by kernel_rfl) (by kernel_rfl) (by kernel_rfl) (fun _ _ _ h => h) (by kernel_rfl) (fun w hSw => ?_) ⟨d0, d1⟩ ?_
            · try dsimp only at hSw
              go_simp
            try simp only [Act.put, List.setIfInBounds_toArray, List.set_cons_zero, List.set_cons_succ]
            refine wa_none 16 rfl (by kernel_rfl) (by kernel_rfl) (by kernel_rfl) (fun _ _ _ h => h) (by kernel_rfl) ⟨d0, d1⟩ ?_
            try simp only [Act.put, List.setIfInBounds_toArray, List.set_cons_zero, List.set_cons_succ]
            refine wa_none 17 rfl (by kernel_rfl) (by kernel_rfl) (by kernel_rfl) (fun _ _ _ h => h) (by kernel_rfl) ⟨d0, d1⟩ ?_
            try simp only [Act.put, List.setIfInBounds_toArray, List.set_cons_zero, List.set_cons_succ]
            refine wa_none 18 rfl (by kernel_rfl) (by kernel_rfl) (by kernel_rfl) (fun _ _ _ h => h) (by kernel_rfl) ⟨d0, d1⟩ ?_
            try simp only [Act.put, List.setIfInBounds_toArray, List.set_cons_zero, List.set_cons_succ]
            refine wa_take (v := (.bool false)) 19 rfl (by kernel_rfl) (by kernel_rfl) (by kernel_rfl) (fun _ _ _ h => h) (by kernel_rfl) (fun w hSw => ?_) ⟨d0, d1⟩ ?_
            · try dsimp only at hSw
              go_simp
            try simp only [Act.put, List.setIfInBounds_toArray, List.set_cons_zero, List.set_cons_succ]
            refine wa_take (v := (.bool false)) 20 rfl (by kernel_rfl) (by kernel_rfl) (by kernel_rfl) (fun _ _ _ h => h) (by kernel_rfl) (fun w hSw => ?_) ⟨d0, d1⟩ ?_
            · try dsimp only at hSw
              go_simp
            try simp only [Act.put, List.setIfInBounds_toArray, List.set_cons_zero, List.set_cons_succ]
            refine wa_done (by kernel_rfl) ?_
            go_wp2
            go_meet
            exact ⟨rfl, unhide B13⟩
          · go_simp
            refine hK.out _ _ ⟨(World.cell?_alloc_past _ _ _ hlt).trans c0, (World.cell?_alloc_past _ _ _ hlt).trans c1⟩ ?_
            clear hK Kc
            try simp only [Act.put, List.setIfInBounds_toArray, List.set_cons_zero, List.set_cons_succ]
            refine wa_one 5 (by kernel_rfl) rfl (by kernel_rfl) (fun Kc hK => ?_)
            go_simp
            go_at_call 8
            refine (twinFrames_any X _ n (World.drewN (w10.alloc _) 1) ((unhide HL).below (unhide b10a) (Nat.le_refl _)) (by omega) (unhide HN)).mono ?_
            rintro e w11 ⟨v11, rfl, o11, b⟩
            obtain ⟨B11, r1, r2, r3⟩ := o11
            obtain ⟨p11, c11, rfl⟩ := owns_shape r1
            have BB := hide (below_of (w0 := World.drewN (w10.alloc _) 1) (unhide b10a) b)
            have R1 := hide (owns_mono (B' := w10.heap.size) r1 (unhide b10a).size)
            have R2 := hide (show ∀ i, i < n → w11.ownsRow w10.heap.size 5 1 (B11 i) (X i).n (vL .u8 (X i).b (X i).n) from fun i hi => owns_mono (r2 i hi) (unhide b10a).size)
            have d0 := ((unhide BB).cell (p := ⟨w.heap.size, 0, none⟩) hlt).trans c0
            have d1 := ((unhide BB).cell (p := ⟨w.heap.size, 1, none⟩) hlt).trans c1
            have hlt1 := Nat.lt_of_lt_of_le hlt (unhide BB).size
            have hsz := (unhide BB).size
            have RL := hide (((rw_one w10 f.t (.slice y f.n c) (oneCell_slice _ _ _) 25).below (below_drewN (Below.refl _ _) 1) (Nat.le_refl _)).below b (Nat.le_refl _))
            clear b r1 r2 r3
            refine hK.out _ _ ⟨d0, d1⟩ ?_
            clear hK Kc
            try simp only [Act.put, List.setIfInBounds_toArray, List.set_cons_zero, List.set_cons_succ]
            refine wa_one 8 (by kernel_rfl) rfl (by kernel_rfl) (fun Kc hK => ?_)
            refine wp_appF (.tmp 138) (.tmp 140) rfl w10.heap.size _ n (fL (fun i => (X i).t) B11 n) rfl (unhide R1) _ 1 [.int .i64 f.t, .slice y f.n c] rfl (unhide RL) (by omega) (by omega) hsz ?_
            intro v12 w12 o12 b12 g12
            have B12 := hide (below_up (unhide BB) b12)
            have F12 := hide (fs_app (B' := fun _ => .slice y f.n c) (Y := fun _ => f) (m := 1) (unhide R1) (unhide R2) (fun i _ => (unhide HF).below (unhide B12) (Nat.le_refl _)) g12 o12)
            replace d0 := ((unhide B12).cell (p := ⟨w.heap.size, 0, none⟩) hlt).trans c0
            replace d1 := ((unhide B12).cell (p := ⟨w.heap.size, 1, none⟩) hlt).trans c1
            clear o12 b12 g12
            obtain ⟨p12, c12, rfl, -, -⟩ := (unhide F12).shape
            refine hK.out _ _ ⟨d0, d1⟩ ?_
            clear hK Kc
            try simp only [Act.put, List.setIfInBounds_toArray, List.set_cons_zero, List.set_cons_succ]
            refine wa_one 9 (by kernel_rfl) rfl (by kernel_rfl) (fun Kc hK => ?_)
            go_simp
            go_at_call 16
            refine (frames_self (snoc X n f) (n + 1) _ _ _ ((unhide FA).below (unhide B12) (Nat.le_refl _)) (unhide F12)).mono ?_
            rintro e w13 ⟨rfl, b⟩
            have B13 := hide (below_of (unhide B12) b)
            replace d0 := ((unhide B13).cell (p := ⟨w.heap.size, 0, none⟩) hlt).trans c0
            replace d1 := ((unhide B13).cell (p := ⟨w.heap.size, 1, none⟩) hlt).trans c1
            clear b
            refine hK.out _ _ ⟨d0, d1⟩ ?_
            clear hK Kc
            try simp only [Act.put, List.setIfInBounds_toArray, List.set_cons_zero, List.set_cons_succ]
            refine wa_take (v := (.bool false)) 10 rfl (by kernel_rfl) (by kernel_rfl) (by kernel_rfl) (fun _ _ _ h => h) (by kernel_rfl) (fun w hSw => ?_) ⟨d0, d1⟩ ?_
            · try dsimp only at hSw
              go_simp
            try simp only [Act.put, List.setIfInBounds_toArray, List.set_cons_zero, List.set_cons_succ]
            refine wa_take (v := (.bool false)) 11 rfl (by kernel_rfl) (by kernel_rfl) (by kernel_rfl) (fun _ _ _ h => h) (by kernel_rfl) (fun w hSw => ?_) ⟨d0, d1⟩ ?_
            · try dsimp only at hSw
              go_simp
            try simp only [Act.put, List.setIfInBounds_toArray, List.set_cons_zero, List.set_cons_succ]
            refine wa_take (v := (.bool false)) 12 rfl (by kernel_rfl) (by kernel_rfl) (by kernel_rfl) (fun _ _ _ h => h) (by kernel_rfl) (fun w hSw => ?_) ⟨d0, d1⟩ ?_
            · try dsimp only at hSw
              go_simp
            try simp only [Act.put, List.setIfInBounds_toArray, List.set_cons_zero, List.set_cons_succ]
            refine wa_take (v := (.int .i64 0)) 13 rfl (by kernel_rfl) (by kernel_rfl) (by kernel_rfl) (fun _ _ _ h => h) (by kernel_rfl) (fun w hSw => ?_) ⟨d0, d1⟩ ?_
            · try dsimp only at hSw
              go_simp
            try simp only [Act.put, List.setIfInBounds_toArray, List.set_cons_zero, List.set_cons_succ]
            refine wa_take (v := (.bool false)) 14 rfl (by kernel_rfl) (by kernel_rfl) (by kernel_rfl) (fun _ _ _ h => h) (by kernel_rfl) (fun w hSw => ?_) ⟨d0, d1⟩ ?_
            · try dsimp only at hSw
              go_simp
            try simp only [Act.put, List.setIfInBounds_toArray, List.set_cons_zero, List.set_cons_succ]
            refine wa_take (v := (.bool false)) 15 rfl (by kernel_rfl) (by kernel_rfl) (by kernel_rfl) (fun _ _ _ h => h) (by kernel_rfl) (fun w hSw => ?_) ⟨d0, d1⟩ ?_
            · try dsimp only at hSw
              go_simp
            try simp only [Act.put, List.setIfInBounds_toArray, List.set_cons_zero, List.set_cons_succ]
            refine wa_none 16 rfl (by kernel_rfl) (by kernel_rfl) (by kernel_rfl) (fun _ _ _ h => h) (by kernel_rfl) ⟨d0, d1⟩ ?_
            try simp only [Act.put, List.setIfInBounds_toArray, List.set_cons_zero, List.set_cons_succ]
            refine wa_none 17 rfl (by kernel_rfl) (by kernel_rfl) (by kernel_rfl) (fun _ _ _ h => h) (by kernel_rfl) ⟨d0, d1⟩ ?_
            try simp only [Act.put, List.setIfInBounds_toArray, List.set_cons_zero, List.set_cons_succ]
            refine wa_none 18 rfl (by kernel_rfl) (by kernel_rfl) (by kernel_rfl) (fun _ _ _ h => h) (by kernel_rfl) ⟨d0, d1⟩ ?_
            try simp only [Act.put, List.setIfInBounds_toArray, List.set_cons_zero, List.set_cons_succ]
            refine wa_take (v := (.bool false)) 19 rfl (by kernel_rfl) (by kernel_rfl) (by kernel_rfl) (fun _ _ _ h => h) (by kernel_rfl) (fun w hSw => ?_) ⟨d0, d1⟩ ?_
            · try dsimp only at hSw
              go_simp
            try simp only [Act.put, List.setIfInBounds_toArray, List.set_cons_zero, List.set_cons_succ]
            refine wa_take (v := (.bool false)) 20 rfl (by kernel_rfl) (by kernel_rfl) (by kernel_rfl) (fun _ _ _ h => h) (by kernel_rfl) (fun w hSw => ?_) ⟨d0, d1⟩ ?_
            · try dsimp only at hSw
              go_simp
            try simp only [Act.put, List.setIfInBounds_toArray, List.set_cons_zero, List.set_cons_succ]
            refine wa_done (by kernel_rfl) ?_
            go_wp2
            go_meet
            exact ⟨rfl, unhide B13⟩
        · obtain rfl := (unhide RA).2 hP
          have z1 : (P == 0) = false := by simpa using hP
          have z2 : (P != 0) = true := by simpa using hP
          have z3 : decide (P = 0) = false := by simpa using hP
          have z4 : (!(P == 0)) = true := by simpa using hP
          clear gP gT gW gC
          clear HP HT HW HC HK RX RB RC RD HI HL HI5 HL5 HF H14 G5 B HN HO
          go_quiet (fail)
          all_goals (go_wp2; go_meet; exact ⟨rfl, below_drewN (Below.refl _ _) _⟩)
      case rest => as_aux_lemma =>
        obtain ⟨rfl, hcut⟩ := hcut
        obtain ⟨w11, hw⟩ : ∃ z, z = wc := ⟨_, rfl⟩
        rw [← hw] at hcut ⊢
        clear hw
        replace HL := hide ((unhide HL).below hcut (Nat.le_refl _))
        replace HF := hide ((unhide HF).below hcut (Nat.le_refl _))
        replace HX := hide ((unhide HX).below hcut)
        replace B := hide (below_of (unhide B) hcut)
        replace HI := hide ((unhide HI).below hcut (Nat.le_refl _))
        replace RA := hide ((unhide RA).below hcut (Nat.le_refl _))
        replace RX := hide ((unhide RX).below hcut (Nat.le_refl _))
        replace RB := hide ((unhide RB).below hcut (Nat.le_refl _))
        replace RC := hide ((unhide RC).below hcut)
        replace H14 := hide ((unhide H14).below hcut)
        replace G5 := hide (below_of (unhide G5) hcut)
        replace RD := hide ((unhide RD).below hcut (Nat.le_refl _))
        clear hcut
        go_upto_region 32 with fail
        go_cut [193] from 154 to 192 (fun xb wc => xb = .bool false ∧ Below w11.heap.size w11 wc)
        case first => as_aux_lemma =>
          by_cases hP : Tk = 0
          · obtain ⟨⟨pb, cb, rfl⟩, fb⟩ := (unhide RB).1 hP
            obtain ⟨hck, hk0, hkn⟩ := chkAt_zero.1 ((unhide HT).trans hP)
            obtain ⟨K, hkK⟩ := Int.eq_ofNat_of_zero_le hk0
            subst hkK
            obtain ⟨t1, t2, sx⟩ := (unhide RX).1 hP
            subst t1 t2
            have SX := hide (show Sl .u8 w11 (.slice qx (X K).n dx) (X K).n (X K).b from sx)
            have FB := hide (show Fs w11 (.slice pb (n - 1) cb) (n - 1) (lack X K) from fb)
            obtain ⟨lb, lo, LB, rfl, hlb, hlc⟩ := (unhide HL).some (by omega)
            obtain ⟨_, _, hsh, hs1, hs2⟩ := (unhide HL).shape
            cases hsh
            obtain ⟨q1, q2, q3⟩ := hlc K (by omega)
            obtain ⟨pk, ck, hbk, -, -⟩ := q3.shape
            rw [hbk] at q2 q3
            have Q3 := hide q3
            obtain ⟨a2, c2, hsl, hrest⟩ := slice_restF lb lo n cap K (by omega) hs1 hs2
            have HKN := hide (show K ≤ n by omega)
            have HK1 := hide (show K < n by omega)
            obtain ⟨B2, s2, rw2⟩ := (hrest w11 X (unhide HL)).rw'
            have RW2 := hide rw2
            have SS2 := hide s2
            have i1 : (0 : Int) ≤ (K : Int) := by omega
            have i2 : (K : Int) < (n : Int) := by omega
            have i3 : (K : Int) ≤ (cap : Int) := by omega
            have r5 : IntKind.i64.wrap ((K : Int) + 1) = (K : Int) + 1 := by rw [IntKind.wrap_i64]; omega
            have b10 := hide (below_drewN (Below.refl w11.heap.size w11) 1)
            have c0 := (unhide H14).cell (k := 0) rfl
            have c1 := (unhide H14).cell (k := 1) rfl
            have hlt := (unhide H14).1
            clear HP HT HW HC HK RA RX RB RC RD HI HI5 HL5 G5 HX HO HF H14
            subst hP
            clear fb sx hck hk0 hkn hlc q3 hbk rw2 s2 hrest
            refine wa_start (fun w' => w'.cell? ⟨lb, lo + K * 2, none⟩ = some (.int .i64 (X K).t) ∧ w'.cell? ⟨lb, lo + K * 2 + 1, none⟩ = some (.slice pk (X K).n ck) ∧ w'.cell? ⟨w5.heap.size, 0, none⟩ = some (.int .i64 (X K).t) ∧ w'.cell? ⟨w5.heap.size, 1, none⟩ = some (.slice qx (X K).n dx)) ⟨q1, q2, c0, c1⟩ ?_
            refine wa_take (v := (.int .i64 0)) 0 rfl (by kernel_rfl) (by kernel_rfl) (by kernel_rfl) (fun _ _ _ h => h) (by kernel_rfl) (fun w hSw => ?_) ⟨q1, q2, c0, c1⟩ ?_
            · try dsimp only at hSw
              go_simp
            try simp only [Act.put, List.setIfInBounds_toArray, List.set_cons_zero, List.set_cons_succ]
            refine wa_take (v := (.bool true)) 1 rfl (by kernel_rfl) (by kernel_rfl) (by kernel_rfl) (fun _ _ _ h => h) (by kernel_rfl) (fun w hSw => ?_) ⟨q1, q2, c0, c1⟩ ?_
            · try dsimp only at hSw
              go_simp
            try simp only [Act.put, List.setIfInBounds_toArray, List.set_cons_zero, List.set_cons_succ]
            refine wa_take (v := (.bool true)) 2 rfl (by kernel_rfl) (by kernel_rfl) (by kernel_rfl) (fun _ _ _ h => h) (by kernel_rfl) (fun w hSw => ?_) ⟨q1, q2, c0, c1⟩ ?_
            · try dsimp only at hSw
              go_simp
            try simp only [Act.put, List.setIfInBounds_toArray, List.set_cons_zero, List.set_cons_succ]
            refine wa_take (v := (.agg #[.int .i64 (X K).t, .slice qx (X K).n dx])) 3 rfl (by kernel_rfl) (by kernel_rfl) (by kernel_rfl) (fun _ _ _ h => h) (by kernel_rfl) (fun w hSw => ?_) ⟨q1, q2, c0, c1⟩ ?_
            · try dsimp only at hSw
              go_simp
            try simp only [Act.put, List.setIfInBounds_toArray, List.set_cons_zero, List.set_cons_succ]
            refine wa_take (v := (.slice (some ⟨lb, lo, none⟩) n cap)) 4 rfl (by kernel_rfl) (by kernel_rfl) (by kernel_rfl) (fun _ _ _ h => h) (by kernel_rfl) (fun w hSw => ?_) ⟨q1, q2, c0, c1⟩ ?_
            · try dsimp only at hSw
              go_simp
            try simp only [Act.put, List.setIfInBounds_toArray, List.set_cons_zero, List.set_cons_succ]
            refine wa_take (v := (.int .i64 K)) 5 rfl (by kernel_rfl) (by kernel_rfl) (by kernel_rfl) (fun _ _ _ h => h) (by kernel_rfl) (fun w hSw => ?_) ⟨q1, q2, c0, c1⟩ ?_
            · try dsimp only at hSw
              go_simp
            try simp only [Act.put, List.setIfInBounds_toArray, List.set_cons_zero, List.set_cons_succ]
            refine wa_take (v := (.pointer (some ⟨lb, lo + K * 2, none⟩))) 6 rfl (by kernel_rfl) (by kernel_rfl) (by kernel_rfl) (fun _ _ _ h => h) (by kernel_rfl) (fun w hSw => ?_) ⟨q1, q2, c0, c1⟩ ?_
            · try dsimp only at hSw
              go_simp
            try simp only [Act.put, List.setIfInBounds_toArray, List.set_cons_zero, List.set_cons_succ]
            refine wa_take (v := (.agg #[.int .i64 (X K).t, .slice pk (X K).n ck])) 7 rfl (by kernel_rfl) (by kernel_rfl) (by kernel_rfl) (fun _ _ _ h => h) (by kernel_rfl) (fun w hSw => ?_) ⟨q1, q2, c0, c1⟩ ?_
            · try dsimp only at hSw
              go_simp
            try simp only [Act.put, List.setIfInBounds_toArray, List.set_cons_zero, List.set_cons_succ]
            refine wa_one 8 (by kernel_rfl) rfl (by kernel_rfl) (fun Kc hK => ?_)
            go_simp
            go_at_call 17
            refine (frame_self (X K) _ _ _ ((unhide SX).below (unhide b10) (Nat.le_refl _)) ((unhide Q3).below (unhide b10) (Nat.le_refl _))).mono ?_
            rintro e w12 ⟨rfl, b⟩
            have BB := hide (below_of (w0 := w11.drewN 1) (unhide b10) b)
            have d0 := ((unhide BB).cell (p := ⟨lb, lo + K * 2, none⟩) hlb).trans q1
            have d1 := ((unhide BB).cell (p := ⟨lb, lo + K * 2 + 1, none⟩) hlb).trans q2
            have d2 := ((unhide BB).cell (p := ⟨w5.heap.size, 0, none⟩) hlt).trans c0
            have d3 := ((unhide BB).cell (p := ⟨w5.heap.size, 1, none⟩) hlt).trans c1
            clear b
            refine hK.out _ _ ⟨d0, d1, d2, d3⟩ ?_
            clear hK Kc
            try simp only [Act.put, List.setIfInBounds_toArray, List.set_cons_zero, List.set_cons_succ]
            refine wa_take (v := (.bool false)) 9 rfl (by kernel_rfl) (by kernel_rfl) (by kernel_rfl) (fun _ _ _ h => h) (by kernel_rfl) (fun w hSw => ?_) ⟨d0, d1, d2, d3⟩ ?_
            · try dsimp only at hSw
              go_simp
            try simp only [Act.put, List.setIfInBounds_toArray, List.set_cons_zero, List.set_cons_succ]
            refine wa_take (v := (.bool false)) 10 rfl (by kernel_rfl) (by kernel_rfl) (by kernel_rfl) (fun _ _ _ h => h) (by kernel_rfl) (fun w hSw => ?_) ⟨d0, d1, d2, d3⟩ ?_
            · try dsimp only at hSw
              go_simp
            try simp only [Act.put, List.setIfInBounds_toArray, List.set_cons_zero, List.set_cons_succ]
            refine wa_take (v := (.slice pb (n - 1) cb)) 11 rfl (by kernel_rfl) (by kernel_rfl) (by kernel_rfl) (fun _ _ _ h => h) (by kernel_rfl) (fun w hSw => ?_) ⟨d0, d1, d2, d3⟩ ?_
            · try dsimp only at hSw
              go_simp
            try simp only [Act.put, List.setIfInBounds_toArray, List.set_cons_zero, List.set_cons_succ]
            refine wa_take (v := (.slice (some ⟨lb, lo, none⟩) n cap)) 12 rfl (by kernel_rfl) (by kernel_rfl) (by kernel_rfl) (fun _ _ _ h => h) (by kernel_rfl) (fun w hSw => ?_) ⟨d0, d1, d2, d3⟩ ?_
            · try dsimp only at hSw
              go_simp
            try simp only [Act.put, List.setIfInBounds_toArray, List.set_cons_zero, List.set_cons_succ]
            refine wa_take (v := (.int .i64 K)) 13 rfl (by kernel_rfl) (by kernel_rfl) (by kernel_rfl) (fun _ _ _ h => h) (by kernel_rfl) (fun w hSw => ?_) ⟨d0, d1, d2, d3⟩ ?_
            · try dsimp only at hSw
              go_simp
            try simp only [Act.put, List.setIfInBounds_toArray, List.set_cons_zero, List.set_cons_succ]
            refine wa_take (v := (.slice (some ⟨lb, lo, none⟩) K cap)) 14 rfl (by kernel_rfl) (by kernel_rfl) (by kernel_rfl) (fun _ _ _ h => h) (by kernel_rfl) (fun w hSw => ?_) ⟨d0, d1, d2, d3⟩ ?_
            · try dsimp only at hSw
              go_simp
            try simp only [Act.put, List.setIfInBounds_toArray, List.set_cons_zero, List.set_cons_succ]
            refine wa_take (v := (.slice (some ⟨lb, lo, none⟩) n cap)) 16 rfl (by kernel_rfl) (by kernel_rfl) (by kernel_rfl) (fun _ _ _ h => h) (by kernel_rfl) (fun w hSw => ?_) ⟨d0, d1, d2, d3⟩ ?_
            · try dsimp only at hSw
              go_simp
            try simp only [Act.put, List.setIfInBounds_toArray, List.set_cons_zero, List.set_cons_succ]
            refine wa_take (v := (.int .i64 K)) 17 rfl (by kernel_rfl) (by kernel_rfl) (by kernel_rfl) (fun _ _ _ h => h) (by kernel_rfl) (fun w hSw => ?_) ⟨d0, d1, d2, d3⟩ ?_
            · try dsimp only at hSw
              go_simp
            try simp only [Act.put, List.setIfInBounds_toArray, List.set_cons_zero, List.set_cons_succ]
            refine wa_take (v := (.int .i64 ((K : Int) + 1))) 18 rfl (by kernel_rfl) (by kernel_rfl) (by kernel_rfl) (fun _ _ _ h => h) (by kernel_rfl) (fun w hSw => ?_) ⟨d0, d1, d2, d3⟩ ?_
            · try dsimp only at hSw
              go_simp
            try simp only [Act.put, List.setIfInBounds_toArray, List.set_cons_zero, List.set_cons_succ]
            refine wa_take (v := (.slice a2 (n - (K + 1)) c2)) 19 rfl (by kernel_rfl) (by kernel_rfl) (by kernel_rfl) (fun _ _ _ h => h) (by kernel_rfl) (fun w hSw => ?_) ⟨d0, d1, d2, d3⟩ ?_
            · try dsimp only at hSw
              go_simp
            try simp only [Act.put, List.setIfInBounds_toArray, List.set_cons_zero, List.set_cons_succ]
            refine wa_one 15 (by kernel_rfl) rfl (by kernel_rfl) (fun Kc hK => ?_)
            go_simp
            go_at_call 8
            refine (twinFrames_any X _ K w12 (fs_take ((unhide HL).below (unhide BB) (Nat.le_refl _)) (unhide HKN)) (by omega) (fun i hi => unhide HN i (Nat.lt_of_lt_of_le hi (unhide HKN)))).mono ?_
            rintro e w13 ⟨v13, rfl, o13, b⟩
            obtain ⟨B13, r1, r2, r3⟩ := o13
            obtain ⟨p13, c13, rfl⟩ := owns_shape r1
            have R1 := hide r1
            have R2 := hide r2
            have BB2 := hide (below_of (unhide BB) b)
            have BX := hide b
            have hsz := b.size
            replace d0 := ((unhide BB2).cell (p := ⟨lb, lo + K * 2, none⟩) hlb).trans q1
            replace d1 := ((unhide BB2).cell (p := ⟨lb, lo + K * 2 + 1, none⟩) hlb).trans q2
            replace d2 := ((unhide BB2).cell (p := ⟨w5.heap.size, 0, none⟩) hlt).trans c0
            replace d3 := ((unhide BB2).cell (p := ⟨w5.heap.size, 1, none⟩) hlt).trans c1
            clear b r1 r2 r3
            refine hK.out _ _ ⟨d0, d1, d2, d3⟩ ?_
            clear hK Kc
            try simp only [Act.put, List.setIfInBounds_toArray, List.set_cons_zero, List.set_cons_succ]
            refine wa_one 20 (by kernel_rfl) rfl (by kernel_rfl) (fun Kc hK => ?_)
            refine wp_appF (.tmp 169) (.tmp 173) rfl w12.heap.size _ K (fL (fun i => (X i).t) B13 K) rfl (unhide R1) _ (n - (K + 1)) (fL (fun i => (X (K + 1 + i)).t) B2 (n - (K + 1))) rfl ((unhide RW2).below (unhide BB2) (Nat.le_refl _)) (by omega) (by omega) hsz ?_
            intro v14 w14 o14 b14 g14
            have BB4 := hide (below_of (unhide BB) (below_up (unhide BX) b14))
            have F14 : Hid (Fs w14 v14 (n - 1) (lack X K)) := hide (by
              have h := fs_app (Y := fun i => X (K + 1 + i)) (unhide R1) (unhide R2) (fun i hi => (unhide SS2 i hi).below (unhide BB4) (Nat.le_refl _)) g14 o14
              rw [show K + (n - (K + 1)) = n - 1 by have := unhide HK1; omega] at h
              exact h)
            replace d0 := ((unhide BB4).cell (p := ⟨lb, lo + K * 2, none⟩) hlb).trans q1
            replace d1 := ((unhide BB4).cell (p := ⟨lb, lo + K * 2 + 1, none⟩) hlb).trans q2
            replace d2 := ((unhide BB4).cell (p := ⟨w5.heap.size, 0, none⟩) hlt).trans c0
            replace d3 := ((unhide BB4).cell (p := ⟨w5.heap.size, 1, none⟩) hlt).trans c1
            clear o14 b14 g14
            obtain ⟨p14, c14, rfl, -, -⟩ := (unhide F14).shape
            refine hK.out _ _ ⟨d0, d1, d2, d3⟩ ?_
            clear hK Kc
            try simp only [Act.put, List.setIfInBounds_toArray, List.set_cons_zero, List.set_cons_succ]
            refine wa_one 21 (by kernel_rfl) rfl (by kernel_rfl) (fun Kc hK => ?_)
            go_simp
            go_at_call 16
            refine (frames_self (lack X K) (n - 1) _ _ _ ((unhide FB).below (unhide BB4) (Nat.le_refl _)) (unhide F14)).mono ?_
            rintro e w15 ⟨rfl, b⟩
            have B15 := hide (below_of (unhide BB4) b)
            replace d0 := ((unhide B15).cell (p := ⟨lb, lo + K * 2, none⟩) hlb).trans q1
            replace d1 := ((unhide B15).cell (p := ⟨lb, lo + K * 2 + 1, none⟩) hlb).trans q2
            replace d2 := ((unhide B15).cell (p := ⟨w5.heap.size, 0, none⟩) hlt).trans c0
            replace d3 := ((unhide B15).cell (p := ⟨w5.heap.size, 1, none⟩) hlt).trans c1
            clear b
            refine hK.out _ _ ⟨d0, d1, d2, d3⟩ ?_
            clear hK Kc
            try simp only [Act.put, List.setIfInBounds_toArray, List.set_cons_zero, List.set_cons_succ]
            refine wa_take (v := (.bool false)) 22 rfl (by kernel_rfl) (by kernel_rfl) (by kernel_rfl) (fun _ _ _ h => h) (by kernel_rfl) (fun w hSw => ?_) ⟨d0, d1, d2, d3⟩ ?_
            · try dsimp only at hSw
              go_simp
            try simp only [Act.put, List.setIfInBounds_toArray, List.set_cons_zero, List.set_cons_succ]
            refine wa_take (v := (.bool false)) 23 rfl (by kernel_rfl) (by kernel_rfl) (by kernel_rfl) (fun _ _ _ h => h) (by kernel_rfl) (fun w hSw => ?_) ⟨d0, d1, d2, d3⟩ ?_
            · try dsimp only at hSw
              go_simp
            try simp only [Act.put, List.setIfInBounds_toArray, List.set_cons_zero, List.set_cons_succ]
            refine wa_take (v := (.bool false)) 24 rfl (by kernel_rfl) (by kernel_rfl) (by kernel_rfl) (fun _ _ _ h => h) (by kernel_rfl) (fun w hSw => ?_) ⟨d0, d1, d2, d3⟩ ?_
            · try dsimp only at hSw
              go_simp
            try simp only [Act.put, List.setIfInBounds_toArray, List.set_cons_zero, List.set_cons_succ]
            refine wa_take (v := (.bool false)) 25 rfl (by kernel_rfl) (by kernel_rfl) (by kernel_rfl) (fun _ _ _ h => h) (by kernel_rfl) (fun w hSw => ?_) ⟨d0, d1, d2, d3⟩ ?_
            · try dsimp only at hSw
              go_simp
            try simp only [Act.put, List.setIfInBounds_toArray, List.set_cons_zero, List.set_cons_succ]
            refine wa_take (v := (.int .i64 0)) 26 rfl (by kernel_rfl) (by kernel_rfl) (by kernel_rfl) (fun _ _ _ h => h) (by kernel_rfl) (fun w hSw => ?_) ⟨d0, d1, d2, d3⟩ ?_
            · try dsimp only at hSw
              go_simp
            try simp only [Act.put, List.setIfInBounds_toArray, List.set_cons_zero, List.set_cons_succ]
            refine wa_take (v := (.bool false)) 27 rfl (by kernel_rfl) (by kernel_rfl) (by kernel_rfl) (fun _ _ _ h => h) (by kernel_rfl) (fun w hSw => ?_) ⟨d0, d1, d2, d3⟩ ?_
            · try dsimp only at hSw
              go_simp
            try simp only [Act.put, List.setIfInBounds_toArray, List.set_cons_zero, List.set_cons_succ]
            refine wa_take (v := (.bool false)) 28 rfl (by kernel_rfl) (by kernel_rfl) (by kernel_rfl) (fun _ _ _ h => h) (by kernel_rfl) (fun w hSw => ?_) ⟨d0, d1, d2, d3⟩ ?_
            · try dsimp only at hSw
              go_simp
            try simp only [Act.put, List.setIfInBounds_toArray, List.set_cons_zero, List.set_cons_succ]
            refine wa_none 29 rfl (by kernel_rfl) (by kernel_rfl) (by kernel_rfl) (fun _ _ _ h => h) (by kernel_rfl) ⟨d0, d1, d2, d3⟩ ?_
            try simp only [Act.put, List.setIfInBounds_toArray, List.set_cons_zero, List.set_cons_succ]
            refine wa_none 30 rfl (by kernel_rfl) (by kernel_rfl) (by kernel_rfl) (fun _ _ _ h => h) (by kernel_rfl) ⟨d0, d1, d2, d3⟩ ?_
            try simp only [Act.put, List.setIfInBounds_toArray, List.set_cons_zero, List.set_cons_succ]
            refine wa_none 31 rfl (by kernel_rfl) (by kernel_rfl) (by kernel_rfl) (fun _ _ _ h => h) (by kernel_rfl) ⟨d0, d1, d2, d3⟩ ?_
            try simp only [Act.put, List.setIfInBounds_toArray, List.set_cons_zero, List.set_cons_succ]
            refine wa_none 32 rfl (by kernel_rfl) (by kernel_rfl) (by kernel_rfl) (fun _ _ _ h => h) (by kernel_rfl) ⟨d0, d1, d2, d3⟩ ?_
            try simp only [Act.put, List.setIfInBounds_toArray, List.set_cons_zero, List.set_cons_succ]
            refine wa_none 33 rfl (by kernel_rfl) (by kernel_rfl) (by kernel_rfl) (fun _ _ _ h => h) (by kernel_rfl) ⟨d0, d1, d2, d3⟩ ?_
            try simp only [Act.put, List.setIfInBounds_toArray, List.set_cons_zero, List.set_cons_succ]
            refine wa_none 34 rfl (by kernel_rfl) (by kernel_rfl) (by kernel_rfl) (fun _ _ _ h => h) (by kernel_rfl) ⟨d0, d1, d2, d3⟩ ?_
            try simp only [Act.put, List.setIfInBounds_toArray, List.set_cons_zero, List.set_cons_succ]
            refine wa_none 35 rfl (by kernel_rfl) (by kernel_rfl) (by kernel_rfl) (fun _ _ _ h => h) (by kernel_rfl) ⟨d0, d1, d2, d3⟩ ?_
            try simp only [Act.put, List.setIfInBounds_toArray, List.set_cons_zero, List.set_cons_succ]
            refine wa_none 36 rfl (by kernel_rfl) (by kernel_rfl) (by kernel_rfl) (fun _ _ _ h => h) (by kernel_rfl) ⟨d0, d1, d2, d3⟩ ?_
            try simp only [Act.put, List.setIfInBounds_toArray, List.set_cons_zero, List.set_cons_succ]
            refine wa_none 37 rfl (by kernel_rfl) (by kernel_rfl) (by kernel_rfl) (fun _ _ _ h => h) (by kernel_rfl) ⟨d0, d1, d2, d3⟩ ?_
            try simp only [Act.put, List.setIfInBounds_toArray, List.set_cons_zero, List.set_cons_succ]
            refine wa_take (v := (.bool false)) 38 rfl (by kernel_rfl) (by kernel_rfl) (by kernel_rfl) (fun _ _ _ h => h) (by kernel_rfl) (fun w hSw => ?_) ⟨d0, d1, d2, d3⟩ ?_
            · try dsimp only at hSw
              go_simp
            try simp only [Act.put, List.setIfInBounds_toArray, List.set_cons_zero, List.set_cons_succ]
            refine wa_take (v := (.bool false)) 39 rfl (by kernel_rfl) (by kernel_rfl) (by kernel_rfl) (fun _ _ _ h => h) (by kernel_rfl) (fun w hSw => ?_) ⟨d0, d1, d2, d3⟩ ?_
            · try dsimp only at hSw
              go_simp
            try simp only [Act.put, List.setIfInBounds_toArray, List.set_cons_zero, List.set_cons_succ]
            refine wa_done (by kernel_rfl) ?_
            go_wp2
            go_meet
            exact ⟨rfl, unhide B15⟩
          · obtain rfl := (unhide RB).2 hP
            obtain ⟨t1, t2, t3, t4⟩ := (unhide RX).2 hP
            subst t1 t2 t3 t4
            have z1 : (Tk == 0) = false := by simpa using hP
            have z2 : (Tk != 0) = true := by simpa using hP
            have z3 : decide (Tk = 0) = false := by simpa using hP
            have b10 := hide (below_drewN (Below.refl w11.heap.size w11) 1)
            have c0 := (unhide H14).cell (k := 0) rfl
            have c1 := (unhide H14).cell (k := 1) rfl
            have hlt := (unhide H14).1
            clear HP HT HW HC HK RA RX RC RD HI HL HI5 HL5 HF H14 G5 B HN HO
            refine wa_start (fun w' => w'.cell? ⟨w5.heap.size, 0, none⟩ = some (.int .i64 0) ∧ w'.cell? ⟨w5.heap.size, 1, none⟩ = some (.slice none 0 0)) ⟨c0, c1⟩ ?_
            refine wa_take (v := (.int .i64 Tk)) 0 rfl (by kernel_rfl) (by kernel_rfl) (by kernel_rfl) (fun _ _ _ h => h) (by kernel_rfl) (fun w hSw => ?_) ⟨c0, c1⟩ ?_
            · try dsimp only at hSw
              go_simp
            try simp only [Act.put, List.setIfInBounds_toArray, List.set_cons_zero, List.set_cons_succ]
            refine wa_take (v := (.bool false)) 1 rfl (by kernel_rfl) (by kernel_rfl) (by kernel_rfl) (fun _ _ _ h => h) (by kernel_rfl) (fun w hSw => ?_) ⟨c0, c1⟩ ?_
            · try dsimp only at hSw
              go_simp
            try simp only [Act.put, List.setIfInBounds_toArray, List.set_cons_zero, List.set_cons_succ]
            refine wa_take (v := (.bool false)) 2 rfl (by kernel_rfl) (by kernel_rfl) (by kernel_rfl) (fun _ _ _ h => h) (by kernel_rfl) (fun w hSw => ?_) ⟨c0, c1⟩ ?_
            · try dsimp only at hSw
              go_simp
            try simp only [Act.put, List.setIfInBounds_toArray, List.set_cons_zero, List.set_cons_succ]
            refine wa_none 3 rfl (by kernel_rfl) (by kernel_rfl) (by kernel_rfl) (fun _ _ _ h => h) (by kernel_rfl) ⟨c0, c1⟩ ?_
            try simp only [Act.put, List.setIfInBounds_toArray, List.set_cons_zero, List.set_cons_succ]
            refine wa_none 4 rfl (by kernel_rfl) (by kernel_rfl) (by kernel_rfl) (fun _ _ _ h => h) (by kernel_rfl) ⟨c0, c1⟩ ?_
            try simp only [Act.put, List.setIfInBounds_toArray, List.set_cons_zero, List.set_cons_succ]
            refine wa_none 5 rfl (by kernel_rfl) (by kernel_rfl) (by kernel_rfl) (fun _ _ _ h => h) (by kernel_rfl) ⟨c0, c1⟩ ?_
            try simp only [Act.put, List.setIfInBounds_toArray, List.set_cons_zero, List.set_cons_succ]
            refine wa_none 6 rfl (by kernel_rfl) (by kernel_rfl) (by kernel_rfl) (fun _ _ _ h => h) (by kernel_rfl) ⟨c0, c1⟩ ?_
            try simp only [Act.put, List.setIfInBounds_toArray, List.set_cons_zero, List.set_cons_succ]
            refine wa_none 7 rfl (by kernel_rfl) (by kernel_rfl) (by kernel_rfl) (fun _ _ _ h => h) (by kernel_rfl) ⟨c0, c1⟩ ?_
            try simp only [Act.put, List.setIfInBounds_toArray, List.set_cons_zero, List.set_cons_succ]
            refine wa_none 8 rfl (by kernel_rfl) (by kernel_rfl) (by kernel_rfl) (fun _ _ _ h => h) (by kernel_rfl) ⟨c0, c1⟩ ?_
            try simp only [Act.put, List.setIfInBounds_toArray, List.set_cons_zero, List.set_cons_succ]
            refine wa_none 9 rfl (by kernel_rfl) (by kernel_rfl) (by kernel_rfl) (fun _ _ _ h => h) (by kernel_rfl) ⟨c0, c1⟩ ?_
            try simp only [Act.put, List.setIfInBounds_toArray, List.set_cons_zero, List.set_cons_succ]
            refine wa_none 10 rfl (by kernel_rfl) (by kernel_rfl) (by kernel_rfl) (fun _ _ _ h => h) (by kernel_rfl) ⟨c0, c1⟩ ?_
            try simp only [Act.put, List.setIfInBounds_toArray, List.set_cons_zero, List.set_cons_succ]
            refine wa_none 11 rfl (by kernel_rfl) (by kernel_rfl) (by kernel_rfl) (fun _ _ _ h => h) (by kernel_rfl) ⟨c0, c1⟩ ?_
            try simp only [Act.put, List.setIfInBounds_toArray, List.set_cons_zero, List.set_cons_succ]
            refine wa_none 12 rfl (by kernel_rfl) (by kernel_rfl) (by kernel_rfl) (fun _ _ _ h => h) (by kernel_rfl) ⟨c0, c1⟩ ?_
            try simp only [Act.put, List.setIfInBounds_toArray, List.set_cons_zero, List.set_cons_succ]
            refine wa_none 13 rfl (by kernel_rfl) (by kernel_rfl) (by kernel_rfl) (fun _ _ _ h => h) (by kernel_rfl) ⟨c0, c1⟩ ?_
            try simp only [Act.put, List.setIfInBounds_toArray, List.set_cons_zero, List.set_cons_succ]
            refine wa_none 14 rfl (by kernel_rfl) (by kernel_rfl) (by kernel_rfl) (fun _ _ _ h => h) (by kernel_rfl) ⟨c0, c1⟩ ?_
            try simp only [Act.put, List.setIfInBounds_toArray, List.set_cons_zero, List.set_cons_succ]
            refine wa_none 15 rfl (by kernel_rfl) (by kernel_rfl) (by kernel_rfl) (fun _ _ _ h => h) (by kernel_rfl) ⟨c0, c1⟩ ?_
            try simp only [Act.put, List.setIfInBounds_toArray, List.set_cons_zero, List.set_cons_succ]
            refine wa_none 16 rfl (by kernel_rfl) (by kernel_rfl) (by kernel_rfl) (fun _ _ _ h => h) (by kernel_rfl) ⟨c0, c1⟩ ?_
            try simp only [Act.put, List.setIfInBounds_toArray, List.set_cons_zero, List.set_cons_succ]
            refine wa_none 17 rfl (by kernel_rfl) (by kernel_rfl) (by kernel_rfl) (fun _ _ _ h => h) (by kernel_rfl) ⟨c0, c1⟩ ?_
            try simp only [Act.put, List.setIfInBounds_toArray, List.set_cons_zero, List.set_cons_succ]
            refine wa_none 18 rfl (by kernel_rfl) (by kernel_rfl) (by kernel_rfl) (fun _ _ _ h => h) (by kernel_rfl) ⟨c0, c1⟩ ?_
            try simp only [Act.put, List.setIfInBounds_toArray, List.set_cons_zero, List.set_cons_succ]
            refine wa_none 19 rfl (by kernel_rfl) (by kernel_rfl) (by kernel_rfl) (fun _ _ _ h => h) (by kernel_rfl) ⟨c0, c1⟩ ?_
            try simp only [Act.put, List.setIfInBounds_toArray, List.set_cons_zero, List.set_cons_succ]
            refine wa_none 20 rfl (by kernel_rfl) (by kernel_rfl) (by kernel_rfl) (fun _ _ _ h => h) (by kernel_rfl) ⟨c0, c1⟩ ?_
            try simp only [Act.put, List.setIfInBounds_toArray, List.set_cons_zero, List.set_cons_succ]
            refine wa_none 21 rfl (by kernel_rfl) (by kernel_rfl) (by kernel_rfl) (fun _ _ _ h => h) (by kernel_rfl) ⟨c0, c1⟩ ?_
            try simp only [Act.put, List.setIfInBounds_toArray, List.set_cons_zero, List.set_cons_succ]
            refine wa_none 22 rfl (by kernel_rfl) (by kernel_rfl) (by kernel_rfl) (fun _ _ _ h => h) (by kernel_rfl) ⟨c0, c1⟩ ?_
            try simp only [Act.put, List.setIfInBounds_toArray, List.set_cons_zero, List.set_cons_succ]
            refine wa_none 23 rfl (by kernel_rfl) (by kernel_rfl) (by kernel_rfl) (fun _ _ _ h => h) (by kernel_rfl) ⟨c0, c1⟩ ?_
            try simp only [Act.put, List.setIfInBounds_toArray, List.set_cons_zero, List.set_cons_succ]
            refine wa_take (v := (.bool false)) 24 rfl (by kernel_rfl) (by kernel_rfl) (by kernel_rfl) (fun _ _ _ h => h) (by kernel_rfl) (fun w hSw => ?_) ⟨c0, c1⟩ ?_
            · try dsimp only at hSw
              go_simp
            try simp only [Act.put, List.setIfInBounds_toArray, List.set_cons_zero, List.set_cons_succ]
            refine wa_take (v := (.bool false)) 25 rfl (by kernel_rfl) (by kernel_rfl) (by kernel_rfl) (fun _ _ _ h => h) (by kernel_rfl) (fun w hSw => ?_) ⟨c0, c1⟩ ?_
            · try dsimp only at hSw
              go_simp
            try simp only [Act.put, List.setIfInBounds_toArray, List.set_cons_zero, List.set_cons_succ]
            refine wa_take (v := (.int .i64 Tk)) 26 rfl (by kernel_rfl) (by kernel_rfl) (by kernel_rfl) (fun _ _ _ h => h) (by kernel_rfl) (fun w hSw => ?_) ⟨c0, c1⟩ ?_
            · try dsimp only at hSw
              go_simp
            try simp only [Act.put, List.setIfInBounds_toArray, List.set_cons_zero, List.set_cons_succ]
            refine wa_take (v := (.bool true)) 27 rfl (by kernel_rfl) (by kernel_rfl) (by kernel_rfl) (fun _ _ _ h => h) (by kernel_rfl) (fun w hSw => ?_) ⟨c0, c1⟩ ?_
            · try dsimp only at hSw
              go_simp
            try simp only [Act.put, List.setIfInBounds_toArray, List.set_cons_zero, List.set_cons_succ]
            refine wa_take (v := (.bool true)) 28 rfl (by kernel_rfl) (by kernel_rfl) (by kernel_rfl) (fun _ _ _ h => h) (by kernel_rfl) (fun w hSw => ?_) ⟨c0, c1⟩ ?_
            · try dsimp only at hSw
              go_simp
            try simp only [Act.put, List.setIfInBounds_toArray, List.set_cons_zero, List.set_cons_succ]
            refine wa_take (v := (.slice none 0 0)) 29 rfl (by kernel_rfl) (by kernel_rfl) (by kernel_rfl) (fun _ _ _ h => h) (by kernel_rfl) (fun w hSw => ?_) ⟨c0, c1⟩ ?_
            · try dsimp only at hSw
              go_simp
            try simp only [Act.put, List.setIfInBounds_toArray, List.set_cons_zero, List.set_cons_succ]
            refine wa_take (v := (.int .i64 0)) 30 rfl (by kernel_rfl) (by kernel_rfl) (by kernel_rfl) (fun _ _ _ h => h) (by kernel_rfl) (fun w hSw => ?_) ⟨c0, c1⟩ ?_
            · try dsimp only at hSw
              go_simp
            try simp only [Act.put, List.setIfInBounds_toArray, List.set_cons_zero, List.set_cons_succ]
            refine wa_take (v := (.bool false)) 31 rfl (by kernel_rfl) (by kernel_rfl) (by kernel_rfl) (fun _ _ _ h => h) (by kernel_rfl) (fun w hSw => ?_) ⟨c0, c1⟩ ?_
            · try dsimp only at hSw
              go_simp
            try simp only [Act.put, List.setIfInBounds_toArray, List.set_cons_zero, List.set_cons_succ]
            refine wa_take (v := (.bool false)) 32 rfl (by kernel_rfl) (by kernel_rfl) (by kernel_rfl) (fun _ _ _ h => h) (by kernel_rfl) (fun w hSw => ?_) ⟨c0, c1⟩ ?_
            · try dsimp only at hSw
              go_simp
            try simp only [Act.put, List.setIfInBounds_toArray, List.set_cons_zero, List.set_cons_succ]
            refine wa_take (v := (.agg #[.int .i64 0, .slice none 0 0])) 33 rfl (by kernel_rfl) (by kernel_rfl) (by kernel_rfl) (fun _ _ _ h => h) (by kernel_rfl) (fun w hSw => ?_) ⟨c0, c1⟩ ?_
            · try dsimp only at hSw
              go_simp
            try simp only [Act.put, List.setIfInBounds_toArray, List.set_cons_zero, List.set_cons_succ]
            refine wa_take (v := (.agg #[.int .i64 0, .slice none 0 0])) 34 rfl (by kernel_rfl) (by kernel_rfl) (by kernel_rfl) (fun _ _ _ h => h) (by kernel_rfl) (fun w hSw => ?_) ⟨c0, c1⟩ ?_
            · try dsimp only at hSw
              go_simp
            try simp only [Act.put, List.setIfInBounds_toArray, List.set_cons_zero, List.set_cons_succ]
            refine wa_one 35 (by kernel_rfl) rfl (by kernel_rfl) (fun Kc hK => ?_)
            go_simp
            go_at_call 17
            refine (frame_self ⟨0, 0, fun _ => 0⟩ (.slice none 0 0) (.slice none 0 0) (w11.drewN 1) (sl_nil _ _) (sl_nil _ _)).mono ?_
            rintro e w12 ⟨rfl, b⟩
            have BB := hide (below_of (w0 := w11.drewN 1) (unhide b10) b)
            have d0 := ((unhide BB).cell (p := ⟨w5.heap.size, 0, none⟩) hlt).trans c0
            have d1 := ((unhide BB).cell (p := ⟨w5.heap.size, 1, none⟩) hlt).trans c1
            clear b
            refine hK.out _ _ ⟨d0, d1⟩ ?_
            clear hK Kc
            try simp only [Act.put, List.setIfInBounds_toArray, List.set_cons_zero, List.set_cons_succ]
            refine wa_take (v := (.bool false)) 36 rfl (by kernel_rfl) (by kernel_rfl) (by kernel_rfl) (fun _ _ _ h => h) (by kernel_rfl) (fun w hSw => ?_) ⟨d0, d1⟩ ?_
            · try dsimp only at hSw
              go_simp
            try simp only [Act.put, List.setIfInBounds_toArray, List.set_cons_zero, List.set_cons_succ]
            refine wa_take (v := (.bool false)) 37 rfl (by kernel_rfl) (by kernel_rfl) (by kernel_rfl) (fun _ _ _ h => h) (by kernel_rfl) (fun w hSw => ?_) ⟨d0, d1⟩ ?_
            · try dsimp only at hSw
              go_simp
            try simp only [Act.put, List.setIfInBounds_toArray, List.set_cons_zero, List.set_cons_succ]
            refine wa_take (v := (.bool false)) 38 rfl (by kernel_rfl) (by kernel_rfl) (by kernel_rfl) (fun _ _ _ h => h) (by kernel_rfl) (fun w hSw => ?_) ⟨d0, d1⟩ ?_
            · try dsimp only at hSw
              go_simp
            try simp only [Act.put, List.setIfInBounds_toArray, List.set_cons_zero, List.set_cons_succ]
            refine wa_take (v := (.bool false)) 39 rfl (by kernel_rfl) (by kernel_rfl) (by kernel_rfl) (fun _ _ _ h => h) (by kernel_rfl) (fun w hSw => ?_) ⟨d0, d1⟩ ?_
            · try dsimp only at hSw
              go_simp
            try simp only [Act.put, List.setIfInBounds_toArray, List.set_cons_zero, List.set_cons_succ]
            refine wa_done (by kernel_rfl) ?_
            go_wp2
            go_meet
            exact ⟨rfl, unhide BB⟩
        case rest => as_aux_lemma =>
          obtain ⟨rfl, hcut⟩ := hcut
          obtain ⟨w12, hw⟩ : ∃ z, z = wc := ⟨_, rfl⟩
          rw [← hw] at hcut ⊢
          clear hw
          replace HL := hide ((unhide HL).below hcut (Nat.le_refl _))
          replace HF := hide ((unhide HF).below hcut (Nat.le_refl _))
          replace HX := hide ((unhide HX).below hcut)
          replace B := hide (below_of (unhide B) hcut)
          replace HI := hide ((unhide HI).below hcut (Nat.le_refl _))
          replace RA := hide ((unhide RA).below hcut (Nat.le_refl _))
          replace RX := hide ((unhide RX).below hcut (Nat.le_refl _))
          replace RB := hide ((unhide RB).below hcut (Nat.le_refl _))
          replace RC := hide ((unhide RC).below hcut)
          replace H14 := hide ((unhide H14).below hcut)
          replace G5 := hide (below_of (unhide G5) hcut)
          replace RD := hide ((unhide RD).below hcut (Nat.le_refl _))
          clear hcut
          go_upto_region 34 with fail
          go_cut [217] from 194 to 216 (fun xb wc => xb = .bool false ∧ Below w12.heap.size w12 wc)
          case first => as_aux_lemma =>
            by_cases hP : Tw = 0
            · obtain ⟨⟨pa, ca, rfl⟩, fa⟩ := (unhide RC).1 hP
              obtain ⟨hat, _⟩ := twE_zero.1 ((unhide HW).trans hP)
              obtain ⟨hck, hk0, hkn⟩ := chkAt_zero.1 hat
              obtain ⟨K, hkK⟩ := Int.eq_ofNat_of_zero_le hk0
              subst hkK
              have FA := hide (show Fs w12 (.slice pa (n + 1) ca) (n + 1) (snoc X n (X K)) from fa.fs)
              obtain ⟨lb, lo, LB, rfl, hlb, hlc⟩ := (unhide HL).some (by omega)
              obtain ⟨q1, q2, q3⟩ := hlc K (by omega)
              obtain ⟨pk, ck, hbk, -, -⟩ := q3.shape
              rw [hbk] at q2 q3
              have Q3 := hide q3
              have i1 : (0 : Int) ≤ (K : Int) := by omega
              have i2 : (K : Int) < (n : Int) := by omega
              have b10 := hide (below_drewN (Below.refl w12.heap.size w12) 1)
              have b10a := hide (below_drewN (below_alloc (Below.refl w12.heap.size w12) (.cells #[.int .i64 (X K).t, .slice pk (X K).n ck] 25)) 1)
              clear HP HT HW HC HK RA RX RB RC RD HI HI5 HL5 H14 G5 HX HO HF
              subst hP
              clear fa hat hck hk0 hkn hlc q3 hbk
              refine wa_start (fun w' => w'.cell? ⟨lb, lo + K * 2, none⟩ = some (.int .i64 (X K).t) ∧ w'.cell? ⟨lb, lo + K * 2 + 1, none⟩ = some (.slice pk (X K).n ck)) ⟨q1, q2⟩ ?_
              refine wa_take (v := (.int .i64 0)) 0 rfl (by kernel_rfl) (by kernel_rfl) (by kernel_rfl) (fun _ _ _ h => h) (by kernel_rfl) (fun w hSw => ?_) ⟨q1, q2⟩ ?_
              · try dsimp only at hSw
                go_simp
              try simp only [Act.put, List.setIfInBounds_toArray, List.set_cons_zero, List.set_cons_succ]
              refine wa_take (v := (.bool true)) 1 rfl (by kernel_rfl) (by kernel_rfl) (by kernel_rfl) (fun _ _ _ h => h) (by kernel_rfl) (fun w hSw => ?_) ⟨q1, q2⟩ ?_
              · try dsimp only at hSw
                go_simp
              try simp only [Act.put, List.setIfInBounds_toArray, List.set_cons_zero, List.set_cons_succ]
              refine wa_take (v := (.bool true)) 2 rfl (by kernel_rfl) (by kernel_rfl) (by kernel_rfl) (fun _ _ _ h => h) (by kernel_rfl) (fun w hSw => ?_) ⟨q1, q2⟩ ?_
              · try dsimp only at hSw
                go_simp
              try simp only [Act.put, List.setIfInBounds_toArray, List.set_cons_zero, List.set_cons_succ]
              refine wa_take (v := (.slice pa (n + 1) ca)) 3 rfl (by kernel_rfl) (by kernel_rfl) (by kernel_rfl) (fun _ _ _ h => h) (by kernel_rfl) (fun w hSw => ?_) ⟨q1, q2⟩ ?_
              · try dsimp only at hSw
                go_simp
              try simp only [Act.put, List.setIfInBounds_toArray, List.set_cons_zero, List.set_cons_succ]
              refine wa_take (v := (.slice (some ⟨lb, lo, none⟩) n cap)) 4 rfl (by kernel_rfl) (by kernel_rfl) (by kernel_rfl) (fun _ _ _ h => h) (by kernel_rfl) (fun w hSw => ?_) ⟨q1, q2⟩ ?_
              · try dsimp only at hSw
                go_simp
              try simp only [Act.put, List.setIfInBounds_toArray, List.set_cons_zero, List.set_cons_succ]
              refine wa_take (v := (.slice (some ⟨lb, lo, none⟩) n cap)) 6 rfl (by kernel_rfl) (by kernel_rfl) (by kernel_rfl) (fun _ _ _ h => h) (by kernel_rfl) (fun w hSw => ?_) ⟨q1, q2⟩ ?_
              · try dsimp only at hSw
                go_simp
              try simp only [Act.put, List.setIfInBounds_toArray, List.set_cons_zero, List.set_cons_succ]
              refine wa_take (v := (.int .i64 K)) 7 rfl (by kernel_rfl) (by kernel_rfl) (by kernel_rfl) (fun _ _ _ h => h) (by kernel_rfl) (fun w hSw => ?_) ⟨q1, q2⟩ ?_
              · try dsimp only at hSw
                go_simp
              try simp only [Act.put, List.setIfInBounds_toArray, List.set_cons_zero, List.set_cons_succ]
              refine wa_take (v := (.pointer (some ⟨lb, lo + K * 2, none⟩))) 8 rfl (by kernel_rfl) (by kernel_rfl) (by kernel_rfl) (fun _ _ _ h => h) (by kernel_rfl) (fun w hSw => ?_) ⟨q1, q2⟩ ?_
              · try dsimp only at hSw
                go_simp
              try simp only [Act.put, List.setIfInBounds_toArray, List.set_cons_zero, List.set_cons_succ]
              refine wa_take (v := (.agg #[.int .i64 (X K).t, .slice pk (X K).n ck])) 9 rfl (by kernel_rfl) (by kernel_rfl) (by kernel_rfl) (fun _ _ _ h => h) (by kernel_rfl) (fun w hSw => ?_) ⟨q1, q2⟩ ?_
              · try dsimp only at hSw
                go_simp
              try simp only [Act.put, List.setIfInBounds_toArray, List.set_cons_zero, List.set_cons_succ]
              refine wa_two 5 10 (by kernel_rfl) rfl rfl (by kernel_rfl) (by kernel_rfl) (fun Kc hK => ?_) (fun Kc hK => ?_)
              · go_simp
                go_at_call 8
                refine (twinFrames_any X _ n (w12.drewN 1) ((unhide HL).below (unhide b10) (Nat.le_refl _)) (by omega) (unhide HN)).mono ?_
                rintro e w13 ⟨v13, rfl, o13, b⟩
                obtain ⟨B13, r1, r2, r3⟩ := o13
                obtain ⟨p13, c13, rfl⟩ := owns_shape r1
                have BB := hide (below_of (w0 := w12.drewN 1) (unhide b10) b)
                have R1 := hide (owns_mono (B' := w12.heap.size) r1 (unhide b10).size)
                have R2 := hide (show ∀ i, i < n → w13.ownsRow w12.heap.size 5 1 (B13 i) (X i).n (vL .u8 (X i).b (X i).n) from fun i hi => owns_mono (r2 i hi) (unhide b10).size)
                have d0 := ((unhide BB).cell (p := ⟨lb, lo + K * 2, none⟩) hlb).trans q1
                have d1 := ((unhide BB).cell (p := ⟨lb, lo + K * 2 + 1, none⟩) hlb).trans q2
                have hlt1 := Nat.lt_of_lt_of_le hlb (unhide BB).size
                have hsz := (unhide BB).size
                clear b r1 r2 r3
                refine hK.out _ _ ⟨d0, d1⟩ ?_
                clear hK Kc
                try simp only [Act.put, List.setIfInBounds_toArray, List.set_cons_zero, List.set_cons_succ]
                refine wa_one 10 (by kernel_rfl) rfl (by kernel_rfl) (fun Kc hK => ?_)
                go_simp
                refine hK.out _ _ ⟨(World.cell?_alloc_past _ _ _ hlt1).trans d0, (World.cell?_alloc_past _ _ _ hlt1).trans d1⟩ ?_
                clear hK Kc
                try simp only [Act.put, List.setIfInBounds_toArray, List.set_cons_zero, List.set_cons_succ]
                refine wa_one 11 (by kernel_rfl) rfl (by kernel_rfl) (fun Kc hK => ?_)
                refine wp_appF (.tmp 199) (.tmp 204) rfl w12.heap.size _ n (fL (fun i => (X i).t) B13 n) rfl ((unhide R1).alloc _) _ 1 [.int .i64 (X K).t, .slice pk (X K).n ck] rfl (rw_at _ _ _ (oneCell_slice _ _ _) _ _ (by simp)) (by omega) (by omega) (by simp; omega) ?_
                intro v14 w14 o14 b14 g14
                have B14 := hide (below_up (below_alloc (unhide BB) _) b14)
                have F14 := hide (fs_app (B' := fun _ => .slice pk (X K).n ck) (Y := fun _ => X K) (m := 1) ((unhide R1).alloc _) (fun i hi => (unhide R2 i hi).alloc _) (fun i _ => (unhide Q3).below (unhide B14) (Nat.le_refl _)) g14 o14)
                replace d0 := ((unhide B14).cell (p := ⟨lb, lo + K * 2, none⟩) hlb).trans q1
                replace d1 := ((unhide B14).cell (p := ⟨lb, lo + K * 2 + 1, none⟩) hlb).trans q2
                clear o14 b14 g14
                obtain ⟨p14, c14, rfl, -, -⟩ := (unhide F14).shape
                refine hK.out _ _ ⟨d0, d1⟩ ?_
                clear hK Kc
                try simp only [Act.put, List.setIfInBounds_toArray, List.set_cons_zero, List.set_cons_succ]
                refine wa_one 12 (by kernel_rfl) rfl (by kernel_rfl) (fun Kc hK => ?_)
                go_simp
                go_at_call 16
                refine (frames_self (snoc X n (X K)) (n + 1) _ _ _ ((unhide FA).below (unhide B14) (Nat.le_refl _)) (unhide F14)).mono ?_
                rintro e w15 ⟨rfl, b⟩
                have B15 := hide (below_of (unhide B14) b)
                replace d0 := ((unhide B15).cell (p := ⟨lb, lo + K * 2, none⟩) hlb).trans q1
                replace d1 := ((unhide B15).cell (p := ⟨lb, lo + K * 2 + 1, none⟩) hlb).trans q2
                clear b
                refine hK.out _ _ ⟨d0, d1⟩ ?_
                clear hK Kc
                try simp only [Act.put, List.setIfInBounds_toArray, List.set_cons_zero, List.set_cons_succ]
                refine wa_take (v := (.bool false)) 13 rfl (by kernel_rfl) (by kernel_rfl) (by kernel_rfl) (fun _ _ _ h => h) (by kernel_rfl) (fun w hSw => ?_) ⟨d0, d1⟩ ?_
                · try dsimp only at hSw
                  go_simp
                try simp only [Act.put, List.setIfInBounds_toArray, List.set_cons_zero, List.set_cons_succ]
                refine wa_take (v := (.bool false)) 14 rfl (by kernel_rfl) (by kernel_rfl) (by kernel_rfl) (fun _ _ _ h => h) (by kernel_rfl) (fun w hSw => ?_) ⟨d0, d1⟩ ?_
                · try dsimp only at hSw
                  go_simp
                try simp only [Act.put, List.setIfInBounds_toArray, List.set_cons_zero, List.set_cons_succ]
                refine wa_take (v := (.bool false)) 15 rfl (by kernel_rfl) (by kernel_rfl) (by kernel_rfl) (fun _ _ _ h => h) (by kernel_rfl) (fun w hSw => ?_) ⟨d0, d1⟩ ?_
                · try dsimp only at hSw
                  go_simp
                try simp only [Act.put, List.setIfInBounds_toArray, List.set_cons_zero, List.set_cons_succ]
                refine wa_take (v := (.int .i64 0)) 16 rfl (by kernel_rfl) (by kernel_rfl) (by kernel_rfl) (fun _ _ _ h => h) (by kernel_rfl) (fun w hSw => ?_) ⟨d0, d1⟩ ?_
                · try dsimp only at hSw
                  go_simp
                try simp only [Act.put, List.setIfInBounds_toArray, List.set_cons_zero, List.set_cons_succ]
                refine wa_take (v := (.bool false)) 17 rfl (by kernel_rfl) (by kernel_rfl) (by kernel_rfl) (fun _ _ _ h => h) (by kernel_rfl) (fun w hSw => ?_) ⟨d0, d1⟩ ?_
                · try dsimp only at hSw
                  go_simp
                try simp only [Act.put, List.setIfInBounds_toArray, List.set_cons_zero, List.set_cons_succ]
                refine wa_take (v := (.bool false)) 18 rfl (by kernel_rfl) (by kernel_rfl) (by kernel_rfl) (fun _ _ _ h => h) (by kernel_rfl) (fun w hSw => ?_) ⟨d0, d1⟩ ?_
                · try dsimp only at hSw
                  go_simp
                try simp only [Act.put, List.setIfInBounds_toArray, List.set_cons_zero, List.set_cons_succ]
                refine wa_none 19 rfl (by kernel_rfl) (by kernel_rfl) (by kernel_rfl) (fun _ _ _ h => h) (by kernel_rfl) ⟨d0, d1⟩ ?_
                try simp only [Act.put, List.setIfInBounds_toArray, List.set_cons_zero, List.set_cons_succ]
                refine wa_none 20 rfl (by kernel_rfl) (by kernel_rfl) (by kernel_rfl) (fun _ _ _ h => h) (by kernel_rfl) ⟨d0, d1⟩ ?_
                try simp only [Act.put, List.setIfInBounds_toArray, List.set_cons_zero, List.set_cons_succ]
                refine wa_none 21 rfl (by kernel_rfl) (by kernel_rfl) (by kernel_rfl) (fun _ _ _ h => h) (by kernel_rfl) ⟨d0, d1⟩ ?_
                try simp only [Act.put, List.setIfInBounds_toArray, List.set_cons_zero, List.set_cons_succ]
                refine wa_take (v := (.bool false)) 22 rfl (by kernel_rfl) (by kernel_rfl) (by kernel_rfl) (fun _ _ _ h => h) (by kernel_rfl) (fun w hSw => ?_) ⟨d0, d1⟩ ?_
                · try dsimp only at hSw
                  go_simp
                try simp only [Act.put, List.setIfInBounds_toArray, List.set_cons_zero, List.set_cons_succ]
                refine wa_take (v := (.bool false)) 23 rfl (by kernel_rfl) (by kernel_rfl) (by kernel_rfl) (fun _ _ _ h => h) (by kernel_rfl) (fun w hSw => ?_) ⟨d0, d1⟩ ?_
                · try dsimp only at hSw
                  go_simp
                try simp only [Act.put, List.setIfInBounds_toArray, List.set_cons_zero, List.set_cons_succ]
                refine wa_done (by kernel_rfl) ?_
                go_wp2
                go_meet
                exact ⟨rfl, unhide B15⟩
              · go_simp
                refine hK.out _ _ ⟨(World.cell?_alloc_past _ _ _ hlb).trans q1, (World.cell?_alloc_past _ _ _ hlb).trans q2⟩ ?_
                clear hK Kc
                try simp only [Act.put, List.setIfInBounds_toArray, List.set_cons_zero, List.set_cons_succ]
                refine wa_one 5 (by kernel_rfl) rfl (by kernel_rfl) (fun Kc hK => ?_)
                go_simp
                go_at_call 8
                refine (twinFrames_any X _ n (World.drewN (w12.alloc _) 1) ((unhide HL).below (unhide b10a) (Nat.le_refl _)) (by omega) (unhide HN)).mono ?_
                rintro e w13 ⟨v13, rfl, o13, b⟩
                obtain ⟨B13, r1, r2, r3⟩ := o13
                obtain ⟨p13, c13, rfl⟩ := owns_shape r1
                have BB := hide (below_of (w0 := World.drewN (w12.alloc _) 1) (unhide b10a) b)
                have R1 := hide (owns_mono (B' := w12.heap.size) r1 (unhide b10a).size)
                have R2 := hide (show ∀ i, i < n → w13.ownsRow w12.heap.size 5 1 (B13 i) (X i).n (vL .u8 (X i).b (X i).n) from fun i hi => owns_mono (r2 i hi) (unhide b10a).size)
                have d0 := ((unhide BB).cell (p := ⟨lb, lo + K * 2, none⟩) hlb).trans q1
                have d1 := ((unhide BB).cell (p := ⟨lb, lo + K * 2 + 1, none⟩) hlb).trans q2
                have hlt1 := Nat.lt_of_lt_of_le hlb (unhide BB).size
                have hsz := (unhide BB).size
                have RL := hide (((rw_one w12 (X K).t (.slice pk (X K).n ck) (oneCell_slice _ _ _) 25).below (below_drewN (Below.refl _ _) 1) (Nat.le_refl _)).below b (Nat.le_refl _))
                clear b r1 r2 r3
                refine hK.out _ _ ⟨d0, d1⟩ ?_
                clear hK Kc
                try simp only [Act.put, List.setIfInBounds_toArray, List.set_cons_zero, List.set_cons_succ]
                refine wa_one 11 (by kernel_rfl) rfl (by kernel_rfl) (fun Kc hK => ?_)
                refine wp_appF (.tmp 199) (.tmp 204) rfl w12.heap.size _ n (fL (fun i => (X i).t) B13 n) rfl (unhide R1) _ 1 [.int .i64 (X K).t, .slice pk (X K).n ck] rfl (unhide RL) (by omega) (by omega) hsz ?_
                intro v14 w14 o14 b14 g14
                have B14 := hide (below_up (unhide BB) b14)
                have F14 := hide (fs_app (B' := fun _ => .slice pk (X K).n ck) (Y := fun _ => X K) (m := 1) (unhide R1) (unhide R2) (fun i _ => (unhide Q3).below (unhide B14) (Nat.le_refl _)) g14 o14)
                replace d0 := ((unhide B14).cell (p := ⟨lb, lo + K * 2, none⟩) hlb).trans q1
                replace d1 := ((unhide B14).cell (p := ⟨lb, lo + K * 2 + 1, none⟩) hlb).trans q2
                clear o14 b14 g14
                obtain ⟨p14, c14, rfl, -, -⟩ := (unhide F14).shape
                refine hK.out _ _ ⟨d0, d1⟩ ?_
                clear hK Kc
                try simp only [Act.put, List.setIfInBounds_toArray, List.set_cons_zero, List.set_cons_succ]
                refine wa_one 12 (by kernel_rfl) rfl (by kernel_rfl) (fun Kc hK => ?_)
                go_simp
                go_at_call 16
                refine (frames_self (snoc X n (X K)) (n + 1) _ _ _ ((unhide FA).below (unhide B14) (Nat.le_refl _)) (unhide F14)).mono ?_
                rintro e w15 ⟨rfl, b⟩
                have B15 := hide (below_of (unhide B14) b)
                replace d0 := ((unhide B15).cell (p := ⟨lb, lo + K * 2, none⟩) hlb).trans q1
                replace d1 := ((unhide B15).cell (p := ⟨lb, lo + K * 2 + 1, none⟩) hlb).trans q2
                clear b
                refine hK.out _ _ ⟨d0, d1⟩ ?_
                clear hK Kc
                try simp only [Act.put, List.setIfInBounds_toArray, List.set_cons_zero, List.set_cons_succ]
                refine wa_take (v := (.bool false)) 13 rfl (by kernel_rfl) (by kernel_rfl) (by kernel_rfl) (fun _ _ _ h => h) (by kernel_rfl) (fun w hSw => ?_) ⟨d0, d1⟩ ?_
                · try dsimp only at hSw
                  go_simp
                try simp only [Act.put, List.setIfInBounds_toArray, List.set_cons_zero, List.set_cons_succ]
                refine wa_take (v := (.bool false)) 14 rfl (by kernel_rfl) (by kernel_rfl) (by kernel_rfl) (fun _ _ _ h => h) (by kernel_rfl) (fun w hSw => ?_) ⟨d0, d1⟩ ?_
                · try dsimp only at hSw
                  go_simp
                try simp only [Act.put, List.setIfInBounds_toArray, List.set_cons_zero, List.set_cons_succ]
                refine wa_take (v := (.bool false)) 15 rfl (by kernel_rfl) (by kernel_rfl) (by kernel_rfl) (fun _ _ _ h => h) (by kernel_rfl) (fun w hSw => ?_) ⟨d0, d1⟩ ?_
                · try dsimp only at hSw
                  go_simp
                try simp only [Act.put, List.setIfInBounds_toArray, List.set_cons_zero, List.set_cons_succ]
                refine wa_take (v := (.int .i64 0)) 16 rfl (by kernel_rfl) (by kernel_rfl) (by kernel_rfl) (fun _ _ _ h => h) (by kernel_rfl) (fun w hSw => ?_) ⟨d0, d1⟩ ?_
                · try dsimp only at hSw
                  go_simp
                try simp only [Act.put, List.setIfInBounds_toArray, List.set_cons_zero, List.set_cons_succ]
                refine wa_take (v := (.bool false)) 17 rfl (by kernel_rfl) (by kernel_rfl) (by kernel_rfl) (fun _ _ _ h => h) (by kernel_rfl) (fun w hSw => ?_) ⟨d0, d1⟩ ?_
                · try dsimp only at hSw
                  go_simp
                try simp only [Act.put, List.setIfInBounds_toArray, List.set_cons_zero, List.set_cons_succ]
                refine wa_take (v := (.bool false)) 18 rfl (by kernel_rfl) (by kernel_rfl) (by kernel_rfl) (fun _ _ _ h => h) (by kernel_rfl) (fun w hSw => ?_) ⟨d0, d1⟩ ?_
                · try dsimp only at hSw
                  go_simp
                try simp only [Act.put, List.setIfInBounds_toArray, List.set_cons_zero, List.set_cons_succ]
                refine wa_none 19 rfl (by kernel_rfl) (by kernel_rfl) (by kernel_rfl) (fun _ _ _ h => h) (by kernel_rfl) ⟨d0, d1⟩ ?_
                try simp only [Act.put, List.setIfInBounds_toArray, List.set_cons_zero, List.set_cons_succ]
                refine wa_none 20 rfl (by kernel_rfl) (by kernel_rfl) (by kernel_rfl) (fun _ _ _ h => h) (by kernel_rfl) ⟨d0, d1⟩ ?_
                try simp only [Act.put, List.setIfInBounds_toArray, List.set_cons_zero, List.set_cons_succ]
                refine wa_none 21 rfl (by kernel_rfl) (by kernel_rfl) (by kernel_rfl) (fun _ _ _ h => h) (by kernel_rfl) ⟨d0, d1⟩ ?_
                try simp only [Act.put, List.setIfInBounds_toArray, List.set_cons_zero, List.set_cons_succ]
                refine wa_take (v := (.bool false)) 22 rfl (by kernel_rfl) (by kernel_rfl) (by kernel_rfl) (fun _ _ _ h => h) (by kernel_rfl) (fun w hSw => ?_) ⟨d0, d1⟩ ?_
                · try dsimp only at hSw
                  go_simp
                try simp only [Act.put, List.setIfInBounds_toArray, List.set_cons_zero, List.set_cons_succ]
                refine wa_take (v := (.bool false)) 23 rfl (by kernel_rfl) (by kernel_rfl) (by kernel_rfl) (fun _ _ _ h => h) (by kernel_rfl) (fun w hSw => ?_) ⟨d0, d1⟩ ?_
                · try dsimp only at hSw
                  go_simp
                try simp only [Act.put, List.setIfInBounds_toArray, List.set_cons_zero, List.set_cons_succ]
                refine wa_done (by kernel_rfl) ?_
                go_wp2
                go_meet
                exact ⟨rfl, unhide B15⟩
            · obtain rfl := (unhide RC).2 hP
              have z1 : (Tw == 0) = false := by simpa using hP
              have z2 : (Tw != 0) = true := by simpa using hP
              have z3 : decide (Tw = 0) = false := by simpa using hP
              clear HP HT HW HC HK RA RX RB RD HI HL HI5 HL5 HF H14 G5 B HN HO
              go_quiet (fail)
              all_goals (go_wp2; go_meet; exact ⟨rfl, below_drewN (Below.refl _ _) _⟩)
          case rest => as_aux_lemma =>
            obtain ⟨rfl, hcut⟩ := hcut
            obtain ⟨w13, hw⟩ : ∃ z, z = wc := ⟨_, rfl⟩
            rw [← hw] at hcut ⊢
            clear hw
            replace HL := hide ((unhide HL).below hcut (Nat.le_refl _))
            replace HF := hide ((unhide HF).below hcut (Nat.le_refl _))
            replace HX := hide ((unhide HX).below hcut)
            replace B := hide (below_of (unhide B) hcut)
            replace HI := hide ((unhide HI).below hcut (Nat.le_refl _))
            replace RA := hide ((unhide RA).below hcut (Nat.le_refl _))
            replace RX := hide ((unhide RX).below hcut (Nat.le_refl _))
            replace RB := hide ((unhide RB).below hcut (Nat.le_refl _))
            replace RC := hide ((unhide RC).below hcut)
            replace H14 := hide ((unhide H14).below hcut)
            replace G5 := hide (below_of (unhide G5) hcut)
            replace RD := hide ((unhide RD).below hcut (Nat.le_refl _))
            clear hcut
            go_upto_if 221 with (go_at_call 8; refine (twinFrames_any X _ n _ (unhide HL) (by omega) (unhide HN)).mono ?_; rintro e w14 ⟨vw, rfl, ow, b⟩; have OW := hide ow; have BW := hide b; clear b ow)
            go_cut [] from 222 to 239 (fun wc => Fs wc vw n (if Co = 0 then bent X k.toNat place mask else X) ∧ Below w13.heap.size w13 wc)
            case first => as_aux_lemma =>
              by_cases hP : Co = 0
              · obtain ⟨hat, i5, i6, i7, i8⟩ := corE_zero.1 ((unhide HC).trans hP)
                obtain ⟨hck, hk0, hkn⟩ := chkAt_zero.1 hat
                obtain ⟨K, hkK⟩ := Int.eq_ofNat_of_zero_le hk0
                subst hkK
                obtain ⟨J, hjJ⟩ := Int.eq_ofNat_of_zero_le i5
                subst hjJ
                have hb := unhide HO K J
                have hJ : J < (X K).n := by simpa using i8
                have hK : K < n := by omega
                have hx : bits .xor .u8 ((X K).b J) mask = x8 ((X K).b J) mask := u8_xor _ _ hb.1 hb.2 (by omega) (by omega)
                have hbd := x8_bd ((X K).b J) mask hb (by omega)
                obtain ⟨g, cap, gk, cg, rfl, e1, e2, e3, e4, e5, e6, e7, e8, e9, e10⟩ := own_at (unhide OW) hK hJ
                have E10 := hide e10
                have E5 := hide e5
                have EP := hide hP
                unfold maxLen at e2 e4
                have i1 : (0 : Int) ≤ (K : Int) := by omega
                have i2 : (K : Int) < (n : Int) := by omega
                have i3 : (0 : Int) ≤ (J : Int) := by omega
                have i4 : (J : Int) < ((X K).n : Int) := by omega
                have z1 : (Co == 0) = true := by simpa using hP
                obtain ⟨hb1, hb2⟩ := hb
                obtain ⟨hd1, hd2⟩ := hbd
                clear hat hck hk0 hkn i5 i8 hP e10 e5 gP gT gW gC HP HT HW HC HK RA RX RB RC RD HI HI5 HL5 H14 G5 HX HO OW HL HF B
                go_wp2
                go_region
                go_wp2
                go_meet
                exact ⟨by rw [if_pos (unhide EP)]; exact (unhide E10 _).fs.below (below_drewN (Below.refl _ _) 1) (Nat.le_refl _), below_drewN ((unhide BW).setCell (unhide E5) _) 1⟩
              · have EP := hide hP
                have z1 : (Co == 0) = false := by simpa using hP
                clear hP
                clear HP HT HW HC HK RA RX RB RC RD HI HL HI5 HL5 HF H14 G5 B HN HO
                go_wp2
                go_meet
                exact ⟨by rw [if_neg (unhide EP)]; exact (unhide OW).fs, unhide BW⟩
            case rest => as_aux_lemma =>
              obtain ⟨hfw, hcut⟩ := hcut
              obtain ⟨w15, hw⟩ : ∃ z, z = wc := ⟨_, rfl⟩
              rw [← hw] at hcut hfw ⊢
              clear hw
              replace HL := hide ((unhide HL).below hcut (Nat.le_refl _))
              replace HF := hide ((unhide HF).below hcut (Nat.le_refl _))
              replace HX := hide ((unhide HX).below hcut)
              replace B := hide (below_of (unhide B) hcut)
              replace HI := hide ((unhide HI).below hcut (Nat.le_refl _))
              replace RA := hide ((unhide RA).below hcut (Nat.le_refl _))
              replace RX := hide ((unhide RX).below hcut (Nat.le_refl _))
              replace RB := hide ((unhide RB).below hcut (Nat.le_refl _))
              replace RC := hide ((unhide RC).below hcut)
              replace H14 := hide ((unhide H14).below hcut)
              replace G5 := hide (below_of (unhide G5) hcut)
              replace RD := hide ((unhide RD).below hcut (Nat.le_refl _))
              clear hcut
              have FW := hide hfw
              clear hfw OW BW
              go_upto_region 39 with fail
              go_cut [256] from 240 to 255 (fun xb wc => xb = .bool false ∧ Below w15.heap.size w15 wc)
              case first => as_aux_lemma =>
                by_cases hP : Co = 0
                · obtain ⟨⟨pa, ca, rfl⟩, fa⟩ := (unhide RD).1 hP
                  have FA := hide fa
                  have FW1 := unhide FW
                  rw [if_pos hP] at FW1
                  have FW2 := hide FW1
                  subst hP
                  clear fa FW FW1 gP gT gW gC HP HT HW HC HK RA RX RB RC RD HI HI5 HL5 H14 G5 HX HO
                  go_wp2_with (go_at_call 16; refine (frames_self (bent X k.toNat place mask) n _ _ _ (unhide FA) (unhide FW2)).mono ?_; rintro e w16 ⟨rfl, b⟩; have BB := hide b; clear b)
                  go_meet
                  exact ⟨rfl, unhide BB⟩
                · obtain rfl := (unhide RD).2 hP
                  have z1 : (Co == 0) = false := by simpa using hP
                  have z2 : (Co != 0) = true := by simpa using hP
                  have z3 : decide (Co = 0) = false := by simpa using hP
                  have z4 : (!(Co == 0)) = true := by simpa using hP
                  clear gP gT gW gC FW
                  clear HP HT HW HC HK RA RX RB RC RD HI HL HI5 HL5 HF H14 G5 B HN HO
                  go_wp2
                  go_meet
                  exact ⟨rfl, Below.refl _ _⟩
              case rest => as_aux_lemma =>
                obtain ⟨rfl, hcut⟩ := hcut
                obtain ⟨w16, hw⟩ : ∃ z, z = wc := ⟨_, rfl⟩
                rw [← hw] at hcut ⊢
                clear hw
                replace HL := hide ((unhide HL).below hcut (Nat.le_refl _))
                replace HF := hide ((unhide HF).below hcut (Nat.le_refl _))
                replace HX := hide ((unhide HX).below hcut)
                replace B := hide (below_of (unhide B) hcut)
                replace HI := hide ((unhide HI).below hcut (Nat.le_refl _))
                replace RA := hide ((unhide RA).below hcut (Nat.le_refl _))
                replace RX := hide ((unhide RX).below hcut (Nat.le_refl _))
                replace RB := hide ((unhide RB).below hcut (Nat.le_refl _))
                replace RC := hide ((unhide RC).below hcut)
                replace H14 := hide ((unhide H14).below hcut)
                replace G5 := hide (below_of (unhide G5) hcut)
                replace RD := hide ((unhide RD).below hcut (Nat.le_refl _))
                clear hcut
                obtain ⟨M, Y, pc, cc, hvc, hM, hO⟩ : ∃ M Y pc cc, vc = .slice pc M cc ∧ M ≤ n + 1 ∧ Own w16 w5.heap.size (.slice pc M cc) M Y := by
                  by_cases hP : Tw = 0
                  · obtain ⟨⟨p, c1, h1⟩, h2⟩ := (unhide RC).1 hP
                    subst h1
                    exact ⟨_, _, _, _, rfl, Nat.le_refl _, h2⟩
                  · exact ⟨0, X, none, 0, (unhide RC).2 hP, by omega, own_nil _ _ _⟩
                subst hvc
                have OC := hide hO
                clear hO FW gP gT gW gC HP HT HW HC HK RA RX RB RC RD HI HL HF HX H14 B HO HN
                go_wp2
                go_loopw [27] (fun i w2 => ∃ k1 : Nat, k1 ≤ M ∧ i = .int .i64 k1 ∧ ∃ Z, Own w2 w5.heap.size (.slice pc M cc) M Z ∧ Below w5.heap.size w5 w2) (fun i _ => M - (intOf i).toNat)
                case atStart => exact ⟨0, by omega, rfl, _, unhide OC, unhide G5⟩
                case round =>
                  clear OC G5
                  obtain ⟨k1, hk1, rfl, Z, hZ, hb⟩ := hrel
                  by_cases hlt : k1 < M
                  · have HZ := hide hZ
                    have HB := hide hb
                    obtain ⟨L, hL⟩ : ∃ L, (Z k1).n = L := ⟨_, rfl⟩
                    have HL1 := hide hL
                    clear hZ hb hL
                    go_wp2
                    go_loopw [28] (fun i w2 => ∃ q : Nat, q ≤ L ∧ i = .int .i64 q ∧ ∃ Z, (Z k1).n = L ∧ Own w2 w5.heap.size (.slice pc M cc) M Z ∧ Below w5.heap.size w5 w2) (fun i _ => L - (intOf i).toNat)
                    case atStart => exact ⟨0, by omega, rfl, Z, unhide HL1, unhide HZ, unhide HB⟩
                    case round =>
                      clear HZ HB HL1
                      obtain ⟨q, hq, rfl, Z1, hL, hZ, hb⟩ := hrel
                      have HB := hide hb
                      have HLq := hide hL
                      have i1 : (0 : Int) ≤ (k1 : Int) := by omega
                      have i2 : (k1 : Int) < (M : Int) := by omega
                      have i3 : (0 : Int) ≤ (q : Int) := by omega
                      by_cases hlt2 : q < L
                      · obtain ⟨g, cap1, gk, cg, hv, e1, e2, e3, e4, e5, e6, e7, e8, e9, e10⟩ := own_at hZ hlt (show q < (Z1 k1).n by omega)
                        cases hv
                        rw [hL] at e3 e6
                        have E10 := hide e10
                        have E5 := hide e5
                        have i4 : (q : Int) < (L : Int) := by omega
                        unfold maxLen at e2 e4
                        clear hL hZ hb e5 e10
                        go_wp2
                        go_region
                        go_wp2
                        go_roundw
                        case rel => exact ⟨q + 1, by omega, by go_num, _, by simpa [upd, setB] using unhide HLq, (unhide E10 _).below (below_drewN (Below.refl _ _) 1), below_drewN ((unhide HB).setCell (unhide E5) _) 1⟩
                        case measure => simp [intOf]; omega
                      · obtain rfl : q = L := by omega
                        have HZ := hide hZ
                        obtain ⟨lb, lo, LB, rfl, hlb, hlc⟩ := hZ.fs.some (by omega)
                        obtain ⟨q1, q2, q3⟩ := hlc k1 hlt
                        obtain ⟨pk, ck, hbk, -, -⟩ := q3.shape
                        rw [hbk, hL] at q2
                        clear hL hZ hb hlc q1 q3 hbk
                        go_wp2
                        go_roundw
                        case rel => exact ⟨k1 + 1, by omega, by go_num, Z1, unhide HZ, unhide HB⟩
                        case measure => simp [intOf]; omega
                  · obtain rfl : k1 = M := by omega
                    have I6 := hide ((unhide HI5).below hb (Nat.le_refl _))
                    have L6 := hide ((unhide HL5).below hb (Nat.le_refl _))
                    have B6 := hide (below_of (unhide B5) hb)
                    clear hZ hb HI5 HL5 B5
                    go_wp2_with (first
                      | (go_at_call 16; refine (frames_self X n _ _ _ (unhide I6) (unhide L6)).mono ?_; rintro e w20 ⟨rfl, b⟩; replace B6 := hide (below_of (unhide B6) b); clear b I6 L6)
                      | (go_at_call 18; refine (wakes_any _).mono ?_; rintro e w21 ⟨rfl, b⟩; replace B6 := hide (below_of (unhide B6) b); clear b))
                    go_ret
                    exact ⟨rfl, unhide B6⟩
end Go.Proofs.Ytpaeekpdchmfjaa
