/- Right items in a row; walks of keep.isValue, first, Check. -/
import Derived.Test.YtofaoagmchokmaaA1
namespace Go.Proofs.Ytofaoagmchokmaa
open Go.RowKit

/-- May it be an item's value? -/
def isV (v : Int) : Prop := 0 ≤ v ∧ v < 2147483648
/-- Is the item at a place in the row that goes up to want? -/
def okI (want : Int) (L : List It) (i : Nat) : Prop := (kz L i).1 = want - L.length + i ∧ isV (kz L i).2
/-- Are they right items in a row up to want, at most limit of them? -/
def Rt (L : List It) (want limit : Int) : Prop :=
  1 ≤ want ∧ want ≤ 1073741824 ∧ 1 ≤ limit ∧ limit ≤ 16 ∧ (L.length : Int) ≤ limit ∧ (L.length : Int) < want ∧ ∀ i, i < L.length → okI want L i
theorem value_yes (v : Int) (h : isV v) (w : World) : Calls Try.prog 16 #[.int .i64 v] w fun e w' => e = .returned (.bool true) ∧ w' = w := by
  obtain ⟨h1, h2⟩ := h
  go_enter Try.func16, Try.ntmps16
  go_wp2
  go_ret
  exact ⟨rfl, rfl⟩
theorem value_no (v : Int) (h : ¬ isV v) (w : World) : Calls Try.prog 16 #[.int .i64 v] w fun e w' => e = .returned (.bool false) ∧ w' = w := by
  by_cases h1 : 0 ≤ v
  · have h2 : ¬ v < 2147483648 := fun q => h ⟨h1, q⟩
    have h3 : decide (v < 2147483648) = false := by simpa using h2
    clear h
    go_enter Try.func16, Try.ntmps16
    go_wp2
    go_ret
    exact ⟨rfl, rfl⟩
  · clear h
    go_enter Try.func16, Try.ntmps16
    go_wp2
    go_ret
    exact ⟨rfl, rfl⟩
theorem first_is (q : Option Addr) (n c : Nat) (want : Int) (h1 : 1 ≤ want) (h2 : want ≤ 1073741824) (h3 : n ≤ 16) (w : World) :
    Calls Try.prog 18 #[.slice q n c, .int .i64 want] w fun e w' => e = .returned (.int .i64 (want - n)) ∧ w' = w := by
  go_enter Try.func18, Try.ntmps18
  go_wp2
  go_ret
  exact ⟨rfl, rfl⟩
set_option maxHeartbeats 2000000 in
set_option maxRecDepth 100000 in
theorem check_any (L : List It) (want limit : Int) (v : Value) (w : World) (h : KL w v L) :
    Calls Try.prog 11 #[v, .int .i64 want, .int .i64 limit] w fun e w' => ∃ r, e = .returned (.int .i64 r) ∧ (r = 0 ∧ Rt L want limit ∨ r = 1 ∧ ¬ Rt L want limit) ∧ Below w.heap.size w w' := by
  obtain ⟨q, c, rfl⟩ := kl_form h
  obtain ⟨n, hn⟩ : ∃ n, L.length = n := ⟨_, rfl⟩
  have hnc := (kl_cap h).2
  have HR := hide (show Rt L want limit ↔ (1 ≤ want ∧ want ≤ 1073741824 ∧ 1 ≤ limit ∧ limit ≤ 16 ∧ (n : Int) ≤ limit ∧ (n : Int) < want ∧ ∀ i, i < n → okI want L i) by rw [← hn]; exact Iff.rfl)
  have HO := hide (show ∀ i, okI want L i ↔ ((kz L i).1 = want - n + i ∧ isV (kz L i).2) by rw [← hn]; exact fun i => Iff.rfl)
  have HI := hide h
  rw [hn] at HI hnc ⊢
  clear h hn
  generalize Rt L want limit = R at *
  by_cases h1 : 1 ≤ want
  case neg =>
    have HF := hide (show ¬ R from fun r => h1 ((unhide HR).1 r).1)
    clear HR HO HI
    go_enter Try.func11, Try.ntmps11
    go_wp2
    go_ret
    exact ⟨1, rfl, .inr ⟨rfl, unhide HF⟩, Below.refl _ _⟩
  by_cases h2 : want ≤ 1073741824
  case neg =>
    have HF := hide (show ¬ R from fun r => h2 ((unhide HR).1 r).2.1)
    clear HR HO HI
    go_enter Try.func11, Try.ntmps11
    go_wp2
    go_ret
    exact ⟨1, rfl, .inr ⟨rfl, unhide HF⟩, Below.refl _ _⟩
  by_cases h3 : 1 ≤ limit
  case neg =>
    have HF := hide (show ¬ R from fun r => h3 ((unhide HR).1 r).2.2.1)
    clear HR HO HI
    go_enter Try.func11, Try.ntmps11
    go_wp2
    go_ret
    exact ⟨1, rfl, .inr ⟨rfl, unhide HF⟩, Below.refl _ _⟩
  by_cases h4 : limit ≤ 16
  case neg =>
    have HF := hide (show ¬ R from fun r => h4 ((unhide HR).1 r).2.2.2.1)
    clear HR HO HI
    go_enter Try.func11, Try.ntmps11
    go_wp2
    go_ret
    exact ⟨1, rfl, .inr ⟨rfl, unhide HF⟩, Below.refl _ _⟩
  by_cases h5 : (n : Int) ≤ limit
  case neg =>
    have HF := hide (show ¬ R from fun r => h5 ((unhide HR).1 r).2.2.2.2.1)
    clear HR HO HI
    go_enter Try.func11, Try.ntmps11
    go_wp2
    go_ret
    exact ⟨1, rfl, .inr ⟨rfl, unhide HF⟩, Below.refl _ _⟩
  have hK := hide (fun W => first_is q n c want h1 h2 (by omega) W)
  by_cases h6 : (n : Int) < want
  case neg =>
    have HF := hide (show ¬ R from fun r => h6 ((unhide HR).1 r).2.2.2.2.2.1)
    clear HR HO HI
    go_enter Try.func11, Try.ntmps11
    go_wp2_with (go_at_call 18; refine (unhide hK _).mono ?_; rintro e w ⟨rfl, rfl⟩)
    go_ret
    exact ⟨1, rfl, .inr ⟨rfl, unhide HF⟩, Below.refl _ _⟩
  have HT := hide (show (∀ i, i < n → okI want L i) → R from fun q => (unhide HR).2 ⟨h1, h2, h3, h4, h5, h6, q⟩)
  have HF := hide (show ∀ i, i < n → ¬ okI want L i → ¬ R from fun i hi q r => q (((unhide HR).1 r).2.2.2.2.2.2 i hi))
  clear HR
  go_enter Try.func11, Try.ntmps11
  go_wp2_with (go_at_call 18; refine (unhide hK _).mono ?_; rintro e w ⟨rfl, rfl⟩)
  go_loopw [7, 37] (fun s i w3 => ∃ k : Nat, k ≤ n ∧ i = .int .i64 k ∧ s = .int .i64 (want - n + k) ∧ Hid (∀ i, i < k → okI want L i) ∧ Below w.heap.size w w3) (fun _ i _ => n - (intOf i).toNat)
  case atStart => exact ⟨0, by omega, rfl, by simp, hide (fun i hi => absurd hi (Nat.not_lt_zero _)), Below.refl _ _⟩
  case round =>
    obtain ⟨k, hk, rfl, rfl, HK, hb⟩ := hrel
    have HB := hide hb
    by_cases hlt : k < n
    · obtain ⟨b, off, rfl, hle, hc, hbb, d1, d2⟩ := kl_cell ((unhide HI).below hb (Nat.le_refl _)) hlt
      have B2 := hide (show ∀ o, Below w.heap.size w (wr.alloc o) from fun o => hb.alloc hb.size o)
      have HOk := hide (unhide HO k)
      have HS := hide (show okI want L k → ∀ i, i < k + 1 → okI want L i from fun q i hi => by
        by_cases e : i = k
        · subst e; exact q
        · exact unhide HK i (by omega))
      have HFk := hide (unhide HF k hlt)
      clear hb HO HF HK hK
      generalize okI want L k = O at *
      generalize hS : (∀ i, i < k + 1 → okI want L i) = S at *
      generalize kz L k = y at *
      obtain ⟨y1, y2⟩ := y
      by_cases e1 : y1 = want - n + k
      · subst e1
        by_cases e2 : isV y2
        · have HN := hide (unhide HS ((unhide HOk).2 ⟨rfl, e2⟩))
          have HV := hide (fun W => value_yes y2 e2 W)
          clear e2 HS HFk HOk
          go_wp2_with (go_at_call 16; refine (unhide HV _).mono ?_; rintro e w1 ⟨rfl, rfl⟩)
          go_roundw
          case rel => exact ⟨k + 1, by omega, by go_num, by simp; omega, by rw [hS]; exact HN, unhide B2 _⟩
          case measure => simp [intOf]; omega
        · have HN := hide (unhide HFk (fun q => e2 ((unhide HOk).1 q).2))
          have HV := hide (fun W => value_no y2 e2 W)
          clear e2 HS HFk HOk
          go_wp2_with (go_at_call 16; refine (unhide HV _).mono ?_; rintro e w1 ⟨rfl, rfl⟩)
          go_ret
          exact ⟨1, rfl, .inr ⟨rfl, unhide HN⟩, unhide B2 _⟩
      · have HN := hide (unhide HFk (fun q => e1 ((unhide HOk).1 q).1))
        have e3 : (y1 != want - n + k) = true := by simp [e1]
        clear e1 HS HFk HOk
        go_wp2
        go_ret
        exact ⟨1, rfl, .inr ⟨rfl, unhide HN⟩, unhide B2 _⟩
    · obtain rfl : k = n := by omega
      have HN := hide (unhide HT (unhide HK))
      clear hb HO HF HK hK HT
      go_wp2
      go_ret
      exact ⟨0, rfl, .inl ⟨rfl, unhide HN⟩, unhide HB⟩
theorem check_ok (L : List It) (want limit : Int) (v : Value) (w : World) (h : KL w v L) (hr : Rt L want limit) :
    Calls Try.prog 11 #[v, .int .i64 want, .int .i64 limit] w fun e w' => e = .returned (.int .i64 0) ∧ Below w.heap.size w w' := by
  refine (check_any L want limit v w h).mono ?_
  rintro e w' ⟨r, rfl, ⟨rfl, _⟩ | ⟨_, q⟩, hb⟩
  · exact ⟨rfl, hb⟩
  · exact absurd hr q
theorem check_no (L : List It) (want limit : Int) (v : Value) (w : World) (h : KL w v L) (hr : ¬ Rt L want limit) :
    Calls Try.prog 11 #[v, .int .i64 want, .int .i64 limit] w fun e w' => e = .returned (.int .i64 1) ∧ Below w.heap.size w w' := by
  refine (check_any L want limit v w h).mono ?_
  rintro e w' ⟨r, rfl, ⟨_, q⟩ | ⟨rfl, _⟩, hb⟩
  · exact absurd q hr
  · exact ⟨rfl, hb⟩
end Go.Proofs.Ytofaoagmchokmaa
