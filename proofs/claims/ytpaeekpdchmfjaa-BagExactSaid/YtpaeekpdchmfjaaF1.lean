/- Walk of BagFull. -/
import Derived.Test.YtpaeekpdchmfjaaW2
namespace Go.Proofs.Ytpaeekpdchmfjaa
open Go.RowKit

theorem modU (x : Int) (n : Int) (h : 0 < n) (h2 : n ≤ 1000000) : wrap64 ((IntKind.u64.wrap x).tmod n) = (x % 18446744073709551616) % n := by
  have e1 : IntKind.u64.wrap x = x % 18446744073709551616 := rfl
  rw [e1, Int.tmod_eq_emod_of_nonneg (by omega)]
  have h3 := Int.emod_lt_of_pos (x % 18446744073709551616) h
  have h4 := Int.emod_nonneg (x % 18446744073709551616) (show n ≠ 0 by omega)
  unfold wrap64
  omega
theorem modN (x : Int) (n : Nat) (h : 0 < n) (h2 : n ≤ 1000000) : ∃ q : Nat, wrap64 ((IntKind.u64.wrap x).tmod n) = q ∧ q < n := by
  have h3 := Int.emod_lt_of_pos (x % 18446744073709551616) (show (0:Int) < n by omega)
  have h4 := Int.emod_nonneg (x % 18446744073709551616) (show (n:Int) ≠ 0 by omega)
  refine ⟨((x % 18446744073709551616) % n).toNat, ?_, by omega⟩
  rw [modU x n (by omega) (by omega)]
  omega
/-- The law's frames: the first L, and those behind. -/
def ful (L T : Nat) (i : Nat) : Fm := if i < L then ⟨((T : Int) + (i : Int)) % 8, 1, fun _ => (i : Int) % 256⟩ else ⟨T, 0, fun _ => 0⟩
theorem ful_bd (L T : Nat) (hT : T < 8) (i : Nat) : 0 ≤ (ful L T i).t ∧ (ful L T i).t < 8 ∧ (ful L T i).n ≤ 80 := by
  unfold ful
  split
  · exact ⟨Int.emod_nonneg _ (by decide), Int.emod_lt_of_pos _ (by decide), (by decide : 1 ≤ 80)⟩
  · exact ⟨(by show 0 ≤ (T : Int); omega), (by show (T : Int) < 8; omega), Nat.zero_le _⟩
theorem ful_put (L T j : Nat) (hT : T < 8) (v : Value) (w : World) (hj : L ≤ j) (hj2 : j < 300) (h : Fs w v j (ful L T)) : Calls Try.prog 9 #[v, .agg #[.int .i64 (T : Int), .slice none 0 0]] w fun e w' => ∃ p c, e = .returned (.tuple #[.slice p (j + 1) c, .int .i64 0]) ∧ Fs w' (.slice p (j + 1) c) (j + 1) (ful L T) ∧ Below w.heap.size w w' := by
  refine (put_ok v (.slice none 0 0) j (ful L T) ⟨T, 0, fun _ => 0⟩ w h (sl_nil _ _) (putE_zero.2 ⟨chk_of (by omega) fun i _ => ful_bd L T hT i, okB_iff.2 ⟨(by show 0 ≤ (T : Int); omega), (by show (T : Int) < 8; omega), Nat.zero_le _⟩, by omega⟩)).mono ?_
  rintro e w' ⟨p, c, rfl, o, b⟩
  refine ⟨p, c, rfl, (o.congr fun i hi => ?_).fs, b⟩
  unfold snoc cat
  by_cases e : i < j
  · rw [if_pos e]; exact ⟨rfl, rfl, fun _ _ => rfl⟩
  · rw [if_neg e]
    unfold ful
    rw [if_neg (by omega)]
    exact ⟨rfl, rfl, fun _ _ => rfl⟩
theorem ful_full (L T : Nat) (hT : T < 8) (v : Value) (w : World) (h : Fs w v 300 (ful L T)) : Calls Try.prog 9 #[v, .agg #[.int .i64 (T : Int), .slice none 0 0]] w fun e w' => e = .returned (.tuple #[.slice none 0 0, .int .i64 6]) ∧ Below w.heap.size w w' := by
  have hp : putE 300 (ful L T) ⟨T, 0, fun _ => 0⟩ = 6 := putE_full (chk_of (by omega) fun i _ => ful_bd L T hT i) (okB_iff.2 ⟨(by show 0 ≤ (T : Int); omega), (by show (T : Int) < 8; omega), Nat.zero_le _⟩) rfl
  have := put_bad v (.slice none 0 0) 300 (ful L T) ⟨T, 0, fun _ => 0⟩ w h (sl_nil _ _) (by rw [hp]; decide)
  rwa [hp] at this
theorem ful_twice (L T : Nat) (hT : T < 8) (v : Value) (w : World) (h : Fs w v 300 (ful L T)) : Calls Try.prog 11 #[v, .int .i64 0] w fun e w' => e = .returned (.tuple #[.slice none 0 0, .int .i64 6]) ∧ Below w.heap.size w w' := by
  have hc : chk 300 (ful L T) = 0 := chk_of (by omega) fun i _ => ful_bd L T hT i
  refine (twice_in v 300 (ful L T) 0 w h (by decide) hc).mono ?_
  rintro e w' ⟨v, rfl, b, _, h2⟩
  refine ⟨?_, b⟩
  rw [h2 rfl]
  have : twE 300 (ful L T) ((0 : Nat) : Int) = 6 := by
    unfold twE
    rw [if_neg (by simpa using chkAt_zero.2 ⟨hc, by decide, by decide⟩), if_pos rfl]
  rw [this]
theorem ful_take (L T : Nat) (hT : T < 8) (v : Value) (w : World) (h : Fs w v 300 (ful L T)) : Calls Try.prog 10 #[v, .int .i64 7] w fun e w' => ∃ t n q d p c Y, e = .returned (.tuple #[.agg #[.int .i64 t, .slice q n d], .slice p 299 c, .int .i64 0]) ∧ Fs w' (.slice p 299 c) 299 Y ∧ (∀ i : Nat, 0 ≤ (Y i).t ∧ (Y i).t < 8 ∧ (Y i).n ≤ 80) ∧ Below w.heap.size w w' := by
  refine (take_in v 300 (ful L T) 7 w h (by decide) (chk_of (by omega) fun i _ => ful_bd L T hT i)).mono ?_
  rintro e w' ⟨q, d, p, c, rfl, _, o, b⟩
  refine ⟨_, _, q, d, p, c, lack (ful L T) 7, rfl, o.fs, fun i => ?_, b⟩
  unfold lack cat
  split
  · exact ful_bd L T hT _
  · exact ful_bd L T hT _
theorem ful_again (T : Nat) (hT : T < 8) (Y : Nat → Fm) (p : Option Addr) (c : Nat) (w : World) (h : Fs w (.slice p 299 c) 299 Y) (hY : ∀ i : Nat, 0 ≤ (Y i).t ∧ (Y i).t < 8 ∧ (Y i).n ≤ 80) : Calls Try.prog 9 #[.slice p 299 c, .agg #[.int .i64 (T : Int), .slice none 0 0]] w fun e w' => ∃ p c, e = .returned (.tuple #[.slice p 300 c, .int .i64 0]) ∧ Below w.heap.size w w' := by
  refine (put_ok _ (.slice none 0 0) 299 Y ⟨T, 0, fun _ => 0⟩ w h (sl_nil _ _) (putE_zero.2 ⟨chk_of (by omega) fun i _ => hY i, okB_iff.2 ⟨(by show 0 ≤ (T : Int); omega), (by show (T : Int) < 8; omega), Nat.zero_le _⟩, by omega⟩)).mono ?_
  rintro e w' ⟨p, c, rfl, _, b⟩
  exact ⟨p, c, rfl, b⟩
theorem rw_at (w : World) (t : Int) (v : Value) (h1 : v.oneCell' = true) (t2 : TypeId) (g : Nat) (hg : g = w.heap.size) : Rw (w.alloc (.cells #[.int .i64 t, v] t2)) (.slice (some ⟨g, 0, none⟩) 1 1) 1 [.int .i64 t, v] := by
  subst hg
  exact rw_one w t v h1 t2
/-- The list grows by one frame of one byte. -/
theorem ful_next {w0 wr w4 : World} {k L T : Nat} {v v4 : Value} (_ : Own wr w0.heap.size v k (ful L T)) (hk : k < L) (hb : w0.heap.size ≤ wr.heap.size) (B : Nat → Value)
    (h1 : wr.ownsRow w0.heap.size 25 2 v k (fL (fun i => (ful L T i).t) B k)) (h2 : ∀ i, i < k → wr.ownsRow w0.heap.size 5 1 (B i) (ful L T i).n (vL .u8 (ful L T i).b (ful L T i).n)) (h3 : ∀ i j, i < j → j < k → ∀ b, (B i).ownBlock = some b → (B j).ownBlock ≠ some b)
    (o4 : w4.ownsRow w0.heap.size 25 2 v4 (k + 1) (fL (fun i => (ful L T i).t) B k ++ [.int .i64 (((T : Int) + (k : Int)) % 8), .slice (some ⟨wr.heap.size, 0, none⟩) 1 1]))
    (g4 : ((wr.alloc (.cells #[.int .u8 ((k : Int) % 256)] 5)).alloc (.cells #[.int .i64 (((T : Int) + (k : Int)) % 8), .slice (some ⟨wr.heap.size, 0, none⟩) 1 1] 25)).grownBy w4 v.ownBlock) : Own w4 w0.heap.size v4 (k + 1) (ful L T) := by
  have b5 : Below wr.heap.size wr ((wr.alloc (.cells #[.int .u8 ((k : Int) % 256)] 5)).alloc (.cells #[.int .i64 (((T : Int) + (k : Int)) % 8), .slice (some ⟨wr.heap.size, 0, none⟩) 1 1] 25)) := below_alloc (below_alloc (Below.refl _ _) _) _
  have e : ful L T k = ⟨((T : Int) + (k : Int)) % 8, 1, fun _ => (k : Int) % 256⟩ := by unfold ful; rw [if_pos hk]
  refine own_next h2 h3 b5 (vb := .slice (some ⟨wr.heap.size, 0, none⟩) 1 1) ?_ hb (by rw [e]; exact o4) fun ho => owns_grown (owns_below h1 b5) g4 ho
  rw [e]
  exact World.ownsRow.alloc (World.ownsRow_lit (base := wr.heap.size) (e := 5) (size := 1) wr #[.int .u8 ((k : Int) % 256)] 1 (Nat.le_refl _) (by unfold maxLen; omega) rfl) _
set_option maxHeartbeats 2000000 in
set_option maxRecDepth 100000 in
theorem full_walk (n to' : Int) (w : World) : Calls Try.prog 5 #[.int .i64 n, .int .i64 to'] w fun e w' => e = .returned (.bool true) ∧ Below w.heap.size w w' := by
  obtain ⟨N, hN, hN2⟩ : ∃ q : Nat, wrap64 ((IntKind.u64.wrap n).tmod 4) = q ∧ q < 4 := modN n 4 (by omega) (by omega)
  obtain ⟨T, hT, hT2⟩ : ∃ q : Nat, wrap64 ((IntKind.u64.wrap to').tmod 8) = q ∧ q < 8 := modN to' 8 (by omega) (by omega)
  obtain ⟨L, hL⟩ : ∃ L : Nat, L + N = 300 := ⟨300 - N, by omega⟩
  have TT := hide hT2
  have LL := hide hL
  go_enter Try.func5, Try.ntmps5
  go_wp2
  rw [hN, hT]
  clear hN hT
  go_loopw [5, 6] (fun v i w2 => ∃ k : Nat, k ≤ L ∧ i = .int .i64 k ∧ Own w2 w.heap.size v k (ful L T) ∧ Below w.heap.size w w2) (fun _ i _ => L - (intOf i).toNat)
  case atStart => exact ⟨0, by omega, rfl, own_nil _ _ _, Below.refl _ _⟩
  case round =>
    obtain ⟨k, hk, rfl, ho, hb⟩ := hrel
    by_cases hlt : k < L
    · have HO := hide ho
      have HB := hide hb
      have HLT := hide hlt
      obtain ⟨B, h1, h2, h3⟩ := ho
      have H1 := hide h1
      have H2 := hide h2
      have H3 := hide h3
      have i1 : (k : Int) < 300 - (N : Int) := by omega
      have i2 : k ≤ 300 := by omega
      clear h1 h2 h3 hb hL
      go_wp2_with (at_builtin; refine wpList_appF_g (by simp [Region.wanted]) (.tmp 34) (.tmp 43) rfl w.heap.size _ k (fL (fun i => (ful L T i).t) B k) rfl (((unhide H1).alloc _).alloc _) _ 1 [.int .i64 (((T : Int) + (k : Int)) % 8), .slice (some ⟨wr.heap.size, 0, none⟩) 1 1] rfl (rw_at _ _ _ (oneCell_slice _ _ _) _ _ (by simp)) (by omega) (by omega) (by have := (unhide HB).size; simp; omega) ?_)
      intro v4 w4 o4 b4 g4
      have O4 := hide (ful_next (unhide HO) (unhide HLT) (unhide HB).size B (unhide H1) (unhide H2) (unhide H3) o4 g4)
      have B4 := hide (below_up (below_alloc (below_alloc (unhide HB) _) _) b4)
      clear o4 b4 g4
      go_wp2
      go_roundw
      case rel => exact ⟨k + 1, by omega, by go_num, unhide O4, unhide B4⟩
      case measure => simp [intOf]; omega
    · obtain rfl : k = L := by omega
      obtain ⟨p5, c5, rfl, hcc1, hcc2⟩ := ho.fs.shape
      have HB := hide hb
      have F0 := hide (ho.fs.below (below_alloc (Below.refl wr.heap.size wr) (.cells #[.int .i64 (T : Int), .slice none 0 0] 25)) (Nat.le_refl _))
      have X0 := hide (Has.new wr (.cells #[.int .i64 (T : Int), .slice none 0 0] 25))
      have B0 := hide (below_alloc hb (.cells #[.int .i64 (T : Int), .slice none 0 0] 25))
      have i1 : ¬ ((k : Int) < 300 - (N : Int)) := by omega
      have i3 : k ≤ 300 := by omega
      clear ho hb hL hcc1 hcc2
      go_wp2
      clear i1
      go_loopw [5, 8] (fun v i w2 => ∃ j m : Nat, m = k + j ∧ j ≤ N ∧ i = .int .i64 j ∧ ∃ p c, v = .slice p m c ∧ Fs w2 (.slice p m c) m (ful k T) ∧ Has w2 wr.heap.size (.cells #[.int .i64 (T : Int), .slice none 0 0] 25) ∧ Below w.heap.size w w2) (fun _ i _ => N - (intOf i).toNat)
      case atStart => exact ⟨0, k, rfl, by omega, rfl, p5, c5, rfl, unhide F0, unhide X0, unhide B0⟩
      case round =>
        clear F0 X0 B0
        obtain ⟨j, m, hm, hj, rfl, p, c, rfl, hf, hx, hb2⟩ := hrel
        have HX := hide hx
        have HB2 := hide hb2
        have hc0 := hx.cell (k := 0) rfl
        have hc1 := hx.cell (k := 1) rfl
        by_cases hlt2 : j < N
        · have hLL := unhide LL
          have P := hide (ful_put k T m (unhide TT) _ _ (by omega) (by omega) hf)
          have hm3 : m ≤ 300 := by omega
          have HM := hide (show m + 1 = k + (j + 1) by omega)
          clear hx hb2 hf hLL hm
          go_wp2_with (go_at_call 9; (with_reducible refine (unhide P).mono ?_); rintro e w3 ⟨p3, c3, rfl, f3, b3⟩; have F3 := hide f3; have B3 := hide b3; clear f3 b3)
          go_roundw
          case rel => exact ⟨j + 1, m + 1, unhide HM, by omega, by go_num, p3, c3, rfl, unhide F3, (unhide HX).below (unhide B3), below_of (unhide HB2) (unhide B3)⟩
          case measure => simp [intOf]; omega
        · have hLL := unhide LL
          obtain rfl : j = N := by omega
          obtain rfl : m = 300 := by omega
          have F2 := hide hf
          have m1 := trivial
          clear hx hb2 hf hLL hm hlt2 hlt
          go_wp2_with (first
            | (clear m1; go_at_call 9; refine (ful_full k T (unhide TT) _ _ (unhide F2)).mono ?_; rintro e w3 ⟨rfl, b3⟩; replace F2 := hide ((unhide F2).below b3 (Nat.le_refl _)); replace HX := hide ((unhide HX).below b3); replace HB2 := hide (below_of (unhide HB2) b3); clear b3 hc0 hc1)
            | (go_at_call 11; refine (ful_twice k T (unhide TT) _ _ (unhide F2)).mono ?_; rintro e w4 ⟨rfl, b4⟩; replace F2 := hide ((unhide F2).below b4 (Nat.le_refl _)); replace HX := hide ((unhide HX).below b4); replace HB2 := hide (below_of (unhide HB2) b4); clear b4)
            | (go_at_call 10; refine (ful_take k T (unhide TT) _ _ (unhide F2)).mono ?_; rintro e w5 ⟨t5, n5, q5, d5, p6, c6, Y, rfl, f5, hY, b5⟩; have F5 := hide f5; have HY := hide hY; have lx := ((unhide HX).below b5).1; have hc0 := ((unhide HX).below b5).cell (k := 0) rfl; have hc1 := ((unhide HX).below b5).cell (k := 1) rfl; replace HB2 := hide (below_of (unhide HB2) b5); clear b5 f5 hY)
            | (go_at_call 9; refine (ful_again T (unhide TT) Y _ _ _ ((unhide F5).below (below_alloc (Below.refl _ _) _) (Nat.le_refl _)) (unhide HY)).mono ?_; rintro e w6 ⟨p7, c7, rfl, b6⟩; replace HB2 := hide (below_of (below_alloc (unhide HB2) _) b6); clear b6)
            | (go_at_call 18; refine (wakes_any _).mono ?_; rintro e w7 ⟨rfl, b7⟩; replace HB2 := hide (below_of (unhide HB2) b7); clear b7))
          go_ret
          exact ⟨rfl, unhide HB2⟩
end Go.Proofs.Ytpaeekpdchmfjaa
