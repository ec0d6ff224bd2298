/- Walk of wakes. -/
import Derived.Test.YtpaeekpdchmfjaaW1
namespace Go.Proofs.Ytpaeekpdchmfjaa
open Go.RowKit

/-- Frames of one byte, to node 1. -/
def fm1 (x : Int) : Fm := ⟨1, 1, fun _ => x⟩
theorem sl_byte (w : World) (x : Int) : Sl .u8 (w.alloc (.cells #[.int .u8 x] 5)) (.slice (some ⟨w.heap.size, 0, none⟩) 1 1) 1 (fun _ => x) :=
  (sl_lit .u8 w [x] 5 1 rfl (by unfold maxLen; omega)).congr fun i hi => by
    obtain rfl : i = 0 := by omega
    rfl
theorem put_w (v : Value) (w : World) (h : Sl .u8 w v 1 (fun _ => 5)) : Calls Try.prog 9 #[.slice none 0 0, .agg #[.int .i64 1, v]] w fun e w' => ∃ p c, e = .returned (.tuple #[.slice p 1 c, .int .i64 0]) ∧ Own w' w.heap.size (.slice p 1 c) 1 (fun _ => fm1 5) ∧ Below w.heap.size w w' := by
  refine (put_ok (.slice none 0 0) v 0 (fun _ => fm1 5) (fm1 5) w (fs_nil _ _) h (putE_zero.2 ⟨rfl, rfl, by decide⟩)).mono ?_
  rintro e w' ⟨p, c, rfl, o, b⟩
  refine ⟨p, c, rfl, o.congr fun i hi => ?_, b⟩
  obtain rfl : i = 0 := by omega
  exact ⟨rfl, rfl, fun _ _ => rfl⟩
theorem chk_fm1 (x : Int) : chk 1 (fun _ => fm1 x) = 0 := rfl
theorem cor_w (p : Option Addr) (c : Nat) (w : World) (h : Fs w (.slice p 1 c) 1 (fun _ => fm1 5)) : Calls Try.prog 12 #[.slice p 1 c, .int .i64 0, .int .i64 0, .int .i64 1] w fun e w' => ∃ p c, e = .returned (.tuple #[.slice p 1 c, .int .i64 0]) ∧ Fs w' (.slice p 1 c) 1 (fun _ => fm1 4) ∧ Below w.heap.size w w' := by
  refine (cor_ok (.slice p 1 c) 1 (fun _ => fm1 5) 0 0 1 w h (by decide) (chk_fm1 5) (by decide) ⟨by decide, by decide⟩ ⟨by decide, by decide⟩).mono ?_
  rintro e w' ⟨p, c, rfl, o, b⟩
  refine ⟨p, c, rfl, (o.congr fun i hi => ?_).fs, b⟩
  obtain rfl : i = 0 := by omega
  refine ⟨rfl, rfl, fun j hj => ?_⟩
  obtain rfl : j = 0 := by
    have : j < 1 := hj
    omega
  rfl
theorem take_w (p : Option Addr) (c : Nat) (w : World) (h : Fs w (.slice p 1 c) 1 (fun _ => fm1 4)) : Calls Try.prog 10 #[.slice p 1 c, .int .i64 0] w fun e w' => ∃ q d p c, e = .returned (.tuple #[.agg #[.int .i64 1, .slice q 1 d], .slice p 0 c, .int .i64 0]) ∧ Sl .u8 w' (.slice q 1 d) 1 (fun _ => 4) ∧ Below w.heap.size w w' := by
  refine (take_in (.slice p 1 c) 1 (fun _ => fm1 4) 0 w h (by decide) (chk_fm1 4)).mono ?_
  rintro e w' ⟨q, d, p, c, rfl, s, _, b⟩
  exact ⟨q, d, p, c, rfl, s, b⟩
theorem twice_w (p : Option Addr) (c : Nat) (w : World) (h : Fs w (.slice p 1 c) 1 (fun _ => fm1 5)) : Calls Try.prog 11 #[.slice p 1 c, .int .i64 0] w fun e w' => ∃ p c, e = .returned (.tuple #[.slice p 2 c, .int .i64 0]) ∧ Below w.heap.size w w' := by
  refine (twice_in (.slice p 1 c) 1 (fun _ => fm1 5) 0 w h (by decide) (chk_fm1 5)).mono ?_
  rintro e w' ⟨v, rfl, b, h1, _⟩
  obtain ⟨p, c, rfl, _⟩ := h1 (by decide)
  exact ⟨p, c, rfl, b⟩
theorem taken_w (w : World) : Calls Try.prog 10 #[.slice none 0 0, .int .i64 0] w fun e w' => e = .returned (.tuple #[.agg #[.int .i64 0, .slice none 0 0], .slice none 0 0, .int .i64 7]) ∧ Below w.heap.size w w' :=
  take_out (.slice none 0 0) 0 (fun _ => fm1 5) 0 w (fs_nil _ _) (by decide)
theorem check_w (w : World) (g : Nat) (hg : g = w.heap.size) : Calls Try.prog 14 #[.slice (some ⟨g, 0, none⟩) 1 1] (w.alloc (.cells #[.int .i64 9, .slice none 0 0] 25)) fun e w' => e = .returned (.int .i64 1) ∧ Below w.heap.size w w' := by
  subst hg
  refine (check_any (fun _ => ⟨9, 0, fun _ => 0⟩) _ 1 _ (fs_one w ⟨9, 0, fun _ => 0⟩ (.slice none 0 0) (sl_nil _ _))).mono ?_
  rintro e w' ⟨rfl, b⟩
  exact ⟨rfl, below_of (below_alloc (Below.refl _ _) _) b⟩
theorem bytes_w (q : Option Addr) (d : Nat) (w w0 : World) (g : Nat) (hg : g = w.heap.size) (h : Sl .u8 w0 (.slice q 1 d) 1 (fun _ => 4)) (hb : Below w0.heap.size w0 w) : Calls Try.prog 25 #[.slice q 1 d, .slice (some ⟨g, 0, none⟩) 1 1] (w.alloc (.cells #[.int .u8 4] 5)) fun e w' => e = .returned (.bool true) ∧ Below w.heap.size w w' := by
  subst hg
  refine (bytes_b (fun _ => 4) (fun _ => 4) _ _ 1 1 _ (h.below (below_alloc hb _) (Nat.le_refl _)) (sl_byte w 4)).mono ?_
  rintro e w' ⟨rfl, b⟩
  exact ⟨by rw [sameB_self 1 fun _ _ => rfl], below_of (below_alloc (Below.refl _ _) _) b⟩
set_option maxRecDepth 100000 in
set_option maxHeartbeats 2000000 in
theorem wakes_any (w : World) : Calls Try.prog 18 #[] w fun e w' => e = .returned (.bool true) ∧ Below w.heap.size w w' := by
  have S0 := hide (sl_byte w 5)
  have B := hide (below_alloc (Below.refl w.heap.size w) (.cells #[.int .u8 5] 5))
  have m1 := trivial
  go_enter Try.func18, Try.ntmps18
  go_wp2_with (first
    | (go_at_call 9; refine (put_w _ _ (unhide S0)).mono ?_; rintro e w1 ⟨p1, c1, rfl, o1, b1⟩; have F1 := hide o1.fs; replace B := hide (below_of (unhide B) b1); clear b1 o1)
    | (go_at_call 12; refine (cor_w _ _ _ (unhide F1)).mono ?_; rintro e w2 ⟨p2, c2, rfl, f2, b2⟩; have F2 := hide f2; replace F1 := hide ((unhide F1).below b2 (Nat.le_refl _)); replace B := hide (below_of (unhide B) b2); clear b2 f2)
    | (clear m1; go_at_call 10; refine (take_w _ _ _ (unhide F2)).mono ?_; rintro e w3 ⟨q3, d3, p3, c3, rfl, s3, b3⟩; have S3 := hide s3; replace F1 := hide ((unhide F1).below b3 (Nat.le_refl _)); replace B := hide (below_of (unhide B) b3); clear b3 s3)
    | (go_at_call 11; refine (twice_w _ _ _ ((unhide F1).below (below_alloc (Below.refl _ _) _) (Nat.le_refl _))).mono ?_; rintro e w4 ⟨p4, c4, rfl, b4⟩; have X4 := hide (Has.below (Has.new w3 _) b4); have G4 := hide (below_of (below_alloc (Below.refl w3.heap.size w3) _) b4); replace B := hide (below_of (below_alloc (unhide B) _) b4); clear b4)
    | (go_at_call 10; refine (taken_w _).mono ?_; rintro e w5 ⟨rfl, b5⟩; have x5 := (unhide X4).below b5; have lt := x5.1; have c0 := x5.cell (k := 0) rfl; have c1 := x5.cell (k := 1) rfl; have G5 := hide (below_of (unhide G4) b5); replace B := hide (below_of (unhide B) b5); clear b5 x5)
    | (go_at_call 25; refine (bytes_w _ _ _ w3 _ (by simp) (unhide S3) (below_alloc (unhide G5) _)).mono ?_; rintro e w6 ⟨rfl, b6⟩; replace B := hide (below_of (below_alloc (unhide B) _) b6); clear b6)
    | (go_at_call 14; refine (check_w _ _ rfl).mono ?_; rintro e w7 ⟨rfl, b7⟩; replace B := hide (below_of (unhide B) b7); clear b7))
  go_ret
  exact ⟨rfl, unhide B⟩
end Go.Proofs.Ytpaeekpdchmfjaa
