/- Walk of wire's wakes; blocks that stay. -/
import Derived.Test.YtmcmiojidgdjpaaBn29
import Derived.Test.YtmcmiojidgdjpaaBn12
namespace Go.Proofs.Ytmcmiojidgdjpaa
open Go.RowKit

/-- A block that is there, and what it holds. -/
def Has (w : World) (g : Nat) (o : Obj) : Prop := g < w.heap.size ∧ w.heap[g]? = some o
theorem Has.below {w w' : World} {g : Nat} {o : Obj} (h : Has w g o) (b : Below w.heap.size w w') : Has w' g o := ⟨Nat.lt_of_lt_of_le h.1 b.size, (b.block g h.1).trans h.2⟩
theorem Has.new (w : World) (o : Obj) : Has (w.alloc o) w.heap.size o := ⟨by simp, heap_alloc_new _ _⟩
theorem Has.alloc {w : World} {g : Nat} {o : Obj} (h : Has w g o) (o' : Obj) : Has (w.alloc o') g o := h.below ((Below.refl _ _).alloc (Nat.le_refl _) _)
theorem below_alloc {w w' : World} (h : Below w.heap.size w w') (o : Obj) : Below w.heap.size w (w'.alloc o) := h.alloc h.size o
theorem sl_none {k : IntKind} {w w' : World} {v : Value} {F F' : Nat → Int} (h : Sl k w v 0 F) : Sl k w' v 0 F' := by
  rcases h with h | ⟨b, off, cap, h1, h2, h3, h4, _⟩
  · exact .inl h
  · exact .inl ⟨rfl, .inr ⟨_, cap, h1, h3⟩⟩
theorem decC_nil (D : Nat → Nat) : decC D 0 = 2 := rfl
theorem dec_nil (w : World) : Calls Try.prog 11 #[.slice none 0 0] w fun e w' => e = .returned (.tuple #[.agg #[.int .i64 0, .int .i64 0, .int .i64 0, .int .i64 0, .int .i64 0, .int .i64 0, .int .i64 0, .int .i64 0, .int .i64 0, .int .i64 0, .int .i64 0, .int .i64 0, .int .i64 0, .int .i64 0, .slice none 0 0, .slice none 0 0], .int .i64 2]) ∧ Below w.heap.size w w' :=
  dec_bad (fun _ => 0) (.slice none 0 0) 0 w (.inl ⟨rfl, .inl rfl⟩) (fun i hi => absurd hi (Nat.not_lt_zero _)) 2 rfl (by decide)
theorem enc_ping (w : World) : Calls Try.prog 10 #[.agg #[.int .i64 1, .int .i64 0, .int .i64 1, .int .i64 1, .int .i64 0, .int .i64 0, .int .i64 0, .int .i64 0, .int .i64 0, .int .i64 0, .int .i64 0, .int .i64 0, .int .i64 0, .int .i64 0, .slice none 0 0, .slice none 0 0]] w fun e w' => ∃ p c, e = .returned (.tuple #[.slice p 48 c, .int .i64 0]) ∧ Cr.Bs w' (.slice p 48 c) 48 (frD pingM noF 0 noF 0) ∧ Below w.heap.size w w' := by
  refine (enc_ok pingM noF noF (.slice none 0 0) (.slice none 0 0) 0 0 w (sl_nil w) (sl_nil w) ping_ok).mono ?_
  rintro e w' ⟨v, rfl, o, b⟩
  obtain ⟨p, c, rfl⟩ := owns_shape o
  exact ⟨p, c, rfl, Cr.bs_of_owns o, b⟩
theorem dec_ping (p : Option Addr) (c : Nat) (w : World) (h : Cr.Bs w (.slice p 48 c) 48 (frD pingM noF 0 noF 0)) : Calls Try.prog 11 #[.slice p 48 c] w fun e w' => ∃ q d r f, e = .returned (.tuple #[.agg #[.int .i64 1, .int .i64 0, .int .i64 1, .int .i64 1, .int .i64 0, .int .i64 0, .int .i64 0, .int .i64 0, .int .i64 0, .int .i64 0, .int .i64 0, .int .i64 0, .int .i64 0, .int .i64 0, .slice q 0 d, .slice r 0 f], .int .i64 0]) ∧ Sl .i64 w' (.slice q 0 d) 0 noF ∧ Sl .i64 w' (.slice r 0 f) 0 noF ∧ Below w.heap.size w w' := by
  refine (dec_fr pingM noF noF 0 0 ping_ok _ w h).mono ?_
  rintro e w' ⟨q, d, r, f, rfl, o1, o2, b⟩
  exact ⟨q, d, r, f, rfl, sl_of_owns o1, sl_of_owns o2, b⟩
theorem keep_ping (q r : Option Addr) (d f : Nat) (w1 w : World) (h1 : Sl .i64 w1 (.slice q 0 d) 0 noF) (h2 : Sl .i64 w1 (.slice r 0 f) 0 noF) : Calls Try.prog 13 #[.agg #[.int .i64 1, .int .i64 0, .int .i64 1, .int .i64 1, .int .i64 0, .int .i64 0, .int .i64 0, .int .i64 0, .int .i64 0, .int .i64 0, .int .i64 0, .int .i64 0, .int .i64 0, .int .i64 0, .slice none 0 0, .slice none 0 0], .agg #[.int .i64 1, .int .i64 0, .int .i64 1, .int .i64 1, .int .i64 0, .int .i64 0, .int .i64 0, .int .i64 0, .int .i64 0, .int .i64 0, .int .i64 0, .int .i64 0, .int .i64 0, .int .i64 0, .slice q 0 d, .slice r 0 f]] w fun e w' => e = .returned (.bool true) ∧ Below w.heap.size w w' := by
  have h := keepMsg_any pingM pingM noF noF noF noF (.slice none 0 0) (.slice none 0 0) (.slice q 0 d) (.slice r 0 f) 0 0 0 0 w (sl_nil w) (sl_nil w) (sl_none h1) (sl_none h2)
  rwa [(same_iff pingM pingM noF noF noF noF 0 0 0 0).2 ⟨rfl, rfl, rfl, fun _ _ => rfl, fun _ _ => rfl⟩] at h
set_option maxRecDepth 100000 in
set_option maxHeartbeats 1000000 in
theorem wakes_any (w : World) : Calls Try.prog 16 #[] w fun e w' => e = .returned (.bool true) ∧ Below w.heap.size w w' := by
  have G := hide (Has.new w (.cells #[.int .i64 1, .int .i64 0, .int .i64 1, .int .i64 1, .int .i64 0, .int .i64 0, .int .i64 0, .int .i64 0, .int .i64 0, .int .i64 0, .int .i64 0, .int .i64 0, .int .i64 0, .int .i64 0, .slice none 0 0, .slice none 0 0] 24))
  have B := hide (below_alloc (Below.refl w.heap.size w) (.cells #[.int .i64 1, .int .i64 0, .int .i64 1, .int .i64 1, .int .i64 0, .int .i64 0, .int .i64 0, .int .i64 0, .int .i64 0, .int .i64 0, .int .i64 0, .int .i64 0, .int .i64 0, .int .i64 0, .slice none 0 0, .slice none 0 0] 24))
  have m1 := trivial
  go_enter Try.func16, Try.ntmps16
  go_wp2_with (first
    | (refine wpList_store_last rfl (.tmp 1) (.tmp 8) rfl _ _ rfl rfl (by simp) _ rfl rfl (by simp [Value.oneCell']) ?_)
    | (refine wpList_load24 (.tmp 1) rfl (by first | rfl | simp [Region.wanted, yielded]) w.heap.size #[.int .i64 1, .int .i64 0, .int .i64 1, .int .i64 1, .int .i64 0, .int .i64 0, .int .i64 0, .int .i64 0, .int .i64 0, .int .i64 0, .int .i64 0, .int .i64 0, .int .i64 0, .int .i64 0, .slice none 0 0, .slice none 0 0] rfl (unhide G).2 rfl ?_)
    | (go_at_call 10; with_reducible refine (enc_ping _).mono ?_; rintro e w1 ⟨p1, c1, rfl, s1, b1⟩; have S1 := hide s1; replace G := hide ((unhide G).below b1); replace B := hide (below_of (unhide B) b1); clear b1 s1)
    | (clear m1; go_at_call 11; with_reducible refine (dec_ping _ _ _ (unhide S1)).mono ?_; rintro e w2 ⟨q2, d2, r2, f2, rfl, s2, s3, b2⟩; have S2 := hide s2; have S3 := hide s3; replace G := hide ((unhide G).below b2); replace B := hide (below_of (unhide B) b2); clear b2 s2 s3)
    | (refine wpList_store_last rfl (.tmp 4) (.tmp 17) rfl _ _ rfl rfl (by simp) _ rfl rfl (by simp [Value.oneCell']) ?_; have K := hide (Has.new w2 (.cells #[.int .i64 1, .int .i64 0, .int .i64 1, .int .i64 1, .int .i64 0, .int .i64 0, .int .i64 0, .int .i64 0, .int .i64 0, .int .i64 0, .int .i64 0, .int .i64 0, .int .i64 0, .int .i64 0, .slice q2 0 d2, .slice r2 0 f2] 24)); replace G := hide ((unhide G).alloc (.cells #[.int .i64 1, .int .i64 0, .int .i64 1, .int .i64 1, .int .i64 0, .int .i64 0, .int .i64 0, .int .i64 0, .int .i64 0, .int .i64 0, .int .i64 0, .int .i64 0, .int .i64 0, .int .i64 0, .slice q2 0 d2, .slice r2 0 f2] 24)); replace B := hide (below_alloc (unhide B) (.cells #[.int .i64 1, .int .i64 0, .int .i64 1, .int .i64 1, .int .i64 0, .int .i64 0, .int .i64 0, .int .i64 0, .int .i64 0, .int .i64 0, .int .i64 0, .int .i64 0, .int .i64 0, .int .i64 0, .slice q2 0 d2, .slice r2 0 f2] 24)))
    | (go_at_call 11; with_reducible refine (dec_nil _).mono ?_; rintro e w3 ⟨rfl, b3⟩; replace K := hide ((unhide K).below b3); replace G := hide ((unhide G).below b3); replace B := hide (below_of (unhide B) b3); clear b3)
    | (refine wpList_store_last rfl (.tmp 6) (.tmp 21) rfl _ _ rfl rfl (by simp) _ rfl rfl (by simp [Value.oneCell']) ?_; replace K := hide ((unhide K).alloc (.cells #[.int .i64 0, .int .i64 0, .int .i64 0, .int .i64 0, .int .i64 0, .int .i64 0, .int .i64 0, .int .i64 0, .int .i64 0, .int .i64 0, .int .i64 0, .int .i64 0, .int .i64 0, .int .i64 0, .slice none 0 0, .slice none 0 0] 24)); replace G := hide ((unhide G).alloc (.cells #[.int .i64 0, .int .i64 0, .int .i64 0, .int .i64 0, .int .i64 0, .int .i64 0, .int .i64 0, .int .i64 0, .int .i64 0, .int .i64 0, .int .i64 0, .int .i64 0, .int .i64 0, .int .i64 0, .slice none 0 0, .slice none 0 0] 24)); replace B := hide (below_alloc (unhide B) (.cells #[.int .i64 0, .int .i64 0, .int .i64 0, .int .i64 0, .int .i64 0, .int .i64 0, .int .i64 0, .int .i64 0, .int .i64 0, .int .i64 0, .int .i64 0, .int .i64 0, .int .i64 0, .int .i64 0, .slice none 0 0, .slice none 0 0] 24)))
    | (refine wpList_load24 (.tmp 4) rfl (by first | rfl | simp [Region.wanted, yielded]) w2.heap.size #[.int .i64 1, .int .i64 0, .int .i64 1, .int .i64 1, .int .i64 0, .int .i64 0, .int .i64 0, .int .i64 0, .int .i64 0, .int .i64 0, .int .i64 0, .int .i64 0, .int .i64 0, .int .i64 0, .slice q2 0 d2, .slice r2 0 f2] rfl (unhide K).2 rfl ?_)
    | (go_at_call 13; with_reducible refine (keep_ping _ _ _ _ _ _ (unhide S2) (unhide S3)).mono ?_; rintro e w4 ⟨rfl, b4⟩; replace B := hide (below_of (unhide B) b4); clear b4))
  go_ret
  exact ⟨rfl, unhide B⟩
end Go.Proofs.Ytmcmiojidgdjpaa
