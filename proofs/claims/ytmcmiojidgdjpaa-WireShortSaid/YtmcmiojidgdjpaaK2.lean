/- Walk of keep.Msg. -/
import Derived.Test.YtmcmiojidgdjpaaBu12
namespace Go.Proofs.Ytmcmiojidgdjpaa
open Go.RowKit

set_option maxRecDepth 100000 in
set_option maxHeartbeats 1000000 in
theorem keep_8 (m m' : Mg) (F G F' G' : Nat → Int) (p t p' t' : Value) (n k n' k' : Nat) (w : World) (hp : Sl .i64 w p n F) (ht : Sl .i64 w t k G) (hp' : Sl .i64 w p' n' F') (ht' : Sl .i64 w t' k' G') (e0 : (m.kd == m'.kd) = true) (e1 : (m.fr == m'.fr) = true) (e2 : (m.fi == m'.fi) = true) (e3 : (m.tw == m'.tw) = true) (e4 : (m.ti == m'.ti) = true) (e5 : (m.tp == m'.tp) = true) (e6 : (m.ep == m'.ep) = true) (e7 : (m.sq == m'.sq) = true) (e8 : (m.la == m'.la) = false) :
    Calls Try.prog 13 #[mv m p t, mv m' p' t'] w fun e w' => e = .returned (.bool false) ∧ Below w.heap.size w w' := by
  obtain ⟨pp, cp, rfl, _, _⟩ := hp.shape
  obtain ⟨pt, ct, rfl, _, _⟩ := ht.shape
  obtain ⟨pp', cp', rfl, _, _⟩ := hp'.shape
  obtain ⟨pt', ct', rfl, _, _⟩ := ht'.shape
  have B0 : Hid (Below w.heap.size w ((w.alloc (.cells #[.int .i64 m.kd, .int .i64 m.fr, .int .i64 m.fi, .int .i64 m.tw, .int .i64 m.ti, .int .i64 m.tp, .int .i64 m.ep, .int .i64 m.sq, .int .i64 m.la, .int .i64 m.va, .int .i64 m.no, .int .i64 m.ic, .int .i64 m.ct, .int .i64 m.hp, .slice pp n cp, .slice pt k ct] 24)).alloc (.cells #[.int .i64 m'.kd, .int .i64 m'.fr, .int .i64 m'.fi, .int .i64 m'.tw, .int .i64 m'.ti, .int .i64 m'.tp, .int .i64 m'.ep, .int .i64 m'.sq, .int .i64 m'.la, .int .i64 m'.va, .int .i64 m'.no, .int .i64 m'.ic, .int .i64 m'.ct, .int .i64 m'.hp, (.slice pp' n' cp'), (.slice pt' k' ct')] 24))) := hide (((Below.refl _ _).alloc (Nat.le_refl _) _).alloc (by simp) _)
  clear hp ht hp' ht'
  unfold mv
  generalize m.kd = a_kd at *
  generalize m'.kd = b_kd at *
  generalize m.fr = a_fr at *
  generalize m'.fr = b_fr at *
  generalize m.fi = a_fi at *
  generalize m'.fi = b_fi at *
  generalize m.tw = a_tw at *
  generalize m'.tw = b_tw at *
  generalize m.ti = a_ti at *
  generalize m'.ti = b_ti at *
  generalize m.tp = a_tp at *
  generalize m'.tp = b_tp at *
  generalize m.ep = a_ep at *
  generalize m'.ep = b_ep at *
  generalize m.sq = a_sq at *
  generalize m'.sq = b_sq at *
  generalize m.la = a_la at *
  generalize m'.la = b_la at *
  generalize m.va = a_va at *
  generalize m'.va = b_va at *
  generalize m.no = a_no at *
  generalize m'.no = b_no at *
  generalize m.ic = a_ic at *
  generalize m'.ic = b_ic at *
  generalize m.ct = a_ct at *
  generalize m'.ct = b_ct at *
  generalize m.hp = a_hp at *
  generalize m'.hp = b_hp at *
  go_enter Try.func13, Try.ntmps13
  go_wp2
  go_ret
  exact ⟨rfl, unhide B0⟩
set_option maxRecDepth 100000 in
set_option maxHeartbeats 1000000 in
theorem keep_9 (m m' : Mg) (F G F' G' : Nat → Int) (p t p' t' : Value) (n k n' k' : Nat) (w : World) (hp : Sl .i64 w p n F) (ht : Sl .i64 w t k G) (hp' : Sl .i64 w p' n' F') (ht' : Sl .i64 w t' k' G') (e0 : (m.kd == m'.kd) = true) (e1 : (m.fr == m'.fr) = true) (e2 : (m.fi == m'.fi) = true) (e3 : (m.tw == m'.tw) = true) (e4 : (m.ti == m'.ti) = true) (e5 : (m.tp == m'.tp) = true) (e6 : (m.ep == m'.ep) = true) (e7 : (m.sq == m'.sq) = true) (e8 : (m.la == m'.la) = true) (e9 : (m.va == m'.va) = false) :
    Calls Try.prog 13 #[mv m p t, mv m' p' t'] w fun e w' => e = .returned (.bool false) ∧ Below w.heap.size w w' := by
  obtain ⟨pp, cp, rfl, _, _⟩ := hp.shape
  obtain ⟨pt, ct, rfl, _, _⟩ := ht.shape
  obtain ⟨pp', cp', rfl, _, _⟩ := hp'.shape
  obtain ⟨pt', ct', rfl, _, _⟩ := ht'.shape
  have B0 : Hid (Below w.heap.size w ((w.alloc (.cells #[.int .i64 m.kd, .int .i64 m.fr, .int .i64 m.fi, .int .i64 m.tw, .int .i64 m.ti, .int .i64 m.tp, .int .i64 m.ep, .int .i64 m.sq, .int .i64 m.la, .int .i64 m.va, .int .i64 m.no, .int .i64 m.ic, .int .i64 m.ct, .int .i64 m.hp, .slice pp n cp, .slice pt k ct] 24)).alloc (.cells #[.int .i64 m'.kd, .int .i64 m'.fr, .int .i64 m'.fi, .int .i64 m'.tw, .int .i64 m'.ti, .int .i64 m'.tp, .int .i64 m'.ep, .int .i64 m'.sq, .int .i64 m'.la, .int .i64 m'.va, .int .i64 m'.no, .int .i64 m'.ic, .int .i64 m'.ct, .int .i64 m'.hp, (.slice pp' n' cp'), (.slice pt' k' ct')] 24))) := hide (((Below.refl _ _).alloc (Nat.le_refl _) _).alloc (by simp) _)
  clear hp ht hp' ht'
  unfold mv
  generalize m.kd = a_kd at *
  generalize m'.kd = b_kd at *
  generalize m.fr = a_fr at *
  generalize m'.fr = b_fr at *
  generalize m.fi = a_fi at *
  generalize m'.fi = b_fi at *
  generalize m.tw = a_tw at *
  generalize m'.tw = b_tw at *
  generalize m.ti = a_ti at *
  generalize m'.ti = b_ti at *
  generalize m.tp = a_tp at *
  generalize m'.tp = b_tp at *
  generalize m.ep = a_ep at *
  generalize m'.ep = b_ep at *
  generalize m.sq = a_sq at *
  generalize m'.sq = b_sq at *
  generalize m.la = a_la at *
  generalize m'.la = b_la at *
  generalize m.va = a_va at *
  generalize m'.va = b_va at *
  generalize m.no = a_no at *
  generalize m'.no = b_no at *
  generalize m.ic = a_ic at *
  generalize m'.ic = b_ic at *
  generalize m.ct = a_ct at *
  generalize m'.ct = b_ct at *
  generalize m.hp = a_hp at *
  generalize m'.hp = b_hp at *
  go_enter Try.func13, Try.ntmps13
  go_wp2
  go_ret
  exact ⟨rfl, unhide B0⟩
set_option maxRecDepth 100000 in
set_option maxHeartbeats 1000000 in
theorem keep_10 (m m' : Mg) (F G F' G' : Nat → Int) (p t p' t' : Value) (n k n' k' : Nat) (w : World) (hp : Sl .i64 w p n F) (ht : Sl .i64 w t k G) (hp' : Sl .i64 w p' n' F') (ht' : Sl .i64 w t' k' G') (e0 : (m.kd == m'.kd) = true) (e1 : (m.fr == m'.fr) = true) (e2 : (m.fi == m'.fi) = true) (e3 : (m.tw == m'.tw) = true) (e4 : (m.ti == m'.ti) = true) (e5 : (m.tp == m'.tp) = true) (e6 : (m.ep == m'.ep) = true) (e7 : (m.sq == m'.sq) = true) (e8 : (m.la == m'.la) = true) (e9 : (m.va == m'.va) = true) (e10 : (m.no == m'.no) = false) :
    Calls Try.prog 13 #[mv m p t, mv m' p' t'] w fun e w' => e = .returned (.bool false) ∧ Below w.heap.size w w' := by
  obtain ⟨pp, cp, rfl, _, _⟩ := hp.shape
  obtain ⟨pt, ct, rfl, _, _⟩ := ht.shape
  obtain ⟨pp', cp', rfl, _, _⟩ := hp'.shape
  obtain ⟨pt', ct', rfl, _, _⟩ := ht'.shape
  have B0 : Hid (Below w.heap.size w ((w.alloc (.cells #[.int .i64 m.kd, .int .i64 m.fr, .int .i64 m.fi, .int .i64 m.tw, .int .i64 m.ti, .int .i64 m.tp, .int .i64 m.ep, .int .i64 m.sq, .int .i64 m.la, .int .i64 m.va, .int .i64 m.no, .int .i64 m.ic, .int .i64 m.ct, .int .i64 m.hp, .slice pp n cp, .slice pt k ct] 24)).alloc (.cells #[.int .i64 m'.kd, .int .i64 m'.fr, .int .i64 m'.fi, .int .i64 m'.tw, .int .i64 m'.ti, .int .i64 m'.tp, .int .i64 m'.ep, .int .i64 m'.sq, .int .i64 m'.la, .int .i64 m'.va, .int .i64 m'.no, .int .i64 m'.ic, .int .i64 m'.ct, .int .i64 m'.hp, (.slice pp' n' cp'), (.slice pt' k' ct')] 24))) := hide (((Below.refl _ _).alloc (Nat.le_refl _) _).alloc (by simp) _)
  clear hp ht hp' ht'
  unfold mv
  generalize m.kd = a_kd at *
  generalize m'.kd = b_kd at *
  generalize m.fr = a_fr at *
  generalize m'.fr = b_fr at *
  generalize m.fi = a_fi at *
  generalize m'.fi = b_fi at *
  generalize m.tw = a_tw at *
  generalize m'.tw = b_tw at *
  generalize m.ti = a_ti at *
  generalize m'.ti = b_ti at *
  generalize m.tp = a_tp at *
  generalize m'.tp = b_tp at *
  generalize m.ep = a_ep at *
  generalize m'.ep = b_ep at *
  generalize m.sq = a_sq at *
  generalize m'.sq = b_sq at *
  generalize m.la = a_la at *
  generalize m'.la = b_la at *
  generalize m.va = a_va at *
  generalize m'.va = b_va at *
  generalize m.no = a_no at *
  generalize m'.no = b_no at *
  generalize m.ic = a_ic at *
  generalize m'.ic = b_ic at *
  generalize m.ct = a_ct at *
  generalize m'.ct = b_ct at *
  generalize m.hp = a_hp at *
  generalize m'.hp = b_hp at *
  go_enter Try.func13, Try.ntmps13
  go_wp2
  go_ret
  exact ⟨rfl, unhide B0⟩
set_option maxRecDepth 100000 in
set_option maxHeartbeats 1000000 in
theorem keep_11 (m m' : Mg) (F G F' G' : Nat → Int) (p t p' t' : Value) (n k n' k' : Nat) (w : World) (hp : Sl .i64 w p n F) (ht : Sl .i64 w t k G) (hp' : Sl .i64 w p' n' F') (ht' : Sl .i64 w t' k' G') (e0 : (m.kd == m'.kd) = true) (e1 : (m.fr == m'.fr) = true) (e2 : (m.fi == m'.fi) = true) (e3 : (m.tw == m'.tw) = true) (e4 : (m.ti == m'.ti) = true) (e5 : (m.tp == m'.tp) = true) (e6 : (m.ep == m'.ep) = true) (e7 : (m.sq == m'.sq) = true) (e8 : (m.la == m'.la) = true) (e9 : (m.va == m'.va) = true) (e10 : (m.no == m'.no) = true) (e11 : (m.ic == m'.ic) = false) :
    Calls Try.prog 13 #[mv m p t, mv m' p' t'] w fun e w' => e = .returned (.bool false) ∧ Below w.heap.size w w' := by
  obtain ⟨pp, cp, rfl, _, _⟩ := hp.shape
  obtain ⟨pt, ct, rfl, _, _⟩ := ht.shape
  obtain ⟨pp', cp', rfl, _, _⟩ := hp'.shape
  obtain ⟨pt', ct', rfl, _, _⟩ := ht'.shape
  have B0 : Hid (Below w.heap.size w ((w.alloc (.cells #[.int .i64 m.kd, .int .i64 m.fr, .int .i64 m.fi, .int .i64 m.tw, .int .i64 m.ti, .int .i64 m.tp, .int .i64 m.ep, .int .i64 m.sq, .int .i64 m.la, .int .i64 m.va, .int .i64 m.no, .int .i64 m.ic, .int .i64 m.ct, .int .i64 m.hp, .slice pp n cp, .slice pt k ct] 24)).alloc (.cells #[.int .i64 m'.kd, .int .i64 m'.fr, .int .i64 m'.fi, .int .i64 m'.tw, .int .i64 m'.ti, .int .i64 m'.tp, .int .i64 m'.ep, .int .i64 m'.sq, .int .i64 m'.la, .int .i64 m'.va, .int .i64 m'.no, .int .i64 m'.ic, .int .i64 m'.ct, .int .i64 m'.hp, (.slice pp' n' cp'), (.slice pt' k' ct')] 24))) := hide (((Below.refl _ _).alloc (Nat.le_refl _) _).alloc (by simp) _)
  clear hp ht hp' ht'
  unfold mv
  generalize m.kd = a_kd at *
  generalize m'.kd = b_kd at *
  generalize m.fr = a_fr at *
  generalize m'.fr = b_fr at *
  generalize m.fi = a_fi at *
  generalize m'.fi = b_fi at *
  generalize m.tw = a_tw at *
  generalize m'.tw = b_tw at *
  generalize m.ti = a_ti at *
  generalize m'.ti = b_ti at *
  generalize m.tp = a_tp at *
  generalize m'.tp = b_tp at *
  generalize m.ep = a_ep at *
  generalize m'.ep = b_ep at *
  generalize m.sq = a_sq at *
  generalize m'.sq = b_sq at *
  generalize m.la = a_la at *
  generalize m'.la = b_la at *
  generalize m.va = a_va at *
  generalize m'.va = b_va at *
  generalize m.no = a_no at *
  generalize m'.no = b_no at *
  generalize m.ic = a_ic at *
  generalize m'.ic = b_ic at *
  generalize m.ct = a_ct at *
  generalize m'.ct = b_ct at *
  generalize m.hp = a_hp at *
  generalize m'.hp = b_hp at *
  go_enter Try.func13, Try.ntmps13
  go_wp2
  go_ret
  exact ⟨rfl, unhide B0⟩
set_option maxRecDepth 100000 in
set_option maxHeartbeats 1000000 in
theorem keep_12 (m m' : Mg) (F G F' G' : Nat → Int) (p t p' t' : Value) (n k n' k' : Nat) (w : World) (hp : Sl .i64 w p n F) (ht : Sl .i64 w t k G) (hp' : Sl .i64 w p' n' F') (ht' : Sl .i64 w t' k' G') (e0 : (m.kd == m'.kd) = true) (e1 : (m.fr == m'.fr) = true) (e2 : (m.fi == m'.fi) = true) (e3 : (m.tw == m'.tw) = true) (e4 : (m.ti == m'.ti) = true) (e5 : (m.tp == m'.tp) = true) (e6 : (m.ep == m'.ep) = true) (e7 : (m.sq == m'.sq) = true) (e8 : (m.la == m'.la) = true) (e9 : (m.va == m'.va) = true) (e10 : (m.no == m'.no) = true) (e11 : (m.ic == m'.ic) = true) (e12 : (m.ct == m'.ct) = false) :
    Calls Try.prog 13 #[mv m p t, mv m' p' t'] w fun e w' => e = .returned (.bool false) ∧ Below w.heap.size w w' := by
  obtain ⟨pp, cp, rfl, _, _⟩ := hp.shape
  obtain ⟨pt, ct, rfl, _, _⟩ := ht.shape
  obtain ⟨pp', cp', rfl, _, _⟩ := hp'.shape
  obtain ⟨pt', ct', rfl, _, _⟩ := ht'.shape
  have B0 : Hid (Below w.heap.size w ((w.alloc (.cells #[.int .i64 m.kd, .int .i64 m.fr, .int .i64 m.fi, .int .i64 m.tw, .int .i64 m.ti, .int .i64 m.tp, .int .i64 m.ep, .int .i64 m.sq, .int .i64 m.la, .int .i64 m.va, .int .i64 m.no, .int .i64 m.ic, .int .i64 m.ct, .int .i64 m.hp, .slice pp n cp, .slice pt k ct] 24)).alloc (.cells #[.int .i64 m'.kd, .int .i64 m'.fr, .int .i64 m'.fi, .int .i64 m'.tw, .int .i64 m'.ti, .int .i64 m'.tp, .int .i64 m'.ep, .int .i64 m'.sq, .int .i64 m'.la, .int .i64 m'.va, .int .i64 m'.no, .int .i64 m'.ic, .int .i64 m'.ct, .int .i64 m'.hp, (.slice pp' n' cp'), (.slice pt' k' ct')] 24))) := hide (((Below.refl _ _).alloc (Nat.le_refl _) _).alloc (by simp) _)
  clear hp ht hp' ht'
  unfold mv
  generalize m.kd = a_kd at *
  generalize m'.kd = b_kd at *
  generalize m.fr = a_fr at *
  generalize m'.fr = b_fr at *
  generalize m.fi = a_fi at *
  generalize m'.fi = b_fi at *
  generalize m.tw = a_tw at *
  generalize m'.tw = b_tw at *
  generalize m.ti = a_ti at *
  generalize m'.ti = b_ti at *
  generalize m.tp = a_tp at *
  generalize m'.tp = b_tp at *
  generalize m.ep = a_ep at *
  generalize m'.ep = b_ep at *
  generalize m.sq = a_sq at *
  generalize m'.sq = b_sq at *
  generalize m.la = a_la at *
  generalize m'.la = b_la at *
  generalize m.va = a_va at *
  generalize m'.va = b_va at *
  generalize m.no = a_no at *
  generalize m'.no = b_no at *
  generalize m.ic = a_ic at *
  generalize m'.ic = b_ic at *
  generalize m.ct = a_ct at *
  generalize m'.ct = b_ct at *
  generalize m.hp = a_hp at *
  generalize m'.hp = b_hp at *
  go_enter Try.func13, Try.ntmps13
  go_wp2
  go_ret
  exact ⟨rfl, unhide B0⟩
set_option maxRecDepth 100000 in
set_option maxHeartbeats 1000000 in
theorem keep_13 (m m' : Mg) (F G F' G' : Nat → Int) (p t p' t' : Value) (n k n' k' : Nat) (w : World) (hp : Sl .i64 w p n F) (ht : Sl .i64 w t k G) (hp' : Sl .i64 w p' n' F') (ht' : Sl .i64 w t' k' G') (e0 : (m.kd == m'.kd) = true) (e1 : (m.fr == m'.fr) = true) (e2 : (m.fi == m'.fi) = true) (e3 : (m.tw == m'.tw) = true) (e4 : (m.ti == m'.ti) = true) (e5 : (m.tp == m'.tp) = true) (e6 : (m.ep == m'.ep) = true) (e7 : (m.sq == m'.sq) = true) (e8 : (m.la == m'.la) = true) (e9 : (m.va == m'.va) = true) (e10 : (m.no == m'.no) = true) (e11 : (m.ic == m'.ic) = true) (e12 : (m.ct == m'.ct) = true) (e13 : (m.hp == m'.hp) = false) :
    Calls Try.prog 13 #[mv m p t, mv m' p' t'] w fun e w' => e = .returned (.bool false) ∧ Below w.heap.size w w' := by
  obtain ⟨pp, cp, rfl, _, _⟩ := hp.shape
  obtain ⟨pt, ct, rfl, _, _⟩ := ht.shape
  obtain ⟨pp', cp', rfl, _, _⟩ := hp'.shape
  obtain ⟨pt', ct', rfl, _, _⟩ := ht'.shape
  have B0 : Hid (Below w.heap.size w ((w.alloc (.cells #[.int .i64 m.kd, .int .i64 m.fr, .int .i64 m.fi, .int .i64 m.tw, .int .i64 m.ti, .int .i64 m.tp, .int .i64 m.ep, .int .i64 m.sq, .int .i64 m.la, .int .i64 m.va, .int .i64 m.no, .int .i64 m.ic, .int .i64 m.ct, .int .i64 m.hp, .slice pp n cp, .slice pt k ct] 24)).alloc (.cells #[.int .i64 m'.kd, .int .i64 m'.fr, .int .i64 m'.fi, .int .i64 m'.tw, .int .i64 m'.ti, .int .i64 m'.tp, .int .i64 m'.ep, .int .i64 m'.sq, .int .i64 m'.la, .int .i64 m'.va, .int .i64 m'.no, .int .i64 m'.ic, .int .i64 m'.ct, .int .i64 m'.hp, (.slice pp' n' cp'), (.slice pt' k' ct')] 24))) := hide (((Below.refl _ _).alloc (Nat.le_refl _) _).alloc (by simp) _)
  clear hp ht hp' ht'
  unfold mv
  generalize m.kd = a_kd at *
  generalize m'.kd = b_kd at *
  generalize m.fr = a_fr at *
  generalize m'.fr = b_fr at *
  generalize m.fi = a_fi at *
  generalize m'.fi = b_fi at *
  generalize m.tw = a_tw at *
  generalize m'.tw = b_tw at *
  generalize m.ti = a_ti at *
  generalize m'.ti = b_ti at *
  generalize m.tp = a_tp at *
  generalize m'.tp = b_tp at *
  generalize m.ep = a_ep at *
  generalize m'.ep = b_ep at *
  generalize m.sq = a_sq at *
  generalize m'.sq = b_sq at *
  generalize m.la = a_la at *
  generalize m'.la = b_la at *
  generalize m.va = a_va at *
  generalize m'.va = b_va at *
  generalize m.no = a_no at *
  generalize m'.no = b_no at *
  generalize m.ic = a_ic at *
  generalize m'.ic = b_ic at *
  generalize m.ct = a_ct at *
  generalize m'.ct = b_ct at *
  generalize m.hp = a_hp at *
  generalize m'.hp = b_hp at *
  go_enter Try.func13, Try.ntmps13
  go_wp2
  go_ret
  exact ⟨rfl, unhide B0⟩
end Go.Proofs.Ytmcmiojidgdjpaa
