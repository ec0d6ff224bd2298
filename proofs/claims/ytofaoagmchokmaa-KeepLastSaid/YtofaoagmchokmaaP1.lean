/- What is kept once many were pushed, one by one. -/
import Derived.Test.YtofaoagmchokmaaA4
import Derived.Test.YtofaoagmchokmaaD1
namespace Go.Proofs.Ytofaoagmchokmaa
open Go.RowKit

/-- A value below a thousand. -/
def vm (x : Int) : Int := (x % 18446744073709551616) % 1000
theorem vm_is (x : Int) : wrap64 ((IntKind.u64.wrap x).tmod 1000) = vm x := modU x 1000 (by omega) (by omega)
theorem vm_lo (x : Int) : 0 ≤ vm x := by unfold vm; omega
theorem vm_hi (x : Int) : vm x < 1000 := by unfold vm; omega
theorem vm_v (x : Int) : isV (vm x) := ⟨vm_lo x, by have := vm_hi x; omega⟩
/-- The first i that were pushed. -/
def al (F : Nat → Int) (f : Int) (i : Nat) : List It := itL (fun j => (f + j, vm (F j))) i
theorem al_succ (F : Nat → Int) (f : Int) (i : Nat) : al F f (i + 1) = al F f i ++ [(f + i, vm (F i))] := by
  unfold al itL
  rw [List.range_succ, List.map_append]
  rfl
theorem al_len (F : Nat → Int) (f : Int) (i : Nat) : (al F f i).length = i := itL_len _ _
theorem al_kz (F : Nat → Int) (f : Int) {i j : Nat} (h : j < i) : kz (al F f i) j = (f + j, vm (F j)) := itL_kz _ h
/-- What is kept of them: the last ones, at most c. -/
def pk (F : Nat → Int) (f : Int) (c i : Nat) : List It := (al F f i).drop (i - c)
theorem pk_zero (F : Nat → Int) (f : Int) (c : Nat) : pk F f c 0 = [] := by simp [pk, al, itL]
theorem pk_len (F : Nat → Int) (f : Int) (c i : Nat) : (pk F f c i).length = min c i := by
  unfold pk
  rw [List.length_drop, al_len]
  omega
theorem pk_kz (F : Nat → Int) (f : Int) {c i j : Nat} (h : j < min c i) : kz (pk F f c i) j = (f + ((i - c + j : Nat) : Int), vm (F (i - c + j))) := by
  unfold pk
  rw [kz_drop, al_kz F f (by omega)]
theorem pk_succ (F : Nat → Int) (f : Int) (c i : Nat) (hc : 1 ≤ c) : pu (pk F f c i) (f + i) c (vm (F i)) = pk F f c (i + 1) := by
  unfold pu
  rw [pk_len]
  have e : pk F f c i ++ [(f + (i : Int), vm (F i))] = (al F f (i + 1)).drop (i - c) := by
    unfold pk
    rw [al_succ, List.drop_append_of_le_length (by rw [al_len]; omega)]
  rw [e, List.drop_drop]
  unfold pk
  congr 1
  omega
theorem pk_rt (F : Nat → Int) (f : Int) (c i : Nat) (hc : 1 ≤ c) (hc2 : c ≤ 16) (hf : 1 ≤ f) (hi : f + i ≤ 1073741824) : Rt (pk F f c i) (f + i) c := by
  refine ⟨by omega, hi, by omega, by omega, by rw [pk_len]; omega, by rw [pk_len]; omega, fun j hj => ?_⟩
  rw [pk_len] at hj
  refine ⟨?_, ?_⟩
  · rw [pk_kz F f hj, pk_len]
    simp only
    omega
  · rw [pk_kz F f hj]
    exact vm_v _
theorem pk_end (F : Nat → Int) (f : Int) (a b i : Nat) (h : a ≤ b) : (pk F f b i).drop (min b i - min a i) = pk F f a i := by
  unfold pk
  rw [List.drop_drop]
  congr 1
  omega
theorem push_pk (F : Nat → Int) (f : Int) (c k : Nat) (hc : 1 ≤ c) (hc2 : c ≤ 16) (hf : 1 ≤ f) (hi : f + k < 1073741824) (v : Value) (w : World) (h : KL w v (pk F f c k)) :
    Calls Try.prog 7 #[v, .int .i64 (f + k), .int .i64 c, .int .i64 (vm (F k))] w fun e w' => ∃ v', e = .returned (.tuple #[v', .int .i64 0]) ∧ KL w' v' (pk F f c (k + 1)) ∧ Below w.heap.size w w' := by
  have := push_ok (pk F f c k) (f + k) c (vm (F k)) v w h (pk_rt F f c k hc hc2 hf (by omega)) (vm_v _) hi
  rwa [pk_succ F f c k hc] at this
end Go.Proofs.Ytofaoagmchokmaa
