/- SHA-256 of the nodes' and the topics' names, reckoned by the kernel. -/
import Derived.Test.YteldgklcfemenaaDoorShB3
import Derived.Test.YteldgklcfemenaaDoorShE1
namespace Go.Proofs.YteldgklcfemenaaDoor.Sh
open Go.RowKit

def kList : List Nat := [1116352408, 1899447441, 3049323471, 3921009573, 961987163, 1508970993, 2453635748, 2870763221, 3624381080, 310598401, 607225278, 1426881987, 1925078388, 2162078206, 2614888103, 3248222580, 3835390401, 4022224774, 264347078, 604807628, 770255983, 1249150122, 1555081692, 1996064986, 2554220882, 2821834349, 2952996808, 3210313671, 3336571891, 3584528711, 113926993, 338241895, 666307205, 773529912, 1294757372, 1396182291, 1695183700, 1986661051, 2177026350, 2456956037, 2730485921, 2820302411, 3259730800, 3345764771, 3516065817, 3600352804, 4094571909, 275423344, 430227734, 506948616, 659060556, 883997877, 958139571, 1322822218, 1537002063, 1747873779, 1955562222, 2024104815, 2227730452, 2361852424, 2428436474, 2756734187, 3204031479, 3329325298]
def s0N : N8 := ⟨1779033703, 3144134277, 1013904242, 2773480762, 1359893119, 2600822924, 528734635, 1541459225⟩
def N8.force8 {α : Type} (s : N8) (k : N8 → α) : α := forceN s.a fun a => forceN s.b fun b => forceN s.c fun c => forceN s.d fun d => forceN s.e fun e => forceN s.f fun f => forceN s.g fun g => forceN s.h fun h => k ⟨a, b, c, d, e, f, g, h⟩
theorem N8.force8_eq {α : Type} (s : N8) (k : N8 → α) : s.force8 k = k s := by unfold N8.force8; simp only [forceN_eq]
def N8.blocksL (ks : List Nat) (bs : Nat → Nat) (s : N8) : Nat → N8
  | 0 => s
  | k + 1 => (N8.blocksL ks bs s k).force8 fun t => t.mixL ks (fun i => bs (64 * k + i))
theorem blocksL_eq (ks : List Nat) (hk : ks.length = 64) (bs : Nat → Nat) (s : N8) : ∀ n, S8.blocks (fun i => (ks.getD i 0 : Int)) (fun i => (bs i : Int)) s.up n = (N8.blocksL ks bs s n).up
  | 0 => rfl
  | n + 1 => by
    rw [S8.blocks, blocksL_eq ks hk bs s n, N8.blocksL, N8.force8_eq]
    exact mixL_eq ks hk (fun i => bs (64 * n + i)) _
def padN (bs : Nat → Nat) (r L room k i : Nat) : Nat :=
  if room ≤ i + k ∧ i < room then L / 2 ^ (8 * (room - 1 - i)) % 256 else if i < r then bs i else if i = r then 128 else 0
theorem padN_eq (bs : Nat → Nat) (r L room k i : Nat) : padF (fun i => (bs i : Int)) r (L : Int) room k i = ((padN bs r L room k i : Nat) : Int) := by
  unfold padF padN
  split
  · simp
  · split
    · rfl
    · split <;> rfl
def shaN (s0 : N8) (ks : List Nat) (bs : Nat → Nat) (n : Nat) : N8 :=
  if n % 64 < 56 then N8.blocksL ks (padN (fun i => bs (64 * (n / 64) + i)) (n % 64) (n * 8) 64 8) (N8.blocksL ks bs s0 (n / 64)) 1
  else N8.blocksL ks (padN (fun i => bs (64 * (n / 64) + i)) (n % 64) (n * 8) 128 8) (N8.blocksL ks bs s0 (n / 64)) 2
theorem shaN_eq (s0 : N8) (ks : List Nat) (hk : ks.length = 64) (bs : Nat → Nat) (n : Nat) : shaS s0.up (fun i => (ks.getD i 0 : Int)) (fun i => (bs i : Int)) n = (shaN s0 ks bs n).up := by
  have e : (64 * ((n / 64 : Nat) : Int) + ((n % 64 : Nat) : Int)) * 8 = ((n * 8 : Nat) : Int) := by omega
  unfold shaS shaN
  rw [e]
  simp only
  have p : ∀ room, (padF (fun i => ((bs (64 * (n / 64) + i) : Nat) : Int)) (n % 64) ((n * 8 : Nat) : Int) room 8) = fun i => ((padN (fun i => bs (64 * (n / 64) + i)) (n % 64) (n * 8) room 8 i : Nat) : Int) := fun room => funext fun i => padN_eq _ _ _ _ _ _
  rw [p 64, p 128, blocksL_eq ks hk bs, blocksL_eq ks hk, blocksL_eq ks hk]
  split <;> rfl
/-- Bytes that are written out. -/
def byteAt (l : List Nat) (i : Nat) : Int := (l.getD i 0 : Int)
def kk : Nat → Int := fun i => (kList.getD i 0 : Int)
def s0 : S8 := s0N.up
def n0L : List Nat := [110, 48]
theorem n0_N : shaN s0N kList (fun i => n0L.getD i 0) 2 = ⟨2181913995, 2943758022, 1842173694, 3512498367, 664327417, 3175690053, 1407818566, 2223395992⟩ := by kernel_rfl
theorem n0_S : shaS s0 kk (byteAt n0L) 2 = N8.up ⟨2181913995, 2943758022, 1842173694, 3512498367, 664327417, 3175690053, 1407818566, 2223395992⟩ := (shaN_eq s0N kList rfl (fun i => n0L.getD i 0) 2).trans (by rw [n0_N])
theorem n0_H : headN (shaS s0 kk (byteAt n0L) 2).byte 8 / 4 = 2342812313538366385 := by rw [n0_S]; decide +kernel
def n1L : List Nat := [110, 49]
theorem n1_N : shaN s0N kList (fun i => n1L.getD i 0) 2 = ⟨1735101368, 1290217085, 3575701194, 1209125105, 173270582, 892274328, 2135096898, 1523506560⟩ := by kernel_rfl
theorem n1_S : shaS s0 kk (byteAt n1L) 2 = N8.up ⟨1735101368, 1290217085, 3575701194, 1209125105, 173270582, 892274328, 2135096898, 1523506560⟩ := (shaN_eq s0N kList rfl (fun i => n1L.getD i 0) 2).trans (by rw [n1_N])
theorem n1_H : headN (shaS s0 kk (byteAt n1L) 2).byte 8 / 4 = 1863050908023769503 := by rw [n1_S]; decide +kernel
def n2L : List Nat := [110, 50]
theorem n2_N : shaN s0N kList (fun i => n2L.getD i 0) 2 = ⟨75540797, 781912395, 2313195009, 2539686316, 404306680, 46558051, 482923228, 464424072⟩ := by kernel_rfl
theorem n2_S : shaS s0 kk (byteAt n2L) 2 = N8.up ⟨75540797, 781912395, 2313195009, 2539686316, 404306680, 46558051, 482923228, 464424072⟩ := (shaN_eq s0N kList rfl (fun i => n2L.getD i 0) 2).trans (by rw [n2_N])
theorem n2_H : headN (shaS s0 kk (byteAt n2L) 2).byte 8 / 4 = 81111313352671826 := by rw [n2_S]; decide +kernel
def n3L : List Nat := [110, 51]
theorem n3_N : shaN s0N kList (fun i => n3L.getD i 0) 2 = ⟨2267141732, 4016048490, 2774131114, 1819462385, 4207893728, 2332273257, 569219829, 1683838054⟩ := by kernel_rfl
theorem n3_S : shaS s0 kk (byteAt n3L) 2 = N8.up ⟨2267141732, 4016048490, 2774131114, 1819462385, 4207893728, 2332273257, 569219829, 1683838054⟩ := (shaN_eq s0N kList rfl (fun i => n3L.getD i 0) 2).trans (by rw [n3_N])
theorem n3_H : headN (shaS s0 kk (byteAt n3L) 2).byte 8 / 4 = 2434324899588211290 := by rw [n3_S]; decide +kernel
def n4L : List Nat := [110, 52]
theorem n4_N : shaN s0N kList (fun i => n4L.getD i 0) 2 = ⟨2286226184, 784654127, 3704437346, 1819166875, 837782719, 354145603, 2901862537, 268050249⟩ := by kernel_rfl
theorem n4_S : shaS s0 kk (byteAt n4L) 2 = N8.up ⟨2286226184, 784654127, 3704437346, 1819166875, 837782719, 354145603, 2901862537, 268050249⟩ := (shaN_eq s0N kList rfl (fun i => n4L.getD i 0) 2).trans (by rw [n4_N])
theorem n4_H : headN (shaS s0 kk (byteAt n4L) 2).byte 8 / 4 = 2454816673080883147 := by rw [n4_S]; decide +kernel
def n5L : List Nat := [110, 53]
theorem n5_N : shaN s0N kList (fun i => n5L.getD i 0) 2 = ⟨1250186993, 238512279, 2026829106, 2875880308, 706030916, 2165902003, 501602035, 4079956636⟩ := by kernel_rfl
theorem n5_S : shaS s0 kk (byteAt n5L) 2 = N8.up ⟨1250186993, 238512279, 2026829106, 2875880308, 706030916, 2165902003, 501602035, 4079956636⟩ := (shaN_eq s0N kList rfl (fun i => n5L.getD i 0) 2).trans (by rw [n5_N])
theorem n5_H : headN (shaS s0 kk (byteAt n5L) 2).byte 8 / 4 = 1342378062264523301 := by rw [n5_S]; decide +kernel
def n6L : List Nat := [110, 54]
theorem n6_N : shaN s0N kList (fun i => n6L.getD i 0) 2 = ⟨764298542, 372558564, 773311646, 3379867629, 2483199520, 3918519876, 1148218942, 4207001463⟩ := by kernel_rfl
theorem n6_S : shaS s0 kk (byteAt n6L) 2 = N8.up ⟨764298542, 372558564, 773311646, 3379867629, 2483199520, 3918519876, 1148218942, 4207001463⟩ := (shaN_eq s0N kList rfl (fun i => n6L.getD i 0) 2).trans (by rw [n6_N])
theorem n6_H : headN (shaS s0 kk (byteAt n6L) 2).byte 8 / 4 = 820659310660760249 := by rw [n6_S]; decide +kernel
def n7L : List Nat := [110, 55]
theorem n7_N : shaN s0N kList (fun i => n7L.getD i 0) 2 = ⟨1868479011, 431846788, 1897906716, 783668411, 2251499451, 2052779134, 2838429659, 4179086735⟩ := by kernel_rfl
theorem n7_S : shaS s0 kk (byteAt n7L) 2 = N8.up ⟨1868479011, 431846788, 1897906716, 783668411, 2251499451, 2052779134, 2838429659, 4179086735⟩ := (shaN_eq s0N kList rfl (fun i => n7L.getD i 0) 2).trans (by rw [n7_N])
theorem n7_H : headN (shaS s0 kk (byteAt n7L) 2).byte 8 / 4 = 2006264061484817761 := by rw [n7_S]; decide +kernel
def t0L : List Nat := [116, 48]
theorem t0_N : shaN s0N kList (fun i => t0L.getD i 0) 2 = ⟨1362044589, 2747520564, 2889640722, 3081977013, 196122172, 1064147236, 605428168, 1321701362⟩ := by kernel_rfl
theorem t0_S : shaS s0 kk (byteAt t0L) 2 = N8.up ⟨1362044589, 2747520564, 2889640722, 3081977013, 196122172, 1064147236, 605428168, 1321701362⟩ := (shaN_eq s0N kList rfl (fun i => t0L.getD i 0) 2).trans (by rw [t0_N])
theorem t0_H : headN (shaS s0 kk (byteAt t0L) 2).byte 8 / 4 = 1462484242049070477 := by rw [t0_S]; decide +kernel
def t1L : List Nat := [116, 49]
theorem t1_N : shaN s0N kList (fun i => t1L.getD i 0) 2 = ⟨1653295577, 1842211194, 1124979957, 2540722329, 3768227471, 2033488356, 3070544611, 977329154⟩ := by kernel_rfl
theorem t1_S : shaS s0 kk (byteAt t1L) 2 = N8.up ⟨1653295577, 1842211194, 1124979957, 2540722329, 3768227471, 2033488356, 3070544611, 977329154⟩ := (shaN_eq s0N kList rfl (fun i => t1L.getD i 0) 2).trans (by rw [t1_N])
theorem t1_H : headN (shaS s0 kk (byteAt t1L) 2).byte 8 / 4 = 1775212608919665246 := by rw [t1_S]; decide +kernel
def t2L : List Nat := [116, 50]
theorem t2_N : shaN s0N kList (fun i => t2L.getD i 0) 2 = ⟨3292820483, 2370149952, 3832630014, 4202428634, 3925443403, 586541292, 500446444, 3056292142⟩ := by kernel_rfl
theorem t2_S : shaS s0 kk (byteAt t2L) 2 = N8.up ⟨3292820483, 2370149952, 3832630014, 4202428634, 3925443403, 586541292, 500446444, 3056292142⟩ := (shaN_eq s0N kList rfl (fun i => t2L.getD i 0) 2).trans (by rw [t2_N])
theorem t2_H : headN (shaS s0 kk (byteAt t2L) 2).byte 8 / 4 = 3535639072113518480 := by rw [t2_S]; decide +kernel
def t3L : List Nat := [116, 51]
theorem t3_N : shaN s0N kList (fun i => t3L.getD i 0) 2 = ⟨3469642396, 3975900286, 2128933684, 1834886468, 327940974, 868140548, 706163514, 1295089840⟩ := by kernel_rfl
theorem t3_S : shaS s0 kk (byteAt t3L) 2 = N8.up ⟨3469642396, 3975900286, 2128933684, 1834886468, 327940974, 868140548, 706163514, 1295089840⟩ := (shaN_eq s0N kList rfl (fun i => t3L.getD i 0) 2).trans (by rw [t3_N])
theorem t3_H : headN (shaS s0 kk (byteAt t3L) 2).byte 8 / 4 = 3725500155902745375 := by rw [t3_S]; decide +kernel
end Go.Proofs.YteldgklcfemenaaDoor.Sh
