/- SHA-256 of the known texts, reckoned by the kernel. -/
import Derived.Test.YtaojifgbnllebaaDoorB3
import Derived.Test.YtaojifgbnllebaaDoorE1
namespace Go.Proofs.YtaojifgbnllebaaDoor
open Go.RowKit

def kList : List Nat := [1116352408, 1899447441, 3049323471, 3921009573, 961987163, 1508970993, 2453635748, 2870763221, 3624381080, 310598401, 607225278, 1426881987, 1925078388, 2162078206, 2614888103, 3248222580, 3835390401, 4022224774, 264347078, 604807628, 770255983, 1249150122, 1555081692, 1996064986, 2554220882, 2821834349, 2952996808, 3210313671, 3336571891, 3584528711, 113926993, 338241895, 666307205, 773529912, 1294757372, 1396182291, 1695183700, 1986661051, 2177026350, 2456956037, 2730485921, 2820302411, 3259730800, 3345764771, 3516065817, 3600352804, 4094571909, 275423344, 430227734, 506948616, 659060556, 883997877, 958139571, 1322822218, 1537002063, 1747873779, 1955562222, 2024104815, 2227730452, 2361852424, 2428436474, 2756734187, 3204031479, 3329325298]
def s0N : N8 := ⟨1779033703, 3144134277, 1013904242, 2773480762, 1359893119, 2600822924, 528734635, 1541459225⟩
def N8.force8 {α : Type} (s : N8) (k : N8 → α) : α := forceN s.a fun a => forceN s.b fun b => forceN s.c fun c => forceN s.d fun d => forceN s.e fun e => forceN s.f fun f => forceN s.g fun g => forceN s.h fun h => k ⟨a, b, c, d, e, f, g, h⟩
theorem N8.force8_eq {α : Type} (s : N8) (k : N8 → α) : s.force8 k = k s := by unfold N8.force8; simp only [forceN_eq]
def N8.blocksL (ks : List Nat) (bs : Nat → Nat) (s : N8) : Nat → N8
  | 0 => s
  | k + 1 => (N8.blocksL ks bs s k).force8 fun t => t.mixL ks (fun i => bs (64 * k + i))
theorem blocksL_eq (ks : List Nat) (hk : ks.length = 64) (bs : Nat → Nat) (s : N8) : ∀ n, S8.blocks (fun i => (ks.getD i 0 : Int)) (fun i => (bs i : Int)) s.up n = (N8.blocksL ks bs s n).up
  | 0 => rfl
  | n + 1 => by
    rw [S8.blocks, blocksL_eq ks hk bs s n, N8.blocksL, N8.force8_eq]
    exact mixL_eq ks hk (fun i => bs (64 * n + i)) _
def padN (bs : Nat → Nat) (r L room k i : Nat) : Nat :=
  if room ≤ i + k ∧ i < room then L / 2 ^ (8 * (room - 1 - i)) % 256 else if i < r then bs i else if i = r then 128 else 0
theorem padN_eq (bs : Nat → Nat) (r L room k i : Nat) : padF (fun i => (bs i : Int)) r (L : Int) room k i = ((padN bs r L room k i : Nat) : Int) := by
  unfold padF padN
  split
  · simp
  · split
    · rfl
    · split <;> rfl
def shaN (s0 : N8) (ks : List Nat) (bs : Nat → Nat) (n : Nat) : N8 :=
  if n % 64 < 56 then N8.blocksL ks (padN (fun i => bs (64 * (n / 64) + i)) (n % 64) (n * 8) 64 8) (N8.blocksL ks bs s0 (n / 64)) 1
  else N8.blocksL ks (padN (fun i => bs (64 * (n / 64) + i)) (n % 64) (n * 8) 128 8) (N8.blocksL ks bs s0 (n / 64)) 2
theorem shaN_eq (s0 : N8) (ks : List Nat) (hk : ks.length = 64) (bs : Nat → Nat) (n : Nat) : shaS s0.up (fun i => (ks.getD i 0 : Int)) (fun i => (bs i : Int)) n = (shaN s0 ks bs n).up := by
  have e : (64 * ((n / 64 : Nat) : Int) + ((n % 64 : Nat) : Int)) * 8 = ((n * 8 : Nat) : Int) := by omega
  unfold shaS shaN
  rw [e]
  simp only
  have p : ∀ room, (padF (fun i => ((bs (64 * (n / 64) + i) : Nat) : Int)) (n % 64) ((n * 8 : Nat) : Int) room 8) = fun i => ((padN (fun i => bs (64 * (n / 64) + i)) (n % 64) (n * 8) room 8 i : Nat) : Int) := fun room => funext fun i => padN_eq _ _ _ _ _ _
  rw [p 64, p 128, blocksL_eq ks hk bs, blocksL_eq ks hk, blocksL_eq ks hk]
  split <;> rfl
/-- Bytes that are written out. -/
def byteAt (l : List Nat) (i : Nat) : Int := (l.getD i 0 : Int)
def kk : Nat → Int := fun i => (kList.getD i 0 : Int)
def s0 : S8 := s0N.up
def emptyL : List Nat := []
theorem empty_N : shaN s0N kList (fun i => emptyL.getD i 0) 0 = ⟨3820012610, 2566659092, 2600203464, 2574235940, 665731556, 1687917388, 2761267483, 2018687061⟩ := by kernel_rfl
theorem empty_S : shaS s0 kk (byteAt emptyL) 0 = N8.up ⟨3820012610, 2566659092, 2600203464, 2574235940, 665731556, 1687917388, 2761267483, 2018687061⟩ := (shaN_eq s0N kList rfl (fun i => emptyL.getD i 0) 0).trans (by rw [empty_N])
def abcL : List Nat := [97, 98, 99]
theorem abc_N : shaN s0N kList (fun i => abcL.getD i 0) 3 = ⟨3128432319, 2399260650, 1094795486, 1571693091, 2953011619, 2518121116, 3021012833, 4060091821⟩ := by kernel_rfl
theorem abc_S : shaS s0 kk (byteAt abcL) 3 = N8.up ⟨3128432319, 2399260650, 1094795486, 1571693091, 2953011619, 2518121116, 3021012833, 4060091821⟩ := (shaN_eq s0N kList rfl (fun i => abcL.getD i 0) 3).trans (by rw [abc_N])
def midL : List Nat := [97, 98, 99, 100, 98, 99, 100, 101, 99, 100, 101, 102, 100, 101, 102, 103, 101, 102, 103, 104, 102, 103, 104, 105, 103, 104, 105, 106, 104, 105, 106, 107, 105, 106, 107, 108, 106, 107, 108, 109, 107, 108, 109, 110, 108, 109, 110, 111, 109, 110, 111, 112, 110, 111, 112, 113]
theorem mid_N : shaN s0N kList (fun i => midL.getD i 0) 56 = ⟨613247585, 3523623096, 3854575251, 205414457, 2738676825, 1694441831, 4142722516, 433784513⟩ := by kernel_rfl
theorem mid_S : shaS s0 kk (byteAt midL) 56 = N8.up ⟨613247585, 3523623096, 3854575251, 205414457, 2738676825, 1694441831, 4142722516, 433784513⟩ := (shaN_eq s0N kList rfl (fun i => midL.getD i 0) 56).trans (by rw [mid_N])
def longL : List Nat := [97, 98, 99, 100, 101, 102, 103, 104, 98, 99, 100, 101, 102, 103, 104, 105, 99, 100, 101, 102, 103, 104, 105, 106, 100, 101, 102, 103, 104, 105, 106, 107, 101, 102, 103, 104, 105, 106, 107, 108, 102, 103, 104, 105, 106, 107, 108, 109, 103, 104, 105, 106, 107, 108, 109, 110, 104, 105, 106, 107, 108, 109, 110, 111, 105, 106, 107, 108, 109, 110, 111, 112, 106, 107, 108, 109, 110, 111, 112, 113, 107, 108, 109, 110, 111, 112, 113, 114, 108, 109, 110, 111, 112, 113, 114, 115, 109, 110, 111, 112, 113, 114, 115, 116, 110, 111, 112, 113, 114, 115, 116, 117]
theorem long_N : shaN s0N kList (fun i => longL.getD i 0) 112 = ⟨3478853287, 2024768384, 57468318, 2063897143, 186948369, 3908074065, 2947302659, 2063526353⟩ := by kernel_rfl
theorem long_S : shaS s0 kk (byteAt longL) 112 = N8.up ⟨3478853287, 2024768384, 57468318, 2063897143, 186948369, 3908074065, 2947302659, 2063526353⟩ := (shaN_eq s0N kList rfl (fun i => longL.getD i 0) 112).trans (by rw [long_N])
def n0L : List Nat := [110, 48]
theorem n0_N : shaN s0N kList (fun i => n0L.getD i 0) 2 = ⟨2181913995, 2943758022, 1842173694, 3512498367, 664327417, 3175690053, 1407818566, 2223395992⟩ := by kernel_rfl
theorem n0_S : shaS s0 kk (byteAt n0L) 2 = N8.up ⟨2181913995, 2943758022, 1842173694, 3512498367, 664327417, 3175690053, 1407818566, 2223395992⟩ := (shaN_eq s0N kList rfl (fun i => n0L.getD i 0) 2).trans (by rw [n0_N])
end Go.Proofs.YtaojifgbnllebaaDoor
