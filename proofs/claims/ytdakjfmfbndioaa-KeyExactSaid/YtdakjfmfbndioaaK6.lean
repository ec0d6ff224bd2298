/- Between, the program's and the page's, with the answer named ahead. -/
import Derived.Test.YtdakjfmfbndioaaK5
namespace Go.Proofs.Ytdakjfmfbndioaa
open Go.RowKit
/-- What Between answers. -/
def BT (a k b : Int) (t : Bool) : Prop := decide (Key a ∧ Key k ∧ Key b ∧ Btw a k b) = t
theorem bt_ex (a k b : Int) : ∃ t, BT a k b t := ⟨_, rfl⟩
theorem between_is (a k b : Int) (t : Bool) (h : BT a k b t) (w : World) :
    Calls Try.prog 11 #[.int .i64 a, .int .i64 k, .int .i64 b] w fun e w' => e = .returned (.bool t) ∧ w' = w := by
  have := between_any a k b w
  rw [h] at this
  exact this
theorem rbetween_is (a k b : Int) (t : Bool) (h : BT a k b t) (w : World) :
    Calls Try.prog 12 #[.int .i64 a, .int .i64 k, .int .i64 b] w fun e w' => e = .returned (.bool t) ∧ w' = w := by
  have := rbetween_any a k b w
  rw [h] at this
  exact this
end Go.Proofs.Ytdakjfmfbndioaa
