/- CrcBack of whatever came in. -/
import Derived.Test.YtfkhapliblnacaaK2
import Derived.Test.YtfkhapliblnacaaD1
namespace Go.Proofs.Ytfkhapliblnacaa
open Go.RowKit

theorem back_walk (x : Option Addr) (m cb : Nat) (zb : List Int) (a : Int) (x0 x1 x2 x3 : Nat) (w : World) (hb : IsRow .u8 w x m cb zb) (b0 : x0 < 256) (b1 : x1 < 256) (b2 : x2 < 256) (b3 : x3 < 256) :
    Calls Try.prog 4 #[.slice x m cb, .int .i64 a, .agg #[.int .u8 (x0 : Int), .int .u8 (x1 : Int), .int .u8 (x2 : Int), .int .u8 (x3 : Int)]] w fun e w' => e = .returned (.bool true) ∧ Below w.heap.size w w' := by
  by_cases h : 400 < m
  · exact back_long x m cb a x0 x1 x2 x3 w hb.len h
  · exact back_ok (rowD zb) x m cb a x0 x1 x2 x3 w hb.bs (fun i _ => hb.lt i) (by omega) b0 b1 b2 b3
end Go.Proofs.Ytfkhapliblnacaa
