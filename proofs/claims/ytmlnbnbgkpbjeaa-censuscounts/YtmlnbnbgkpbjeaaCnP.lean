/- The version that counts is the greatest one that K drives hold: the statement's walk. -/
import Derived.Test.YtmlnbnbgkpbjeaaCnM
import Derived.Test.YtmlnbnbgkpbjeaaCnN
import Derived.Test.YtmlnbnbgkpbjeaaCnO
namespace Go.Proofs.Ytmlnbnbgkpbjeaa
open Go.RowKit Go.Maps Go.ChangeShapes

theorem cc_law {k r c q : Int} {N W : Nat} {x : Int} (h : Par k r c q N W x) (w : World) (ro : Option Addr) (rn rc : Nat) (A : Nat → Option Addr) (L C : Nat → Nat) (F : Nat → Nat → UInt8) (hr : Rw w ro rn A L C F) :
    Calls Try.prog 4 #[.agg #[.int .i64 k, .int .i64 r, .int .i64 c, .int .i64 q], .slice ro rn rc] w fun e w' => e = .returned (.bool true) ∧ Below w.heap.size w w' := by
  by_cases e0 : erR x N c rn L = 0
  · match hws : wins k (hP N c L F) (hQ N c L F) N with
    | [] => exact cc_none h w ro rn rc A L C F hr e0 hws
    | [a0] => exact cc_one h w ro rn rc A L C F hr e0 a0 hws
    | a0 :: b0 :: l0 => exact cc_two h w ro rn rc A L C F hr e0 a0 b0 l0 hws
  · exact cc_err h w ro rn rc A L C F hr e0
end Go.Proofs.Ytmlnbnbgkpbjeaa
