/- What Mul, Pick, Rank and Inverse of the program answer. -/
import Derived.Test.YthkikocacbbhkaaMatF
namespace Go.Proofs.Ythkikocacbbhkaa
open Go.RowKit

def okMul (la : Nat) (La : Nat → Nat) (lb : Nat) (Lb : Nat → Nat) : Bool := okM la La && (okM lb Lb && decide (La 0 = lb))

theorem below_2 (w : World) (o o' : Obj) : Below w.heap.size w ((w.alloc o).alloc o') := ((Below.refl _ _).alloc (Nat.le_refl _) o).alloc (by simp) o'

end Go.Proofs.Ythkikocacbbhkaa
