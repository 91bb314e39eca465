/- What Mul, Pick, Rank and Inverse of the program answer. -/
import Derived.Test.YtgflgmkaaidfnaaMatF
namespace Go.Proofs.Ytgflgmkaaidfnaa
open Go.RowKit

def okMul (la : Nat) (La : Nat → Nat) (lb : Nat) (Lb : Nat → Nat) : Bool := okM la La && (okM lb Lb && decide (La 0 = lb))

theorem below_2 (w : World) (o o' : Obj) : Below w.heap.size w ((w.alloc o).alloc o') := ((Below.refl _ _).alloc (Nat.le_refl _) o).alloc (by simp) o'

end Go.Proofs.Ytgflgmkaaidfnaa

/- What Pick and Rank of the program answer. -/
namespace Go.Proofs.Ytgflgmkaaidfnaa
open Go.RowKit

/-- A slice of n integers that begins at ao reads as R 0, R 1, .. -/
def RdI (w : World) (ao : Option Addr) (n : Nat) (R : Nat → Int) : Prop :=
  0 < n → ∃ b off, ao = some ⟨b, off, none⟩ ∧ ∀ i, i < n → w.cell? ⟨b, off + i, none⟩ = some (.int .i64 (R i))
theorem RdI.below {w w' : World} {ao : Option Addr} {n : Nat} {R : Nat → Int} (h : RdI w ao n R) (ho : Below w.heap.size w w') : RdI w' ao n R := by
  intro hn
  obtain ⟨b, off, rfl, hc⟩ := h hn
  exact ⟨b, off, rfl, fun i hi => held (hc i hi) ho⟩
theorem RdI.past {w0 w w' : World} {B T : Nat} {ao : Option Addr} {n : Nat} {R : Nat → Int} (h0 : RdI w0 ao n R) (h : RdI w ao n R) (hk : Keeps B T w w') (hB : w0.heap.size ≤ B) : RdI w' ao n R := by
  intro hn
  obtain ⟨b, off, rfl, hc⟩ := h hn
  obtain ⟨b', off', e, hc'⟩ := h0 hn
  cases e
  exact ⟨b, off, rfl, fun i hi => hk.cell (hc i hi) (.inl (Nat.lt_of_lt_of_le (World.block_lt_of_cell? w0 _ (hc' i hi)) hB))⟩
def okPick (ll : Nat) (L : Nat → Nat) (lr : Nat) (R : Nat → Int) : Bool := okM ll L && decide (1 ≤ lr ∧ lr ≤ 32 ∧ ∀ i, i < lr → 0 ≤ R i ∧ R i < ll)
def errM (b : Bool) (e : Int) : Int := if b then e else 30
def picked (H : M) (R : Nat → Int) : M := fun i j => H (R i).toNat j

def rankV (ll : Nat) (L : Nat → Nat) (H : M) : Nat := lenB (okM ll L) (rankOf ll (L 0) H)
def Told (w : World) (n : Nat) (err : Int) (e : Ending) (w' : World) : Prop := e = .returned (.tuple #[.int .i64 (n : Int), .int .i64 err]) ∧ Below w.heap.size w w'

end Go.Proofs.Ytgflgmkaaidfnaa

/- What Inverse of the program answers. -/
namespace Go.Proofs.Ytgflgmkaaidfnaa
open Go.RowKit

def okSq (ll : Nat) (L : Nat → Nat) : Bool := okM ll L && decide (L 0 = ll)
def okInv (ll : Nat) (L : Nat → Nat) (H : M) : Bool := okSq ll L && invB ll H

end Go.Proofs.Ytgflgmkaaidfnaa

