/- What Pick and Rank of the program answer. -/
import Derived.Test.YthkikocacbbhkaaMatG
namespace Go.Proofs.Ythkikocacbbhkaa
open Go.RowKit

/-- A slice of n integers that begins at ao reads as R 0, R 1, .. -/
def RdI (w : World) (ao : Option Addr) (n : Nat) (R : Nat → Int) : Prop :=
  0 < n → ∃ b off, ao = some ⟨b, off, none⟩ ∧ ∀ i, i < n → w.cell? ⟨b, off + i, none⟩ = some (.int .i64 (R i))
theorem RdI.below {w w' : World} {ao : Option Addr} {n : Nat} {R : Nat → Int} (h : RdI w ao n R) (ho : Below w.heap.size w w') : RdI w' ao n R := by
  intro hn
  obtain ⟨b, off, rfl, hc⟩ := h hn
  exact ⟨b, off, rfl, fun i hi => held (hc i hi) ho⟩
theorem RdI.past {w0 w w' : World} {B T : Nat} {ao : Option Addr} {n : Nat} {R : Nat → Int} (h0 : RdI w0 ao n R) (h : RdI w ao n R) (hk : Keeps B T w w') (hB : w0.heap.size ≤ B) : RdI w' ao n R := by
  intro hn
  obtain ⟨b, off, rfl, hc⟩ := h hn
  obtain ⟨b', off', e, hc'⟩ := h0 hn
  cases e
  exact ⟨b, off, rfl, fun i hi => hk.cell (hc i hi) (.inl (Nat.lt_of_lt_of_le (World.block_lt_of_cell? w0 _ (hc' i hi)) hB))⟩
def okPick (ll : Nat) (L : Nat → Nat) (lr : Nat) (R : Nat → Int) : Bool := okM ll L && decide (1 ≤ lr ∧ lr ≤ 32 ∧ ∀ i, i < lr → 0 ≤ R i ∧ R i < ll)
def errM (b : Bool) (e : Int) : Int := if b then e else 30
def picked (H : M) (R : Nat → Int) : M := fun i j => H (R i).toNat j

def rankV (ll : Nat) (L : Nat → Nat) (H : M) : Nat := lenB (okM ll L) (rankOf ll (L 0) H)
def Told (w : World) (n : Nat) (err : Int) (e : Ending) (w' : World) : Prop := e = .returned (.tuple #[.int .i64 (n : Int), .int .i64 err]) ∧ Below w.heap.size w w'

end Go.Proofs.Ythkikocacbbhkaa
