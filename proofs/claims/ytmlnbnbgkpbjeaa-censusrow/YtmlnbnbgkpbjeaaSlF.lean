/- What Bytes of the program answers. -/
import Derived.Test.YtmlnbnbgkpbjeaaSlB
import Derived.Test.YtmlnbnbgkpbjeaaSlD
namespace Go.Proofs.Ytmlnbnbgkpbjeaa
open Go.RowKit

theorem of_drew' {w v : World} (h : Below w.drew.heap.size w.drew v) : Below w.heap.size w v := below_then (below_drew _ _) h
def erS (x : Int) (N : Nat) (c : Int) (s : Sl) : Int := if x = 0 then (if okS N c s = true then 0 else 100) else x
/-- Bytes and an error. -/
def AnsB (w : World) (E : Int) (n : Nat) (F : Nat → UInt8) (e : Ending) (w' : World) : Prop :=
  ∃ ao cap, e = .returned (.tuple #[.slice ao (lenE E n) cap, .int .i64 E]) ∧ OwU w.heap.size w' ao (lenE E n) cap F ∧ Below w.heap.size w w'
theorem made_byF (n : Nat) : madeCells #[.int .u8 0] n = (byF n (fun _ => 0)).toArray := by
  apply Array.ext'
  unfold byF madeCells
  apply List.ext_getElem?
  intro i
  by_cases h : i < n
  · simp [h, Nat.mod_one]
  · simp [h]
theorem Vec.blk {w : World} {ao : Option Addr} {n cap : Nat} {R : Nat → Int} (h : Vec w ao n cap R) (hn : 0 < n) {a : Addr} (ha : ao = some a) : a.block < w.heap.size := by
  obtain ⟨b, off, e, hc⟩ := h.rd hn
  subst ha; cases e
  exact World.block_lt_of_cell? w _ (hc 0 hn)
theorem Bec.blk {w : World} {ao : Option Addr} {n cap : Nat} {F : Nat → UInt8} (h : Bec w ao n cap F) (hn : 0 < n) {a : Addr} (ha : ao = some a) : a.block < w.heap.size := by
  obtain ⟨b, off, e, hc⟩ := h.rd hn
  subst ha; cases e
  exact World.block_lt_of_cell? w _ (hc 0 hn)
end Go.Proofs.Ytmlnbnbgkpbjeaa
