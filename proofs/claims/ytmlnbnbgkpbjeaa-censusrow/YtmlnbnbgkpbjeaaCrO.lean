/- What a row that came in takes. -/
import Derived.Test.YtmlnbnbgkpbjeaaRoO
import Derived.SizedLaws
namespace Go.Proofs.Ytmlnbnbgkpbjeaa
open Go.RowKit Go.ChangeShapes Go.WideShapes Go.Deep Go.Joins

theorem bytes47 : Try.prog.bytesOf 47 = 48 := by kernel_rfl
section
variable {H : Type} {enc : TypeId × Value → H} {w : World} {held : Bool}
theorem row_weight {fuel : Nat} {po : Option Addr} {n pc : Nat} {x : DataW H × List MemPlace} (h : DataW.trod enc Try.prog w 0 (fun _ => true) held fuel 24 [.slice po n pc] = some x) : n = 0 ∨ ∃ q, q ∈ x.1.weights Try.prog 24 ∧ n * 48 ≤ q := by
  rcases open_slice Try.underlying24 h with ⟨hcs, hx⟩ | ⟨a, len, cap, m, n', D, Pl, hcs, _, hl, hm, hmm, hx, hc⟩
  · simp at hcs; exact .inl hcs.2.1
  · simp at hcs
    simp only [if_true] at hmm
    obtain ⟨_, rfl, rfl⟩ := hcs
    refine .inr ⟨(n + (m - n)) * 48, ?_, by omega⟩
    rw [hx]
    simp [DataW.weights, Try.underlying24, bytes47]
end
end Go.Proofs.Ytmlnbnbgkpbjeaa
