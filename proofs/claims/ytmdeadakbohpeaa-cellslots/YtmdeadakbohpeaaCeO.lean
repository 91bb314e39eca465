/- What comes in, opened: a pair. -/
import Derived.Test.YtmdeadakbohpeaaSlO
namespace Go.Proofs.Ytmdeadakbohpeaa
open Go.RowKit Go.ChangeShapes Go.WideShapes Go.Deep Go.Joins

section
variable {H : Type} {enc : TypeId × Value → H} {w : World} {held : Bool}
theorem wide_array {P : Program} {r : Reach} {b0 n : Nat} {t e : TypeId} {v : Value} (ht : P.underlying t = some (.array n e)) (h : Value.okWide P w r b0 t v) : ∃ cs, v = .agg cs ∧ cs.size = P.cellsOf t := by
  simp only [Value.okWide, ht] at h
  obtain ⟨cs, h1, h2, _⟩ := h
  exact ⟨cs, h1, h2⟩
theorem array2 {α : Type} {cs : Array α} (h : cs.size = 2) : ∃ c0 c1, cs = #[c0, c1] := by
  obtain ⟨l⟩ := cs
  match l, h with
  | [c0, c1], _ => exact ⟨c0, c1, rfl⟩
theorem cells26 : Try.prog.cellsOf 26 = 2 := by kernel_rfl
set_option maxRecDepth 100000 in
theorem open_pair {r : Reach} {b0 : Nat} {v : Value} {d : DataW H} {p : List MemPlace} (hv : Value.okWide Try.prog w r b0 26 v) (h : DataW.Trod enc Try.prog w 0 (fun _ => true) held 26 v d p) :
    ∃ a0 n0 c0 F0 a1 n1 c1 F1, v = .agg #[.slice a0 n0 c0, .slice a1 n1 c1] ∧ Bec w a0 n0 c0 F0 ∧ Bec w a1 n1 c1 F1 ∧ c0 ≤ 9223372036854775807 ∧ c1 ≤ 9223372036854775807 := by
  obtain ⟨cs, rfl, hsz⟩ := wide_array Try.underlying26 hv
  obtain ⟨x0, x1, rfl⟩ := array2 (hsz.trans cells26)
  obtain ⟨fuel, hf⟩ := h
  obtain ⟨xs, m, _, _, _, hl, ha⟩ := DataW.trod_array Try.underlying26 hf
  match xs, hl with
  | [z0, z1], _ =>
    have t0 := ha 0 (by decide)
    have t1 := ha 1 (by decide)
    simp [Value.cells, cells25] at t0 t1
    obtain ⟨a0, n0, c0, F0, rfl, h0, l0⟩ := open_bytes t0
    obtain ⟨a1, n1, c1, F1, rfl, h1, l1⟩ := open_bytes t1
    exact ⟨a0, n0, c0, F0, a1, n1, c1, F1, rfl, h0, h1, l0, l1⟩
end
end Go.Proofs.Ytmdeadakbohpeaa
