/- What comes in, opened: bytes, vectors, parameters, slots. -/
import Derived.Test.YtdnflninbnjdhaaByA
import Derived.Lib.SmallJoins
import Derived.Deep.Matrix
import Derived.Deep.FieldsWide
import Derived.OpenShut
import Derived.Deep.Grids
namespace Go.Proofs.Ytdnflninbnjdhaa
open Go.RowKit Go.ChangeShapes Go.WideShapes Go.Deep Go.Joins

section
variable {H : Type} {enc : TypeId × Value → H} {w : World} {held : Bool}
theorem u8_of {z : Int} (h : (Lit.int .u8 z).wf = true) : (((UInt8.ofNat z.toNat).toNat : Nat) : Int) = z := by
  have b := bounds_u8 h
  rw [UInt8.toNat_ofNat']
  omega
/-- Bytes that came in. -/
theorem open_bytes {fuel : Nat} {v : Value} {x : DataW H × List MemPlace} (h : DataW.trod enc Try.prog w 0 (fun _ => true) held fuel 24 [v] = some x) :
    ∃ ao n cp F, v = .slice ao n cp ∧ Bec w ao n cp F ∧ cp ≤ 9223372036854775807 := by
  rcases open_ints Try.underlying24 Try.underlying5 (by kernel_rfl) h with ⟨hcs, _⟩ | ⟨a, l, cp, zs, hcs, _, hl, hm, hz, _, hcell, hwz⟩
  · simp at hcs
    exact ⟨none, 0, 0, fun _ => 0, hcs, bec_nil _ _, by decide⟩
  · simp at hcs
    simp only [if_true] at hz
    refine ⟨some a, l, cp, fun j => UInt8.ofNat (zs.getD j 0).toNat, hcs, ⟨fun hn => ?_, (fun e => by cases e), hl⟩, by unfold maxLen at hm; omega⟩
    have h0 := hcell 0 (by omega)
    obtain ⟨b, off, spot⟩ := a
    have hspot : spot = none := by simpa [Addr.add] using World.cell?_spot h0
    subst hspot
    refine ⟨b, off, rfl, fun j hj => ?_⟩
    have hj2 : j < zs.length := by omega
    have hc := hcell j hj2
    rw [add_plain] at hc
    rw [hc, u8_of (by rw [show zs.getD j 0 = zs[j] by simp [List.getD, hj2]]; exact hwz _ (List.getElem_mem hj2))]
theorem open_b2 {fuel : Nat} {v : Value} {x : DataW H × List MemPlace} (h : DataW.trod enc Try.prog w 0 (fun _ => true) held fuel 24 [v] = some x) : ∃ ao n cp F, v = .slice ao n cp ∧ Bec w ao n cp F := by
  obtain ⟨ao, n, cp, F, e, hb, _⟩ := open_bytes h
  exact ⟨ao, n, cp, F, e, hb⟩
theorem array4 {α : Type} {cs : Array α} (h : cs.size = 4) : ∃ c0 c1 c2 c3, cs = #[c0, c1, c2, c3] := by
  obtain ⟨l⟩ := cs
  match l, h with
  | [c0, c1, c2, c3], _ => exact ⟨c0, c1, c2, c3, rfl⟩
theorem cells3 : Try.prog.cellsOf 3 = 1 := by kernel_rfl
theorem cells23 : Try.prog.cellsOf 23 = 4 := by kernel_rfl
/- Parameters that came in. -/
set_option maxRecDepth 100000 in
theorem open_par {r : Reach} {b0 : Nat} {v : Value} {d : DataW H} {p : List MemPlace} (hv : Value.okWide Try.prog w r b0 23 v) (h : DataW.Trod enc Try.prog w 0 (fun _ => true) held 23 v d p) :
    ∃ k ro c q, v = .agg #[.int .i64 k, .int .i64 ro, .int .i64 c, .int .i64 q] := by
  obtain ⟨cs, rfl, hsz⟩ := okWide_struct Try.underlying23 hv
  obtain ⟨c0, c1, c2, c3, rfl⟩ := array4 (hsz.trans cells23)
  obtain ⟨fuel, hf⟩ := h
  obtain ⟨z0, z1, z2, z3, m, _, _, t0, t1, t2, t3⟩ := trod_struct4 Try.underlying23 hf
  simp [Value.cells, cells3] at t0 t1 t2 t3
  obtain ⟨a0, e0, _, _⟩ := DataW.trod_int Try.underlying3 t0
  obtain ⟨a1, e1, _, _⟩ := DataW.trod_int Try.underlying3 t1
  obtain ⟨a2, e2, _, _⟩ := DataW.trod_int Try.underlying3 t2
  obtain ⟨a3, e3, _, _⟩ := DataW.trod_int Try.underlying3 t3
  simp at e0 e1 e2 e3
  subst e0 e1 e2 e3
  exact ⟨a0, a1, a2, a3, rfl⟩
end
end Go.Proofs.Ytdnflninbnjdhaa
