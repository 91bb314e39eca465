/- What comes in, opened: bytes, parameters, refs, descriptors. -/
import Derived.Test.YtjncnojplkljnaaDsA
import Derived.Lib.SmallJoins
import Derived.Deep.Matrix
import Derived.Deep.FieldsWide
import Derived.OpenShut
import Derived.Deep.Grids
namespace Go.Proofs.Ytjncnojplkljnaa
open Go.RowKit Go.ChangeShapes Go.WideShapes Go.Deep Go.Joins

section
variable {H : Type} {enc : TypeId × Value → H} {w : World} {held : Bool}
theorem u8_of {z : Int} (h : (Lit.int .u8 z).wf = true) : (((UInt8.ofNat z.toNat).toNat : Nat) : Int) = z := by
  have b := bounds_u8 h
  rw [UInt8.toNat_ofNat']
  omega
/-- Bytes that came in. -/
theorem open_bytes {fuel : Nat} {v : Value} {x : DataW H × List MemPlace} (h : DataW.trod enc Try.prog w 0 (fun _ => true) held fuel 29 [v] = some x) :
    ∃ ao n cp F, v = .slice ao n cp ∧ Bec w ao n cp F ∧ cp ≤ 9223372036854775807 := by
  rcases open_ints Try.underlying29 Try.underlying5 (by kernel_rfl) h with ⟨hcs, _⟩ | ⟨a, l, cp, zs, hcs, _, hl, hm, hz, _, hcell, hwz⟩
  · simp at hcs
    exact ⟨none, 0, 0, fun _ => 0, hcs, bec_nil _ _, by decide⟩
  · simp at hcs
    simp only [if_true] at hz
    refine ⟨some a, l, cp, fun j => UInt8.ofNat (zs.getD j 0).toNat, hcs, ⟨fun hn => ?_, (fun e => by cases e), hl⟩, by unfold maxLen at hm; omega⟩
    have h0 := hcell 0 (by omega)
    obtain ⟨b, off, spot⟩ := a
    have hspot : spot = none := by simpa [Addr.add] using World.cell?_spot h0
    subst hspot
    refine ⟨b, off, rfl, fun j hj => ?_⟩
    have hj2 : j < zs.length := by omega
    have hc := hcell j hj2
    rw [add_plain] at hc
    rw [hc, u8_of (by rw [show zs.getD j 0 = zs[j] by simp [List.getD, hj2]]; exact hwz _ (List.getElem_mem hj2))]
theorem array4 {α : Type} {cs : Array α} (h : cs.size = 4) : ∃ c0 c1 c2 c3, cs = #[c0, c1, c2, c3] := by
  obtain ⟨l⟩ := cs
  match l, h with
  | [c0, c1, c2, c3], _ => exact ⟨c0, c1, c2, c3, rfl⟩
theorem array3 {α : Type} {cs : Array α} (h : cs.size = 3) : ∃ c0 c1 c2, cs = #[c0, c1, c2] := by
  obtain ⟨l⟩ := cs
  match l, h with
  | [c0, c1, c2], _ => exact ⟨c0, c1, c2, rfl⟩
theorem cells3 : Try.prog.cellsOf 3 = 1 := by kernel_rfl
theorem cells24 : Try.prog.cellsOf 24 = 4 := by kernel_rfl
theorem cells27 : Try.prog.cellsOf 27 = 2 := by kernel_rfl
theorem cells28 : Try.prog.cellsOf 28 = 1 := by kernel_rfl
theorem cells35 : Try.prog.cellsOf 35 = 3 := by kernel_rfl
/- Parameters that came in. -/
set_option maxRecDepth 100000 in
theorem open_par {r : Reach} {b0 : Nat} {v : Value} {d : DataW H} {p : List MemPlace} (hv : Value.okWide Try.prog w r b0 24 v) (h : DataW.Trod enc Try.prog w 0 (fun _ => true) held 24 v d p) :
    ∃ k ro c q, v = .agg #[.int .i64 k, .int .i64 ro, .int .i64 c, .int .i64 q] := by
  obtain ⟨cs, rfl, hsz⟩ := okWide_struct Try.underlying24 hv
  obtain ⟨c0, c1, c2, c3, rfl⟩ := array4 (hsz.trans cells24)
  obtain ⟨fuel, hf⟩ := h
  obtain ⟨z0, z1, z2, z3, m, _, _, t0, t1, t2, t3⟩ := trod_struct4 Try.underlying24 hf
  simp [Value.cells, cells3] at t0 t1 t2 t3
  obtain ⟨a0, e0, _, _⟩ := DataW.trod_int Try.underlying3 t0
  obtain ⟨a1, e1, _, _⟩ := DataW.trod_int Try.underlying3 t1
  obtain ⟨a2, e2, _, _⟩ := DataW.trod_int Try.underlying3 t2
  obtain ⟨a3, e3, _, _⟩ := DataW.trod_int Try.underlying3 t3
  simp at e0 e1 e2 e3
  subst e0 e1 e2 e3
  exact ⟨a0, a1, a2, a3, rfl⟩
set_option maxRecDepth 100000 in
/-- Refs that came in. -/
theorem open_refs {fuel : Nat} {v : Value} {x : DataW H × List MemPlace} (h : DataW.trod enc Try.prog w 0 (fun _ => true) held fuel 28 [v] = some x) :
    ∃ ro n rc R V, v = .slice ro n rc ∧ Rec w ro n rc R V := by
  rcases open_slice Try.underlying28 h with ⟨hcs, hx⟩ | ⟨a, len, cap, m, n, D, Pl, hcs, _, hl, hm, hmm, hx, hc⟩
  · simp at hcs
    exact ⟨none, 0, 0, fun _ => 0, fun _ => 0, hcs, rec_nil _ _ _⟩
  · simp at hcs
    simp only [if_true] at hmm
    subst hmm
    rw [cells27] at hc
    have each : ∀ i, i < m → ∃ y : Int × Int, w.cell? ((a.add (i * 2)).add 0) = some (.int .i64 y.1) ∧ w.cell? ((a.add (i * 2)).add 1) = some (.int .i64 y.2) := by
      intro i hi
      obtain ⟨cs', h1, h2⟩ := hc i hi
      obtain ⟨_, hlen, hcell⟩ := World.cells?_some h1
      match cs', hlen with
      | [c0, c1], _ =>
        obtain ⟨y0, y1, n', _, _, t0, t1⟩ := trod_struct2 Try.underlying27 h2
        simp [cells3] at t0 t1
        obtain ⟨a0, e0, _, _⟩ := DataW.trod_int Try.underlying3 t0
        obtain ⟨a1, e1, _, _⟩ := DataW.trod_int Try.underlying3 t1
        simp at e0 e1
        subst e0 e1
        exact ⟨(a0, a1), hcell 0 (by decide), hcell 1 (by decide)⟩
    haveI : Inhabited (Int × Int) := ⟨(0, 0)⟩
    obtain ⟨y, hy⟩ := choose_lt each
    refine ⟨some a, len, m, fun j => (y j).1, fun j => (y j).2, hcs, ⟨fun h0 => ?_, (fun e => by cases e), by omega⟩⟩
    have k0 := (hy 0 (by omega)).1
    obtain ⟨b, off, spot⟩ := a
    have hspot : spot = none := by simpa [Addr.add] using World.cell?_spot k0
    subst hspot
    refine ⟨b, off, rfl, fun i hi => ?_⟩
    obtain ⟨q0, q1⟩ := hy i (by omega)
    simp only [add_plain, Nat.add_zero] at q0 q1
    exact ⟨q0, q1⟩
set_option maxRecDepth 100000 in
/-- A descriptor that came in. -/
theorem open_desc {r : Reach} {b0 : Nat} {v : Value} {d : DataW H} {p : List MemPlace} (hv : Value.okWide Try.prog w r b0 35 v) (h : DataW.Trod enc Try.prog w 0 (fun _ => true) held 35 v d p) :
    ∃ len dep ro n rc R V, v = .agg #[.int .i64 len, .int .i64 dep, .slice ro n rc] ∧ Rec w ro n rc R V := by
  obtain ⟨cs, rfl, hsz⟩ := okWide_struct Try.underlying35 hv
  obtain ⟨c0, c1, c2, rfl⟩ := array3 (hsz.trans cells35)
  obtain ⟨fuel, hf⟩ := h
  obtain ⟨z0, z1, z2, m, _, _, t0, t1, t2⟩ := trod_struct3 Try.underlying35 hf
  simp [Value.cells, cells3, cells28] at t0 t1 t2
  obtain ⟨a0, e0, _, _⟩ := DataW.trod_int Try.underlying3 t0
  obtain ⟨a1, e1, _, _⟩ := DataW.trod_int Try.underlying3 t1
  obtain ⟨ro, n, rc, R, V, e2, h2⟩ := open_refs t2
  simp at e0 e1
  subst e0 e1 e2
  exact ⟨a0, a1, ro, n, rc, R, V, rfl, h2⟩
theorem open_b2 {fuel : Nat} {v : Value} {x : DataW H × List MemPlace} (h : DataW.trod enc Try.prog w 0 (fun _ => true) held fuel 29 [v] = some x) :
    ∃ ao n cp F, v = .slice ao n cp ∧ Bec w ao n cp F := by
  obtain ⟨ao, n, cp, F, h1, h2, _⟩ := open_bytes h
  exact ⟨ao, n, cp, F, h1, h2⟩
end
end Go.Proofs.Ytjncnojplkljnaa
