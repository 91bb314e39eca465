/- What comes in, opened: bytes, vectors, parameters, slots. -/
import Derived.Test.YtapflgfifppckaaSlA
import Derived.Lib.SmallJoins
import Derived.Deep.Matrix
import Derived.Deep.FieldsWide
import Derived.OpenShut
import Derived.Test.YtapflgfifppckaaStA
import Derived.Deep.Grids
namespace Go.Proofs.Ytapflgfifppckaa
open Go.RowKit Go.ChangeShapes Go.WideShapes Go.Deep Go.Joins

section
variable {H : Type} {enc : TypeId × Value → H} {w : World} {held : Bool}
theorem u8_of {z : Int} (h : (Lit.int .u8 z).wf = true) : (((UInt8.ofNat z.toNat).toNat : Nat) : Int) = z := by
  have b := bounds_u8 h
  rw [UInt8.toNat_ofNat']
  omega
/-- Bytes that came in. -/
theorem open_bytes {fuel : Nat} {v : Value} {x : DataW H × List MemPlace} (h : DataW.trod enc Try.prog w 0 (fun _ => true) held fuel 25 [v] = some x) :
    ∃ ao n cp F, v = .slice ao n cp ∧ Bec w ao n cp F ∧ cp ≤ 9223372036854775807 := by
  rcases open_ints Try.underlying25 Try.underlying5 (by kernel_rfl) h with ⟨hcs, _⟩ | ⟨a, l, cp, zs, hcs, _, hl, hm, hz, _, hcell, hwz⟩
  · simp at hcs
    exact ⟨none, 0, 0, fun _ => 0, hcs, bec_nil _ _, by decide⟩
  · simp at hcs
    simp only [if_true] at hz
    refine ⟨some a, l, cp, fun j => UInt8.ofNat (zs.getD j 0).toNat, hcs, ⟨fun hn => ?_, (fun e => by cases e), hl⟩, by unfold maxLen at hm; omega⟩
    have h0 := hcell 0 (by omega)
    obtain ⟨b, off, spot⟩ := a
    have hspot : spot = none := by simpa [Addr.add] using World.cell?_spot h0
    subst hspot
    refine ⟨b, off, rfl, fun j hj => ?_⟩
    have hj2 : j < zs.length := by omega
    have hc := hcell j hj2
    rw [add_plain] at hc
    rw [hc, u8_of (by rw [show zs.getD j 0 = zs[j] by simp [List.getD, hj2]]; exact hwz _ (List.getElem_mem hj2))]
/-- Versions that came in. -/
theorem open_vec {fuel : Nat} {v : Value} {x : DataW H × List MemPlace} (h : DataW.trod enc Try.prog w 0 (fun _ => true) held fuel 36 [v] = some x) :
    ∃ ao n cp R, v = .slice ao n cp ∧ Vec w ao n cp R ∧ cp ≤ 9223372036854775807 := by
  rcases open_ints Try.underlying36 Try.underlying3 (by kernel_rfl) h with ⟨hcs, _⟩ | ⟨a, l, cp, zs, hcs, _, hl, hm, hz, _, hcell, hwz⟩
  · simp at hcs
    exact ⟨none, 0, 0, fun _ => 0, hcs, vec_nil _ _, by decide⟩
  · simp at hcs
    simp only [if_true] at hz
    refine ⟨some a, l, cp, fun j => zs.getD j 0, hcs, ⟨fun hn => ?_, (fun e => by cases e), hl⟩, by unfold maxLen at hm; omega⟩
    have h0 := hcell 0 (by omega)
    obtain ⟨b, off, spot⟩ := a
    have hspot : spot = none := by simpa [Addr.add] using World.cell?_spot h0
    subst hspot
    refine ⟨b, off, rfl, fun j hj => ?_⟩
    have hj2 : j < zs.length := by omega
    have hc := hcell j hj2
    rw [add_plain] at hc
    exact hc
theorem array4 {α : Type} {cs : Array α} (h : cs.size = 4) : ∃ c0 c1 c2 c3, cs = #[c0, c1, c2, c3] := by
  obtain ⟨l⟩ := cs
  match l, h with
  | [c0, c1, c2, c3], _ => exact ⟨c0, c1, c2, c3, rfl⟩
theorem array6 {α : Type} {cs : Array α} (h : cs.size = 6) : ∃ c0 c1 c2 c3 c4 c5, cs = #[c0, c1, c2, c3, c4, c5] := by
  obtain ⟨l⟩ := cs
  match l, h with
  | [c0, c1, c2, c3, c4, c5], _ => exact ⟨c0, c1, c2, c3, c4, c5, rfl⟩
theorem cells3 : Try.prog.cellsOf 3 = 1 := by kernel_rfl
theorem cells5 : Try.prog.cellsOf 5 = 1 := by kernel_rfl
theorem cells23 : Try.prog.cellsOf 23 = 4 := by kernel_rfl
theorem cells24 : Try.prog.cellsOf 36 = 1 := by kernel_rfl
theorem cells25 : Try.prog.cellsOf 25 = 1 := by kernel_rfl
theorem cells27 : Try.prog.cellsOf 62 = 6 := by kernel_rfl
theorem trod_struct6 {P : Program} {base : Nat} {spare : Nat → Bool} {t : TypeId} {f0 f1 f2 f3 f4 f5 : Field} {fuel : Nat} {cs : List Value} {x : DataW H × List MemPlace} (ht : P.underlying t = some (.struct #[f0, f1, f2, f3, f4, f5])) (h : DataW.trod enc P w base spare held fuel t cs = some x) :
    ∃ y0 y1 y2 y3 y4 y5 n, x.1 = .agg [y0.1, y1.1, y2.1, y3.1, y4.1, y5.1] ∧ DataW.trod enc P w base spare held n f0.type ((cs.drop f0.offset).take (P.cellsOf f0.type)) = some y0 ∧
      DataW.trod enc P w base spare held n f1.type ((cs.drop f1.offset).take (P.cellsOf f1.type)) = some y1 ∧ DataW.trod enc P w base spare held n f2.type ((cs.drop f2.offset).take (P.cellsOf f2.type)) = some y2 ∧
      DataW.trod enc P w base spare held n f3.type ((cs.drop f3.offset).take (P.cellsOf f3.type)) = some y3 ∧ DataW.trod enc P w base spare held n f4.type ((cs.drop f4.offset).take (P.cellsOf f4.type)) = some y4 ∧
      DataW.trod enc P w base spare held n f5.type ((cs.drop f5.offset).take (P.cellsOf f5.type)) = some y5 := by
  obtain ⟨xs, n, _, rfl, hl, hlen, hf⟩ := DataW.trod_struct ht h
  match xs, hlen with
  | [y0, y1, y2, y3, y4, y5], _ => exact ⟨y0, y1, y2, y3, y4, y5, n, by simp, by simpa using hf 0 f0 rfl, by simpa using hf 1 f1 rfl, by simpa using hf 2 f2 rfl, by simpa using hf 3 f3 rfl, by simpa using hf 4 f4 rfl, by simpa using hf 5 f5 rfl⟩
/- Parameters that came in. -/
set_option maxRecDepth 100000 in
theorem open_par {r : Reach} {b0 : Nat} {v : Value} {d : DataW H} {p : List MemPlace} (hv : Value.okWide Try.prog w r b0 23 v) (h : DataW.Trod enc Try.prog w 0 (fun _ => true) held 23 v d p) :
    ∃ k ro c q, v = .agg #[.int .i64 k, .int .i64 ro, .int .i64 c, .int .i64 q] := by
  obtain ⟨cs, rfl, hsz⟩ := okWide_struct Try.underlying23 hv
  obtain ⟨c0, c1, c2, c3, rfl⟩ := array4 (hsz.trans cells23)
  obtain ⟨fuel, hf⟩ := h
  obtain ⟨z0, z1, z2, z3, m, _, _, t0, t1, t2, t3⟩ := trod_struct4 Try.underlying23 hf
  simp [Value.cells, cells3] at t0 t1 t2 t3
  obtain ⟨a0, e0, _, _⟩ := DataW.trod_int Try.underlying3 t0
  obtain ⟨a1, e1, _, _⟩ := DataW.trod_int Try.underlying3 t1
  obtain ⟨a2, e2, _, _⟩ := DataW.trod_int Try.underlying3 t2
  obtain ⟨a3, e3, _, _⟩ := DataW.trod_int Try.underlying3 t3
  simp at e0 e1 e2 e3
  subst e0 e1 e2 e3
  exact ⟨a0, a1, a2, a3, rfl⟩
/- A slot that came in. -/
set_option maxRecDepth 100000 in
theorem open_slot {r : Reach} {b0 : Nat} {v : Value} {d : DataW H} {p : List MemPlace} (hv : Value.okWide Try.prog w r b0 62 v) (h : DataW.Trod enc Try.prog w 0 (fun _ => true) held 62 v d p) :
    ∃ s ao ca bo cb, v = slv s ao ca bo cb ∧ Has w s ao ca bo cb ∧ ca ≤ 9223372036854775807 ∧ cb ≤ 9223372036854775807 := by
  obtain ⟨cs, rfl, hsz⟩ := okWide_struct Try.underlying62 hv
  obtain ⟨c0, c1, c2, c3, c4, c5, rfl⟩ := array6 (hsz.trans cells27)
  obtain ⟨fuel, hf⟩ := h
  obtain ⟨y0, y1, y2, y3, y4, y5, n, hx, t0, t1, t2, t3, t4, t5⟩ := trod_struct6 Try.underlying62 hf
  simp [Value.cells, cells3, cells5, cells24, cells25] at t0 t1 t2 t3 t4 t5
  obtain ⟨a0, e0, _, u0⟩ := DataW.trod_int Try.underlying5 t0
  obtain ⟨a1, e1, _, _⟩ := DataW.trod_int Try.underlying3 t1
  obtain ⟨a2, e2, _, _⟩ := DataW.trod_int Try.underlying3 t2
  obtain ⟨a3, e3, _, _⟩ := DataW.trod_int Try.underlying3 t3
  obtain ⟨ao, vn, ca, R, e4, hv4, l4⟩ := open_vec t4
  obtain ⟨bo, dn, cb, F, e5, hv5, l5⟩ := open_bytes t5
  simp at e0 e1 e2 e3
  subst e0 e1 e2 e3 e4 e5
  exact ⟨⟨UInt8.ofNat a0.toNat, a1, a2, a3, vn, R, dn, F⟩, ao, ca, bo, cb, by unfold slv; simp only; rw [u8_of u0], ⟨hv4, hv5⟩, l4, l5⟩
end
end Go.Proofs.Ytapflgfifppckaa

/- What comes in, opened: a pair. -/
namespace Go.Proofs.Ytapflgfifppckaa
open Go.RowKit Go.ChangeShapes Go.WideShapes Go.Deep Go.Joins

section
variable {H : Type} {enc : TypeId × Value → H} {w : World} {held : Bool}
theorem wide_array {P : Program} {r : Reach} {b0 n : Nat} {t e : TypeId} {v : Value} (ht : P.underlying t = some (.array n e)) (h : Value.okWide P w r b0 t v) : ∃ cs, v = .agg cs ∧ cs.size = P.cellsOf t := by
  simp only [Value.okWide, ht] at h
  obtain ⟨cs, h1, h2, _⟩ := h
  exact ⟨cs, h1, h2⟩
theorem array2 {α : Type} {cs : Array α} (h : cs.size = 2) : ∃ c0 c1, cs = #[c0, c1] := by
  obtain ⟨l⟩ := cs
  match l, h with
  | [c0, c1], _ => exact ⟨c0, c1, rfl⟩
theorem cells26 : Try.prog.cellsOf 35 = 2 := by kernel_rfl
set_option maxRecDepth 100000 in
theorem open_pair {r : Reach} {b0 : Nat} {v : Value} {d : DataW H} {p : List MemPlace} (hv : Value.okWide Try.prog w r b0 35 v) (h : DataW.Trod enc Try.prog w 0 (fun _ => true) held 35 v d p) :
    ∃ a0 n0 c0 F0 a1 n1 c1 F1, v = .agg #[.slice a0 n0 c0, .slice a1 n1 c1] ∧ Bec w a0 n0 c0 F0 ∧ Bec w a1 n1 c1 F1 ∧ c0 ≤ 9223372036854775807 ∧ c1 ≤ 9223372036854775807 := by
  obtain ⟨cs, rfl, hsz⟩ := wide_array Try.underlying35 hv
  obtain ⟨x0, x1, rfl⟩ := array2 (hsz.trans cells26)
  obtain ⟨fuel, hf⟩ := h
  obtain ⟨xs, m, _, _, _, hl, ha⟩ := DataW.trod_array Try.underlying35 hf
  match xs, hl with
  | [z0, z1], _ =>
    have t0 := ha 0 (by decide)
    have t1 := ha 1 (by decide)
    simp [Value.cells, cells25] at t0 t1
    obtain ⟨a0, n0, c0, F0, rfl, h0, l0⟩ := open_bytes t0
    obtain ⟨a1, n1, c1, F1, rfl, h1, l1⟩ := open_bytes t1
    exact ⟨a0, n0, c0, F0, a1, n1, c1, F1, rfl, h0, h1, l0, l1⟩
end
end Go.Proofs.Ytapflgfifppckaa

/- What comes in, opened: a row; truth values. -/
namespace Go.Proofs.Ytapflgfifppckaa
open Go.RowKit Go.ChangeShapes Go.WideShapes Go.Deep Go.Joins

/-- Truth values that are read. -/
def RdT (w : World) (ao : Option Addr) (n : Nat) (V : Nat → Bool) : Prop :=
  0 < n → ∃ b off, ao = some ⟨b, off, none⟩ ∧ ∀ i, i < n → w.cell? ⟨b, off + i, none⟩ = some (.bool (V i))
theorem RdT.below {w w' : World} {ao : Option Addr} {n : Nat} {V : Nat → Bool} (h : RdT w ao n V) (ho : Below w.heap.size w w') : RdT w' ao n V := by
  intro hn
  obtain ⟨b, off, rfl, hc⟩ := h hn
  exact ⟨b, off, rfl, fun i hi => held (hc i hi) ho⟩
section
variable {H : Type} {enc : TypeId × Value → H} {w : World} {held : Bool}
theorem open_bools' {fuel : Nat} {v : Value} {x : DataW H × List MemPlace} (h : DataW.trod enc Try.prog w 0 (fun _ => true) held fuel 26 [v] = some x) :
    ∃ ao n cp V, v = .slice ao n cp ∧ RdT w ao n V := by
  rcases Go.Deep.open_bools Try.underlying26 Try.underlying4 (by kernel_rfl) h with ⟨hcs, _⟩ | ⟨ad, l, c, B, hcs, _, hl, hm, _, hcell⟩
  · simp at hcs
    exact ⟨none, 0, 0, fun _ => false, hcs, fun hp => absurd hp (Nat.lt_irrefl 0)⟩
  · simp at hcs
    refine ⟨some ad, l, c, B, hcs, fun hp => ?_⟩
    obtain ⟨b, off, sp⟩ := ad
    have h0 := hcell 0 (by omega)
    have hs : sp = none := by simpa [Addr.add] using World.cell?_spot h0
    subst hs
    refine ⟨b, off, rfl, fun i hi => ?_⟩
    have := hcell i (by omega)
    rw [add_plain] at this
    exact this
theorem open_b2 {fuel : Nat} {v : Value} {x : DataW H × List MemPlace} (h : DataW.trod enc Try.prog w 0 (fun _ => true) held fuel 25 [v] = some x) : ∃ ao n cp F, v = .slice ao n cp ∧ Bec w ao n cp F := by
  obtain ⟨ao, n, cp, F, e, hb, _⟩ := open_bytes h
  exact ⟨ao, n, cp, F, e, hb⟩
set_option maxRecDepth 100000 in
theorem open_row {fuel : Nat} {v : Value} {x : DataW H × List MemPlace} (h : DataW.trod enc Try.prog w 0 (fun _ => true) held fuel 24 [v] = some x) :
    ∃ ro n rc A L C F, v = .slice ro n rc ∧ Rw w ro n A L C F := by
  rcases open_slice Try.underlying24 h with ⟨hcs, hx⟩ | ⟨a, len, cap, m, n, D, Pl, hcs, _, hl, hm, hmm, hx, hc⟩
  · simp at hcs
    exact ⟨none, 0, 0, fun _ => none, fun _ => 0, fun _ => 0, fun _ _ => 0, hcs, ⟨fun h => absurd h (Nat.lt_irrefl 0), fun i hi => absurd hi (by omega)⟩⟩
  · simp at hcs
    simp only [if_true] at hmm
    subst hmm
    rw [cells26] at hc
    have each : ∀ i, i < m → ∃ y : (Option Addr × Nat × Nat × (Nat → UInt8)) × Option Addr × Nat × Nat × (Nat → UInt8), w.cell? ((a.add (i * 2)).add 0) = some (.slice y.1.1 y.1.2.1 y.1.2.2.1) ∧ w.cell? ((a.add (i * 2)).add 1) = some (.slice y.2.1 y.2.2.1 y.2.2.2.1) ∧ Bec w y.1.1 y.1.2.1 y.1.2.2.1 y.1.2.2.2 ∧ Bec w y.2.1 y.2.2.1 y.2.2.2.1 y.2.2.2.2 := by
      intro i hi
      obtain ⟨cs', h1, h2⟩ := hc i hi
      obtain ⟨_, hlen, hcell⟩ := World.cells?_some h1
      match cs', hlen with
      | [c0, c1], _ =>
        obtain ⟨xs, m', _, _, _, hl', ha⟩ := DataW.trod_array Try.underlying35 h2
        match xs, hl' with
        | [z0, z1], _ =>
          have t0 := ha 0 (by decide)
          have t1 := ha 1 (by decide)
          simp [cells25] at t0 t1
          obtain ⟨a0, n0, k0, F0, rfl, r0, _⟩ := open_bytes t0
          obtain ⟨a1, n1, k1, F1, rfl, r1, _⟩ := open_bytes t1
          exact ⟨((a0, n0, k0, F0), a1, n1, k1, F1), hcell 0 (by decide), hcell 1 (by decide), r0, r1⟩
    haveI : Inhabited ((Option Addr × Nat × Nat × (Nat → UInt8)) × Option Addr × Nat × Nat × (Nat → UInt8)) := ⟨((none, 0, 0, fun _ => 0), none, 0, 0, fun _ => 0)⟩
    obtain ⟨y, hy⟩ := choose_lt each
    refine ⟨some a, len, m, fun j => if j % 2 = 0 then (y (j / 2)).1.1 else (y (j / 2)).2.1, fun j => if j % 2 = 0 then (y (j / 2)).1.2.1 else (y (j / 2)).2.2.1, fun j => if j % 2 = 0 then (y (j / 2)).1.2.2.1 else (y (j / 2)).2.2.2.1, fun j => if j % 2 = 0 then (y (j / 2)).1.2.2.2 else (y (j / 2)).2.2.2.2, hcs, ⟨fun h0 => ?_, fun j hj => ?_⟩⟩
    · have k0 := (hy 0 (by omega)).1
      obtain ⟨b, off, spot⟩ := a
      have hspot : spot = none := by simpa [Addr.add] using World.cell?_spot k0
      subst hspot
      refine ⟨b, off, rfl, fun i hi => ?_⟩
      obtain ⟨q0, q1, _⟩ := hy i (by omega)
      simp only [add_plain, Nat.add_zero] at q0 q1
      simp only [show 2 * i % 2 = 0 by omega, show (2 * i + 1) % 2 = 1 by omega, show 2 * i / 2 = i by omega, show (2 * i + 1) / 2 = i by omega, if_true, show ¬ (1 : Nat) = 0 by decide, if_false]
      exact ⟨q0, q1⟩
    · obtain ⟨_, _, q2, q3⟩ := hy (j / 2) (by omega)
      by_cases e : j % 2 = 0
      · simp only [if_pos e]; exact q2
      · simp only [if_neg e]; exact q3
end
end Go.Proofs.Ytapflgfifppckaa

