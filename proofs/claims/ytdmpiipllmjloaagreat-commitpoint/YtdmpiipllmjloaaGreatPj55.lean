import Derived.Lib.SmallJoins
import Derived.Deep.Matrix
import Derived.Deep.FieldsWide
import Derived.OpenShut
import Derived.Deep.Grids
import Derived.Test.YtdmpiipllmjloaaGreatPj19
import Derived.Test.YtdmpiipllmjloaaGreatPj39
namespace Go.Proofs.YtdmpiipllmjloaaGreat
open Go.RowKit Go.ChangeShapes Go.WideShapes Go.Deep Go.Joins

section
variable {H : Type} {enc : TypeId × Value -> H} {w : World} {held : Bool}
theorem u8_of {z : Int} (h : (Lit.int .u8 z).wf = true) : (((UInt8.ofNat z.toNat).toNat : Nat) : Int) = z := by
  have b := bounds_u8 h
  rw [UInt8.toNat_ofNat']
  omega
theorem open_bytes {fuel : Nat} {v : Value} {x : DataW H × List MemPlace} (h : DataW.trod enc Tryz.prog w 0 (fun _ => true) held fuel 55 [v] = some x) :
    ∃ ao n cp F, v = .slice ao n cp /\ Bec w ao n cp F /\ cp <= 9223372036854775807 := by
  rcases open_ints Tryz.underlying55 Tryz.underlying5 (by kernel_rfl) h with ⟨hcs, _⟩ | ⟨a, l, cp, zs, hcs, _, hl, hm, hz, _, hcell, hwz⟩
  · simp at hcs
    exact ⟨none, 0, 0, fun _ => 0, hcs, bec_nil _ _, by decide⟩
  · simp at hcs
    simp only [if_true] at hz
    refine ⟨some a, l, cp, fun j => UInt8.ofNat (zs.getD j 0).toNat, hcs, ⟨fun hn => ?_, (fun e => by cases e), hl⟩, by unfold maxLen at hm; omega⟩
    have h0 := hcell 0 (by omega)
    obtain ⟨b, off, spot⟩ := a
    have hspot : spot = none := by simpa [Addr.add] using World.cell?_spot h0
    subst hspot
    refine ⟨b, off, rfl, fun j hj => ?_⟩
    have hj2 : j < zs.length := by omega
    have hc := hcell j hj2
    rw [add_plain] at hc
    rw [hc, u8_of (by rw [show zs.getD j 0 = zs[j] by simp [List.getD, hj2]]; exact hwz _ (List.getElem_mem hj2))]
theorem array4 {α : Type} {cs : Array α} (h : cs.size = 4) : ∃ c0 c1 c2 c3, cs = #[c0, c1, c2, c3] := by
  obtain ⟨l⟩ := cs
  match l, h with
  | [c0, c1, c2, c3], _ => exact ⟨c0, c1, c2, c3, rfl⟩
theorem cells3 : Tryz.prog.cellsOf 3 = 1 := by kernel_rfl
theorem cells23 : Tryz.prog.cellsOf 23 = 4 := by kernel_rfl
theorem cells25 : Tryz.prog.cellsOf 55 = 1 := by kernel_rfl
set_option maxRecDepth 100000 in
theorem open_par {r : Reach} {b0 : Nat} {v : Value} {d : DataW H} {p : List MemPlace} (hv : Value.okWide Tryz.prog w r b0 23 v) (h : DataW.Trod enc Tryz.prog w 0 (fun _ => true) held 23 v d p) :
    ∃ k ro c q, v = .agg #[.int .i64 k, .int .i64 ro, .int .i64 c, .int .i64 q] := by
  obtain ⟨cs, rfl, hsz⟩ := okWide_struct Tryz.underlying23 hv
  obtain ⟨c0, c1, c2, c3, rfl⟩ := array4 (hsz.trans cells23)
  obtain ⟨fuel, hf⟩ := h
  obtain ⟨z0, z1, z2, z3, m, _, _, t0, t1, t2, t3⟩ := trod_struct4 Tryz.underlying23 hf
  simp [Value.cells, cells3] at t0 t1 t2 t3
  obtain ⟨a0, e0, _, _⟩ := DataW.trod_int Tryz.underlying3 t0
  obtain ⟨a1, e1, _, _⟩ := DataW.trod_int Tryz.underlying3 t1
  obtain ⟨a2, e2, _, _⟩ := DataW.trod_int Tryz.underlying3 t2
  obtain ⟨a3, e3, _, _⟩ := DataW.trod_int Tryz.underlying3 t3
  simp at e0 e1 e2 e3
  subst e0 e1 e2 e3
  exact ⟨a0, a1, a2, a3, rfl⟩
end
end Go.Proofs.YtdmpiipllmjloaaGreat
namespace Go.Proofs.YtdmpiipllmjloaaGreat
open Go.RowKit Go.ChangeShapes Go.WideShapes Go.Deep Go.Joins

section
variable {H : Type} {enc : TypeId × Value -> H} {w : World} {held : Bool}
theorem cells26 : Tryz.prog.cellsOf 67 = 2 := by kernel_rfl
end
end Go.Proofs.YtdmpiipllmjloaaGreat
namespace Go.Proofs.YtdmpiipllmjloaaGreat
open Go.RowKit Go.ChangeShapes Go.WideShapes Go.Deep Go.Joins
section
variable {H : Type} {enc : TypeId × Value -> H} {w : World} {held : Bool}
theorem open_bools' {fuel : Nat} {v : Value} {x : DataW H × List MemPlace} (h : DataW.trod enc Tryz.prog w 0 (fun _ => true) held fuel 28 [v] = some x) :
    ∃ ao n cp V, v = .slice ao n cp /\ RdT w ao n V := by
  rcases Go.Deep.open_bools Tryz.underlying28 Tryz.underlying4 (by kernel_rfl) h with ⟨hcs, _⟩ | ⟨ad, l, c, B, hcs, _, hl, hm, _, hcell⟩
  · simp at hcs
    exact ⟨none, 0, 0, fun _ => false, hcs, fun hp => absurd hp (Nat.lt_irrefl 0)⟩
  · simp at hcs
    refine ⟨some ad, l, c, B, hcs, fun hp => ?_⟩
    obtain ⟨b, off, sp⟩ := ad
    have h0 := hcell 0 (by omega)
    have hs : sp = none := by simpa [Addr.add] using World.cell?_spot h0
    subst hs
    refine ⟨b, off, rfl, fun i hi => ?_⟩
    have := hcell i (by omega)
    rw [add_plain] at this
    exact this
set_option maxRecDepth 100000 in
theorem open_row {fuel : Nat} {v : Value} {x : DataW H × List MemPlace} (h : DataW.trod enc Tryz.prog w 0 (fun _ => true) held fuel 24 [v] = some x) :
    ∃ ro n rc A L C F, v = .slice ro n rc /\ Rw w ro n A L C F := by
  rcases open_slice Tryz.underlying24 h with ⟨hcs, hx⟩ | ⟨a, len, cap, m, n, D, Pl, hcs, _, hl, hm, hmm, hx, hc⟩
  · simp at hcs
    exact ⟨none, 0, 0, fun _ => none, fun _ => 0, fun _ => 0, fun _ _ => 0, hcs, ⟨fun h => absurd h (Nat.lt_irrefl 0), fun i hi => absurd hi (by omega)⟩⟩
  · simp at hcs
    simp only [if_true] at hmm
    subst hmm
    rw [cells26] at hc
    have each : ∀ i, i < m -> ∃ y : (Option Addr × Nat × Nat × (Nat -> UInt8)) × Option Addr × Nat × Nat × (Nat -> UInt8), w.cell? ((a.add (i * 2)).add 0) = some (.slice y.1.1 y.1.2.1 y.1.2.2.1) /\ w.cell? ((a.add (i * 2)).add 1) = some (.slice y.2.1 y.2.2.1 y.2.2.2.1) /\ Bec w y.1.1 y.1.2.1 y.1.2.2.1 y.1.2.2.2 /\ Bec w y.2.1 y.2.2.1 y.2.2.2.1 y.2.2.2.2 := by
      intro i hi
      obtain ⟨cs', h1, h2⟩ := hc i hi
      obtain ⟨_, hlen, hcell⟩ := World.cells?_some h1
      match cs', hlen with
      | [c0, c1], _ =>
        obtain ⟨xs, m', _, _, _, hl', ha⟩ := DataW.trod_array Tryz.underlying67 h2
        match xs, hl' with
        | [z0, z1], _ =>
          have t0 := ha 0 (by decide)
          have t1 := ha 1 (by decide)
          simp [cells25] at t0 t1
          obtain ⟨a0, n0, k0, F0, rfl, r0, _⟩ := open_bytes t0
          obtain ⟨a1, n1, k1, F1, rfl, r1, _⟩ := open_bytes t1
          exact ⟨((a0, n0, k0, F0), a1, n1, k1, F1), hcell 0 (by decide), hcell 1 (by decide), r0, r1⟩
    haveI : Inhabited ((Option Addr × Nat × Nat × (Nat -> UInt8)) × Option Addr × Nat × Nat × (Nat -> UInt8)) := ⟨((none, 0, 0, fun _ => 0), none, 0, 0, fun _ => 0)⟩
    obtain ⟨y, hy⟩ := choose_lt each
    refine ⟨some a, len, m, fun j => if j % 2 = 0 then (y (j / 2)).1.1 else (y (j / 2)).2.1, fun j => if j % 2 = 0 then (y (j / 2)).1.2.1 else (y (j / 2)).2.2.1, fun j => if j % 2 = 0 then (y (j / 2)).1.2.2.1 else (y (j / 2)).2.2.2.1, fun j => if j % 2 = 0 then (y (j / 2)).1.2.2.2 else (y (j / 2)).2.2.2.2, hcs, ⟨fun h0 => ?_, fun j hj => ?_⟩⟩
    · have k0 := (hy 0 (by omega)).1
      obtain ⟨b, off, spot⟩ := a
      have hspot : spot = none := by simpa [Addr.add] using World.cell?_spot k0
      subst hspot
      refine ⟨b, off, rfl, fun i hi => ?_⟩
      obtain ⟨q0, q1, _⟩ := hy i (by omega)
      simp only [add_plain, Nat.add_zero] at q0 q1
      simp only [show 2 * i % 2 = 0 by omega, show (2 * i + 1) % 2 = 1 by omega, show 2 * i / 2 = i by omega, show (2 * i + 1) / 2 = i by omega, if_true, show ¬ (1 : Nat) = 0 by decide, if_false]
      exact ⟨q0, q1⟩
    · obtain ⟨_, _, q2, q3⟩ := hy (j / 2) (by omega)
      by_cases e : j % 2 = 0
      · simp only [if_pos e]; exact q2
      · simp only [if_neg e]; exact q3
end
end Go.Proofs.YtdmpiipllmjloaaGreat
namespace Go.Proofs.YtdmpiipllmjloaaGreat.De
open Go.RowKit Go.ChangeShapes Go.WideShapes Go.Deep Go.Joins

section
variable {H : Type} {enc : TypeId × Value -> H} {w : World} {held : Bool}
theorem array3 {α : Type} {cs : Array α} (h : cs.size = 3) : ∃ c0 c1 c2, cs = #[c0, c1, c2] := by
  obtain ⟨l⟩ := cs
  match l, h with
  | [c0, c1, c2], _ => exact ⟨c0, c1, c2, rfl⟩
theorem cells27 : Tryz.prog.cellsOf 81 = 2 := by kernel_rfl
theorem cells28 : Tryz.prog.cellsOf 25 = 1 := by kernel_rfl
theorem cells35 : Tryz.prog.cellsOf 27 = 3 := by kernel_rfl
set_option maxRecDepth 100000 in
theorem open_refs {fuel : Nat} {v : Value} {x : DataW H × List MemPlace} (h : DataW.trod enc Tryz.prog w 0 (fun _ => true) held fuel 25 [v] = some x) :
    ∃ ro n rc R V, v = .slice ro n rc /\ Rec w ro n rc R V := by
  rcases open_slice Tryz.underlying25 h with ⟨hcs, hx⟩ | ⟨a, len, cap, m, n, D, Pl, hcs, _, hl, hm, hmm, hx, hc⟩
  · simp at hcs
    exact ⟨none, 0, 0, fun _ => 0, fun _ => 0, hcs, rec_nil _ _ _⟩
  · simp at hcs
    simp only [if_true] at hmm
    subst hmm
    rw [cells27] at hc
    have each : ∀ i, i < m -> ∃ y : Int × Int, w.cell? ((a.add (i * 2)).add 0) = some (.int .i64 y.1) /\ w.cell? ((a.add (i * 2)).add 1) = some (.int .i64 y.2) := by
      intro i hi
      obtain ⟨cs', h1, h2⟩ := hc i hi
      obtain ⟨_, hlen, hcell⟩ := World.cells?_some h1
      match cs', hlen with
      | [c0, c1], _ =>
        obtain ⟨y0, y1, n', _, _, t0, t1⟩ := trod_struct2 Tryz.underlying81 h2
        simp [cells3] at t0 t1
        obtain ⟨a0, e0, _, _⟩ := DataW.trod_int Tryz.underlying3 t0
        obtain ⟨a1, e1, _, _⟩ := DataW.trod_int Tryz.underlying3 t1
        simp at e0 e1
        subst e0 e1
        exact ⟨(a0, a1), hcell 0 (by decide), hcell 1 (by decide)⟩
    haveI : Inhabited (Int × Int) := ⟨(0, 0)⟩
    obtain ⟨y, hy⟩ := choose_lt each
    refine ⟨some a, len, m, fun j => (y j).1, fun j => (y j).2, hcs, ⟨fun h0 => ?_, (fun e => by cases e), by omega⟩⟩
    have k0 := (hy 0 (by omega)).1
    obtain ⟨b, off, spot⟩ := a
    have hspot : spot = none := by simpa [Addr.add] using World.cell?_spot k0
    subst hspot
    refine ⟨b, off, rfl, fun i hi => ?_⟩
    obtain ⟨q0, q1⟩ := hy i (by omega)
    simp only [add_plain, Nat.add_zero] at q0 q1
    exact ⟨q0, q1⟩
set_option maxRecDepth 100000 in
theorem open_desc {r : Reach} {b0 : Nat} {v : Value} {d : DataW H} {p : List MemPlace} (hv : Value.okWide Tryz.prog w r b0 27 v) (h : DataW.Trod enc Tryz.prog w 0 (fun _ => true) held 27 v d p) :
    ∃ len dep ro n rc R V, v = .agg #[.int .i64 len, .int .i64 dep, .slice ro n rc] /\ Rec w ro n rc R V := by
  obtain ⟨cs, rfl, hsz⟩ := okWide_struct Tryz.underlying27 hv
  obtain ⟨c0, c1, c2, rfl⟩ := array3 (hsz.trans cells35)
  obtain ⟨fuel, hf⟩ := h
  obtain ⟨z0, z1, z2, m, _, _, t0, t1, t2⟩ := trod_struct3 Tryz.underlying27 hf
  simp [Value.cells, cells3, cells28] at t0 t1 t2
  obtain ⟨a0, e0, _, _⟩ := DataW.trod_int Tryz.underlying3 t0
  obtain ⟨a1, e1, _, _⟩ := DataW.trod_int Tryz.underlying3 t1
  obtain ⟨ro, n, rc, R, V, e2, h2⟩ := open_refs t2
  simp at e0 e1
  subst e0 e1 e2
  exact ⟨a0, a1, ro, n, rc, R, V, rfl, h2⟩
end
end Go.Proofs.YtdmpiipllmjloaaGreat.De
