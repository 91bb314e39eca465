import Derived.Lib.SmallJoins
import Derived.Deep.Matrix
import Derived.Deep.FieldsWide
import Derived.OpenShut
import Derived.Test.YtmoenmpbkockoaaGreatWj2
import Derived.Test.YtmoenmpbkockoaaGreatWj51
namespace Go.Proofs.YtmoenmpbkockoaaGreat.Im
open Go.RowKit Go.ChangeShapes Go.WideShapes Go.Deep Go.Joins

section
variable {H : Type} {enc : TypeId × Value -> H} {w : World} {held : Bool}
theorem u8_of {z : Int} (h : (Lit.int .u8 z).wf = true) : ((UInt8.ofNat z.toNat).toNat : Int) = z := by
  have b := bounds_u8 h
  rw [UInt8.toNat_ofNat']
  omega
theorem open_bytes {fuel : Nat} {v : Value} {x : DataW H × List MemPlace} (h : DataW.trod enc Tryz.prog w 0 (fun _ => true) held fuel 75 [v] = some x) :
    ∃ ao cp c, v = .slice ao (List.length c) cp /\ RdB w ao c /\ (ao = none -> c = [] /\ cp = 0) /\ c.length <= 9223372036854775807 := by
  rcases open_ints Tryz.underlying75 Tryz.underlying5 (by kernel_rfl) h with ⟨hcs, _⟩ | ⟨a, l, cp, zs, hcs, _, hl, hm, hz, _, hcell, hwz⟩
  · simp at hcs
    exact ⟨none, 0, [], hcs, rdb_nil _ _, fun _ => ⟨rfl, rfl⟩, by decide⟩
  · simp at hcs
    simp only [if_true] at hz
    have hlen : ((zs.take l).map fun z => UInt8.ofNat z.toNat).length = l := by rw [List.length_map, List.length_take]; omega
    refine ⟨some a, cp, (zs.take l).map fun z => UInt8.ofNat z.toNat, by rw [hlen]; exact hcs, fun hne => ?_, (fun e => by cases e), by rw [hlen]; unfold maxLen at hm; omega⟩
    have hl0 : 0 < l := by rw [<- hlen]; exact List.length_pos_iff.2 hne
    have h0 := hcell 0 (by omega)
    obtain ⟨b, off, spot⟩ := a
    have hspot : spot = none := by simpa [Addr.add] using World.cell?_spot h0
    subst hspot
    refine ⟨b, off, rfl, fun j hj => ?_⟩
    rw [hlen] at hj
    have hj2 : j < zs.length := by omega
    have hc := hcell j hj2
    rw [add_plain] at hc
    rw [hc, List.getElem_map, List.getElem_take]
    rw [show zs.getD j 0 = zs[j] by simp [List.getD, hj2], u8_of (hwz _ (List.getElem_mem hj2))]
def IsLst (w : World) (lo : Option Addr) (n cl : Nat) (A : Nat -> Option Addr) (C : Nat -> Nat) (F : Nat -> List UInt8) : Prop :=
  Lst w lo n A C F /\ n <= cl /\ cl <= 9223372036854775807 /\ (lo = none -> n = 0) /\ ∀ i, i < n -> (F i).length <= 9223372036854775807
theorem open_lst {fuel : Nat} {v : Value} {x : DataW H × List MemPlace} (h : DataW.trod enc Tryz.prog w 0 (fun _ => true) held fuel 49 [v] = some x) :
    ∃ lo n cl A C F, v = .slice lo n cl /\ IsLst w lo n cl A C F /\ (x.1 = .nil \/ ∃ e s, x.1 = .slice e s /\ e.length + s.length = cl) := by
  rcases open_slice1 Tryz.underlying49 (by kernel_rfl) h with ⟨hcs, hx⟩ | ⟨a, len, cap, m, n, V, D, Pl, hcs, _, hl, hm, hmm, hx, hc⟩
  · simp at hcs
    exact ⟨none, 0, 0, fun _ => none, fun _ => 0, fun _ => [], hcs, ⟨⟨fun h => absurd h (Nat.lt_irrefl 0), fun i hi => absurd hi (Nat.not_lt_zero i), fun i hi => absurd hi (Nat.not_lt_zero i)⟩, Nat.le_refl _, by decide, fun _ => rfl, fun i hi => absurd hi (Nat.not_lt_zero i)⟩, .inl (by rw [hx])⟩
  · simp at hcs
    simp only [if_true] at hmm
    subst hmm
    have each : ∀ i, i < m -> ∃ y : Option Addr × Nat × List UInt8, V i = .slice y.1 y.2.2.length y.2.1 /\ RdB w y.1 y.2.2 /\ (y.1 = none -> y.2.2 = [] /\ y.2.1 = 0) /\ y.2.2.length <= 9223372036854775807 := by
      intro i hi
      obtain ⟨ao, cp, c, h1, h2, h3, h4⟩ := open_bytes (hc i hi).2
      exact ⟨(ao, cp, c), h1, h2, h3, h4⟩
    obtain ⟨y, hy⟩ := choose_lt each
    refine ⟨some a, len, m, fun i => (y i).1, fun i => (y i).2.1, fun i => (y i).2.2, hcs, ⟨⟨fun h0 => ?_, fun i hi => (hy i (by omega)).2.1, fun i hi => (hy i (by omega)).2.2.1⟩, hl, by unfold maxLen at hm; omega, (fun e => by cases e), fun i hi => (hy i (by omega)).2.2.2⟩, .inr ⟨_, _, by rw [hx], by simp; omega⟩⟩
    have k0 := (hc 0 (by omega)).1
    obtain ⟨b, off, spot⟩ := a
    have hspot : spot = none := by simpa [Addr.add] using World.cell?_spot k0
    subst hspot
    refine ⟨b, off, rfl, fun i hi => ?_⟩
    have := (hc i (by omega)).1
    rw [add_plain] at this
    rw [this, (hy i (by omega)).1]
theorem array5 {α : Type} {cs : Array α} (h : cs.size = 5) : ∃ c0 c1 c2 c3 c4, cs = #[c0, c1, c2, c3, c4] := by
  obtain ⟨l⟩ := cs
  match l, h with
  | [c0, c1, c2, c3, c4], _ => exact ⟨c0, c1, c2, c3, c4, rfl⟩
theorem cells23 : Tryz.prog.cellsOf 23 = 4 := by kernel_rfl
theorem cells24 : Tryz.prog.cellsOf 49 = 1 := by kernel_rfl
theorem cells26 : Tryz.prog.cellsOf 51 = 5 := by kernel_rfl
theorem cells3 : Tryz.prog.cellsOf 3 = 1 := by kernel_rfl
set_option maxRecDepth 100000 in
theorem open_img {r : Reach} {b0 : Nat} {v : Value} {d : DataW H} {p : List MemPlace} (hv : Value.okWide Tryz.prog w r b0 51 v) (h : DataW.Trod enc Tryz.prog w 0 (fun _ => true) held 51 v d p) :
    ∃ k ro c q lo n cl A C F, v = .agg #[.int .i64 k, .int .i64 ro, .int .i64 c, .int .i64 q, .slice lo n cl] /\ IsLst w lo n cl A C F /\ ∃ y z, d = .agg [y, z] /\ (z = .nil \/ ∃ e s, z = .slice e s /\ e.length + s.length = cl) := by
  obtain ⟨cs, rfl, hsz⟩ := okWide_struct Tryz.underlying51 hv
  obtain ⟨c0, c1, c2, c3, c4, rfl⟩ := array5 (hsz.trans cells26)
  obtain ⟨fuel, hf⟩ := h
  obtain ⟨y0, y1, n, hx, _, h0, h1⟩ := trod_struct2 Tryz.underlying51 hf
  simp only [Prod.mk.injEq] at hx
  simp [Value.cells, cells23, cells24] at h0 h1
  obtain ⟨z0, z1, z2, z3, m, _, _, t0, t1, t2, t3⟩ := trod_struct4 Tryz.underlying23 h0
  simp [cells3] at t0 t1 t2 t3
  obtain ⟨a0, e0, _, _⟩ := DataW.trod_int Tryz.underlying3 t0
  obtain ⟨a1, e1, _, _⟩ := DataW.trod_int Tryz.underlying3 t1
  obtain ⟨a2, e2, _, _⟩ := DataW.trod_int Tryz.underlying3 t2
  obtain ⟨a3, e3, _, _⟩ := DataW.trod_int Tryz.underlying3 t3
  obtain ⟨lo, nn, cl, A, C, F, e4, hl, hd⟩ := open_lst h1
  simp at e0 e1 e2 e3
  subst e0 e1 e2 e3 e4
  exact ⟨a0, a1, a2, a3, lo, nn, cl, A, C, F, rfl, hl, y0.1, y1.1, hx.1, hd⟩
end
end Go.Proofs.YtmoenmpbkockoaaGreat.Im
namespace Go.Proofs.YtmoenmpbkockoaaGreat
open Go.RowKit
theorem whole_law {k r c q : Int} {n cl : Nat} {F : Nat -> List UInt8} {lo : Option Addr} {A : Nat -> Option Addr} {C : Nat -> Nat} (w : World) (h : Im.IsLst w lo n cl A C F) (o : Int) :
    Calls Tryz.prog 5 #[.agg #[.int .i64 k, .int .i64 r, .int .i64 c, .int .i64 q, .slice lo n cl], .int .i64 o] w fun e w' => e = .returned (.bool true) /\ Below w.heap.size w w' := by
  obtain ⟨E, A', D, M, R, V, y, l, s, SR, SV, hO⟩ := ob_ex k r c q n F o
  by_cases hE : E = 0
  · subst hE
    exact whole_good hO w lo cl h.2.1 A C h.1
  · exact whole_bad hO hE w lo cl h.2.1 A C h.1
end Go.Proofs.YtmoenmpbkockoaaGreat
