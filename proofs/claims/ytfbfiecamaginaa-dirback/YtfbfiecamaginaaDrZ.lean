/- What comes in, opened: parameters, entries, bytes, rows, one entry. -/
import Derived.Test.YtfbfiecamaginaaDrW
import Derived.Lib.SmallJoins
import Derived.Deep.Matrix
import Derived.Deep.FieldsWide
import Derived.OpenShut
import Derived.Deep.Grids
namespace Go.Proofs.Ytfbfiecamaginaa
open Go.RowKit Go.ChangeShapes Go.WideShapes Go.Deep Go.Joins

section
variable {H : Type} {enc : TypeId × Value → H} {w : World} {held : Bool}
theorem wf_u8 {z : Int} (h : (Lit.int .u8 z).wf = true) : (((UInt8.ofNat z.toNat).toNat : Nat) : Int) = z := by
  have b := bounds_u8 h
  rw [UInt8.toNat_ofNat']
  omega
theorem open_by {fuel : Nat} {v : Value} {x : DataW H × List MemPlace} (h : DataW.trod enc Try.prog w 0 (fun _ => true) held fuel 25 [v] = some x) :
    ∃ ao b cp, v = .slice ao (b : List UInt8).length cp ∧ Reb w ao b cp := by
  rcases open_ints Try.underlying25 Try.underlying5 (by kernel_rfl) h with ⟨hcs, _⟩ | ⟨a, l, cp, zs, hcs, _, hl, hm, hz, _, hcell, hwz⟩
  · simp at hcs
    exact ⟨none, [], 0, hcs, rev_nil _⟩
  · simp at hcs
    simp only [if_true] at hz
    have hlen : ((zs.take l).map fun z => UInt8.ofNat z.toNat).length = l := by rw [List.length_map, List.length_take]; omega
    refine ⟨some a, (zs.take l).map fun z => UInt8.ofNat z.toNat, cp, by rw [hlen]; exact hcs, ⟨fun hn => ?_, (fun e => by cases e), by rw [hlen]; exact hl⟩⟩
    have h0 := hcell 0 (by omega)
    obtain ⟨b, off, spot⟩ := a
    have hspot : spot = none := by simpa [Addr.add] using World.cell?_spot h0
    subst hspot
    refine ⟨b, off, rfl, fun j u hj => ?_⟩
    unfold bvl at hj
    rw [List.getElem?_map, List.getElem?_map] at hj
    have hjl : j < l := by
      rcases Nat.lt_or_ge j l with g | g
      · exact g
      · rw [List.getElem?_eq_none (by rw [List.length_take]; omega)] at hj; cases hj
    rw [List.getElem?_take_of_lt hjl, List.getElem?_eq_getElem (by omega)] at hj
    have hc := hcell j (by omega)
    rw [add_plain] at hc
    rw [hc, ← hj]
    simp only [Option.map_some]
    rw [wf_u8 (hwz _ (List.getElem_mem _))]
    simp [List.getD_eq_getElem?_getD, List.getElem?_eq_getElem (show j < zs.length by omega)]
theorem open_iv {fuel : Nat} {v : Value} {x : DataW H × List MemPlace} (h : DataW.trod enc Try.prog w 0 (fun _ => true) held fuel 40 [v] = some x) :
    ∃ ao b cp, v = .slice ao (b : List Int).length cp ∧ Rei w ao b cp := by
  rcases open_ints Try.underlying40 Try.underlying3 (by kernel_rfl) h with ⟨hcs, _⟩ | ⟨a, l, cp, zs, hcs, _, hl, hm, hz, _, hcell, hwz⟩
  · simp at hcs
    exact ⟨none, [], 0, hcs, rev_nil _⟩
  · simp at hcs
    simp only [if_true] at hz
    have hlen : (zs.take l).length = l := by rw [List.length_take]; omega
    refine ⟨some a, zs.take l, cp, by rw [hlen]; exact hcs, ⟨fun hn => ?_, (fun e => by cases e), by rw [hlen]; exact hl⟩⟩
    have h0 := hcell 0 (by omega)
    obtain ⟨b, off, spot⟩ := a
    have hspot : spot = none := by simpa [Addr.add] using World.cell?_spot h0
    subst hspot
    refine ⟨b, off, rfl, fun j u hj => ?_⟩
    unfold ivl at hj
    rw [List.getElem?_map] at hj
    have hjl : j < l := by
      rcases Nat.lt_or_ge j l with g | g
      · exact g
      · rw [List.getElem?_eq_none (by rw [List.length_take]; omega)] at hj; cases hj
    rw [List.getElem?_take_of_lt hjl, List.getElem?_eq_getElem (by omega)] at hj
    have hc := hcell j (by omega)
    rw [add_plain] at hc
    rw [hc, ← hj]
    simp [List.getD_eq_getElem?_getD, List.getElem?_eq_getElem (show j < zs.length by omega)]
theorem array4 {α : Type} {cs : Array α} (h : cs.size = 4) : ∃ c0 c1 c2 c3, cs = #[c0, c1, c2, c3] := by
  obtain ⟨l⟩ := cs
  match l, h with
  | [c0, c1, c2, c3], _ => exact ⟨c0, c1, c2, c3, rfl⟩
theorem array2 {α : Type} {cs : Array α} (h : cs.size = 2) : ∃ c0 c1, cs = #[c0, c1] := by
  obtain ⟨l⟩ := cs
  match l, h with
  | [c0, c1], _ => exact ⟨c0, c1, rfl⟩
theorem cells3 : Try.prog.cellsOf 3 = 1 := by kernel_rfl
theorem cells9 : Try.prog.cellsOf 9 = 1 := by kernel_rfl
theorem cells24 : Try.prog.cellsOf 24 = 4 := by kernel_rfl
theorem cells34 : Try.prog.cellsOf 34 = 2 := by kernel_rfl
set_option maxRecDepth 100000 in
theorem open_par {r : Reach} {b0 : Nat} {v : Value} {d : DataW H} {p : List MemPlace} (hv : Value.okWide Try.prog w r b0 24 v) (h : DataW.Trod enc Try.prog w 0 (fun _ => true) held 24 v d p) :
    ∃ k ro c q, v = .agg #[.int .i64 k, .int .i64 ro, .int .i64 c, .int .i64 q] := by
  obtain ⟨cs, rfl, hsz⟩ := okWide_struct Try.underlying24 hv
  obtain ⟨c0, c1, c2, c3, rfl⟩ := array4 (hsz.trans cells24)
  obtain ⟨fuel, hf⟩ := h
  obtain ⟨z0, z1, z2, z3, m, _, _, t0, t1, t2, t3⟩ := trod_struct4 Try.underlying24 hf
  simp [Value.cells, cells3] at t0 t1 t2 t3
  obtain ⟨a0, e0, _, _⟩ := DataW.trod_int Try.underlying3 t0
  obtain ⟨a1, e1, _, _⟩ := DataW.trod_int Try.underlying3 t1
  obtain ⟨a2, e2, _, _⟩ := DataW.trod_int Try.underlying3 t2
  obtain ⟨a3, e3, _, _⟩ := DataW.trod_int Try.underlying3 t3
  simp at e0 e1 e2 e3
  subst e0 e1 e2 e3
  exact ⟨a0, a1, a2, a3, rfl⟩
theorem bytes_of (s : ByteArray) : ∃ l : List UInt8, s = ⟨l.toArray⟩ := ⟨s.data.toList, by cases s; simp⟩
set_option maxRecDepth 100000 in
theorem open_ent {r : Reach} {b0 : Nat} {v : Value} {d : DataW H} {p : List MemPlace} (hv : Value.okWide Try.prog w r b0 34 v) (h : DataW.Trod enc Try.prog w 0 (fun _ => true) held 34 v d p) :
    ∃ (N : List UInt8) (R : Int), v = .agg #[.string ⟨N.toArray⟩, .int .i64 R] ∧ N.length ≤ maxLen := by
  obtain ⟨cs, rfl, hsz⟩ := okWide_struct Try.underlying34 hv
  obtain ⟨c0, c1, rfl⟩ := array2 (hsz.trans cells34)
  obtain ⟨fuel, hf⟩ := h
  obtain ⟨z0, z1, m, _, _, t0, t1⟩ := trod_struct2 Try.underlying34 hf
  simp [Value.cells, cells3, cells9] at t0 t1
  obtain ⟨s, e0, _, hs⟩ := DataW.trod_string Try.underlying9 t0
  obtain ⟨a1, e1, _, _⟩ := DataW.trod_int Try.underlying3 t1
  simp at e0 e1
  subst e0 e1
  obtain ⟨N, rfl⟩ := bytes_of s
  exact ⟨N, a1, rfl, by rw [str_size] at hs; exact hs⟩
set_option maxRecDepth 100000 in
theorem open_entw {r : Reach} {b0 : Nat} {v : Value} {d : DataW H} {p : List MemPlace} (hv : Value.okWide Try.prog w r b0 34 v) (h : DataW.Trod enc Try.prog w 0 (fun _ => true) held 34 v d p) :
    ∃ (N : List UInt8) (R : Int), v = .agg #[.string ⟨N.toArray⟩, .int .i64 R] ∧ N.length ∈ d.weights Try.prog 34 := by
  obtain ⟨cs, rfl, hsz⟩ := okWide_struct Try.underlying34 hv
  obtain ⟨c0, c1, rfl⟩ := array2 (hsz.trans cells34)
  obtain ⟨fuel, hf⟩ := h
  obtain ⟨z0, z1, m, hx, _, t0, t1⟩ := trod_struct2 Try.underlying34 hf
  simp [Value.cells, cells3, cells9] at t0 t1
  obtain ⟨s, e0, hx0, hs⟩ := DataW.trod_string Try.underlying9 t0
  obtain ⟨a1, e1, _, _⟩ := DataW.trod_int Try.underlying3 t1
  simp at e0 e1
  subst e0 e1
  obtain ⟨N, rfl⟩ := bytes_of s
  refine ⟨N, a1, rfl, ?_⟩
  have hx' : d = .agg [z0.1, z1.1] := congrArg Prod.fst hx
  rw [hx', hx0]
  simp only [DataW.weights, Try.underlying34, DataW.weightsEach, List.map_cons, List.map_nil, List.mem_append]
  simp
set_option maxRecDepth 100000 in
theorem open_ents {fuel : Nat} {v : Value} {x : DataW H × List MemPlace} (h : DataW.trod enc Try.prog w 0 (fun _ => true) held fuel 26 [v] = some x) :
    ∃ ao l cp, v = .slice ao (l : List En).length cp ∧ Ren w ao l cp := by
  rcases open_slice Try.underlying26 h with ⟨hcs, hx⟩ | ⟨a, len, cap, m, n, D, Pl, hcs, _, hl, hm, hmm, hx, hc⟩
  · simp at hcs
    exact ⟨none, [], 0, hcs, rev_nil _⟩
  · simp at hcs
    simp only [if_true] at hmm
    subst hmm
    rw [cells34] at hc
    have each : ∀ i, i < m → ∃ y : List UInt8 × Int, w.cell? ((a.add (i * 2)).add 0) = some (.string ⟨y.1.toArray⟩) ∧ w.cell? ((a.add (i * 2)).add 1) = some (.int .i64 y.2) := by
      intro i hi
      obtain ⟨cs', h1, h2⟩ := hc i hi
      obtain ⟨_, hlen, hcell⟩ := World.cells?_some h1
      match cs', hlen with
      | [c0, c1], _ =>
        obtain ⟨z0, z1, n', _, _, t0, t1⟩ := trod_struct2 Try.underlying34 h2
        simp [cells3, cells9] at t0 t1
        obtain ⟨s, e0, _, _⟩ := DataW.trod_string Try.underlying9 t0
        obtain ⟨a1, e1, _, _⟩ := DataW.trod_int Try.underlying3 t1
        simp at e0 e1
        subst e0 e1
        obtain ⟨N, rfl⟩ := bytes_of s
        exact ⟨(N, a1), hcell 0 (by decide), hcell 1 (by decide)⟩
    haveI : Inhabited (List UInt8 × Int) := ⟨([], 0)⟩
    obtain ⟨y, hy⟩ := choose_lt each
    obtain ⟨l, hll⟩ : ∃ l : List En, l = (List.range len).map y := ⟨_, rfl⟩
    have hlen : l.length = len := by rw [hll]; simp
    refine ⟨some a, l, m, by rw [hlen]; exact hcs, ⟨fun h0 => ?_, (fun e => by cases e), by omega⟩⟩
    have k0 := (hy 0 (by omega)).1
    obtain ⟨b, off, spot⟩ := a
    have hspot : spot = none := by simpa [Addr.add] using World.cell?_spot k0
    subst hspot
    refine ⟨b, off, rfl, fun j u hj => ?_⟩
    have hjl : j < l.length * 2 := by
      rcases Nat.lt_or_ge j (l.length * 2) with g | g
      · exact g
      · rw [List.getElem?_eq_none (by rw [evl_length]; omega)] at hj; cases hj
    obtain ⟨i, hi⟩ : ∃ i, i = j / 2 := ⟨_, rfl⟩
    have hil : i < l.length := by omega
    obtain ⟨q0, q1⟩ := hy i (by omega)
    simp only [add_plain, Nat.add_zero] at q0 q1
    obtain ⟨g0, g1⟩ := evl_get l i hil
    have ey : l[i] = y i := by simp [hll]
    rw [gN_eq hil, ey] at g0
    rw [gR_eq hil, ey] at g1
    rcases (show j = i * 2 ∨ j = i * 2 + 1 by omega) with e | e
    · rw [e] at hj ⊢
      rw [g0] at hj
      rw [q0]; exact hj
    · rw [e] at hj ⊢
      rw [g1] at hj
      rw [← Nat.add_assoc, q1]; exact hj
end
end Go.Proofs.Ytfbfiecamaginaa
