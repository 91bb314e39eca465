/- What comes in, opened, with what its bytes take. -/
import Derived.Test.YtcippamdjmonlaaSlO
namespace Go.Proofs.Ytcippamdjmonlaa
open Go.RowKit Go.ChangeShapes Go.WideShapes Go.Deep Go.Joins

theorem bytes5 : Try.prog.bytesOf 5 = 1 := by kernel_rfl
theorem bytes3 : Try.prog.bytesOf 3 = 8 := by kernel_rfl
section
variable {H : Type} {enc : TypeId × Value → H} {w : World} {held : Bool}
theorem bytes_weight {fuel : Nat} {po : Option Addr} {n pc : Nat} {x : DataW H × List MemPlace} (h : DataW.trod enc Try.prog w 0 (fun _ => true) held fuel 25 [.slice po n pc] = some x) : n = 0 ∨ ∃ q, q ∈ x.1.weights Try.prog 25 ∧ n ≤ q := by
  rcases open_slice Try.underlying25 h with ⟨hcs, hx⟩ | ⟨a, len, cap, m, n', D, Pl, hcs, _, hl, hm, hmm, hx, hc⟩
  · simp at hcs; exact .inl hcs.2.1
  · simp at hcs
    simp only [if_true] at hmm
    obtain ⟨_, rfl, rfl⟩ := hcs
    refine .inr ⟨(n + (m - n)) * 1, ?_, by omega⟩
    rw [hx]
    simp [DataW.weights, Try.underlying25, bytes5]
theorem vec_weight {fuel : Nat} {po : Option Addr} {n pc : Nat} {x : DataW H × List MemPlace} (h : DataW.trod enc Try.prog w 0 (fun _ => true) held fuel 24 [.slice po n pc] = some x) : n = 0 ∨ ∃ q, q ∈ x.1.weights Try.prog 24 ∧ n * 8 ≤ q := by
  rcases open_slice Try.underlying24 h with ⟨hcs, hx⟩ | ⟨a, len, cap, m, n', D, Pl, hcs, _, hl, hm, hmm, hx, hc⟩
  · simp at hcs; exact .inl hcs.2.1
  · simp at hcs
    simp only [if_true] at hmm
    obtain ⟨_, rfl, rfl⟩ := hcs
    refine .inr ⟨(n + (m - n)) * 8, ?_, by omega⟩
    rw [hx]
    simp [DataW.weights, Try.underlying24, bytes3]
/- A slot that came in. -/
set_option maxRecDepth 100000 in
theorem open_slot_w {r : Reach} {b0 : Nat} {v : Value} {d : DataW H} {p : List MemPlace} (hv : Value.okWide Try.prog w r b0 27 v) (h : DataW.Trod enc Try.prog w 0 (fun _ => true) held 27 v d p) :
    ∃ s ao ca bo cb, v = slv s ao ca bo cb ∧ Has w s ao ca bo cb ∧ (s.vn = 0 ∨ ∃ q, q ∈ d.weights Try.prog 27 ∧ s.vn * 8 ≤ q) ∧ (s.dn = 0 ∨ ∃ q, q ∈ d.weights Try.prog 27 ∧ s.dn ≤ q) := by
  obtain ⟨cs, rfl, hsz⟩ := okWide_struct Try.underlying27 hv
  obtain ⟨c0, c1, c2, c3, c4, c5, rfl⟩ := array6 (hsz.trans cells27)
  obtain ⟨fuel, hf⟩ := h
  obtain ⟨y0, y1, y2, y3, y4, y5, n, hx, t0, t1, t2, t3, t4, t5⟩ := trod_struct6 Try.underlying27 hf
  simp [Value.cells, cells3, cells5, cells24, cells25] at t0 t1 t2 t3 t4 t5
  obtain ⟨a0, e0, _, u0⟩ := DataW.trod_int Try.underlying5 t0
  obtain ⟨a1, e1, _, _⟩ := DataW.trod_int Try.underlying3 t1
  obtain ⟨a2, e2, _, _⟩ := DataW.trod_int Try.underlying3 t2
  obtain ⟨a3, e3, _, _⟩ := DataW.trod_int Try.underlying3 t3
  obtain ⟨ao, vn, ca, R, e4, hv4, l4⟩ := open_vec t4
  obtain ⟨bo, dn, cb, F, e5, hv5, l5⟩ := open_bytes t5
  rw [e4] at t4
  rw [e5] at t5
  have w4 := vec_weight t4
  have w5 := bytes_weight t5
  simp at e0 e1 e2 e3
  subst e0 e1 e2 e3 e4 e5
  have hx' : d = .agg [y0.1, y1.1, y2.1, y3.1, y4.1, y5.1] := hx
  refine ⟨⟨UInt8.ofNat a0.toNat, a1, a2, a3, vn, R, dn, F⟩, ao, ca, bo, cb, by unfold slv; simp only; rw [u8_of u0], ⟨hv4, hv5⟩, ?_, ?_⟩
  · rcases w4 with e | ⟨q, q1, q2⟩
    · exact .inl e
    · refine .inr ⟨q, ?_, q2⟩
      rw [hx']
      simp only [DataW.weights, Try.underlying27, DataW.weightsEach, List.map_cons, List.map_nil, List.mem_append]
      simp [q1]
  · rcases w5 with e | ⟨q, q1, q2⟩
    · exact .inl e
    · refine .inr ⟨q, ?_, q2⟩
      rw [hx']
      simp only [DataW.weights, Try.underlying27, DataW.weightsEach, List.map_cons, List.map_nil, List.mem_append]
      simp [q1]
end
end Go.Proofs.Ytcippamdjmonlaa
