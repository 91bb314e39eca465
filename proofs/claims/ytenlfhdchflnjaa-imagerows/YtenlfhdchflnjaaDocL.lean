/- What comes in, opened, with what its bytes take. -/
import Derived.Test.YtenlfhdchflnjaaImgX
namespace Go.Proofs.Ytenlfhdchflnjaa
open Go.RowKit Go.ChangeShapes Go.WideShapes Go.Deep Go.Joins

theorem bytes5 : Try.prog.bytesOf 5 = 1 := by kernel_rfl
section
variable {H : Type} {enc : TypeId × Value → H} {w : World} {held : Bool}
theorem weights_mem_all {P : Program} {e : TypeId} {d : DataW H} {n : Nat} (hn : n ∈ d.weights P e) : ∀ {l : List (DataW H)}, d ∈ l → n ∈ DataW.weightsAll P e l
  | [], h => by cases h
  | x :: l, h => by
    rw [DataW.weightsAll, List.mem_append]
    rcases List.mem_cons.1 h with rfl | h
    · exact .inl hn
    · exact .inr (weights_mem_all hn h)
theorem bytes_weight {fuel : Nat} {po : Option Addr} {n pc : Nat} {x : DataW H × List MemPlace} (h : DataW.trod enc Try.prog w 0 (fun _ => true) held fuel 33 [.slice po n pc] = some x) : n = 0 ∨ ∃ q, q ∈ x.1.weights Try.prog 33 ∧ n ≤ q := by
  rcases open_slice Try.underlying33 h with ⟨hcs, hx⟩ | ⟨a, len, cap, m, n', D, Pl, hcs, _, hl, hm, hmm, hx, hc⟩
  · simp at hcs; exact .inl hcs.2.1
  · simp at hcs
    simp only [if_true] at hmm
    obtain ⟨_, rfl, rfl⟩ := hcs
    refine .inr ⟨(n + (m - n)) * 1, ?_, by omega⟩
    rw [hx]
    simp [DataW.weights, Try.underlying33, bytes5]
theorem open_lst_w {fuel : Nat} {v : Value} {x : DataW H × List MemPlace} (h : DataW.trod enc Try.prog w 0 (fun _ => true) held fuel 25 [v] = some x) :
    ∃ lo n cl A C F, v = .slice lo n cl ∧ IsLst w lo n cl A C F ∧ (x.1 = .nil ∨ ∃ e s, x.1 = .slice e s ∧ e.length + s.length = cl) ∧ ∀ i, i < n → (F i).length = 0 ∨ ∃ q, q ∈ x.1.weights Try.prog 25 ∧ (F i).length ≤ q := by
  rcases open_slice1 Try.underlying25 (by kernel_rfl) h with ⟨hcs, hx⟩ | ⟨a, len, cap, m, n, V, D, Pl, hcs, _, hl, hm, hmm, hx, hc⟩
  · simp at hcs
    exact ⟨none, 0, 0, fun _ => none, fun _ => 0, fun _ => [], hcs, ⟨⟨fun h => absurd h (Nat.lt_irrefl 0), fun i hi => absurd hi (Nat.not_lt_zero i), fun i hi => absurd hi (Nat.not_lt_zero i)⟩, Nat.le_refl _, by decide, fun _ => rfl, fun i hi => absurd hi (Nat.not_lt_zero i)⟩, .inl (by rw [hx]), fun i hi => absurd hi (Nat.not_lt_zero i)⟩
  · simp at hcs
    simp only [if_true] at hmm
    subst hmm
    have each : ∀ i, i < m → ∃ y : Option Addr × Nat × List UInt8, V i = .slice y.1 y.2.2.length y.2.1 ∧ RdB w y.1 y.2.2 ∧ (y.1 = none → y.2.2 = [] ∧ y.2.1 = 0) ∧ y.2.2.length ≤ 9223372036854775807 ∧ (y.2.2.length = 0 ∨ ∃ q, q ∈ (D i).weights Try.prog 33 ∧ y.2.2.length ≤ q) := by
      intro i hi
      obtain ⟨ao, cp, c, h1, h2, h3, h4⟩ := open_bytes (hc i hi).2
      refine ⟨(ao, cp, c), h1, h2, h3, h4, ?_⟩
      have h5 := (hc i hi).2
      rw [h1] at h5
      exact bytes_weight h5
    obtain ⟨y, hy⟩ := choose_lt each
    refine ⟨some a, len, m, fun i => (y i).1, fun i => (y i).2.1, fun i => (y i).2.2, hcs, ⟨⟨fun h0 => ?_, fun i hi => (hy i (by omega)).2.1, fun i hi => (hy i (by omega)).2.2.1⟩, hl, by unfold maxLen at hm; omega, (fun e => by cases e), fun i hi => (hy i (by omega)).2.2.2.1⟩, .inr ⟨_, _, by rw [hx], by simp; omega⟩, fun i hi => ?_⟩
    · have k0 := (hc 0 (by omega)).1
      obtain ⟨b, off, spot⟩ := a
      have hspot : spot = none := by simpa [Addr.add] using World.cell?_spot k0
      subst hspot
      refine ⟨b, off, rfl, fun i hi => ?_⟩
      have := (hc i (by omega)).1
      rw [add_plain] at this
      rw [this, (hy i (by omega)).1]
    · rcases (hy i (by omega)).2.2.2.2 with e | ⟨q, q1, q2⟩
      · exact .inl e
      · refine .inr ⟨q, ?_, q2⟩
        rw [hx]
        simp only [DataW.weights, Try.underlying25]
        refine List.mem_cons_of_mem _ (List.mem_append_left _ (weights_mem_all q1 ?_))
        exact List.mem_map.2 ⟨i, List.mem_range.2 hi, rfl⟩
/- An image that came in. -/
set_option maxRecDepth 100000 in
theorem open_img_w {r : Reach} {b0 : Nat} {v : Value} {d : DataW H} {p : List MemPlace} (hv : Value.okWide Try.prog w r b0 27 v) (h : DataW.Trod enc Try.prog w 0 (fun _ => true) held 27 v d p) :
    ∃ k ro c q lo n cl A C F, v = .agg #[.int .i64 k, .int .i64 ro, .int .i64 c, .int .i64 q, .slice lo n cl] ∧ IsLst w lo n cl A C F ∧ ∃ y z, d = .agg [y, z] ∧ (z = .nil ∨ ∃ e s, z = .slice e s ∧ e.length + s.length = cl) ∧ ∀ i, i < n → (F i).length = 0 ∨ ∃ q, q ∈ d.weights Try.prog 27 ∧ (F i).length ≤ q := by
  obtain ⟨cs, rfl, hsz⟩ := okWide_struct Try.underlying27 hv
  obtain ⟨c0, c1, c2, c3, c4, rfl⟩ := array5 (hsz.trans cells26)
  obtain ⟨fuel, hf⟩ := h
  obtain ⟨y0, y1, n, hx, _, h0, h1⟩ := trod_struct2 Try.underlying27 hf
  simp only [Prod.mk.injEq] at hx
  simp [Value.cells, cells23, cells24] at h0 h1
  obtain ⟨z0, z1, z2, z3, m, _, _, t0, t1, t2, t3⟩ := trod_struct4 Try.underlying24 h0
  simp [cells3] at t0 t1 t2 t3
  obtain ⟨a0, e0, _, _⟩ := DataW.trod_int Try.underlying3 t0
  obtain ⟨a1, e1, _, _⟩ := DataW.trod_int Try.underlying3 t1
  obtain ⟨a2, e2, _, _⟩ := DataW.trod_int Try.underlying3 t2
  obtain ⟨a3, e3, _, _⟩ := DataW.trod_int Try.underlying3 t3
  obtain ⟨lo, nn, cl, A, C, F, e4, hl, hd, hw⟩ := open_lst_w h1
  simp at e0 e1 e2 e3
  subst e0 e1 e2 e3 e4
  refine ⟨a0, a1, a2, a3, lo, nn, cl, A, C, F, rfl, hl, y0.1, y1.1, hx.1, hd, fun i hi => ?_⟩
  rcases hw i hi with e | ⟨q, q1, q2⟩
  · exact .inl e
  · refine .inr ⟨q, ?_, q2⟩
    rw [hx.1]
    simp only [DataW.weights, Try.underlying27, DataW.weightsEach, List.map_cons, List.map_nil, List.mem_append]
    simp [q1]
end
end Go.Proofs.Ytenlfhdchflnjaa
