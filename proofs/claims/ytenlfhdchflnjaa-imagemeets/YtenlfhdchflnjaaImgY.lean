/- Raw writes that came in, with their rows' bounds. -/
import Derived.Test.YtenlfhdchflnjaaImgX
namespace Go.Proofs.Ytenlfhdchflnjaa
open Go.RowKit Go.ChangeShapes Go.WideShapes Go.Deep Go.Joins

section
variable {H : Type} {enc : TypeId × Value → H} {w : World} {held : Bool}
/-- Raw writes that came in; their rows are integers. -/
theorem open_pts_wf {fuel : Nat} {v : Value} {x : DataW H × List MemPlace} (h : DataW.trod enc Try.prog w 0 (fun _ => true) held fuel 32 [v] = some x) :
    ∃ po n pc D B K, v = .slice po n pc ∧ Pts w (fun b => b < w.heap.size) po n D B K ∧ n ≤ pc ∧ pc ≤ 9223372036854775807 ∧ (∀ i, i < n → (D i).b.length ≤ 9223372036854775807) ∧ (po = none → n = 0 ∧ pc = 0) ∧ (∀ i, i < n → (Lit.int .i64 (D i).r).wf = true) ∧ (x.1 = .nil ∨ ∃ e s, x.1 = .slice e s ∧ e.length + s.length = pc) := by
  rcases open_slice Try.underlying32 h with ⟨hcs, hx⟩ | ⟨a, len, cap, m, n, D, Pl, hcs, _, hl, hm, hmm, hx, hc⟩
  · simp at hcs
    exact ⟨none, 0, 0, fun _ => ⟨0, 0, 0, []⟩, fun _ => none, fun _ => 0, hcs, ⟨fun h => absurd h (Nat.lt_irrefl 0), fun i hi => absurd hi (Nat.not_lt_zero i), fun i hi => absurd hi (Nat.not_lt_zero i), fun a h => absurd h (Nat.lt_irrefl 0), fun i a hi => absurd hi (Nat.not_lt_zero i)⟩, Nat.le_refl _, by decide, fun i hi => absurd hi (Nat.not_lt_zero i), fun _ => ⟨rfl, rfl⟩, fun i hi => absurd hi (Nat.not_lt_zero i), .inl (by rw [hx])⟩
  · simp at hcs
    simp only [if_true] at hmm
    subst hmm
    rw [cells45] at hc
    have each : ∀ i, i < m → ∃ y : (Int × Int × Int × List UInt8) × Option Addr × Nat, w.cell? ((a.add (i * 4)).add 0) = some (.int .i64 y.1.1) ∧ w.cell? ((a.add (i * 4)).add 1) = some (.int .i64 y.1.2.1) ∧ w.cell? ((a.add (i * 4)).add 2) = some (.int .i64 y.1.2.2.1) ∧ w.cell? ((a.add (i * 4)).add 3) = some (.slice y.2.1 y.1.2.2.2.length y.2.2) ∧ RdB w y.2.1 y.1.2.2.2 ∧ (y.2.1 = none → y.1.2.2.2 = [] ∧ y.2.2 = 0) ∧ y.1.2.2.2.length ≤ 9223372036854775807 ∧ (Lit.int .i64 y.1.2.1).wf = true := by
      intro i hi
      obtain ⟨cs', h1, h2⟩ := hc i hi
      obtain ⟨_, hlen, hcell⟩ := World.cells?_some h1
      match cs', hlen with
      | [c0, c1, c2, c3], _ =>
        obtain ⟨z0, z1, z2, z3, m', _, _, t0, t1, t2, t3⟩ := trod_struct4 Try.underlying35 h2
        simp [cells3, cells43] at t0 t1 t2 t3
        obtain ⟨a0, e0, _, _⟩ := DataW.trod_int Try.underlying3 t0
        obtain ⟨a1, e1, _, wf1⟩ := DataW.trod_int Try.underlying3 t1
        obtain ⟨a2, e2, _, _⟩ := DataW.trod_int Try.underlying3 t2
        obtain ⟨ao, cp, c, e3, r1, r2, r3⟩ := open_bytes t3
        simp at e0 e1 e2
        subst e0 e1 e2 e3
        exact ⟨((a0, a1, a2, c), ao, cp), hcell 0 (by decide), hcell 1 (by decide), hcell 2 (by decide), hcell 3 (by decide), r1, r2, r3, wf1⟩
    obtain ⟨y, hy⟩ := choose_lt each
    refine ⟨some a, len, m, fun i => ⟨(y i).1.1, (y i).1.2.1, (y i).1.2.2.1, (y i).1.2.2.2⟩, fun i => (y i).2.1, fun i => (y i).2.2, hcs, ⟨fun h0 => ?_, fun i hi => (hy i (by omega)).2.2.2.2.1, fun i hi => (hy i (by omega)).2.2.2.2.2.1, fun a' h0 e => ?_, fun i a' hi hne e => (hy i (by omega)).2.2.2.2.1.lt hne e⟩, hl, by unfold maxLen at hm; omega, fun i hi => (hy i (by omega)).2.2.2.2.2.2.1, (fun e => by cases e), fun i hi => (hy i (by omega)).2.2.2.2.2.2.2, .inr ⟨_, _, by rw [hx], by simp; omega⟩⟩
    · have k0 := (hy 0 (by omega)).1
      obtain ⟨b, off, spot⟩ := a
      have hspot : spot = none := by simpa [Addr.add] using World.cell?_spot k0
      subst hspot
      refine ⟨b, off, rfl, fun i hi => ?_⟩
      obtain ⟨q0, q1, q2, q3, _⟩ := hy i (by omega)
      simp only [add_plain, Nat.add_zero] at q0 q1 q2 q3
      exact ⟨q0, q1, q2, q3⟩
    · cases e
      have k0 := (hy 0 (by omega)).1
      have := World.block_lt_of_cell? w _ k0
      simpa [Addr.add] using this
end
end Go.Proofs.Ytenlfhdchflnjaa
