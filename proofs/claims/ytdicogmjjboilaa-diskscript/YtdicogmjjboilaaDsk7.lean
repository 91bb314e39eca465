/- What comes in, opened: the steps of a script, and how much memory they take. -/
import Derived.Test.YtdicogmjjboilaaDskO
import Derived.Test.YtdicogmjjboilaaDsk2
import Derived.SizedLaws
namespace Go.Proofs.Ytdicogmjjboilaa
open Go.RowKit Go.ChangeShapes Go.WideShapes Go.Deep Go.Joins

theorem bytes43 : Try.prog.bytesOf 43 = 24 := by kernel_rfl
theorem bytes45 : Try.prog.bytesOf 45 = 48 := by kernel_rfl
theorem cells42 : Try.prog.cellsOf 42 = 6 := by kernel_rfl
theorem cells5 : Try.prog.cellsOf 5 = 1 := by kernel_rfl
theorem cells40 : Try.prog.cellsOf 40 = 1 := by kernel_rfl
section
variable {H : Type} {enc : TypeId × Value → H} {w : World} {held : Bool}
theorem weights_mem_all {P : Program} {e : TypeId} {d : DataW H} {n : Nat} (hn : n ∈ d.weights P e) : ∀ {l : List (DataW H)}, d ∈ l → n ∈ DataW.weightsAll P e l
  | [], h => by cases h
  | x :: l, h => by
    rw [DataW.weightsAll, List.mem_append]
    rcases List.mem_cons.1 h with rfl | h
    · exact .inl hn
    · exact .inr (weights_mem_all hn h)
theorem trod_struct6 {P : Program} {base : Nat} {spare : Nat → Bool} {t : TypeId} {f0 f1 f2 f3 f4 f5 : Field} {fuel : Nat} {cs : List Value} {x : DataW H × List MemPlace} (ht : P.underlying t = some (.struct #[f0, f1, f2, f3, f4, f5])) (h : DataW.trod enc P w base spare held fuel t cs = some x) :
    ∃ y0 y1 y2 y3 y4 y5 n, x.1 = .agg [y0.1, y1.1, y2.1, y3.1, y4.1, y5.1] ∧ DataW.trod enc P w base spare held n f0.type ((cs.drop f0.offset).take (P.cellsOf f0.type)) = some y0 ∧
      DataW.trod enc P w base spare held n f1.type ((cs.drop f1.offset).take (P.cellsOf f1.type)) = some y1 ∧ DataW.trod enc P w base spare held n f2.type ((cs.drop f2.offset).take (P.cellsOf f2.type)) = some y2 ∧
      DataW.trod enc P w base spare held n f3.type ((cs.drop f3.offset).take (P.cellsOf f3.type)) = some y3 ∧ DataW.trod enc P w base spare held n f4.type ((cs.drop f4.offset).take (P.cellsOf f4.type)) = some y4 ∧
      DataW.trod enc P w base spare held n f5.type ((cs.drop f5.offset).take (P.cellsOf f5.type)) = some y5 := by
  obtain ⟨xs, n, _, rfl, hl, hlen, hf⟩ := DataW.trod_struct ht h
  match xs, hlen with
  | [y0, y1, y2, y3, y4, y5], _ => exact ⟨y0, y1, y2, y3, y4, y5, n, by simp, by simpa using hf 0 f0 rfl, by simpa using hf 1 f1 rfl, by simpa using hf 2 f2 rfl, by simpa using hf 3 f3 rfl, by simpa using hf 4 f4 rfl, by simpa using hf 5 f5 rfl⟩
/-- What a list takes. -/
theorem pts_weight {fuel : Nat} {po : Option Addr} {n pc : Nat} {x : DataW H × List MemPlace} (h : DataW.trod enc Try.prog w 0 (fun _ => true) held fuel 40 [.slice po n pc] = some x) : n = 0 ∨ ∃ q, q ∈ x.1.weights Try.prog 40 ∧ n * 48 ≤ q := by
  rcases open_slice Try.underlying40 h with ⟨hcs, hx⟩ | ⟨a, len, cap, m, n', D, Pl, hcs, _, hl, hm, hmm, hx, hc⟩
  · simp at hcs; exact .inl hcs.2.1
  · simp at hcs
    simp only [if_true] at hmm
    obtain ⟨_, rfl, rfl⟩ := hcs
    refine .inr ⟨(n + (m - n)) * 48, ?_, Nat.mul_le_mul_right 48 (by omega)⟩
    rw [hx]
    simp [DataW.weights, Try.underlying40, bytes45]
theorem img_weight {k r c q : Int} {lo : Option Addr} {n cl : Nat} {d : DataW H} {p : List MemPlace} (h : DataW.Trod enc Try.prog w 0 (fun _ => true) held 26 (.agg #[.int .i64 k, .int .i64 r, .int .i64 c, .int .i64 q, .slice lo n cl]) d p) : n = 0 ∨ ∃ q, q ∈ d.weights Try.prog 26 ∧ n * 24 ≤ q := by
  obtain ⟨fuel, hf⟩ := h
  obtain ⟨y0, y1, n', hx, _, h0, h1⟩ := trod_struct2 Try.underlying26 hf
  simp only [Prod.mk.injEq] at hx
  simp [Value.cells, cells23, cells24] at h0 h1
  rcases open_slice1 Try.underlying24 (by kernel_rfl) h1 with ⟨hcs, _⟩ | ⟨a, len, cap, m, n'', V, D, Pl, hcs, _, hl, hm, hmm, hx2, hc⟩
  · simp at hcs; exact .inl hcs.2.1
  · simp at hcs
    simp only [if_true] at hmm
    obtain ⟨_, rfl, rfl⟩ := hcs
    refine .inr ⟨(n + (m - n)) * 24, ?_, Nat.mul_le_mul_right 24 (by omega)⟩
    rw [hx.1, hx2]
    simp [DataW.weights, DataW.weightsEach, Try.underlying26, Try.underlying24, bytes43]
/-- Steps that came in. -/
theorem open_stps {fuel : Nat} {v : Value} {x : DataW H × List MemPlace} (h : DataW.trod enc Try.prog w 0 (fun _ => true) held fuel 27 [v] = some x) :
    ∃ (lo : Option Addr) (n lc : Nat) (X : Nat → Sp) (D : Nat → Nat → Pt) (B : Nat → Nat → Option Addr) (K : Nat → Nat → Nat), v = .slice lo n lc ∧ Sps w lo n X ∧ n ≤ 9223372036854775807 ∧ ∀ i, i < n → Pts w (fun b => b < w.heap.size) (X i).po (X i).m (D i) (B i) (K i) ∧ (∀ j, j < (X i).m → (D i j).b.length ≤ 9223372036854775807) ∧ (X i).n ≤ 9223372036854775807 ∧ ((X i).m = 0 ∨ ∃ q, q ∈ x.1.weights Try.prog 27 ∧ (X i).m * 48 ≤ q) := by
  rcases open_slice Try.underlying27 h with ⟨hcs, hx⟩ | ⟨a, len, cap, m, n, DD, Pl, hcs, _, hl, hm, hmm, hx, hc⟩
  · simp at hcs
    exact ⟨none, 0, 0, fun _ => ⟨0, 0, 0, 0, 0, none, 0, 0⟩, fun _ _ => ⟨0, 0, 0, []⟩, fun _ _ => none, fun _ _ => 0, hcs, ⟨fun h => absurd h (Nat.lt_irrefl 0)⟩, by decide, fun i hi => absurd hi (Nat.not_lt_zero i)⟩
  · simp at hcs
    simp only [if_true] at hmm
    subst hmm
    rw [cells42] at hc
    have each : ∀ i, i < len → ∃ y : Sp × (Nat → Pt) × (Nat → Option Addr) × (Nat → Nat), (w.cell? ((a.add (i * 6)).add 0) = some (.int .u8 y.1.a) ∧ w.cell? ((a.add (i * 6)).add 1) = some (.int .i64 y.1.d) ∧ w.cell? ((a.add (i * 6)).add 2) = some (.int .i64 y.1.r) ∧ w.cell? ((a.add (i * 6)).add 3) = some (.int .i64 y.1.s) ∧ w.cell? ((a.add (i * 6)).add 4) = some (.int .i64 y.1.n) ∧ w.cell? ((a.add (i * 6)).add 5) = some (.slice y.1.po y.1.m y.1.pc)) ∧ Pts w (fun b => b < w.heap.size) y.1.po y.1.m y.2.1 y.2.2.1 y.2.2.2 ∧ (∀ j, j < y.1.m → (y.2.1 j).b.length ≤ 9223372036854775807) ∧ y.1.n ≤ 9223372036854775807 ∧ (y.1.m = 0 ∨ ∃ q, q ∈ x.1.weights Try.prog 27 ∧ y.1.m * 48 ≤ q) := by
      intro i hi
      obtain ⟨cs', h1, h2⟩ := hc i (by omega)
      obtain ⟨_, hlen, hcell⟩ := World.cells?_some h1
      match cs', hlen with
      | [c0, c1, c2, c3, c4, c5], _ =>
        obtain ⟨z0, z1, z2, z3, z4, z5, m', hagg, t0, t1, t2, t3, t4, t5⟩ := trod_struct6 Try.underlying42 h2
        simp [cells3, cells5, cells40] at t0 t1 t2 t3 t4 t5
        obtain ⟨a0, e0, _, _⟩ := DataW.trod_int Try.underlying5 t0
        obtain ⟨a1, e1, _, _⟩ := DataW.trod_int Try.underlying3 t1
        obtain ⟨a2, e2, _, _⟩ := DataW.trod_int Try.underlying3 t2
        obtain ⟨a3, e3, _, _⟩ := DataW.trod_int Try.underlying3 t3
        obtain ⟨a4, e4, _, hw4⟩ := DataW.trod_int Try.underlying3 t4
        obtain ⟨po, pn, pc, D, B, K, e5, p1, p2, p3, p4, _, _⟩ := open_pts t5
        simp at e0 e1 e2 e3 e4
        subst e0 e1 e2 e3 e4 e5
        refine ⟨(⟨a0, a1, a2, a3, a4, po, pn, pc⟩, D, B, K), ⟨hcell 0 (by decide), hcell 1 (by decide), hcell 2 (by decide), hcell 3 (by decide), hcell 4 (by decide), hcell 5 (by decide)⟩, p1, p4, (bounds_i64 hw4).2, ?_⟩
        rcases pts_weight t5 with q | ⟨q, q1, q2⟩
        · exact .inl q
        · refine .inr ⟨q, ?_, q2⟩
          have hin : q ∈ (DD i).weights Try.prog 42 := by
            have hd : DD i = .agg [z0.1, z1.1, z2.1, z3.1, z4.1, z5.1] := hagg
            rw [hd]
            simp only [DataW.weights, Try.underlying42, DataW.weightsEach, List.map_cons, List.map_nil, List.mem_append]
            simp [q1]
          rw [hx]
          simp only [DataW.weights, Try.underlying27]
          refine List.mem_cons_of_mem _ (List.mem_append_left _ (weights_mem_all hin ?_))
          exact List.mem_map.2 ⟨i, List.mem_range.2 hi, rfl⟩
    haveI : Inhabited (Sp × (Nat → Pt) × (Nat → Option Addr) × (Nat → Nat)) := ⟨(⟨0, 0, 0, 0, 0, none, 0, 0⟩, fun _ => ⟨0, 0, 0, []⟩, fun _ => none, fun _ => 0)⟩
    obtain ⟨y, hy⟩ := choose_lt each
    refine ⟨some a, len, m, fun i => (y i).1, fun i => (y i).2.1, fun i => (y i).2.2.1, fun i => (y i).2.2.2, hcs, ⟨fun h0 => ?_⟩, by unfold maxLen at hm; omega, fun i hi => (hy i hi).2⟩
    have k0 := (hy 0 (by omega)).1.1
    obtain ⟨b, off, spot⟩ := a
    have hspot : spot = none := by simpa [Addr.add] using World.cell?_spot k0
    subst hspot
    refine ⟨b, off, rfl, fun i hi => ?_⟩
    obtain ⟨q0, q1, q2, q3, q4, q5⟩ := (hy i hi).1
    simp only [add_plain, Nat.add_zero] at q0 q1 q2 q3 q4 q5
    exact ⟨q0, q1, q2, q3, q4, q5⟩
end
end Go.Proofs.Ytdicogmjjboilaa
