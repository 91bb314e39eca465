/- What Spans of the document answers. -/
import Derived.Test.YtenifakhojdfpaaLayK
namespace Go.Proofs.Ytenifakhojdfpaa
open Go.RowKit

set_option maxHeartbeats 2000000 in
set_option maxRecDepth 100000 in
theorem rspans_bad {k r c q : Int} {N W : Nat} {y : Int} (h : Par k r c q N W y) (off m : Int) (w : World) (e : Int) (he : (y = 2 ∧ e = 2) ∨ (y = 0 ∧ off < 0 ∧ e = 2) ∨ (y = 0 ∧ 0 ≤ off ∧ m < 0 ∧ e = 2) ∨ (y = 0 ∧ 0 ≤ off ∧ 0 ≤ m ∧ (mst W : Int) < off + m ∧ e = 3)) :
    Calls Try.prog 30 #[.agg #[.int .i64 k, .int .i64 r, .int .i64 c, .int .i64 q], .int .i64 off, .int .i64 m] w fun e' w' => e' = .returned (.tuple #[.slice none 0 0, .int .i64 e]) ∧ Below w.heap.size w w' := by
  have HM := fun w => May_any k r c q w
  have hp := h
  obtain ⟨w0, hw0⟩ : ∃ w0, w0 = w.alloc (.cells #[.int .i64 k, .int .i64 r, .int .i64 c, .int .i64 q] 23) := ⟨_, rfl⟩
  have b0 : Below w.heap.size w w0 := by rw [hw0]; exact below_alloc _ _
  rcases h with ⟨p0, p1, p2, rfl⟩ | ⟨p0, p1, p2, rfl⟩
  · obtain ⟨g1, g2, g3, _, hkc⟩ := hp.good p0
    have HMM := fun w => M_good k r c q w W g1 g2 g3
    have gm := mst_le W
    rw [p0] at HM
    clear hp p0 p1 p2 g1 hkc
    generalize mst W = z at *
    rcases he with ⟨h, _⟩ | ⟨_, h1, rfl⟩ | ⟨_, h0, h1, rfl⟩ | ⟨_, h1, h2, h3, rfl⟩
    · cases h
    all_goals try (
      go_enter Try.func30, Try.ntmps30
      go_wp2_with fail
      rw [← hw0]
      refine (HM _).mono ?_
      rintro e wa ⟨rfl, ha⟩
      clear hw0
      go_wp2_with fail
      go_ret2
      exact ⟨rfl, below_then b0 ha⟩
      done)
    by_cases ho : (z : Int) < off
    · skip
      go_enter Try.func30, Try.ntmps30
      go_wp2_with fail
      rw [← hw0]
      refine (HM _).mono ?_
      rintro e wa ⟨rfl, ha⟩
      obtain ⟨s0, s1, s2, s3⟩ := par_held hw0 ha
      go_wp2_with fail
      refine (HMM _).mono ?_
      rintro e x0 ⟨rfl, y0⟩
      have z0 := below_then ha y0
      clear s0 s1 s2 s3
      clear hw0
      go_wp2_with fail
      go_ret2
      exact ⟨rfl, below_then b0 z0⟩
    · by_cases hm : (z : Int) < m
      · skip
        go_enter Try.func30, Try.ntmps30
        go_wp2_with fail
        rw [← hw0]
        refine (HM _).mono ?_
        rintro e wa ⟨rfl, ha⟩
        obtain ⟨s0, s1, s2, s3⟩ := par_held hw0 ha
        go_wp2_with fail
        refine (HMM _).mono ?_
        rintro e x0 ⟨rfl, y0⟩
        have z0 := below_then ha y0
        clear s0 s1 s2 s3
        obtain ⟨s0, s1, s2, s3⟩ := par_held hw0 z0
        go_wp2_with fail
        refine (HMM _).mono ?_
        rintro e x1 ⟨rfl, y1⟩
        have z1 := below_then z0 y1
        clear s0 s1 s2 s3
        clear hw0
        go_wp2_with fail
        go_ret2
        exact ⟨rfl, below_then b0 z1⟩
      · skip
        go_enter Try.func30, Try.ntmps30
        go_wp2_with fail
        rw [← hw0]
        refine (HM _).mono ?_
        rintro e wa ⟨rfl, ha⟩
        obtain ⟨s0, s1, s2, s3⟩ := par_held hw0 ha
        go_wp2_with fail
        refine (HMM _).mono ?_
        rintro e x0 ⟨rfl, y0⟩
        have z0 := below_then ha y0
        clear s0 s1 s2 s3
        obtain ⟨s0, s1, s2, s3⟩ := par_held hw0 z0
        go_wp2_with fail
        refine (HMM _).mono ?_
        rintro e x1 ⟨rfl, y1⟩
        have z1 := below_then z0 y1
        clear s0 s1 s2 s3
        obtain ⟨s0, s1, s2, s3⟩ := par_held hw0 z1
        go_wp2_with fail
        refine (HMM _).mono ?_
        rintro e x2 ⟨rfl, y2⟩
        have z2 := below_then z1 y2
        clear s0 s1 s2 s3
        clear hw0
        go_wp2_with fail
        go_ret2
        exact ⟨rfl, below_then b0 z2⟩
  · have he2 : e = 2 := by
      rcases he with ⟨_, h⟩ | ⟨h, _⟩ | ⟨h, _⟩ | ⟨h, _⟩
      · exact h
      all_goals cases h
    subst he2
    rw [p0] at HM
    clear hp he p0 p1 p2
    go_enter Try.func30, Try.ntmps30
    go_wp2_with fail
    rw [← hw0]
    refine (HM _).mono ?_
    rintro e wa ⟨rfl, ha⟩
    clear hw0
    go_wp2_with fail
    go_ret2
    exact ⟨rfl, below_then b0 ha⟩
end Go.Proofs.Ytenifakhojdfpaa
