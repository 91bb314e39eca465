/- LayoutObject: what an object is made of, by the program beside the document. -/
import Derived.Test.YtenifakhojdfpaaLayF
namespace Go.Proofs.Ytenifakhojdfpaa
open Go.RowKit

set_option maxHeartbeats 2000000 in
set_option maxRecDepth 100000 in
theorem object_walk (k r c q len : Int) (_hl : (Lit.int .i64 len).wf = true) (w : World) :
    Calls Try.prog 4 #[.agg #[.int .i64 k, .int .i64 r, .int .i64 c, .int .i64 q], .int .i64 len] w fun e w' => e = .returned (.bool true) ∧ Below w.heap.size w w' := by
  obtain ⟨N, W, y, h⟩ := par_any k r c q
  obtain ⟨s, d, x, n, e, h'⟩ := made_any k r c q len W
  have C0 := fun w => Stripes_any h h' w
  have C1 := fun w => RStripes_any h h' w
  have C2 := fun w => Depth_any h h' w
  have C3 := fun w => RDepth_any h h' w
  have C4 := fun w => Leaves_any h h' w
  have C5 := fun w => RLeaves_any h h' w
  have C6 := fun w => Rows_any h h' w
  have C7 := fun w => RRows_any h h' w
  clear h h'
  obtain ⟨w0, hw0⟩ : ∃ w0, w0 = w.alloc (.cells #[.int .i64 k, .int .i64 r, .int .i64 c, .int .i64 q] 23) := ⟨_, rfl⟩
  have b0 : Below w.heap.size w w0 := by rw [hw0]; exact below_alloc _ _
  go_enter Try.func4, Try.ntmps4
  go_wp2_with fail
  rw [← hw0]
  refine (awake_any _).mono ?_
  rintro e wp ⟨rfl, hp⟩
  obtain ⟨s0, s1, s2, s3⟩ := par_held hw0 hp
  go_wp2_with fail
  refine (C0 _).mono ?_
  rintro e v0 ⟨rfl, g0⟩
  have k0 := below_then hp g0
  clear C0 g0 hp s0 s1 s2 s3
  obtain ⟨s0, s1, s2, s3⟩ := par_held hw0 k0
  go_wp2_with fail
  refine (C1 _).mono ?_
  rintro e v1 ⟨rfl, g1⟩
  have k1 := below_then k0 g1
  clear C1 g1 k0 s0 s1 s2 s3
  obtain ⟨s0, s1, s2, s3⟩ := par_held hw0 k1
  go_wp2_with fail
  refine (C2 _).mono ?_
  rintro e v2 ⟨rfl, g2⟩
  have k2 := below_then k1 g2
  clear C2 g2 k1 s0 s1 s2 s3
  obtain ⟨s0, s1, s2, s3⟩ := par_held hw0 k2
  go_wp2_with fail
  refine (C3 _).mono ?_
  rintro e v3 ⟨rfl, g3⟩
  have k3 := below_then k2 g3
  clear C3 g3 k2 s0 s1 s2 s3
  obtain ⟨s0, s1, s2, s3⟩ := par_held hw0 k3
  go_wp2_with fail
  refine (C4 _).mono ?_
  rintro e v4 ⟨rfl, g4⟩
  have k4 := below_then k3 g4
  clear C4 g4 k3 s0 s1 s2 s3
  obtain ⟨s0, s1, s2, s3⟩ := par_held hw0 k4
  go_wp2_with fail
  refine (C5 _).mono ?_
  rintro e v5 ⟨rfl, g5⟩
  have k5 := below_then k4 g5
  clear C5 g5 k4 s0 s1 s2 s3
  obtain ⟨s0, s1, s2, s3⟩ := par_held hw0 k5
  go_wp2_with fail
  refine (C6 _).mono ?_
  rintro e v6 ⟨rfl, g6⟩
  have k6 := below_then k5 g6
  clear C6 g6 k5 s0 s1 s2 s3
  obtain ⟨s0, s1, s2, s3⟩ := par_held hw0 k6
  go_wp2_with fail
  refine (C7 _).mono ?_
  rintro e v7 ⟨rfl, g7⟩
  have k7 := below_then k6 g7
  clear C7 g7 k6 s0 s1 s2 s3
  obtain ⟨s0, s1, s2, s3⟩ := par_held hw0 k7
  clear hw0
  go_wp2_with fail
  go_ret
  exact ⟨rfl, below_then b0 k7⟩
end Go.Proofs.Ytenifakhojdfpaa
