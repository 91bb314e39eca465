/- LayoutNumbers: the program's numbers beside the document's. -/
import Derived.Test.YtenifakhojdfpaaLayC
namespace Go.Proofs.Ytenifakhojdfpaa
open Go.RowKit

theorem par_awake : Par 4 2 16 32 6 64 0 := .inl ⟨by decide, by decide, by decide, rfl⟩
set_option maxHeartbeats 400000 in
set_option maxRecDepth 100000 in
theorem awake_any (w : World) : Calls Try.prog 8 #[] w fun e w' => e = .returned (.bool true) ∧ Below w.heap.size w w' := by
  have HW := fun w => Width_any par_awake w
  go_enter Try.func8, Try.ntmps8
  go_wp2_with fail
  refine (HW _).mono ?_
  rintro e wa ⟨rfl, ha⟩
  go_wp2_with fail
  go_ret
  exact ⟨rfl, ha⟩
set_option maxHeartbeats 2000000 in
set_option maxRecDepth 100000 in
theorem numbers_walk (k r c q : Int) (w : World) :
    Calls Try.prog 3 #[.agg #[.int .i64 k, .int .i64 r, .int .i64 c, .int .i64 q]] w fun e w' => e = .returned (.bool true) ∧ Below w.heap.size w w' := by
  obtain ⟨N, W, x, h⟩ := par_any k r c q
  have C0 := fun w => Drives_any h w
  have C1 := fun w => RDrives_any h w
  have C2 := fun w => Width_any h w
  have C3 := fun w => RWidth_any h w
  have C4 := fun w => Direct_any h w
  have C5 := fun w => RDirect_any h w
  have C6 := fun w => Leaf_any h w
  have C7 := fun w => RLeaf_any h w
  have C8 := fun w => Most_any h w
  have C9 := fun w => RMost_any h w
  have CA := fun w => Check_any k r c q w
  have CB := fun w => RCheck_any k r c q w
  generalize erP k r c q = y at CA CB
  clear h
  generalize dir W = d at *
  generalize lea W = l at *
  generalize mst W = m at *
  obtain ⟨w0, hw0⟩ : ∃ w0, w0 = w.alloc (.cells #[.int .i64 k, .int .i64 r, .int .i64 c, .int .i64 q] 23) := ⟨_, rfl⟩
  have b0 : Below w.heap.size w w0 := by rw [hw0]; exact below_alloc _ _
  go_enter Try.func3, Try.ntmps3
  go_wp2_with fail
  rw [← hw0]
  refine (awake_any _).mono ?_
  rintro e wp ⟨rfl, hp⟩
  obtain ⟨s0, s1, s2, s3⟩ := par_held hw0 hp
  go_wp2_with fail
  refine (C0 _).mono ?_
  rintro e v0 ⟨rfl, g0⟩
  have k0 := below_then hp g0
  clear C0 g0 hp s0 s1 s2 s3
  obtain ⟨s0, s1, s2, s3⟩ := par_held hw0 k0
  go_wp2_with fail
  refine (C1 _).mono ?_
  rintro e v1 ⟨rfl, g1⟩
  have k1 := below_then k0 g1
  clear C1 g1 k0 s0 s1 s2 s3
  obtain ⟨s0, s1, s2, s3⟩ := par_held hw0 k1
  go_wp2_with fail
  refine (C2 _).mono ?_
  rintro e v2 ⟨rfl, g2⟩
  have k2 := below_then k1 g2
  clear C2 g2 k1 s0 s1 s2 s3
  obtain ⟨s0, s1, s2, s3⟩ := par_held hw0 k2
  go_wp2_with fail
  refine (C3 _).mono ?_
  rintro e v3 ⟨rfl, g3⟩
  have k3 := below_then k2 g3
  clear C3 g3 k2 s0 s1 s2 s3
  obtain ⟨s0, s1, s2, s3⟩ := par_held hw0 k3
  go_wp2_with fail
  refine (C4 _).mono ?_
  rintro e v4 ⟨rfl, g4⟩
  have k4 := below_then k3 g4
  clear C4 g4 k3 s0 s1 s2 s3
  obtain ⟨s0, s1, s2, s3⟩ := par_held hw0 k4
  go_wp2_with fail
  refine (C5 _).mono ?_
  rintro e v5 ⟨rfl, g5⟩
  have k5 := below_then k4 g5
  clear C5 g5 k4 s0 s1 s2 s3
  obtain ⟨s0, s1, s2, s3⟩ := par_held hw0 k5
  go_wp2_with fail
  refine (C6 _).mono ?_
  rintro e v6 ⟨rfl, g6⟩
  have k6 := below_then k5 g6
  clear C6 g6 k5 s0 s1 s2 s3
  obtain ⟨s0, s1, s2, s3⟩ := par_held hw0 k6
  go_wp2_with fail
  refine (C7 _).mono ?_
  rintro e v7 ⟨rfl, g7⟩
  have k7 := below_then k6 g7
  clear C7 g7 k6 s0 s1 s2 s3
  obtain ⟨s0, s1, s2, s3⟩ := par_held hw0 k7
  go_wp2_with fail
  refine (C8 _).mono ?_
  rintro e v8 ⟨rfl, g8⟩
  have k8 := below_then k7 g8
  clear C8 g8 k7 s0 s1 s2 s3
  obtain ⟨s0, s1, s2, s3⟩ := par_held hw0 k8
  go_wp2_with fail
  refine (C9 _).mono ?_
  rintro e v9 ⟨rfl, g9⟩
  have k9 := below_then k8 g9
  clear C9 g9 k8 s0 s1 s2 s3
  obtain ⟨s0, s1, s2, s3⟩ := par_held hw0 k9
  go_wp2_with fail
  clear hw0
  go_region_held3 (fun w' => w'.cell? ⟨w.heap.size, 0, none⟩ = some (.int .i64 k) ∧ w'.cell? ⟨w.heap.size, 1, none⟩ = some (.int .i64 r) ∧ w'.cell? ⟨w.heap.size, 2, none⟩ = some (.int .i64 c) ∧ w'.cell? ⟨w.heap.size, 3, none⟩ = some (.int .i64 q)) (go_keep)
    ((first
      | (go_at_call 19; refine (CA _).mono ?_; rintro e wa ⟨rfl, ha⟩; have t0 := held (w := v9.drew) s0 ha; have t1 := held (w := v9.drew) s1 ha; have t2 := held (w := v9.drew) s2 ha; have t3 := held (w := v9.drew) s3 ha)
      | (go_at_call 20; refine (CB _).mono ?_; rintro e wb ⟨rfl, hb⟩; have u0 := held t0 hb; have u1 := held t1 hb; have u2 := held t2 hb; have u3 := held t3 hb)))
  all_goals (
    go_wp2
    go_ret
    exact ⟨rfl, below_then (below_then (below_then (below_then b0 k9) (below_drew _ _)) ha) hb⟩)
end Go.Proofs.Ytenifakhojdfpaa
