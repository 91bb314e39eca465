/- VectorNames: versions at their ends, and what is refused, in its order. -/
import Derived.Test.YtkoblkkigmnocaaVecJ
namespace Go.Proofs.Ytkoblkkigmnocaa
open Go.RowKit

theorem gotE {k : Nat} {xs : Array Value} {w : World} {E : Int} {n n' : Nat} {F : Nat → Int} (h : Calls Try.prog k xs w (Ans w E n F)) (hn : lenE E n = n') : Calls Try.prog k xs w fun e w' => ∃ ao cap, e = .returned (.tuple #[.slice ao n' cap, .int .i64 E]) ∧ Below w.heap.size w w' := by
  subst hn
  exact h.mono fun e w' ⟨ao, cap, h1, _, h3⟩ => ⟨ao, cap, h1, h3⟩
theorem toldBE {k : Nat} {xs : Array Value} {w : World} {E : Int} {b b' : Bool} (h : Calls Try.prog k xs w (TellB w E b)) (hv : (decide (E = 0) && b) = b') : Calls Try.prog k xs w fun e w' => e = .returned (.tuple #[.bool b', .int .i64 E]) ∧ Below w.heap.size w w' := by
  subst hv
  exact h.mono fun e w' ⟨h1, h2⟩ => ⟨h1, h2⟩
theorem par_b : Par 0 0 0 0 0 0 2 := .inr ⟨by decide, rfl, rfl, rfl⟩
set_option maxHeartbeats 4000000 in
set_option maxRecDepth 100000 in
theorem names_walk (w : World) : Calls Try.prog 3 #[] w fun e w' => e = .returned (.bool true) ∧ Below w.heap.size w w' := by
  go_enter Try.func3, Try.ntmps3
  go_wp2_with fail
  refine (alive_any _).mono ?_
  rintro e wy ⟨rfl, hy⟩
  go_wp2_with fail
  refine (sample_any _).mono ?_
  rintro e wa ⟨rfl, ha⟩
  obtain ⟨w0, hw0⟩ : ∃ w0, w0 = wa.alloc (.cells #[.int .i64 2, .int .i64 1, .int .i64 16, .int .i64 8] 24) := ⟨_, rfl⟩
  obtain ⟨w1, hw1⟩ : ∃ w1, w1 = w0.alloc (.cells #[.int .i64 0, .int .i64 0, .int .i64 0, .int .i64 0] 24) := ⟨_, rfl⟩
  have z0 : w0.heap.size = wa.heap.size + 1 := by rw [hw0]; simp
  have b01 : Below w0.heap.size w0 w1 := by rw [hw1]; exact below_alloc _ _
  have b0 : Below w.heap.size w w1 := by rw [hw1, hw0]; exact below_then hy (below_then (below_then ha (below_alloc _ _)) (below_alloc _ _))
  have KK : Hid (Below w1.heap.size w1 w1) := Below.refl _ _
  obtain ⟨s0, s1, s2, s3⟩ := par_held hw0 (below_then b01 KK.out)
  obtain ⟨t0, t1, t2, t3⟩ := par_held hw1 KK.out
  rw [z0] at t0 t1 t2 t3
  go_wp2_with fail
  rw [← hw0, ← hw1]
  refine (got (All_any par_s 1073741824 _ 0 (by decide +kernel)) rfl).mono ?_
  rintro e v0 ⟨ao0, cap0, rfl, _, gg⟩
  have G : Below w1.heap.size w1 v0 := gg
  have KK2 := below_then KK.out G
  clear KK s0 s1 s2 s3 t0 t1 t2 t3
  have KK : Hid (Below w1.heap.size w1 v0) := KK2
  clear KK2
  obtain ⟨s0, s1, s2, s3⟩ := par_held hw0 (below_then b01 KK.out)
  obtain ⟨t0, t1, t2, t3⟩ := par_held hw1 KK.out
  rw [z0] at t0 t1 t2 t3
  clear G gg
  go_wp2_with fail
  refine (gotE (All_any par_s 1073741825 _ 70 (by decide +kernel)) rfl).mono ?_
  rintro e v1 ⟨ao1, cap1, rfl, gg⟩
  have G : Below v0.heap.size v0 v1 := gg
  have KK2 := below_then KK.out G
  clear KK s0 s1 s2 s3 t0 t1 t2 t3
  have KK : Hid (Below w1.heap.size w1 v1) := KK2
  clear KK2
  obtain ⟨s0, s1, s2, s3⟩ := par_held hw0 (below_then b01 KK.out)
  obtain ⟨t0, t1, t2, t3⟩ := par_held hw1 KK.out
  rw [z0] at t0 t1 t2 t3
  clear G gg
  go_wp2_with fail
  refine (gotE (All_any par_s 0 _ 70 (by decide +kernel)) rfl).mono ?_
  rintro e v2 ⟨ao2, cap2, rfl, gg⟩
  have G : Below v1.heap.size v1 v2 := gg
  have KK2 := below_then KK.out G
  clear KK s0 s1 s2 s3 t0 t1 t2 t3
  have KK : Hid (Below w1.heap.size w1 v2) := KK2
  clear KK2
  obtain ⟨s0, s1, s2, s3⟩ := par_held hw0 (below_then b01 KK.out)
  obtain ⟨t0, t1, t2, t3⟩ := par_held hw1 KK.out
  rw [z0] at t0 t1 t2 t3
  clear G gg
  go_wp2_with fail
  refine (gotE (All_any par_b 0 _ 2 (by decide +kernel)) rfl).mono ?_
  rintro e v3 ⟨ao3, cap3, rfl, gg⟩
  have G : Below v2.heap.size v2 v3 := gg
  have KK2 := below_then KK.out G
  clear KK s0 s1 s2 s3 t0 t1 t2 t3
  have KK : Hid (Below w1.heap.size w1 v3) := KK2
  clear KK2
  obtain ⟨s0, s1, s2, s3⟩ := par_held hw0 (below_then b01 KK.out)
  obtain ⟨t0, t1, t2, t3⟩ := par_held hw1 KK.out
  rw [z0] at t0 t1 t2 t3
  clear G gg
  go_wp2_with fail
  refine (toldI (Last_any par_s _ _ 3 3 (L [1, 1073741824, 2]) ?_ (by decide) 0 (by decide +kernel)) (show _ = (1073741824 : Int) by decide +kernel)).mono ?_
  · exact vec_at rfl [1, 1073741824, 2]
  rintro e v4 ⟨rfl, gg⟩
  have G : Below v3.heap.size v3 v4 := below_then (below_alloc _ _) (gg)
  have KK2 := below_then KK.out G
  clear KK s0 s1 s2 s3 t0 t1 t2 t3
  have KK : Hid (Below w1.heap.size w1 v4) := KK2
  clear KK2
  obtain ⟨s0, s1, s2, s3⟩ := par_held hw0 (below_then b01 KK.out)
  obtain ⟨t0, t1, t2, t3⟩ := par_held hw1 KK.out
  rw [z0] at t0 t1 t2 t3
  clear G gg
  go_wp2_with fail
  refine (gotE (Bump_any par_s _ none _ 0 0 4 4 (L []) (L [9, 9, 9, 9]) 0 ?_ ?_ (by decide) (by decide) 70 (by decide +kernel)) rfl).mono ?_
  · exact vec_nil _ _
  · exact vec_at rfl [9, 9, 9, 9]
  rintro e v5 ⟨ao4, cap4, rfl, gg⟩
  have G : Below v4.heap.size v4 v5 := below_then (below_alloc _ _) (gg)
  have KK2 := below_then KK.out G
  clear KK s0 s1 s2 s3 t0 t1 t2 t3
  have KK : Hid (Below w1.heap.size w1 v5) := KK2
  clear KK2
  obtain ⟨s0, s1, s2, s3⟩ := par_held hw0 (below_then b01 KK.out)
  obtain ⟨t0, t1, t2, t3⟩ := par_held hw1 KK.out
  rw [z0] at t0 t1 t2 t3
  clear G gg
  go_wp2_with fail
  refine (gotE (Bump_any par_s _ _ _ 3 3 4 4 (L [1, 1, 1]) (L [9, 9, 9, 9]) 0 ?_ ?_ (by decide) (by decide) 20 (by decide +kernel)) rfl).mono ?_
  · exact (vec_at rfl [1, 1, 1]).below (below_alloc _ _)
  · exact vec_at (by simp) [9, 9, 9, 9]
  rintro e v6 ⟨ao5, cap5, rfl, gg⟩
  have G : Below v5.heap.size v5 v6 := below_then (below_alloc _ _) (below_then (below_alloc _ _) (gg))
  have KK2 := below_then KK.out G
  clear KK s0 s1 s2 s3 t0 t1 t2 t3
  have KK : Hid (Below w1.heap.size w1 v6) := KK2
  clear KK2
  obtain ⟨s0, s1, s2, s3⟩ := par_held hw0 (below_then b01 KK.out)
  obtain ⟨t0, t1, t2, t3⟩ := par_held hw1 KK.out
  rw [z0] at t0 t1 t2 t3
  clear G gg
  go_wp2_with fail
  refine (gotE (Bump_any par_s _ _ _ 3 3 1 1 (L [1, 1, 1]) (L [9]) 0 ?_ ?_ (by decide) (by decide) 2 (by decide +kernel)) rfl).mono ?_
  · exact (vec_at rfl [1, 1, 1]).below (below_alloc _ _)
  · exact vec_at (by simp) [9]
  rintro e v7 ⟨ao6, cap6, rfl, gg⟩
  have G : Below v6.heap.size v6 v7 := below_then (below_alloc _ _) (below_then (below_alloc _ _) (gg))
  have KK2 := below_then KK.out G
  clear KK s0 s1 s2 s3 t0 t1 t2 t3
  have KK : Hid (Below w1.heap.size w1 v7) := KK2
  clear KK2
  obtain ⟨s0, s1, s2, s3⟩ := par_held hw0 (below_then b01 KK.out)
  obtain ⟨t0, t1, t2, t3⟩ := par_held hw1 KK.out
  rw [z0] at t0 t1 t2 t3
  clear G gg
  go_wp2_with fail
  refine (gotE (Bump_any par_s _ _ none 3 3 0 0 (L [1, 1, 1]) (L []) 0 ?_ ?_ (by decide) (by decide) 70 (by decide +kernel)) rfl).mono ?_
  · exact vec_at rfl [1, 1, 1]
  · exact vec_nil _ _
  rintro e v8 ⟨ao7, cap7, rfl, gg⟩
  have G : Below v7.heap.size v7 v8 := below_then (below_alloc _ _) (gg)
  have KK2 := below_then KK.out G
  clear KK s0 s1 s2 s3 t0 t1 t2 t3
  have KK : Hid (Below w1.heap.size w1 v8) := KK2
  clear KK2
  obtain ⟨s0, s1, s2, s3⟩ := par_held hw0 (below_then b01 KK.out)
  obtain ⟨t0, t1, t2, t3⟩ := par_held hw1 KK.out
  rw [z0] at t0 t1 t2 t3
  clear G gg
  go_wp2_with fail
  refine (gotE (Join_any par_s _ none none 0 0 0 0 (L []) (L []) ?_ ?_ (by decide) (by decide) 70 (by decide +kernel)) rfl).mono ?_
  · exact vec_nil _ _
  · exact vec_nil _ _
  rintro e v9 ⟨ao8, cap8, rfl, gg⟩
  have G : Below v8.heap.size v8 v9 := gg
  have KK2 := below_then KK.out G
  clear KK s0 s1 s2 s3 t0 t1 t2 t3
  have KK : Hid (Below w1.heap.size w1 v9) := KK2
  clear KK2
  obtain ⟨s0, s1, s2, s3⟩ := par_held hw0 (below_then b01 KK.out)
  obtain ⟨t0, t1, t2, t3⟩ := par_held hw1 KK.out
  rw [z0] at t0 t1 t2 t3
  clear G gg
  go_wp2_with fail
  refine (toldBE (Below_any par_b _ none none 0 0 0 0 (L []) (L []) ?_ ?_ (by decide) (by decide) 2 (by decide +kernel)) (show _ = false by decide +kernel)).mono ?_
  · exact vec_nil _ _
  · exact vec_nil _ _
  rintro e v10 ⟨rfl, gg⟩
  have G : Below v9.heap.size v9 v10 := gg
  have KK2 := below_then KK.out G
  clear KK s0 s1 s2 s3 t0 t1 t2 t3
  have KK : Hid (Below w1.heap.size w1 v10) := KK2
  clear KK2
  obtain ⟨s0, s1, s2, s3⟩ := par_held hw0 (below_then b01 KK.out)
  obtain ⟨t0, t1, t2, t3⟩ := par_held hw1 KK.out
  rw [z0] at t0 t1 t2 t3
  clear G gg
  go_wp2_with fail
  refine (gotE (Unlike_any par_s _ _ _ 3 3 4 4 (L [1, 1, 1]) (L [1, 1, 1, 1]) ?_ ?_ (by decide) (by decide) 70 (by decide +kernel)) rfl).mono ?_
  · exact (vec_at rfl [1, 1, 1]).below (below_alloc _ _)
  · exact vec_at (by simp) [1, 1, 1, 1]
  rintro e v11 ⟨ao9, cap9, rfl, gg⟩
  have G : Below v10.heap.size v10 v11 := below_then (below_alloc _ _) (below_then (below_alloc _ _) (gg))
  have KK2 := below_then KK.out G
  clear KK s0 s1 s2 s3 t0 t1 t2 t3
  have KK : Hid (Below w1.heap.size w1 v11) := KK2
  clear KK2
  obtain ⟨s0, s1, s2, s3⟩ := par_held hw0 (below_then b01 KK.out)
  obtain ⟨t0, t1, t2, t3⟩ := par_held hw1 KK.out
  rw [z0] at t0 t1 t2 t3
  clear G gg
  go_wp2_with fail
  go_ret
  exact ⟨rfl, below_then b0 KK.out⟩
end Go.Proofs.Ytkoblkkigmnocaa
