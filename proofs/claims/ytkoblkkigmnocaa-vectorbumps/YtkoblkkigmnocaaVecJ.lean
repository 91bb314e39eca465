/- alive: some answers that the document fixes. -/
import Derived.Test.YtkoblkkigmnocaaVecI
namespace Go.Proofs.Ytkoblkkigmnocaa
open Go.RowKit

/-- Numbers that are typed out. -/
def L (zs : List Int) (i : Nat) : Int := zs.getD i 0
theorem vec_at {w : World} {g : Nat} (hg : w.heap.size = g) (zs : List Int) : Vec (w.alloc (.cells (zs.map fun z => Value.int .i64 z).toArray 3)) (some ⟨g, 0, none⟩) zs.length zs.length (L zs) := by
  subst hg
  refine ⟨fun _ => ⟨_, 0, rfl, fun i hi => ?_⟩, (fun e => by cases e), Nat.le_refl _⟩
  rw [cell_of_row _ _ _ _ _ _ (heap_alloc_new w _)]
  simp [L, hi]
/-- A list of its own, and no error. -/
def Got (w : World) (n : Nat) (F : Nat → Int) (e : Ending) (w' : World) : Prop := ∃ ao cap, e = .returned (.tuple #[.slice ao n cap, .int .i64 0]) ∧ Own w.heap.size w' ao n cap F ∧ Below w.heap.size w w'
theorem got {k : Nat} {xs : Array Value} {w : World} {n n' : Nat} {F : Nat → Int} (h : Calls Try.prog k xs w (Ans w 0 n F)) (hn : n = n') : Calls Try.prog k xs w (Got w n' F) := by
  subst hn
  refine h.mono fun e w' ⟨ao, cap, h1, h2⟩ => ?_
  rw [lenE_zero] at h1 h2
  exact ⟨ao, cap, h1, h2⟩
theorem toldI {k : Nat} {xs : Array Value} {w : World} {v v' : Int} (h : Calls Try.prog k xs w (TellI w 0 v)) (hv : v = v') : Calls Try.prog k xs w fun e w' => e = .returned (.tuple #[.int .i64 v', .int .i64 0]) ∧ Below w.heap.size w w' := by
  subst hv
  exact h.mono fun e w' ⟨h1, h2⟩ => ⟨h1, h2⟩
theorem toldB {k : Nat} {xs : Array Value} {w : World} {b b' : Bool} (h : Calls Try.prog k xs w (TellB w 0 b)) (hv : b = b') : Calls Try.prog k xs w fun e w' => e = .returned (.tuple #[.bool b', .int .i64 0]) ∧ Below w.heap.size w w' := by
  subst hv
  exact h.mono fun e w' ⟨h1, h2⟩ => ⟨h1, h2⟩
theorem isB {k : Nat} {xs : Array Value} {w : World} {b b' : Bool} {P : World → Prop} (h : Calls Try.prog k xs w fun e w' => e = .returned (.bool b) ∧ P w') (hv : b = b') : Calls Try.prog k xs w fun e w' => e = .returned (.bool b') ∧ P w' := by
  subst hv; exact h
theorem isI {k : Nat} {xs : Array Value} {w : World} {b b' : Int} {P : World → Prop} (h : Calls Try.prog k xs w fun e w' => e = .returned (.int .i64 b) ∧ P w') (hv : b = b') : Calls Try.prog k xs w fun e w' => e = .returned (.int .i64 b') ∧ P w' := by
  subst hv; exact h
theorem below_q {w w' : World} (h : ∃ q, w' = w.drewN q) : Below w.heap.size w w' := by obtain ⟨q, rfl⟩ := h; exact below_drewN _ _ _
theorem par_s : Par 2 1 16 8 3 32 0 := .inl ⟨by decide, by decide, by decide, rfl⟩
set_option maxHeartbeats 400000 in
set_option maxRecDepth 100000 in
theorem sample_any (w : World) : Calls Try.prog 9 #[] w fun e w' => e = .returned (.agg #[.int .i64 2, .int .i64 1, .int .i64 16, .int .i64 8]) ∧ Below w.heap.size w w' := by
  go_enter Try.func9, Try.ntmps9
  go_wp2
  refine bodyPost_ret (v := .agg #[.int .i64 2, .int .i64 1, .int .i64 16, .int .i64 8]) (by simp [results, Try.results9, go_sem]) rfl ⟨rfl, ?_⟩
  exact below_alloc _ _
set_option maxHeartbeats 4000000 in
set_option maxRecDepth 100000 in
theorem alive_any (w : World) : Calls Try.prog 8 #[] w fun e w' => e = .returned (.bool true) ∧ Below w.heap.size w w' := by
  go_enter Try.func8, Try.ntmps8
  go_wp2_with fail
  refine (sample_any _).mono ?_
  rintro e wa ⟨rfl, ha⟩
  obtain ⟨w0, hw0⟩ : ∃ w0, w0 = wa.alloc (.cells #[.int .i64 2, .int .i64 1, .int .i64 16, .int .i64 8] 24) := ⟨_, rfl⟩
  have b0 : Below w.heap.size w w0 := by rw [hw0]; exact below_then ha (below_alloc _ _)
  have KK : Hid (Below w0.heap.size w0 w0) := Below.refl _ _
  obtain ⟨s0, s1, s2, s3⟩ := par_held hw0 KK.out
  go_wp2_with fail
  rw [← hw0]
  refine (got (All_any par_s 7 _ 0 (by decide +kernel)) rfl).mono ?_
  rintro e v0 ⟨ao0, cap0, rfl, ho, gg⟩
  have G : Below w0.heap.size w0 v0 := gg
  have KK2 := below_then KK.out G
  clear KK s0 s1 s2 s3
  have KK : Hid (Below w0.heap.size w0 v0) := KK2
  clear KK2
  obtain ⟨s0, s1, s2, s3⟩ := par_held hw0 KK.out
  clear G gg
  have A0 : Hid (Vec v0 ao0 3 cap0 (fun _ => 7)) := ho.vec
  clear ho
  go_wp2_with fail
  refine (toldI (Last_any par_s _ _ 3 3 (L [1, 5, 3]) ?_ (by decide) 0 (by decide +kernel)) (show _ = (5 : Int) by decide +kernel)).mono ?_
  · exact vec_at rfl [1, 5, 3]
  rintro e v1 ⟨rfl, gg⟩
  have G : Below v0.heap.size v0 v1 := below_then (below_alloc _ _) (gg)
  replace A0 : Hid (Vec v1 ao0 3 cap0 (fun _ => 7)) := A0.out.below G
  have KK2 := below_then KK.out G
  clear KK s0 s1 s2 s3
  have KK : Hid (Below w0.heap.size w0 v1) := KK2
  clear KK2
  obtain ⟨s0, s1, s2, s3⟩ := par_held hw0 KK.out
  clear G gg
  go_wp2_with fail
  refine (got (Bump_any par_s _ _ _ 3 3 2 2 (L [1, 1, 1]) (L [0, 2]) 4 ?_ ?_ (by decide) (by decide) 0 (by decide +kernel)) rfl).mono ?_
  · exact (vec_at rfl [1, 1, 1]).below (below_alloc _ _)
  · exact vec_at (by simp) [0, 2]
  rintro e v2 ⟨ao1, cap1, rfl, ho, gg⟩
  have G : Below v1.heap.size v1 v2 := below_then (below_alloc _ _) (below_then (below_alloc _ _) (gg))
  replace A0 : Hid (Vec v2 ao0 3 cap0 (fun _ => 7)) := A0.out.below G
  have KK2 := below_then KK.out G
  clear KK s0 s1 s2 s3
  have KK : Hid (Below w0.heap.size w0 v2) := KK2
  clear KK2
  obtain ⟨s0, s1, s2, s3⟩ := par_held hw0 KK.out
  clear G gg
  have A1 : Hid (Vec v2 ao1 3 cap1 (bmp (L [0, 2]) 4 (L [1, 1, 1]) 2)) := ho.vec
  clear ho
  go_wp2_with fail
  refine (got (Join_any par_s _ _ _ 3 3 3 3 (L [1, 5, 3]) (L [2, 4, 3]) ?_ ?_ (by decide) (by decide) 0 (by decide +kernel)) rfl).mono ?_
  · exact (vec_at rfl [1, 5, 3]).below (below_alloc _ _)
  · exact vec_at (by simp) [2, 4, 3]
  rintro e v3 ⟨ao2, cap2, rfl, ho, gg⟩
  have G : Below v2.heap.size v2 v3 := below_then (below_alloc _ _) (below_then (below_alloc _ _) (gg))
  replace A0 : Hid (Vec v3 ao0 3 cap0 (fun _ => 7)) := A0.out.below G
  replace A1 : Hid (Vec v3 ao1 3 cap1 (bmp (L [0, 2]) 4 (L [1, 1, 1]) 2)) := A1.out.below G
  have KK2 := below_then KK.out G
  clear KK s0 s1 s2 s3
  have KK : Hid (Below w0.heap.size w0 v3) := KK2
  clear KK2
  obtain ⟨s0, s1, s2, s3⟩ := par_held hw0 KK.out
  clear G gg
  have A2 : Hid (Vec v3 ao2 3 cap2 (joi (L [1, 5, 3]) (L [2, 4, 3]))) := ho.vec
  clear ho
  go_wp2_with fail
  refine (got (Unlike_any par_s _ _ _ 3 3 3 3 (L [1, 5, 3]) (L [2, 4, 3]) ?_ ?_ (by decide) (by decide) 0 (by decide +kernel)) (show _ = 2 by decide +kernel)).mono ?_
  · exact (vec_at rfl [1, 5, 3]).below (below_alloc _ _)
  · exact vec_at (by simp) [2, 4, 3]
  rintro e v4 ⟨ao3, cap3, rfl, ho, gg⟩
  have G : Below v3.heap.size v3 v4 := below_then (below_alloc _ _) (below_then (below_alloc _ _) (gg))
  replace A0 : Hid (Vec v4 ao0 3 cap0 (fun _ => 7)) := A0.out.below G
  replace A1 : Hid (Vec v4 ao1 3 cap1 (bmp (L [0, 2]) 4 (L [1, 1, 1]) 2)) := A1.out.below G
  replace A2 : Hid (Vec v4 ao2 3 cap2 (joi (L [1, 5, 3]) (L [2, 4, 3]))) := A2.out.below G
  have KK2 := below_then KK.out G
  clear KK s0 s1 s2 s3
  have KK : Hid (Below w0.heap.size w0 v4) := KK2
  clear KK2
  obtain ⟨s0, s1, s2, s3⟩ := par_held hw0 KK.out
  clear G gg
  have A3 : Hid (Vec v4 ao3 2 cap3 (sel (dif (L [1, 5, 3]) (L [2, 4, 3])) 3)) := ho.vec
  clear ho
  go_wp2_with fail
  refine (toldB (Below_any par_s _ _ _ 3 3 3 3 (L [1, 4, 3]) (L [2, 4, 3]) ?_ ?_ (by decide) (by decide) 0 (by decide +kernel)) (show _ = true by decide +kernel)).mono ?_
  · exact (vec_at rfl [1, 4, 3]).below (below_alloc _ _)
  · exact vec_at (by simp) [2, 4, 3]
  rintro e v5 ⟨rfl, gg⟩
  have G : Below v4.heap.size v4 v5 := below_then (below_alloc _ _) (below_then (below_alloc _ _) (gg))
  replace A0 : Hid (Vec v5 ao0 3 cap0 (fun _ => 7)) := A0.out.below G
  replace A1 : Hid (Vec v5 ao1 3 cap1 (bmp (L [0, 2]) 4 (L [1, 1, 1]) 2)) := A1.out.below G
  replace A2 : Hid (Vec v5 ao2 3 cap2 (joi (L [1, 5, 3]) (L [2, 4, 3]))) := A2.out.below G
  replace A3 : Hid (Vec v5 ao3 2 cap3 (sel (dif (L [1, 5, 3]) (L [2, 4, 3])) 3)) := A3.out.below G
  have KK2 := below_then KK.out G
  clear KK s0 s1 s2 s3
  have KK : Hid (Below w0.heap.size w0 v5) := KK2
  clear KK2
  obtain ⟨s0, s1, s2, s3⟩ := par_held hw0 KK.out
  clear G gg
  go_wp2_with fail
  refine (toldB (Below_any par_s _ _ _ 3 3 3 3 (L [1, 5, 3]) (L [2, 4, 3]) ?_ ?_ (by decide) (by decide) 0 (by decide +kernel)) (show _ = false by decide +kernel)).mono ?_
  · exact (vec_at rfl [1, 5, 3]).below (below_alloc _ _)
  · exact vec_at (by simp) [2, 4, 3]
  rintro e v6 ⟨rfl, gg⟩
  have G : Below v5.heap.size v5 v6 := below_then (below_alloc _ _) (below_then (below_alloc _ _) (gg))
  replace A0 : Hid (Vec v6 ao0 3 cap0 (fun _ => 7)) := A0.out.below G
  replace A1 : Hid (Vec v6 ao1 3 cap1 (bmp (L [0, 2]) 4 (L [1, 1, 1]) 2)) := A1.out.below G
  replace A2 : Hid (Vec v6 ao2 3 cap2 (joi (L [1, 5, 3]) (L [2, 4, 3]))) := A2.out.below G
  replace A3 : Hid (Vec v6 ao3 2 cap3 (sel (dif (L [1, 5, 3]) (L [2, 4, 3])) 3)) := A3.out.below G
  have KK2 := below_then KK.out G
  clear KK s0 s1 s2 s3
  have KK : Hid (Below w0.heap.size w0 v6) := KK2
  clear KK2
  obtain ⟨s0, s1, s2, s3⟩ := par_held hw0 KK.out
  clear G gg
  go_wp2_with fail
  refine (isB (Same_any _ ao0 _ 3 cap0 3 3 (fun _ => 7) (L [7, 7, 7]) ?_ ?_ (by decide) (by decide)) (show _ = true by decide +kernel)).mono ?_
  · exact (A0.out.below (below_alloc _ _)).rd
  · exact (vec_at rfl [7, 7, 7]).rd
  rintro e v7 ⟨rfl, hq⟩
  have gg := below_q hq
  clear hq
  have G : Below v6.heap.size v6 v7 := below_then (below_alloc _ _) (gg)
  replace A0 : Hid (Vec v7 ao0 3 cap0 (fun _ => 7)) := A0.out.below G
  replace A1 : Hid (Vec v7 ao1 3 cap1 (bmp (L [0, 2]) 4 (L [1, 1, 1]) 2)) := A1.out.below G
  replace A2 : Hid (Vec v7 ao2 3 cap2 (joi (L [1, 5, 3]) (L [2, 4, 3]))) := A2.out.below G
  replace A3 : Hid (Vec v7 ao3 2 cap3 (sel (dif (L [1, 5, 3]) (L [2, 4, 3])) 3)) := A3.out.below G
  have KK2 := below_then KK.out G
  clear KK s0 s1 s2 s3
  have KK : Hid (Below w0.heap.size w0 v7) := KK2
  clear KK2
  obtain ⟨s0, s1, s2, s3⟩ := par_held hw0 KK.out
  clear G gg
  go_wp2_with fail
  refine (isB (Same_any _ ao1 _ 3 cap1 3 3 (bmp (L [0, 2]) 4 (L [1, 1, 1]) 2) (L [4, 1, 4]) ?_ ?_ (by decide) (by decide)) (show _ = true by decide +kernel)).mono ?_
  · exact (A1.out.below (below_alloc _ _)).rd
  · exact (vec_at rfl [4, 1, 4]).rd
  rintro e v8 ⟨rfl, hq⟩
  have gg := below_q hq
  clear hq
  have G : Below v7.heap.size v7 v8 := below_then (below_alloc _ _) (gg)
  replace A0 : Hid (Vec v8 ao0 3 cap0 (fun _ => 7)) := A0.out.below G
  replace A1 : Hid (Vec v8 ao1 3 cap1 (bmp (L [0, 2]) 4 (L [1, 1, 1]) 2)) := A1.out.below G
  replace A2 : Hid (Vec v8 ao2 3 cap2 (joi (L [1, 5, 3]) (L [2, 4, 3]))) := A2.out.below G
  replace A3 : Hid (Vec v8 ao3 2 cap3 (sel (dif (L [1, 5, 3]) (L [2, 4, 3])) 3)) := A3.out.below G
  have KK2 := below_then KK.out G
  clear KK s0 s1 s2 s3
  have KK : Hid (Below w0.heap.size w0 v8) := KK2
  clear KK2
  obtain ⟨s0, s1, s2, s3⟩ := par_held hw0 KK.out
  clear G gg
  go_wp2_with fail
  refine (isB (Same_any _ ao2 _ 3 cap2 3 3 (joi (L [1, 5, 3]) (L [2, 4, 3])) (L [2, 5, 3]) ?_ ?_ (by decide) (by decide)) (show _ = true by decide +kernel)).mono ?_
  · exact (A2.out.below (below_alloc _ _)).rd
  · exact (vec_at rfl [2, 5, 3]).rd
  rintro e v9 ⟨rfl, hq⟩
  have gg := below_q hq
  clear hq
  have G : Below v8.heap.size v8 v9 := below_then (below_alloc _ _) (gg)
  replace A0 : Hid (Vec v9 ao0 3 cap0 (fun _ => 7)) := A0.out.below G
  replace A1 : Hid (Vec v9 ao1 3 cap1 (bmp (L [0, 2]) 4 (L [1, 1, 1]) 2)) := A1.out.below G
  replace A2 : Hid (Vec v9 ao2 3 cap2 (joi (L [1, 5, 3]) (L [2, 4, 3]))) := A2.out.below G
  replace A3 : Hid (Vec v9 ao3 2 cap3 (sel (dif (L [1, 5, 3]) (L [2, 4, 3])) 3)) := A3.out.below G
  have KK2 := below_then KK.out G
  clear KK s0 s1 s2 s3
  have KK : Hid (Below w0.heap.size w0 v9) := KK2
  clear KK2
  obtain ⟨s0, s1, s2, s3⟩ := par_held hw0 KK.out
  clear G gg
  go_wp2_with fail
  refine (isB (Same_any _ ao3 _ 2 cap3 2 2 (sel (dif (L [1, 5, 3]) (L [2, 4, 3])) 3) (L [0, 1]) ?_ ?_ (by decide) (by decide)) (show _ = true by decide +kernel)).mono ?_
  · exact (A3.out.below (below_alloc _ _)).rd
  · exact (vec_at rfl [0, 1]).rd
  rintro e v10 ⟨rfl, hq⟩
  have gg := below_q hq
  clear hq
  have G : Below v9.heap.size v9 v10 := below_then (below_alloc _ _) (gg)
  replace A0 : Hid (Vec v10 ao0 3 cap0 (fun _ => 7)) := A0.out.below G
  replace A1 : Hid (Vec v10 ao1 3 cap1 (bmp (L [0, 2]) 4 (L [1, 1, 1]) 2)) := A1.out.below G
  replace A2 : Hid (Vec v10 ao2 3 cap2 (joi (L [1, 5, 3]) (L [2, 4, 3]))) := A2.out.below G
  replace A3 : Hid (Vec v10 ao3 2 cap3 (sel (dif (L [1, 5, 3]) (L [2, 4, 3])) 3)) := A3.out.below G
  have KK2 := below_then KK.out G
  clear KK s0 s1 s2 s3
  have KK : Hid (Below w0.heap.size w0 v10) := KK2
  clear KK2
  obtain ⟨s0, s1, s2, s3⟩ := par_held hw0 KK.out
  clear G gg
  go_wp2_with fail
  refine (isI (VCheck_any par_s _ _ 3 3 (L [1, 0, 1]) ?_ (by decide)) (show _ = (70 : Int) by decide +kernel)).mono ?_
  · exact vec_at rfl [1, 0, 1]
  rintro e v11 ⟨rfl, gg⟩
  have G : Below v10.heap.size v10 v11 := below_then (below_alloc _ _) (gg)
  replace A0 : Hid (Vec v11 ao0 3 cap0 (fun _ => 7)) := A0.out.below G
  replace A1 : Hid (Vec v11 ao1 3 cap1 (bmp (L [0, 2]) 4 (L [1, 1, 1]) 2)) := A1.out.below G
  replace A2 : Hid (Vec v11 ao2 3 cap2 (joi (L [1, 5, 3]) (L [2, 4, 3]))) := A2.out.below G
  replace A3 : Hid (Vec v11 ao3 2 cap3 (sel (dif (L [1, 5, 3]) (L [2, 4, 3])) 3)) := A3.out.below G
  have KK2 := below_then KK.out G
  clear KK s0 s1 s2 s3
  have KK : Hid (Below w0.heap.size w0 v11) := KK2
  clear KK2
  obtain ⟨s0, s1, s2, s3⟩ := par_held hw0 KK.out
  clear G gg
  go_wp2_with fail
  go_ret
  exact ⟨rfl, below_then b0 KK.out⟩
end Go.Proofs.Ytkoblkkigmnocaa
