/- The measures of parameters, an object's shape, and what the calls over them answer. -/
import Derived.Test.YtfbfiecamaginaaLayA
namespace Go.Proofs.Ytfbfiecamaginaa
open Go.RowKit

set_option maxHeartbeats 400000 in
set_option maxRecDepth 100000 in
theorem measure_good (k r c q : Int) (w : World) (W N : Nat) (h : wrap64 (k * c) = (W : Int)) (h1 : 32 ≤ W) (h2 : W ≤ 768) (he : erP k r c q = 0) (hN : (N : Int) = k + r) (hk : N ≤ 16) :
    Calls Try.prog 55 #[.agg #[.int .i64 k, .int .i64 r, .int .i64 c, .int .i64 q]] w fun e w' => e = .returned (.tuple #[.agg #[.int .i64 (N : Int), .int .i64 (W : Int), .int .i64 ((dir W : Nat) : Int), .int .i64 ((lea W : Nat) : Int), .int .i64 ((mst W : Nat) : Int)], .int .i64 0]) ∧ Below w.heap.size w w' := by
  have HC := fun w => Check_any k r c q w
  rw [he] at HC
  have HE : Hid (mst W = min 32768 (dir W * lea W * W)) := rfl
  have hd : ((W : Int) - 7) / 6 = ((dir W : Nat) : Int) := by unfold dir; omega
  have hl : (W : Int) / 6 = ((lea W : Nat) : Int) := by unfold lea; omega
  have HD : Hid (((W : Int) - 7) / 6 = ((dir W : Nat) : Int)) := hd
  have HL : Hid ((W : Int) / 6 = ((lea W : Nat) : Int)) := hl
  have HN : Hid (k + r = (N : Int)) := hN.symm
  have p1 := dl_le h2
  have p2 := dlw_le h2
  obtain ⟨p, hp, hpm, hpp⟩ : ∃ p : Nat, wrap64 (wrap64 (((W : Int) - 7) / 6 * ((W : Int) / 6)) * (W : Int)) = (p : Int) ∧ mst W = min 32768 p ∧ p ≤ 12386304 := by
    refine ⟨dir W * lea W * W, ?_, rfl, p2⟩
    rw [hd, hl, ← Int.natCast_mul, w64 ((dir W * lea W : Nat) : Int) (by omega), ← Int.natCast_mul, w64 _ (by omega)]
  have HPM : Hid (mst W = min 32768 p) := hpm
  clear hpm hd hl p1 p2 HE
  obtain ⟨w0, hw0⟩ : ∃ w0, w0 = w.alloc (.cells #[.int .i64 k, .int .i64 r, .int .i64 c, .int .i64 q] 24) := ⟨_, rfl⟩
  obtain ⟨w1, hw1⟩ : ∃ w1, w1 = w0.alloc (.cells #[.int .i64 0, .int .i64 0, .int .i64 0, .int .i64 0, .int .i64 0] 78) := ⟨_, rfl⟩
  have b0 : Below w.heap.size w w0 := by rw [hw0]; exact below_alloc _ _
  have b1 : Below w0.heap.size w0 w1 := by rw [hw1]; exact below_alloc _ _
  have z0 : w0.heap.size = w.heap.size + 1 := by rw [hw0]; simp
  go_enter Try.func55, Try.ntmps55
  go_wp2_with fail
  rw [← hw0, ← hw1]
  refine (HC _).mono ?_
  rintro e wa ⟨rfl, ha⟩
  obtain ⟨s0, s1, s2, s3⟩ := par_held hw0 (below_then b1 ha)
  obtain ⟨m0, m1, m2, m3, m4⟩ := mea_held hw1 ha
  have f := blk_free hw1 ha
  rw [z0] at m0 m1 m2 m3 m4 f
  have n0 : ∀ o, (wa.alloc o).cell? ⟨w.heap.size + 1, 0, none⟩ = some (.int .i64 0) := fun o => held m0 (below_alloc _ _)
  have n1 : ∀ o, (wa.alloc o).cell? ⟨w.heap.size + 1, 1, none⟩ = some (.int .i64 0) := fun o => held m1 (below_alloc _ _)
  have n2 : ∀ o, (wa.alloc o).cell? ⟨w.heap.size + 1, 2, none⟩ = some (.int .i64 0) := fun o => held m2 (below_alloc _ _)
  have n3 : ∀ o, (wa.alloc o).cell? ⟨w.heap.size + 1, 3, none⟩ = some (.int .i64 0) := fun o => held m3 (below_alloc _ _)
  have n4 : ∀ o, (wa.alloc o).cell? ⟨w.heap.size + 1, 4, none⟩ = some (.int .i64 0) := fun o => held m4 (below_alloc _ _)
  have f' : ∀ o i, (wa.alloc o).frozen? ⟨w.heap.size + 1, i, none⟩ = false := fun o i => (World.frozen?_of_block (a := ⟨w.heap.size + 1, i, none⟩) (Below.heap_alloc _ _ _ (World.block_lt_of_cell? wa ⟨w.heap.size + 1, 0, none⟩ m0))).trans (f i)
  clear hw0 hw1 f m0 m1 m2 m3 m4
  by_cases hlt : (p : Int) < 32768
  · go_wp2_with fail
    refine bodyPost_ret (v := .tuple #[.agg #[.int .i64 (k + r), .int .i64 (W : Int), .int .i64 (((W : Int) - 7) / 6), .int .i64 ((W : Int) / 6), .int .i64 (p : Int)], .int .i64 0]) (by simp [results, Try.results55, go_sem, n0, n1, n2, n3, n4]) rfl ⟨?_, ?_⟩
    · rw [HN.out, HD.out, HL.out, HPM.out]
      rw [show min 32768 p = p by omega]
    · have hB := below_then (below_then b0 b1) ha
      exact (((((hB.alloc hB.size _).setCell (Nat.le_succ _) _).setCell (Nat.le_succ _) _).setCell (Nat.le_succ _) _).setCell (Nat.le_succ _) _).setCell (Nat.le_succ _) _
  · go_wp2_with fail
    refine bodyPost_ret (v := .tuple #[.agg #[.int .i64 (k + r), .int .i64 (W : Int), .int .i64 (((W : Int) - 7) / 6), .int .i64 ((W : Int) / 6), .int .i64 32768], .int .i64 0]) (by simp [results, Try.results55, go_sem, n0, n1, n2, n3, n4]) rfl ⟨?_, ?_⟩
    · rw [HN.out, HD.out, HL.out, HPM.out]
      rw [show min 32768 p = 32768 by omega]; rfl
    · have hB := below_then (below_then b0 b1) ha
      exact (((((hB.alloc hB.size _).setCell (Nat.le_succ _) _).setCell (Nat.le_succ _) _).setCell (Nat.le_succ _) _).setCell (Nat.le_succ _) _).setCell (Nat.le_succ _) _

set_option maxHeartbeats 400000 in
set_option maxRecDepth 100000 in
theorem measure_bad (k r c q : Int) (w : World) (he : erP k r c q = 2) :
    Calls Try.prog 55 #[.agg #[.int .i64 k, .int .i64 r, .int .i64 c, .int .i64 q]] w fun e w' => e = .returned (.tuple #[.agg #[.int .i64 0, .int .i64 0, .int .i64 0, .int .i64 0, .int .i64 0], .int .i64 2]) ∧ Below w.heap.size w w' := by
  have HC := fun w => Check_any k r c q w
  rw [he] at HC
  obtain ⟨w0, hw0⟩ : ∃ w0, w0 = w.alloc (.cells #[.int .i64 k, .int .i64 r, .int .i64 c, .int .i64 q] 24) := ⟨_, rfl⟩
  have b0 : Below w.heap.size w w0 := by rw [hw0]; exact below_alloc _ _
  have z0 : w0.heap.size = w.heap.size + 1 := by rw [hw0]; simp
  obtain ⟨w1, hw1⟩ : ∃ w1, w1 = w0.alloc (.cells #[.int .i64 0, .int .i64 0, .int .i64 0, .int .i64 0, .int .i64 0] 78) := ⟨_, rfl⟩
  have b1 : Below w0.heap.size w0 w1 := by rw [hw1]; exact below_alloc _ _
  go_enter Try.func55, Try.ntmps55
  go_wp2_with fail
  rw [← hw0, ← hw1]
  refine (HC _).mono ?_
  rintro e wa ⟨rfl, ha⟩
  obtain ⟨m0, m1, m2, m3, m4⟩ := mea_held hw1 ha
  have f := blk_free hw1 ha
  rw [z0] at m0 m1 m2 m3 m4 f
  clear hw0 hw1
  go_wp2_with fail
  refine bodyPost_ret (v := .tuple #[.agg #[.int .i64 0, .int .i64 0, .int .i64 0, .int .i64 0, .int .i64 0], .int .i64 2]) (by simp [results, Try.results55, go_sem, m0, m1, m2, m3, m4]) rfl ⟨rfl, ?_⟩
  have hB := below_then (below_then b0 b1) ha
  exact ((((hB.setCell (Nat.le_succ _) _).setCell (Nat.le_succ _) _).setCell (Nat.le_succ _) _).setCell (Nat.le_succ _) _).setCell (Nat.le_succ _) _
theorem measure_any {k r c q : Int} {N W : Nat} {x : Int} (h : Par k r c q N W x) (w : World) :
    Calls Try.prog 55 #[.agg #[.int .i64 k, .int .i64 r, .int .i64 c, .int .i64 q]] w fun e w' => e = .returned (.tuple #[.agg #[.int .i64 (N : Int), .int .i64 (W : Int), .int .i64 ((dir W : Nat) : Int), .int .i64 ((lea W : Nat) : Int), .int .i64 ((mst W : Nat) : Int)], .int .i64 x]) ∧ Below w.heap.size w w' := by
  have hw := h.wide
  rcases h with ⟨h0, h1, h2, rfl⟩ | ⟨h0, rfl, rfl, rfl⟩
  · obtain ⟨p1, p2, p3, p4, p5, p6, p7, p8, p9⟩ := may_true h0
    exact measure_good k r c q w W N (by rw [h1]; exact wrap_wide p1 p2 p5 p6) (by omega) hw (by unfold erP; rw [if_pos h0]) h2 (by omega)
  · exact measure_bad k r c q w (by unfold erP; rw [if_neg (by rw [h0]; decide)])
set_option maxHeartbeats 400000 in
set_option maxRecDepth 100000 in
theorem Most_any {k r c q : Int} {N W : Nat} {x : Int} (h : Par k r c q N W x) (w : World) :
    Calls Try.prog 36 #[.agg #[.int .i64 k, .int .i64 r, .int .i64 c, .int .i64 q]] w fun e w' => e = .returned (.tuple #[.int .i64 ((mst W : Nat) : Int), .int .i64 x]) ∧ Below w.heap.size w w' := by
  have HC := fun w => measure_any h w
  clear h
  generalize dir W = d at *
  generalize lea W = l at *
  generalize mst W = m at *
  obtain ⟨w0, hw0⟩ : ∃ w0, w0 = w.alloc (.cells #[.int .i64 k, .int .i64 r, .int .i64 c, .int .i64 q] 24) := ⟨_, rfl⟩
  have b0 : Below w.heap.size w w0 := by rw [hw0]; exact below_alloc _ _
  go_enter Try.func36, Try.ntmps36
  go_wp2_with fail
  rw [← hw0]
  refine (HC _).mono ?_
  rintro e wa ⟨rfl, ha⟩
  go_wp2_with fail
  go_ret2
  exact ⟨rfl, have hB := below_then b0 ha; hB.alloc hB.size _⟩
end Go.Proofs.Ytfbfiecamaginaa
