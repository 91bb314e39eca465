/- A blank image, as the document makes it. -/
import Derived.Test.YtenlfhdchflnjaaDocI
namespace Go.Proofs.Ytenlfhdchflnjaa
open Go.RowKit

set_option maxHeartbeats 1000000 in
set_option maxRecDepth 100000 in
theorem Blank_doc {k r c q x k' r' c' q' : Int} {n' : Nat} (h : Bln k r c q x k' r' c' q' n') (w : World) :
    Calls Try.prog 32 #[.agg #[.int .i64 k, .int .i64 r, .int .i64 c, .int .i64 q]] w fun e w' => ∃ lo' A' C', e = .returned (.tuple #[.agg #[.int .i64 k', .int .i64 r', .int .i64 c', .int .i64 q', .slice lo' n' n'], .int .i64 x]) ∧ Im w.heap.size w' lo' n' A' C' (fun _ => []) ∧ Below w.heap.size w w' := by
  obtain ⟨w0, hw0⟩ : ∃ w0, w0 = w.alloc (.cells #[.int .i64 k, .int .i64 r, .int .i64 c, .int .i64 q] 24) := ⟨_, rfl⟩
  obtain ⟨w1, hw1⟩ : ∃ w1, w1 = w0.alloc (.cells #[.int .i64 0, .int .i64 0, .int .i64 0, .int .i64 0, .slice none 0 0] 27) := ⟨_, rfl⟩
  have HPW : Hid (PW w w1 k r c q) := ⟨w0, hw0, hw1⟩
  have HB1 : Hid (Below w.heap.size w w1) := (pw_below HPW.out).1
  have z1 := (pw_below HPW.out).2
  rcases h with ⟨rfl, hm, rfl, rfl, rfl, rfl, rfl⟩ | ⟨rfl, rfl, rfl, rfl, rfl, N, Q, S, hp, rfl⟩
  · have HC := May_any k r c q w1
    rw [hm] at HC
    go_enter Try.func32, Try.ntmps32
    go_wp2_with fail
    rw [← hw0, ← hw1]
    clear hw0 hw1 hm
    refine HC.mono ?_
    rintro e wa ⟨rfl, ha⟩
    obtain ⟨_, ⟨m0, m1, m2, m3, m4⟩, m5⟩ := pw_held HPW.out ha
    have HB := below_then HB1.out ha
    clear HC ha
    go_wp2_with fail
    refine bodyPost_ret (v := .tuple #[.agg #[.int .i64 0, .int .i64 0, .int .i64 0, .int .i64 0, .slice none 0 0], .int .i64 2]) (by simp [results, Try.results32, go_sem, m0, m1, m2, m3, m4]) rfl ?_
    exact ⟨none, fun _ => none, fun _ => 0, rfl, .inl ⟨rfl, rfl⟩, ((((HB.setCell (Nat.le_succ _) _).setCell (Nat.le_succ _) _).setCell (Nat.le_succ _) _).setCell (Nat.le_succ _) _).setCell (Nat.le_succ _) _⟩
  · have HC := May_any k' r' c' q' w1
    rw [hp.1] at HC
    obtain rfl : q' = (Q : Int) := hp.2.2.1.symm
    obtain ⟨hN1, hN2, hQ1, hQ, hS1, hS2, hn1, hn2⟩ := hp.bounds
    have HN : Hid (∀ v, Calls Try.prog 55 #[.agg #[.int .i64 k', .int .i64 r', .int .i64 c', .int .i64 (Q : Int)]] v fun e w' => e = .returned (.int .i64 (N : Int)) ∧ Below v.heap.size v w') := fun v => N_any c' _ hp.2.1 hN2 v
    obtain ⟨p, hpp⟩ : ∃ p, p = N * Q := ⟨_, rfl⟩
    have e1 : IntKind.i64.wrap ((N : Int) * (Q : Int)) = (p : Int) := by
      have : ((N : Int) * (Q : Int)) = (p : Int) := by rw [hpp]; simp
      rw [← hpp] at hn2
      rw [this, IntKind.wrap_i64]; omega
    rw [← hpp] at hn1 hn2 ⊢
    obtain ⟨n, hn⟩ : ∃ n, n = p * 2 := ⟨_, rfl⟩
    have e2 : IntKind.i64.wrap ((p : Int) * 2) = (n : Int) := by rw [IntKind.wrap_i64]; omega
    rw [← hn] at hn1 hn2 ⊢
    have hmk := fun w => run_make_row' (P := Try.prog) 25 33 (.slice none 0 0) 24 Try.underlying25 info33 rfl .i64 .i64 n (by omega) (by omega) w
    clear hn hp hpp
    go_enter Try.func32, Try.ntmps32
    go_wp2_with fail
    rw [← hw0, ← hw1]
    clear hw0 hw1
    refine HC.mono ?_
    rintro e wb ⟨rfl, hb⟩
    have HBb : Hid (Below w1.heap.size w1 wb) := hb
    have SP : Hid (∀ v, Below wb.heap.size wb v → v.cell? ⟨w.heap.size, 0, none⟩ = some (.int .i64 k') ∧ v.cell? ⟨w.heap.size, 1, none⟩ = some (.int .i64 r') ∧ v.cell? ⟨w.heap.size, 2, none⟩ = some (.int .i64 c') ∧ v.cell? ⟨w.heap.size, 3, none⟩ = some (.int .i64 (Q : Int))) := fun v hv => (pw_held HPW.out (below_then HBb.out hv)).1
    obtain ⟨s0, s1, s2, s3⟩ := SP.out wb (Below.refl _ _)
    have zb1 := HBb.out.size
    have ht0 : ∀ (v : World) i u o, (v.setCell ⟨w.heap.size + 1, i, none⟩ u).cell? ⟨w.heap.size, o, none⟩ = v.cell? ⟨w.heap.size, o, none⟩ := fun v i u o => World.cell?_of_block (Below.heap_setCell _ _ _ _ (by show w.heap.size ≠ w.heap.size + 1; omega))
    clear HC hb
    go_wp2_with fail
    go_region_held3 (fun v => v.cell? ⟨w.heap.size, 0, none⟩ = some (.int .i64 k') ∧ v.cell? ⟨w.heap.size, 1, none⟩ = some (.int .i64 r') ∧ v.cell? ⟨w.heap.size, 2, none⟩ = some (.int .i64 c') ∧ v.cell? ⟨w.heap.size, 3, none⟩ = some (.int .i64 (Q : Int))) (go_keep)
      ((go_at_call 55; refine (HN.out _).mono ?_; rintro e wc ⟨rfl, hc⟩; have HCc : Hid (Below wb.heap.size wb wc) := of_drew hc; obtain ⟨p0, p1, p2, p3⟩ := SP.out _ (of_drew hc); have y0 := fun o => held p0 (below_alloc wc o); have y1 := fun o => held p1 (below_alloc wc o); have y2 := fun o => held p2 (below_alloc wc o); have y3 := fun o => held p3 (below_alloc wc o); obtain ⟨_, ⟨m0, m1, m2, m3, m4⟩, m5⟩ := pw_held HPW.out (below_then HBb.out HCc.out); have n0 := fun o => held m0 (below_alloc wc o); have n1 := fun o => held m1 (below_alloc wc o); have n2 := fun o => held m2 (below_alloc wc o); have n3 := fun o => held m3 (below_alloc wc o); have n4 := fun o => held m4 (below_alloc wc o); have n5 : ∀ o i, (wc.alloc o).frozen? ⟨w.heap.size + 1, i, none⟩ = false := (fun o i => free_below (m5 i) (below_alloc _ _) (World.block_lt_of_cell? wc ⟨w.heap.size + 1, 0, none⟩ m0)); clear hc m0 m1 m2 m3 m4 m5))
    all_goals go_wp2_with fail
    all_goals
      refine bodyPost_ret (v := .tuple #[.agg #[.int .i64 k', .int .i64 r', .int .i64 c', .int .i64 (Q : Int), .slice (some ⟨wc.heap.size, 0, none⟩) n n], .int .i64 0]) (by simp [results, Try.results32, go_sem, n0, n1, n2, n3, n4]) rfl ?_
      have hzc := HCc.out.size
      have hO := only5 (wc.alloc (.cells (madeCells #[.slice none 0 0] n) 33)) (w.heap.size + 1) (.int .i64 k') (.int .i64 r') (.int .i64 c') (.int .i64 (Q : Int)) (.slice (some ⟨wc.heap.size, 0, none⟩) n n)
      have h1 : ImR wc.heap.size (wc.alloc (.cells (madeCells #[.slice none 0 0] n) 33)) wc.heap.size n (fun _ => none) (fun _ => 0) (fun _ => []) := ⟨by
        have h := rsl_blank (Y := fun b => wc.heap.size ≤ b) (World.rowIs_made wc (.slice none 0 0) n 33) (Nat.le_refl _) (fun _ => [])
        rwa [upto_zero] at h, fun _ _ => .inl ⟨rfl, rfl, rfl⟩⟩
      have h2 := (h1.only hO (fun b h => by omega)).mono (B' := w.heap.size) (by omega)
      have hB : Below w.heap.size w (wc.alloc (.cells (madeCells #[.slice none 0 0] n) 33)) := below_then HB1.out (below_then HBb.out (below_then HCc.out (below_alloc _ _)))
      exact ⟨some ⟨wc.heap.size, 0, none⟩, _, _, rfl, .inr ⟨wc.heap.size, rfl, h2.1, h2.2⟩, hB.trans (hO.below (fun b h => by omega) hB.size)⟩
end Go.Proofs.Ytenlfhdchflnjaa
