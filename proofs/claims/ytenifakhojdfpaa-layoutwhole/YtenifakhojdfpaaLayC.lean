/- What the document's own calls over parameters answer. -/
import Derived.Test.YtenifakhojdfpaaLayB
namespace Go.Proofs.Ytenifakhojdfpaa
open Go.RowKit

set_option maxHeartbeats 400000 in
set_option maxRecDepth 100000 in
theorem asked_any (k r c q n : Int) (w : World) (b : Bool) (hb : may k r c q = b) :
    Calls Try.prog 32 #[.agg #[.int .i64 k, .int .i64 r, .int .i64 c, .int .i64 q], .int .i64 n] w fun e w' => e = .returned (.tuple #[.int .i64 (if b = true then n else 0), .int .i64 (if b = true then 0 else 2)]) ∧ Below w.heap.size w w' := by
  have HM := fun w => May_any k r c q w
  rw [hb] at HM
  obtain ⟨w0, hw0⟩ : ∃ w0, w0 = w.alloc (.cells #[.int .i64 k, .int .i64 r, .int .i64 c, .int .i64 q] 23) := ⟨_, rfl⟩
  have b0 : Below w.heap.size w w0 := by rw [hw0]; exact below_alloc _ _
  cases b
  all_goals (
    go_enter Try.func32, Try.ntmps32
    go_wp2_with fail
    rw [← hw0]
    refine (HM _).mono ?_
    rintro e wa ⟨rfl, ha⟩
    go_wp2_with fail
    go_ret2
    exact ⟨rfl, below_then b0 ha⟩)
set_option maxHeartbeats 400000 in
set_option maxRecDepth 100000 in
theorem RDrives_any {k r c q : Int} {N W : Nat} {x : Int} (h : Par k r c q N W x) (w : World) :
    Calls Try.prog 10 #[.agg #[.int .i64 k, .int .i64 r, .int .i64 c, .int .i64 q]] w fun e w' => e = .returned (.tuple #[.int .i64 (N : Int), .int .i64 x]) ∧ Below w.heap.size w w' := by
  obtain ⟨w0, hw0⟩ : ∃ w0, w0 = w.alloc (.cells #[.int .i64 k, .int .i64 r, .int .i64 c, .int .i64 q] 23) := ⟨_, rfl⟩
  have b0 : Below w.heap.size w w0 := by rw [hw0]; exact below_alloc _ _
  rcases h with ⟨h0, h1, h2, rfl⟩ | ⟨h0, rfl, rfl, rfl⟩
  · have HA := fun w => asked_any k r c q k w true h0
    obtain ⟨p1, p2, p3, p4, p5, p6, p7, p8, p9⟩ := may_true h0
    have HN : Hid (k + r = (N : Int)) := h2.symm
    clear h1 h2 p7
    go_enter Try.func10, Try.ntmps10
    go_wp2_with fail
    rw [← hw0]
    refine (HA _).mono ?_
    rintro e wa ⟨rfl, ha⟩
    obtain ⟨s0, s1, s2, s3⟩ := par_held hw0 ha
    clear hw0
    go_wp2_with fail
    go_ret2
    exact ⟨by rw [← HN.out]; rfl, below_then b0 ha⟩
  · have HA := fun w => asked_any k r c q k w false h0
    go_enter Try.func10, Try.ntmps10
    go_wp2_with fail
    rw [← hw0]
    refine (HA _).mono ?_
    rintro e wa ⟨rfl, ha⟩
    clear hw0
    go_wp2_with fail
    go_ret2
    exact ⟨rfl, below_then b0 ha⟩
set_option maxHeartbeats 400000 in
set_option maxRecDepth 100000 in
theorem RWidth_any {k r c q : Int} {N W : Nat} {x : Int} (h : Par k r c q N W x) (w : World) :
    Calls Try.prog 12 #[.agg #[.int .i64 k, .int .i64 r, .int .i64 c, .int .i64 q]] w fun e w' => e = .returned (.tuple #[.int .i64 (W : Int), .int .i64 x]) ∧ Below w.heap.size w w' := by
  have HM := fun w => May_any k r c q w
  have hW2 := h.wide
  obtain ⟨w0, hw0⟩ : ∃ w0, w0 = w.alloc (.cells #[.int .i64 k, .int .i64 r, .int .i64 c, .int .i64 q] 23) := ⟨_, rfl⟩
  have b0 : Below w.heap.size w w0 := by rw [hw0]; exact below_alloc _ _
  rcases h with ⟨h0, h1, h2, rfl⟩ | ⟨h0, rfl, rfl, rfl⟩
  · obtain ⟨p1, p2, p3, p4, p5, p6, p7, p8, p9⟩ := may_true h0
    have hW : wrap64 (k * c) = (W : Int) := by rw [h1]; exact wrap_wide p1 p2 p5 p6
    have hW1 : 32 ≤ W := by omega
    have HF := fun w => W_any k r c q w
    rw [hW] at HF
    rw [h0] at HM
    clear h1 h2 hW hW1 hW2
    go_enter Try.func12, Try.ntmps12
    go_wp2_with fail
    rw [← hw0]
    refine (HM _).mono ?_
    rintro e wa ⟨rfl, ha⟩
    obtain ⟨s0, s1, s2, s3⟩ := par_held hw0 ha
    clear hw0
    go_wp2_with fail
    refine (HF _).mono ?_
    rintro e wb ⟨rfl, hb⟩
    go_wp2_with fail
    go_ret2
    exact ⟨rfl, below_then (below_then b0 ha) hb⟩
  · rw [h0] at HM
    go_enter Try.func12, Try.ntmps12
    go_wp2_with fail
    rw [← hw0]
    refine (HM _).mono ?_
    rintro e wa ⟨rfl, ha⟩
    clear hw0
    go_wp2_with fail
    go_ret2
    exact ⟨rfl, below_then b0 ha⟩
set_option maxHeartbeats 400000 in
set_option maxRecDepth 100000 in
theorem RDirect_any {k r c q : Int} {N W : Nat} {x : Int} (h : Par k r c q N W x) (w : World) :
    Calls Try.prog 14 #[.agg #[.int .i64 k, .int .i64 r, .int .i64 c, .int .i64 q]] w fun e w' => e = .returned (.tuple #[.int .i64 ((dir W : Nat) : Int), .int .i64 x]) ∧ Below w.heap.size w w' := by
  have HM := fun w => May_any k r c q w
  have hW2 := h.wide
  obtain ⟨w0, hw0⟩ : ∃ w0, w0 = w.alloc (.cells #[.int .i64 k, .int .i64 r, .int .i64 c, .int .i64 q] 23) := ⟨_, rfl⟩
  have b0 : Below w.heap.size w w0 := by rw [hw0]; exact below_alloc _ _
  rcases h with ⟨h0, h1, h2, rfl⟩ | ⟨h0, rfl, rfl, rfl⟩
  · obtain ⟨p1, p2, p3, p4, p5, p6, p7, p8, p9⟩ := may_true h0
    have hW : wrap64 (k * c) = (W : Int) := by rw [h1]; exact wrap_wide p1 p2 p5 p6
    have hW1 : 32 ≤ W := by omega
    have HF := fun w => D_good k r c q w W hW hW1 hW2
    
    rw [h0] at HM
    clear h1 h2 hW hW1 hW2
    go_enter Try.func14, Try.ntmps14
    go_wp2_with fail
    rw [← hw0]
    refine (HM _).mono ?_
    rintro e wa ⟨rfl, ha⟩
    obtain ⟨s0, s1, s2, s3⟩ := par_held hw0 ha
    clear hw0
    go_wp2_with fail
    refine (HF _).mono ?_
    rintro e wb ⟨rfl, hb⟩
    go_wp2_with fail
    go_ret2
    exact ⟨rfl, below_then (below_then b0 ha) hb⟩
  · rw [h0] at HM
    go_enter Try.func14, Try.ntmps14
    go_wp2_with fail
    rw [← hw0]
    refine (HM _).mono ?_
    rintro e wa ⟨rfl, ha⟩
    clear hw0
    go_wp2_with fail
    go_ret2
    exact ⟨rfl, below_then b0 ha⟩
set_option maxHeartbeats 400000 in
set_option maxRecDepth 100000 in
theorem RLeaf_any {k r c q : Int} {N W : Nat} {x : Int} (h : Par k r c q N W x) (w : World) :
    Calls Try.prog 16 #[.agg #[.int .i64 k, .int .i64 r, .int .i64 c, .int .i64 q]] w fun e w' => e = .returned (.tuple #[.int .i64 ((lea W : Nat) : Int), .int .i64 x]) ∧ Below w.heap.size w w' := by
  have HM := fun w => May_any k r c q w
  have hW2 := h.wide
  obtain ⟨w0, hw0⟩ : ∃ w0, w0 = w.alloc (.cells #[.int .i64 k, .int .i64 r, .int .i64 c, .int .i64 q] 23) := ⟨_, rfl⟩
  have b0 : Below w.heap.size w w0 := by rw [hw0]; exact below_alloc _ _
  rcases h with ⟨h0, h1, h2, rfl⟩ | ⟨h0, rfl, rfl, rfl⟩
  · obtain ⟨p1, p2, p3, p4, p5, p6, p7, p8, p9⟩ := may_true h0
    have hW : wrap64 (k * c) = (W : Int) := by rw [h1]; exact wrap_wide p1 p2 p5 p6
    have hW1 : 32 ≤ W := by omega
    have HF := fun w => L_good k r c q w W hW hW1 hW2
    
    rw [h0] at HM
    clear h1 h2 hW hW1 hW2
    go_enter Try.func16, Try.ntmps16
    go_wp2_with fail
    rw [← hw0]
    refine (HM _).mono ?_
    rintro e wa ⟨rfl, ha⟩
    obtain ⟨s0, s1, s2, s3⟩ := par_held hw0 ha
    clear hw0
    go_wp2_with fail
    refine (HF _).mono ?_
    rintro e wb ⟨rfl, hb⟩
    go_wp2_with fail
    go_ret2
    exact ⟨rfl, below_then (below_then b0 ha) hb⟩
  · rw [h0] at HM
    go_enter Try.func16, Try.ntmps16
    go_wp2_with fail
    rw [← hw0]
    refine (HM _).mono ?_
    rintro e wa ⟨rfl, ha⟩
    clear hw0
    go_wp2_with fail
    go_ret2
    exact ⟨rfl, below_then b0 ha⟩
set_option maxHeartbeats 400000 in
set_option maxRecDepth 100000 in
theorem RMost_any {k r c q : Int} {N W : Nat} {x : Int} (h : Par k r c q N W x) (w : World) :
    Calls Try.prog 18 #[.agg #[.int .i64 k, .int .i64 r, .int .i64 c, .int .i64 q]] w fun e w' => e = .returned (.tuple #[.int .i64 ((mst W : Nat) : Int), .int .i64 x]) ∧ Below w.heap.size w w' := by
  have HM := fun w => May_any k r c q w
  have hW2 := h.wide
  obtain ⟨w0, hw0⟩ : ∃ w0, w0 = w.alloc (.cells #[.int .i64 k, .int .i64 r, .int .i64 c, .int .i64 q] 23) := ⟨_, rfl⟩
  have b0 : Below w.heap.size w w0 := by rw [hw0]; exact below_alloc _ _
  rcases h with ⟨h0, h1, h2, rfl⟩ | ⟨h0, rfl, rfl, rfl⟩
  · obtain ⟨p1, p2, p3, p4, p5, p6, p7, p8, p9⟩ := may_true h0
    have hW : wrap64 (k * c) = (W : Int) := by rw [h1]; exact wrap_wide p1 p2 p5 p6
    have hW1 : 32 ≤ W := by omega
    have HF := fun w => M_good k r c q w W hW hW1 hW2
    
    rw [h0] at HM
    clear h1 h2 hW hW1 hW2
    go_enter Try.func18, Try.ntmps18
    go_wp2_with fail
    rw [← hw0]
    refine (HM _).mono ?_
    rintro e wa ⟨rfl, ha⟩
    obtain ⟨s0, s1, s2, s3⟩ := par_held hw0 ha
    clear hw0
    go_wp2_with fail
    refine (HF _).mono ?_
    rintro e wb ⟨rfl, hb⟩
    go_wp2_with fail
    go_ret2
    exact ⟨rfl, below_then (below_then b0 ha) hb⟩
  · rw [h0] at HM
    go_enter Try.func18, Try.ntmps18
    go_wp2_with fail
    rw [← hw0]
    refine (HM _).mono ?_
    rintro e wa ⟨rfl, ha⟩
    clear hw0
    go_wp2_with fail
    go_ret2
    exact ⟨rfl, below_then b0 ha⟩
end Go.Proofs.Ytenifakhojdfpaa
