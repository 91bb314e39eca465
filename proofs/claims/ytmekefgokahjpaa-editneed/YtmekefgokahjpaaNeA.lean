/- How many rows a change takes: the program's Need beside the document's. -/
import Derived.Test.YtmekefgokahjpaaLayF
namespace Go.Proofs.Ytmekefgokahjpaa
open Go.RowKit
set_option maxHeartbeats 1000000 in
set_option maxRecDepth 100000 in
theorem Need_bad {k r c q : Int} (h : erP k r c q = 2) (f t : Int) (w : World) :
    Calls Try.prog 5 #[.agg #[.int .i64 k, .int .i64 r, .int .i64 c, .int .i64 q], .int .i64 f, .int .i64 t] w fun e' w' => e' = .returned (.tuple #[.int .i64 (0), .int .i64 (2)]) ∧ Below w.heap.size w w' := by
  have HC := fun w => Check_any k r c q w
  rw [h] at HC
  obtain ⟨w0, hw0⟩ : ∃ w0, w0 = w.alloc (.cells #[.int .i64 k, .int .i64 r, .int .i64 c, .int .i64 q] 23) := ⟨_, rfl⟩
  have b0 : Below w.heap.size w w0 := by rw [hw0]; exact below_alloc _ _
  go_enter Try.func5, Try.ntmps5
  go_wp2_with fail
  rw [← hw0]
  refine (HC _).mono ?_
  rintro e v0 ⟨rfl, g0⟩
  have k0 := g0
  obtain ⟨s0, s1, s2, s3⟩ := par_held hw0 k0
  go_wp2_with fail
  go_ret2
  exact ⟨rfl, below_then b0 k0⟩
set_option maxHeartbeats 1000000 in
set_option maxRecDepth 100000 in
theorem RNeed_bad {k r c q : Int} (h : may k r c q = false) (f t : Int) (w : World) :
    Calls Try.prog 6 #[.agg #[.int .i64 k, .int .i64 r, .int .i64 c, .int .i64 q], .int .i64 f, .int .i64 t] w fun e' w' => e' = .returned (.tuple #[.int .i64 (0), .int .i64 (2)]) ∧ Below w.heap.size w w' := by
  have HC := fun w => May_any k r c q w
  rw [h] at HC
  obtain ⟨w0, hw0⟩ : ∃ w0, w0 = w.alloc (.cells #[.int .i64 k, .int .i64 r, .int .i64 c, .int .i64 q] 23) := ⟨_, rfl⟩
  have b0 : Below w.heap.size w w0 := by rw [hw0]; exact below_alloc _ _
  go_enter Try.func6, Try.ntmps6
  go_wp2_with fail
  rw [← hw0]
  refine (HC _).mono ?_
  rintro e v0 ⟨rfl, g0⟩
  have k0 := g0
  obtain ⟨s0, s1, s2, s3⟩ := par_held hw0 k0
  go_wp2_with fail
  go_ret2
  exact ⟨rfl, below_then b0 k0⟩
set_option maxHeartbeats 1000000 in
set_option maxRecDepth 100000 in
theorem Need_neg1 {k r c q : Int} (h : erP k r c q = 0) (f t : Int) (hf : f < 0) (w : World) :
    Calls Try.prog 5 #[.agg #[.int .i64 k, .int .i64 r, .int .i64 c, .int .i64 q], .int .i64 f, .int .i64 t] w fun e' w' => e' = .returned (.tuple #[.int .i64 (0), .int .i64 (2)]) ∧ Below w.heap.size w w' := by
  have HC := fun w => Check_any k r c q w
  rw [h] at HC
  obtain ⟨w0, hw0⟩ : ∃ w0, w0 = w.alloc (.cells #[.int .i64 k, .int .i64 r, .int .i64 c, .int .i64 q] 23) := ⟨_, rfl⟩
  have b0 : Below w.heap.size w w0 := by rw [hw0]; exact below_alloc _ _
  go_enter Try.func5, Try.ntmps5
  go_wp2_with fail
  rw [← hw0]
  refine (HC _).mono ?_
  rintro e v0 ⟨rfl, g0⟩
  have k0 := g0
  obtain ⟨s0, s1, s2, s3⟩ := par_held hw0 k0
  go_wp2_with fail
  go_ret2
  exact ⟨rfl, below_then b0 k0⟩
set_option maxHeartbeats 1000000 in
set_option maxRecDepth 100000 in
theorem RNeed_neg1 {k r c q : Int} (h : may k r c q = true) (f t : Int) (hf : f < 0) (w : World) :
    Calls Try.prog 6 #[.agg #[.int .i64 k, .int .i64 r, .int .i64 c, .int .i64 q], .int .i64 f, .int .i64 t] w fun e' w' => e' = .returned (.tuple #[.int .i64 (0), .int .i64 (2)]) ∧ Below w.heap.size w w' := by
  have HC := fun w => May_any k r c q w
  rw [h] at HC
  obtain ⟨w0, hw0⟩ : ∃ w0, w0 = w.alloc (.cells #[.int .i64 k, .int .i64 r, .int .i64 c, .int .i64 q] 23) := ⟨_, rfl⟩
  have b0 : Below w.heap.size w w0 := by rw [hw0]; exact below_alloc _ _
  go_enter Try.func6, Try.ntmps6
  go_wp2_with fail
  rw [← hw0]
  refine (HC _).mono ?_
  rintro e v0 ⟨rfl, g0⟩
  have k0 := g0
  obtain ⟨s0, s1, s2, s3⟩ := par_held hw0 k0
  go_wp2_with fail
  go_ret2
  exact ⟨rfl, below_then b0 k0⟩
set_option maxHeartbeats 1000000 in
set_option maxRecDepth 100000 in
theorem Need_neg2 {k r c q : Int} (h : erP k r c q = 0) (f t : Int) (hf : 0 ≤ f) (ht : t < 0) (w : World) :
    Calls Try.prog 5 #[.agg #[.int .i64 k, .int .i64 r, .int .i64 c, .int .i64 q], .int .i64 f, .int .i64 t] w fun e' w' => e' = .returned (.tuple #[.int .i64 (0), .int .i64 (2)]) ∧ Below w.heap.size w w' := by
  have HC := fun w => Check_any k r c q w
  rw [h] at HC
  obtain ⟨w0, hw0⟩ : ∃ w0, w0 = w.alloc (.cells #[.int .i64 k, .int .i64 r, .int .i64 c, .int .i64 q] 23) := ⟨_, rfl⟩
  have b0 : Below w.heap.size w w0 := by rw [hw0]; exact below_alloc _ _
  go_enter Try.func5, Try.ntmps5
  go_wp2_with fail
  rw [← hw0]
  refine (HC _).mono ?_
  rintro e v0 ⟨rfl, g0⟩
  have k0 := g0
  obtain ⟨s0, s1, s2, s3⟩ := par_held hw0 k0
  go_wp2_with fail
  go_ret2
  exact ⟨rfl, below_then b0 k0⟩
set_option maxHeartbeats 1000000 in
set_option maxRecDepth 100000 in
theorem RNeed_neg2 {k r c q : Int} (h : may k r c q = true) (f t : Int) (hf : 0 ≤ f) (ht : t < 0) (w : World) :
    Calls Try.prog 6 #[.agg #[.int .i64 k, .int .i64 r, .int .i64 c, .int .i64 q], .int .i64 f, .int .i64 t] w fun e' w' => e' = .returned (.tuple #[.int .i64 (0), .int .i64 (2)]) ∧ Below w.heap.size w w' := by
  have HC := fun w => May_any k r c q w
  rw [h] at HC
  obtain ⟨w0, hw0⟩ : ∃ w0, w0 = w.alloc (.cells #[.int .i64 k, .int .i64 r, .int .i64 c, .int .i64 q] 23) := ⟨_, rfl⟩
  have b0 : Below w.heap.size w w0 := by rw [hw0]; exact below_alloc _ _
  go_enter Try.func6, Try.ntmps6
  go_wp2_with fail
  rw [← hw0]
  refine (HC _).mono ?_
  rintro e v0 ⟨rfl, g0⟩
  have k0 := g0
  obtain ⟨s0, s1, s2, s3⟩ := par_held hw0 k0
  go_wp2_with fail
  go_ret2
  exact ⟨rfl, below_then b0 k0⟩
set_option maxHeartbeats 1000000 in
set_option maxRecDepth 100000 in
theorem Need_far1 {k r c q : Int} {N W : Nat} (h : Par k r c q N W 0) (f t : Int) (hf : 0 ≤ f) (ht : 0 ≤ t) (m1 : Made k r c q f W 0 0 0 0 3) (w : World) :
    Calls Try.prog 5 #[.agg #[.int .i64 k, .int .i64 r, .int .i64 c, .int .i64 q], .int .i64 f, .int .i64 t] w fun e' w' => e' = .returned (.tuple #[.int .i64 (0), .int .i64 (3)]) ∧ Below w.heap.size w w' := by
  have HC := fun w => Check_any k r c q w
  have he : erP k r c q = 0 := by rcases h with ⟨h, _⟩ | ⟨_, _, _, h⟩; (unfold erP; rw [h]; rfl); cases h
  rw [he] at HC
  have HR := fun w => Rows_any h m1 w
  clear m1 h he
  obtain ⟨w0, hw0⟩ : ∃ w0, w0 = w.alloc (.cells #[.int .i64 k, .int .i64 r, .int .i64 c, .int .i64 q] 23) := ⟨_, rfl⟩
  have b0 : Below w.heap.size w w0 := by rw [hw0]; exact below_alloc _ _
  go_enter Try.func5, Try.ntmps5
  go_wp2_with fail
  rw [← hw0]
  refine (HC _).mono ?_
  rintro e v0 ⟨rfl, g0⟩
  have k0 := g0
  obtain ⟨s0, s1, s2, s3⟩ := par_held hw0 k0
  go_wp2_with fail
  refine (HR _).mono ?_
  rintro e v1 ⟨rfl, g1⟩
  have k1 := below_then k0 g1
  obtain ⟨s0, s1, s2, s3⟩ := par_held hw0 k1
  go_wp2_with fail
  go_ret2
  exact ⟨rfl, below_then b0 k1⟩
set_option maxHeartbeats 1000000 in
set_option maxRecDepth 100000 in
theorem Need_far2 {k r c q : Int} {N W : Nat} (h : Par k r c q N W 0) (f t : Int) (hf : 0 ≤ f) (ht : 0 ≤ t) {s d x n : Nat} (m1 : Made k r c q f W s d x n 0) (m2 : Made k r c q t W 0 0 0 0 3) (w : World) :
    Calls Try.prog 5 #[.agg #[.int .i64 k, .int .i64 r, .int .i64 c, .int .i64 q], .int .i64 f, .int .i64 t] w fun e' w' => e' = .returned (.tuple #[.int .i64 (0), .int .i64 (3)]) ∧ Below w.heap.size w w' := by
  have HC := fun w => Check_any k r c q w
  have he : erP k r c q = 0 := by rcases h with ⟨h, _⟩ | ⟨_, _, _, h⟩; (unfold erP; rw [h]; rfl); cases h
  rw [he] at HC
  have HR := fun w => Rows_any h m1 w
  have HS := fun w => Rows_any h m2 w
  clear m1 m2 h he
  obtain ⟨w0, hw0⟩ : ∃ w0, w0 = w.alloc (.cells #[.int .i64 k, .int .i64 r, .int .i64 c, .int .i64 q] 23) := ⟨_, rfl⟩
  have b0 : Below w.heap.size w w0 := by rw [hw0]; exact below_alloc _ _
  go_enter Try.func5, Try.ntmps5
  go_wp2_with fail
  rw [← hw0]
  refine (HC _).mono ?_
  rintro e v0 ⟨rfl, g0⟩
  have k0 := g0
  obtain ⟨s0, s1, s2, s3⟩ := par_held hw0 k0
  go_wp2_with fail
  refine (HR _).mono ?_
  rintro e v1 ⟨rfl, g1⟩
  have k1 := below_then k0 g1
  obtain ⟨s0, s1, s2, s3⟩ := par_held hw0 k1
  go_wp2_with fail
  refine (HS _).mono ?_
  rintro e v2 ⟨rfl, g2⟩
  have k2 := below_then k1 g2
  obtain ⟨s0, s1, s2, s3⟩ := par_held hw0 k2
  go_wp2_with fail
  go_ret2
  exact ⟨rfl, below_then b0 k2⟩
set_option maxHeartbeats 1000000 in
set_option maxRecDepth 100000 in
theorem RNeed_far1 {k r c q : Int} {N W : Nat} (h : Par k r c q N W 0) (f t : Int) (hf : 0 ≤ f) (ht : 0 ≤ t) (hfar : (mst W : Int) < f) (w : World) :
    Calls Try.prog 6 #[.agg #[.int .i64 k, .int .i64 r, .int .i64 c, .int .i64 q], .int .i64 f, .int .i64 t] w fun e' w' => e' = .returned (.tuple #[.int .i64 (0), .int .i64 (3)]) ∧ Below w.heap.size w w' := by
  have HC := fun w => May_any k r c q w
  have hm : may k r c q = true := by rcases h with ⟨h, _⟩ | ⟨_, _, _, h⟩; exact h; cases h
  rw [hm] at HC
  obtain ⟨g1, g2, g3, _, _⟩ := h.good hm
  have HM := fun w => M_good k r c q w W g1 g2 g3
  have hmst := mst_le W
  clear h hm g1 g2 g3
  generalize mst W = M at *
  obtain ⟨w0, hw0⟩ : ∃ w0, w0 = w.alloc (.cells #[.int .i64 k, .int .i64 r, .int .i64 c, .int .i64 q] 23) := ⟨_, rfl⟩
  have b0 : Below w.heap.size w w0 := by rw [hw0]; exact below_alloc _ _
  go_enter Try.func6, Try.ntmps6
  go_wp2_with fail
  rw [← hw0]
  refine (HC _).mono ?_
  rintro e v0 ⟨rfl, g0⟩
  have k0 := g0
  obtain ⟨s0, s1, s2, s3⟩ := par_held hw0 k0
  go_wp2_with fail
  refine (HM _).mono ?_
  rintro e v1 ⟨rfl, g1⟩
  have k1 := below_then k0 g1
  obtain ⟨s0, s1, s2, s3⟩ := par_held hw0 k1
  go_wp2_with fail
  go_ret2
  exact ⟨rfl, below_then b0 k1⟩
set_option maxHeartbeats 1000000 in
set_option maxRecDepth 100000 in
theorem RNeed_far2 {k r c q : Int} {N W : Nat} (h : Par k r c q N W 0) (f t : Int) (hf : 0 ≤ f) (ht : 0 ≤ t) (hn : f ≤ (mst W : Int)) (hfar : (mst W : Int) < t) (w : World) :
    Calls Try.prog 6 #[.agg #[.int .i64 k, .int .i64 r, .int .i64 c, .int .i64 q], .int .i64 f, .int .i64 t] w fun e' w' => e' = .returned (.tuple #[.int .i64 (0), .int .i64 (3)]) ∧ Below w.heap.size w w' := by
  have HC := fun w => May_any k r c q w
  have hm : may k r c q = true := by rcases h with ⟨h, _⟩ | ⟨_, _, _, h⟩; exact h; cases h
  rw [hm] at HC
  obtain ⟨g1, g2, g3, _, _⟩ := h.good hm
  have HM := fun w => M_good k r c q w W g1 g2 g3
  have hmst := mst_le W
  clear h hm g1 g2 g3
  generalize mst W = M at *
  obtain ⟨w0, hw0⟩ : ∃ w0, w0 = w.alloc (.cells #[.int .i64 k, .int .i64 r, .int .i64 c, .int .i64 q] 23) := ⟨_, rfl⟩
  have b0 : Below w.heap.size w w0 := by rw [hw0]; exact below_alloc _ _
  go_enter Try.func6, Try.ntmps6
  go_wp2_with fail
  rw [← hw0]
  refine (HC _).mono ?_
  rintro e v0 ⟨rfl, g0⟩
  have k0 := g0
  obtain ⟨s0, s1, s2, s3⟩ := par_held hw0 k0
  go_wp2_with fail
  refine (HM _).mono ?_
  rintro e v1 ⟨rfl, g1⟩
  have k1 := below_then k0 g1
  obtain ⟨s0, s1, s2, s3⟩ := par_held hw0 k1
  go_wp2_with fail
  refine (HM _).mono ?_
  rintro e v2 ⟨rfl, g2⟩
  have k2 := below_then k1 g2
  obtain ⟨s0, s1, s2, s3⟩ := par_held hw0 k2
  go_wp2_with fail
  go_ret2
  exact ⟨rfl, below_then b0 k2⟩
def nd (n m : Nat) : Int := ((m - n : Nat) : Int)
set_option maxHeartbeats 1000000 in
set_option maxRecDepth 100000 in
theorem Need_good {k r c q : Int} {N W : Nat} (h : Par k r c q N W 0) (f t : Int) (hf : 0 ≤ f) (ht : 0 ≤ t) {s d x n s2 d2 x2 n2 : Nat} (m1 : Made k r c q f W s d x n 0) (m2 : Made k r c q t W s2 d2 x2 n2 0) (hn : n ≤ 100000) (hn2 : n2 ≤ 100000) (w : World) :
    Calls Try.prog 5 #[.agg #[.int .i64 k, .int .i64 r, .int .i64 c, .int .i64 q], .int .i64 f, .int .i64 t] w fun e' w' => e' = .returned (.tuple #[.int .i64 (nd n n2), .int .i64 (0)]) ∧ Below w.heap.size w w' := by
  have HC := fun w => Check_any k r c q w
  have he : erP k r c q = 0 := by rcases h with ⟨h, _⟩ | ⟨_, _, _, h⟩; (unfold erP; rw [h]; rfl); cases h
  rw [he] at HC
  have HR := fun w => Rows_any h m1 w
  have HS := fun w => Rows_any h m2 w
  have HE1 : Hid (n2 ≤ n → nd n n2 = 0) := fun hh => by unfold nd; omega
  have HE2 : Hid (n < n2 → (n2 : Int) - (n : Int) = nd n n2) := fun hh => by unfold nd; omega
  clear m1 m2 h he
  generalize nd n n2 = D at *
  obtain ⟨w0, hw0⟩ : ∃ w0, w0 = w.alloc (.cells #[.int .i64 k, .int .i64 r, .int .i64 c, .int .i64 q] 23) := ⟨_, rfl⟩
  have b0 : Below w.heap.size w w0 := by rw [hw0]; exact below_alloc _ _
  go_enter Try.func5, Try.ntmps5
  go_wp2_with fail
  rw [← hw0]
  refine (HC _).mono ?_
  rintro e v0 ⟨rfl, g0⟩
  have k0 := g0
  obtain ⟨s0, s1, s2, s3⟩ := par_held hw0 k0
  go_wp2_with fail
  refine (HR _).mono ?_
  rintro e v1 ⟨rfl, g1⟩
  have k1 := below_then k0 g1
  obtain ⟨s0, s1, s2, s3⟩ := par_held hw0 k1
  go_wp2_with fail
  refine (HS _).mono ?_
  rintro e v2 ⟨rfl, g2⟩
  have k2 := below_then k1 g2
  obtain ⟨s0, s1, s2, s3⟩ := par_held hw0 k2
  go_wp2_with fail
  all_goals go_ret2
  all_goals (refine ⟨?_, below_then b0 k2⟩; first | (have e1 := HE1.out (by omega); subst e1; rfl) | (have e1 := HE2.out (by omega); subst e1; rfl))
theorem more_math {W s x s2 x2 n n2 : Nat} (hx : x = lvs W s) (hx2 : x2 = lvs W s2) (hn : n = 1 + x + s) (hn2 : n2 = 1 + x2 + s2) : (if s < s2 then (s2 : Int) - s else 0) + (if x < x2 then (x2 : Int) - x else 0) = nd n n2 := by
  unfold nd
  rcases Nat.lt_or_ge s s2 with h | h
  · have := lvs_mono (w := W) (Nat.le_of_lt h)
    rw [if_pos h]
    split <;> omega
  · have := lvs_mono (w := W) h
    rw [if_neg (by omega), if_neg (by omega)]
    omega
set_option maxHeartbeats 1000000 in
set_option maxRecDepth 100000 in
theorem More_good {k r c q : Int} {N W : Nat} (h : Par k r c q N W 0) (a b : Nat) (ha : a ≤ mst W) (hb : b ≤ mst W) {s x n s2 x2 n2 : Nat} (e1 : s = up a W) (e2 : x = lvs W s) (e3 : n = 1 + x + s) (f1 : s2 = up b W) (f2 : x2 = lvs W s2) (f3 : n2 = 1 + x2 + s2) (w : World) :
    Calls Try.prog 11 #[.agg #[.int .i64 k, .int .i64 r, .int .i64 c, .int .i64 q], .int .i64 (a : Int), .int .i64 (b : Int)] w fun e' w' => e' = .returned (.int .i64 (nd n n2)) ∧ Below w.heap.size w w' := by
  have hm : may k r c q = true := by rcases h with ⟨h, _⟩ | ⟨_, _, _, h⟩; exact h; cases h
  obtain ⟨g1, g2, g3, _, _⟩ := h.good hm
  have hmst := mst_le W
  have HO := fun w => Object_good k r c q W g1 g2 g3 a (by omega) s x e1 e2 w
  have HP := fun w => Object_good k r c q W g1 g2 g3 b (by omega) s2 x2 f1 f2 w
  have HE : Hid ((if s < s2 then (s2 : Int) - s else 0) + (if x < x2 then (x2 : Int) - x else 0) = nd n n2) := more_math e2 f2 e3 f3
  have b1 : s ≤ 32768 := by have := up_self a W (by omega); omega
  have b2 : s2 ≤ 32768 := by have := up_self b W (by omega); omega
  have b3 : x ≤ 32768 := by have := lvs_le (s := s) g2; omega
  have b4 : x2 ≤ 32768 := by have := lvs_le (s := s2) g2; omega
  clear e1 e2 e3 f1 f2 f3 h hm g1 g2 g3 ha hb
  generalize nd n n2 = D at *
  obtain ⟨w0, hw0⟩ : ∃ w0, w0 = w.alloc (.cells #[.int .i64 k, .int .i64 r, .int .i64 c, .int .i64 q] 23) := ⟨_, rfl⟩
  have b0 : Below w.heap.size w w0 := by rw [hw0]; exact below_alloc _ _
  go_enter Try.func11, Try.ntmps11
  go_wp2_with fail
  rw [← hw0]
  refine (HO _).mono ?_
  rintro e v0 ⟨rfl, g0⟩
  have k0 := g0
  obtain ⟨s0, s1, s2, s3⟩ := par_held hw0 k0
  go_wp2_with fail
  refine (HP _).mono ?_
  rintro e v1 ⟨rfl, g1⟩
  have k1 := below_then k0 g1
  obtain ⟨s0, s1, s2, s3⟩ := par_held hw0 k1
  go_wp2_with fail
  all_goals go_ret
  all_goals (refine ⟨ret_int ?_, below_then b0 k1⟩; rw [← HE.out]; first | (rw [if_pos (by omega), if_pos (by omega)]; done) | (rw [if_pos (by omega), if_neg (by omega)]; omega) | (rw [if_neg (by omega), if_pos (by omega)]; omega) | (rw [if_neg (by omega), if_neg (by omega)]; omega))
set_option maxHeartbeats 1000000 in
set_option maxRecDepth 100000 in
theorem RNeed_good {k r c q : Int} {N W : Nat} (h : Par k r c q N W 0) (a b : Nat) (ha : a ≤ mst W) (hb : b ≤ mst W) {s x n s2 x2 n2 : Nat} (e1 : s = up a W) (e2 : x = lvs W s) (e3 : n = 1 + x + s) (f1 : s2 = up b W) (f2 : x2 = lvs W s2) (f3 : n2 = 1 + x2 + s2) (w : World) :
    Calls Try.prog 6 #[.agg #[.int .i64 k, .int .i64 r, .int .i64 c, .int .i64 q], .int .i64 (a : Int), .int .i64 (b : Int)] w fun e' w' => e' = .returned (.tuple #[.int .i64 (nd n n2), .int .i64 (0)]) ∧ Below w.heap.size w w' := by
  have HC := fun w => May_any k r c q w
  have hm : may k r c q = true := by rcases h with ⟨h, _⟩ | ⟨_, _, _, h⟩; exact h; cases h
  rw [hm] at HC
  obtain ⟨g1, g2, g3, _, _⟩ := h.good hm
  have HM := fun w => M_good k r c q w W g1 g2 g3
  have hmst := mst_le W
  have HO := fun w => More_good h a b ha hb e1 e2 e3 f1 f2 f3 w
  clear h hm g1 g2 g3 e1 e2 e3 f1 f2 f3
  generalize mst W = M at *
  obtain ⟨w0, hw0⟩ : ∃ w0, w0 = w.alloc (.cells #[.int .i64 k, .int .i64 r, .int .i64 c, .int .i64 q] 23) := ⟨_, rfl⟩
  have b0 : Below w.heap.size w w0 := by rw [hw0]; exact below_alloc _ _
  go_enter Try.func6, Try.ntmps6
  go_wp2_with fail
  rw [← hw0]
  refine (HC _).mono ?_
  rintro e v0 ⟨rfl, g0⟩
  have k0 := g0
  obtain ⟨s0, s1, s2, s3⟩ := par_held hw0 k0
  go_wp2_with fail
  refine (HM _).mono ?_
  rintro e v1 ⟨rfl, g1⟩
  have k1 := below_then k0 g1
  obtain ⟨s0, s1, s2, s3⟩ := par_held hw0 k1
  go_wp2_with fail
  refine (HM _).mono ?_
  rintro e v2 ⟨rfl, g2⟩
  have k2 := below_then k1 g2
  obtain ⟨s0, s1, s2, s3⟩ := par_held hw0 k2
  go_wp2_with fail
  refine (HO _).mono ?_
  rintro e v3 ⟨rfl, g3⟩
  have k3 := below_then k2 g3
  obtain ⟨s0, s1, s2, s3⟩ := par_held hw0 k3
  go_wp2_with fail
  go_ret2
  exact ⟨rfl, below_then b0 k3⟩
theorem need_two (k r c q f t : Int) : ∃ v e : Int, (∀ w, Calls Try.prog 5 #[.agg #[.int .i64 k, .int .i64 r, .int .i64 c, .int .i64 q], .int .i64 f, .int .i64 t] w fun e' w' => e' = .returned (.tuple #[.int .i64 v, .int .i64 e]) ∧ Below w.heap.size w w') ∧ (∀ w, Calls Try.prog 6 #[.agg #[.int .i64 k, .int .i64 r, .int .i64 c, .int .i64 q], .int .i64 f, .int .i64 t] w fun e' w' => e' = .returned (.tuple #[.int .i64 v, .int .i64 e]) ∧ Below w.heap.size w w') := by
  cases hm : may k r c q
  · exact ⟨0, 2, Need_bad (by unfold erP; rw [hm]; rfl) f t, RNeed_bad hm f t⟩
  have he : erP k r c q = 0 := by unfold erP; rw [hm]; rfl
  by_cases hf : f < 0
  · exact ⟨0, 2, Need_neg1 he f t hf, RNeed_neg1 hm f t hf⟩
  by_cases ht : t < 0
  · exact ⟨0, 2, Need_neg2 he f t (by omega) ht, RNeed_neg2 hm f t (by omega) ht⟩
  obtain ⟨N, W, y, h⟩ := par_any k r c q
  obtain ⟨g1, g2, g3, rfl, g5⟩ := h.good hm
  by_cases h1 : (mst W : Int) < f
  · exact ⟨0, 3, Need_far1 h f t (by omega) (by omega) (.inr (.inr ⟨hm, by omega, h1, rfl, rfl, rfl, rfl, rfl⟩)), RNeed_far1 h f t (by omega) (by omega) h1⟩
  have M1 : Made k r c q f W _ _ _ _ 0 := .inl ⟨hm, by omega, by omega, rfl, rfl, rfl, rfl, rfl⟩
  by_cases h2 : (mst W : Int) < t
  · exact ⟨0, 3, Need_far2 h f t (by omega) (by omega) M1 (.inr (.inr ⟨hm, by omega, h2, rfl, rfl, rfl, rfl, rfl⟩)), RNeed_far2 h f t (by omega) (by omega) (by omega) h2⟩
  have M2 : Made k r c q t W _ _ _ _ 0 := .inl ⟨hm, by omega, by omega, rfl, rfl, rfl, rfl, rfl⟩
  have hmst := mst_le W
  have b1 : up f.toNat W ≤ 32768 := by have := up_self f.toNat W (by omega); omega
  have b2 : up t.toNat W ≤ 32768 := by have := up_self t.toNat W (by omega); omega
  have b3 := lvs_le (s := up f.toNat W) g2
  have b4 := lvs_le (s := up t.toNat W) g2
  have R := RNeed_good h f.toNat t.toNat (by omega) (by omega) rfl rfl rfl rfl rfl rfl
  rw [show ((f.toNat : Nat) : Int) = f by omega, show ((t.toNat : Nat) : Int) = t by omega] at R
  exact ⟨_, 0, Need_good h f t (by omega) (by omega) M1 M2 (by omega) (by omega), R⟩
theorem par_awake2 : Par 2 1 16 16 3 32 0 := .inl ⟨by decide, by decide, by decide, rfl⟩
set_option maxHeartbeats 400000 in
set_option maxRecDepth 100000 in
theorem awake_any (w : World) : Calls Try.prog 4 #[] w fun e w' => e = .returned (.bool true) ∧ Below w.heap.size w w' := by
  have HN := fun w => Need_good par_awake2 0 129 (by omega) (by omega) (s := 0) (d := 0) (x := 0) (n := 1) (s2 := 5) (d2 := 1) (x2 := 1) (n2 := 7) (.inl ⟨by decide, by omega, by decide, by decide, by decide, by decide, by decide, rfl⟩) (.inl ⟨by decide, by omega, by decide, by decide, by decide, by decide, by decide, rfl⟩) (by omega) (by omega) w
  rw [show nd 1 7 = 6 from rfl] at HN
  go_enter Try.func4, Try.ntmps4
  go_wp2_with fail
  refine (HN _).mono ?_
  rintro e wa ⟨rfl, ha⟩
  go_wp2_with fail
  go_ret
  exact ⟨rfl, ha⟩
set_option maxHeartbeats 2000000 in
set_option maxRecDepth 100000 in
theorem need_walk (k r c q f t : Int) (_hf : (Lit.int .i64 f).wf = true) (_ht : (Lit.int .i64 t).wf = true) (w : World) :
    Calls Try.prog 3 #[.agg #[.int .i64 k, .int .i64 r, .int .i64 c, .int .i64 q], .int .i64 f, .int .i64 t] w fun e w' => e = .returned (.bool true) ∧ Below w.heap.size w w' := by
  obtain ⟨v, x, C0, C1⟩ := need_two k r c q f t
  obtain ⟨w0, hw0⟩ : ∃ w0, w0 = w.alloc (.cells #[.int .i64 k, .int .i64 r, .int .i64 c, .int .i64 q] 23) := ⟨_, rfl⟩
  have b0 : Below w.heap.size w w0 := by rw [hw0]; exact below_alloc _ _
  go_enter Try.func3, Try.ntmps3
  go_wp2_with fail
  rw [← hw0]
  refine (awake_any _).mono ?_
  rintro e wp ⟨rfl, hp⟩
  obtain ⟨s0, s1, s2, s3⟩ := par_held hw0 hp
  go_wp2_with fail
  refine (C0 _).mono ?_
  rintro e v0 ⟨rfl, g0⟩
  have k0 := below_then hp g0
  clear s0 s1 s2 s3
  obtain ⟨s0, s1, s2, s3⟩ := par_held hw0 k0
  go_wp2_with fail
  refine (C1 _).mono ?_
  rintro e v1 ⟨rfl, g1⟩
  have k1 := below_then k0 g1
  go_wp2_with fail
  go_ret
  exact ⟨rfl, below_then b0 k1⟩
end Go.Proofs.Ytmekefgokahjpaa
