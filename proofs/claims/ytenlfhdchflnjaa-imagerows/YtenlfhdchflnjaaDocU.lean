/- ImageRows, for all that comes in. -/
import Derived.Test.YtenlfhdchflnjaaDocT
namespace Go.Proofs.Ytenlfhdchflnjaa
open Go.RowKit
section
variable {k1 r1 c1 q1 k2 r2 c2 q2 : Int} {n1 n2 : Nat}
set_option maxHeartbeats 2000000 in
set_option maxRecDepth 100000 in
theorem Rows_much (x1 x2 : Bool) (hx1 : x1 = decide (2000 < n1)) (hx2 : x2 = decide (2000 < n2)) (hb : x1 = true ∨ x2 = true) (o k3 r3 c3 q3 : Int) (lo1 lo2 : Option Addr) (cl1 cl2 : Nat) (w : World) :
    Calls Try.prog 5 #[.agg #[.int .i64 k1, .int .i64 r1, .int .i64 c1, .int .i64 q1, .slice lo1 n1 cl1], .agg #[.int .i64 k2, .int .i64 r2, .int .i64 c2, .int .i64 q2, .slice lo2 n2 cl2], .int .i64 o, .agg #[.int .i64 k3, .int .i64 r3, .int .i64 c3, .int .i64 q3]] w fun e w' => e = .returned (.bool true) ∧ Below w.heap.size w w' := by
  have HM1 : Hid (∀ v, Calls Try.prog 18 #[.agg #[.int .i64 k1, .int .i64 r1, .int .i64 c1, .int .i64 q1, .slice lo1 n1 cl1]] v fun e w' => e = .returned (.bool x1) ∧ Below v.heap.size v w') := fun v => much_any k1 r1 c1 q1 lo1 n1 cl1 v x1 hx1
  have HM2 : Hid (∀ v, Calls Try.prog 18 #[.agg #[.int .i64 k2, .int .i64 r2, .int .i64 c2, .int .i64 q2, .slice lo2 n2 cl2]] v fun e w' => e = .returned (.bool x2) ∧ Below v.heap.size v w') := fun v => much_any k2 r2 c2 q2 lo2 n2 cl2 v x2 hx2
  clear hx1 hx2
  obtain ⟨w0, hw0⟩ : ∃ w0, w0 = w.alloc (.cells #[.int .i64 k1, .int .i64 r1, .int .i64 c1, .int .i64 q1, .slice lo1 n1 cl1] 27) := ⟨_, rfl⟩
  obtain ⟨w1, hw1⟩ : ∃ w1, w1 = w0.alloc (.cells #[.int .i64 k2, .int .i64 r2, .int .i64 c2, .int .i64 q2, .slice lo2 n2 cl2] 27) := ⟨_, rfl⟩
  obtain ⟨w2, hw2⟩ : ∃ w2, w2 = w1.alloc (.cells #[.int .i64 k3, .int .i64 r3, .int .i64 c3, .int .i64 q3] 24) := ⟨_, rfl⟩
  have b0 : Below w.heap.size w w0 := by rw [hw0]; exact below_alloc _ _
  have b1 : Below w0.heap.size w0 w1 := by rw [hw1]; exact below_alloc _ _
  have b2 : Below w1.heap.size w1 w2 := by rw [hw2]; exact below_alloc _ _
  have z0 : w0.heap.size = w.heap.size + 1 := by rw [hw0]; simp
  have HB2 : Hid (Below w.heap.size w w2) := below_then b0 (below_then b1 b2)
  have CA : Hid (∀ v, Below w2.heap.size w2 v → v.cell? ⟨w.heap.size, 0, none⟩ = some (.int .i64 k1) ∧ v.cell? ⟨w.heap.size, 1, none⟩ = some (.int .i64 r1) ∧ v.cell? ⟨w.heap.size, 2, none⟩ = some (.int .i64 c1) ∧ v.cell? ⟨w.heap.size, 3, none⟩ = some (.int .i64 q1) ∧ v.cell? ⟨w.heap.size, 4, none⟩ = some (.slice lo1 n1 cl1)) := fun v hv => img_held hw0 (below_then b1 (below_then b2 hv))
  have CB : Hid (∀ v, Below w2.heap.size w2 v → v.cell? ⟨w.heap.size + 1, 0, none⟩ = some (.int .i64 k2) ∧ v.cell? ⟨w.heap.size + 1, 1, none⟩ = some (.int .i64 r2) ∧ v.cell? ⟨w.heap.size + 1, 2, none⟩ = some (.int .i64 c2) ∧ v.cell? ⟨w.heap.size + 1, 3, none⟩ = some (.int .i64 q2) ∧ v.cell? ⟨w.heap.size + 1, 4, none⟩ = some (.slice lo2 n2 cl2)) := fun v hv => by rw [← z0]; exact img_held hw1 (below_then b2 hv)
  clear b0 b1 b2 z0
  cases x1 with
  | true =>
    clear hb
    go_enter Try.func5, Try.ntmps5
    go_wp2_with fail
    rw [← hw0, ← hw1, ← hw2]
    clear hw0 hw1 hw2
    refine (alive_any w2).mono ?_
    rintro e wa ⟨rfl, ha⟩
    have HA : Hid (Below w2.heap.size w2 wa) := ha
    obtain ⟨c0, c1, c2, c3, c4⟩ := CA.out wa ha
    clear ha
    go_wp2_with (go_at_call 18; refine (HM1.out _).mono ?_; rintro e wb ⟨rfl, hb⟩; have HB : Hid (Below w2.heap.size w2 wb) := below_then HA.out hb; clear hb)
    go_ret
    exact ⟨rfl, below_then HB2.out HB.out⟩
  | false =>
    obtain rfl : x2 = true := by rcases hb with e | e; cases e; exact e
    clear hb
    go_enter Try.func5, Try.ntmps5
    go_wp2_with fail
    rw [← hw0, ← hw1, ← hw2]
    clear hw0 hw1 hw2
    refine (alive_any w2).mono ?_
    rintro e wa ⟨rfl, ha⟩
    have HA : Hid (Below w2.heap.size w2 wa) := ha
    obtain ⟨c0, c1, c2, c3, c4⟩ := CA.out wa ha
    clear ha
    have tok1 : True := trivial
    go_wp2_with (first
      | (go_at_call 18; have _t := tok1; clear _t tok1; refine (HM1.out _).mono ?_; rintro e wb ⟨rfl, hb⟩; have HB : Hid (Below w2.heap.size w2 wb) := below_then HA.out hb; obtain ⟨d0, d1, d2, d3, d4⟩ := CB.out wb HB.out; clear hb)
      | (go_at_call 18; refine (HM2.out _).mono ?_; rintro e wc ⟨rfl, hc⟩; have HC : Hid (Below w2.heap.size w2 wc) := below_then HB.out hc; clear hc))
    go_ret
    exact ⟨rfl, below_then HB2.out HC.out⟩
end
theorem RowsL_any (k1 r1 c1 q1 k2 r2 c2 q2 o k3 r3 c3 q3 : Int) (lo1 : Option Addr) (n1 cl1 : Nat) (A1 : Nat → Option Addr) (C1 : Nat → Nat) (F1 : Nat → List UInt8) (lo2 : Option Addr) (n2 cl2 : Nat) (A2 : Nat → Option Addr) (C2 : Nat → Nat) (F2 : Nat → List UInt8) (hF1 : ∀ i, i < n1 → (F1 i).length ≤ 140737488355328) (hF2 : ∀ i, i < n2 → (F2 i).length ≤ 140737488355328) (w : World) (h1 : Lst w lo1 n1 A1 C1 F1) (h2 : Lst w lo2 n2 A2 C2 F2) :
    Calls Try.prog 5 #[.agg #[.int .i64 k1, .int .i64 r1, .int .i64 c1, .int .i64 q1, .slice lo1 n1 cl1], .agg #[.int .i64 k2, .int .i64 r2, .int .i64 c2, .int .i64 q2, .slice lo2 n2 cl2], .int .i64 o, .agg #[.int .i64 k3, .int .i64 r3, .int .i64 c3, .int .i64 q3]] w fun e w' => e = .returned (.bool true) ∧ Below w.heap.size w w' := by
  by_cases hn : 2000 < n1 ∨ 2000 < n2
  · refine Rows_much (decide (2000 < n1)) (decide (2000 < n2)) rfl rfl ?_ o k3 r3 c3 q3 lo1 lo2 cl1 cl2 w
    rcases hn with h | h
    · exact .inl (decide_eq_true h)
    · exact .inr (decide_eq_true h)
  · exact Rows_go o k3 r3 c3 q3 (by omega) (by omega) lo1 lo2 cl1 cl2 A1 A2 C1 C2 w h1 h2 hF1 hF2
end Go.Proofs.Ytenlfhdchflnjaa
