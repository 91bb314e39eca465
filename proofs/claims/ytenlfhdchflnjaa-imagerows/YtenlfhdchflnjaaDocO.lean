/- What makes one image of another one, as the document tells it. -/
import Derived.Test.YtenlfhdchflnjaaDocN
import Derived.Test.YtenlfhdchflnjaaDocE
namespace Go.Proofs.Ytenlfhdchflnjaa
open Go.RowKit

section
variable {k1 r1 c1 q1 : Int} {n1 : Nat} {F : Nat → List UInt8} {k2 r2 c2 q2 : Int} {n2 : Nat} {G : Nat → List UInt8} {N Q S N2 Q2 S2 : Nat}
set_option maxHeartbeats 4000000 in
set_option maxRecDepth 100000 in
theorem DiffD_e1 {x : Int} (hck : Ck k1 r1 c1 q1 n1 F x N Q S) (hx : ¬ x = 0) (lo1 lo2 : Option Addr) (cl1 cl2 : Nat) (A1 : Nat → Option Addr) (E1 : Nat → Nat) (w : World) (h1 : Lst w lo1 n1 A1 E1 F) :
    Calls Try.prog 31 #[.agg #[.int .i64 k1, .int .i64 r1, .int .i64 c1, .int .i64 q1, .slice lo1 n1 cl1], .agg #[.int .i64 k2, .int .i64 r2, .int .i64 c2, .int .i64 q2, .slice lo2 n2 cl2]] w fun e w' => ∃ po pc B K, e = .returned (.tuple #[.slice po 0 pc, .int .i64 x]) ∧ Pus false w' w.heap.size po 0 pc (fun _ => p0) B K ∧ Below w.heap.size w w' := by
  obtain ⟨w0, hw0⟩ : ∃ w0, w0 = w.alloc (.cells #[.int .i64 k1, .int .i64 r1, .int .i64 c1, .int .i64 q1, .slice lo1 n1 cl1] 27) := ⟨_, rfl⟩
  obtain ⟨w1, hw1⟩ : ∃ w1, w1 = w0.alloc (.cells #[.int .i64 k2, .int .i64 r2, .int .i64 c2, .int .i64 q2, .slice lo2 n2 cl2] 27) := ⟨_, rfl⟩
  have b0 : Below w.heap.size w w0 := by rw [hw0]; exact below_alloc _ _
  have b1 : Below w0.heap.size w0 w1 := by rw [hw1]; exact below_alloc _ _
  have z0 : w0.heap.size = w.heap.size + 1 := by rw [hw0]; simp
  have z1 : w.heap.size + 2 ≤ w1.heap.size := by rw [hw1]; simp; omega
  have HB1 : Hid (Below w.heap.size w w1) := below_then b0 b1
  have S1 : Hid (∀ v, Below w1.heap.size w1 v → v.cell? ⟨w.heap.size, 0, none⟩ = some (.int .i64 k1) ∧ v.cell? ⟨w.heap.size, 1, none⟩ = some (.int .i64 r1) ∧ v.cell? ⟨w.heap.size, 2, none⟩ = some (.int .i64 c1) ∧ v.cell? ⟨w.heap.size, 3, none⟩ = some (.int .i64 q1) ∧ v.cell? ⟨w.heap.size, 4, none⟩ = some (.slice lo1 n1 cl1)) := fun v hv => img_held hw0 (below_then b1 hv)
  have S2 : Hid (∀ v, Below w1.heap.size w1 v → v.cell? ⟨w.heap.size + 1, 0, none⟩ = some (.int .i64 k2) ∧ v.cell? ⟨w.heap.size + 1, 1, none⟩ = some (.int .i64 r2) ∧ v.cell? ⟨w.heap.size + 1, 2, none⟩ = some (.int .i64 c2) ∧ v.cell? ⟨w.heap.size + 1, 3, none⟩ = some (.int .i64 q2) ∧ v.cell? ⟨w.heap.size + 1, 4, none⟩ = some (.slice lo2 n2 cl2)) := fun v hv => by rw [← z0]; exact img_held hw1 hv
  have HC := Check_doc hck lo1 cl1 A1 E1 w1 (h1.below HB1.out)
  have hx2 : (x != 0) = true := by simp; exact hx
  clear hck h1 hx
  go_enter Try.func31, Try.ntmps31
  go_wp2_with fail
  rw [← hw0, ← hw1]
  clear hw0 hw1 b0 b1 z0
  refine HC.mono ?_
  rintro e wa ⟨rfl, ha⟩
  have HA : Hid (Below w1.heap.size w1 wa) := ha
  clear ha HC
  go_wp2_with fail
  go_ret2
  exact ⟨none, 0, fun _ => none, fun _ => 0, rfl, pus_nil _ _ _ _ _ _, below_then HB1.out HA.out⟩
set_option maxHeartbeats 4000000 in
set_option maxRecDepth 100000 in
theorem DiffD_e2 {x : Int} (hck : Ck k1 r1 c1 q1 n1 F 0 N Q S) (hck2 : Ck k2 r2 c2 q2 n2 G x N2 Q2 S2) (hx : ¬ x = 0) (lo1 lo2 : Option Addr) (cl1 cl2 : Nat) (A1 A2 : Nat → Option Addr) (E1 E2 : Nat → Nat) (w : World) (h1 : Lst w lo1 n1 A1 E1 F) (h2 : Lst w lo2 n2 A2 E2 G) :
    Calls Try.prog 31 #[.agg #[.int .i64 k1, .int .i64 r1, .int .i64 c1, .int .i64 q1, .slice lo1 n1 cl1], .agg #[.int .i64 k2, .int .i64 r2, .int .i64 c2, .int .i64 q2, .slice lo2 n2 cl2]] w fun e w' => ∃ po pc B K, e = .returned (.tuple #[.slice po 0 pc, .int .i64 x]) ∧ Pus false w' w.heap.size po 0 pc (fun _ => p0) B K ∧ Below w.heap.size w w' := by
  obtain ⟨w0, hw0⟩ : ∃ w0, w0 = w.alloc (.cells #[.int .i64 k1, .int .i64 r1, .int .i64 c1, .int .i64 q1, .slice lo1 n1 cl1] 27) := ⟨_, rfl⟩
  obtain ⟨w1, hw1⟩ : ∃ w1, w1 = w0.alloc (.cells #[.int .i64 k2, .int .i64 r2, .int .i64 c2, .int .i64 q2, .slice lo2 n2 cl2] 27) := ⟨_, rfl⟩
  have b0 : Below w.heap.size w w0 := by rw [hw0]; exact below_alloc _ _
  have b1 : Below w0.heap.size w0 w1 := by rw [hw1]; exact below_alloc _ _
  have z0 : w0.heap.size = w.heap.size + 1 := by rw [hw0]; simp
  have z1 : w.heap.size + 2 ≤ w1.heap.size := by rw [hw1]; simp; omega
  have HB1 : Hid (Below w.heap.size w w1) := below_then b0 b1
  have S1 : Hid (∀ v, Below w1.heap.size w1 v → v.cell? ⟨w.heap.size, 0, none⟩ = some (.int .i64 k1) ∧ v.cell? ⟨w.heap.size, 1, none⟩ = some (.int .i64 r1) ∧ v.cell? ⟨w.heap.size, 2, none⟩ = some (.int .i64 c1) ∧ v.cell? ⟨w.heap.size, 3, none⟩ = some (.int .i64 q1) ∧ v.cell? ⟨w.heap.size, 4, none⟩ = some (.slice lo1 n1 cl1)) := fun v hv => img_held hw0 (below_then b1 hv)
  have S2 : Hid (∀ v, Below w1.heap.size w1 v → v.cell? ⟨w.heap.size + 1, 0, none⟩ = some (.int .i64 k2) ∧ v.cell? ⟨w.heap.size + 1, 1, none⟩ = some (.int .i64 r2) ∧ v.cell? ⟨w.heap.size + 1, 2, none⟩ = some (.int .i64 c2) ∧ v.cell? ⟨w.heap.size + 1, 3, none⟩ = some (.int .i64 q2) ∧ v.cell? ⟨w.heap.size + 1, 4, none⟩ = some (.slice lo2 n2 cl2)) := fun v hv => by rw [← z0]; exact img_held hw1 hv
  have HC := Check_doc hck lo1 cl1 A1 E1 w1 (h1.below HB1.out)
  have hx2 : (x != 0) = true := by simp; exact hx
  have HL2 : Hid (Lst w lo2 n2 A2 E2 G) := h2
  clear hck h1 h2 hx
  go_enter Try.func31, Try.ntmps31
  go_wp2_with fail
  rw [← hw0, ← hw1]
  clear hw0 hw1 b0 b1 z0
  refine HC.mono ?_
  rintro e wa ⟨rfl, ha⟩
  have HA : Hid (Below w1.heap.size w1 wa) := ha
  clear ha HC
  obtain ⟨t0, t1, t2, t3, t4⟩ := S2.out wa HA.out
  have HC2 := Check_doc hck2 lo2 cl2 A2 E2 wa (HL2.out.below (below_then HB1.out HA.out))
  clear hck2
  go_wp2_with fail
  clear t0 t1 t2 t3 t4
  refine HC2.mono ?_
  rintro e wc ⟨rfl, hc⟩
  have HBc : Hid (Below w1.heap.size w1 wc) := below_then HA.out hc
  clear HC2 hc
  go_wp2_with fail
  go_ret2
  exact ⟨none, 0, fun _ => none, fun _ => 0, rfl, pus_nil _ _ _ _ _ _, below_then HB1.out HBc.out⟩
set_option maxHeartbeats 4000000 in
set_option maxRecDepth 100000 in
theorem DiffD_e3 (hck : Ck k1 r1 c1 q1 n1 F 0 N Q S) (hck2 : Ck k2 r2 c2 q2 n2 G 0 N2 Q2 S2) (hp : ¬ (k1 = k2 ∧ r1 = r2 ∧ c1 = c2 ∧ q1 = q2)) (lo1 lo2 : Option Addr) (cl1 cl2 : Nat) (A1 A2 : Nat → Option Addr) (E1 E2 : Nat → Nat) (w : World) (h1 : Lst w lo1 n1 A1 E1 F) (h2 : Lst w lo2 n2 A2 E2 G) :
    Calls Try.prog 31 #[.agg #[.int .i64 k1, .int .i64 r1, .int .i64 c1, .int .i64 q1, .slice lo1 n1 cl1], .agg #[.int .i64 k2, .int .i64 r2, .int .i64 c2, .int .i64 q2, .slice lo2 n2 cl2]] w fun e w' => ∃ po pc B K, e = .returned (.tuple #[.slice po 0 pc, .int .i64 90]) ∧ Pus false w' w.heap.size po 0 pc (fun _ => p0) B K ∧ Below w.heap.size w w' := by
  obtain ⟨w0, hw0⟩ : ∃ w0, w0 = w.alloc (.cells #[.int .i64 k1, .int .i64 r1, .int .i64 c1, .int .i64 q1, .slice lo1 n1 cl1] 27) := ⟨_, rfl⟩
  obtain ⟨w1, hw1⟩ : ∃ w1, w1 = w0.alloc (.cells #[.int .i64 k2, .int .i64 r2, .int .i64 c2, .int .i64 q2, .slice lo2 n2 cl2] 27) := ⟨_, rfl⟩
  have b0 : Below w.heap.size w w0 := by rw [hw0]; exact below_alloc _ _
  have b1 : Below w0.heap.size w0 w1 := by rw [hw1]; exact below_alloc _ _
  have z0 : w0.heap.size = w.heap.size + 1 := by rw [hw0]; simp
  have z1 : w.heap.size + 2 ≤ w1.heap.size := by rw [hw1]; simp; omega
  have HB1 : Hid (Below w.heap.size w w1) := below_then b0 b1
  have S1 : Hid (∀ v, Below w1.heap.size w1 v → v.cell? ⟨w.heap.size, 0, none⟩ = some (.int .i64 k1) ∧ v.cell? ⟨w.heap.size, 1, none⟩ = some (.int .i64 r1) ∧ v.cell? ⟨w.heap.size, 2, none⟩ = some (.int .i64 c1) ∧ v.cell? ⟨w.heap.size, 3, none⟩ = some (.int .i64 q1) ∧ v.cell? ⟨w.heap.size, 4, none⟩ = some (.slice lo1 n1 cl1)) := fun v hv => img_held hw0 (below_then b1 hv)
  have S2 : Hid (∀ v, Below w1.heap.size w1 v → v.cell? ⟨w.heap.size + 1, 0, none⟩ = some (.int .i64 k2) ∧ v.cell? ⟨w.heap.size + 1, 1, none⟩ = some (.int .i64 r2) ∧ v.cell? ⟨w.heap.size + 1, 2, none⟩ = some (.int .i64 c2) ∧ v.cell? ⟨w.heap.size + 1, 3, none⟩ = some (.int .i64 q2) ∧ v.cell? ⟨w.heap.size + 1, 4, none⟩ = some (.slice lo2 n2 cl2)) := fun v hv => by rw [← z0]; exact img_held hw1 hv
  have HC := Check_doc hck lo1 cl1 A1 E1 w1 (h1.below HB1.out)
  have HL2 : Hid (Lst w lo2 n2 A2 E2 G) := h2
  clear hck h1 h2
  go_enter Try.func31, Try.ntmps31
  go_wp2_with fail
  rw [← hw0, ← hw1]
  clear hw0 hw1 b0 b1 z0
  refine HC.mono ?_
  rintro e wa ⟨rfl, ha⟩
  have HA : Hid (Below w1.heap.size w1 wa) := ha
  clear ha HC
  obtain ⟨t0, t1, t2, t3, t4⟩ := S2.out wa HA.out
  have HC2 := Check_doc hck2 lo2 cl2 A2 E2 wa (HL2.out.below (below_then HB1.out HA.out))
  clear hck2
  go_wp2_with fail
  clear t0 t1 t2 t3 t4
  refine HC2.mono ?_
  rintro e wc ⟨rfl, hc⟩
  have HBc : Hid (Below w1.heap.size w1 wc) := below_then HA.out hc
  clear HC2 hc
  obtain ⟨s0, s1, s2, s3, s4⟩ := S1.out wc HBc.out
  obtain ⟨t0, t1, t2, t3, t4⟩ := S2.out wc HBc.out
  rcases par_eq k1 r1 c1 q1 k2 r2 c2 q2 with h | hp2
  · exact absurd h hp
  · clear hp
    rcases hp2 with e1 | ⟨e1, e2⟩ | ⟨e1, e2, e3⟩ | ⟨e1, e2, e3, e4⟩
    all_goals
      go_wp2_with fail
      go_ret2
      exact ⟨none, 0, fun _ => none, fun _ => 0, rfl, pus_nil _ _ _ _ _ _, below_then HB1.out HBc.out⟩
end
end Go.Proofs.Ytenlfhdchflnjaa
