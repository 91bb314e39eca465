/- What is told to make one image of another one does so. -/
import Derived.Test.YtenlfhdchflnjaaImgS
namespace Go.Proofs.Ytenlfhdchflnjaa
open Go.RowKit

section
variable {k r c q : Int} {n : Nat} {F : Nat → List UInt8} {k2 r2 c2 q2 : Int} {n2 : Nat} {G : Nat → List UInt8} {N Q S : Nat}
set_option maxHeartbeats 2000000 in
set_option maxRecDepth 100000 in
theorem Diffs_big1 (hn : 2000 < n) (lo lo2 : Option Addr) (cl cl2 : Nat) (w : World) :
    Calls Try.prog 8 #[.agg #[.int .i64 k, .int .i64 r, .int .i64 c, .int .i64 q, .slice lo n cl], .agg #[.int .i64 k2, .int .i64 r2, .int .i64 c2, .int .i64 q2, .slice lo2 n2 cl2]] w fun e w' => e = .returned (.bool true) ∧ Below w.heap.size w w' := by
  obtain ⟨w0, hw0⟩ : ∃ w0, w0 = w.alloc (.cells #[.int .i64 k, .int .i64 r, .int .i64 c, .int .i64 q, .slice lo n cl] 27) := ⟨_, rfl⟩
  obtain ⟨w1, hw1⟩ : ∃ w1, w1 = w0.alloc (.cells #[.int .i64 k2, .int .i64 r2, .int .i64 c2, .int .i64 q2, .slice lo2 n2 cl2] 27) := ⟨_, rfl⟩
  have b0 : Below w.heap.size w w0 := by rw [hw0]; exact below_alloc _ _
  have b1 : Below w0.heap.size w0 w1 := by rw [hw1]; exact below_alloc _ _
  have z0 : w0.heap.size = w.heap.size + 1 := by rw [hw0]; simp
  have HB1 : Hid (Below w.heap.size w w1) := below_then b0 b1
  have SA : Hid (∀ v, Below w1.heap.size w1 v → v.cell? ⟨w.heap.size, 0, none⟩ = some (.int .i64 k) ∧ v.cell? ⟨w.heap.size, 1, none⟩ = some (.int .i64 r) ∧ v.cell? ⟨w.heap.size, 2, none⟩ = some (.int .i64 c) ∧ v.cell? ⟨w.heap.size, 3, none⟩ = some (.int .i64 q) ∧ v.cell? ⟨w.heap.size, 4, none⟩ = some (.slice lo n cl)) := fun v hv => img_held hw0 (below_then b1 hv)
  have SB : Hid (∀ v, Below w1.heap.size w1 v → v.cell? ⟨w.heap.size + 1, 0, none⟩ = some (.int .i64 k2) ∧ v.cell? ⟨w.heap.size + 1, 1, none⟩ = some (.int .i64 r2) ∧ v.cell? ⟨w.heap.size + 1, 2, none⟩ = some (.int .i64 c2) ∧ v.cell? ⟨w.heap.size + 1, 3, none⟩ = some (.int .i64 q2) ∧ v.cell? ⟨w.heap.size + 1, 4, none⟩ = some (.slice lo2 n2 cl2)) := fun v hv => by rw [← z0]; exact img_held hw1 hv
  have HAL := alive_any w1
  have HM1 := fun v => much_any k r c q lo n cl v true (decide_eq_true hn).symm
  have HM2 := fun v => much_any k2 r2 c2 q2 lo2 n2 cl2 v (decide (2000 < n2)) rfl
  have tk1 : True := trivial
  clear z0 b0 b1 hn
  go_enter Try.func8, Try.ntmps8
  go_wp2_with fail
  rw [← hw0, ← hw1]
  clear hw0 hw1
  refine HAL.mono ?_
  rintro e w2 ⟨rfl, hb2⟩
  obtain ⟨s0, s1, s2, s3, s4⟩ := SA.out w2 hb2
  have HB2 : Hid (Below w1.heap.size w1 w2) := hb2
  clear HAL hb2
  clear HM2
  go_wp2_with (go_at_call 18; refine (HM1 _).mono ?_; rintro e w3 ⟨rfl, hb3⟩)
  go_ret
  exact ⟨rfl, below_then HB1.out (below_then HB2.out hb3)⟩
set_option maxHeartbeats 2000000 in
set_option maxRecDepth 100000 in
theorem Diffs_big2 (hn : n ≤ 2000) (hn2 : 2000 < n2) (lo lo2 : Option Addr) (cl cl2 : Nat) (w : World) :
    Calls Try.prog 8 #[.agg #[.int .i64 k, .int .i64 r, .int .i64 c, .int .i64 q, .slice lo n cl], .agg #[.int .i64 k2, .int .i64 r2, .int .i64 c2, .int .i64 q2, .slice lo2 n2 cl2]] w fun e w' => e = .returned (.bool true) ∧ Below w.heap.size w w' := by
  obtain ⟨w0, hw0⟩ : ∃ w0, w0 = w.alloc (.cells #[.int .i64 k, .int .i64 r, .int .i64 c, .int .i64 q, .slice lo n cl] 27) := ⟨_, rfl⟩
  obtain ⟨w1, hw1⟩ : ∃ w1, w1 = w0.alloc (.cells #[.int .i64 k2, .int .i64 r2, .int .i64 c2, .int .i64 q2, .slice lo2 n2 cl2] 27) := ⟨_, rfl⟩
  have b0 : Below w.heap.size w w0 := by rw [hw0]; exact below_alloc _ _
  have b1 : Below w0.heap.size w0 w1 := by rw [hw1]; exact below_alloc _ _
  have z0 : w0.heap.size = w.heap.size + 1 := by rw [hw0]; simp
  have HB1 : Hid (Below w.heap.size w w1) := below_then b0 b1
  have SA : Hid (∀ v, Below w1.heap.size w1 v → v.cell? ⟨w.heap.size, 0, none⟩ = some (.int .i64 k) ∧ v.cell? ⟨w.heap.size, 1, none⟩ = some (.int .i64 r) ∧ v.cell? ⟨w.heap.size, 2, none⟩ = some (.int .i64 c) ∧ v.cell? ⟨w.heap.size, 3, none⟩ = some (.int .i64 q) ∧ v.cell? ⟨w.heap.size, 4, none⟩ = some (.slice lo n cl)) := fun v hv => img_held hw0 (below_then b1 hv)
  have SB : Hid (∀ v, Below w1.heap.size w1 v → v.cell? ⟨w.heap.size + 1, 0, none⟩ = some (.int .i64 k2) ∧ v.cell? ⟨w.heap.size + 1, 1, none⟩ = some (.int .i64 r2) ∧ v.cell? ⟨w.heap.size + 1, 2, none⟩ = some (.int .i64 c2) ∧ v.cell? ⟨w.heap.size + 1, 3, none⟩ = some (.int .i64 q2) ∧ v.cell? ⟨w.heap.size + 1, 4, none⟩ = some (.slice lo2 n2 cl2)) := fun v hv => by rw [← z0]; exact img_held hw1 hv
  have HAL := alive_any w1
  have HM1 := fun v => much_any k r c q lo n cl v false (decide_eq_false (by omega)).symm
  have HM2 := fun v => much_any k2 r2 c2 q2 lo2 n2 cl2 v true (decide_eq_true hn2).symm
  have tk1 : True := trivial
  clear z0 b0 b1 hn hn2
  go_enter Try.func8, Try.ntmps8
  go_wp2_with fail
  rw [← hw0, ← hw1]
  clear hw0 hw1
  refine HAL.mono ?_
  rintro e w2 ⟨rfl, hb2⟩
  obtain ⟨s0, s1, s2, s3, s4⟩ := SA.out w2 hb2
  have HB2 : Hid (Below w1.heap.size w1 w2) := hb2
  clear HAL hb2
  go_wp2_with (first | (go_at_call 18; have _t := tk1; refine (HM1 _).mono ?_; rintro e w3 ⟨rfl, hb3⟩; have HB3 : Hid (Below w1.heap.size w1 w3) := below_then HB2.out hb3; obtain ⟨t0, t1, t2, t3, t4⟩ := SB.out w3 HB3.out; clear hb3 tk1) | (go_at_call 18; refine (HM2 _).mono ?_; rintro e w4 ⟨rfl, hb4⟩; have HB4 : Hid (Below w1.heap.size w1 w4) := below_then HB3.out hb4; obtain ⟨s0, s1, s2, s3, s4⟩ := SA.out w4 HB4.out; clear hb4))
  go_ret
  exact ⟨rfl, below_then HB1.out HB4.out⟩
set_option maxHeartbeats 2000000 in
set_option maxRecDepth 100000 in
theorem Diffs_e1 {x : Int} (hck : Ck k r c q n F x N Q S) (hx : ¬ x = 0) (hn : n ≤ 2000) (hn2 : n2 ≤ 2000) (lo lo2 : Option Addr) (cl cl2 : Nat) (A : Nat → Option Addr) (C : Nat → Nat) (w : World) (h1 : Lst w lo n A C F) :
    Calls Try.prog 8 #[.agg #[.int .i64 k, .int .i64 r, .int .i64 c, .int .i64 q, .slice lo n cl], .agg #[.int .i64 k2, .int .i64 r2, .int .i64 c2, .int .i64 q2, .slice lo2 n2 cl2]] w fun e w' => e = .returned (.bool true) ∧ Below w.heap.size w w' := by
  have hdf : Dff k r c q n F k r c q n F x 0 (fun _ => p0) := ⟨x, N, Q, S, x, N, Q, S, hck, hck, .inr ⟨⟨rfl, rfl⟩, .inl ⟨hx, rfl⟩⟩⟩
  have HL : Hid (Lst w lo n A C F) := h1
  have HCK : Hid (Ck k r c q n F x N Q S) := hck
  have ex : (x != 0) = true := by simp; exact hx
  have exx : (x == x) = true := by simp
  clear hck h1
  obtain ⟨w0, hw0⟩ : ∃ w0, w0 = w.alloc (.cells #[.int .i64 k, .int .i64 r, .int .i64 c, .int .i64 q, .slice lo n cl] 27) := ⟨_, rfl⟩
  obtain ⟨w1, hw1⟩ : ∃ w1, w1 = w0.alloc (.cells #[.int .i64 k2, .int .i64 r2, .int .i64 c2, .int .i64 q2, .slice lo2 n2 cl2] 27) := ⟨_, rfl⟩
  have b0 : Below w.heap.size w w0 := by rw [hw0]; exact below_alloc _ _
  have b1 : Below w0.heap.size w0 w1 := by rw [hw1]; exact below_alloc _ _
  have z0 : w0.heap.size = w.heap.size + 1 := by rw [hw0]; simp
  have HB1 : Hid (Below w.heap.size w w1) := below_then b0 b1
  have SA : Hid (∀ v, Below w1.heap.size w1 v → v.cell? ⟨w.heap.size, 0, none⟩ = some (.int .i64 k) ∧ v.cell? ⟨w.heap.size, 1, none⟩ = some (.int .i64 r) ∧ v.cell? ⟨w.heap.size, 2, none⟩ = some (.int .i64 c) ∧ v.cell? ⟨w.heap.size, 3, none⟩ = some (.int .i64 q) ∧ v.cell? ⟨w.heap.size, 4, none⟩ = some (.slice lo n cl)) := fun v hv => img_held hw0 (below_then b1 hv)
  have SB : Hid (∀ v, Below w1.heap.size w1 v → v.cell? ⟨w.heap.size + 1, 0, none⟩ = some (.int .i64 k2) ∧ v.cell? ⟨w.heap.size + 1, 1, none⟩ = some (.int .i64 r2) ∧ v.cell? ⟨w.heap.size + 1, 2, none⟩ = some (.int .i64 c2) ∧ v.cell? ⟨w.heap.size + 1, 3, none⟩ = some (.int .i64 q2) ∧ v.cell? ⟨w.heap.size + 1, 4, none⟩ = some (.slice lo2 n2 cl2)) := fun v hv => by rw [← z0]; exact img_held hw1 hv
  have HAL := alive_any w1
  have HM1 := fun v => much_any k r c q lo n cl v false (decide_eq_false (by omega)).symm
  have HM2 := fun v => much_any k2 r2 c2 q2 lo2 n2 cl2 v false (decide_eq_false (by omega)).symm
  have tk1 : True := trivial
  clear z0 b0 b1 hx
  go_enter Try.func8, Try.ntmps8
  go_wp2_with fail
  rw [← hw0, ← hw1]
  clear hw0 hw1
  refine HAL.mono ?_
  rintro e w2 ⟨rfl, hb2⟩
  obtain ⟨s0, s1, s2, s3, s4⟩ := SA.out w2 hb2
  have HB2 : Hid (Below w1.heap.size w1 w2) := hb2
  clear HAL hb2
  go_wp2_with (first | (go_at_call 18; have _t := tk1; refine (HM1 _).mono ?_; rintro e w3 ⟨rfl, hb3⟩; have HB3 : Hid (Below w1.heap.size w1 w3) := below_then HB2.out hb3; obtain ⟨t0, t1, t2, t3, t4⟩ := SB.out w3 HB3.out; clear hb3 tk1) | (go_at_call 18; refine (HM2 _).mono ?_; rintro e w4 ⟨rfl, hb4⟩; have HB4 : Hid (Below w1.heap.size w1 w4) := below_then HB3.out hb4; obtain ⟨s0, s1, s2, s3, s4⟩ := SA.out w4 HB4.out; clear hb4) | fail)
  refine (Diff_any hdf lo lo cl cl A A C C w4 (HL.out.below (below_then HB1.out HB4.out)) (HL.out.below (below_then HB1.out HB4.out))).mono ?_
  rintro e w5 ⟨po, pc, B, K, rfl, hpu, hb5⟩
  have HB5 : Hid (Below w1.heap.size w1 w5) := below_then HB4.out hb5
  obtain ⟨u0, u1, u2, u3, u4⟩ := SA.out w5 HB5.out
  have HCH := Check_img HCK.out lo cl A C w5 (HL.out.below (below_then HB1.out HB5.out))
  clear hpu hb5 hdf
  go_wp2_with (go_at_call 17; refine HCH.mono ?_; rintro e w6 ⟨rfl, hb6⟩)
  go_ret
  exact ⟨rfl, below_then HB1.out (below_then HB5.out hb6)⟩
set_option maxHeartbeats 2000000 in
set_option maxRecDepth 100000 in
theorem Diffs_e2 {x : Int} {D : Nat → Pt} (hck : Ck k r c q n F 0 N Q S) (hab : Dff k r c q n F k2 r2 c2 q2 n2 G x 0 D) (hx : ¬ x = 0) (hn : n ≤ 2000) (hn2 : n2 ≤ 2000) (lo lo2 : Option Addr) (cl cl2 : Nat) (A A2 : Nat → Option Addr) (C C2 : Nat → Nat) (w : World) (h1 : Lst w lo n A C F) (h2 : Lst w lo2 n2 A2 C2 G) :
    Calls Try.prog 8 #[.agg #[.int .i64 k, .int .i64 r, .int .i64 c, .int .i64 q, .slice lo n cl], .agg #[.int .i64 k2, .int .i64 r2, .int .i64 c2, .int .i64 q2, .slice lo2 n2 cl2]] w fun e w' => e = .returned (.bool true) ∧ Below w.heap.size w w' := by
  have haa : Dff k r c q n F k r c q n F 0 0 (fun j => (dfs Q F F n).getD j p0) := ⟨0, N, Q, S, 0, N, Q, S, hck, hck, .inl ⟨rfl, rfl, ⟨rfl, rfl, rfl, rfl⟩, fun i _ h => absurd rfl h, rfl, (dfs_zero.2 fun _ _ => rfl).symm, rfl⟩⟩
  have HL : Hid (Lst w lo n A C F) := h1
  have HL2 : Hid (Lst w lo2 n2 A2 C2 G) := h2
  have HCK : Hid (Ck k r c q n F 0 N Q S) := hck
  have ex : (x != 0) = true := by simp; exact hx
  clear hck h1 h2
  obtain ⟨w0, hw0⟩ : ∃ w0, w0 = w.alloc (.cells #[.int .i64 k, .int .i64 r, .int .i64 c, .int .i64 q, .slice lo n cl] 27) := ⟨_, rfl⟩
  obtain ⟨w1, hw1⟩ : ∃ w1, w1 = w0.alloc (.cells #[.int .i64 k2, .int .i64 r2, .int .i64 c2, .int .i64 q2, .slice lo2 n2 cl2] 27) := ⟨_, rfl⟩
  have b0 : Below w.heap.size w w0 := by rw [hw0]; exact below_alloc _ _
  have b1 : Below w0.heap.size w0 w1 := by rw [hw1]; exact below_alloc _ _
  have z0 : w0.heap.size = w.heap.size + 1 := by rw [hw0]; simp
  have HB1 : Hid (Below w.heap.size w w1) := below_then b0 b1
  have SA : Hid (∀ v, Below w1.heap.size w1 v → v.cell? ⟨w.heap.size, 0, none⟩ = some (.int .i64 k) ∧ v.cell? ⟨w.heap.size, 1, none⟩ = some (.int .i64 r) ∧ v.cell? ⟨w.heap.size, 2, none⟩ = some (.int .i64 c) ∧ v.cell? ⟨w.heap.size, 3, none⟩ = some (.int .i64 q) ∧ v.cell? ⟨w.heap.size, 4, none⟩ = some (.slice lo n cl)) := fun v hv => img_held hw0 (below_then b1 hv)
  have SB : Hid (∀ v, Below w1.heap.size w1 v → v.cell? ⟨w.heap.size + 1, 0, none⟩ = some (.int .i64 k2) ∧ v.cell? ⟨w.heap.size + 1, 1, none⟩ = some (.int .i64 r2) ∧ v.cell? ⟨w.heap.size + 1, 2, none⟩ = some (.int .i64 c2) ∧ v.cell? ⟨w.heap.size + 1, 3, none⟩ = some (.int .i64 q2) ∧ v.cell? ⟨w.heap.size + 1, 4, none⟩ = some (.slice lo2 n2 cl2)) := fun v hv => by rw [← z0]; exact img_held hw1 hv
  have HAL := alive_any w1
  have HM1 := fun v => much_any k r c q lo n cl v false (decide_eq_false (by omega)).symm
  have HM2 := fun v => much_any k2 r2 c2 q2 lo2 n2 cl2 v false (decide_eq_false (by omega)).symm
  have tk1 : True := trivial
  clear z0 b0 b1 hx
  go_enter Try.func8, Try.ntmps8
  go_wp2_with fail
  rw [← hw0, ← hw1]
  clear hw0 hw1
  refine HAL.mono ?_
  rintro e w2 ⟨rfl, hb2⟩
  obtain ⟨s0, s1, s2, s3, s4⟩ := SA.out w2 hb2
  have HB2 : Hid (Below w1.heap.size w1 w2) := hb2
  clear HAL hb2
  go_wp2_with (first | (go_at_call 18; have _t := tk1; refine (HM1 _).mono ?_; rintro e w3 ⟨rfl, hb3⟩; have HB3 : Hid (Below w1.heap.size w1 w3) := below_then HB2.out hb3; obtain ⟨t0, t1, t2, t3, t4⟩ := SB.out w3 HB3.out; clear hb3 tk1) | (go_at_call 18; refine (HM2 _).mono ?_; rintro e w4 ⟨rfl, hb4⟩; have HB4 : Hid (Below w1.heap.size w1 w4) := below_then HB3.out hb4; obtain ⟨s0, s1, s2, s3, s4⟩ := SA.out w4 HB4.out; clear hb4) | fail)
  refine (Diff_any haa lo lo cl cl A A C C w4 (HL.out.below (below_then HB1.out HB4.out)) (HL.out.below (below_then HB1.out HB4.out))).mono ?_
  rintro e w5 ⟨po0, pc0, B0, K0, rfl, hpu, hb5⟩
  have HB5 : Hid (Below w1.heap.size w1 w5) := below_then HB4.out hb5
  obtain ⟨u0, u1, u2, u3, u4⟩ := SA.out w5 HB5.out
  have HSM := Same_img (sme_refl k r c q n F) lo lo cl cl A A C C w5 (by omega) (HL.out.below (below_then HB1.out HB5.out)) (HL.out.below (below_then HB1.out HB5.out))
  clear hpu hb5 haa
  go_wp2_with (first | (go_at_call 34; refine HSM.mono ?_; rintro e w6 ⟨rfl, hb6⟩; have HB6 : Hid (Below w1.heap.size w1 w6) := below_then HB5.out hb6; obtain ⟨u0, u1, u2, u3, u4⟩ := SA.out w6 HB6.out; obtain ⟨v0, v1, v2, v3, v4⟩ := SB.out w6 HB6.out; clear hb6) | fail)
  refine (Diff_any hab lo lo2 cl cl2 A A2 C C2 w6 (HL.out.below (below_then HB1.out HB6.out)) (HL2.out.below (below_then HB1.out HB6.out))).mono ?_
  rintro e w7 ⟨po, pc, B, K, rfl, hpu, hb7⟩
  have HB7 : Hid (Below w1.heap.size w1 w7) := below_then HB6.out hb7
  clear hpu hb7 hab
  go_wp2_with fail
  go_ret
  exact ⟨rfl, below_then HB1.out HB7.out⟩
set_option maxHeartbeats 8000000 in
set_option maxRecDepth 100000 in
theorem Diffs_go (hck : Ck k r c (Q : Int) n F 0 N Q S) (hck2 : Ck k r c (Q : Int) n G 0 N Q S) (hall : ∀ i, i < n → ¬ F i = G i → ¬ G i = []) (hn : n ≤ 2000) (lo lo2 : Option Addr) (cl cl2 : Nat) (hcl : n ≤ cl) (hcl2 : n ≤ cl2) (A A2 : Nat → Option Addr) (C C2 : Nat → Nat) (w : World) (h1 : Lst w lo n A C F) (h2 : Lst w lo2 n A2 C2 G) :
    Calls Try.prog 8 #[.agg #[.int .i64 k, .int .i64 r, .int .i64 c, .int .i64 (Q : Int), .slice lo n cl], .agg #[.int .i64 k, .int .i64 r, .int .i64 c, .int .i64 (Q : Int), .slice lo2 n cl2]] w fun e w' => e = .returned (.bool true) ∧ Below w.heap.size w w' := by
  have haa : Dff k r c (Q : Int) n F k r c (Q : Int) n F 0 0 (fun j => (dfs Q F F n).getD j p0) := ⟨0, N, Q, S, 0, N, Q, S, hck, hck, .inl ⟨rfl, rfl, ⟨rfl, rfl, rfl, rfl⟩, fun i _ h => absurd rfl h, rfl, (dfs_zero.2 fun _ _ => rfl).symm, rfl⟩⟩
  have HL : Hid (Lst w lo n A C F) := h1
  have HL2 : Hid (Lst w lo2 n A2 C2 G) := h2
  have HCK : Hid (Ck k r c (Q : Int) n F 0 N Q S) := hck
  have hab : Dff k r c (Q : Int) n F k r c (Q : Int) n G 0 (dfs Q F G n).length (fun j => (dfs Q F G n).getD j p0) := ⟨0, N, Q, S, 0, N, Q, S, hck, hck2, .inl ⟨rfl, rfl, ⟨rfl, rfl, rfl, rfl⟩, hall, rfl, rfl, rfl⟩⟩
  have hlen := dfs_le Q F G n
  have HCF : Hid (∀ i, i < n → aft Q (fun j => (dfs Q F G n).getD j p0) (dfs Q F G n).length F i = G i) := fun i hi => by rw [aft_dfs]; exact if_pos hi
  have haf : Aft k r c (Q : Int) n F (fun j => (dfs Q F G n).getD j p0) (dfs Q F G n).length ((dfs Q F G n).length : Int) 0 k r c (Q : Int) n (aft Q (fun j => (dfs Q F G n).getD j p0) (dfs Q F G n).length F) := ⟨0, N, Q, S, hck, .inl ⟨rfl, by omega, dfs_take hck2 hall, by omega, by omega, rfl, rfl, rfl, rfl, rfl, rfl, by rw [Int.toNat_natCast]⟩⟩
  have hsm : Sme k r c (Q : Int) n F k r c (Q : Int) n G (decide ((dfs Q F G n).length = 0)) := by
    by_cases h : (dfs Q F G n).length = 0
    · rw [decide_eq_true h]; exact .inl ⟨rfl, rfl, rfl, rfl, rfl, rfl, dfs_zero.1 h⟩
    · rw [decide_eq_false h]; exact .inr ⟨rfl, fun g => h (dfs_zero.2 g.2.2.2.2.2)⟩
  have hrw : Rws (fun j => (dfs Q F G n).getD j p0) (dfs Q F G n).length 0 (mts (fun j => (dfs Q F G n).getD j p0) (dfs Q F G n).length) := .inl ⟨by omega, rfl, rfl⟩
  obtain ⟨hpm, hne, hfit⟩ := hck.ok rfl
  obtain ⟨hN1, hN2, hQ1, hQ, hS1, hS2, hn1, hn3⟩ := hpm.bounds
  rw [← hne] at hn1 hn3
  obtain ⟨kb1, kb2, rb1, rb2⟩ : 1 ≤ k ∧ k ≤ 12 ∧ 0 ≤ r ∧ r ≤ 4 := by
    obtain ⟨h1, h2, h3, h4, _⟩ := may_true hpm.1
    exact ⟨h1, h2, h3, h4⟩
  have eNk : ((N : Int) != k + r) = false := by have := hpm.2.1; simp; omega
  have HNE : Hid (n = N * Q * 2) := hne
  have HMR : Hid (∀ o, o < Q → ((o : Int) ∈ mts (fun j => (dfs Q F G n).getD j p0) (dfs Q F G n).length ↔ ∃ j, j < 2 * N ∧ ¬ rowF Q o F j = rowF Q o G j)) := fun o ho => mts_row (by omega) hne o ho
  have HMX : Hid (∀ x, x ∈ mts (fun j => (dfs Q F G n).getD j p0) (dfs Q F G n).length → x < (Q : Int)) := fun x hx => (mts_range (by omega) x hx).2
  have HM0 : Hid (∀ x, x ∈ mts (fun j => (dfs Q F G n).getD j p0) (dfs Q F G n).length → ((0 : Nat) : Int) ≤ x) := fun x hx => (mts_range (by omega) x hx).1
  have HRA : Hid (∀ o : Nat, o < Q → Rww k r c (Q : Int) n F (o : Int) 0 N (rowF Q o F)) := fun o ho => ⟨0, N, Q, S, hck, .inl ⟨rfl, by omega, by omega, rfl, rfl, by rw [Int.toNat_natCast]⟩⟩
  have HRB : Hid (∀ o : Nat, o < Q → Rww k r c (Q : Int) n G (o : Int) 0 N (rowF Q o G)) := fun o ho => ⟨0, N, Q, S, hck2, .inl ⟨rfl, by omega, by omega, rfl, rfl, by rw [Int.toNat_natCast]⟩⟩
  have HMS := mts_spec (fun j => (dfs Q F G n).getD j p0) (dfs Q F G n).length
  have HML : Hid _ := mts_le (fun j => (dfs Q F G n).getD j p0) (dfs Q F G n).length
  obtain ⟨M, hM⟩ : ∃ M, M = mts (fun j => (dfs Q F G n).getD j p0) (dfs Q F G n).length := ⟨_, rfl⟩
  rw [← hM] at hrw HMR HMX HMS HML HM0
  have HINC : Hid (Inc M) := HMS.1
  obtain ⟨ln, hln⟩ : ∃ ln, ln = (dfs Q F G n).length := ⟨_, rfl⟩
  obtain ⟨D, hD⟩ : ∃ D, D = (fun j => (dfs Q F G n).getD j p0) := ⟨_, rfl⟩
  rw [← hln, ← hD] at hab haf hrw HCF
  rw [← hln] at hsm hlen HML
  have hML : M.length ≤ ln := HML.out
  obtain ⟨z, hz⟩ : ∃ z, z = decide (ln = 0) := ⟨_, rfl⟩
  rw [← hz] at hsm
  have ez : ((ln : Int) == 0) = z := by rw [hz, Bool.eq_iff_iff]; simp
  have ezz : (z != z) = false := by simp
  obtain ⟨Fc, hFc⟩ : ∃ Fc, Fc = aft Q D ln F := ⟨_, rfl⟩
  rw [← hFc] at haf HCF
  have HSC : Hid (Sme k r c (Q : Int) n Fc k r c (Q : Int) n G true) := .inl ⟨rfl, rfl, rfl, rfl, rfl, rfl, HCF.out⟩
  have HAF : Hid (Aft k r c (Q : Int) n F D ln (ln : Int) 0 k r c (Q : Int) n Fc) := haf
  have HSM2 : Hid (Sme k r c (Q : Int) n F k r c (Q : Int) n G z) := hsm
  have HRW : Hid (Rws D ln 0 M) := hrw
  clear hck hck2 h1 h2 hpm hne hfit hM hln hD hz hFc haf hsm hrw hall HMS HML
  obtain ⟨w0, hw0⟩ : ∃ w0, w0 = w.alloc (.cells #[.int .i64 k, .int .i64 r, .int .i64 c, .int .i64 (Q : Int), .slice lo n cl] 27) := ⟨_, rfl⟩
  obtain ⟨w1, hw1⟩ : ∃ w1, w1 = w0.alloc (.cells #[.int .i64 k, .int .i64 r, .int .i64 c, .int .i64 (Q : Int), .slice lo2 n cl2] 27) := ⟨_, rfl⟩
  have b0 : Below w.heap.size w w0 := by rw [hw0]; exact below_alloc _ _
  have b1 : Below w0.heap.size w0 w1 := by rw [hw1]; exact below_alloc _ _
  have z0 : w0.heap.size = w.heap.size + 1 := by rw [hw0]; simp
  have HB1 : Hid (Below w.heap.size w w1) := below_then b0 b1
  have SA : Hid (∀ v, Below w1.heap.size w1 v → v.cell? ⟨w.heap.size, 0, none⟩ = some (.int .i64 k) ∧ v.cell? ⟨w.heap.size, 1, none⟩ = some (.int .i64 r) ∧ v.cell? ⟨w.heap.size, 2, none⟩ = some (.int .i64 c) ∧ v.cell? ⟨w.heap.size, 3, none⟩ = some (.int .i64 (Q : Int)) ∧ v.cell? ⟨w.heap.size, 4, none⟩ = some (.slice lo n cl)) := fun v hv => img_held hw0 (below_then b1 hv)
  have SB : Hid (∀ v, Below w1.heap.size w1 v → v.cell? ⟨w.heap.size + 1, 0, none⟩ = some (.int .i64 k) ∧ v.cell? ⟨w.heap.size + 1, 1, none⟩ = some (.int .i64 r) ∧ v.cell? ⟨w.heap.size + 1, 2, none⟩ = some (.int .i64 c) ∧ v.cell? ⟨w.heap.size + 1, 3, none⟩ = some (.int .i64 (Q : Int)) ∧ v.cell? ⟨w.heap.size + 1, 4, none⟩ = some (.slice lo2 n cl2)) := fun v hv => by rw [← z0]; exact img_held hw1 hv
  have HAL := alive_any w1
  have HM1 := fun v => much_any k r c (Q : Int) lo n cl v false (decide_eq_false (by omega)).symm
  have HM2 := fun v => much_any k r c (Q : Int) lo2 n cl2 v false (decide_eq_false (by omega)).symm
  have tk1 : True := trivial
  clear z0 b0 b1 
  go_enter Try.func8, Try.ntmps8
  go_wp2_with fail
  rw [← hw0, ← hw1]
  clear hw0 hw1
  refine HAL.mono ?_
  rintro e w2 ⟨rfl, hb2⟩
  obtain ⟨s0, s1, s2, s3, s4⟩ := SA.out w2 hb2
  have HB2 : Hid (Below w1.heap.size w1 w2) := hb2
  clear HAL hb2
  go_wp2_with (first | (go_at_call 18; have _t := tk1; refine (HM1 _).mono ?_; rintro e w3 ⟨rfl, hb3⟩; have HB3 : Hid (Below w1.heap.size w1 w3) := below_then HB2.out hb3; obtain ⟨t0, t1, t2, t3, t4⟩ := SB.out w3 HB3.out; clear hb3 tk1) | (go_at_call 18; refine (HM2 _).mono ?_; rintro e w4 ⟨rfl, hb4⟩; have HB4 : Hid (Below w1.heap.size w1 w4) := below_then HB3.out hb4; obtain ⟨s0, s1, s2, s3, s4⟩ := SA.out w4 HB4.out; clear hb4) | fail)
  refine (Diff_any haa lo lo cl cl A A C C w4 (HL.out.below (below_then HB1.out HB4.out)) (HL.out.below (below_then HB1.out HB4.out))).mono ?_
  rintro e w5 ⟨po0, pc0, B0, K0, rfl, hpu, hb5⟩
  have HB5 : Hid (Below w1.heap.size w1 w5) := below_then HB4.out hb5
  obtain ⟨u0, u1, u2, u3, u4⟩ := SA.out w5 HB5.out
  have HSM := Same_img (sme_refl k r c (Q : Int) n F) lo lo cl cl A A C C w5 (by omega) (HL.out.below (below_then HB1.out HB5.out)) (HL.out.below (below_then HB1.out HB5.out))
  clear hpu hb5 haa
  go_wp2_with (first | (go_at_call 34; refine HSM.mono ?_; rintro e w6 ⟨rfl, hb6⟩; have HB6 : Hid (Below w1.heap.size w1 w6) := below_then HB5.out hb6; obtain ⟨u0, u1, u2, u3, u4⟩ := SA.out w6 HB6.out; obtain ⟨v0, v1, v2, v3, v4⟩ := SB.out w6 HB6.out; clear hb6) | fail)
  refine (Diff_any hab lo lo2 cl cl2 A A2 C C2 w6 (HL.out.below (below_then HB1.out HB6.out)) (HL2.out.below (below_then HB1.out HB6.out))).mono ?_
  rintro e w7 ⟨po, pc, B, K, rfl, hpu, hb7⟩
  have HB7 : Hid (Below w1.heap.size w1 w7) := below_then HB6.out hb7
  have HPU : Hid (Pus true w7 w6.heap.size po ln pc D B K) := hpu
  have HPL : Hid (∀ v, Below w7.heap.size w7 v → Pts v (fun b => w6.heap.size ≤ b ∧ b < w7.heap.size) po ln D B K) := fun v hv => (pus_pts HPU.out).below hv
  obtain ⟨u0, u1, u2, u3, u4⟩ := SA.out w7 HB7.out
  clear hpu hb7 hab
  go_wp2_with fail
  refine (After_any HAF.out lo cl A C po pc B K w7 (HL.out.below (below_then HB1.out HB7.out)) (HPL.out w7 (Below.refl _ _)) (pus_cap HPU.out)).mono ?_
  rintro e w8 ⟨loc, Ac, Cc, rfl, hic, hb8⟩
  obtain ⟨w9, hw9⟩ : ∃ w9, w9 = w8.alloc (.cells #[.int .i64 k, .int .i64 r, .int .i64 c, .int .i64 (Q : Int), .slice loc n n] 27) := ⟨_, rfl⟩
  have b89 : Below w8.heap.size w8 w9 := by rw [hw9]; exact below_alloc _ _
  have HB9 : Hid (Below w1.heap.size w1 w9) := below_then HB7.out (below_then hb8 b89)
  have H79 : Hid (Below w7.heap.size w7 w9) := below_then hb8 b89
  have HS1 := Same_img HSC.out loc lo2 n cl2 Ac A2 Cc C2 w9 (by omega) (hic.lst.below b89) (HL2.out.below (below_then HB1.out HB9.out))
  have HS2 : Hid (∀ v, Below w1.heap.size w1 v → Calls Try.prog 34 #[.agg #[.int .i64 k, .int .i64 r, .int .i64 c, .int .i64 (Q : Int), .slice lo n cl], .agg #[.int .i64 k, .int .i64 r, .int .i64 c, .int .i64 (Q : Int), .slice lo2 n cl2]] v fun e w' => e = .returned (.bool z) ∧ Below v.heap.size v w') := fun v hv => Same_img HSM2.out lo lo2 cl cl2 A A2 C C2 v (by omega) (HL.out.below (below_then HB1.out hv)) (HL2.out.below (below_then HB1.out hv))
  obtain ⟨v0, v1, v2, v3, v4⟩ := SB.out w8 (below_then HB7.out hb8)
  have y0 := fun o => held v0 (below_alloc w8 o)
  have y1 := fun o => held v1 (below_alloc w8 o)
  have y2 := fun o => held v2 (below_alloc w8 o)
  have y3 := fun o => held v3 (below_alloc w8 o)
  have y4 := fun o => held v4 (below_alloc w8 o)
  have tk2 : True := trivial
  clear hic hb8 b89
  go_wp2_with (first
    | (go_at_call 34; have _t := tk2; rw [← hw9]; refine HS1.mono ?_; rintro e wA ⟨rfl, hbA⟩; have HBA : Hid (Below w1.heap.size w1 wA) := below_then HB9.out hbA; have H7A : Hid (Below w7.heap.size w7 wA) := below_then H79.out hbA; obtain ⟨u0, u1, u2, u3, u4⟩ := SA.out wA HBA.out; obtain ⟨v0, v1, v2, v3, v4⟩ := SB.out wA HBA.out; clear hbA tk2 hw9)
    | (go_at_call 34; refine (HS2.out wA HBA.out).mono ?_; rintro e wB ⟨rfl, hbB⟩; have HBB : Hid (Below w1.heap.size w1 wB) := below_then HBA.out hbB; have H7B : Hid (Below w7.heap.size w7 wB) := below_then H7A.out hbB; clear hbB)
    | fail)
  refine (Rows_img HRW.out po pc B K wB (HPL.out wB H7B.out)).mono ?_
  rintro e wC ⟨aol, capl, rfl, hrl, hbC⟩
  have HBC : Hid (Below w1.heap.size w1 wC) := below_then HBB.out hbC
  have HRL : Hid (RdI wC aol M) := hrl
  clear hrl hbC y0 y1 y2 y3 y4
  obtain ⟨u0, u1, u2, u3, u4⟩ := SA.out wC HBC.out
  go_wp2_with fail
  go_loopw [11, 12, 13, 14, 15, 16, 17, 18, 19] (fun kx rx _ _ _ _ _ _ _ wr => ∃ o kk : Nat, o ≤ Q ∧ rx = .int .i64 o ∧ kx = .int .i64 kk ∧ Hid (Met M o kk) ∧ Hid (Below wC.heap.size wC wr)) (fun _ rx _ _ _ _ _ _ _ _ => Q - (intOf rx).toNat)
  case atStart => exact ⟨0, 0, Nat.zero_le _, rfl, rfl, ⟨Nat.zero_le _, fun j _ h => absurd h (Nat.not_lt_zero j), fun j hj _ => HM0.out _ (List.getElem_mem hj)⟩, Below.refl _ _⟩
  case round =>
    obtain ⟨o, kk, ho, rfl, rfl, hmet, hbr⟩ := hrel
    have HBR : Hid (Below w1.heap.size w1 wr) := below_then HBC.out hbr.out
    obtain ⟨u0, u1, u2, u3, u4⟩ := SA.out wr HBR.out
    have hkM : kk ≤ M.length := hmet.out.1
    by_cases hlt : o < Q
    · have o1 : (0 : Int) ≤ (o : Int) := by omega
      have o2 : (o : Int) < (Q : Int) := by omega
      have HR1 := Row_any (HRA.out o hlt) lo cl hcl A C wr (HL.out.below (below_then HB1.out HBR.out))
      go_wp2_with fail
      refine HR1.mono ?_
      rintro e ws ⟨lox, Ax, Cx, rfl, hix, hbs⟩
      have HBS : Hid (Below w1.heap.size w1 ws) := below_then HBR.out hbs
      obtain ⟨v0, v1, v2, v3, v4⟩ := SB.out ws HBS.out
      have HR2 := Row_any (HRB.out o hlt) lo2 cl2 hcl2 A2 C2 ws (HL2.out.below (below_then HB1.out HBS.out))
      clear HR1
      go_wp2_with fail
      refine HR2.mono ?_
      rintro e wt ⟨loy, Ay, Cy, rfl, hiy, hbt⟩
      have HBT : Hid (Below w1.heap.size w1 wt) := below_then HBS.out hbt
      have HLX : Hid (Lst wt lox (2 * N) Ax Cx (rowF Q o F)) := hix.lst.below hbt
      have HLY : Hid (Lst wt loy (2 * N) Ay Cy (rowF Q o G)) := hiy.lst
      have HLF : Hid (Lst wt lo n A C F) := HL.out.below (below_then HB1.out HBT.out)
      have HRT : Hid (Below wr.heap.size wr wt) := below_then hbs hbt
      obtain ⟨ua0, ua1, ua2, ua3, ua4⟩ := SA.out wt HBT.out
      clear HR2 hix hiy hbs hbt
      go_wp2_with fail
      go_loopw [17, 18] (fun x _ wq => ∃ i : Nat, i ≤ N ∧ x = .int .i64 i ∧ Hid (∃ q, wq = wt.drewN q)) (fun x _ _ => N - (intOf x).toNat)
      case atStart => exact ⟨0, Nat.zero_le _, rfl, 0, rfl⟩
      case round =>
        obtain ⟨i, hi, rfl, hq⟩ := hrel
        have hdr : ∀ a, wr.cell? a = wt.cell? a := by obtain ⟨q, rfl⟩ := hq.out; exact fun _ => rfl
        have a3 : wr.cell? ⟨w.heap.size, 3, none⟩ = some (.int .i64 (Q : Int)) := by rw [hdr]; exact ua3
        have a4 : wr.cell? ⟨w.heap.size, 4, none⟩ = some (.slice lo n cl) := by rw [hdr]; exact ua4
        by_cases hin : i < N
        · have hbd : ∀ m, Below wt.heap.size wt (wr.drewN m) := by obtain ⟨q, rfl⟩ := hq.out; exact fun m => ⟨rfl, rfl, rfl, Nat.le_refl _, fun _ _ => rfl⟩
          have hpl : (i * Q + o) * 2 + 1 < n := by
            have a3 : (i + 1) * Q ≤ N * Q := Nat.mul_le_mul_right Q hin
            rw [Nat.add_mul, Nat.one_mul] at a3
            rw [HNE.out]; omega
          obtain ⟨b1, o1, rfl, hc1⟩ := HLX.out.at_ (by omega)
          obtain ⟨b2, o2, rfl, hc2⟩ := HLF.out.at_ (by omega)
          obtain ⟨p, hp⟩ : ∃ p, p = i * Q := ⟨_, rfl⟩
          obtain ⟨f, hf⟩ : ∃ f, f = (i * Q + o) * 2 := ⟨_, rfl⟩
          have hp2 : p ≤ 4096 := by rw [hp]; exact Nat.le_trans (Nat.mul_le_mul (show i ≤ 16 by omega) hQ) (by omega)
          have hv : Value.int .i64 (wrap64 ((i : Int) * (Q : Int))) = .int .i64 (p : Int) := by rw [show (i : Int) * (Q : Int) = (p : Int) by rw [hp]; simp, w64 _ (by omega)]
          have e5 : ((p : Int) + (o : Int)) * 2 = (f : Int) := by rw [hf, ← hp]; simp
          have r0 := rowF_0 Q o F i
          have r1 := rowF_1 Q o F i
          rw [← hf] at r0 r1 hpl
          have d1 : wr.cell? ⟨b1, o1 + i * 2, none⟩ = some (.slice (Ax (2 * i)) (F f).length (Cx (2 * i))) := by rw [hdr, Nat.mul_comm i 2, ← r0]; exact hc1 (2 * i) (by omega)
          have d3 : wr.cell? ⟨b1, o1 + i * 2 + 1, none⟩ = some (.slice (Ax (2 * i + 1)) (F (f + 1)).length (Cx (2 * i + 1))) := by rw [hdr, Nat.mul_comm i 2, Nat.add_assoc, ← r1]; exact hc1 (2 * i + 1) (by omega)
          have d2 : wr.cell? ⟨b2, o2 + f, none⟩ = some (.slice (A f) (F f).length (C f)) := by rw [hdr]; exact hc2 f (by omega)
          have d4 : wr.cell? ⟨b2, o2 + (f + 1), none⟩ = some (.slice (A (f + 1)) (F (f + 1)).length (C (f + 1))) := by rw [hdr]; exact hc2 (f + 1) hpl
          have v1 : ∀ m, (convert 33 9 (.slice (Ax (2 * i)) (F f).length (Cx (2 * i)))).run Try.prog (wr.drewN m) = .ok (.string (sOf (F f))) (wr.drewN m) := fun m => by rw [← r0]; exact conv_any ((HLX.out.rd _ (by omega)).below (hbd m)) _ _ rfl
          have v3 : ∀ m, (convert 33 9 (.slice (Ax (2 * i + 1)) (F (f + 1)).length (Cx (2 * i + 1)))).run Try.prog (wr.drewN m) = .ok (.string (sOf (F (f + 1)))) (wr.drewN m) := fun m => by rw [← r1]; exact conv_any ((HLX.out.rd _ (by omega)).below (hbd m)) _ _ rfl
          have v2 : ∀ m, (convert 33 9 (.slice (A f) (F f).length (C f))).run Try.prog (wr.drewN m) = .ok (.string (sOf (F f))) (wr.drewN m) := fun m => conv_any ((HLF.out.rd _ (by omega)).below (hbd m)) _ _ rfl
          have v4 : ∀ m, (convert 33 9 (.slice (A (f + 1)) (F (f + 1)).length (C (f + 1)))).run Try.prog (wr.drewN m) = .ok (.string (sOf (F (f + 1)))) (wr.drewN m) := fun m => conv_any ((HLF.out.rd _ hpl).below (hbd m)) _ _ rfl
          have i1 : (0 : Int) ≤ (i : Int) := by omega
          have i2 : (i : Int) < (N : Int) := by omega
          have f1 : (0 : Int) ≤ (f : Int) := by omega
          have f2 : (f : Int) < (n : Int) := by omega
          have f3 : (f : Int) + 1 < (n : Int) := by omega
          have f4 : (0 : Int) ≤ (f : Int) + 1 := by omega
          have f5 : IntKind.i64.wrap ((f : Int) + 1) = (f : Int) + 1 := by rw [IntKind.wrap_i64]; omega
          have s1 : ((sOf (F f)).toList == (sOf (F f)).toList) = true := by simp
          have s2 : ((sOf (F (f + 1))).toList == (sOf (F (f + 1))).toList) = true := by simp
          clear hdr hbd hc1 hc2 hp hf r0 r1
          go_wp2_with fail
          go_quiet (fail)
          go_wp2
          go_roundw
          case rel =>
            obtain ⟨q, hq2⟩ := hq.out
            exact ⟨i + 1, by omega, by go_num, q + nq, by rw [hq2]; simp [World.drewN, Nat.add_assoc]⟩
          case measure => simp [intOf]; omega
        · obtain rfl : i = N := by omega
          have hbq : Below wt.heap.size wt wr := by obtain ⟨q, hq2⟩ := hq.out; exact below_q hq2
          have HB0 : Hid (Below wC.heap.size wC wr) := below_then hbr.out (below_then HRT.out hbq)
          have LX := HLX.out.below hbq
          have LY := HLY.out.below hbq
          clear hdr a3 a4 hbq
          by_cases hmem : (o : Int) ∈ M
          · obtain ⟨hk, hek, hmn⟩ := met_yes HINC.out hmet.out hmem
            have HSP := SamePairs_any lox loy i i i Ax Ay Cx Cy (rowF Q o F) (rowF Q o G) (by omega) wr LX LY false (.inr ⟨rfl, (HMR.out o hlt).1 hmem⟩)
            have HMN : Hid (Met M (o + 1) (kk + 1)) := hmn
            obtain ⟨bl, offl, hal, hrd⟩ := HRL.out (fun e => by rw [e] at hk; simp at hk)
            have hcl0 := hrd kk hk
            rw [hek] at hcl0
            have hkk : ¬ (M.length : Int) ≤ (kk : Int) := by omega
            have hk0 : (0 : Int) ≤ (kk : Int) := by omega
            have hk1 : (kk : Int) < (M.length : Int) := by omega
            have eoo : ((o : Int) != (o : Int)) = false := by simp
            have hkb : kk ≤ 2000 := by omega
            subst hal
            clear LX LY hmem hek hmn hrd
            go_wp2_with fail
            refine HSP.mono ?_
            rintro e wu ⟨rfl, hbu⟩
            have HBU : Hid (Below wC.heap.size wC wu) := below_then HB0.out hbu
            have hcl1 := held hcl0 HBU.out
            clear HSP hbu hcl0
            go_wp2_with fail
            go_roundw
            case rel => exact ⟨o + 1, kk + 1, by omega, by go_num, by go_num, HMN.out, HBU.out⟩
            case measure => simp [intOf]; omega
          · have HSP := SamePairs_any lox loy i i i Ax Ay Cx Cy (rowF Q o F) (rowF Q o G) (by omega) wr LX LY true (.inl ⟨rfl, fun j hj => Classical.byContradiction fun hne => hmem ((HMR.out o hlt).2 ⟨j, hj, hne⟩)⟩)
            have HMN : Hid (Met M (o + 1) kk) := met_no hmet.out hmem
            clear LX LY hmem
            go_wp2_with fail
            refine HSP.mono ?_
            rintro e wu ⟨rfl, hbu⟩
            have HBU : Hid (Below wC.heap.size wC wu) := below_then HB0.out hbu
            clear HSP hbu
            go_wp2_with fail
            go_roundw
            case rel => exact ⟨o + 1, kk, by omega, by go_num, rfl, HMN.out, HBU.out⟩
            case measure => simp [intOf]; omega
    · obtain rfl : o = Q := by omega
      have hke := met_end hmet.out HMX.out
      have ekk : ((kk : Int) == (M.length : Int)) = true := by simp; omega
      clear hke
      go_wp2_with fail
      go_ret
      exact ⟨rfl, below_then HB1.out HBR.out⟩
end
end Go.Proofs.Ytenlfhdchflnjaa
