/- The document's examples: what the law's own check of some fixed answers comes to (true, nothing that was there changed). -/
import Derived.Test.YtpcnbcianbbcgaaGfC
namespace Go.Proofs.Ytpcnbcianbbcgaa
open Go.RowKit

theorem inv_2 (w : World) : Calls Try.prog 11 #[.int .u8 2] w fun e w' => e = .returned (.tuple #[.int .u8 142, .int .i64 0]) ∧ w' = w := by
  refine (inv_any 2 w (by decide) (by decide)).mono ?_
  rintro e w' ⟨rfl, rfl⟩
  exact ⟨by rw [show Gf.pw (2 : Int).toNat 254 = 142 by decide +kernel]; rfl, rfl⟩
theorem div_29_128 (w : World) : Calls Try.prog 15 #[.int .u8 29, .int .u8 128] w fun e w' => e = .returned (.tuple #[.int .u8 2, .int .i64 0]) ∧ w' = w := by
  refine (div_any 29 128 w (by decide) (by decide) (by decide) (by decide)).mono ?_
  rintro e w' ⟨rfl, rfl⟩
  exact ⟨by rw [show Gf.mul (29 : Int).toNat (Gf.pw (128 : Int).toNat 254) = 2 by decide +kernel]; rfl, rfl⟩
theorem pow_0_0 (w : World) : Calls Try.prog 13 #[.int .u8 0, .int .i64 0] w fun e w' => e = .returned (.tuple #[.int .u8 1, .int .i64 0]) ∧ w' = w := pow_zero_any 0 w
theorem pow_3_m2 (w : World) : Calls Try.prog 13 #[.int .u8 3, .int .i64 (-2)] w fun e w' => e = .returned (.tuple #[.int .u8 167, .int .i64 0]) ∧ w' = w := by
  refine (pow_any 3 (-2) w (by decide) (by decide)).mono ?_
  rintro e w' ⟨rfl, rfl⟩
  exact ⟨by rw [show Gf.pw (3 : Int).toNat ((-2) % 255 : Int).toNat = 167 by decide +kernel]; rfl, rfl⟩
theorem pow_0_m1 (w : World) : Calls Try.prog 13 #[.int .u8 0, .int .i64 (-1)] w fun e w' => e = .returned (.tuple #[.int .u8 0, .int .i64 10]) ∧ w' = w := pow_zero_any (-1) w
theorem log_29 (w : World) : Calls Try.prog 10 #[.int .u8 29] w fun e w' => e = .returned (.tuple #[.int .i64 8, .int .i64 0]) ∧ Below w.heap.size w w' := by
  refine (log_any 29 w (by decide) (by decide)).mono ?_
  rintro e w' ⟨rfl, hb⟩
  exact ⟨by rw [show Gf.lg (29 : Int).toNat = 8 by decide +kernel]; rfl, hb⟩
theorem add_5_3 (w : World) : Calls Try.prog 18 #[.int .u8 5, .int .u8 3] w fun e w' => e = .returned (.int .u8 6) ∧ w' = w := by
  refine (add_any 5 3 w (by decide) (by decide) (by decide) (by decide)).mono ?_
  rintro e w' ⟨rfl, rfl⟩
  exact ⟨by rw [show Gf.add (5 : Int).toNat (3 : Int).toNat = 6 by decide +kernel]; rfl, rfl⟩
theorem mul_2_128 (w : World) : Calls Try.prog 12 #[.int .u8 2, .int .u8 128] w fun e w' => e = .returned (.int .u8 29) ∧ w' = w := by
  refine (mul_any 2 128 w (by decide) (by decide) (by decide) (by decide)).mono ?_
  rintro e w' ⟨rfl, rfl⟩
  exact ⟨by rw [show Gf.mul (2 : Int).toNat (128 : Int).toNat = 29 by decide +kernel]; rfl, rfl⟩
theorem mul_3_7 (w : World) : Calls Try.prog 12 #[.int .u8 3, .int .u8 7] w fun e w' => e = .returned (.int .u8 9) ∧ w' = w := by
  refine (mul_any 3 7 w (by decide) (by decide) (by decide) (by decide)).mono ?_
  rintro e w' ⟨rfl, rfl⟩
  exact ⟨by rw [show Gf.mul (3 : Int).toNat (7 : Int).toNat = 9 by decide +kernel]; rfl, rfl⟩
theorem exp_8 (w : World) : Calls Try.prog 9 #[.int .i64 8] w fun e w' => e = .returned (.int .u8 29) ∧ w' = w := by
  refine (exp_any 8 w).mono ?_
  rintro e w' ⟨rfl, rfl⟩
  exact ⟨by rw [show Gf.E ((8 : Int) % 255).toNat = 29 by decide +kernel]; rfl, rfl⟩
theorem exp_m1 (w : World) : Calls Try.prog 9 #[.int .i64 (-1)] w fun e w' => e = .returned (.int .u8 142) ∧ w' = w := by
  refine (exp_any (-1) w).mono ?_
  rintro e w' ⟨rfl, rfl⟩
  exact ⟨by rw [show Gf.E ((-1 : Int) % 255).toNat = 142 by decide +kernel]; rfl, rfl⟩

set_option maxHeartbeats 400000 in
theorem alive_any (w : World) :
    Calls Try.prog 8 #[] w fun e w' => e = .returned (.bool true) ∧ Below w.heap.size w w' := by
  go_enter Try.func8, Try.ntmps8
  go_wp2_with fail
  refine (inv_2 _).mono ?_; rintro e w' ⟨rfl, rfl⟩
  go_wp2_with fail
  refine (div_29_128 _).mono ?_; rintro e w' ⟨rfl, rfl⟩
  go_wp2_with fail
  refine (inv_zero_any _).mono ?_; rintro e w' ⟨rfl, rfl⟩
  go_wp2_with fail
  refine (pow_0_0 _).mono ?_; rintro e w' ⟨rfl, rfl⟩
  go_wp2_with fail
  refine (pow_3_m2 _).mono ?_; rintro e w' ⟨rfl, rfl⟩
  go_wp2_with fail
  refine (pow_0_m1 _).mono ?_; rintro e w' ⟨rfl, rfl⟩
  go_wp2_with fail
  refine (log_29 _).mono ?_; rintro e w1 ⟨rfl, hb1⟩
  go_wp2_with fail
  refine (log_zero_any _).mono ?_; rintro e w' ⟨rfl, rfl⟩
  go_wp2_with fail
  refine (add_5_3 _).mono ?_; rintro e w' ⟨rfl, rfl⟩
  go_wp2_with fail
  refine (mul_2_128 _).mono ?_; rintro e w' ⟨rfl, rfl⟩
  go_wp2_with fail
  refine (mul_3_7 _).mono ?_; rintro e w' ⟨rfl, rfl⟩
  go_wp2_with fail
  refine (exp_8 _).mono ?_; rintro e w' ⟨rfl, rfl⟩
  go_wp2_with fail
  refine (exp_m1 _).mono ?_; rintro e w' ⟨rfl, rfl⟩
  go_wp2_with fail
  go_ret
  exact ⟨rfl, hb1⟩
end Go.Proofs.Ytpcnbcianbbcgaa
