/- The answers at every byte, 0 among them, by one formula each, of the program and of the document; and the walks of the laws GfProducts and GfPowers. -/
import Derived.Test.YtpcnbcianbbcgaaGfR
namespace Go.Proofs.Ytpcnbcianbbcgaa
open Go.RowKit

def errZ (x : Nat) : Int := if x = 0 then 10 else 0
def powV (x : Nat) (n : Int) : Nat := if x = 0 then (if n = 0 then 1 else 0) else Gf.pw x (n % 255).toNat
def powE (x : Nat) (n : Int) : Int := if x = 0 ∧ n < 0 then 10 else 0
theorem powV_lt (x : Nat) (n : Int) : powV x n < 256 := by
  unfold powV
  split
  · split <;> decide
  · exact Gf.pw_lt _ _
theorem pw_zero_254 : Gf.pw 0 254 = 0 := Gf.mul_zero _

theorem inv_u (x : Nat) (w : World) (hx : x < 256) : Calls Try.prog 11 #[.int .u8 (x : Int)] w fun e w' => e = .returned (.tuple #[.int .u8 ((Gf.pw x 254 : Nat) : Int), .int .i64 (errZ x)]) ∧ w' = w := by
  by_cases h : x = 0
  · refine (inv_n0 x w h).mono ?_
    rintro e w' ⟨rfl, rfl⟩
    exact ⟨by rw [h, pw_zero_254]; rfl, rfl⟩
  · refine (inv_n x w hx h).mono ?_
    rintro e w' ⟨rfl, rfl⟩
    exact ⟨by rw [errZ, if_neg h], rfl⟩
theorem rinv_u (x : Nat) (w : World) (hx : x < 256) : Calls Try.prog 17 #[.int .u8 (x : Int)] w fun e w' => e = .returned (.tuple #[.int .u8 ((Gf.pw x 254 : Nat) : Int), .int .i64 (errZ x)]) ∧ w' = w := by
  by_cases h : x = 0
  · refine (rinv_n0 x w h).mono ?_
    rintro e w' ⟨rfl, rfl⟩
    exact ⟨by rw [h, pw_zero_254]; rfl, rfl⟩
  · refine (rinv_n x w hx h).mono ?_
    rintro e w' ⟨rfl, rfl⟩
    exact ⟨by rw [errZ, if_neg h], rfl⟩
theorem div_u (x y : Nat) (w : World) (hx : x < 256) (hy : y < 256) : Calls Try.prog 15 #[.int .u8 (x : Int), .int .u8 (y : Int)] w fun e w' => e = .returned (.tuple #[.int .u8 ((Gf.mul x (Gf.pw y 254) : Nat) : Int), .int .i64 (errZ y)]) ∧ w' = w := by
  by_cases h : y = 0
  · refine (div_n0 x y w h).mono ?_
    rintro e w' ⟨rfl, rfl⟩
    exact ⟨by rw [h, pw_zero_254, Gf.mul_zero]; rfl, rfl⟩
  · refine (div_n x y w hx hy h).mono ?_
    rintro e w' ⟨rfl, rfl⟩
    exact ⟨by rw [errZ, if_neg h], rfl⟩
theorem rdiv_u (x y : Nat) (w : World) (hx : x < 256) (hy : y < 256) : Calls Try.prog 16 #[.int .u8 (x : Int), .int .u8 (y : Int)] w fun e w' => e = .returned (.tuple #[.int .u8 ((Gf.mul x (Gf.pw y 254) : Nat) : Int), .int .i64 (errZ y)]) ∧ w' = w := by
  by_cases h : y = 0
  · refine (rdiv_n0 x y w h).mono ?_
    rintro e w' ⟨rfl, rfl⟩
    exact ⟨by rw [h, pw_zero_254, Gf.mul_zero]; rfl, rfl⟩
  · refine (rdiv_n x y w hx hy h).mono ?_
    rintro e w' ⟨rfl, rfl⟩
    exact ⟨by rw [errZ, if_neg h], rfl⟩
theorem pow_form (n : Int) : Ending.returned (.tuple #[.int .u8 (if n = 0 then 1 else 0), .int .i64 (if n < 0 then 10 else 0)]) = .returned (.tuple #[.int .u8 ((powV 0 n : Nat) : Int), .int .i64 (powE 0 n)]) := by
  have e1 : ((powV 0 n : Nat) : Int) = if n = 0 then 1 else 0 := by unfold powV; rw [if_pos rfl]; split <;> rfl
  have e2 : powE 0 n = if n < 0 then 10 else 0 := by unfold powE; simp
  rw [e1, e2]
theorem pow_u (x : Nat) (n : Int) (w : World) (hx : x < 256) : Calls Try.prog 13 #[.int .u8 (x : Int), .int .i64 n] w fun e w' => e = .returned (.tuple #[.int .u8 ((powV x n : Nat) : Int), .int .i64 (powE x n)]) ∧ w' = w := by
  by_cases h : x = 0
  · subst h
    refine (pow_zero_any n w).mono ?_
    rintro e w' ⟨rfl, rfl⟩
    exact ⟨pow_form n, rfl⟩
  · refine (pow_any x n w (by omega) (by omega)).mono ?_
    rintro e w' ⟨rfl, rfl⟩
    exact ⟨by rw [powV, powE, if_neg h, if_neg (fun c => h c.1)]; rfl, rfl⟩
theorem rpow_u (x : Nat) (n : Int) (w : World) (hx : x < 256) : Calls Try.prog 14 #[.int .u8 (x : Int), .int .i64 n] w fun e w' => e = .returned (.tuple #[.int .u8 ((powV x n : Nat) : Int), .int .i64 (powE x n)]) ∧ w' = w := by
  by_cases h : x = 0
  · refine (rpow_n0 x n w h).mono ?_
    subst h
    rintro e w' ⟨rfl, rfl⟩
    exact ⟨pow_form n, rfl⟩
  · refine (rpow_n x n w hx h).mono ?_
    rintro e w' ⟨rfl, rfl⟩
    exact ⟨by rw [powV, powE, if_neg h, if_neg (fun c => h c.1)], rfl⟩
theorem log_u (x : Nat) (w : World) (hx : x < 256) : Calls Try.prog 10 #[.int .u8 (x : Int)] w fun e w' => e = .returned (.tuple #[.int .i64 ((Gf.lg x : Nat) : Int), .int .i64 (errZ x)]) ∧ Below w.heap.size w w' := by
  by_cases h : x = 0
  · subst h
    refine (log_zero_any w).mono ?_
    rintro e w' ⟨rfl, rfl⟩
    exact ⟨rfl, Below.refl _ _⟩
  · refine (log_any x w (by omega) (by omega)).mono ?_
    rintro e w' ⟨rfl, hb⟩
    exact ⟨by rw [errZ, if_neg h]; rfl, hb⟩
theorem rlog_u (x : Nat) (w : World) (hx : x < 256) : Calls Try.prog 20 #[.int .u8 (x : Int)] w fun e w' => e = .returned (.tuple #[.int .i64 ((Gf.lg x : Nat) : Int), .int .i64 (errZ x)]) ∧ w' = w := by
  by_cases h : x = 0
  · refine (rlog_n0 x w h).mono ?_
    rintro e w' ⟨rfl, rfl⟩
    exact ⟨by rw [h]; rfl, rfl⟩
  · refine (rlog_n x w hx h).mono ?_
    rintro e w' ⟨rfl, rfl⟩
    exact ⟨by rw [errZ, if_neg h], rfl⟩

set_option maxHeartbeats 1000000 in
theorem products_walk (x y : Nat) (w : World) (hx : x < 256) (hy : y < 256) :
    Calls Try.prog 4 #[.int .u8 (x : Int), .int .u8 (y : Int)] w fun e w' => e = .returned (.bool true) ∧ Below w.heap.size w w' := by
  have HA : Hid (((Gf.add x y : Nat) : Int) = bits .xor .u8 (x : Int) (y : Int)) := (u8_xor_nat x y hx hy).symm
  go_enter Try.func4, Try.ntmps4
  go_wp2_with fail
  refine (alive_any _).mono ?_; rintro e w1 ⟨rfl, hb1⟩
  go_wp2_with fail
  refine (div_u _ _ _ hx hy).mono ?_; rintro e w' ⟨rfl, rfl⟩
  go_wp2_with fail
  refine (inv_u _ _ hx).mono ?_; rintro e w' ⟨rfl, rfl⟩
  go_wp2_with fail
  refine (rdiv_u _ _ _ hx hy).mono ?_; rintro e w' ⟨rfl, rfl⟩
  go_wp2_with fail
  refine (rinv_u _ _ hx).mono ?_; rintro e w' ⟨rfl, rfl⟩
  go_wp2_with fail
  refine (add_n _ _ _ hx hy).mono ?_; rw [HA.out]; rintro e w' ⟨rfl, rfl⟩
  go_wp2_with fail
  refine (mul_n _ _ _ hx hy).mono ?_; rintro e w' ⟨rfl, rfl⟩
  go_wp2_with fail
  refine (rmul_n _ _ _ hx hy).mono ?_; rintro e w' ⟨rfl, rfl⟩
  go_wp2_with fail
  go_ret
  exact ⟨rfl, hb1⟩

set_option maxHeartbeats 1000000 in
theorem powers_walk (x : Nat) (n : Int) (w : World) (hx : x < 256) :
    Calls Try.prog 5 #[.int .u8 (x : Int), .int .i64 n] w fun e w' => e = .returned (.bool true) ∧ Below w.heap.size w w' := by
  go_enter Try.func5, Try.ntmps5
  go_wp2_with fail
  refine (alive_any _).mono ?_; rintro e w1 ⟨rfl, hb1⟩
  go_wp2_with fail
  refine (pow_u _ _ _ hx).mono ?_; rintro e w' ⟨rfl, rfl⟩
  go_wp2_with fail
  refine (log_u _ _ hx).mono ?_; rintro e w2 ⟨rfl, hb2⟩
  go_wp2_with fail
  refine (rpow_u _ _ _ hx).mono ?_; rintro e w' ⟨rfl, rfl⟩
  go_wp2_with fail
  refine (rlog_u _ _ hx).mono ?_; rintro e w' ⟨rfl, rfl⟩
  go_wp2_with fail
  refine (exp_any _ _).mono ?_; rintro e w' ⟨rfl, rfl⟩
  go_wp2_with fail
  refine (rexp_n _ _).mono ?_; rintro e w' ⟨rfl, rfl⟩
  go_wp2_with fail
  go_ret
  exact ⟨rfl, hb1.trans (hb2.mono hb1.size)⟩
end Go.Proofs.Ytpcnbcianbbcgaa
