/- The same answers, said of natural numbers below 256: what the laws' walks use at each call. -/
import Derived.Test.YtpcnbcianbbcgaaGfD
namespace Go.Proofs.Ytpcnbcianbbcgaa
open Go.RowKit

theorem add_n (x y : Nat) (w : World) (hx : x < 256) (hy : y < 256) : Calls Try.prog 18 #[.int .u8 (x : Int), .int .u8 (y : Int)] w fun e w' => e = .returned (.int .u8 ((Gf.add x y : Nat) : Int)) ∧ w' = w :=
  add_any x y w (by omega) (by omega) (by omega) (by omega)
theorem add_n0 (x : Nat) (w : World) (hx : x < 256) : Calls Try.prog 18 #[.int .u8 (x : Int), .int .u8 0] w fun e w' => e = .returned (.int .u8 (x : Int)) ∧ w' = w := by
  refine (add_n x 0 w hx (by decide)).mono ?_
  rintro e w' ⟨rfl, rfl⟩
  exact ⟨by rw [Gf.add_zero], rfl⟩
theorem mul_n (x y : Nat) (w : World) (hx : x < 256) (hy : y < 256) : Calls Try.prog 12 #[.int .u8 (x : Int), .int .u8 (y : Int)] w fun e w' => e = .returned (.int .u8 ((Gf.mul x y : Nat) : Int)) ∧ w' = w :=
  mul_any x y w (by omega) (by omega) (by omega) (by omega)
theorem mul_n1 (x : Nat) (w : World) (hx : x < 256) : Calls Try.prog 12 #[.int .u8 (x : Int), .int .u8 1] w fun e w' => e = .returned (.int .u8 (x : Int)) ∧ w' = w := by
  refine (mul_n x 1 w hx (by decide)).mono ?_
  rintro e w' ⟨rfl, rfl⟩
  exact ⟨by rw [Gf.mul_one x hx], rfl⟩
theorem mul_n0 (x : Nat) (w : World) (hx : x < 256) : Calls Try.prog 12 #[.int .u8 (x : Int), .int .u8 0] w fun e w' => e = .returned (.int .u8 0) ∧ w' = w := by
  refine (mul_n x 0 w hx (by decide)).mono ?_
  rintro e w' ⟨rfl, rfl⟩
  exact ⟨by rw [Gf.mul_zero]; rfl, rfl⟩
theorem div_n (x y : Nat) (w : World) (hx : x < 256) (hy : y < 256) (h : y ≠ 0) : Calls Try.prog 15 #[.int .u8 (x : Int), .int .u8 (y : Int)] w fun e w' => e = .returned (.tuple #[.int .u8 ((Gf.mul x (Gf.pw y 254) : Nat) : Int), .int .i64 0]) ∧ w' = w :=
  div_any x y w (by omega) (by omega) (by omega) (by omega)
theorem div_n0 (x y : Nat) (w : World) (h : y = 0) : Calls Try.prog 15 #[.int .u8 (x : Int), .int .u8 (y : Int)] w fun e w' => e = .returned (.tuple #[.int .u8 0, .int .i64 10]) ∧ w' = w := by
  subst h; exact div_zero_any x w
theorem inv_n (x : Nat) (w : World) (hx : x < 256) (h : x ≠ 0) : Calls Try.prog 11 #[.int .u8 (x : Int)] w fun e w' => e = .returned (.tuple #[.int .u8 ((Gf.pw x 254 : Nat) : Int), .int .i64 0]) ∧ w' = w :=
  inv_any x w (by omega) (by omega)
theorem inv_n0 (x : Nat) (w : World) (h : x = 0) : Calls Try.prog 11 #[.int .u8 (x : Int)] w fun e w' => e = .returned (.tuple #[.int .u8 0, .int .i64 10]) ∧ w' = w := by
  subst h; exact inv_zero_any w
end Go.Proofs.Ytpcnbcianbbcgaa
