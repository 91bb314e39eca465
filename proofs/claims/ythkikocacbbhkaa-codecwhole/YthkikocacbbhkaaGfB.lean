/- What powers of any byte by any number come to, and quotients, by the program's text. -/
import Derived.Test.YthkikocacbbhkaaGfA
namespace Go.Proofs.Ythkikocacbbhkaa
open Go.RowKit

theorem i64_and1 (y : Nat) (h : y ≤ 254) : bits .and .i64 (y : Int) 1 = ((y % 2 : Nat) : Int) := by
  have := Gf.all256 (p := fun y => bits .and .i64 (y : Int) 1 == ((y % 2 : Nat) : Int)) (by decide +kernel) y (by omega)
  exact eq_of_beq this

set_option maxHeartbeats 400000 in
theorem exponent_any (n : Int) (w : World) :
    Calls Try.prog 70 #[.int .i64 n] w fun e w' => e = .returned (.int .i64 (n % 255)) ∧ w' = w := by
  have hl := (Gf.tmod_lo n).1
  have hh := (Gf.tmod_lo n).2
  by_cases h : n.tmod 255 < 0
  · have HE : Hid (n.tmod 255 + 255 = n % 255) := Gf.tmod_below n h
    go_enter Try.func70, Try.ntmps70
    go_wp2
    go_ret
    exact ⟨ret_int HE.out, rfl⟩
  · have HE : Hid (n.tmod 255 = n % 255) := Gf.tmod_above n (by omega)
    go_enter Try.func70, Try.ntmps70
    go_wp2
    go_ret
    exact ⟨ret_int HE.out, rfl⟩

set_option maxHeartbeats 400000 in
theorem power_any (a n : Int) (w : World) (h0 : 0 ≤ a) (h1 : a ≤ 255) (g0 : 0 ≤ n) (g1 : n ≤ 254) :
    Calls Try.prog 69 #[.int .u8 a, .int .i64 n] w fun e w' => e = .returned (.int .u8 ((Gf.pw a.toNat n.toNat : Nat) : Int)) ∧ w' = w := by
  obtain ⟨n, rfl⟩ := Int.eq_ofNat_of_zero_le g0
  obtain ⟨a, rfl⟩ := Int.eq_ofNat_of_zero_le h0
  rw [Int.toNat_natCast, Int.toNat_natCast]
  go_enter Try.func69, Try.ntmps69
  go_wp2
  go_loop [0, 1, 5] (fun x y p => ∃ x' y' p' : Nat, x' < 256 ∧ y' ≤ 254 ∧ p' < 256 ∧ x = .int .u8 (x' : Int) ∧ y = .int .i64 (y' : Int) ∧ p = .int .u8 (p' : Int) ∧ Hid (Gf.mul p' (Gf.pw x' y') = Gf.pw a n)) (fun _ y _ => (intOf y).toNat)
  case atStart => exact ⟨a, n, 1, by omega, by omega, by decide, rfl, rfl, rfl, Gf.one_mul _ (Gf.pw_lt _ _)⟩
  case round =>
    obtain ⟨x, y, p, hx, hy, hp, rfl, rfl, rfl, hI⟩ := hrel
    have hxx : Gf.mul x x < 256 := Gf.mul_lt x x hx
    have hpx : Gf.mul p x < 256 := Gf.mul_lt p x hp
    by_cases hlt : 0 < y
    · by_cases ho : y % 2 = 1
      · have hb : (bits .and .i64 (y : Int) 1 == 1) = true := by rw [i64_and1 y hy, ho]; rfl
        have HO : Hid (y % 2 = 1) := ho
        clear ho
        go_wp2_with (go_at_call 60; refine (mul_any _ _ _ (by omega) (by omega) (by omega) (by omega)).mono ?_; rintro e w' ⟨rfl, rfl⟩)
        go_round
        case rel => exact ⟨Gf.mul x x, y / 2, Gf.mul p x, hxx, by omega, hpx, rfl, by go_num, rfl, (Gf.sq_odd p x y hp hx HO.out).trans hI⟩
        case measure => simp [intOf]; omega
      · have hb : (bits .and .i64 (y : Int) 1 == 1) = false := by rw [i64_and1 y hy, show y % 2 = 0 by omega]; rfl
        have HO : Hid (y % 2 ≠ 1) := ho
        clear ho
        go_wp2_with (go_at_call 60; refine (mul_any _ _ _ (by omega) (by omega) (by omega) (by omega)).mono ?_; rintro e w' ⟨rfl, rfl⟩)
        go_round
        case rel => exact ⟨Gf.mul x x, y / 2, p, hxx, by omega, hp, rfl, by go_num, rfl, (congrArg (Gf.mul p) (Gf.sq_even x y hx HO.out)).trans hI⟩
        case measure => simp [intOf]; omega
    · go_wp2
      go_ret
      have hy0 : y = 0 := by omega
      subst hy0
      exact ⟨ret_int (by rw [← hI.out]; exact congrArg _ (Gf.mul_one p hp).symm), rfl⟩

set_option maxHeartbeats 400000 in
theorem pow_any (a n : Int) (w : World) (h0 : 0 < a) (h1 : a ≤ 255) :
    Calls Try.prog 65 #[.int .u8 a, .int .i64 n] w fun e w' => e = .returned (.tuple #[.int .u8 ((Gf.pw a.toNat (n % 255).toNat : Nat) : Int), .int .i64 0]) ∧ w' = w := by
  have hl : 0 ≤ n % 255 := Int.emod_nonneg _ (by decide)
  have hh : n % 255 < 255 := Int.emod_lt_of_pos _ (by decide)
  have hb : (a != 0) = true := by rw [bne_iff_ne]; omega
  go_enter Try.func65, Try.ntmps65
  go_wp2_with (first | (go_at_call 70; refine (exponent_any _ _).mono ?_; rintro e w' ⟨rfl, rfl⟩) | (go_at_call 69; refine (power_any _ _ _ (by omega) (by omega) (by omega) (by omega)).mono ?_; rintro e w' ⟨rfl, rfl⟩))
  go_ret2
  exact ⟨rfl, rfl⟩

set_option maxHeartbeats 400000 in
theorem pow_zero_any (n : Int) (w : World) :
    Calls Try.prog 65 #[.int .u8 0, .int .i64 n] w fun e w' => e = .returned (.tuple #[.int .u8 (if n = 0 then 1 else 0), .int .i64 (if n < 0 then 10 else 0)]) ∧ w' = w := by
  by_cases h : n < 0
  · have e1 : n ≠ 0 := by omega
    rw [if_neg e1, if_pos h]; clear e1
    go_enter Try.func65, Try.ntmps65
    go_wp2
    go_ret2
    exact ⟨rfl, rfl⟩
  by_cases g : n = 0
  · subst g
    go_enter Try.func65, Try.ntmps65
    go_wp2
    go_ret2
    exact ⟨rfl, rfl⟩
  · rw [if_neg h, if_neg g]
    have hb : (n == 0) = false := beq_eq_false_iff_ne.2 g
    clear g
    go_enter Try.func65, Try.ntmps65
    go_wp2
    go_ret2
    exact ⟨rfl, rfl⟩

set_option maxHeartbeats 400000 in
theorem inv_any (a : Int) (w : World) (h0 : 0 < a) (h1 : a ≤ 255) :
    Calls Try.prog 56 #[.int .u8 a] w fun e w' => e = .returned (.tuple #[.int .u8 ((Gf.pw a.toNat 254 : Nat) : Int), .int .i64 0]) ∧ w' = w := by
  go_enter Try.func56, Try.ntmps56
  go_wp2_with (go_at_call 65; refine (pow_any _ _ _ (by omega) (by omega)).mono ?_; rintro e w' ⟨rfl, rfl⟩)
  go_ret2
  exact ⟨rfl, rfl⟩

set_option maxHeartbeats 400000 in
theorem inv_zero_any (w : World) :
    Calls Try.prog 56 #[.int .u8 0] w fun e w' => e = .returned (.tuple #[.int .u8 0, .int .i64 10]) ∧ w' = w := by
  go_enter Try.func56, Try.ntmps56
  go_wp2_with (go_at_call 65; refine (pow_zero_any _ _).mono ?_; rintro e w' ⟨rfl, rfl⟩)
  go_ret2
  exact ⟨rfl, rfl⟩

end Go.Proofs.Ythkikocacbbhkaa
