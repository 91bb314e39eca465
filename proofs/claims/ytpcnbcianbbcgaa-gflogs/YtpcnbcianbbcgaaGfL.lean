/- The walk of the law GfLogs: powers of sums are products, logarithms undo powers, for any byte and numbers. -/
import Derived.Test.YtpcnbcianbbcgaaGfU
namespace Go.Proofs.Ytpcnbcianbbcgaa
open Go.RowKit

theorem exp_k (k : Nat) (w : World) (hk : k < 255) : Calls Try.prog 9 #[.int .i64 (k : Int)] w fun e w' => e = .returned (.int .u8 ((Gf.E k : Nat) : Int)) ∧ w' = w := by
  refine (exp_any k w).mono ?_
  rw [show ((k : Int) % 255).toNat = k by omega]
  exact fun _ _ h => h
theorem exp_n (n : Int) (k : Nat) (w : World) (h : n % 255 = (k : Int)) : Calls Try.prog 9 #[.int .i64 n] w fun e w' => e = .returned (.int .u8 ((Gf.E k : Nat) : Int)) ∧ w' = w := by
  refine (exp_any n w).mono ?_
  rw [h, Int.toNat_natCast]
  exact fun _ _ h => h
theorem log_E (k : Nat) (w : World) (hk : k < 255) : Calls Try.prog 10 #[.int .u8 ((Gf.E k : Nat) : Int)] w fun e w' => e = .returned (.tuple #[.int .i64 (k : Int), .int .i64 0]) ∧ Below w.heap.size w w' := by
  refine (log_u _ w (Gf.E_lt k)).mono ?_
  rw [Gf.lg_E k hk, errZ, if_neg (Gf.E_ne_zero k)]
  exact fun _ _ h => h
theorem powV_add (x : Nat) (n m : Int) (hx : x < 256) (h : x ≠ 0 ∨ (0 ≤ n ∧ 0 ≤ m)) : powV x (n + m) = Gf.mul (powV x n) (powV x m) := by
  unfold powV
  by_cases g : x = 0
  · rw [if_pos g, if_pos g, if_pos g]
    have h2 : 0 ≤ n ∧ 0 ≤ m := by
      rcases h with h | h
      · exact absurd g h
      · exact h
    by_cases a : n = 0
    · by_cases b : m = 0
      · rw [if_pos a, if_pos b, if_pos (by omega)]; decide +kernel
      · rw [if_pos a, if_neg b, if_neg (by omega)]; decide +kernel
    · rw [if_neg a, if_neg (by omega), Gf.zero_mul]
  · rw [if_neg g, if_neg g, if_neg g, ← Gf.pw_add x _ _ hx, ← Gf.pw_mod x ((n % 255).toNat + (m % 255).toNat) hx g]
    congr 1
    omega
theorem powE_zero (x : Nat) (n : Int) (h : x ≠ 0 ∨ 0 ≤ n) : powE x n = 0 := if_neg (fun c => by omega)
theorem powE_ten (x : Nat) (n : Int) (h : x = 0) (g : n < 0) : powE x n = 10 := if_pos ⟨h, g⟩

set_option maxHeartbeats 1000000 in
theorem logs_o1 (x : Nat) (n m : Int) (w : World) (h1 : 1099511627776 < n) :
    Calls Try.prog 7 #[.int .u8 (x : Int), .int .i64 n, .int .i64 m] w fun e w' => e = .returned (.bool true) ∧ Below w.heap.size w w' := by
  go_enter Try.func7, Try.ntmps7
  go_wp2_with fail
  refine (alive_any _).mono ?_; rintro e w1 ⟨rfl, hb1⟩
  go_wp2_with fail
  go_ret
  exact ⟨rfl, hb1⟩

set_option maxHeartbeats 1000000 in
theorem logs_o2 (x : Nat) (n m : Int) (w : World) (h1 : n < -1099511627776) :
    Calls Try.prog 7 #[.int .u8 (x : Int), .int .i64 n, .int .i64 m] w fun e w' => e = .returned (.bool true) ∧ Below w.heap.size w w' := by
  go_enter Try.func7, Try.ntmps7
  go_wp2_with fail
  refine (alive_any _).mono ?_; rintro e w1 ⟨rfl, hb1⟩
  go_wp2_with fail
  go_ret
  exact ⟨rfl, hb1⟩

set_option maxHeartbeats 1000000 in
theorem logs_o3 (x : Nat) (n m : Int) (w : World) (h1 : -1099511627776 ≤ n) (h2 : n ≤ 1099511627776) (h3 : 1099511627776 < m) :
    Calls Try.prog 7 #[.int .u8 (x : Int), .int .i64 n, .int .i64 m] w fun e w' => e = .returned (.bool true) ∧ Below w.heap.size w w' := by
  go_enter Try.func7, Try.ntmps7
  go_wp2_with fail
  refine (alive_any _).mono ?_; rintro e w1 ⟨rfl, hb1⟩
  go_wp2_with fail
  go_ret
  exact ⟨rfl, hb1⟩

set_option maxHeartbeats 1000000 in
theorem logs_o4 (x : Nat) (n m : Int) (w : World) (h1 : -1099511627776 ≤ n) (h2 : n ≤ 1099511627776) (h3 : m < -1099511627776) :
    Calls Try.prog 7 #[.int .u8 (x : Int), .int .i64 n, .int .i64 m] w fun e w' => e = .returned (.bool true) ∧ Below w.heap.size w w' := by
  go_enter Try.func7, Try.ntmps7
  go_wp2_with fail
  refine (alive_any _).mono ?_; rintro e w1 ⟨rfl, hb1⟩
  go_wp2_with fail
  go_ret
  exact ⟨rfl, hb1⟩

set_option maxHeartbeats 1000000 in
theorem logs_ma (x : Nat) (n m : Int) (w : World) (hx : x < 256) (n1 : -1099511627776 ≤ n) (n2 : n ≤ 1099511627776) (m1 : -1099511627776 ≤ m) (m2 : m ≤ 1099511627776) (n3 : n < 0) (hc : x ≠ 0 ∨ (0 ≤ n ∧ 0 ≤ m)) :
    Calls Try.prog 7 #[.int .u8 (x : Int), .int .i64 n, .int .i64 m] w fun e w' => e = .returned (.bool true) ∧ Below w.heap.size w w' := by
  obtain ⟨k, hk⟩ := Int.eq_ofNat_of_zero_le (Int.emod_nonneg n (show (255 : Int) ≠ 0 by decide))
  obtain ⟨j, hj⟩ := Int.eq_ofNat_of_zero_le (Int.emod_nonneg m (show (255 : Int) ≠ 0 by decide))
  have hk5 : k < 255 := by omega
  have hj5 : j < 255 := by omega
  have HK : Hid (n % 255 = (k : Int)) := hk
  have HJ : Hid (m % 255 = (j : Int)) := hj
  have HS : Hid ((n + m) % 255 = (((k + j) % 255 : Nat) : Int)) := by show (n + m) % 255 = (((k + j) % 255 : Nat) : Int); omega
  have HL : Hid ((n + 255) % 255 = (k : Int)) := by show (n + 255) % 255 = (k : Int); omega
  have HM : Hid (Gf.E ((k + j) % 255) = Gf.mul (Gf.E k) (Gf.E j)) := by show Gf.E ((k + j) % 255) = Gf.mul (Gf.E k) (Gf.E j); rw [Gf.E_mod, Gf.E_mul]
  have HE1 : Hid (powE x n = 0) := powE_zero x n (by omega)
  have HE2 : Hid (powE x m = 0) := powE_zero x m (by omega)
  have HE3 : Hid (powE x (n + m) = 0) := powE_zero x (n + m) (by omega)
  have HA : Hid (powV x (n + m) = Gf.mul (powV x n) (powV x m)) := powV_add x n m hx hc
  clear hc
  clear hk hj
  go_enter Try.func7, Try.ntmps7
  go_wp2_with fail
  refine (alive_any _).mono ?_; rintro e w1 ⟨rfl, hb1⟩
  go_wp2_with fail
  refine (exp_n _ _ _ HS.out).mono ?_; rw [HM.out]; rintro e w' ⟨rfl, rfl⟩
  go_wp2_with fail
  refine (exp_n _ _ _ HK.out).mono ?_; rintro e w' ⟨rfl, rfl⟩
  go_wp2_with fail
  refine (exp_n _ _ _ HJ.out).mono ?_; rintro e w' ⟨rfl, rfl⟩
  go_wp2_with fail
  refine (mul_n _ _ _ (Gf.E_lt k) (Gf.E_lt j)).mono ?_; rintro e w' ⟨rfl, rfl⟩
  go_wp2_with fail
  refine (exp_n _ _ _ HK.out).mono ?_; rintro e w' ⟨rfl, rfl⟩
  go_wp2_with fail
  refine (exp_n _ _ _ HL.out).mono ?_; rintro e w' ⟨rfl, rfl⟩
  go_wp2_with fail
  refine (exp_n _ _ _ HK.out).mono ?_; rintro e w' ⟨rfl, rfl⟩
  go_wp2_with fail
  refine (log_E _ _ hk5).mono ?_; rintro e w2 ⟨rfl, hb2⟩
  go_wp2_with fail
  refine (exp_k _ _ hk5).mono ?_; rintro e w' ⟨rfl, rfl⟩
  go_wp2_with fail
  refine (exp_n _ _ _ HK.out).mono ?_; rintro e w' ⟨rfl, rfl⟩
  go_wp2_with fail
  refine (pow_u _ _ _ hx).mono ?_; rw [HE1.out]; rintro e w' ⟨rfl, rfl⟩
  go_wp2_with fail
  refine (pow_u _ _ _ hx).mono ?_; rw [HE2.out]; rintro e w' ⟨rfl, rfl⟩
  go_wp2_with fail
  refine (pow_u _ _ _ hx).mono ?_; rw [HE3.out, HA.out]; rintro e w' ⟨rfl, rfl⟩
  go_wp2_with fail
  refine (mul_n _ _ _ (powV_lt x n) (powV_lt x m)).mono ?_; rintro e w' ⟨rfl, rfl⟩
  go_wp2_with fail
  go_ret
  exact ⟨rfl, hb1.trans (hb2.mono hb1.size)⟩

set_option maxHeartbeats 1000000 in
theorem logs_mb (x : Nat) (n m : Int) (w : World) (hx : x < 256) (n1 : -1099511627776 ≤ n) (n2 : n ≤ 1099511627776) (m1 : -1099511627776 ≤ m) (m2 : m ≤ 1099511627776) (n3 : 0 ≤ n) (n4 : n < 255) (hc : x ≠ 0 ∨ (0 ≤ n ∧ 0 ≤ m)) :
    Calls Try.prog 7 #[.int .u8 (x : Int), .int .i64 n, .int .i64 m] w fun e w' => e = .returned (.bool true) ∧ Below w.heap.size w w' := by
  obtain ⟨k, hk⟩ := Int.eq_ofNat_of_zero_le (Int.emod_nonneg n (show (255 : Int) ≠ 0 by decide))
  obtain ⟨j, hj⟩ := Int.eq_ofNat_of_zero_le (Int.emod_nonneg m (show (255 : Int) ≠ 0 by decide))
  have hk5 : k < 255 := by omega
  have hj5 : j < 255 := by omega
  have HK : Hid (n % 255 = (k : Int)) := hk
  have HJ : Hid (m % 255 = (j : Int)) := hj
  have HS : Hid ((n + m) % 255 = (((k + j) % 255 : Nat) : Int)) := by show (n + m) % 255 = (((k + j) % 255 : Nat) : Int); omega
  have HL : Hid ((n + 255) % 255 = (k : Int)) := by show (n + 255) % 255 = (k : Int); omega
  have HM : Hid (Gf.E ((k + j) % 255) = Gf.mul (Gf.E k) (Gf.E j)) := by show Gf.E ((k + j) % 255) = Gf.mul (Gf.E k) (Gf.E j); rw [Gf.E_mod, Gf.E_mul]
  have hne : ((k : Int) != n) = false := by rw [bne_eq_false_iff_eq]; omega
  have HE1 : Hid (powE x n = 0) := powE_zero x n (by omega)
  have HE2 : Hid (powE x m = 0) := powE_zero x m (by omega)
  have HE3 : Hid (powE x (n + m) = 0) := powE_zero x (n + m) (by omega)
  have HA : Hid (powV x (n + m) = Gf.mul (powV x n) (powV x m)) := powV_add x n m hx hc
  clear hc
  clear hk hj
  go_enter Try.func7, Try.ntmps7
  go_wp2_with fail
  refine (alive_any _).mono ?_; rintro e w1 ⟨rfl, hb1⟩
  go_wp2_with fail
  refine (exp_n _ _ _ HS.out).mono ?_; rw [HM.out]; rintro e w' ⟨rfl, rfl⟩
  go_wp2_with fail
  refine (exp_n _ _ _ HK.out).mono ?_; rintro e w' ⟨rfl, rfl⟩
  go_wp2_with fail
  refine (exp_n _ _ _ HJ.out).mono ?_; rintro e w' ⟨rfl, rfl⟩
  go_wp2_with fail
  refine (mul_n _ _ _ (Gf.E_lt k) (Gf.E_lt j)).mono ?_; rintro e w' ⟨rfl, rfl⟩
  go_wp2_with fail
  refine (exp_n _ _ _ HK.out).mono ?_; rintro e w' ⟨rfl, rfl⟩
  go_wp2_with fail
  refine (exp_n _ _ _ HL.out).mono ?_; rintro e w' ⟨rfl, rfl⟩
  go_wp2_with fail
  refine (exp_n _ _ _ HK.out).mono ?_; rintro e w' ⟨rfl, rfl⟩
  go_wp2_with fail
  refine (log_E _ _ hk5).mono ?_; rintro e w2 ⟨rfl, hb2⟩
  go_wp2_with fail
  refine (exp_k _ _ hk5).mono ?_; rintro e w' ⟨rfl, rfl⟩
  go_wp2_with fail
  refine (exp_n _ _ _ HK.out).mono ?_; rintro e w' ⟨rfl, rfl⟩
  go_wp2_with fail
  refine (pow_u _ _ _ hx).mono ?_; rw [HE1.out]; rintro e w' ⟨rfl, rfl⟩
  go_wp2_with fail
  refine (pow_u _ _ _ hx).mono ?_; rw [HE2.out]; rintro e w' ⟨rfl, rfl⟩
  go_wp2_with fail
  refine (pow_u _ _ _ hx).mono ?_; rw [HE3.out, HA.out]; rintro e w' ⟨rfl, rfl⟩
  go_wp2_with fail
  refine (mul_n _ _ _ (powV_lt x n) (powV_lt x m)).mono ?_; rintro e w' ⟨rfl, rfl⟩
  go_wp2_with fail
  go_ret
  exact ⟨rfl, hb1.trans (hb2.mono hb1.size)⟩

set_option maxHeartbeats 1000000 in
theorem logs_mc (x : Nat) (n m : Int) (w : World) (hx : x < 256) (n1 : -1099511627776 ≤ n) (n2 : n ≤ 1099511627776) (m1 : -1099511627776 ≤ m) (m2 : m ≤ 1099511627776) (n3 : 255 ≤ n) (hc : x ≠ 0 ∨ (0 ≤ n ∧ 0 ≤ m)) :
    Calls Try.prog 7 #[.int .u8 (x : Int), .int .i64 n, .int .i64 m] w fun e w' => e = .returned (.bool true) ∧ Below w.heap.size w w' := by
  obtain ⟨k, hk⟩ := Int.eq_ofNat_of_zero_le (Int.emod_nonneg n (show (255 : Int) ≠ 0 by decide))
  obtain ⟨j, hj⟩ := Int.eq_ofNat_of_zero_le (Int.emod_nonneg m (show (255 : Int) ≠ 0 by decide))
  have hk5 : k < 255 := by omega
  have hj5 : j < 255 := by omega
  have HK : Hid (n % 255 = (k : Int)) := hk
  have HJ : Hid (m % 255 = (j : Int)) := hj
  have HS : Hid ((n + m) % 255 = (((k + j) % 255 : Nat) : Int)) := by show (n + m) % 255 = (((k + j) % 255 : Nat) : Int); omega
  have HL : Hid ((n + 255) % 255 = (k : Int)) := by show (n + 255) % 255 = (k : Int); omega
  have HM : Hid (Gf.E ((k + j) % 255) = Gf.mul (Gf.E k) (Gf.E j)) := by show Gf.E ((k + j) % 255) = Gf.mul (Gf.E k) (Gf.E j); rw [Gf.E_mod, Gf.E_mul]
  have HE1 : Hid (powE x n = 0) := powE_zero x n (by omega)
  have HE2 : Hid (powE x m = 0) := powE_zero x m (by omega)
  have HE3 : Hid (powE x (n + m) = 0) := powE_zero x (n + m) (by omega)
  have HA : Hid (powV x (n + m) = Gf.mul (powV x n) (powV x m)) := powV_add x n m hx hc
  clear hc
  clear hk hj
  go_enter Try.func7, Try.ntmps7
  go_wp2_with fail
  refine (alive_any _).mono ?_; rintro e w1 ⟨rfl, hb1⟩
  go_wp2_with fail
  refine (exp_n _ _ _ HS.out).mono ?_; rw [HM.out]; rintro e w' ⟨rfl, rfl⟩
  go_wp2_with fail
  refine (exp_n _ _ _ HK.out).mono ?_; rintro e w' ⟨rfl, rfl⟩
  go_wp2_with fail
  refine (exp_n _ _ _ HJ.out).mono ?_; rintro e w' ⟨rfl, rfl⟩
  go_wp2_with fail
  refine (mul_n _ _ _ (Gf.E_lt k) (Gf.E_lt j)).mono ?_; rintro e w' ⟨rfl, rfl⟩
  go_wp2_with fail
  refine (exp_n _ _ _ HK.out).mono ?_; rintro e w' ⟨rfl, rfl⟩
  go_wp2_with fail
  refine (exp_n _ _ _ HL.out).mono ?_; rintro e w' ⟨rfl, rfl⟩
  go_wp2_with fail
  refine (exp_n _ _ _ HK.out).mono ?_; rintro e w' ⟨rfl, rfl⟩
  go_wp2_with fail
  refine (log_E _ _ hk5).mono ?_; rintro e w2 ⟨rfl, hb2⟩
  go_wp2_with fail
  refine (exp_k _ _ hk5).mono ?_; rintro e w' ⟨rfl, rfl⟩
  go_wp2_with fail
  refine (exp_n _ _ _ HK.out).mono ?_; rintro e w' ⟨rfl, rfl⟩
  go_wp2_with fail
  refine (pow_u _ _ _ hx).mono ?_; rw [HE1.out]; rintro e w' ⟨rfl, rfl⟩
  go_wp2_with fail
  refine (pow_u _ _ _ hx).mono ?_; rw [HE2.out]; rintro e w' ⟨rfl, rfl⟩
  go_wp2_with fail
  refine (pow_u _ _ _ hx).mono ?_; rw [HE3.out, HA.out]; rintro e w' ⟨rfl, rfl⟩
  go_wp2_with fail
  refine (mul_n _ _ _ (powV_lt x n) (powV_lt x m)).mono ?_; rintro e w' ⟨rfl, rfl⟩
  go_wp2_with fail
  go_ret
  exact ⟨rfl, hb1.trans (hb2.mono hb1.size)⟩

set_option maxHeartbeats 1000000 in
theorem logs_za (x : Nat) (n m : Int) (w : World) (hx : x < 256) (n1 : -1099511627776 ≤ n) (n2 : n ≤ 1099511627776) (m1 : -1099511627776 ≤ m) (m2 : m ≤ 1099511627776) (h0 : x = 0) (n3 : n < 0) :
    Calls Try.prog 7 #[.int .u8 (x : Int), .int .i64 n, .int .i64 m] w fun e w' => e = .returned (.bool true) ∧ Below w.heap.size w w' := by
  obtain ⟨k, hk⟩ := Int.eq_ofNat_of_zero_le (Int.emod_nonneg n (show (255 : Int) ≠ 0 by decide))
  obtain ⟨j, hj⟩ := Int.eq_ofNat_of_zero_le (Int.emod_nonneg m (show (255 : Int) ≠ 0 by decide))
  have hk5 : k < 255 := by omega
  have hj5 : j < 255 := by omega
  have HK : Hid (n % 255 = (k : Int)) := hk
  have HJ : Hid (m % 255 = (j : Int)) := hj
  have HS : Hid ((n + m) % 255 = (((k + j) % 255 : Nat) : Int)) := by show (n + m) % 255 = (((k + j) % 255 : Nat) : Int); omega
  have HL : Hid ((n + 255) % 255 = (k : Int)) := by show (n + 255) % 255 = (k : Int); omega
  have HM : Hid (Gf.E ((k + j) % 255) = Gf.mul (Gf.E k) (Gf.E j)) := by show Gf.E ((k + j) % 255) = Gf.mul (Gf.E k) (Gf.E j); rw [Gf.E_mod, Gf.E_mul]
  have hb : ((x : Int) == 0) = true := by rw [h0]; rfl
  have HE1 : Hid (powE x n = 10) := powE_ten x n h0 n3
  clear h0
  clear hk hj
  go_enter Try.func7, Try.ntmps7
  go_wp2_with fail
  refine (alive_any _).mono ?_; rintro e w1 ⟨rfl, hb1⟩
  go_wp2_with fail
  refine (exp_n _ _ _ HS.out).mono ?_; rw [HM.out]; rintro e w' ⟨rfl, rfl⟩
  go_wp2_with fail
  refine (exp_n _ _ _ HK.out).mono ?_; rintro e w' ⟨rfl, rfl⟩
  go_wp2_with fail
  refine (exp_n _ _ _ HJ.out).mono ?_; rintro e w' ⟨rfl, rfl⟩
  go_wp2_with fail
  refine (mul_n _ _ _ (Gf.E_lt k) (Gf.E_lt j)).mono ?_; rintro e w' ⟨rfl, rfl⟩
  go_wp2_with fail
  refine (exp_n _ _ _ HK.out).mono ?_; rintro e w' ⟨rfl, rfl⟩
  go_wp2_with fail
  refine (exp_n _ _ _ HL.out).mono ?_; rintro e w' ⟨rfl, rfl⟩
  go_wp2_with fail
  refine (exp_n _ _ _ HK.out).mono ?_; rintro e w' ⟨rfl, rfl⟩
  go_wp2_with fail
  refine (log_E _ _ hk5).mono ?_; rintro e w2 ⟨rfl, hb2⟩
  go_wp2_with fail
  refine (exp_k _ _ hk5).mono ?_; rintro e w' ⟨rfl, rfl⟩
  go_wp2_with fail
  refine (exp_n _ _ _ HK.out).mono ?_; rintro e w' ⟨rfl, rfl⟩
  go_wp2_with fail
  refine (pow_u _ _ _ hx).mono ?_; rw [HE1.out]; rintro e w' ⟨rfl, rfl⟩
  go_wp2_with fail
  refine (pow_u _ _ _ hx).mono ?_; rintro e w' ⟨rfl, rfl⟩
  go_wp2_with fail
  refine (pow_u _ _ _ hx).mono ?_; rintro e w' ⟨rfl, rfl⟩
  go_wp2_with fail
  go_ret
  exact ⟨rfl, hb1.trans (hb2.mono hb1.size)⟩

set_option maxHeartbeats 1000000 in
theorem logs_zb (x : Nat) (n m : Int) (w : World) (hx : x < 256) (n1 : -1099511627776 ≤ n) (n2 : n ≤ 1099511627776) (m1 : -1099511627776 ≤ m) (m2 : m ≤ 1099511627776) (h0 : x = 0) (n3 : 0 ≤ n) (n4 : n < 255) (m3 : m < 0) :
    Calls Try.prog 7 #[.int .u8 (x : Int), .int .i64 n, .int .i64 m] w fun e w' => e = .returned (.bool true) ∧ Below w.heap.size w w' := by
  obtain ⟨k, hk⟩ := Int.eq_ofNat_of_zero_le (Int.emod_nonneg n (show (255 : Int) ≠ 0 by decide))
  obtain ⟨j, hj⟩ := Int.eq_ofNat_of_zero_le (Int.emod_nonneg m (show (255 : Int) ≠ 0 by decide))
  have hk5 : k < 255 := by omega
  have hj5 : j < 255 := by omega
  have HK : Hid (n % 255 = (k : Int)) := hk
  have HJ : Hid (m % 255 = (j : Int)) := hj
  have HS : Hid ((n + m) % 255 = (((k + j) % 255 : Nat) : Int)) := by show (n + m) % 255 = (((k + j) % 255 : Nat) : Int); omega
  have HL : Hid ((n + 255) % 255 = (k : Int)) := by show (n + 255) % 255 = (k : Int); omega
  have HM : Hid (Gf.E ((k + j) % 255) = Gf.mul (Gf.E k) (Gf.E j)) := by show Gf.E ((k + j) % 255) = Gf.mul (Gf.E k) (Gf.E j); rw [Gf.E_mod, Gf.E_mul]
  have hne : ((k : Int) != n) = false := by rw [bne_eq_false_iff_eq]; omega
  have hb : ((x : Int) == 0) = true := by rw [h0]; rfl
  have HE1 : Hid (powE x n = 0) := powE_zero x n (by omega)
  have HE2 : Hid (powE x m = 10) := powE_ten x m h0 m3
  clear h0
  clear hk hj
  go_enter Try.func7, Try.ntmps7
  go_wp2_with fail
  refine (alive_any _).mono ?_; rintro e w1 ⟨rfl, hb1⟩
  go_wp2_with fail
  refine (exp_n _ _ _ HS.out).mono ?_; rw [HM.out]; rintro e w' ⟨rfl, rfl⟩
  go_wp2_with fail
  refine (exp_n _ _ _ HK.out).mono ?_; rintro e w' ⟨rfl, rfl⟩
  go_wp2_with fail
  refine (exp_n _ _ _ HJ.out).mono ?_; rintro e w' ⟨rfl, rfl⟩
  go_wp2_with fail
  refine (mul_n _ _ _ (Gf.E_lt k) (Gf.E_lt j)).mono ?_; rintro e w' ⟨rfl, rfl⟩
  go_wp2_with fail
  refine (exp_n _ _ _ HK.out).mono ?_; rintro e w' ⟨rfl, rfl⟩
  go_wp2_with fail
  refine (exp_n _ _ _ HL.out).mono ?_; rintro e w' ⟨rfl, rfl⟩
  go_wp2_with fail
  refine (exp_n _ _ _ HK.out).mono ?_; rintro e w' ⟨rfl, rfl⟩
  go_wp2_with fail
  refine (log_E _ _ hk5).mono ?_; rintro e w2 ⟨rfl, hb2⟩
  go_wp2_with fail
  refine (exp_k _ _ hk5).mono ?_; rintro e w' ⟨rfl, rfl⟩
  go_wp2_with fail
  refine (exp_n _ _ _ HK.out).mono ?_; rintro e w' ⟨rfl, rfl⟩
  go_wp2_with fail
  refine (pow_u _ _ _ hx).mono ?_; rw [HE1.out]; rintro e w' ⟨rfl, rfl⟩
  go_wp2_with fail
  refine (pow_u _ _ _ hx).mono ?_; rw [HE2.out]; rintro e w' ⟨rfl, rfl⟩
  go_wp2_with fail
  refine (pow_u _ _ _ hx).mono ?_; rintro e w' ⟨rfl, rfl⟩
  go_wp2_with fail
  go_ret
  exact ⟨rfl, hb1.trans (hb2.mono hb1.size)⟩

set_option maxHeartbeats 1000000 in
theorem logs_zc (x : Nat) (n m : Int) (w : World) (hx : x < 256) (n1 : -1099511627776 ≤ n) (n2 : n ≤ 1099511627776) (m1 : -1099511627776 ≤ m) (m2 : m ≤ 1099511627776) (h0 : x = 0) (n3 : 255 ≤ n) (m3 : m < 0) :
    Calls Try.prog 7 #[.int .u8 (x : Int), .int .i64 n, .int .i64 m] w fun e w' => e = .returned (.bool true) ∧ Below w.heap.size w w' := by
  obtain ⟨k, hk⟩ := Int.eq_ofNat_of_zero_le (Int.emod_nonneg n (show (255 : Int) ≠ 0 by decide))
  obtain ⟨j, hj⟩ := Int.eq_ofNat_of_zero_le (Int.emod_nonneg m (show (255 : Int) ≠ 0 by decide))
  have hk5 : k < 255 := by omega
  have hj5 : j < 255 := by omega
  have HK : Hid (n % 255 = (k : Int)) := hk
  have HJ : Hid (m % 255 = (j : Int)) := hj
  have HS : Hid ((n + m) % 255 = (((k + j) % 255 : Nat) : Int)) := by show (n + m) % 255 = (((k + j) % 255 : Nat) : Int); omega
  have HL : Hid ((n + 255) % 255 = (k : Int)) := by show (n + 255) % 255 = (k : Int); omega
  have HM : Hid (Gf.E ((k + j) % 255) = Gf.mul (Gf.E k) (Gf.E j)) := by show Gf.E ((k + j) % 255) = Gf.mul (Gf.E k) (Gf.E j); rw [Gf.E_mod, Gf.E_mul]
  have hb : ((x : Int) == 0) = true := by rw [h0]; rfl
  have HE1 : Hid (powE x n = 0) := powE_zero x n (by omega)
  have HE2 : Hid (powE x m = 10) := powE_ten x m h0 m3
  clear h0
  clear hk hj
  go_enter Try.func7, Try.ntmps7
  go_wp2_with fail
  refine (alive_any _).mono ?_; rintro e w1 ⟨rfl, hb1⟩
  go_wp2_with fail
  refine (exp_n _ _ _ HS.out).mono ?_; rw [HM.out]; rintro e w' ⟨rfl, rfl⟩
  go_wp2_with fail
  refine (exp_n _ _ _ HK.out).mono ?_; rintro e w' ⟨rfl, rfl⟩
  go_wp2_with fail
  refine (exp_n _ _ _ HJ.out).mono ?_; rintro e w' ⟨rfl, rfl⟩
  go_wp2_with fail
  refine (mul_n _ _ _ (Gf.E_lt k) (Gf.E_lt j)).mono ?_; rintro e w' ⟨rfl, rfl⟩
  go_wp2_with fail
  refine (exp_n _ _ _ HK.out).mono ?_; rintro e w' ⟨rfl, rfl⟩
  go_wp2_with fail
  refine (exp_n _ _ _ HL.out).mono ?_; rintro e w' ⟨rfl, rfl⟩
  go_wp2_with fail
  refine (exp_n _ _ _ HK.out).mono ?_; rintro e w' ⟨rfl, rfl⟩
  go_wp2_with fail
  refine (log_E _ _ hk5).mono ?_; rintro e w2 ⟨rfl, hb2⟩
  go_wp2_with fail
  refine (exp_k _ _ hk5).mono ?_; rintro e w' ⟨rfl, rfl⟩
  go_wp2_with fail
  refine (exp_n _ _ _ HK.out).mono ?_; rintro e w' ⟨rfl, rfl⟩
  go_wp2_with fail
  refine (pow_u _ _ _ hx).mono ?_; rw [HE1.out]; rintro e w' ⟨rfl, rfl⟩
  go_wp2_with fail
  refine (pow_u _ _ _ hx).mono ?_; rw [HE2.out]; rintro e w' ⟨rfl, rfl⟩
  go_wp2_with fail
  refine (pow_u _ _ _ hx).mono ?_; rintro e w' ⟨rfl, rfl⟩
  go_wp2_with fail
  go_ret
  exact ⟨rfl, hb1.trans (hb2.mono hb1.size)⟩

theorem logs_walk (x : Nat) (n m : Int) (w : World) (hx : x < 256) :
    Calls Try.prog 7 #[.int .u8 (x : Int), .int .i64 n, .int .i64 m] w fun e w' => e = .returned (.bool true) ∧ Below w.heap.size w w' := by
  by_cases a1 : 1099511627776 < n
  · exact logs_o1 x n m w a1
  by_cases a2 : n < -1099511627776
  · exact logs_o2 x n m w a2
  by_cases a3 : 1099511627776 < m
  · exact logs_o3 x n m w (by omega) (by omega) a3
  by_cases a4 : m < -1099511627776
  · exact logs_o4 x n m w (by omega) (by omega) a4
  by_cases b1 : n < 0
  · by_cases h0 : x = 0
    · exact logs_za x n m w hx (by omega) (by omega) (by omega) (by omega) h0 b1
    · exact logs_ma x n m w hx (by omega) (by omega) (by omega) (by omega) b1 (Or.inl h0)
  by_cases b2 : n < 255
  · by_cases c : x ≠ 0 ∨ 0 ≤ m
    · exact logs_mb x n m w hx (by omega) (by omega) (by omega) (by omega) (by omega) b2 (by omega)
    · exact logs_zb x n m w hx (by omega) (by omega) (by omega) (by omega) (by omega) (by omega) b2 (by omega)
  · by_cases c : x ≠ 0 ∨ 0 ≤ m
    · exact logs_mc x n m w hx (by omega) (by omega) (by omega) (by omega) (by omega) (by omega)
    · exact logs_zc x n m w hx (by omega) (by omega) (by omega) (by omega) (by omega) (by omega) (by omega)
end Go.Proofs.Ytpcnbcianbbcgaa
