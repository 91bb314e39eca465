/- What the document's own answers for the field (products, inverses, quotients, powers, logarithms) come to: the same numbers. -/
import Derived.Test.YthkikocacbbhkaaGfB
namespace Go.Proofs.Ythkikocacbbhkaa
open Go.RowKit

theorem add_n (x y : Nat) (w : World) (hx : x < 256) (hy : y < 256) : Calls Try.prog 57 #[.int .u8 (x : Int), .int .u8 (y : Int)] w fun e w' => e = .returned (.int .u8 ((Gf.add x y : Nat) : Int)) ∧ w' = w :=
  add_any x y w (by omega) (by omega) (by omega) (by omega)
theorem mul_n (x y : Nat) (w : World) (hx : x < 256) (hy : y < 256) : Calls Try.prog 60 #[.int .u8 (x : Int), .int .u8 (y : Int)] w fun e w' => e = .returned (.int .u8 ((Gf.mul x y : Nat) : Int)) ∧ w' = w :=
  mul_any x y w (by omega) (by omega) (by omega) (by omega)
theorem inv_n (x : Nat) (w : World) (hx : x < 256) (h : x ≠ 0) : Calls Try.prog 56 #[.int .u8 (x : Int)] w fun e w' => e = .returned (.tuple #[.int .u8 ((Gf.pw x 254 : Nat) : Int), .int .i64 0]) ∧ w' = w :=
  inv_any x w (by omega) (by omega)

theorem pow_cast (k : Nat) : ((2 : Int) ^ k) = ((2 ^ k : Nat) : Int) := by rw [Int.natCast_pow]; rfl
theorem div_cast (m k : Nat) : (m : Int) / 2 ^ k = ((m / 2 ^ k : Nat) : Int) := by rw [pow_cast, Int.natCast_ediv]
theorem bit_u8 (m k : Nat) (hm : m < 256) : (bits .and .u8 ((m : Int) / 2 ^ k) 1 == 1) = m.testBit k := by
  have h1 : m / 2 ^ k < 256 := Nat.lt_of_le_of_lt (Nat.div_le_self _ _) hm
  rw [div_cast, show (1 : Int) = ((1 : Nat) : Int) from rfl, u8_and_nat _ _ h1 (by decide), nat_mask1, Nat.testBit_eq_decide_div_mod_eq]
  by_cases h : m / 2 ^ k % 2 = 1
  · rw [h, decide_eq_true rfl]; rfl
  · rw [decide_eq_false h, show m / 2 ^ k % 2 = 0 by omega]; rfl
theorem bit_u32 (m k : Nat) (hm : m < 32768) : (bits .and .u32 ((m : Int) / 2 ^ k) 1 == 1) = m.testBit k := by
  have h1 : m / 2 ^ k < 32768 := Nat.lt_of_le_of_lt (Nat.div_le_self _ _) hm
  rw [div_cast, show (1 : Int) = ((1 : Nat) : Int) from rfl, u32_and_nat _ _ (by omega) (by decide), nat_mask1, Nat.testBit_eq_decide_div_mod_eq]
  by_cases h : m / 2 ^ k % 2 = 1
  · rw [h, decide_eq_true rfl]; rfl
  · rw [decide_eq_false h, show m / 2 ^ k % 2 = 0 by omega]; rfl
theorem shl_u32 (L n k : Nat) (hL : L < 32768) (hn : n < 512) (hk : k < 8) : bits .xor .u32 (L : Int) ((n : Int) * 2 ^ k % 4294967296) = ((L ^^^ n <<< k : Nat) : Int) := by
  have h1 : 2 ^ k ≤ 2 ^ 7 := Nat.pow_le_pow_right (by decide) (by omega)
  have h2 : n * 2 ^ k ≤ 511 * 2 ^ 7 := Nat.mul_le_mul (by omega) h1
  have h3 : (n : Int) * 2 ^ k % 4294967296 = ((n <<< k : Nat) : Int) := by
    rw [pow_cast, Nat.shiftLeft_eq, ← Int.natCast_mul]; omega
  rw [h3, u32_xor_nat _ _ (by omega) (by rw [Nat.shiftLeft_eq]; omega)]

set_option maxHeartbeats 400000 in
set_option maxRecDepth 100000 in
theorem rmul_n (n m : Nat) (w : World) (hn : n < 256) (hm : m < 256) :
    Calls Try.prog 58 #[.int .u8 (n : Int), .int .u8 (m : Int)] w fun e w' => e = .returned (.int .u8 ((Gf.mul n m : Nat) : Int)) ∧ w' = w := by
  go_enter Try.func58, Try.ntmps58
  go_wp2
  go_loop [5, 6] (fun x i => ∃ k : Nat, k ≤ 8 ∧ i = .int .u64 k ∧ x = .int .u32 ((Gf.longTo k n m : Nat) : Int)) (fun _ i => 8 - (intOf i).toNat)
  case atStart => exact ⟨0, Nat.zero_le _, rfl, rfl⟩
  case round =>
    obtain ⟨k, hk, rfl, rfl⟩ := hrel
    have hl : Gf.longTo k n m < 32768 := Gf.longTo_lt k n m hk hn
    by_cases hlt : k < 8
    · have hbit := bit_u8 m k hm
      have HX : Hid (bits .xor .u32 ((Gf.longTo k n m : Nat) : Int) ((n : Int) * 2 ^ k % 4294967296) = ((Gf.longTo k n m ^^^ n <<< k : Nat) : Int)) := shl_u32 _ n k hl (by omega) hlt
      cases hb : m.testBit k
      · have HB : Hid (m.testBit k = false) := hb
        rw [hb] at hbit
        clear hb
        go_wp2
        go_round
        case rel => exact ⟨k + 1, by omega, by go_num, by rw [Gf.longTo, HB.out]; exact congrArg (fun q : Nat => Value.int .u32 (q : Int)) (Nat.xor_zero _).symm⟩
        case measure => simp [intOf]; omega
      · have HB : Hid (m.testBit k = true) := hb
        rw [hb] at hbit
        clear hb
        go_wp2
        go_round
        case rel => exact ⟨k + 1, by omega, by go_num, by rw [HX.out, Gf.longTo, HB.out]; rfl⟩
        case measure => simp [intOf]; omega
    · obtain rfl : k = 8 := by omega
      have hL : Gf.longTo 8 n m < 32768 := hl
      go_wp2
      go_loop [5, 7] (fun x i => ∃ k : Nat, k ≤ 7 ∧ i = .int .i64 (14 - k : Int) ∧ x = .int .u32 ((Gf.redTo k (Gf.longTo 8 n m) : Nat) : Int)) (fun _ i => ((intOf i) - 7).toNat)
      case atStart => exact ⟨0, Nat.zero_le _, rfl, rfl⟩
      case round =>
        obtain ⟨j, hj, rfl, rfl⟩ := hrel
        have hR : Gf.redTo j (Gf.longTo 8 n m) < 32768 := Gf.redTo_lt j _ hL
        by_cases hlt : j < 7
        · have hbit := bit_u32 (Gf.redTo j (Gf.longTo 8 n m)) (14 - j) hR
          have HX : Hid (bits .xor .u32 ((Gf.redTo j (Gf.longTo 8 n m) : Nat) : Int) (285 * 2 ^ (14 - j - 8) % 4294967296) = ((Gf.redTo j (Gf.longTo 8 n m) ^^^ 285 <<< (14 - j - 8) : Nat) : Int)) := shl_u32 _ 285 (14 - j - 8) hR (by omega) (by omega)
          have e1 : 14 - j = 6 - j + 8 := by omega
          have e2 : 14 - j - 8 = 6 - j := by omega
          have HE1 : Hid (14 - j = 6 - j + 8) := e1
          have HE2 : Hid (14 - j - 8 = 6 - j) := e2
          clear e1 e2
          cases hb : (Gf.redTo j (Gf.longTo 8 n m)).testBit (14 - j)
          · have HB : Hid ((Gf.redTo j (Gf.longTo 8 n m)).testBit (14 - j) = false) := hb
            rw [hb] at hbit
            clear hb
            go_wp2
            go_round
            case rel => exact ⟨j + 1, by omega, congrArg (Value.int .i64) (by omega), by
              rw [Gf.redTo, Gf.redStep, ← HE1.out, HB.out]; exact congrArg (fun q : Nat => Value.int .u32 (q : Int)) (Nat.xor_zero _).symm⟩
            case measure => simp [intOf]; omega
          · have HB : Hid ((Gf.redTo j (Gf.longTo 8 n m)).testBit (14 - j) = true) := hb
            rw [hb] at hbit
            clear hb
            go_wp2
            go_round
            case rel => exact ⟨j + 1, by omega, congrArg (Value.int .i64) (by omega), by
              rw [HX.out, HE2.out, Gf.redTo, Gf.redStep, ← HE1.out, HB.out]; rfl⟩
            case measure => simp [intOf]; omega
        · obtain rfl : j = 7 := by omega
          have HM : Hid (Gf.redTo 7 (Gf.longTo 8 n m) = Gf.mul n m) := Gf.red_long n m hn
          have hml : Gf.mul n m < 256 := Gf.mul_lt n m hn
          go_wp2
          go_ret
          exact ⟨ret_int (by rw [HM.out]; omega), rfl⟩

set_option maxHeartbeats 400000 in
set_option maxRecDepth 100000 in
theorem rinv_n (x : Nat) (w : World) (hx : x < 256) (h : x ≠ 0) :
    Calls Try.prog 44 #[.int .u8 (x : Int)] w fun e w' => e = .returned (.tuple #[.int .u8 ((Gf.pw x 254 : Nat) : Int), .int .i64 0]) ∧ w' = w := by
  obtain ⟨v, hv⟩ : ∃ v, v = Gf.pw x 254 := ⟨_, rfl⟩
  have hv1 : v < 256 := by rw [hv]; exact Gf.pw_lt _ _
  have hv0 : 1 ≤ v := by have := Gf.pw_ne_zero x 254 hx h; omega
  have HI : Hid (Gf.mul x v = 1) := by rw [hv]; exact Gf.mul_inv x hx h
  have HU : Hid (∀ b, b < 256 → Gf.mul x b = 1 → b = v) := fun b hb e => by rw [hv]; exact Gf.inv_unique x b hx hb e
  rw [← hv]
  clear hv h
  go_enter Try.func44, Try.ntmps44
  go_wp2
  go_loop [4] (fun i => ∃ b : Nat, 1 ≤ b ∧ b ≤ v ∧ i = .int .i64 b) (fun i => 256 - (intOf i).toNat)
  case atStart => exact ⟨1, Nat.le_refl _, hv0, rfl⟩
  case round =>
    obtain ⟨b, hb1, hb2, rfl⟩ := hrel
    by_cases he : b = v
    · have hbit : (((Gf.mul x b : Nat) : Int) == 1) = true := by rw [he, HI.out]; rfl
      have HE : Hid (b = v) := he
      clear he
      go_wp2_with (go_at_call 58; refine (rmul_n _ _ _ (by omega) (by omega)).mono ?_; rintro e w' ⟨rfl, rfl⟩)
      go_ret2
      rw [← HE.out]
      exact ⟨rfl, rfl⟩
    · have hbit : (((Gf.mul x b : Nat) : Int) == 1) = false := beq_eq_false_iff_ne.2 (fun e => he (HU.out b (by omega) (by omega)))
      go_wp2_with (go_at_call 58; refine (rmul_n _ _ _ (by omega) (by omega)).mono ?_; rintro e w' ⟨rfl, rfl⟩)
      go_round
      case rel => exact ⟨b + 1, by omega, by omega, by go_num⟩
      case measure => simp [intOf]; omega

set_option maxHeartbeats 400000 in
set_option maxRecDepth 100000 in
theorem rinv_n0 (x : Nat) (w : World) (h : x = 0) :
    Calls Try.prog 44 #[.int .u8 (x : Int)] w fun e w' => e = .returned (.tuple #[.int .u8 0, .int .i64 10]) ∧ w' = w := by
  have H0 : Hid (x = 0) := h
  have hx : x < 256 := by omega
  clear h
  go_enter Try.func44, Try.ntmps44
  go_wp2
  go_loop [4] (fun i => ∃ b : Nat, 1 ≤ b ∧ b ≤ 256 ∧ i = .int .i64 b) (fun i => 256 - (intOf i).toNat)
  case atStart => exact ⟨1, Nat.le_refl _, by decide, rfl⟩
  case round =>
    obtain ⟨b, hb1, hb2, rfl⟩ := hrel
    by_cases he : b < 256
    · have hbit : (((Gf.mul x b : Nat) : Int) == 1) = false := by rw [H0.out, Gf.zero_mul]; rfl
      go_wp2_with (go_at_call 58; refine (rmul_n _ _ _ (by omega) (by omega)).mono ?_; rintro e w' ⟨rfl, rfl⟩)
      go_round
      case rel => exact ⟨b + 1, by omega, by omega, by go_num⟩
      case measure => simp [intOf]; omega
    · go_wp2
      go_ret2
      exact ⟨rfl, rfl⟩

set_option maxHeartbeats 400000 in
set_option maxRecDepth 100000 in
theorem rdiv_n (x y : Nat) (w : World) (hx : x < 256) (hy : y < 256) (h : y ≠ 0) :
    Calls Try.prog 47 #[.int .u8 (x : Int), .int .u8 (y : Int)] w fun e w' => e = .returned (.tuple #[.int .u8 ((Gf.mul x (Gf.pw y 254) : Nat) : Int), .int .i64 0]) ∧ w' = w := by
  have H : Hid (y ≠ 0) := h
  clear h
  have hp : Gf.pw y 254 < 256 := Gf.pw_lt _ _
  go_enter Try.func47, Try.ntmps47
  go_wp2_with (first | (go_at_call 44; refine (rinv_n _ _ hy H.out).mono ?_; rintro e w' ⟨rfl, rfl⟩) | (go_at_call 58; refine (rmul_n _ _ _ (by omega) (by omega)).mono ?_; rintro e w' ⟨rfl, rfl⟩))
  go_ret2
  exact ⟨rfl, rfl⟩

set_option maxHeartbeats 400000 in
set_option maxRecDepth 100000 in
theorem rdiv_n0 (x y : Nat) (w : World) (h : y = 0) :
    Calls Try.prog 47 #[.int .u8 (x : Int), .int .u8 (y : Int)] w fun e w' => e = .returned (.tuple #[.int .u8 0, .int .i64 10]) ∧ w' = w := by
  have H : Hid (y = 0) := h
  clear h
  go_enter Try.func47, Try.ntmps47
  go_wp2_with (go_at_call 44; refine (rinv_n0 _ _ H.out).mono ?_; rintro e w' ⟨rfl, rfl⟩)
  go_ret2
  exact ⟨rfl, rfl⟩

end Go.Proofs.Ythkikocacbbhkaa
