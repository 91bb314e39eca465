/- What the field's small functions answer: a double, a mask, a sum and a product of any two bytes, by the program's text. -/
import Derived.Test.YthkikocacbbhkaaRows
import Derived.Test.YthkikocacbbhkaaGfMath
import Derived.WalkKit
import Derived.WalkSpells
import Derived.WalkLawsBesides
namespace Go.Proofs.Ythkikocacbbhkaa
open Go.RowKit

theorem ret_int {k : IntKind} {a b : Int} (h : a = b) : Ending.returned (.int k a) = .returned (.int k b) := by rw [h]

theorem dbl_form (n : Nat) (h : n < 256) : bits .xor .u8 ((n : Int) * 2 % 256) (bits .and .u8 29 (-((n : Int) / 128) % 256)) = ((Gf.dbl n : Nat) : Int) := by
  have hm : -((n : Int) / 128) % 256 = ((if n < 128 then 0 else 255 : Nat) : Int) := by split <;> omega
  have h2 : (n : Int) * 2 % 256 = ((n * 2 % 256 : Nat) : Int) := by omega
  rw [hm, h2, show (29 : Int) = ((29 : Nat) : Int) from rfl, u8_and_nat _ _ (by decide) (by split <;> decide), u8_xor_nat _ _ (by omega) (by have := @Nat.and_le_left 29 (if n < 128 then 0 else 255); omega)]
  have := Gf.all256 (p := fun n => (n * 2 % 256) ^^^ (29 &&& (if n < 128 then 0 else 255)) == Gf.dbl n) (by decide +kernel) n h
  rw [eq_of_beq this]

theorem mask_form (s d b k : Nat) (hs : s < 256) (hd : d < 256) (hb : Gf.shr b k < 256) :
    bits .xor .u8 (s : Int) (bits .and .u8 (d : Int) (-(bits .and .u8 ((Gf.shr b k : Nat) : Int) 1) % 256)) = ((s ^^^ Gf.pick (b.testBit k) d : Nat) : Int) := by
  rw [show (1 : Int) = ((1 : Nat) : Int) from rfl, u8_and_nat _ _ hb (by decide), nat_mask1, Gf.testBit_shr]
  by_cases h : Gf.shr b k % 2 = 1
  · have hm : -((Gf.shr b k % 2 : Nat) : Int) % 256 = ((255 : Nat) : Int) := by rw [h]; decide
    rw [hm, u8_and_nat _ _ hd (by decide), nat_mask8, Nat.mod_eq_of_lt hd, u8_xor_nat _ _ hs hd, decide_eq_true h]; rfl
  · have hm : -((Gf.shr b k % 2 : Nat) : Int) % 256 = ((0 : Nat) : Int) := by rw [show Gf.shr b k % 2 = 0 by omega]; decide
    rw [hm, u8_and_nat _ _ hd (by decide), Nat.and_zero, u8_xor_nat _ _ hs (by decide), decide_eq_false h]; rfl

set_option maxHeartbeats 400000 in
theorem everywhere_any (a : Int) (w : World) :
    Calls Try.prog 66 #[.int .u8 a] w fun e w' => e = .returned (.int .u8 (-a % 256)) ∧ w' = w := by
  go_enter Try.func66, Try.ntmps66
  go_wp2
  go_ret
  exact ⟨rfl, rfl⟩

set_option maxHeartbeats 400000 in
theorem double_any (a : Int) (w : World) (h0 : 0 ≤ a) (h1 : a ≤ 255) :
    Calls Try.prog 67 #[.int .u8 a] w fun e w' => e = .returned (.int .u8 ((Gf.dbl a.toNat : Nat) : Int)) ∧ w' = w := by
  obtain ⟨n, rfl⟩ := Int.eq_ofNat_of_zero_le h0
  rw [Int.toNat_natCast]
  have hd := dbl_form n (by omega)
  have HD : Hid (bits .xor .u8 ((n : Int) * 2 % 256) (bits .and .u8 29 (-((n : Int) / 128) % 256)) = ((Gf.dbl n : Nat) : Int)) := hd
  clear hd
  go_enter Try.func67, Try.ntmps67
  go_wp2
  go_ret
  exact ⟨ret_int HD.out, rfl⟩

set_option maxHeartbeats 400000 in
theorem add_any (a b : Int) (w : World) (h0 : 0 ≤ a) (h1 : a ≤ 255) (g0 : 0 ≤ b) (g1 : b ≤ 255) :
    Calls Try.prog 57 #[.int .u8 a, .int .u8 b] w fun e w' => e = .returned (.int .u8 ((Gf.add a.toNat b.toNat : Nat) : Int)) ∧ w' = w := by
  have HD : Hid (bits .xor .u8 a b = ((Gf.add a.toNat b.toNat : Nat) : Int)) := u8_xor a b h0 (by omega) g0 (by omega)
  go_enter Try.func57, Try.ntmps57
  go_wp2
  go_ret
  exact ⟨ret_int HD.out, rfl⟩

set_option maxHeartbeats 400000 in
theorem mul_any (a b : Int) (w : World) (h0 : 0 ≤ a) (h1 : a ≤ 255) (g0 : 0 ≤ b) (g1 : b ≤ 255) :
    Calls Try.prog 60 #[.int .u8 a, .int .u8 b] w fun e w' => e = .returned (.int .u8 ((Gf.mul a.toNat b.toNat : Nat) : Int)) ∧ w' = w := by
  obtain ⟨n, rfl⟩ := Int.eq_ofNat_of_zero_le h0
  obtain ⟨m, rfl⟩ := Int.eq_ofNat_of_zero_le g0
  rw [Int.toNat_natCast, Int.toNat_natCast]
  go_enter Try.func60, Try.ntmps60
  go_wp2
  go_loop [0, 1, 5, 6] (fun x y s i => ∃ k : Nat, k ≤ 8 ∧ i = .int .i64 k ∧ x = .int .u8 ((Gf.dblTo k n : Nat) : Int) ∧ y = .int .u8 ((Gf.shr m k : Nat) : Int) ∧ s = .int .u8 ((Gf.sumTo k n m : Nat) : Int)) (fun _ _ _ i => 8 - (intOf i).toNat)
  case atStart => exact ⟨0, Nat.zero_le _, rfl, rfl, rfl, rfl⟩
  case round =>
    obtain ⟨k, hk, rfl, rfl, rfl, rfl⟩ := hrel
    have hd : Gf.dblTo k n < 256 := Gf.dblTo_lt k n (by omega)
    have hs : Gf.sumTo k n m < 256 := Gf.sumTo_lt k n m (by omega)
    have hb : Gf.shr m k < 256 := Nat.lt_of_le_of_lt (Gf.shr_le _ _) (by omega)
    have HM : Hid (bits .xor .u8 ((Gf.sumTo k n m : Nat) : Int) (bits .and .u8 ((Gf.dblTo k n : Nat) : Int) (-(bits .and .u8 ((Gf.shr m k : Nat) : Int) 1) % 256)) = ((Gf.sumTo (k + 1) n m : Nat) : Int)) := mask_form _ _ m k hs hd hb
    by_cases hlt : k < 8
    · go_wp2_with (first | (go_at_call 66; refine (everywhere_any _ _).mono ?_; rintro e w' ⟨rfl, rfl⟩) | (go_at_call 67; refine (double_any _ _ (by omega) (by omega)).mono ?_; rintro e w' ⟨rfl, rfl⟩))
      go_round
      case rel => exact ⟨k + 1, by omega, by go_num, rfl, by rw [Gf.shr_succ]; go_num, by rw [HM.out]⟩
      case measure => simp [intOf]; omega
    · go_wp2
      go_ret
      have : k = 8 := by omega
      subst this
      exact ⟨rfl, rfl⟩
end Go.Proofs.Ythkikocacbbhkaa
