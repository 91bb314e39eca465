import Derived.WalkKit
import Derived.WalkSpells
import Derived.WalkLawsBesides
import GoSem.Claim
import Derived.JoinedTies
import Derived.KernelRfl
import Derived.Test.YtngcdlodcdgcaaaGreatProg
namespace Go.Proofs.YtngcdlodcdgcaaaGreat.Cod.Gf
def dbl (a : Nat) : Nat := (a <<< 1 &&& 255) ^^^ (if a.testBit 7 then 29 else 0)
def dblTo : Nat -> Nat -> Nat
  | 0, a => a
  | k + 1, a => dbl (dblTo k a)
def pick (c : Bool) (x : Nat) : Nat := if c then x else 0
def sumTo : Nat -> Nat -> Nat -> Nat
  | 0, _, _ => 0
  | k + 1, a, b => sumTo k a b ^^^ pick (b.testBit k) (dblTo k a)
def shr (b k : Nat) : Nat := b >>> k
def mul (a b : Nat) : Nat := sumTo 8 a b
def pw (a : Nat) : Nat -> Nat
  | 0 => 1
  | n + 1 => mul (pw a n) a
def E (k : Nat) : Nat := dblTo k 1
def lgs : List Nat := [0, 0, 1, 25, 2, 50, 26, 198, 3, 223, 51, 238, 27, 104, 199, 75, 4, 100, 224, 14, 52, 141, 239, 129, 28, 193, 105, 248, 200, 8, 76, 113, 5, 138, 101, 47, 225, 36, 15, 33, 53, 147, 142, 218, 240, 18, 130, 69, 29, 181, 194, 125, 106, 39, 249, 185, 201, 154, 9, 120, 77, 228, 114, 166, 6, 191, 139, 98, 102, 221, 48, 253, 226, 152, 37, 179, 16, 145, 34, 136, 54, 208, 148, 206, 143, 150, 219, 189, 241, 210, 19, 92, 131, 56, 70, 64, 30, 66, 182, 163, 195, 72, 126, 110, 107, 58, 40, 84, 250, 133, 186, 61, 202, 94, 155, 159, 10, 21, 121, 43, 78, 212, 229, 172, 115, 243, 167, 87, 7, 112, 192, 247, 140, 128, 99, 13, 103, 74, 222, 237, 49, 197, 254, 24, 227, 165, 153, 119, 38, 184, 180, 124, 17, 68, 146, 217, 35, 32, 137, 46, 55, 63, 209, 91, 149, 188, 207, 205, 144, 135, 151, 178, 220, 252, 190, 97, 242, 86, 211, 171, 20, 42, 93, 158, 132, 60, 57, 83, 71, 109, 65, 162, 31, 45, 67, 216, 183, 123, 164, 118, 196, 23, 73, 236, 127, 12, 111, 246, 108, 161, 59, 82, 41, 157, 85, 170, 251, 96, 134, 177, 187, 204, 62, 90, 203, 89, 95, 176, 156, 169, 160, 81, 11, 245, 22, 235, 122, 117, 44, 215, 79, 174, 213, 233, 230, 231, 173, 232, 116, 214, 244, 234, 168, 80, 88, 175]
def lg (a : Nat) : Nat := lgs.getD a 0
theorem shr_succ (b k : Nat) : shr b (k + 1) = shr b k / 2 := Nat.shiftRight_succ b k
theorem shr_le (b k : Nat) : shr b k <= b := Nat.shiftRight_le b k
theorem testBit_shr (b k : Nat) : b.testBit k = decide (shr b k % 2 = 1) := by
  unfold shr; rw [Nat.testBit_eq_decide_div_mod_eq, Nat.shiftRight_eq_div_pow]
theorem xor4 (a b c d : Nat) : (a ^^^ b) ^^^ (c ^^^ d) = (a ^^^ c) ^^^ (b ^^^ d) := by
  rw [Nat.xor_assoc, Nat.xor_assoc, <- Nat.xor_assoc b, <- Nat.xor_assoc c, Nat.xor_comm b c]
theorem dbl_xor (x y : Nat) : dbl (x ^^^ y) = dbl x ^^^ dbl y := by
  unfold dbl
  rw [Nat.shiftLeft_xor_distrib, Nat.and_xor_distrib_right, Nat.testBit_xor, xor4]
  congr 1
  cases x.testBit 7 <;> cases y.testBit 7 <;> decide
theorem dbl_lt (x : Nat) : dbl x < 256 := by
  unfold dbl
  refine Nat.xor_lt_two_pow (n := 8) ?_ ?_
  · exact Nat.lt_of_le_of_lt Nat.and_le_right (by decide)
  · split <;> decide
theorem dblTo_lt (k x : Nat) (h : x < 256) : dblTo k x < 256 := by
  cases k with
  | zero => exact h
  | succ k => exact dbl_lt _
theorem dblTo_dbl (k x : Nat) : dblTo k (dbl x) = dbl (dblTo k x) := by
  induction k with
  | zero => rfl
  | succ k ih => show dbl (dblTo k (dbl x)) = dbl (dbl (dblTo k x)); rw [ih]
theorem dblTo_add (i j x : Nat) : dblTo (i + j) x = dblTo i (dblTo j x) := by
  induction i with
  | zero => rw [Nat.zero_add]; rfl
  | succ i ih => rw [Nat.succ_add]; show dbl (dblTo (i + j) x) = dbl (dblTo i (dblTo j x)); rw [ih]
theorem pick_bxor (c d : Bool) (x : Nat) : pick (c ^^ d) x = pick c x ^^^ pick d x := by
  cases c <;> cases d <;> simp [pick]
theorem dbl_zero : dbl 0 = 0 := by decide
theorem dblTo_zero (k : Nat) : dblTo k 0 = 0 := by
  induction k with
  | zero => rfl
  | succ k ih => show dbl (dblTo k 0) = 0; rw [ih, dbl_zero]
theorem dbl_pick (c : Bool) (x : Nat) : dbl (pick c x) = pick c (dbl x) := by
  cases c
  · exact dbl_zero
  · rfl
theorem sumTo_xor_right (k a x y : Nat) : sumTo k a (x ^^^ y) = sumTo k a x ^^^ sumTo k a y := by
  induction k with
  | zero => exact (Nat.xor_self 0).symm
  | succ k ih =>
    show sumTo k a (x ^^^ y) ^^^ pick _ (dblTo k a) = (sumTo k a x ^^^ pick _ _) ^^^ (sumTo k a y ^^^ pick _ _)
    rw [ih, Nat.testBit_xor, pick_bxor, xor4]
theorem dbl_sumTo (k a b : Nat) : sumTo k (dbl a) b = dbl (sumTo k a b) := by
  induction k with
  | zero => exact dbl_zero.symm
  | succ k ih =>
    show sumTo k (dbl a) b ^^^ pick _ (dblTo k (dbl a)) = dbl (sumTo k a b ^^^ pick _ _)
    rw [ih, dblTo_dbl, dbl_xor, dbl_pick]
theorem sumTo_zero_left (k b : Nat) : sumTo k 0 b = 0 := by
  induction k with
  | zero => rfl
  | succ k ih =>
    show sumTo k 0 b ^^^ pick _ (dblTo k 0) = 0
    rw [ih, dblTo_zero]; cases b.testBit k <;> rfl
theorem sumTo_zero_right (k a : Nat) : sumTo k a 0 = 0 := by
  induction k with
  | zero => rfl
  | succ k ih =>
    show sumTo k a 0 ^^^ pick _ (dblTo k a) = 0
    rw [ih, Nat.zero_testBit]; exact Nat.xor_self 0
theorem sumTo_lt (k a b : Nat) (h : a < 256) : sumTo k a b < 256 := by
  induction k with
  | zero => exact Nat.zero_lt_succ 255
  | succ k ih =>
    refine Nat.xor_lt_two_pow (n := 8) ih ?_
    unfold pick
    split
    · exact dblTo_lt k a h
    · decide
theorem mul_lt (a b : Nat) (h : a < 256) : mul a b < 256 := sumTo_lt 8 a b h
theorem zero_mul (b : Nat) : mul 0 b = 0 := sumTo_zero_left 8 b
theorem mul_zero (a : Nat) : mul a 0 = 0 := sumTo_zero_right 8 a
theorem mul_xor (a b c : Nat) : mul a (b ^^^ c) = mul a b ^^^ mul a c := sumTo_xor_right 8 a b c
theorem dbl_mul (a b : Nat) : mul (dbl a) b = dbl (mul a b) := dbl_sumTo 8 a b
theorem all256 {p : Nat -> Bool} (h : (List.range 256).all p = true) (a : Nat) (ha : a < 256) : p a = true :=
  List.all_eq_true.1 h a (List.mem_range.2 ha)
theorem all255 {p : Nat -> Bool} (h : (List.range 255).all p = true) (a : Nat) (ha : a < 255) : p a = true :=
  List.all_eq_true.1 h a (List.mem_range.2 ha)
theorem one_mul (b : Nat) (h : b < 256) : mul 1 b = b := by
  have := all256 (p := fun b => mul 1 b == b) (by decide +kernel) b h
  exact eq_of_beq this
theorem E_lt (k : Nat) : E k < 256 := dblTo_lt k 1 (by decide)
theorem E_succ (k : Nat) : E (k + 1) = dbl (E k) := rfl
theorem E_mul_any (k b : Nat) (h : b < 256) : mul (E k) b = dblTo k b := by
  induction k with
  | zero => exact one_mul b h
  | succ k ih => rw [E_succ, dbl_mul, ih]; rfl
theorem E_mul (i j : Nat) : mul (E i) (E j) = E (i + j) := by
  rw [E_mul_any i _ (E_lt j)]; exact (dblTo_add i j 1).symm
theorem E_255 : E 255 = 1 := by decide +kernel
theorem E_add255 (k : Nat) : E (k + 255) = E k := by
  unfold E; rw [dblTo_add]; exact congrArg (dblTo k) E_255
theorem E_addmul (k m : Nat) : E (k + 255 * m) = E k := by
  induction m with
  | zero => rfl
  | succ m ih => rw [Nat.mul_succ, <- Nat.add_assoc, E_add255, ih]
theorem E_mod (k : Nat) : E (k % 255) = E k := by
  rw [<- E_addmul (k % 255) (k / 255), Nat.mod_add_div]
theorem E_lg (a : Nat) (h : a < 256) (h0 : a ≠ 0) : E (lg a) = a := by
  have := all256 (p := fun a => a == 0 || E (lg a) == a) (by decide +kernel) a h
  simpa [h0] using this
theorem lg_lt (a : Nat) (h : a < 256) : lg a < 255 := by
  have := all256 (p := fun a => decide (lg a < 255)) (by decide +kernel) a h
  simpa using this
theorem E_ne_zero (k : Nat) : E k ≠ 0 := by
  rw [<- E_mod]
  have := all255 (p := fun k => E k != 0) (by decide +kernel) (k % 255) (Nat.mod_lt _ (by decide))
  exact bne_iff_ne.1 this
theorem exists_E (a : Nat) (h : a < 256) (h0 : a ≠ 0) : ∃ k, k < 255 /\ a = E k := ⟨lg a, lg_lt a h, (E_lg a h h0).symm⟩
theorem mul_comm (a b : Nat) (ha : a < 256) (hb : b < 256) : mul a b = mul b a := by
  by_cases h : a = 0
  · subst h; rw [zero_mul, mul_zero]
  by_cases g : b = 0
  · subst g; rw [zero_mul, mul_zero]
  obtain ⟨i, _, rfl⟩ := exists_E a ha h
  obtain ⟨j, _, rfl⟩ := exists_E b hb g
  rw [E_mul, E_mul, Nat.add_comm]
theorem mul_assoc (a b c : Nat) (ha : a < 256) (hb : b < 256) (hc : c < 256) : mul (mul a b) c = mul a (mul b c) := by
  by_cases h : a = 0
  · subst h; rw [zero_mul, zero_mul, zero_mul]
  by_cases g : b = 0
  · subst g; rw [mul_zero, zero_mul, mul_zero]
  by_cases f : c = 0
  · subst f; rw [mul_zero, mul_zero, mul_zero]
  obtain ⟨i, _, rfl⟩ := exists_E a ha h
  obtain ⟨j, _, rfl⟩ := exists_E b hb g
  obtain ⟨k, _, rfl⟩ := exists_E c hc f
  rw [E_mul, E_mul, E_mul, E_mul, Nat.add_assoc]
theorem mul_one (a : Nat) (ha : a < 256) : mul a 1 = a := by rw [mul_comm a 1 ha (by decide), one_mul a ha]
theorem mul_ne_zero (a b : Nat) (ha : a < 256) (hb : b < 256) (h : a ≠ 0) (g : b ≠ 0) : mul a b ≠ 0 := by
  obtain ⟨i, _, rfl⟩ := exists_E a ha h
  obtain ⟨j, _, rfl⟩ := exists_E b hb g
  rw [E_mul]; exact E_ne_zero _
def add (a b : Nat) : Nat := a ^^^ b
theorem add_lt (a b : Nat) (ha : a < 256) (hb : b < 256) : add a b < 256 := Nat.xor_lt_two_pow (n := 8) ha hb
theorem add_comm (a b : Nat) : add a b = add b a := Nat.xor_comm a b
theorem add_assoc (a b c : Nat) : add (add a b) c = add a (add b c) := Nat.xor_assoc a b c
theorem add_self (a : Nat) : add a a = 0 := Nat.xor_self a
theorem add_zero (a : Nat) : add a 0 = a := Nat.xor_zero a
theorem mul_add (a b c : Nat) : mul a (add b c) = add (mul a b) (mul a c) := mul_xor a b c
theorem pw_lt (a n : Nat) : pw a n < 256 := by
  induction n with
  | zero => show 1 < 256; decide
  | succ n ih => exact mul_lt _ _ ih
theorem pw_E (i n : Nat) : pw (E i) n = E (i * n) := by
  induction n with
  | zero => rfl
  | succ n ih => show mul (pw (E i) n) (E i) = _; rw [ih, E_mul, Nat.mul_succ]
theorem pw_add (a n m : Nat) (ha : a < 256) : pw a (n + m) = mul (pw a n) (pw a m) := by
  induction m with
  | zero => exact (mul_one _ (pw_lt a n)).symm
  | succ m ih =>
    show mul (pw a (n + m)) a = mul (pw a n) (mul (pw a m) a)
    rw [ih, mul_assoc _ _ _ (pw_lt a n) (pw_lt a m) ha]
theorem pw_sq (a n : Nat) (ha : a < 256) : pw (mul a a) n = pw a (2 * n) := by
  induction n with
  | zero => rfl
  | succ n ih =>
    show mul (pw (mul a a) n) (mul a a) = pw a (2 * n + 2)
    rw [ih, pw_add a (2 * n) 2 ha]
    show _ = mul _ (mul (mul 1 a) a)
    rw [one_mul a ha]
theorem pw_255 (a : Nat) (ha : a < 256) (h : a ≠ 0) : pw a 255 = 1 := by
  obtain ⟨i, _, rfl⟩ := exists_E a ha h
  rw [pw_E, Nat.mul_comm, <- Nat.zero_add (255 * i), E_addmul]; rfl
theorem mul_inv (a : Nat) (ha : a < 256) (h : a ≠ 0) : mul a (pw a 254) = 1 := by
  rw [mul_comm _ _ ha (pw_lt a 254)]; exact pw_255 a ha h
theorem sq_even (x y : Nat) (hx : x < 256) (h : y % 2 ≠ 1) : pw (mul x x) (y / 2) = pw x y := by
  rw [pw_sq x _ hx, show 2 * (y / 2) = y by omega]
theorem sq_odd (p x y : Nat) (hp : p < 256) (hx : x < 256) (h : y % 2 = 1) : mul (mul p x) (pw (mul x x) (y / 2)) = mul p (pw x y) := by
  rw [pw_sq x _ hx, mul_assoc _ _ _ hp hx (pw_lt _ _), mul_comm x _ hx (pw_lt _ _)]
  show mul p (pw x (2 * (y / 2) + 1)) = _
  rw [show 2 * (y / 2) + 1 = y by omega]
theorem tmod_neg (n : Int) (h : n < 0) : n.tmod 255 = -((-n) % 255) := by
  rw [<- Int.tmod_eq_emod_of_nonneg (by omega), Int.neg_tmod, Int.neg_neg]
theorem tmod_pos (n : Int) (h : 0 <= n) : n.tmod 255 = n % 255 := Int.tmod_eq_emod_of_nonneg h
theorem tmod_lo (n : Int) : -254 <= n.tmod 255 /\ n.tmod 255 <= 254 := by
  by_cases h : n < 0
  · rw [tmod_neg n h]; omega
  · rw [tmod_pos n (by omega)]; omega
theorem tmod_below (n : Int) (h : n.tmod 255 < 0) : n.tmod 255 + 255 = n % 255 := by
  by_cases g : n < 0
  · rw [tmod_neg n g] at h ⊢; omega
  · rw [tmod_pos n (by omega)] at h ⊢; omega
theorem tmod_above (n : Int) (h : 0 <= n.tmod 255) : n.tmod 255 = n % 255 := by
  by_cases g : n < 0
  · rw [tmod_neg n g] at h ⊢; omega
  · rw [tmod_pos n (by omega)]
end Go.Proofs.YtngcdlodcdgcaaaGreat.Cod.Gf
namespace Go.Proofs.YtngcdlodcdgcaaaGreat.Cod
open Go.RowKit
theorem ret_int {k : IntKind} {a b : Int} (h : a = b) : Ending.returned (.int k a) = .returned (.int k b) := by rw [h]
theorem dbl_form (n : Nat) (h : n < 256) : bits .xor .u8 ((n : Int) * 2 % 256) (bits .and .u8 29 (-((n : Int) / 128) % 256)) = ((Gf.dbl n : Nat) : Int) := by
  have hm : -((n : Int) / 128) % 256 = ((if n < 128 then 0 else 255 : Nat) : Int) := by split <;> omega
  have h2 : (n : Int) * 2 % 256 = ((n * 2 % 256 : Nat) : Int) := by omega
  rw [hm, h2, show (29 : Int) = ((29 : Nat) : Int) from rfl, u8_and_nat _ _ (by decide) (by split <;> decide), u8_xor_nat _ _ (by omega) (by have := @Nat.and_le_left 29 (if n < 128 then 0 else 255); omega)]
  have := Gf.all256 (p := fun n => (n * 2 % 256) ^^^ (29 &&& (if n < 128 then 0 else 255)) == Gf.dbl n) (by decide +kernel) n h
  rw [eq_of_beq this]
theorem mask_form (s d b k : Nat) (hs : s < 256) (hd : d < 256) (hb : Gf.shr b k < 256) :
    bits .xor .u8 (s : Int) (bits .and .u8 (d : Int) (-(bits .and .u8 ((Gf.shr b k : Nat) : Int) 1) % 256)) = ((s ^^^ Gf.pick (b.testBit k) d : Nat) : Int) := by
  rw [show (1 : Int) = ((1 : Nat) : Int) from rfl, u8_and_nat _ _ hb (by decide), nat_mask1, Gf.testBit_shr]
  by_cases h : Gf.shr b k % 2 = 1
  · have hm : -((Gf.shr b k % 2 : Nat) : Int) % 256 = ((255 : Nat) : Int) := by rw [h]; decide
    rw [hm, u8_and_nat _ _ hd (by decide), nat_mask8, Nat.mod_eq_of_lt hd, u8_xor_nat _ _ hs hd, decide_eq_true h]; rfl
  · have hm : -((Gf.shr b k % 2 : Nat) : Int) % 256 = ((0 : Nat) : Int) := by rw [show Gf.shr b k % 2 = 0 by omega]; decide
    rw [hm, u8_and_nat _ _ hd (by decide), Nat.and_zero, u8_xor_nat _ _ hs (by decide), decide_eq_false h]; rfl
set_option maxHeartbeats 400000 in
theorem everywhere_any (a : Int) (w : World) :
    Calls Tryz.prog 205 #[.int .u8 a] w fun e w' => e = .returned (.int .u8 (-a % 256)) /\ w' = w := by
  go_enter Tryz.func205, Tryz.ntmps205
  go_wp2
  go_ret
  exact ⟨rfl, rfl⟩
set_option maxHeartbeats 400000 in
theorem double_any (a : Int) (w : World) (h0 : 0 <= a) (h1 : a <= 255) :
    Calls Tryz.prog 206 #[.int .u8 a] w fun e w' => e = .returned (.int .u8 ((Gf.dbl a.toNat : Nat) : Int)) /\ w' = w := by
  obtain ⟨n, rfl⟩ := Int.eq_ofNat_of_zero_le h0
  rw [Int.toNat_natCast]
  have hd := dbl_form n (by omega)
  have HD : Hid (bits .xor .u8 ((n : Int) * 2 % 256) (bits .and .u8 29 (-((n : Int) / 128) % 256)) = ((Gf.dbl n : Nat) : Int)) := hd
  clear hd
  go_enter Tryz.func206, Tryz.ntmps206
  go_wp2
  go_ret
  exact ⟨ret_int HD.out, rfl⟩
set_option maxHeartbeats 400000 in
theorem add_any (a b : Int) (w : World) (h0 : 0 <= a) (h1 : a <= 255) (g0 : 0 <= b) (g1 : b <= 255) :
    Calls Tryz.prog 192 #[.int .u8 a, .int .u8 b] w fun e w' => e = .returned (.int .u8 ((Gf.add a.toNat b.toNat : Nat) : Int)) /\ w' = w := by
  have HD : Hid (bits .xor .u8 a b = ((Gf.add a.toNat b.toNat : Nat) : Int)) := u8_xor a b h0 (by omega) g0 (by omega)
  go_enter Tryz.func192, Tryz.ntmps192
  go_wp2
  go_ret
  exact ⟨ret_int HD.out, rfl⟩
set_option maxHeartbeats 400000 in
theorem mul_any (a b : Int) (w : World) (h0 : 0 <= a) (h1 : a <= 255) (g0 : 0 <= b) (g1 : b <= 255) :
    Calls Tryz.prog 201 #[.int .u8 a, .int .u8 b] w fun e w' => e = .returned (.int .u8 ((Gf.mul a.toNat b.toNat : Nat) : Int)) /\ w' = w := by
  obtain ⟨n, rfl⟩ := Int.eq_ofNat_of_zero_le h0
  obtain ⟨m, rfl⟩ := Int.eq_ofNat_of_zero_le g0
  rw [Int.toNat_natCast, Int.toNat_natCast]
  go_enter Tryz.func201, Tryz.ntmps201
  go_wp2
  go_loop [0, 1, 5, 6] (fun x y s i => ∃ k : Nat, k <= 8 /\ i = .int .i64 k /\ x = .int .u8 ((Gf.dblTo k n : Nat) : Int) /\ y = .int .u8 ((Gf.shr m k : Nat) : Int) /\ s = .int .u8 ((Gf.sumTo k n m : Nat) : Int)) (fun _ _ _ i => 8 - (intOf i).toNat)
  case atStart => exact ⟨0, Nat.zero_le _, rfl, rfl, rfl, rfl⟩
  case round =>
    obtain ⟨k, hk, rfl, rfl, rfl, rfl⟩ := hrel
    have hd : Gf.dblTo k n < 256 := Gf.dblTo_lt k n (by omega)
    have hs : Gf.sumTo k n m < 256 := Gf.sumTo_lt k n m (by omega)
    have hb : Gf.shr m k < 256 := Nat.lt_of_le_of_lt (Gf.shr_le _ _) (by omega)
    have HM : Hid (bits .xor .u8 ((Gf.sumTo k n m : Nat) : Int) (bits .and .u8 ((Gf.dblTo k n : Nat) : Int) (-(bits .and .u8 ((Gf.shr m k : Nat) : Int) 1) % 256)) = ((Gf.sumTo (k + 1) n m : Nat) : Int)) := mask_form _ _ m k hs hd hb
    by_cases hlt : k < 8
    · go_wp2_with (first | (go_at_call 205; refine (everywhere_any _ _).mono ?_; rintro e w' ⟨rfl, rfl⟩) | (go_at_call 206; refine (double_any _ _ (by omega) (by omega)).mono ?_; rintro e w' ⟨rfl, rfl⟩))
      go_round
      case rel => exact ⟨k + 1, by omega, by go_num, rfl, by rw [Gf.shr_succ]; go_num, by rw [HM.out]⟩
      case measure => simp [intOf]; omega
    · go_wp2
      go_ret
      have : k = 8 := by omega
      subst this
      exact ⟨rfl, rfl⟩
end Go.Proofs.YtngcdlodcdgcaaaGreat.Cod
namespace Go.Proofs.YtngcdlodcdgcaaaGreat.Cod
open Go.RowKit
theorem i64_and1 (y : Nat) (h : y <= 254) : bits .and .i64 (y : Int) 1 = ((y % 2 : Nat) : Int) := by
  have := Gf.all256 (p := fun y => bits .and .i64 (y : Int) 1 == ((y % 2 : Nat) : Int)) (by decide +kernel) y (by omega)
  exact eq_of_beq this
set_option maxHeartbeats 400000 in
theorem exponent_any (n : Int) (w : World) :
    Calls Tryz.prog 204 #[.int .i64 n] w fun e w' => e = .returned (.int .i64 (n % 255)) /\ w' = w := by
  have hl := (Gf.tmod_lo n).1
  have hh := (Gf.tmod_lo n).2
  by_cases h : n.tmod 255 < 0
  · have HE : Hid (n.tmod 255 + 255 = n % 255) := Gf.tmod_below n h
    go_enter Tryz.func204, Tryz.ntmps204
    go_wp2
    go_ret
    exact ⟨ret_int HE.out, rfl⟩
  · have HE : Hid (n.tmod 255 = n % 255) := Gf.tmod_above n (by omega)
    go_enter Tryz.func204, Tryz.ntmps204
    go_wp2
    go_ret
    exact ⟨ret_int HE.out, rfl⟩
set_option maxHeartbeats 400000 in
theorem power_any (a n : Int) (w : World) (h0 : 0 <= a) (h1 : a <= 255) (g0 : 0 <= n) (g1 : n <= 254) :
    Calls Tryz.prog 203 #[.int .u8 a, .int .i64 n] w fun e w' => e = .returned (.int .u8 ((Gf.pw a.toNat n.toNat : Nat) : Int)) /\ w' = w := by
  obtain ⟨n, rfl⟩ := Int.eq_ofNat_of_zero_le g0
  obtain ⟨a, rfl⟩ := Int.eq_ofNat_of_zero_le h0
  rw [Int.toNat_natCast, Int.toNat_natCast]
  go_enter Tryz.func203, Tryz.ntmps203
  go_wp2
  go_loop [0, 1, 5] (fun x y p => ∃ x' y' p' : Nat, x' < 256 /\ y' <= 254 /\ p' < 256 /\ x = .int .u8 (x' : Int) /\ y = .int .i64 (y' : Int) /\ p = .int .u8 (p' : Int) /\ Hid (Gf.mul p' (Gf.pw x' y') = Gf.pw a n)) (fun _ y _ => (intOf y).toNat)
  case atStart => exact ⟨a, n, 1, by omega, by omega, by decide, rfl, rfl, rfl, Gf.one_mul _ (Gf.pw_lt _ _)⟩
  case round =>
    obtain ⟨x, y, p, hx, hy, hp, rfl, rfl, rfl, hI⟩ := hrel
    have hxx : Gf.mul x x < 256 := Gf.mul_lt x x hx
    have hpx : Gf.mul p x < 256 := Gf.mul_lt p x hp
    by_cases hlt : 0 < y
    · by_cases ho : y % 2 = 1
      · have hb : (bits .and .i64 (y : Int) 1 == 1) = true := by rw [i64_and1 y hy, ho]; rfl
        have HO : Hid (y % 2 = 1) := ho
        clear ho
        go_wp2_with (go_at_call 201; refine (mul_any _ _ _ (by omega) (by omega) (by omega) (by omega)).mono ?_; rintro e w' ⟨rfl, rfl⟩)
        go_round
        case rel => exact ⟨Gf.mul x x, y / 2, Gf.mul p x, hxx, by omega, hpx, rfl, by go_num, rfl, (Gf.sq_odd p x y hp hx HO.out).trans hI⟩
        case measure => simp [intOf]; omega
      · have hb : (bits .and .i64 (y : Int) 1 == 1) = false := by rw [i64_and1 y hy, show y % 2 = 0 by omega]; rfl
        have HO : Hid (y % 2 ≠ 1) := ho
        clear ho
        go_wp2_with (go_at_call 201; refine (mul_any _ _ _ (by omega) (by omega) (by omega) (by omega)).mono ?_; rintro e w' ⟨rfl, rfl⟩)
        go_round
        case rel => exact ⟨Gf.mul x x, y / 2, p, hxx, by omega, hp, rfl, by go_num, rfl, (congrArg (Gf.mul p) (Gf.sq_even x y hx HO.out)).trans hI⟩
        case measure => simp [intOf]; omega
    · go_wp2
      go_ret
      have hy0 : y = 0 := by omega
      subst hy0
      exact ⟨ret_int (by rw [<- hI.out]; exact congrArg _ (Gf.mul_one p hp).symm), rfl⟩
set_option maxHeartbeats 400000 in
theorem pow_any (a n : Int) (w : World) (h0 : 0 < a) (h1 : a <= 255) :
    Calls Tryz.prog 199 #[.int .u8 a, .int .i64 n] w fun e w' => e = .returned (.tuple #[.int .u8 ((Gf.pw a.toNat (n % 255).toNat : Nat) : Int), .int .i64 0]) /\ w' = w := by
  have hl : 0 <= n % 255 := Int.emod_nonneg _ (by decide)
  have hh : n % 255 < 255 := Int.emod_lt_of_pos _ (by decide)
  have hb : (a != 0) = true := by rw [bne_iff_ne]; omega
  go_enter Tryz.func199, Tryz.ntmps199
  go_wp2_with (first | (go_at_call 204; refine (exponent_any _ _).mono ?_; rintro e w' ⟨rfl, rfl⟩) | (go_at_call 203; refine (power_any _ _ _ (by omega) (by omega) (by omega) (by omega)).mono ?_; rintro e w' ⟨rfl, rfl⟩))
  go_ret2
  exact ⟨rfl, rfl⟩
set_option maxHeartbeats 400000 in
theorem inv_any (a : Int) (w : World) (h0 : 0 < a) (h1 : a <= 255) :
    Calls Tryz.prog 191 #[.int .u8 a] w fun e w' => e = .returned (.tuple #[.int .u8 ((Gf.pw a.toNat 254 : Nat) : Int), .int .i64 0]) /\ w' = w := by
  go_enter Tryz.func191, Tryz.ntmps191
  go_wp2_with (go_at_call 199; refine (pow_any _ _ _ (by omega) (by omega)).mono ?_; rintro e w' ⟨rfl, rfl⟩)
  go_ret2
  exact ⟨rfl, rfl⟩
end Go.Proofs.YtngcdlodcdgcaaaGreat.Cod
namespace Go.Proofs.YtngcdlodcdgcaaaGreat.Cod
open Go.RowKit
theorem add_n (x y : Nat) (w : World) (hx : x < 256) (hy : y < 256) : Calls Tryz.prog 192 #[.int .u8 (x : Int), .int .u8 (y : Int)] w fun e w' => e = .returned (.int .u8 ((Gf.add x y : Nat) : Int)) /\ w' = w :=
  add_any x y w (by omega) (by omega) (by omega) (by omega)
theorem mul_n (x y : Nat) (w : World) (hx : x < 256) (hy : y < 256) : Calls Tryz.prog 201 #[.int .u8 (x : Int), .int .u8 (y : Int)] w fun e w' => e = .returned (.int .u8 ((Gf.mul x y : Nat) : Int)) /\ w' = w :=
  mul_any x y w (by omega) (by omega) (by omega) (by omega)
theorem inv_n (x : Nat) (w : World) (hx : x < 256) (h : x ≠ 0) : Calls Tryz.prog 191 #[.int .u8 (x : Int)] w fun e w' => e = .returned (.tuple #[.int .u8 ((Gf.pw x 254 : Nat) : Int), .int .i64 0]) /\ w' = w :=
  inv_any x w (by omega) (by omega)
end Go.Proofs.YtngcdlodcdgcaaaGreat.Cod
