/- For every three bytes the law GfField returns true: bytes with the program's sums and products are a field, and quotients undo products (the walk). -/
import Derived.Test.YtpcnbcianbbcgaaGfN
namespace Go.Proofs.Ytpcnbcianbbcgaa
open Go.RowKit

theorem ret_bool {a b : Bool} (h : a = b) : Ending.returned (.bool a) = .returned (.bool b) := by rw [h]
theorem zero_iff (x y : Nat) (hx : x < 256) (hy : y < 256) (h : y ≠ 0) : (((Gf.mul x y : Nat) : Int) == 0) = ((x : Int) == 0) := by
  by_cases g : x = 0
  · subst g; rw [Gf.zero_mul]
  · have h1 := Gf.mul_ne_zero x y hx hy g h
    rw [beq_eq_false_iff_ne.2 (by omega), beq_eq_false_iff_ne.2 (by omega)]

set_option maxHeartbeats 1000000 in
theorem field_walk (x y z : Nat) (w : World) (hx : x < 256) (hy : y < 256) (hz : z < 256) :
    Calls Try.prog 6 #[.int .u8 (x : Int), .int .u8 (y : Int), .int .u8 (z : Int)] w fun e w' => e = .returned (.bool true) ∧ Below w.heap.size w w' := by
  have hxy : Gf.mul x y < 256 := Gf.mul_lt x y hx
  have hyz : Gf.mul y z < 256 := Gf.mul_lt y z hy
  have axy : Gf.add x y < 256 := Gf.add_lt x y hx hy
  have ayz : Gf.add y z < 256 := Gf.add_lt y z hy hz
  have hxz : Gf.mul x z < 256 := Gf.mul_lt x z hx
  by_cases h0 : y = 0
  · have hb : ((y : Int) == 0) = true := by rw [h0]; rfl
    have H0 : Hid (y = 0) := h0
    clear h0
    go_enter Try.func6, Try.ntmps6
    go_wp2_with fail
    refine (alive_any _).mono ?_; rintro e w1 ⟨rfl, hb1⟩
    go_wp2_with fail
    refine (add_n _ _ _ hx hy).mono ?_; rintro e w' ⟨rfl, rfl⟩
    go_wp2_with fail
    refine (add_n _ _ _ hy hx).mono ?_; rintro e w' ⟨rfl, rfl⟩; rw [Gf.add_comm y x]
    go_wp2_with fail
    refine (mul_n _ _ _ hx hy).mono ?_; rintro e w' ⟨rfl, rfl⟩
    go_wp2_with fail
    refine (mul_n _ _ _ hy hx).mono ?_; rintro e w' ⟨rfl, rfl⟩; rw [Gf.mul_comm y x hy hx]
    go_wp2_with fail
    refine (add_n _ _ _ hx hy).mono ?_; rintro e w' ⟨rfl, rfl⟩
    go_wp2_with fail
    refine (add_n _ _ _ axy hz).mono ?_; rintro e w' ⟨rfl, rfl⟩; rw [Gf.add_assoc]
    go_wp2_with fail
    refine (add_n _ _ _ hy hz).mono ?_; rintro e w' ⟨rfl, rfl⟩
    go_wp2_with fail
    refine (add_n _ _ _ hx ayz).mono ?_; rintro e w' ⟨rfl, rfl⟩
    go_wp2_with fail
    refine (mul_n _ _ _ hx hy).mono ?_; rintro e w' ⟨rfl, rfl⟩
    go_wp2_with fail
    refine (mul_n _ _ _ hxy hz).mono ?_; rintro e w' ⟨rfl, rfl⟩; rw [Gf.mul_assoc x y z hx hy hz]
    go_wp2_with fail
    refine (mul_n _ _ _ hy hz).mono ?_; rintro e w' ⟨rfl, rfl⟩
    go_wp2_with fail
    refine (mul_n _ _ _ hx hyz).mono ?_; rintro e w' ⟨rfl, rfl⟩
    go_wp2_with fail
    refine (add_n _ _ _ hy hz).mono ?_; rintro e w' ⟨rfl, rfl⟩
    go_wp2_with fail
    refine (mul_n _ _ _ hx ayz).mono ?_; rintro e w' ⟨rfl, rfl⟩; rw [Gf.mul_add]
    go_wp2_with fail
    refine (mul_n _ _ _ hx hy).mono ?_; rintro e w' ⟨rfl, rfl⟩
    go_wp2_with fail
    refine (mul_n _ _ _ hx hz).mono ?_; rintro e w' ⟨rfl, rfl⟩
    go_wp2_with fail
    refine (add_n _ _ _ hxy hxz).mono ?_; rintro e w' ⟨rfl, rfl⟩
    go_wp2_with fail
    refine (add_n _ _ _ hx hx).mono ?_; rintro e w' ⟨rfl, rfl⟩; rw [Gf.add_self]
    go_wp2_with fail
    refine (add_n0 _ _ hx).mono ?_; rintro e w' ⟨rfl, rfl⟩
    go_wp2_with fail
    refine (mul_n1 _ _ hx).mono ?_; rintro e w' ⟨rfl, rfl⟩
    go_wp2_with fail
    refine (mul_n0 _ _ hx).mono ?_; rintro e w' ⟨rfl, rfl⟩
    go_wp2_with fail
    refine (mul_n _ _ _ hx hy).mono ?_; rintro e w' ⟨rfl, rfl⟩
    go_wp2_with fail
    refine (div_n0 _ _ _ H0.out).mono ?_; rintro e w' ⟨rfl, rfl⟩
    go_wp2_with fail
    go_ret
    exact ⟨rfl, hb1⟩
  · have hb : ((y : Int) == 0) = false := beq_eq_false_iff_ne.2 (by omega)
    have H0 : Hid (y ≠ 0) := h0
    have HZ : Hid ((((Gf.mul x y : Nat) : Int) == 0) = ((x : Int) == 0)) := zero_iff x y hx hy h0
    clear h0
    go_enter Try.func6, Try.ntmps6
    go_wp2_with fail
    refine (alive_any _).mono ?_; rintro e w1 ⟨rfl, hb1⟩
    go_wp2_with fail
    refine (add_n _ _ _ hx hy).mono ?_; rintro e w' ⟨rfl, rfl⟩
    go_wp2_with fail
    refine (add_n _ _ _ hy hx).mono ?_; rintro e w' ⟨rfl, rfl⟩; rw [Gf.add_comm y x]
    go_wp2_with fail
    refine (mul_n _ _ _ hx hy).mono ?_; rintro e w' ⟨rfl, rfl⟩
    go_wp2_with fail
    refine (mul_n _ _ _ hy hx).mono ?_; rintro e w' ⟨rfl, rfl⟩; rw [Gf.mul_comm y x hy hx]
    go_wp2_with fail
    refine (add_n _ _ _ hx hy).mono ?_; rintro e w' ⟨rfl, rfl⟩
    go_wp2_with fail
    refine (add_n _ _ _ axy hz).mono ?_; rintro e w' ⟨rfl, rfl⟩; rw [Gf.add_assoc]
    go_wp2_with fail
    refine (add_n _ _ _ hy hz).mono ?_; rintro e w' ⟨rfl, rfl⟩
    go_wp2_with fail
    refine (add_n _ _ _ hx ayz).mono ?_; rintro e w' ⟨rfl, rfl⟩
    go_wp2_with fail
    refine (mul_n _ _ _ hx hy).mono ?_; rintro e w' ⟨rfl, rfl⟩
    go_wp2_with fail
    refine (mul_n _ _ _ hxy hz).mono ?_; rintro e w' ⟨rfl, rfl⟩; rw [Gf.mul_assoc x y z hx hy hz]
    go_wp2_with fail
    refine (mul_n _ _ _ hy hz).mono ?_; rintro e w' ⟨rfl, rfl⟩
    go_wp2_with fail
    refine (mul_n _ _ _ hx hyz).mono ?_; rintro e w' ⟨rfl, rfl⟩
    go_wp2_with fail
    refine (add_n _ _ _ hy hz).mono ?_; rintro e w' ⟨rfl, rfl⟩
    go_wp2_with fail
    refine (mul_n _ _ _ hx ayz).mono ?_; rintro e w' ⟨rfl, rfl⟩; rw [Gf.mul_add]
    go_wp2_with fail
    refine (mul_n _ _ _ hx hy).mono ?_; rintro e w' ⟨rfl, rfl⟩
    go_wp2_with fail
    refine (mul_n _ _ _ hx hz).mono ?_; rintro e w' ⟨rfl, rfl⟩
    go_wp2_with fail
    refine (add_n _ _ _ hxy hxz).mono ?_; rintro e w' ⟨rfl, rfl⟩
    go_wp2_with fail
    refine (add_n _ _ _ hx hx).mono ?_; rintro e w' ⟨rfl, rfl⟩; rw [Gf.add_self]
    go_wp2_with fail
    refine (add_n0 _ _ hx).mono ?_; rintro e w' ⟨rfl, rfl⟩
    go_wp2_with fail
    refine (mul_n1 _ _ hx).mono ?_; rintro e w' ⟨rfl, rfl⟩
    go_wp2_with fail
    refine (mul_n0 _ _ hx).mono ?_; rintro e w' ⟨rfl, rfl⟩
    go_wp2_with fail
    refine (mul_n _ _ _ hx hy).mono ?_; rintro e w' ⟨rfl, rfl⟩
    go_wp2_with fail
    refine (div_n _ _ _ hxy hy H0.out).mono ?_; rintro e w' ⟨rfl, rfl⟩; rw [Gf.div_mul x y hx hy H0.out]
    go_wp2_with fail
    refine (mul_n _ _ _ hx hy).mono ?_; rintro e w' ⟨rfl, rfl⟩
    go_wp2_with fail
    go_ret
    exact ⟨ret_bool (by rw [HZ.out]; exact beq_self_eq_true _), hb1⟩
end Go.Proofs.Ytpcnbcianbbcgaa
