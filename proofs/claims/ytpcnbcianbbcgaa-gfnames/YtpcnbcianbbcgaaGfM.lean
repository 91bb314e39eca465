/- The walk of the closed law GfNames: each element but 0 has one logarithm and one inverse; powers at the ends of numbers. -/
import Derived.Test.YtpcnbcianbbcgaaGfU
namespace Go.Proofs.Ytpcnbcianbbcgaa
open Go.RowKit

theorem expK (k : Nat) (w : World) (hk : k < 255) : Calls Try.prog 9 #[.int .i64 (k : Int)] w fun e w' => e = .returned (.int .u8 ((Gf.E k : Nat) : Int)) ∧ w' = w := by
  refine (exp_any k w).mono ?_
  rw [show ((k : Int) % 255).toNat = k by omega]
  exact fun _ _ h => h
theorem logK (k : Nat) (w : World) (hk : k < 255) : Calls Try.prog 10 #[.int .u8 ((Gf.E k : Nat) : Int)] w fun e w' => e = .returned (.tuple #[.int .i64 (k : Int), .int .i64 0]) ∧ Below w.heap.size w w' := by
  refine (log_u _ w (Gf.E_lt k)).mono ?_
  rw [Gf.lg_E k hk, errZ, if_neg (Gf.E_ne_zero k)]
  exact fun _ _ h => h
theorem invK (k : Nat) (w : World) : Calls Try.prog 11 #[.int .u8 ((Gf.E k : Nat) : Int)] w fun e w' => e = .returned (.tuple #[.int .u8 ((Gf.pw (Gf.E k) 254 : Nat) : Int), .int .i64 0]) ∧ w' = w := by
  refine (inv_u _ w (Gf.E_lt k)).mono ?_
  rw [errZ, if_neg (Gf.E_ne_zero k)]
  exact fun _ _ h => h
theorem mulK (k : Nat) (w : World) : Calls Try.prog 12 #[.int .u8 ((Gf.pw (Gf.E k) 254 : Nat) : Int), .int .u8 ((Gf.E k : Nat) : Int)] w fun e w' => e = .returned (.int .u8 1) ∧ w' = w := by
  refine (mul_n _ _ w (Gf.pw_lt _ _) (Gf.E_lt k)).mono ?_
  rw [show Gf.mul (Gf.pw (Gf.E k) 254) (Gf.E k) = 1 from Gf.pw_255 _ (Gf.E_lt k) (Gf.E_ne_zero k)]
  exact fun _ _ h => h
theorem pow3 (n : Int) (w : World) : Calls Try.prog 13 #[.int .u8 3, .int .i64 n] w fun e w' => e = .returned (.tuple #[.int .u8 ((powV 3 n : Nat) : Int), .int .i64 0]) ∧ w' = w := by
  refine (pow_u 3 n w (by decide)).mono ?_
  rw [show powE 3 n = 0 from if_neg (fun c => absurd c.1 (by decide))]
  exact fun _ _ h => h
theorem rpow3 (n : Int) (w : World) : Calls Try.prog 14 #[.int .u8 3, .int .i64 n] w fun e w' => e = .returned (.tuple #[.int .u8 ((powV 3 n : Nat) : Int), .int .i64 0]) ∧ w' = w := by
  refine (rpow_u 3 n w (by decide)).mono ?_
  rw [show powE 3 n = 0 from if_neg (fun c => absurd c.1 (by decide))]
  exact fun _ _ h => h

/-- What the row of marks holds behind k rounds. -/
def metTo : Nat → Array Value
  | 0 => Array.replicate 256 (.bool false)
  | k + 1 => (metTo k).setIfInBounds (Gf.E k) (.bool true)
theorem metTo_size (k : Nat) : (metTo k).size = 256 := by
  induction k with
  | zero => simp [metTo]
  | succ k ih => simp [metTo, ih]
theorem metTo_at (k : Nat) (hk : k ≤ 255) (j : Nat) (hj : k ≤ j) (h5 : j < 255) : (metTo k)[Gf.E j]? = some (.bool false) := by
  induction k with
  | zero =>
    show (Array.replicate 256 (Value.bool false))[Gf.E j]? = _
    rw [Array.getElem?_replicate, if_pos (Gf.E_lt j)]
  | succ k ih =>
    show ((metTo k).setIfInBounds _ _)[Gf.E j]? = _
    rw [Array.getElem?_setIfInBounds, if_neg (fun e => by have := Gf.E_inj k j (by omega) h5 e; omega)]
    exact ih (by omega) (by omega)
theorem make_met (w : World) : (Instr.makeSlice 23 (.int .i64 256) (.int .i64 256)).run Try.prog w = .ok (.slice (some ⟨w.heap.size, 0, none⟩) 256 256) (w.alloc (.cells (metTo 0) 4)) := by kernel_rfl

set_option maxHeartbeats 1000000 in
set_option maxRecDepth 100000 in
theorem names_walk (w : World) :
    Calls Try.prog 3 #[] w fun e w' => e = .returned (.bool true) ∧ Below w.heap.size w w' := by
  have hmk := make_met
  go_enter Try.func3, Try.ntmps3
  go_wp2_with fail
  refine (alive_any _).mono ?_; rintro e w1 ⟨rfl, hb1⟩
  go_wp2_with fail
  clear hmk
  have hbB := hb1.size
  go_loopw [3] (fun i wx => ∃ k : Nat, k ≤ 255 ∧ i = .int .i64 k ∧ Hid (wx.heap[w1.heap.size]? = some (.cells (metTo k) 4 (0, 0))) ∧ w1.heap.size < wx.heap.size ∧ Below w.heap.size w wx) (fun i _ => 255 - (intOf i).toNat)
  case atStart => exact ⟨0, Nat.zero_le _, rfl, heap_alloc_new w1 _, by simp, hb1.alloc hb1.size _⟩
  case round =>
    obtain ⟨k, hk, rfl, HM, hsz, hbw⟩ := hrel
    have hE : Gf.E k < 256 := Gf.E_lt k
    have hE0 : (((Gf.E k : Nat) : Int) == 0) = false := beq_eq_false_iff_ne.2 (by have := Gf.E_ne_zero k; omega)
    by_cases hlt : k < 255
    · go_wp2_with fail
      refine (expK _ _ hlt).mono ?_; rintro e w' ⟨rfl, rfl⟩
      go_wp2_with fail
      refine (logK _ _ hlt).mono ?_; rintro e w2 ⟨rfl, hb2⟩
      have HM2 : Hid (w2.heap[w1.heap.size]? = some (.cells (metTo k) 4 (0, 0))) := (hb2.block _ hsz).trans HM
      have hcell : w2.cell? ⟨w1.heap.size, Gf.E k, none⟩ = some (.bool false) := by
        rw [cell_of_row _ _ _ _ _ _ HM2.out]; exact metTo_at k hk k (Nat.le_refl _) hlt
      have hfz : w2.frozen? ⟨w1.heap.size, Gf.E k, none⟩ = false := frozen_of_row _ _ _ _ _ HM2.out
      go_wp2_with fail
      refine (invK _ _).mono ?_; rintro e w' ⟨rfl, rfl⟩
      go_wp2_with fail
      refine (mulK _ _).mono ?_; rintro e w' ⟨rfl, rfl⟩
      go_wp2_with fail
      refine ⟨⟨k + 1, by omega, by go_num, heap_setCell_same _ _ _ _ _ _ HM2.out, ?_, ?_⟩, ?_⟩
      · have := hb2.size; simp [World.setCell]; omega
      · exact (hbw.trans (hb2.mono (by omega))).setCell (by exact hbB) _
      · simp [intOf]; omega
    · go_wp2_with fail
      refine (pow3 _ _).mono ?_; rintro e w' ⟨rfl, rfl⟩
      go_wp2_with fail
      refine (pow3 _ _).mono ?_; rintro e w' ⟨rfl, rfl⟩
      go_wp2_with fail
      refine (rpow3 _ _).mono ?_; rintro e w' ⟨rfl, rfl⟩
      go_wp2_with fail
      refine (rpow3 _ _).mono ?_; rintro e w' ⟨rfl, rfl⟩
      go_wp2_with fail
      go_ret
      exact ⟨rfl, hbw⟩
end Go.Proofs.Ytpcnbcianbbcgaa
