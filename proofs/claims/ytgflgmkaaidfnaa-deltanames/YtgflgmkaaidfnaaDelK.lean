/- The walk of the statement that cells and numbers are taken up to their ends, and what is wrong first is told. -/
import Derived.Test.YtgflgmkaaidfnaaDelG
namespace Go.Proofs.Ytgflgmkaaidfnaa
open Go.RowKit

theorem lst_nil (w : World) : Lst w none 0 (fun _ => none) (fun _ => 0) (fun _ => 0) (fun _ _ => 0) := ⟨fun i hi => absurd hi (Nat.not_lt_zero i), fun hp => absurd hp (Nat.lt_irrefl 0)⟩
theorem rdI3 {w : World} {g : Nat} (hg : w.heap.size = g) (a b c : Int) : RdI (w.alloc (.cells #[.int .i64 a, .int .i64 b, .int .i64 c] 3)) (some ⟨g, 0, none⟩) 3 (three a b c) := by
  subst hg
  refine fun _ => ⟨_, _, rfl, fun i hi => ?_⟩
  obtain rfl | rfl | rfl : i = 0 ∨ i = 1 ∨ i = 2 := by omega
  all_goals (rw [cell_of_row _ _ _ _ _ _ (heap_alloc_new w _)]; rfl)
theorem names_of : okOf 65536 65536 = true ∧ okOf 65537 65537 = false := by decide +kernel
theorem names_ok : okAll 13 1 0 (fun _ => 0) 1 (fun _ => -1) 1 (fun _ => 0) = false ∧ okAll 2 5 0 (fun _ => 0) 1 (fun _ => -1) 1 (fun _ => 0) = false ∧ okAll 2 1 0 (fun _ => 0) 1 (fun _ => -1) 1 (fun _ => 0) = false ∧ okAll 2 1 1 (fun _ => 1) 1 (fun _ => -1) 1 (fun _ => 0) = false
    ∧ okAll 2 1 1 (fun _ => 1) 1 (fun _ => 0) 1 (fun _ => 0) = false ∧ okAll 2 1 1 (fun _ => 65537) 1 (fun _ => -1) 1 (fun _ => 65537) = false ∧ okAll 2 0 0 (fun _ => 0) 3 (three 0 1 0) 0 (fun _ => 0) = false ∧ okAll 2 0 0 (fun _ => 0) 2 (lit2I 0 1) 2 (two 1 2) = false ∧ okAll 2 0 0 (fun _ => 0) 2 (lit2I 0 1) 2 (two 1 1) = true := by decide +kernel
theorem names_err : errAll 13 1 0 (fun _ => 0) 1 (fun _ => -1) = 2 ∧ errAll 2 5 0 (fun _ => 0) 1 (fun _ => -1) = 2 ∧ errAll 2 1 0 (fun _ => 0) 1 (fun _ => -1) = 40 ∧ errAll 2 1 1 (fun _ => 1) 1 (fun _ => -1) = 2
    ∧ errAll 2 1 1 (fun _ => 1) 1 (fun _ => 0) = 40 ∧ errAll 2 1 1 (fun _ => 65537) 1 (fun _ => -1) = 40 ∧ errAll 2 0 0 (fun _ => 0) 3 (three 0 1 0) = 2 ∧ errAll 2 0 0 (fun _ => 0) 2 (lit2I 0 1) = 40 := by decide +kernel

set_option maxHeartbeats 4000000 in
set_option maxRecDepth 100000 in
theorem names_walk (w : World) : Calls Try.prog 3 #[] w fun e w' => e = .returned (.bool true) ∧ Below w.heap.size w w' := by
  have hmk1 := run_make_row' (P := Try.prog) 23 5 (.int .u8 0) 1 Try.underlying23 info5c rfl .i64 .i64 65536 (by omega) (by omega)
  have hmk2 := run_make_row' (P := Try.prog) 23 5 (.int .u8 0) 1 Try.underlying23 info5c rfl .i64 .i64 65537 (by omega) (by omega)
  rw [show ((65536 : Nat) : Int) = 65536 from rfl] at hmk1
  rw [show ((65537 : Nat) : Int) = 65537 from rfl] at hmk2
  have e1 : errB true 40 = 0 := rfl
  have e2 : errB false 40 = 40 := rfl
  have e3 : errB false 2 = 2 := rfl
  have e4 : lenB true 65536 = 65536 := rfl
  have e5 : lenB true 0 = 0 := rfl
  have e6 : ∀ n, lenB false n = 0 := fun _ => rfl
  go_enter Try.func3, Try.ntmps3
  go_wp2_with fail
  refine (alive_any w).mono ?_
  rintro e w1 ⟨rfl, b1⟩
  go_wp2_with fail
  obtain ⟨MA, hMA⟩ : ∃ MA, MA = madeCells #[.int .u8 0] 65536 := ⟨_, rfl⟩
  obtain ⟨MB, hMB⟩ : ∃ MB, MB = madeCells #[.int .u8 0] 65537 := ⟨_, rfl⟩
  rw [← hMA, ← hMB]
  have HMA : Hid (Rd ((w1.alloc (.cells MA 5)).alloc (.cells MB 5)) (some ⟨w1.heap.size, 0, none⟩) 65536 (fun _ => 0)) := by
    have : Own (w1.alloc (.cells MA 5)) w1.heap.size 65536 65536 (fun _ => 0) := ⟨Nat.le_refl _, by unfold maxLen; omega, _, by rw [hMA]; exact row_made w1 5 65536 _, fun i _ => rfl⟩
    exact this.rd.alloc _
  have HB : Hid (Rd ((w1.alloc (.cells MA 5)).alloc (.cells MB 5)) (some ⟨w1.heap.size + 1, 0, none⟩) 65537 (fun _ => 0)) := by
    have : Own ((w1.alloc (.cells MA 5)).alloc (.cells MB 5)) (w1.heap.size + 1) 65537 65537 (fun _ => 0) := ⟨Nat.le_refl _, by unfold maxLen; omega, _, by
      have := row_made (w1.alloc (.cells MA 5)) 5 65537 (.int .u8 0)
      rw [hMB]
      rw [show (w1.alloc (.cells MA 5)).heap.size = w1.heap.size + 1 by simp] at this
      exact this, fun i _ => rfl⟩
    exact this.rd
  clear hMA hMB hmk1 hmk2
  refine (Of_any _ _ _ 65536 65536 65536 65536 _ _ HMA.out HMA.out).mono ?_
  rw [names_of.1]
  rintro e w2 ⟨da, dc, rfl, _, bn⟩
  replace HB : Hid (Rd w2 (some ⟨w1.heap.size + 1, 0, none⟩) 65537 (fun _ => 0)) := HB.out.below bn
  replace b1 := below_step (more (more b1 _) _) bn (by have := b1.size; simp; omega)
  clear bn HMA
  go_wp2_with fail
  refine (Of_any _ _ _ 65537 65537 65537 65537 _ _ HB.out HB.out).mono ?_
  rw [names_of.2]
  rintro e w3 ⟨xa, xc, rfl, _, bn⟩
  replace HB : Hid (Rd w3 (some ⟨w1.heap.size + 1, 0, none⟩) 65537 (fun _ => 0)) := HB.out.below bn
  replace b1 := below_step b1 bn b1.size
  clear bn
  go_wp2_with fail
  refine (Parity_any w3 13 1 none 0 0 _ _ _ _ (-1) none 0 0 (fun _ => 0) (lst_nil _) (fun _ => ⟨rfl, rfl⟩) (rd_none _ _)).mono ?_
  rw [names_ok.1, names_err.1]
  rintro e w4 ⟨a4, c4, rfl, _, bn⟩
  replace HB : Hid (Rd w4 (some ⟨w1.heap.size + 1, 0, none⟩) 65537 (fun _ => 0)) := HB.out.below bn
  replace b1 := below_step b1 bn b1.size
  clear bn
  go_wp2_with fail
  refine (Parity_any w4 2 5 none 0 0 _ _ _ _ (-1) none 0 0 (fun _ => 0) (lst_nil _) (fun _ => ⟨rfl, rfl⟩) (rd_none _ _)).mono ?_
  rw [names_ok.2.1, names_err.2.1]
  rintro e w5 ⟨a5, c5, rfl, _, bn⟩
  replace HB : Hid (Rd w5 (some ⟨w1.heap.size + 1, 0, none⟩) 65537 (fun _ => 0)) := HB.out.below bn
  replace b1 := below_step b1 bn b1.size
  clear bn
  go_wp2_with fail
  refine (Parity_any w5 2 1 none 0 0 _ _ _ _ (-1) none 0 0 (fun _ => 0) (lst_nil _) (fun _ => ⟨rfl, rfl⟩) (rd_none _ _)).mono ?_
  rw [names_ok.2.2.1, names_err.2.2.1]
  rintro e w6 ⟨a6, c6, rfl, _, bn⟩
  replace HB : Hid (Rd w6 (some ⟨w1.heap.size + 1, 0, none⟩) 65537 (fun _ => 0)) := HB.out.below bn
  replace b1 := below_step b1 bn b1.size
  clear bn
  go_wp2_with fail
  refine (Parity_any _ 2 1 _ 1 1 _ _ _ _ (-1) none 0 0 (fun _ => 0) (lst1 (by simp) _ 1 1 _ (rd_lit rfl [1] _ rfl)) (fun h => by cases h) (rd_none _ _)).mono ?_
  rw [names_ok.2.2.2.1, names_err.2.2.2.1]
  rintro e w7 ⟨a7, c7, rfl, _, bn⟩
  replace bn : Below w6.heap.size w6 w7 := below_step (more (below_alloc w6 _) _) bn (by simp; omega)
  replace HB : Hid (Rd w7 (some ⟨w1.heap.size + 1, 0, none⟩) 65537 (fun _ => 0)) := HB.out.below bn
  replace b1 := below_step b1 bn b1.size
  clear bn
  go_wp2_with fail
  refine (Parity_any _ 2 1 _ 1 1 _ _ _ _ 0 none 0 0 (fun _ => 0) (lst1 (by simp) _ 1 1 _ (rd_lit rfl [1] _ rfl)) (fun h => by cases h) (rd_none _ _)).mono ?_
  rw [names_ok.2.2.2.2.1, names_err.2.2.2.2.1]
  rintro e w8 ⟨a8, c8, rfl, _, bn⟩
  replace bn : Below w7.heap.size w7 w8 := below_step (more (below_alloc w7 _) _) bn (by simp; omega)
  replace HB : Hid (Rd w8 (some ⟨w1.heap.size + 1, 0, none⟩) 65537 (fun _ => 0)) := HB.out.below bn
  replace b1 := below_step b1 bn b1.size
  clear bn
  go_wp2_with fail
  refine (Parity_any _ 2 1 _ 1 1 _ _ _ _ (-1) _ 65537 65537 (fun _ => 0) (lst1 rfl _ 65537 65537 (fun _ => 0) HB.out) (fun h => by cases h) (HB.out.alloc _)).mono ?_
  rw [names_ok.2.2.2.2.2.1, names_err.2.2.2.2.2.1]
  rintro e w9 ⟨a9, c9, rfl, _, bn⟩
  replace bn : Below w8.heap.size w8 w9 := below_step (below_alloc w8 _) bn (by simp)
  replace b1 := below_step b1 bn b1.size
  clear bn HB
  go_wp2_with fail
  refine (All_any _ 2 0 none 0 0 _ _ _ _ _ 3 3 _ none 0 0 _ _ _ _ (lst_nil _) (fun _ => ⟨rfl, rfl⟩) (rdI3 rfl 0 1 0) (Nat.le_refl _) (lst_nil _) (fun _ => ⟨rfl, rfl⟩)).mono ?_
  rw [names_ok.2.2.2.2.2.2.1, names_err.2.2.2.2.2.2.1]
  rintro e w10 ⟨a10, c10, rfl, _, bn⟩
  replace bn : Below w9.heap.size w9 w10 := below_step (below_alloc w9 _) bn (by simp)
  replace b1 := below_step b1 bn b1.size
  clear bn
  go_wp2_with fail
  refine (All_any _ 2 0 none 0 0 _ _ _ _ _ 2 2 _ _ 2 2 _ _ _ _ (lst_nil _) (fun _ => ⟨rfl, rfl⟩) ((((rdI2 rfl 0 1).alloc _).alloc _).alloc _) (Nat.le_refl _) (lst2 (by simp) _ _ 1 1 2 2 _ _ ((rd_lit (by simp) [1] _ rfl).alloc _) (rd_lit (by simp) [1, 2] _ rfl)) (fun h => by cases h)).mono ?_
  rw [names_ok.2.2.2.2.2.2.2.1, names_err.2.2.2.2.2.2.2]
  rintro e w11 ⟨a11, c11, rfl, _, bn⟩
  replace bn : Below w10.heap.size w10 w11 := below_step (more (more (more (below_alloc w10 _) _) _) _) bn (by simp; omega)
  replace b1 := below_step b1 bn b1.size
  clear bn
  go_wp2_with fail
  refine (All_any _ 2 0 none 0 0 _ _ _ _ _ 2 2 _ _ 2 2 _ _ _ _ (lst_nil _) (fun _ => ⟨rfl, rfl⟩) ((((rdI2 rfl 0 1).alloc _).alloc _).alloc _) (Nat.le_refl _) (lst2 (by simp) _ _ 1 1 1 1 _ _ ((rd_lit (by simp) [1] _ rfl).alloc _) (rd_lit (by simp) [2] _ rfl)) (fun h => by cases h)).mono ?_
  rw [names_ok.2.2.2.2.2.2.2.2, names_err.2.2.2.2.2.2.2]
  rintro e w12 ⟨a12, c12, rfl, _, bn⟩
  replace bn : Below w11.heap.size w11 w12 := below_step (more (more (more (below_alloc w11 _) _) _) _) bn (by simp; omega)
  replace b1 := below_step b1 bn b1.size
  clear bn
  go_wp2_with fail
  go_ret
  exact ⟨rfl, b1⟩
end Go.Proofs.Ytgflgmkaaidfnaa
