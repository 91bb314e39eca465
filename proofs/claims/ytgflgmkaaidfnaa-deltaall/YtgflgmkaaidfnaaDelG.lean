/- The answers that the document fixes: the program gives them. -/
import Derived.Test.YtgflgmkaaidfnaaDelF
namespace Go.Proofs.Ytgflgmkaaidfnaa
open Go.RowKit

theorem RdI.alloc {w : World} {ao : Option Addr} {n : Nat} {R : Nat → Int} (h : RdI w ao n R) (o : Obj) : RdI (w.alloc o) ao n R := h.below (below_alloc w o)
theorem of_alive : (addF (lit [1, 2]) (lit [3, 2]) 0).n = 2 ∧ (addF (lit [1, 2]) (lit [3, 2]) 1).n = 0 := by decide +kernel
theorem parity_alive : (upd 2 1 (fun _ => 1) (fun _ => lit [1]) (fun _ => lit [142]) 0 0).n = 122 := by decide +kernel
theorem all_alive : (upd 2 2 (lit2I 0 1) (two (lit [1]) (lit [1])) (fun _ => lit [0]) 0 0).n = 122 := by decide +kernel

set_option maxHeartbeats 2000000 in
set_option maxRecDepth 100000 in
theorem alive_any (w : World) : Calls Try.prog 8 #[] w fun e w' => e = .returned (.bool true) ∧ Below w.heap.size w w' := by
  go_enter Try.func8, Try.ntmps8
  go_wp2_with fail
  refine (Of_any _ _ _ 2 2 2 2 _ _ ((rd_lit rfl [1, 2] _ rfl).alloc _) (rd_lit (by simp) [3, 2] _ rfl)).mono ?_
  rw [show okOf 2 2 = true by decide]
  rintro e w1 ⟨ao, cd, rfl, hs, bn⟩
  rcases hs with ⟨_, h0, _⟩ | ⟨gd, rfl, _, _, hd⟩
  · exact absurd h0 (by decide)
  have e1 : errB true 40 = 0 := rfl
  have e2 : lenB true 2 = 2 := rfl
  have e3 : errB false 40 = 40 := rfl
  have e4 : errB false 2 = 2 := rfl
  have e5 : ∀ n, lenB false n = 0 := fun _ => rfl
  have e6 : lenB true 1 = 1 := rfl
  have HD : Hid (Own w1 gd 2 cd (addF (lit [1, 2]) (lit [3, 2]))) := hd
  have b1 : Below w.heap.size w w1 := below_step (more (below_alloc w _) _) bn (by simp; omega)
  clear hd bn
  go_wp2_with fail
  refine (Parity_any _ 2 1 _ 1 1 _ _ _ _ 1 _ 1 1 _ ((lst1 (by simp) _ 1 1 _ (rd_lit rfl [142] _ rfl)).alloc _) (fun h => by cases h) (rd_lit (by simp) [1] _ rfl)).mono ?_
  rw [show okAll 2 1 1 (fun _ => 1) 1 (fun _ => 1) 1 (fun _ => 1) = true by decide, show Int.toNat 2 = 2 from rfl]
  intro e w2 h2
  obtain ⟨l2, c2, G2, U2, rfl, hm2, bn⟩ := mat_of h2 (by decide)
  have b2 : Below w1.heap.size w1 w2 := below_step (more (more (below_alloc w1 _) _) _) bn (by simp; omega)
  have HM2 : Hid (Mat w2 _ _ l2 c2 1 1 G2 U2 (upd 2 1 (fun _ => 1) (fun _ => lit [1]) (fun _ => lit [142]))) := hm2
  replace HD : Hid (Own w2 gd 2 cd (addF (lit [1, 2]) (lit [3, 2]))) := HD.out.below b2
  replace b1 := below_step b1 b2 b1.size
  clear h2 hm2 bn b2
  go_wp2_with fail
  refine (All_any _ 2 1 _ 1 1 _ _ _ _ _ 2 2 _ _ 2 2 _ _ _ _ (((((lst1 (by simp) _ 1 1 _ (rd_lit rfl [0] _ rfl)).alloc _).alloc _).alloc _).alloc _) (fun h => by cases h) ((((rdI2 (by simp) 0 1).alloc _).alloc _).alloc _) (Nat.le_refl _) (lst2 (by simp) _ _ 1 1 1 1 _ _ ((rd_lit (by simp) [1] _ rfl).alloc _) (rd_lit (by simp) [1] _ rfl)) (fun h => by cases h)).mono ?_
  rw [show okAll 2 1 1 (fun _ => 1) 2 (lit2I 0 1) 2 (two 1 1) = true by decide, show Int.toNat 2 = 2 from rfl]
  intro e w3 h3
  obtain ⟨l3, c3, G3, U3, rfl, hm3, bn⟩ := mat_of h3 (by decide)
  have b3 : Below w2.heap.size w2 w3 := below_step (more (more (more (more (more (below_alloc w2 _) _) _) _) _) _) bn (by simp; omega)
  have HM3 : Hid (Mat w3 _ _ l3 c3 1 1 G3 U3 (upd 2 2 (lit2I 0 1) (two (lit [1]) (lit [1])) (fun _ => lit [0]))) := hm3
  replace HD : Hid (Own w3 gd 2 cd (addF (lit [1, 2]) (lit [3, 2]))) := HD.out.below b3
  replace HM2 : Hid (Mat w3 _ _ l2 c2 1 1 G2 U2 (upd 2 1 (fun _ => 1) (fun _ => lit [1]) (fun _ => lit [142]))) := HM2.out.below b3
  replace b1 := below_step b1 b3 b1.size
  clear h3 hm3 bn b3
  go_wp2_with fail
  refine (All_any _ 2 1 _ 1 1 _ _ _ _ _ 2 2 _ _ 2 2 _ _ _ _ (((((lst1 (by simp) _ 1 1 _ (rd_lit rfl [0] _ rfl)).alloc _).alloc _).alloc _).alloc _) (fun h => by cases h) ((((rdI2 (by simp) 0 0).alloc _).alloc _).alloc _) (Nat.le_refl _) (lst2 (by simp) _ _ 1 1 1 1 _ _ ((rd_lit (by simp) [1] _ rfl).alloc _) (rd_lit (by simp) [1] _ rfl)) (fun h => by cases h)).mono ?_
  rw [show okAll 2 1 1 (fun _ => 1) 2 (lit2I 0 0) 2 (two 1 1) = false by decide, show errAll 2 1 1 (fun _ => 1) 2 (lit2I 0 0) = 2 by decide]
  rintro e w4 ⟨ao4, c4, rfl, _, bn⟩
  have b4 : Below w3.heap.size w3 w4 := below_step (more (more (more (more (more (below_alloc w3 _) _) _) _) _) _) bn (by simp; omega)
  replace HD : Hid (Own w4 gd 2 cd (addF (lit [1, 2]) (lit [3, 2]))) := HD.out.below b4
  replace HM2 : Hid (Mat w4 _ _ l2 c2 1 1 G2 U2 (upd 2 1 (fun _ => 1) (fun _ => lit [1]) (fun _ => lit [142]))) := HM2.out.below b4
  replace HM3 : Hid (Mat w4 _ _ l3 c3 1 1 G3 U3 (upd 2 2 (lit2I 0 1) (two (lit [1]) (lit [1])) (fun _ => lit [0]))) := HM3.out.below b4
  replace b1 := below_step b1 b4 b1.size
  clear bn b4
  go_wp2_with fail
  refine (Of_any _ _ _ 0 0 0 0 (fun _ => 0) (fun _ => 0) (rd_none _ _) (rd_none _ _)).mono ?_
  rw [show okOf 0 0 = false by decide]
  rintro e w5 ⟨ao5, c5, rfl, _, bn⟩
  have d0 := val_of ((HD.out.below bn).cell (i := 0) (by decide)) of_alive.1
  have d1 := val_of ((HD.out.below bn).cell (i := 1) (by decide)) of_alive.2
  have p0 := (HM2.out.below bn).cell_l (i := 0) (by decide)
  have p1 := mat_val (HM2.out.below bn) 0 0 122 (by decide) (by decide) parity_alive
  have q0 := (HM3.out.below bn).cell_l (i := 0) (by decide)
  have q1 := mat_val (HM3.out.below bn) 0 0 122 (by decide) (by decide) all_alive
  replace b1 := below_step b1 bn b1.size
  clear bn HD HM2 HM3
  go_wp2_with fail
  go_ret
  exact ⟨rfl, b1⟩
end Go.Proofs.Ytgflgmkaaidfnaa
