/- The answers that the document fixes: the program gives them. -/
import Derived.Test.YthkikocacbbhkaaCodV
namespace Go.Proofs.Ythkikocacbbhkaa
open Go.RowKit

theorem Out.mat {w w' : World} {err : Int} {n m : Nat} {H : M} {e : Ending} (h : Out w true err n m H e w') (hn : 0 < n) (hm : 0 < m) :
    ∃ l cap G U, e = .returned (.tuple #[.slice (some ⟨l, 0, none⟩) n cap, .int .i64 err]) ∧ Mat w' w.heap.size w'.heap.size l cap n m G U H ∧ Below w.heap.size w w' := by
  obtain ⟨ao, cap, T, U, rfl, hc, hb⟩ := h
  obtain ⟨l, G, rfl, hm⟩ := Copied.mat hc (fun _ _ => rfl) hm hn
  exact ⟨l, cap, G, U, rfl, hm, hb⟩
theorem cnt_const {m : Nat} (hm : m ≠ 0) (n : Nat) : cnt (fun _ => m) n = n := cnt_full fun _ _ => hm
theorem len0_const {m : Nat} (hm : m ≠ 0) (n : Nat) (hn : 0 < n) : len0 (fun _ => m) n = m := by
  rcases len0_sel (fun _ => m) n with ⟨h1, _⟩ | ⟨_, h2, _⟩
  · rw [cnt_const hm] at h1; omega
  · exact h2
theorem okT_const {m : Nat} (hm : m ≠ 0) (h : m ≤ 65536) (n : Nat) : okT (fun _ => m) n = true := by
  induction n with
  | zero => rfl
  | succ n ih => exact okT_succ ih (.inr ⟨h, (len0_const hm (n + 1) (by omega)).symm⟩)
theorem ver_enc (k r m : Nat) (D : M) : verB k r m (enc k D) = true := by
  refine decide_eq_true fun i _ => eqB_true.2 fun b _ => ?_
  exact enc_congr (fun j hj => enc_data D hj) (k + i)
theorem mat_val {w : World} {B T l cl rows cols : Nat} {G U : Nat → Nat} {H : M} (h : Mat w B T l cl rows cols G U H) (i j v : Nat) (hi : i < rows) (hj : j < cols) (e : (H i j).n = v) : w.cell? ⟨G i, j, none⟩ = some (.int .u8 (v : Int)) := val_of ((h.row i hi).cell hj) e
theorem rd_none (w : World) (f : Nat → K) : Rd w none 0 f := fun h => absurd h (Nat.lt_irrefl 0)
theorem below_allocs {w w1 : World} (h : Below w.heap.size w w1) (o : Obj) : Below w.heap.size w (w1.alloc o) := h.alloc h.size o
theorem dec_alive : (enc 2 (dec 2 (sel (three 0 1 1) 3) (three (fun _ => 0) (lit [7]) (lit [9]))) 0 0).n = 227 := by decide +kernel
theorem dec_alive' : (enc 2 (dec 2 (sel (three 0 1 1) 3) (three (fun _ => 0) (lit [7]) (lit [9]))) 1 0).n = 7 := by decide +kernel
theorem par_alive : (par 2 (two (lit [1]) (lit [0])) 0 0).n = 142 := by decide +kernel
theorem gen_alive : (gen 2 2 0).n = 142 ∧ (gen 2 2 1).n = 244 := by decide +kernel

set_option maxHeartbeats 2000000 in
set_option maxRecDepth 100000 in
theorem alive_any (w : World) : Calls Try.prog 8 #[] w fun e w' => e = .returned (.bool true) ∧ Below w.heap.size w w' := by
  go_enter Try.func8, Try.ntmps8
  go_wp2_with fail
  refine (Row_any w 2 2 2).mono ?_
  rw [show okRow 2 2 2 = true by decide]
  rintro e w1 ⟨ao, cr, rfl, hs, b1⟩
  rcases hs with ⟨_, h0, _⟩ | ⟨gr, rfl, _, _, hrow⟩
  · exact absurd h0 (by decide)
  have e1 : errB true 2 = 0 := rfl
  have e2 : lenB true 2 = 2 := rfl
  have HROW : Hid (Own w1 gr 2 cr (gen 2 2)) := hrow
  clear hrow
  go_wp2_with fail
  refine (Encode_any _ 2 1 _ 2 2 _ _ _ _ (lst2 (by simp) _ _ 1 1 1 1 _ _ ((rd_lit rfl [1] _ rfl).alloc _) (rd_lit (by simp) [0] _ rfl))).mono ?_
  rw [show okEnc 2 (two 1 1) 2 1 = true by decide, show errE (mayB 2 1) true = 0 by decide, show len0 (two 1 1) 2 = 1 by decide, show Int.toNat 1 = 1 from rfl, show Int.toNat 2 = 2 from rfl]
  intro e w2 h2
  obtain ⟨l2, c2, G2, U2, rfl, hm2, bn⟩ := h2.mat (by decide) (by decide)
  have b2 : Below w1.heap.size w1 w2 := below_step (below_allocs (below_allocs (below_alloc w1 _) _) _) bn (by simp; omega)
  have HM2 : Hid (Mat w2 _ _ l2 c2 1 1 G2 U2 (par 2 (two (lit [1]) (lit [0])))) := hm2
  replace HROW : Hid (Own w2 gr 2 cr (gen 2 2)) := HROW.out.below b2
  replace b1 := below_step b1 b2 b1.size
  clear h2 hm2 bn b2
  go_wp2_with fail
  refine (Decode_any _ 2 1 _ 3 3 _ _ _ _ (lst3 (by simp) none _ _ 0 0 1 1 1 1 (fun _ => 0) _ _ (rd_none _ _) ((rd_lit rfl [7] _ rfl).alloc _) (rd_lit (by simp) [9] _ rfl))).mono ?_
  rw [show okDec 3 (three 0 1 1) 2 1 = true by decide, show errD (mayB 2 1) (okC 3 (three 0 1 1) (2 + 1)) true = 0 by decide, show len0 (three 0 1 1) 3 = 1 by decide, show Int.toNat 1 = 1 from rfl, show Int.toNat 2 = 2 from rfl]
  intro e w3 h3
  obtain ⟨l3, c3, G3, U3, rfl, hm3, bn⟩ := h3.mat (by decide) (by decide)
  have b3 : Below w2.heap.size w2 w3 := below_step (below_allocs (below_allocs (below_alloc w2 _) _) _) bn (by simp; omega)
  have HM3 : Hid (Mat w3 _ _ l3 c3 3 1 G3 U3 (enc 2 (dec 2 (sel (three 0 1 1) 3) (three (fun _ => 0) (lit [7]) (lit [9]))))) := hm3
  replace HROW : Hid (Own w3 gr 2 cr (gen 2 2)) := HROW.out.below b3
  replace HM2 : Hid (Mat w3 _ _ l2 c2 1 1 G2 U2 (par 2 (two (lit [1]) (lit [0])))) := HM2.out.below b3
  replace b1 := below_step b1 b3 b1.size
  clear h3 hm3 bn b3
  go_wp2_with fail
  refine (Decode_any _ 2 1 _ 3 3 _ _ _ _ (lst3 (by simp) none none _ 0 0 0 0 1 1 (fun _ => 0) (fun _ => 0) _ (rd_none _ _) (rd_none _ _) (rd_lit rfl [9] _ rfl))).mono ?_
  rw [show okDec 3 (three 0 0 1) 2 1 = false by decide, show errD (mayB 2 1) (okC 3 (three 0 0 1) (2 + 1)) false = 5 by decide]
  rintro e w4 ⟨ao4, c4, T4, U4, rfl, _, bn⟩
  have e3 : lenB false (Int.toNat 2 + Int.toNat 1) = 0 := rfl
  have b4 : Below w3.heap.size w3 w4 := below_step (below_allocs (below_alloc w3 _) _) bn (by simp; omega)
  replace HROW : Hid (Own w4 gr 2 cr (gen 2 2)) := HROW.out.below b4
  replace HM2 : Hid (Mat w4 _ _ l2 c2 1 1 G2 U2 (par 2 (two (lit [1]) (lit [0])))) := HM2.out.below b4
  replace HM3 : Hid (Mat w4 _ _ l3 c3 3 1 G3 U3 (enc 2 (dec 2 (sel (three 0 1 1) 3) (three (fun _ => 0) (lit [7]) (lit [9]))))) := HM3.out.below b4
  replace b1 := below_step b1 b4 b1.size
  clear bn b4
  go_wp2_with fail
  refine (Encode_any _ 2 1 _ 2 2 _ _ _ _ (lst2 (by simp) _ none 1 1 0 0 _ (fun _ => 0) (rd_lit rfl [1] _ rfl) (rd_none _ _))).mono ?_
  rw [show okEnc 2 (two 1 0) 2 1 = false by decide, show errE (mayB 2 1) false = 40 by decide]
  rintro e w5 ⟨ao5, c5, T5, U5, rfl, _, bn⟩
  have b5 : Below w4.heap.size w4 w5 := below_step (below_allocs (below_alloc w4 _) _) bn (by simp; omega)
  replace HROW : Hid (Own w5 gr 2 cr (gen 2 2)) := HROW.out.below b5
  replace HM2 : Hid (Mat w5 _ _ l2 c2 1 1 G2 U2 (par 2 (two (lit [1]) (lit [0])))) := HM2.out.below b5
  replace HM3 : Hid (Mat w5 _ _ l3 c3 3 1 G3 U3 (enc 2 (dec 2 (sel (three 0 1 1) 3) (three (fun _ => 0) (lit [7]) (lit [9]))))) := HM3.out.below b5
  replace b1 := below_step b1 b5 b1.size
  clear bn b5
  have HV := Verify_any w5 2 1 (some ⟨l3, 0, none⟩) 3 c3 _ _ _ _ HM3.out.lst_ HM3.out.room
  rw [show okVer 3 (fun _ => 1) 2 1 = true by decide, show errE (mayB 2 1) true = 0 by decide, show Int.toNat 2 = 2 from rfl, ver_enc] at HV
  have p0 := HM2.out.cell_l (i := 0) (by decide)
  have d0 := HM3.out.cell_l (i := 0) (by decide)
  go_wp2_with fail
  refine HV.mono ?_
  rintro e w6 ⟨rfl, b6⟩
  have q0 := held p0 b6
  have f0 := held d0 b6
  have f1 := held (HM3.out.cell_l (i := 1) (by decide)) b6
  have q1 := held (mat_val HM2.out 0 0 142 (by decide) (by decide) par_alive) b6
  have g0 := held (mat_val HM3.out 0 0 227 (by decide) (by decide) dec_alive) b6
  have g1 := held (mat_val HM3.out 1 0 7 (by decide) (by decide) dec_alive') b6
  have r0 := held (val_of (HROW.out.cell (i := 0) (by decide)) gen_alive.1) b6
  have r1 := held (val_of (HROW.out.cell (i := 1) (by decide)) gen_alive.2) b6
  replace b1 := below_step b1 b6 b1.size
  clear HV p0 d0 b6
  go_wp2_with fail
  go_ret
  exact ⟨rfl, b1⟩
end Go.Proofs.Ythkikocacbbhkaa
