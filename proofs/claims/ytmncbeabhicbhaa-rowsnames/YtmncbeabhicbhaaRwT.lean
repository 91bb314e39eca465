/- The walk of RowsNames. -/
import Derived.Test.YtmncbeabhicbhaaRwN
import Derived.WalkMore
namespace Go.Proofs.Ytmncbeabhicbhaa
open Go.RowKit

def ZF : Nat → Int := fun _ => 0
theorem inB_zf {n : Nat} (hn : 0 < n) (i : Nat) : inB n ZF i = decide (i = 0) := by
  by_cases h : i = 0
  · rw [decide_eq_true h]; exact inB_iff.2 ⟨0, hn, by rw [h]; rfl⟩
  · rw [decide_eq_false h]; exact inB_no.2 fun j _ e => h (by unfold ZF at e; omega)
theorem cnt_zf {n : Nat} (hn : 0 < n) : cnt (nfB n ZF) 8 = 7 := by
  rw [cnt_congr (Q := fun i => !decide (i = 0)) (fun i _ => by unfold nfB; rw [inB_zf hn])]
  decide +kernel
theorem erH_zf {n : Nat} (h : n ≤ 65536) : erH 8 n ZF = 0 := by
  unfold erH
  rw [if_neg (by omega), if_pos]
  exact decide_eq_true fun i _ => by unfold ZF; omega
theorem erH_big {n : Nat} (q : Int) (R : Nat → Int) (h : 65536 < n) : erH q n R = 20 := by unfold erH; rw [if_pos h]
theorem erL_big {n : Nat} (q : Int) (R : Nat → Int) (h : 65536 < n) : erL q n R = 20 := by unfold erL; rw [erH_big q R h]; rfl
theorem erP_s : erP 2 1 16 8 = 0 := by decide
theorem n_free (v : World) (ao : Option Addr) (n ca : Nat) (h0 : 0 < n) (h1 : n ≤ 65536) (hv : RdI v ao n ZF) :
    Calls Try.prog 9 #[.agg #[.int .i64 2, .int .i64 1, .int .i64 16, .int .i64 8], .slice ao n ca] v fun e w' => ∃ ro rc, e = .returned (.tuple #[.slice ro 7 rc, .int .i64 0]) ∧ Below v.heap.size v w' := by
  refine (Free_any 2 1 16 8 v ao n ca ZF hv (by omega) 0 (by unfold erF; rw [erP_s, if_pos rfl]; exact erH_zf h1)).mono ?_
  rintro e w' ⟨⟨ro, rc, rfl, _⟩, hb⟩
  rw [show (8 : Int).toNat = 8 from rfl, cnt_zf h0]
  exact ⟨ro, rc, rfl, hb⟩
theorem n_free20 (v : World) (ao : Option Addr) (n ca : Nat) (h1 : 65536 < n) (h2 : n ≤ 200000) (hv : RdI v ao n ZF) :
    Calls Try.prog 9 #[.agg #[.int .i64 2, .int .i64 1, .int .i64 16, .int .i64 8], .slice ao n ca] v fun e w' => ∃ ro rc, e = .returned (.tuple #[.slice ro 0 rc, .int .i64 20]) ∧ Below v.heap.size v w' := by
  refine (Free_any 2 1 16 8 v ao n ca ZF hv h2 20 (by unfold erF; rw [erP_s, if_pos rfl]; exact erH_big 8 ZF h1)).mono ?_
  rintro e w' ⟨⟨ro, rc, rfl, _⟩, hb⟩
  exact ⟨ro, rc, rfl, hb⟩
theorem n_free2 (v : World) (ao : Option Addr) (n ca : Nat) (h2 : n ≤ 200000) (hv : RdI v ao n ZF) :
    Calls Try.prog 9 #[.agg #[.int .i64 0, .int .i64 0, .int .i64 0, .int .i64 0], .slice ao n ca] v fun e w' => ∃ ro rc, e = .returned (.tuple #[.slice ro 0 rc, .int .i64 2]) ∧ Below v.heap.size v w' := by
  refine (Free_any 0 0 0 0 v ao n ca ZF hv h2 2 (by unfold erF; rw [show erP 0 0 0 0 = 2 by decide]; rfl)).mono ?_
  rintro e w' ⟨⟨ro, rc, rfl, _⟩, hb⟩
  exact ⟨ro, rc, rfl, hb⟩
theorem n_take20 (v : World) (ao : Option Addr) (n ca : Nat) (h1 : 65536 < n) (h2 : n ≤ 200000) (hv : Vec v ao n ca ZF) :
    Calls Try.prog 10 #[.agg #[.int .i64 2, .int .i64 1, .int .i64 16, .int .i64 8], .slice ao n ca, .int .i64 (-1)] v fun e w' => ∃ ro rc so sc, e = .returned (.tuple #[.slice ro 0 rc, .slice so 0 sc, .int .i64 20]) ∧ Below v.heap.size v w' := by
  refine (Take_any 2 1 16 8 v ao n ca ZF hv h2 (-1) 20 (by unfold erT erM; rw [erP_s, if_pos rfl, erL_big 8 ZF h1]; rfl)).mono ?_
  rintro e w' ⟨⟨ro, rc, so, sc, T, rfl, _⟩, hb⟩
  exact ⟨ro, rc, so, sc, rfl, hb⟩
theorem n_give20 (v : World) (ao : Option Addr) (n ca : Nat) (h1 : 65536 < n) (h2 : n ≤ 200000) (hv : Vec v ao n ca ZF) :
    Calls Try.prog 11 #[.agg #[.int .i64 2, .int .i64 1, .int .i64 16, .int .i64 8], .slice none 0 0, .slice ao n ca] v fun e w' => ∃ ro rc, e = .returned (.tuple #[.slice ro 0 rc, .int .i64 20]) ∧ Below v.heap.size v w' := by
  refine (Give_any 2 1 16 8 v none ao 0 0 n ca ZF ZF (vec_nil _ _) hv (by omega) h2 20 (by unfold erG er2M erM; rw [erP_s, if_pos rfl, show erL 8 0 ZF = 0 by decide +kernel, if_pos rfl, erL_big 8 ZF h1]; rfl)).mono ?_
  rintro e w' ⟨⟨ro, rc, rfl, _⟩, hb⟩
  exact ⟨ro, rc, rfl, hb⟩
theorem n_give200 (v : World) (ao : Option Addr) (n ca : Nat) (h2 : n ≤ 200000) (hv : Vec v ao n ca ZF) :
    Calls Try.prog 11 #[.agg #[.int .i64 2, .int .i64 1, .int .i64 16, .int .i64 8], .slice (some ⟨v.heap.size, 0, none⟩) 2 2, .slice ao n ca] (v.alloc (.cells #[.int .i64 0, .int .i64 0] 3)) fun e w' => ∃ ro rc, e = .returned (.tuple #[.slice ro 0 rc, .int .i64 200]) ∧ Below v.heap.size v w' := by
  refine (Give_any 2 1 16 8 _ _ ao 2 2 n ca (LF [0, 0]) ZF (vec_list v [0, 0]) (hv.below (below_alloc _ _)) (by omega) h2 200 (by unfold erG er2M erM; rw [erP_s, if_pos rfl, show erL 8 2 (LF [0, 0]) = 200 by decide +kernel]; rfl)).mono ?_
  rintro e w' ⟨⟨ro, rc, rfl, _⟩, hb⟩
  exact ⟨ro, rc, rfl, below_then (below_alloc _ _) hb⟩
theorem n_give10 (v : World) : Calls Try.prog 11 #[.agg #[.int .i64 2, .int .i64 1, .int .i64 16, .int .i64 8], .slice none 0 0, .slice (some ⟨v.heap.size, 0, none⟩) 2 2] (v.alloc (.cells #[.int .i64 1, .int .i64 0] 3)) fun e w' => ∃ ro rc, e = .returned (.tuple #[.slice ro 0 rc, .int .i64 200]) ∧ Below v.heap.size v w' := by
  refine (Give_any 2 1 16 8 _ none _ 0 0 2 2 ZF (LF [1, 0]) (vec_nil _ _) (vec_list v [1, 0]) (by omega) (by omega) 200 (by decide +kernel)).mono ?_
  rintro e w' ⟨⟨ro, rc, rfl, _⟩, hb⟩
  exact ⟨ro, rc, rfl, below_then (below_alloc _ _) hb⟩
theorem n_take00 : ∀ v, Calls Try.prog 10 #[.agg #[.int .i64 2, .int .i64 1, .int .i64 16, .int .i64 8], .slice (some ⟨v.heap.size, 0, none⟩) 2 2, .int .i64 (-1)] (v.alloc (.cells #[.int .i64 0, .int .i64 0] 3)) fun e w' => ∃ ao ca bo cb, e = .returned (.tuple #[.slice ao 0 ca, .slice bo 0 cb, .int .i64 200]) ∧ RdI w' ao 0 (LF []) ∧ RdI w' bo 0 (LF []) ∧ Below v.heap.size v w' :=
  lit_take [0, 0] [] [] (-1) 200 (by decide) (by decide +kernel) (by decide +kernel) (by decide +kernel) (by decide +kernel) (by decide +kernel)
theorem n_take01 : ∀ v, Calls Try.prog 10 #[.agg #[.int .i64 2, .int .i64 1, .int .i64 16, .int .i64 8], .slice (some ⟨v.heap.size, 0, none⟩) 2 2, .int .i64 (-1)] (v.alloc (.cells #[.int .i64 0, .int .i64 1] 3)) fun e w' => ∃ ao ca bo cb, e = .returned (.tuple #[.slice ao 0 ca, .slice bo 0 cb, .int .i64 2]) ∧ RdI w' ao 0 (LF []) ∧ RdI w' bo 0 (LF []) ∧ Below v.heap.size v w' :=
  lit_take [0, 1] [] [] (-1) 2 (by decide) (by decide +kernel) (by decide +kernel) (by decide +kernel) (by decide +kernel) (by decide +kernel)
theorem n_give38 : ∀ v, Calls Try.prog 11 #[.agg #[.int .i64 2, .int .i64 1, .int .i64 16, .int .i64 8], .slice (some ⟨v.heap.size, 0, none⟩) 1 1, .slice (some ⟨v.heap.size + 1, 0, none⟩) 1 1] ((v.alloc (.cells #[.int .i64 3] 3)).alloc (.cells #[.int .i64 8] 3)) fun e w' => ∃ ao ca, e = .returned (.tuple #[.slice ao 0 ca, .int .i64 200]) ∧ RdI w' ao 0 (LF []) ∧ Below v.heap.size v w' :=
  lit_give [3] [8] [] 200 (by decide) (by decide) (by decide +kernel) (by decide +kernel) (by decide +kernel)
theorem n_freem : ∀ v, Calls Try.prog 9 #[.agg #[.int .i64 2, .int .i64 1, .int .i64 16, .int .i64 8], .slice (some ⟨v.heap.size, 0, none⟩) 1 1] (v.alloc (.cells #[.int .i64 (-1)] 3)) fun e w' => ∃ ao ca, e = .returned (.tuple #[.slice ao 0 ca, .int .i64 200]) ∧ RdI w' ao 0 (LF []) ∧ Below v.heap.size v w' :=
  lit_free [-1] [] 200 (by decide) (by decide +kernel) (by decide +kernel) (by decide +kernel)
theorem below_of {w0 w1 w2 : World} {B : Nat} (h : Below w0.heap.size w0 w1) (e : w1.heap.size = B) (k : Below B w1 w2) : Below w0.heap.size w0 w2 := by subst e; exact below_then h k
set_option maxHeartbeats 8000000 in
set_option maxRecDepth 100000 in
theorem names_law (w : World) : Calls Try.prog 3 #[] w fun e w' => e = .returned (.bool true) ∧ Below w.heap.size w w' := by
  go_enter Try.func3, Try.ntmps3
  go_wp2_with fail
  refine (alive_any _).mono ?_
  rintro e wv ⟨rfl, hv⟩
  have HBV : Hid (Below w.heap.size w wv) := hv
  clear hv
  go_wp2_with fail
  refine (sample_any _).mono ?_
  rintro e wa ⟨rfl, ha⟩
  obtain ⟨w0, hw0⟩ : ∃ w0, w0 = wa.alloc (.cells #[.int .i64 2, .int .i64 1, .int .i64 16, .int .i64 8] 24) := ⟨_, rfl⟩
  have HB0 : Hid (Below w.heap.size w w0) := by show Below _ _ _; rw [hw0]; exact below_then (below_then HBV.out ha) (below_alloc _ _)
  have HPAR : Hid (∀ v, Below w0.heap.size w0 v → v.cell? ⟨wa.heap.size, 0, none⟩ = some (.int .i64 2) ∧ v.cell? ⟨wa.heap.size, 1, none⟩ = some (.int .i64 1) ∧ v.cell? ⟨wa.heap.size, 2, none⟩ = some (.int .i64 16) ∧ v.cell? ⟨wa.heap.size, 3, none⟩ = some (.int .i64 8)) := fun v hv => par_held hw0 hv
  obtain ⟨N, hN⟩ : ∃ N : Nat, N = 65537 := ⟨_, rfl⟩
  have hmk := run_make_row' (P := Try.prog) 26 3 (.int .i64 0) 8 Try.underlying26 info3 rfl .i64 .i64 N (by omega) (by omega) w0
  have hz : w0.heap.size = wa.heap.size + 1 := by rw [hw0]; simp
  obtain ⟨wz, hwz⟩ : ∃ wz, wz = w0.alloc (.cells (madeCells #[.int .i64 0] N) 3) := ⟨_, rfl⟩
  have HBZ : Hid (Below w0.heap.size w0 wz) := by show Below _ _ _; rw [hwz]; exact below_alloc _ _
  have HRW : Hid (wz.rowIs w0.heap.size 3 N (fun _ => .int .i64 0)) := by show World.rowIs _ _ _ _ _; rw [hwz]; exact World.rowIs_made w0 (.int .i64 0) N 3
  rw [← hwz] at hmk
  rw [hz] at hmk HRW
  rw [hw0] at hmk
  have hNI : ((N : Nat) : Int) = 65537 := by rw [hN]; rfl
  rw [hNI] at hmk
  have HSZ : Hid (wz.heap.size = wa.heap.size + 2) := by show _ = _; rw [hwz]; simp [hz]
  have HM : Hid (∀ v, Below wz.heap.size wz v → Vec v (some ⟨wa.heap.size + 1, 0, none⟩) N N ZF) := fun v hb => by
    refine Vec.below ⟨fun _ => ⟨wa.heap.size + 1, 0, rfl, fun i hi => ?_⟩, (fun e => by cases e), Nat.le_refl _⟩ hb
    rw [Nat.zero_add]
    exact World.rowIs.cell HRW.out hi
  have HMC : Hid (∀ v, Below wz.heap.size wz v → RdI v (some ⟨wa.heap.size + 1, 0, none⟩) 65536 ZF) := fun v hb hp => by
    obtain ⟨b, off, e, hc⟩ := (HM.out v hb).rd (by omega)
    exact ⟨b, off, e, fun i hi => hc i (by omega)⟩
  have HBW : Hid (Below w.heap.size w wz) := below_then HB0.out HBZ.out
  have HPA : Hid (∀ v, Below wz.heap.size wz v → v.cell? ⟨wa.heap.size, 0, none⟩ = some (.int .i64 2) ∧ v.cell? ⟨wa.heap.size, 1, none⟩ = some (.int .i64 1) ∧ v.cell? ⟨wa.heap.size, 2, none⟩ = some (.int .i64 16) ∧ v.cell? ⟨wa.heap.size, 3, none⟩ = some (.int .i64 8)) := fun v hv => HPAR.out v (below_then HBZ.out hv)
  have n1 : (65536 : Int) ≤ (N : Int) := by omega
  have HN : Hid (65536 < N ∧ N ≤ 200000) := ⟨by omega, by omega⟩
  clear hwz hz hN hNI HRW HBZ HPAR HB0 hw0 ha
  obtain ⟨x0, x1, x2, x3⟩ := HPA.out wz (Below.refl _ _)
  go_wp2_with fail
  go_region_held3 (fun v => v.cell? ⟨wa.heap.size, 0, none⟩ = some (.int .i64 2) ∧ v.cell? ⟨wa.heap.size, 1, none⟩ = some (.int .i64 1) ∧ v.cell? ⟨wa.heap.size, 2, none⟩ = some (.int .i64 16) ∧ v.cell? ⟨wa.heap.size, 3, none⟩ = some (.int .i64 8)) (go_keep)
    ((go_at_call 9; refine (n_free _ _ 65536 N (by decide) (by decide) (HMC.out _ (below_drew _ _))).mono ?_; rintro e w1 ⟨r1, k1, rfl, b1⟩
      have y0 := held (w := wz.drew) x0 b1; have y1 := held (w := wz.drew) x1 b1; have y2 := held (w := wz.drew) x2 b1; have y3 := held (w := wz.drew) x3 b1))
  have HB1 : Hid (Below wz.heap.size wz w1) := below_then (below_drew _ _) b1
  clear b1 x0 x1 x2 x3 y0 y1 y2 y3 hmk n1
  obtain ⟨x0, x1, x2, x3⟩ := HPA.out w1 HB1.out
  go_wp2_with fail
  refine (n_free20 w1 _ N N HN.out.1 HN.out.2 (HM.out w1 HB1.out).rd).mono ?_
  rintro e w2 ⟨r2, k2, rfl, b1⟩
  have HB2 : Hid (Below wz.heap.size wz w2) := below_then HB1.out b1
  clear b1 x0 x1 x2 x3
  obtain ⟨x0, x1, x2, x3⟩ := HPA.out w2 HB2.out
  go_wp2_with fail
  refine (n_take20 w2 _ N N HN.out.1 HN.out.2 (HM.out w2 HB2.out)).mono ?_
  rintro e w3 ⟨r3, k3, s3, l3, rfl, b1⟩
  have HB3 : Hid (Below wz.heap.size wz w3) := below_then HB2.out b1
  clear b1 x0 x1 x2 x3
  obtain ⟨x0, x1, x2, x3⟩ := HPA.out w3 HB3.out
  go_wp2_with fail
  refine (n_take00 w3).mono ?_
  rintro e w4 ⟨r4, k4, s4, l4, rfl, _, _, b1⟩
  have HB4 : Hid (Below wz.heap.size wz w4) := below_then HB3.out b1
  clear b1 x0 x1 x2 x3
  obtain ⟨x0, x1, x2, x3⟩ := HPA.out w4 HB4.out
  go_wp2_with fail
  refine (n_take01 w4).mono ?_
  rintro e w5 ⟨r5, k5, s5, l5, rfl, _, _, b1⟩
  have HB5 : Hid (Below wz.heap.size wz w5) := below_then HB4.out b1
  clear b1 x0 x1 x2 x3
  obtain ⟨x0, x1, x2, x3⟩ := HPA.out w5 HB5.out
  go_wp2_with fail
  refine (n_give200 w5 _ N N HN.out.2 (HM.out w5 HB5.out)).mono ?_
  rintro e w6 ⟨r6, k6, rfl, b1⟩
  have HB6 : Hid (Below wz.heap.size wz w6) := below_then HB5.out b1
  clear b1 x0 x1 x2 x3
  obtain ⟨x0, x1, x2, x3⟩ := HPA.out w6 HB6.out
  go_wp2_with fail
  refine (n_give20 w6 _ N N HN.out.1 HN.out.2 (HM.out w6 HB6.out)).mono ?_
  rintro e w7 ⟨r7, k7, rfl, b1⟩
  have HB7 : Hid (Below wz.heap.size wz w7) := below_then HB6.out b1
  clear b1 x0 x1 x2 x3
  obtain ⟨x0, x1, x2, x3⟩ := HPA.out w7 HB7.out
  go_wp2_with fail
  refine (n_give10 w7).mono ?_
  rintro e w8 ⟨r8, k8, rfl, b1⟩
  have HB8 : Hid (Below wz.heap.size wz w8) := below_then HB7.out b1
  clear b1 x0 x1 x2 x3
  obtain ⟨x0, x1, x2, x3⟩ := HPA.out w8 HB8.out
  go_wp2_with fail
  refine (n_give38 w8).mono ?_
  rintro e w9 ⟨r9, k9, rfl, _, b1⟩
  have HB9 : Hid (Below wz.heap.size wz w9) := below_then HB8.out b1
  clear b1 x0 x1 x2 x3
  obtain ⟨x0, x1, x2, x3⟩ := HPA.out w9 HB9.out
  go_wp2_with fail
  refine (n_free2 w9 _ N N HN.out.2 (HM.out w9 HB9.out).rd).mono ?_
  rintro e w10 ⟨r10, k10, rfl, b1⟩
  have HB10 : Hid (Below wz.heap.size wz w10) := below_then HB9.out b1
  clear b1 x0 x1 x2 x3
  obtain ⟨x0, x1, x2, x3⟩ := HPA.out w10 HB10.out
  go_wp2_with fail
  refine (n_freem w10).mono ?_
  rintro e w11 ⟨r11, k11, rfl, _, b1⟩
  have HB11 : Hid (Below wz.heap.size wz w11) := below_then HB10.out b1
  clear b1 x0 x1 x2 x3
  have HBF : Hid (Below w.heap.size w w11) := below_then HBW.out HB11.out
  go_wp2_with fail
  go_ret
  exact ⟨rfl, HBF.out⟩
end Go.Proofs.Ytmncbeabhicbhaa
