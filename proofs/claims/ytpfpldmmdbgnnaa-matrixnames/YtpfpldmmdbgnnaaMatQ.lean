/- The walk of the statement that matrices are taken up to the greatest size, and not beyond. -/
import Derived.Test.YtpfpldmmdbgnnaaMatP
namespace Go.Proofs.Ytpfpldmmdbgnnaa
open Go.RowKit

set_option maxHeartbeats 1000000 in
set_option maxRecDepth 100000 in
theorem sized_any (w : World) (rows cols : Nat) (hr : rows ≤ 1000) (hc : cols ≤ 1000) :
    Calls Try.prog 14 #[.int .i64 (rows : Int), .int .i64 (cols : Int)] w fun e w' => ∃ ao cap, e = .returned (.slice ao rows cap) ∧ (∃ G, Rows0 w' w.heap.size rows cols (.slice ao rows cap) G (fun _ _ => 0)) ∧ Below w.heap.size w w' := by
  obtain ⟨j0, hj, hj0, hj1, hj2⟩ := info_parts info34
  have hm2 := run_make_row' (P := Try.prog) 34 5 (.int .u8 0) 1 Try.underlying34 info5 rfl .i64 .i64 cols (by omega) (by omega)
  go_enter Try.func14, Try.ntmps14
  go_wp2
  go_loopw [5, 6] (fun v i wr => ∃ k : Nat, k ≤ rows ∧ i = .int .i64 k ∧ (∃ ao cap, v = .slice ao k cap) ∧ Hid (∃ G, Rows0 wr w.heap.size k cols v G (fun _ _ => 0)) ∧ Hid (Below w.heap.size w wr)) (fun _ i _ => rows - (intOf i).toNat)
  case atStart => exact ⟨0, Nat.zero_le _, rfl, ⟨none, 0, rfl⟩, ⟨fun _ => 0, World.ownsRow_nil _ _ _ _, fun i hi => absurd hi (Nat.not_lt_zero i), fun i hi => absurd hi (Nat.not_lt_zero i), fun i j hi => absurd hi (Nat.not_lt_zero i)⟩, Below.refl _ _⟩
  case round =>
    obtain ⟨k, hk, rfl, ⟨ao, cap, rfl⟩, hrows, hbel⟩ := hrel
    by_cases hlt : k < rows
    · obtain ⟨G, hrr⟩ := hrows.out
      have HRR : Hid (Rows0 wr w.heap.size k cols (.slice ao k cap) G (fun _ _ => 0)) := hrr
      have hs1 := hbel.out.size
      obtain ⟨wa, hwa⟩ : ∃ wa, wa = wr.alloc (.cells (madeCells #[.int .u8 0] cols) 5) := ⟨_, rfl⟩
      have hmk := hm2 wr
      rw [← hwa] at hmk
      have HSA : Hid (wa.heap.size = wr.heap.size + 1) := by rw [hwa]; exact (by simp : (wr.alloc (.cells (madeCells #[.int .u8 0] cols) 5)).heap.size = wr.heap.size + 1)
      obtain ⟨XS, hXS⟩ : ∃ XS, XS = rowsOf k (fun i => some ⟨G i, 0, none⟩) (fun _ => cols) (fun _ => cols) := ⟨_, rfl⟩
      have HOW : Hid (∀ o, (wa.alloc o).ownsRow w.heap.size 34 1 (.slice ao k cap) k XS) := fun o => by rw [hwa, hXS]; exact (hrr.lst.alloc _).alloc o
      have HXS : Hid (XS = rowsOf k (fun i => some ⟨G i, 0, none⟩) (fun _ => cols) (fun _ => cols)) := hXS
      have HWA : Hid (wa = wr.alloc (.cells (madeCells #[.int .u8 0] cols) 5)) := hwa
      clear hrr hrows hXS hwa
      have HM2 : Hid (∀ w, (Instr.makeSlice 34 (.int .i64 (cols : Int)) (.int .i64 (cols : Int))).run Try.prog w = .ok (.slice (some ⟨w.heap.size, 0, none⟩) cols cols) (w.alloc (.cells (madeCells #[.int .u8 0] cols) 5))) := hm2
      clear hm2
      go_wp2_with (at_builtin; refine wpList_append_lies _ (by rfl) (.tmp 12) (.tmp 15) 23 (by rfl) w.heap.size 34 j0 (.slice none 0 0) 1 24 Try.underlying23 hj hj0 hj1 hj2 (by rfl) (by decide) (.slice ao k cap) k XS (by rfl) (HOW.out _) ⟨wa.heap.size, 0, none⟩ 1 1 [.slice (some ⟨wr.heap.size, 0, none⟩) cols cols] (by rfl) (by rfl) (World.news_of_block (heap_alloc_new wa _)) (by simp [Value.oneCell']) (by decide) (by unfold maxLen; omega) (by omega) (by have := HSA.out; simp; omega) (wa.heap.size + 1) (by simp) ?_; intro g5 cap5 w5 hown5 hgrow5 _ _)
      have HR5 : Hid (∃ G, Rows0 w5 w.heap.size (k + 1) cols (.slice (some ⟨g5, 0, none⟩) (k + 1) cap5) G (fun _ _ => 0)) := by
        rw [HWA.out] at hgrow5
        exact ⟨_, HRR.out.step (H := fun _ _ => 0) hs1 (by unfold maxLen; omega) (fun _ _ => rfl) (by rw [← HXS.out]; exact hown5) hgrow5⟩
      have HB5 : Hid (Below w.heap.size w w5) := by
        rw [HWA.out] at hgrow5
        exact (more (more hbel.out _) _).grown hgrow5 (by simp; omega) (fun q hq => (HRR.out.lst.lt q hq).1)
      clear hown5 hgrow5
      go_wp2_with fail
      go_roundw
      case rel => exact ⟨k + 1, by omega, by go_num, ⟨_, _, rfl⟩, HR5, HB5⟩
      case measure => simp [intOf]; omega
    · obtain rfl : k = rows := by omega
      go_wp2
      go_ret
      exact ⟨ao, cap, rfl, hrows.out, hbel.out⟩

theorem Rows0.lst_ {w : World} {B k cols cap : Nat} {ao : Option Addr} {G : Nat → Nat} {H : M} (h : Rows0 w B k cols (.slice ao k cap) G H) : ∃ A C, Lst w ao k A C (fun _ => cols) H := by
  rcases h.lst.2 with ⟨h1, h2⟩ | ⟨g, cap', cur, h1, _⟩
  · subst h2
    exact ⟨fun _ => none, fun _ => 0, fun i hi => absurd hi (Nat.not_lt_zero i), fun hp => absurd hp (Nat.lt_irrefl 0)⟩
  · cases h1
    exact ⟨_, _, (rows_mat h).lst_⟩
theorem rdI_zeros (w : World) (n : Nat) : RdI (w.alloc (.cells (madeCells #[.int .i64 0] n) 3)) (some ⟨w.heap.size, 0, none⟩) n (fun _ => 0) := fun _ => ⟨_, 0, rfl, fun i hi => by rw [Nat.zero_add]; exact (row_made w 3 n (.int .i64 0)).cell hi⟩
theorem rdI_one (w : World) (a : Int) : RdI (w.alloc (.cells #[.int .i64 a] 3)) (some ⟨w.heap.size, 0, none⟩) 1 (fun _ => a) := by
  refine fun _ => ⟨_, 0, rfl, fun i hi => ?_⟩
  obtain rfl : i = 0 := by omega
  rw [cell_of_row _ _ _ _ _ _ (heap_alloc_new w _)]; rfl
theorem inv_one (n : Nat) : IsInv n one one := fun _ _ hi _ => ⟨one_mm hi, one_mm hi⟩

set_option maxHeartbeats 8000000 in
set_option maxRecDepth 100000 in
theorem names_walk (w : World) : Calls Try.prog 3 #[] w fun e w' => e = .returned (.bool true) ∧ Below w.heap.size w w' := by
  have e1 : errB false 2 = 2 := rfl
  have e2 : errB true 2 = 0 := rfl
  have e3 : errB true 30 = 0 := rfl
  have e4 : errB false 30 = 30 := rfl
  have hm33 : ∀ w, (Instr.makeSlice 29 (.int .i64 33) (.int .i64 33)).run Try.prog w = .ok (.slice (some ⟨w.heap.size, 0, none⟩) 33 33) (w.alloc (.cells (madeCells #[.int .i64 0] 33) 3)) := run_make_row' (P := Try.prog) 29 3 (.int .i64 0) 8 Try.underlying29 info3 rfl .i64 .i64 33 (by omega) (by omega)
  have hm32 : ∀ w, (Instr.makeSlice 29 (.int .i64 32) (.int .i64 32)).run Try.prog w = .ok (.slice (some ⟨w.heap.size, 0, none⟩) 32 32) (w.alloc (.cells (madeCells #[.int .i64 0] 32) 3)) := run_make_row' (P := Try.prog) 29 3 (.int .i64 0) 8 Try.underlying29 info3 rfl .i64 .i64 32 (by omega) (by omega)
  go_enter Try.func3, Try.ntmps3
  go_wp2_with fail
  refine (alive_any w).mono ?_
  rintro e w1 ⟨rfl, b1⟩
  go_wp2_with fail
  refine (one_any w1 32).mono ?_
  intro e w2 hh
  rw [show okN 32 32 = true by decide, show (32 : Int).toNat = 32 from rfl] at hh
  obtain ⟨ooo, ooc, A2, C2, rfl, hl, bn⟩ := good_of hh
  have HO : Hid (Lst w2 ooo 32 A2 C2 (fun _ => 32) one) := hl
  replace b1 := below_step b1 bn b1.size
  clear hh hl bn
  go_wp2_with fail
  refine (one_any w2 33).mono ?_
  intro e w3 hh
  rw [show okN 33 32 = false by decide] at hh
  obtain ⟨eo, ec, rfl, _, bn⟩ := hh
  replace HO : Hid (Lst w3 ooo 32 A2 C2 (fun _ => 32) one) := HO.out.below bn
  replace b1 := below_step b1 bn b1.size
  clear bn
  go_wp2_with fail
  refine (one_any w3 0).mono ?_
  intro e w4 hh
  rw [show okN 0 32 = false by decide] at hh
  obtain ⟨eo, ec, rfl, _, bn⟩ := hh
  replace HO : Hid (Lst w4 ooo 32 A2 C2 (fun _ => 32) one) := HO.out.below bn
  replace b1 := below_step b1 bn b1.size
  clear bn
  go_wp2_with fail
  refine (cauchy_any w4 12 4).mono ?_
  intro e w5 hh
  rw [show (okN 12 12 && okN 4 4) = true by decide, show (12 : Int).toNat = 12 from rfl, show (4 : Int).toNat = 4 from rfl] at hh
  obtain ⟨cco, ccc, A5, C5, rfl, hl, bn⟩ := good_of hh
  have HC : Hid (Lst w5 cco 4 A5 C5 (fun _ => 12) (cau 12)) := hl
  replace HO : Hid (Lst w5 ooo 32 A2 C2 (fun _ => 32) one) := HO.out.below bn
  replace b1 := below_step b1 bn b1.size
  clear hh hl bn
  go_wp2_with fail
  refine (cauchy_any w5 12 5).mono ?_
  intro e w6 hh
  rw [show (okN 12 12 && okN 5 4) = false by decide] at hh
  obtain ⟨eo, ec, rfl, _, bn⟩ := hh
  replace HO : Hid (Lst w6 ooo 32 A2 C2 (fun _ => 32) one) := HO.out.below bn
  replace HC : Hid (Lst w6 cco 4 A5 C5 (fun _ => 12) (cau 12)) := HC.out.below bn
  replace b1 := below_step b1 bn b1.size
  clear bn
  go_wp2_with fail
  refine (cauchy_any w6 1 0).mono ?_
  intro e w7 hh
  rw [show (okN 1 12 && okN 0 4) = false by decide] at hh
  obtain ⟨eo, ec, rfl, _, bn⟩ := hh
  replace HO : Hid (Lst w7 ooo 32 A2 C2 (fun _ => 32) one) := HO.out.below bn
  replace HC : Hid (Lst w7 cco 4 A5 C5 (fun _ => 12) (cau 12)) := HC.out.below bn
  replace b1 := below_step b1 bn b1.size
  clear bn
  go_wp2_with fail
  refine (pick_any _ _ _ 32 _ 33 33 A2 C2 (fun _ => 32) one _ (HO.out.below (below_alloc w7 _)) (rdI_zeros w7 33)).mono ?_
  intro e w8 hh
  rw [show okPick 32 (fun _ => 32) 33 (fun _ => 0) = false by decide, show errM (okM 32 fun _ => 32) 2 = 2 by decide] at hh
  obtain ⟨eo, ec, rfl, _, bn⟩ := hh
  replace bn := below_step (below_alloc w7 _) bn (by simp)
  replace HO : Hid (Lst w8 ooo 32 A2 C2 (fun _ => 32) one) := HO.out.below bn
  replace HC : Hid (Lst w8 cco 4 A5 C5 (fun _ => 12) (cau 12)) := HC.out.below bn
  replace b1 := below_step b1 bn b1.size
  clear bn
  go_wp2_with fail
  refine (pick_any _ _ _ 32 _ 32 32 A2 C2 (fun _ => 32) one _ (HO.out.below (below_alloc w8 _)) (rdI_zeros w8 32)).mono ?_
  intro e w9 hh
  rw [show okPick 32 (fun _ => 32) 32 (fun _ => 0) = true by decide] at hh
  obtain ⟨ppo, ppc, A9, C9, rfl, _, bn⟩ := good_of hh
  replace bn := below_step (below_alloc w8 _) bn (by simp)
  replace HO : Hid (Lst w9 ooo 32 A2 C2 (fun _ => 32) one) := HO.out.below bn
  replace HC : Hid (Lst w9 cco 4 A5 C5 (fun _ => 12) (cau 12)) := HC.out.below bn
  replace b1 := below_step b1 bn b1.size
  clear hh bn
  go_wp2_with fail
  refine (pick_any w9 _ none 32 _ 0 0 A2 C2 (fun _ => 32) one (fun _ => 0) HO.out (fun h => absurd h (Nat.lt_irrefl 0))).mono ?_
  intro e w10 hh
  rw [show okPick 32 (fun _ => 32) 0 (fun _ => 0) = false by decide, show errM (okM 32 fun _ => 32) 2 = 2 by decide] at hh
  obtain ⟨eo, ec, rfl, _, bn⟩ := hh
  replace HO : Hid (Lst w10 ooo 32 A2 C2 (fun _ => 32) one) := HO.out.below bn
  replace HC : Hid (Lst w10 cco 4 A5 C5 (fun _ => 12) (cau 12)) := HC.out.below bn
  replace b1 := below_step b1 bn b1.size
  clear bn
  go_wp2_with fail
  refine (pick_any _ _ _ 32 _ 1 1 A2 C2 (fun _ => 32) one _ (HO.out.below (below_alloc w10 _)) (rdI_one w10 (-1))).mono ?_
  intro e w11 hh
  rw [show okPick 32 (fun _ => 32) 1 (fun _ => -1) = false by decide, show errM (okM 32 fun _ => 32) 2 = 2 by decide] at hh
  obtain ⟨eo, ec, rfl, _, bn⟩ := hh
  replace bn := below_step (below_alloc w10 _) bn (by simp)
  replace HO : Hid (Lst w11 ooo 32 A2 C2 (fun _ => 32) one) := HO.out.below bn
  replace HC : Hid (Lst w11 cco 4 A5 C5 (fun _ => 12) (cau 12)) := HC.out.below bn
  replace b1 := below_step b1 bn b1.size
  clear bn
  go_wp2_with fail
  refine (sized_any w11 32 32 (by decide) (by decide)).mono ?_
  rintro e w12 ⟨so, sc, rfl, ⟨G, hrows⟩, bn⟩
  obtain ⟨A, C, hls⟩ := hrows.lst_
  have CK := check_any w12 so 32 sc A C (fun _ => 32) _ hls
  rw [show errB (okM 32 fun _ => 32) 30 = 0 by decide] at CK
  replace HO : Hid (Lst w12 ooo 32 A2 C2 (fun _ => 32) one) := HO.out.below bn
  replace HC : Hid (Lst w12 cco 4 A5 C5 (fun _ => 12) (cau 12)) := HC.out.below bn
  replace b1 := below_step b1 bn b1.size
  clear bn hrows hls
  go_wp2_with fail
  refine CK.mono ?_
  rintro e w' ⟨rfl, hw'⟩
  obtain rfl := hw'.symm
  clear CK
  go_wp2_with fail
  refine (sized_any w12 33 1 (by decide) (by decide)).mono ?_
  rintro e w13 ⟨so, sc, rfl, ⟨G, hrows⟩, bn⟩
  obtain ⟨A, C, hls⟩ := hrows.lst_
  have CK := check_any w13 so 33 sc A C (fun _ => 1) _ hls
  rw [show errB (okM 33 fun _ => 1) 30 = 30 by decide] at CK
  replace HO : Hid (Lst w13 ooo 32 A2 C2 (fun _ => 32) one) := HO.out.below bn
  replace HC : Hid (Lst w13 cco 4 A5 C5 (fun _ => 12) (cau 12)) := HC.out.below bn
  replace b1 := below_step b1 bn b1.size
  clear bn hrows hls
  go_wp2_with fail
  refine CK.mono ?_
  rintro e w' ⟨rfl, hw'⟩
  obtain rfl := hw'.symm
  clear CK
  go_wp2_with fail
  refine (sized_any w13 1 33 (by decide) (by decide)).mono ?_
  rintro e w14 ⟨so, sc, rfl, ⟨G, hrows⟩, bn⟩
  obtain ⟨A, C, hls⟩ := hrows.lst_
  have CK := check_any w14 so 1 sc A C (fun _ => 33) _ hls
  rw [show errB (okM 1 fun _ => 33) 30 = 30 by decide] at CK
  replace HO : Hid (Lst w14 ooo 32 A2 C2 (fun _ => 32) one) := HO.out.below bn
  replace HC : Hid (Lst w14 cco 4 A5 C5 (fun _ => 12) (cau 12)) := HC.out.below bn
  replace b1 := below_step b1 bn b1.size
  clear bn hrows hls
  go_wp2_with fail
  refine CK.mono ?_
  rintro e w' ⟨rfl, hw'⟩
  obtain rfl := hw'.symm
  clear CK
  go_wp2_with fail
  refine (sized_any w14 1 0 (by decide) (by decide)).mono ?_
  rintro e w15 ⟨so, sc, rfl, ⟨G, hrows⟩, bn⟩
  obtain ⟨A, C, hls⟩ := hrows.lst_
  have CK := check_any w15 so 1 sc A C (fun _ => 0) _ hls
  rw [show errB (okM 1 fun _ => 0) 30 = 30 by decide] at CK
  replace HO : Hid (Lst w15 ooo 32 A2 C2 (fun _ => 32) one) := HO.out.below bn
  replace HC : Hid (Lst w15 cco 4 A5 C5 (fun _ => 12) (cau 12)) := HC.out.below bn
  replace b1 := below_step b1 bn b1.size
  clear bn hrows hls
  go_wp2_with fail
  refine CK.mono ?_
  rintro e w' ⟨rfl, hw'⟩
  obtain rfl := hw'.symm
  clear CK
  go_wp2_with fail
  refine (inverse_any w15 ooo 32 _ A2 C2 (fun _ => 32) one HO.out).mono ?_
  intro e w20 hh
  rw [okInv_of (by decide) (by decide) (inv_one 32)] at hh
  obtain ⟨vvo, vvc, A20, C20, rfl, hl, bn⟩ := good_of hh
  have HV : Hid (Lst w20 vvo 32 A20 C20 (fun _ => 32) (invOf 32 one)) := hl
  replace HO : Hid (Lst w20 ooo 32 A2 C2 (fun _ => 32) one) := HO.out.below bn
  replace HC : Hid (Lst w20 cco 4 A5 C5 (fun _ => 12) (cau 12)) := HC.out.below bn
  replace b1 := below_step b1 bn b1.size
  clear hh hl bn
  have d3 : w20.cell? ⟨((cco.getD ⟨0, 0, none⟩)).block, ((cco.getD ⟨0, 0, none⟩)).off + 3, none⟩ = some (.slice (A5 3) 12 (C5 3)) := by
    obtain ⟨b, off, e, hc⟩ := HC.out.at_ (by decide)
    rw [e]; exact hc 3 (by decide)
  obtain ⟨cb, cf, rfl, _⟩ := HC.out.at_ (by decide)
  replace d3 : w20.cell? ⟨cb, cf + 3, none⟩ = some (.slice (A5 3) 12 (C5 3)) := d3
  go_wp2_with fail
  refine (same_any w20 vvo ooo 32 _ _ A20 A2 C20 C2 (fun _ => 32) (fun _ => 32) _ _ HV.out HO.out (fun _ _ => rfl) (fun i j hi hj => invOf_eq (inv_one 32) i j hi hj) (by decide)).mono ?_
  rintro e w21 ⟨rfl, hq⟩
  have bq := drewN_below hq
  have d4 := held d3 bq
  replace b1 := below_step b1 bq b1.size
  clear hq bq d3
  go_wp2_with fail
  go_ret
  exact ⟨rfl, b1⟩
end Go.Proofs.Ytpfpldmmdbgnnaa
