/- A text of one byte, so many times; whether the program answers what the document fixes. -/
import Derived.Test.YtdiecjkmbmgbkaaDoorNmM
import Derived.Test.YtdiecjkmbmgbkaaDoorNmI
namespace Go.Proofs.YtdiecjkmbmgbkaaDoor
open Go.RowKit

def rwf (c : UInt8) (i j : Nat) : Value := .int .u8 (if j < i then (c.toNat : Int) else 0)
set_option maxHeartbeats 1000000 in
set_option maxRecDepth 100000 in
theorem row_any (n : Nat) (hn : n ≤ 1000) (h1 : 1 ≤ n) (c : UInt8) (w : World) : Calls Tryd.prog 14 #[.int .i64 (n : Int), .int .u8 (c.toNat : Int)] w fun e w' => e = .returned (.string ⟨(List.replicate n c).toArray⟩) ∧ Below w.heap.size w w' := by
  have hmk := run_make_row' (P := Tryd.prog) 23 5 (.int .u8 0) 1 Tryd.underlying23 byteInfo5 rfl .i64 .i64 n (by omega) (by omega) w
  obtain ⟨wz, hwz⟩ : ∃ wz, wz = w.alloc (.cells (madeCells #[.int .u8 0] n) 5) := ⟨_, rfl⟩
  have HBZ : Hid (Below w.heap.size w wz) := by rw [hwz]; exact below_alloc _ _
  have HR0 : Hid (wz.rowIs w.heap.size 5 n (rwf c 0)) := by
    rw [hwz]
    exact (World.rowIs_made w (.int .u8 0) n 5).congr fun i _ => by unfold rwf; rw [if_neg (Nat.not_lt_zero i)]
  rw [← hwz] at hmk
  clear hwz
  go_enter Tryd.func14, Tryd.ntmps14
  go_wp2_with (fail)
  go_loopw [6] (fun y wr => ∃ i : Nat, i ≤ n ∧ y = .int .i64 (i : Int) ∧ Hid (wr.rowIs w.heap.size 5 n (rwf c i)) ∧ Hid (Below w.heap.size w wr)) (fun y _ => n - (intOf y).toNat)
  case atStart => exact ⟨0, Nat.zero_le _, rfl, HR0.out, HBZ.out⟩
  case round =>
    obtain ⟨i, hi, rfl, hr, hb⟩ := hrel
    by_cases hlt : i < n
    · have cc := hr.out.cell hlt
      have cf := hr.out.frozen i
      have i1 : (0 : Int) ≤ (i : Int) := by omega
      have i2 : (i : Int) < (n : Int) := by omega
      go_wp2_with (fail)
      go_roundw
      case rel =>
        refine ⟨i + 1, by omega, by go_num, ?_, hb.out.setCell (Nat.le_refl _) _⟩
        refine (hr.out.set i (.int .u8 (c.toNat : Int))).congr fun j _ => ?_
        unfold rwf
        by_cases e : j = i
        · subst e; rw [if_pos rfl, if_pos (by omega)]
        · rw [if_neg e]
          by_cases h : j < i
          · rw [if_pos h, if_pos (by omega)]
          · rw [if_neg h, if_neg (by omega)]
      case measure => simp [intOf]; omega
    · obtain rfl : i = n := by omega
      have hcv := conv_back (List.replicate i c) wr w.heap.size i (fun j hj => by
        have hj' : j < i := by simpa using hj
        rw [hr.out.cell hj']
        simp [rwf, hj'])
      rw [List.length_replicate] at hcv
      go_wp2_with (fail)
      go_ret
      exact ⟨rfl, hb.out⟩
/-- A row of names just made. -/
theorem rdS_lit (w : World) (R : List Nm) : RdS (w.alloc (.cells (ens R).toArray 9)) (some ⟨w.heap.size, 0, none⟩) R := fun _ => ⟨w.heap.size, 0, rfl, fun j hj => by
  rw [Nat.zero_add, Lib.cell_of_heap (heap_alloc_new w _)]
  rw [List.getElem?_toArray, ens_get R j hj]
  rfl⟩
set_option maxRecDepth 100000 in
theorem al_facts : bkt [97, 98] = 3 ∧ erN [97, 98] = 0 ∧ quoA [97, 34, 98] = [34, 97, 92, 34, 98, 34] ∧ erN [97, 34, 98] = 0 ∧ quoA [32, 255] = [34, 92, 120, 50, 48, 92, 120, 102, 102, 34] ∧ erN [32, 255] = 0 ∧
    plS [34, 97, 92, 120, 50, 48, 34] = [97, 32] ∧ plP [34, 97, 92, 120, 50, 48, 34] = 0 ∧ plE [34, 97, 92, 120, 50, 48, 34] = 0 ∧ plP [34, 92, 120, 54, 49, 34] = 1 ∧ plE [34, 92, 120, 54, 49, 34] = 6 ∧ plP [34, 97] = 2 ∧ plE [34, 97] = 6 := by decide +kernel
theorem al_sort : rowS [[98], [97], [97, 98], [97]] = [[97], [97, 98], [98]] ∧ erS [[98], [97], [97, 98], [97]] = 0 := by decide +kernel
set_option maxHeartbeats 4000000 in
set_option maxRecDepth 100000 in
theorem alive_any (w : World) (hsy : Syn w) : Calls Tryd.prog 9 #[] w fun e w' => e = .returned (.bool true) ∧ Below w.heap.size w w' := by
  obtain ⟨f1, f2, f3, f4, f5, f6, f7, f8, f9, f10, f11, f12, f13⟩ := al_facts
  obtain ⟨g1, g2⟩ := al_sort
  have H1 := Bucket_any [97, 98]
  have H2 := Quote_any [97, 34, 98]
  have H3 := Quote_any [32, 255]
  have H4 := Plain_any [34, 97, 92, 120, 50, 48, 34] (by simp)
  have H5 := Plain_any [34, 92, 120, 54, 49, 34] (by simp)
  have H6 := Plain_any [34, 97] (by simp)
  have HL := al_facts
  unfold AnsL at H4 H5 H6
  rw [f1, f2] at H1
  rw [f3, f4] at H2
  rw [f5, f6] at H3
  rw [f7, f8, f9] at H4
  rw [f10, f11] at H5
  rw [f12, f13] at H6
  clear f1 f2 f3 f4 f5 f6 f7 f8 f9 f10 f11 f12 f13 HL
  go_enter Tryd.func9, Tryd.ntmps9
  go_wp2_with (fail)
  refine (H1 _).mono ?_
  rintro _ w1 ⟨rfl, rfl⟩
  go_wp2_with (fail)
  refine (H2 _).mono ?_
  rintro _ w2 ⟨rfl, b2⟩
  go_wp2_with (fail)
  refine (H3 _).mono ?_
  rintro _ w3 ⟨rfl, b3⟩
  have B3 := below_then b2 b3
  go_wp2_with (fail)
  refine (H4 _ (hsy.below B3)).mono ?_
  rintro _ w4 ⟨rfl, b4⟩
  have B4 := below_then B3 b4
  go_wp2_with (fail)
  refine (H5 _ (hsy.below B4)).mono ?_
  rintro _ w5 ⟨rfl, b5⟩
  have B5 := below_then B4 b5
  go_wp2_with (fail)
  refine (H6 _ (hsy.below B5)).mono ?_
  rintro _ w6 ⟨rfl, b6⟩
  have B6 := below_then B5 b6
  clear H1 H2 H3 H4 H5 H6 b2 b3 b4 b5 b6 B3 B4 B5
  go_wp2_with (fail)
  have B7 : Below w1.heap.size w1 (w6.alloc (.cells #[.string ⟨#[98]⟩, .string ⟨#[97]⟩, .string ⟨#[97, 98]⟩, .string ⟨#[97]⟩] 9)) := below_then B6 (below_alloc _ _)
  have HS := Sort_any [[98], [97], [97, 98], [97]] (by simp) (some ⟨w6.heap.size, 0, none⟩) 4 (w6.alloc (.cells #[.string ⟨#[98]⟩, .string ⟨#[97]⟩, .string ⟨#[97, 98]⟩, .string ⟨#[97]⟩] 9)) (rdS_lit w6 [[98], [97], [97, 98], [97]])
  unfold AnsS at HS
  rw [g1, g2] at HS
  clear g1 g2 B6
  refine HS.mono ?_
  rintro _ w7 ⟨ao, cp, rfl, _, ho, b7⟩
  have HB : Hid (Below w1.heap.size w1 (w7.alloc (.cells #[.string ⟨#[97]⟩, .string ⟨#[97, 98]⟩, .string ⟨#[98]⟩] 9))) := below_then (below_then B7 b7) (below_alloc _ _)
  have HSM := Same_any [[97], [97, 98], [98]] [[97], [97, 98], [98]] (w7.alloc (.cells #[.string ⟨#[97]⟩, .string ⟨#[97, 98]⟩, .string ⟨#[98]⟩] 9)) ao (some ⟨w7.heap.size, 0, none⟩) cp 3 (ho.rd.below (below_alloc _ _)) (rdS_lit w7 [[97], [97, 98], [98]]) (by simp)
  rw [decide_eq_true rfl] at HSM
  clear B7 b7 ho HS
  go_wp2_with (fail)
  refine HSM.mono ?_
  rintro _ w8 ⟨rfl, q, rfl⟩
  go_wp2_with (fail)
  refine (Check_any [] _).mono ?_
  rintro _ w9 ⟨rfl, rfl⟩
  rw [show erN [] = 6 from rfl]
  go_wp2_with (fail)
  refine (Less_any [97] [97, 98] _).mono ?_
  rintro _ w9 ⟨rfl, rfl⟩
  rw [show decide (([97] : Nm) < [97, 98]) = true by decide]
  go_wp2_with (fail)
  refine (Less_any [97] [97] _).mono ?_
  rintro _ w9 ⟨rfl, rfl⟩
  rw [show decide (([97] : Nm) < [97]) = false by decide]
  go_wp2_with (fail)
  go_ret
  exact ⟨rfl, HB.out.trans (below_drewN _ _ _)⟩
end Go.Proofs.YtdiecjkmbmgbkaaDoor
