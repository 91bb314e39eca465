/- NameNames' walk. -/
import Derived.Test.YtdiecjkmbmgbkaaDoorNmN
import Derived.Test.YtdiecjkmbmgbkaaDoorNmP
namespace Go.Proofs.YtdiecjkmbmgbkaaDoor
open Go.RowKit

theorem one_facts (c : UInt8) : may [c] = true ∧ quoA [c] = quo [c] ∧ erN [c] = 0 ∧ bkt [c] = (c.toNat : Int) % 4 := by
  have h : may [c] = true := rfl
  refine ⟨h, if_pos h, if_pos h, ?_⟩
  rw [bkt, if_pos h]
  simp [sumB]
def ff : Nm := List.replicate 24 255
def aa : Nm := List.replicate 25 97
set_option maxRecDepth 100000 in
theorem ff_facts : may ff = true ∧ erN ff = 0 ∧ bkt ff = 0 ∧ erN aa = 6 ∧ quoA aa = [] ∧ may aa = false ∧ quo aa = 34 :: aa ++ [34] := by decide +kernel
set_option maxHeartbeats 4000000 in
set_option maxRecDepth 100000 in
theorem names_law (w : World) (hsy : Syn w) : Calls Tryd.prog 3 #[] w fun e w' => e = .returned (.bool true) ∧ Below w.heap.size w w' := by
  have HA := alive_any w hsy
  have HSY : Hid (Syn w) := hsy
  clear hsy
  go_enter Tryd.func3, Tryd.ntmps3
  go_wp2_with (fail)
  refine HA.mono ?_
  rintro _ w1 ⟨rfl, b1⟩
  clear HA
  have HB1 : Hid (Below w.heap.size w w1) := b1
  clear b1
  go_wp2_with (fail)
  go_loopw [2] (fun x wr => ∃ i : Nat, i ≤ 256 ∧ x = .int .i64 (i : Int) ∧ Hid (Below w.heap.size w wr)) (fun x _ => 256 - (intOf x).toNat)
  case atStart => exact ⟨0, Nat.zero_le _, rfl, HB1⟩
  case round =>
    obtain ⟨i, hi, rfl, hb⟩ := hrel
    have i0 : (0 : Int) ≤ (i : Int) := by omega
    by_cases hlt : i < 256
    · have i1 : (i : Int) < 256 := by omega
      obtain ⟨c, hc⟩ : ∃ c : UInt8, (c.toNat : Int) = (i : Int) := ⟨UInt8.ofNat i, by simp; omega⟩
      have hcv : ∀ w : World, (convert 23 9 (.slice (some ⟨w.heap.size, 0, none⟩) 1 1)).run Tryd.prog (w.alloc (.cells #[.int .u8 (i : Int)] 5)) = .ok (.string ⟨#[c]⟩) (w.alloc (.cells #[.int .u8 (i : Int)] 5)) := fun w => by rw [← hc]; exact conv_new [c] w 1
      obtain ⟨f1, f2, f3, f4⟩ := one_facts c
      obtain ⟨g1, g2, g3⟩ := pl_quo f1
      have HQ := Quote_any [c]
      have HP := Plain_any (quo [c]) (by have := quo_length [c]; simp at this; omega)
      have HK := Bucket_any [c]
      have HRQ := RQuote_any [c]
      unfold AnsL at HP
      rw [g1, g2, g3] at HP
      rw [f2, f3] at HQ HRQ
      rw [f3, f4, hc] at HK
      obtain ⟨Q, hQ⟩ : ∃ Q, Q = quo [c] := ⟨_, rfl⟩
      rw [← hQ] at HQ HP HRQ
      clear f1 f2 f3 f4 g1 g2 g3 hQ hc
      have BA : Below w.heap.size w (wr.alloc (.cells #[.int .u8 (i : Int)] 5)) := below_then hb.out (below_alloc _ _)
      go_wp2_with (fail)
      refine (HQ _).mono ?_
      rintro _ w2 ⟨rfl, b2⟩
      have B2 := below_then BA b2
      go_wp2_with (fail)
      refine (HP _ (HSY.out.below B2)).mono ?_
      rintro _ w3 ⟨rfl, b3⟩
      have B3 := below_then B2 b3
      go_wp2_with (fail)
      refine (HK _).mono ?_
      rintro _ w4 ⟨rfl, rfl⟩
      go_wp2_with (fail)
      refine (HRQ _).mono ?_
      rintro _ w5 ⟨rfl, b5⟩
      have HB5 : Hid (Below w.heap.size w w5) := below_then B3 b5
      clear HQ HP HK HRQ BA b2 B2 b3 B3 b5
      go_wp2_with (fail)
      go_roundw
      case rel => exact ⟨i + 1, by omega, by go_num, HB5⟩
      case measure => simp [intOf]; omega
    · have i2 : (256 : Int) ≤ (i : Int) := by omega
      obtain ⟨e1, e2, e3, e4, e5, e6, e7⟩ := ff_facts
      obtain ⟨g1, g2, g3⟩ := pl_quo e1
      have hqf : quoA ff = quo ff := if_pos e1
      have HF : ∀ u, Calls Tryd.prog 14 #[.int .i64 24, .int .u8 255] u fun e w' => e = .returned (.string ⟨ff.toArray⟩) ∧ Below u.heap.size u w' := fun u => row_any 24 (by omega) (by omega) 255 u
      have HG : ∀ u, Calls Tryd.prog 14 #[.int .i64 25, .int .u8 97] u fun e w' => e = .returned (.string ⟨aa.toArray⟩) ∧ Below u.heap.size u w' := fun u => row_any 25 (by omega) (by omega) 97 u
      have HQF := Quote_any ff
      have HQA := Quote_any aa
      have HPF := Plain_any (quo ff) (by have := quo_length ff; simp [ff] at this ⊢; omega)
      have HPA := Plain_any (quo aa) (by have := quo_length aa; simp [aa] at this ⊢; omega)
      have HBF := Bucket_any ff
      obtain ⟨k1, k2, k3⟩ := pl_bad (unq_quo aa) e6
      unfold AnsL at HPF HPA
      rw [g1, g2, g3] at HPF
      rw [k1, k2, k3] at HPA
      rw [hqf, e2] at HQF
      rw [e4, e5] at HQA
      rw [e2, e3] at HBF
      have hcat : (ByteArray.mk #[34] ++ (ByteArray.mk aa.toArray) ++ ByteArray.mk #[34]) = ⟨(quo aa).toArray⟩ := by
        rw [e7]
        apply ByteArray.ext
        simp
      obtain ⟨F, hF⟩ : ∃ F, F = ff := ⟨_, rfl⟩
      obtain ⟨QF, hQF⟩ : ∃ QF, QF = quo ff := ⟨_, rfl⟩
      obtain ⟨QA, hQA⟩ : ∃ QA, QA = quo aa := ⟨_, rfl⟩
      rw [← hQA] at HPA hcat
      rw [← hQF] at HQF HPF
      rw [← hF] at HF HQF HPF HBF
      clear e1 e2 e3 e4 e5 e6 e7 g1 g2 g3 k1 k2 k3 hqf hF hQF hQA
      go_wp2_with (fail)
      refine (HF _).mono ?_
      rintro _ w2 ⟨rfl, b2⟩
      have B2 := below_then hb.out b2
      go_wp2_with (fail)
      refine (HQF _).mono ?_
      rintro _ w3 ⟨rfl, b3⟩
      have B3 := below_then B2 b3
      go_wp2_with (fail)
      refine (HG _).mono ?_
      rintro _ w4 ⟨rfl, b4⟩
      have B4 := below_then B3 b4
      go_wp2_with (fail)
      refine (HQA _).mono ?_
      rintro _ w5 ⟨rfl, b5⟩
      have B5 := below_then B4 b5
      go_wp2_with (fail)
      refine (HG _).mono ?_
      rintro _ w6 ⟨rfl, b6⟩
      have B6 := below_then B5 b6
      have HB6 : Hid (Below w.heap.size w w6) := B6
      clear b2 b3 b4 b5 b6 B2 B3 B4 B5 B6 HQF HQA HG
      go_wp2_with (fail)
      refine (HPA _ (HSY.out.below HB6.out)).mono ?_
      rintro _ w7 ⟨rfl, b7⟩
      have HB7 : Hid (Below w.heap.size w w7) := below_then HB6.out b7
      clear HPA hcat b7
      go_wp2_with (fail)
      refine (HPF _ (HSY.out.below HB7.out)).mono ?_
      rintro _ w8 ⟨rfl, b8⟩
      have HB8 : Hid (Below w.heap.size w w8) := below_then HB7.out b8
      clear HPF b8
      go_wp2_with (fail)
      refine (HF _).mono ?_
      rintro _ w9 ⟨rfl, b9⟩
      have HB9 : Hid (Below w.heap.size w w9) := below_then HB8.out b9
      clear b9
      have hmk := run_make_row' (P := Tryd.prog) 32 9 (.string ⟨#[]⟩) 16 Tryd.underlying32 strInfo rfl .i64 .i64 65537 (by omega) (by omega) w9
      obtain ⟨wz, hwz⟩ : ∃ wz, wz = w9.alloc (.cells (madeCells #[.string ⟨#[]⟩] 65537) 9) := ⟨_, rfl⟩
      have HBZ : Hid (Below w.heap.size w wz) := by rw [hwz]; exact below_then HB9.out (below_alloc _ _)
      have hrow : wz.rowIs w9.heap.size 9 65537 (fun _ => .string ⟨#[]⟩) := by rw [hwz]; exact World.rowIs_made w9 (.string ⟨#[]⟩) 65537 9
      obtain ⟨L, hLl, hLg⟩ : ∃ L : List Nm, L.length = 65537 ∧ ∀ j (hj : j < L.length), L[j]'hj = [] := ⟨List.replicate 65537 [], List.length_replicate .., fun j hj => List.getElem_replicate ..⟩
      obtain ⟨L2, hLl2, hLg2⟩ : ∃ L2 : List Nm, L2.length = 65536 ∧ ∀ j (hj : j < L2.length), L2[j]'hj = [] := ⟨List.replicate 65536 [], List.length_replicate .., fun j hj => List.getElem_replicate ..⟩
      have HR1 : Hid (RdS wz (some ⟨w9.heap.size, 0, none⟩) L) := fun _ => ⟨w9.heap.size, 0, rfl, fun j hj => by rw [hLg j hj, Nat.zero_add]; exact hrow.cell (by omega)⟩
      have HR2 : Hid (RdS wz (some ⟨w9.heap.size, 1, none⟩) L2) := fun _ => ⟨w9.heap.size, 1, rfl, fun j hj => by rw [hLg2 j hj]; exact hrow.cell (by omega)⟩
      have HE1 : erS L = 20 ∧ rowS L = [] := erS_big (by omega)
      have HE2 : erS L2 = 6 ∧ rowS L2 = [] := erS_bad (by omega) (show 0 < L2.length by omega) (by rw [hLg2]; rfl)
      have HS1 := fun u (h : RdS u (some ⟨w9.heap.size, 0, none⟩) L) => Sort_any L (by omega) (some ⟨w9.heap.size, 0, none⟩) 65537 u h
      have HS2 := fun u (h : RdS u (some ⟨w9.heap.size, 1, none⟩) L2) => Sort_any L2 (by omega) (some ⟨w9.heap.size, 1, none⟩) 65536 u h
      unfold AnsS at HS1 HS2
      rw [HE1.1, HE1.2, hLl] at HS1
      rw [HE2.1, HE2.2, hLl2] at HS2
      rw [← hwz, show ((65537 : Nat) : Int) = 65537 from rfl] at hmk
      clear hwz hrow hLl hLg hLl2 hLg2 HE1 HE2
      go_wp2_with (fail)
      refine (HBF _).mono ?_
      rintro _ wb ⟨rfl, rfl⟩
      go_wp2_with (fail)
      refine (HS1 _ HR1.out).mono ?_
      rintro _ wc ⟨a1, c1, rfl, _, _, bc⟩
      have HBC : Hid (Below w.heap.size w wc) := below_then HBZ.out bc
      have HR3 : Hid (RdS wc (some ⟨wb.heap.size, 1, none⟩) L2) := HR2.out.below bc
      clear HS1 bc
      go_wp2_with (fail)
      refine (HS2 _ HR3.out).mono ?_
      rintro _ wd ⟨a2, c2, rfl, _, _, bd⟩
      have HBD : Hid (Below w.heap.size w wd) := below_then HBC.out bd
      clear HS2 bd
      go_wp2_with (fail)
      refine (HF _).mono ?_
      rintro _ we ⟨rfl, be⟩
      have HBE : Hid (Below w.heap.size w we) := below_then HBD.out be
      clear be HF
      go_wp2_with (fail)
      go_ret
      exact ⟨rfl, HBE.out⟩
end Go.Proofs.YtdiecjkmbmgbkaaDoor
