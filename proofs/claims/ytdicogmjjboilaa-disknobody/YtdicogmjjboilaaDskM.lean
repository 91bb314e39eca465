/- The walk of DiskNobody. -/
import Derived.Test.YtdicogmjjboilaaDskK
namespace Go.Proofs.Ytdicogmjjboilaa
open Go.RowKit

theorem nobody_nil (w : World) : Nobody (.pointer none) w := fun w' _ => nobodys_nil w'
theorem nobody_blank {w : World} {g : Nat} (h : w.cell? ⟨g, 4, none⟩ = some (.slice none 0 0)) : Nobody (.pointer (some ⟨g, 0, none⟩)) w := fun w' hb => nobodys_blank w' g none 0 (held h hb)
set_option maxHeartbeats 4000000 in
set_option maxRecDepth 100000 in
theorem nobody_walk (d o s : Int) (w : World) : Calls Try.prog 7 #[.int .i64 d, .int .i64 o, .int .i64 s] w fun e w' => e = .returned (.bool true) ∧ Below w.heap.size w w' := by
  have HW := awake_any w
  go_enter Try.func7, Try.ntmps7
  go_wp2_with fail
  refine HW.mono ?_
  rintro e wz ⟨rfl, hz⟩
  have HZ : Hid (Below w.heap.size w wz) := hz
  clear hz HW
  go_wp2_with fail
  go_loopw [8, 9, 10, 11, 12, 13, 14, 15, 16, 17] (fun x _ _ _ _ _ _ _ _ _ wr => ∃ i : Nat, i ≤ 2 ∧ x = .int .i64 i ∧ Hid (Below w.heap.size w wr)) (fun x _ _ _ _ _ _ _ _ _ _ => 2 - (intOf x).toNat)
  case atStart => exact ⟨0, by decide, rfl, HZ.out⟩
  case round =>
    obtain ⟨i, hi, rfl, hb⟩ := hrel
    by_cases h0 : i = 0
    · subst h0
      have HN : Hid (Nobody (.pointer none) wr) := nobody_nil wr
      have BW : Hid (Below w.heap.size w wr) := hb.out
      go_wp2_with fail
      refine (Params_no HN.out).mono ?_
      rintro e wa ⟨rfl, ha⟩
      have N1 : Hid (Nobody (.pointer none) wa) := Nobody.below HN.out ha
      have B1 : Hid (Below w.heap.size w wa) := below_then BW.out ha
      clear ha
      go_wp2_with fail
      refine (Image_no (N1.out.below (below_alloc wa _))).mono ?_
      rintro e wb ⟨rfl, hb2⟩
      have N2 : Hid (Nobody (.pointer none) wb) := (N1.out.below (below_alloc wa _)).below hb2
      have B2 : Hid (Below w.heap.size w wb) := below_then (below_then B1.out (below_alloc wa _)) hb2
      clear hb2
      go_wp2_with fail
      refine (Read_no (N2.out.below (below_alloc wb _)) d o s).mono ?_
      rintro e wc ⟨rfl, hw'⟩
      have N3 : Hid (Nobody (.pointer none) wc) := by rw [hw']; exact N2.out.below (below_alloc wb _)
      have B3 : Hid (Below w.heap.size w wc) := by rw [hw']; exact below_then B2.out (below_alloc wb _)
      clear hw' N1 N2 B1 B2
      go_wp2_with (first
        | (go_at_call 17; refine (Write_no N3.out).mono ?_; rintro e w' ⟨rfl, hw'⟩; obtain rfl := hw'.symm)
        | (go_at_call 21; refine (Wipe_no N3.out d).mono ?_; rintro e w' ⟨rfl, hw'⟩; obtain rfl := hw'.symm)
        | (go_at_call 23; refine (Cut_no N3.out o).mono ?_; rintro e w' ⟨rfl, hw'⟩; obtain rfl := hw'.symm)
        | (go_at_call 25; refine (On_no N3.out).mono ?_; rintro e w' ⟨rfl, hw'⟩; obtain rfl := hw'.symm)
        | (go_at_call 27; refine (Whole_no N3.out).mono ?_; rintro e w' ⟨rfl, hw'⟩; obtain rfl := hw'.symm)
        | (go_at_call 36; refine (Off_no N3.out).mono ?_; rintro e w' ⟨rfl, hw'⟩; obtain rfl := hw'.symm)
        | (go_at_call 37; refine (Writes_no N3.out).mono ?_; rintro e w' ⟨rfl, hw'⟩; obtain rfl := hw'.symm)
        | (go_at_call 38; refine (Wiped_no N3.out).mono ?_; rintro e w' ⟨rfl, hw'⟩; obtain rfl := hw'.symm))
      go_roundw
      case rel => exact ⟨1, by decide, rfl, B3.out⟩
      case measure => simp [intOf]
    · by_cases h1 : i = 1
      · subst h1
        have BW : Hid (Below w.heap.size w (wr.alloc (.cells (dkv 0 0 0 0 (.slice none 0 0) (fun _ => false) false false 0 0).toArray 71))) := below_then hb.out (below_alloc wr _)
        have HN : Hid (Nobody (.pointer (some ⟨wr.heap.size, 0, none⟩)) (wr.alloc (.cells (dkv 0 0 0 0 (.slice none 0 0) (fun _ => false) false false 0 0).toArray 71))) := nobody_blank ((blk_new wr 71 _).cell rfl)
        go_wp2_with fail
        refine (Params_no HN.out).mono ?_
        rintro e wa ⟨rfl, ha⟩
        have N1 : Hid (Nobody (.pointer (some ⟨wr.heap.size, 0, none⟩)) wa) := Nobody.below HN.out ha
        have B1 : Hid (Below w.heap.size w wa) := below_then BW.out ha
        clear ha
        go_wp2_with fail
        refine (Image_no (N1.out.below (below_alloc wa _))).mono ?_
        rintro e wb ⟨rfl, hb2⟩
        have N2 : Hid (Nobody (.pointer (some ⟨wr.heap.size, 0, none⟩)) wb) := (N1.out.below (below_alloc wa _)).below hb2
        have B2 : Hid (Below w.heap.size w wb) := below_then (below_then B1.out (below_alloc wa _)) hb2
        clear hb2
        go_wp2_with fail
        refine (Read_no (N2.out.below (below_alloc wb _)) d o s).mono ?_
        rintro e wc ⟨rfl, hw'⟩
        have N3 : Hid (Nobody (.pointer (some ⟨wr.heap.size, 0, none⟩)) wc) := by rw [hw']; exact N2.out.below (below_alloc wb _)
        have B3 : Hid (Below w.heap.size w wc) := by rw [hw']; exact below_then B2.out (below_alloc wb _)
        clear hw' N1 N2 B1 B2
        go_wp2_with (first
          | (go_at_call 17; refine (Write_no N3.out).mono ?_; rintro e w' ⟨rfl, hw'⟩; obtain rfl := hw'.symm)
          | (go_at_call 21; refine (Wipe_no N3.out d).mono ?_; rintro e w' ⟨rfl, hw'⟩; obtain rfl := hw'.symm)
          | (go_at_call 23; refine (Cut_no N3.out o).mono ?_; rintro e w' ⟨rfl, hw'⟩; obtain rfl := hw'.symm)
          | (go_at_call 25; refine (On_no N3.out).mono ?_; rintro e w' ⟨rfl, hw'⟩; obtain rfl := hw'.symm)
          | (go_at_call 27; refine (Whole_no N3.out).mono ?_; rintro e w' ⟨rfl, hw'⟩; obtain rfl := hw'.symm)
          | (go_at_call 36; refine (Off_no N3.out).mono ?_; rintro e w' ⟨rfl, hw'⟩; obtain rfl := hw'.symm)
          | (go_at_call 37; refine (Writes_no N3.out).mono ?_; rintro e w' ⟨rfl, hw'⟩; obtain rfl := hw'.symm)
          | (go_at_call 38; refine (Wiped_no N3.out).mono ?_; rintro e w' ⟨rfl, hw'⟩; obtain rfl := hw'.symm))
        go_roundw
        case rel => exact ⟨2, by decide, rfl, B3.out⟩
        case measure => simp [intOf]
      · obtain rfl : i = 2 := by omega
        go_wp2_with fail
        go_ret
        exact ⟨rfl, hb.out⟩
end Go.Proofs.Ytdicogmjjboilaa
