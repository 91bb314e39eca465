/- The document's quoted text. -/
import Derived.Test.YtdiecjkmbmgbkaaDoorNmD
namespace Go.Proofs.YtdiecjkmbmgbkaaDoor
open Go.RowKit

theorem flat_take (l : Nm) (i : Nat) (h : i < l.length) : (l.take (i + 1)).flatMap shw = (l.take i).flatMap shw ++ shw (l[i]'h) := by
  rw [List.take_succ_eq_append_getElem h, List.flatMap_append]; simp
theorem flat_le (l : Nm) : (l.flatMap shw).length ≤ 4 * l.length := by
  have := quo_length l
  simp only [quo, List.length_cons, List.length_append, List.length_nil] at this
  omega
theorem ows_quo {B : Nat} {w : World} {v : Value} {l : Nm} (h : OwS B w v (34 :: l.flatMap shw ++ [34])) : OwS B w v (quo l) := h
set_option maxHeartbeats 1000000 in
set_option maxRecDepth 100000 in
theorem quoted_any (l : Nm) (w : World) (hn : l.length ≤ 100000) : Calls Tryd.prog 30 #[.string ⟨l.toArray⟩] w fun e w' => e = .returned (.string ⟨(quo l).toArray⟩) ∧ Below w.heap.size w w' := by
  have hs := str_size l
  go_enter Tryd.func30, Tryd.ntmps30
  go_wp2_with (fail)
  go_loopw [3, 4] (fun b x wr => ∃ i : Nat, i ≤ l.length ∧ x = .int .i64 (i : Int) ∧ Hid (OwS w.heap.size wr b (34 :: (l.take i).flatMap shw)) ∧ Hid (Below w.heap.size w wr)) (fun _ x _ => l.length - (intOf x).toNat)
  case atStart => exact ⟨0, Nat.zero_le _, rfl, ows_lit w [34] (by simp), below_alloc _ _⟩
  case round =>
    obtain ⟨i, hi, rfl, ho, hb⟩ := hrel
    by_cases hlt : i < l.length
    · have i1 : (0 : Int) ≤ (i : Int) := by omega
      have i2 : (i : Int) < ((ByteArray.mk l.toArray).size : Int) := by omega
      have hfl := flat_le (l.take i)
      have hsl := shw_len (l[i]'hlt)
      have hsz := hb.out.size
      rw [List.length_take] at hfl
      go_wp2_with (fail)
      refine (rshown_any (l[i]'hlt) wr).mono ?_
      rintro _ w1 ⟨g, cap, rfl, _, hg, hb1⟩
      have HO : Hid (OwS w.heap.size w1 u3 (34 :: (l.take i).flatMap shw)) := ho.out.below hb1
      have HB : Hid (Below w.heap.size w w1) := below_then hb.out hb1
      have hsz1 := HB.out.size
      go_wp2_with (at_builtin; refine app_bytes (by rfl) (.tmp 12) (.tmp 16) (by rfl) w.heap.size u3 (34 :: (l.take i).flatMap shw) (shw (l[i]'hlt)) g cap (by rfl) (by rfl) HO.out hg (by simp only [List.length_cons]; omega) (by omega) hsz1 ?_; intro v' w2 HO2 HB2)
      go_roundw
      case rel =>
        refine ⟨i + 1, by omega, by go_num, ?_, HB.out.trans HB2.out⟩
        rw [flat_take l i hlt]
        exact HO2
      case measure => simp [intOf]; omega
    · obtain rfl : i = l.length := by omega
      rw [List.take_length] at ho
      have hfl := flat_le l
      have hsz := hb.out.size
      have HL : Hid (∀ w : World, OwS w.heap.size (w.alloc (.cells (bts [34]) 5)) (.slice (some ⟨w.heap.size, 0, none⟩) 1 1) [34]) := fun w => ows_lit w [34] (by simp)
      have HG : Bts (wr.alloc (.cells #[.int .u8 34] 5)) wr.heap.size [34] := bts_new wr [34]
      have HO : Hid (OwS w.heap.size (wr.alloc (.cells #[.int .u8 34] 5)) u3 (34 :: l.flatMap shw)) := ho.out.below (below_alloc _ _)
      have HB : Hid (Below w.heap.size w (wr.alloc (.cells #[.int .u8 34] 5))) := below_then hb.out (below_alloc _ _)
      have hsz1 := HB.out.size
      go_wp2_with (at_builtin; refine app_bytes (by rfl) (.tmp 18) (.tmp 19) (by rfl) w.heap.size u3 (34 :: l.flatMap shw) [34] wr.heap.size 1 (by rfl) (by rfl) HO.out HG (by simp only [List.length_cons]; omega) (by simp) hsz1 ?_; intro v' w2 HO2 HB2; obtain ⟨g, cap, rfl, hbt⟩ := (ows_quo HO2.out).cases (by simp [quo]); have hcv := conv_back (quo l) w2 g cap hbt)
      go_ret
      exact ⟨rfl, HB.out.trans HB2.out⟩
def quoA (l : Nm) : Nm := if may l = true then quo l else []
set_option maxHeartbeats 1000000 in
theorem RQuote_any (l : Nm) (w : World) : Calls Tryd.prog 13 #[.string ⟨l.toArray⟩] w fun e w' => e = .returned (.tuple #[.string ⟨(quoA l).toArray⟩, .int .i64 (erN l)]) ∧ Below w.heap.size w w' := by
  have HC := May_any l
  cases hm : may l
  · rw [hm] at HC
    rw [erN_bad hm, show quoA l = [] from if_neg (by rw [hm]; decide)]
    go_enter Tryd.func13, Tryd.ntmps13
    go_wp2_with (fail)
    refine (HC _).mono ?_
    rintro e w1 ⟨rfl, rfl⟩
    go_wp2
    go_ret2
    exact ⟨rfl, Below.refl _ _⟩
  · rw [hm] at HC
    have h2 := ((may_iff l).1 hm).2
    rw [erN_good hm, show quoA l = quo l from if_pos hm]
    go_enter Tryd.func13, Tryd.ntmps13
    go_wp2_with (fail)
    refine (HC _).mono ?_
    rintro e w1 ⟨rfl, rfl⟩
    go_wp2_with (fail)
    refine (quoted_any l _ (by omega)).mono ?_
    rintro e w2 ⟨rfl, hb⟩
    go_wp2_with (fail)
    go_ret2
    exact ⟨rfl, hb⟩
end Go.Proofs.YtdiecjkmbmgbkaaDoor
