/- What a function makes of two lists, place by place. -/
import Derived.Test.YtkoblkkigmnocaaVecC
namespace Go.Proofs.Ytkoblkkigmnocaa
open Go.RowKit

set_option maxHeartbeats 400000 in
theorem join1_any (x y : Int) (w : World) : Calls Try.prog 36 #[.int .i64 x, .int .i64 y] w fun e w' => e = .returned (.int .i64 (gr x y)) ∧ w' = w := by
  have HV : Hid (gr x y = if x < y then y else x) := rfl
  by_cases h : x < y
  · have HV2 : Hid (gr x y = y) := by show _ = _; rw [HV.out, if_pos h]
    go_enter Try.func36, Try.ntmps36
    go_wp2
    go_ret
    exact ⟨ret_int HV2.out.symm, rfl⟩
  · have HV2 : Hid (gr x y = x) := by show _ = _; rw [HV.out, if_neg h]
    go_enter Try.func36, Try.ntmps36
    go_wp2
    go_ret
    exact ⟨ret_int HV2.out.symm, rfl⟩
set_option maxHeartbeats 400000 in
theorem below1_any (x y : Int) (w : World) : Calls Try.prog 38 #[.int .i64 x, .int .i64 y] w fun e w' => e = .returned (.bool (decide (y < x))) ∧ w' = w := by
  go_enter Try.func38, Try.ntmps38
  go_wp2
  go_ret
  exact ⟨rfl, rfl⟩
set_option maxHeartbeats 400000 in
theorem unlike1_any (x y : Int) (w : World) : Calls Try.prog 40 #[.int .i64 x, .int .i64 y] w fun e w' => e = .returned (.bool (decide (x ≠ y))) ∧ w' = w := by
  by_cases h : x = y
  · have HV2 : (x != y) = false := by simpa using h
    go_enter Try.func40, Try.ntmps40
    go_wp2
    go_ret
    exact ⟨ret_bool (by rw [decide_eq_false (fun k => k h)]), rfl⟩
  · have HV2 : (x != y) = true := by simpa using h
    go_enter Try.func40, Try.ntmps40
    go_wp2
    go_ret
    exact ⟨ret_bool (by rw [decide_eq_true h]), rfl⟩
/-- What a function value makes of two numbers. -/
def RuleI (fn n : Nat) (A B F : Nat → Int) : Prop := ∀ i, i < n → ∀ w, Calls Try.prog fn #[.int .i64 (A i), .int .i64 (B i)] w fun e w' => e = .returned (.int .i64 (F i)) ∧ w' = w
def RuleT (fn n : Nat) (A B : Nat → Int) (F : Nat → Bool) : Prop := ∀ i, i < n → ∀ w, Calls Try.prog fn #[.int .i64 (A i), .int .i64 (B i)] w fun e w' => e = .returned (.bool (F i)) ∧ w' = w
def intV (F : Nat → Int) (k i : Nat) : Value := if i < k then .int .i64 (F i) else .int .i64 0
theorem intV_step (F : Nat → Int) (k i : Nat) : (if i = k then .int .i64 (F k) else intV F k i) = intV F (k + 1) i := by
  unfold intV
  by_cases e : i = k
  · subst e; rw [if_pos rfl, if_pos (by omega)]
  · rw [if_neg e]
    by_cases h : i < k
    · rw [if_pos h, if_pos (by omega)]
    · rw [if_neg h, if_neg (by omega)]
set_option maxHeartbeats 1000000 in
set_option maxRecDepth 100000 in
theorem paired_int (w : World) (ao bo : Option Addr) (n ca cb fn : Nat) (A B F : Nat → Int) (hn : n ≤ 1000) (hfn : ∀ xs w, (callFunc fn xs).run Try.prog w = .ok (.enter fn xs) w) (ha : RdI w ao n A) (hb : RdI w bo n B) (hf : RuleI fn n A B F) :
    Calls Try.prog 35 #[.slice ao n ca, .slice bo n cb, .func (.func fn) #[] #[]] w fun e w' => ∃ g cap, e = .returned (.slice (some ⟨g, 0, none⟩) n cap) ∧ Own w.heap.size w' (some ⟨g, 0, none⟩) n cap F ∧ Below w.heap.size w w' := by
  have HA : Hid (RdI w ao n A) := ha
  have HB : Hid (RdI w bo n B) := hb
  have HF : Hid (RuleI fn n A B F) := hf
  have hm := run_make_row' (P := Try.prog) 26 3 (.int .i64 0) 8 Try.underlying26 info3 rfl .i64 .i64 n (by omega) (by omega)
  clear ha hb hf
  go_enter Try.func35, Try.ntmps35
  go_wp2
  go_loopw [15] (fun x wr => ∃ i : Nat, i ≤ n ∧ x = .int .i64 i ∧ Hid (wr.rowIs w.heap.size 3 n (intV F i)) ∧ Hid (Below w.heap.size w wr)) (fun x _ => n - (intOf x).toNat)
  case atStart => exact ⟨0, Nat.zero_le _, rfl, (World.rowIs_made w _ n 3).congr (fun i _ => by unfold intV; rw [if_neg (by omega)]), (Below.refl _ _).alloc (Nat.le_refl _) _⟩
  case round =>
    obtain ⟨i, hi, rfl, hrow, hbel⟩ := hrel
    by_cases hlt : i < n
    · obtain ⟨b, off, rfl, hc⟩ := (HA.out) (by omega)
      obtain ⟨b', off', rfl, hc'⟩ := (HB.out) (by omega)
      have ck := held (hc i hlt) hbel.out
      have ck' := held (hc' i hlt) hbel.out
      have HC := HF.out i hlt
      have c1 := hrow.out.cell hlt
      have z1 := hrow.out.frozen i
      clear hc hc'
      have i1 : (0 : Int) ≤ (i : Int) := by omega
      have i2 : (i : Int) < (n : Int) := by omega
      go_wp2_with fail
      refine (HC _).mono ?_
      rintro e w' ⟨rfl, rfl⟩
      have HO2 : Hid ((w'.setCell ⟨w.heap.size, i, none⟩ (.int .i64 (F i))).rowIs w.heap.size 3 n (intV F (i + 1))) := (hrow.out.set i (.int .i64 (F i))).congr (fun j _ => intV_step F i j)
      have HK2 : Hid (Below w.heap.size w (w'.setCell ⟨w.heap.size, i, none⟩ (.int .i64 (F i)))) := hbel.out.setCell (Nat.le_refl _) _
      go_wp2
      go_roundw
      case rel => exact ⟨i + 1, by omega, by go_num, HO2.out, HK2.out⟩
      case measure => simp [intOf]; omega
    · obtain rfl : i = n := by omega
      go_wp2
      go_ret
      exact ⟨_, _, rfl, own_row hrow.out (Nat.le_refl _) hn (fun j hj => by unfold intV; rw [if_pos hj]), hbel.out⟩
end Go.Proofs.Ytkoblkkigmnocaa
