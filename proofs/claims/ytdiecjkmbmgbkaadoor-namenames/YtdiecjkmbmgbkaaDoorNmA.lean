/- Names: whether one may be, its bucket, whether it stands ahead of another. -/
import Derived.Test.YtdiecjkmbmgbkaaDoorProg
import Derived.Test.YtdiecjkmbmgbkaaDoorNmMath
import Derived.WalkKit
import Derived.WalkSpells
import Derived.WalkLawsBesides
import Derived.Below
import Derived.BigQuiet
import Derived.Deep.QuietTactic
namespace Go.Proofs.YtdiecjkmbmgbkaaDoor
open Go.RowKit

theorem below_step {B : Nat} {a b c : World} (h : Below B a b) (k : Below b.heap.size b c) (hB : B ≤ b.heap.size) : Below B a c := h.trans (k.mono hB)
theorem below_then {a b c : World} (h : Below a.heap.size a b) (k : Below b.heap.size b c) : Below a.heap.size a c := below_step h k h.size
theorem below_alloc (w : World) (o : Obj) : Below w.heap.size w (w.alloc o) := (Below.refl _ w).alloc (Nat.le_refl _) o
theorem below_drew (B : Nat) (w : World) : Below B w w.drew := ⟨rfl, rfl, rfl, Nat.le_refl _, fun _ _ => rfl⟩
theorem below_drewN (B : Nat) (w : World) (n : Nat) : Below B w (w.drewN n) := ⟨rfl, rfl, rfl, Nat.le_refl _, fun _ _ => rfl⟩
theorem held {w w' : World} {a : Addr} {v : Value} (h : w.cell? a = some v) (hb : Below w.heap.size w w') : w'.cell? a = some v := (hb.cell (World.block_lt_of_cell? w _ h)).trans h
theorem ret_int {k : IntKind} {a b : Int} (h : a = b) : Ending.returned (.int k a) = .returned (.int k b) := by rw [h]
theorem ret_bool {a b : Bool} (h : a = b) : Ending.returned (.bool a) = .returned (.bool b) := by rw [h]
theorem str_size (l : Nm) : (ByteArray.mk l.toArray).size = l.length := by simp [ByteArray.size]

def erN (l : Nm) : Int := if may l = true then 0 else 6
theorem may_iff (l : Nm) : may l = true ↔ 1 ≤ l.length ∧ l.length ≤ 24 := by simp [may]
theorem erN_good {l : Nm} (h : may l = true) : erN l = 0 := if_pos h
theorem erN_bad {l : Nm} (h : may l = false) : erN l = 6 := if_neg (by rw [h]; decide)
set_option maxHeartbeats 400000 in
theorem May_any (l : Nm) (w : World) : Calls Tryd.prog 29 #[.string ⟨l.toArray⟩] w fun e w' => e = .returned (.bool (may l)) ∧ w' = w := by
  have hs := str_size l
  go_enter Tryd.func29, Tryd.ntmps29
  go_wp2
  · go_ret
    exact ⟨ret_bool (by unfold may; exact decide_eq_decide.2 (by omega)), rfl⟩
  · go_ret
    exact ⟨ret_bool (by unfold may; exact (decide_eq_false (by omega)).symm), rfl⟩
set_option maxHeartbeats 400000 in
theorem Less_any (a b : Nm) (w : World) : Calls Tryd.prog 20 #[.string ⟨a.toArray⟩, .string ⟨b.toArray⟩] w fun e w' => e = .returned (.bool (decide (a < b))) ∧ w' = w := by
  go_enter Tryd.func20, Tryd.ntmps20
  go_wp2
  go_ret
  exact ⟨ret_bool (bytesLess_eq a b), rfl⟩
set_option maxHeartbeats 400000 in
theorem Check_any (l : Nm) (w : World) : Calls Tryd.prog 18 #[.string ⟨l.toArray⟩] w fun e w' => e = .returned (.int .i64 (erN l)) ∧ w' = w := by
  have hs := str_size l
  go_enter Tryd.func18, Tryd.ntmps18
  go_wp2
  · go_ret
    rename_i h
    subst h
    exact ⟨rfl, rfl⟩
  · go_ret
    rename_i h0 h
    have h1 : l.isEmpty = false := by simpa using h0
    have : may l = false := by
      rw [Bool.eq_false_iff, Ne, may_iff]
      rcases h with h | h
      · rw [h1] at h; cases h
      · omega
    exact ⟨ret_int (erN_bad this).symm, rfl⟩
  · go_ret
    rename_i h0 h
    have h1 : 1 ≤ l.length := List.length_pos_iff.2 h0
    exact ⟨ret_int (erN_good ((may_iff l).2 ⟨h1, by omega⟩)).symm, rfl⟩
set_option maxHeartbeats 400000 in
theorem RCheck_any (l : Nm) (w : World) : Calls Tryd.prog 19 #[.string ⟨l.toArray⟩] w fun e w' => e = .returned (.int .i64 (erN l)) ∧ w' = w := by
  cases hm : may l
  all_goals (
    have HC := May_any l
    rw [hm] at HC
    simp only [erN, hm]
    go_enter Tryd.func19, Tryd.ntmps19
    go_wp2_with (go_at_call 29; refine (HC _).mono ?_)
    rintro e w1 ⟨rfl, rfl⟩
    go_wp2
    go_ret
    exact ⟨rfl, rfl⟩)
theorem ret_str {a b : Int} (h : a = b) : Value.int .i64 a = .int .i64 b := by rw [h]
theorem sum_take (l : Nm) (i : Nat) (h : i < l.length) : sumB (l.take (i + 1)) = sumB (l.take i) + (l[i]'h).toNat := by
  rw [List.take_succ_eq_append_getElem h, sumB_snoc]
def bkt (l : Nm) : Int := if may l = true then (sumB l : Int) % 4 else 0
set_option maxHeartbeats 1000000 in
set_option maxRecDepth 100000 in
theorem Bucket_any (l : Nm) (w : World) : Calls Tryd.prog 12 #[.string ⟨l.toArray⟩] w fun e w' => e = .returned (.tuple #[.int .i64 (bkt l), .int .i64 (erN l)]) ∧ w' = w := by
  have hs := str_size l
  cases hm : may l
  · have HC := Check_any l w
    rw [erN_bad hm] at HC ⊢
    rw [show bkt l = 0 from if_neg (by rw [hm]; decide)]
    go_enter Tryd.func12, Tryd.ntmps12
    go_wp2_with (go_at_call 18; refine HC.mono ?_)
    rintro e w1 ⟨rfl, rfl⟩
    go_wp2
    go_ret2
    exact ⟨rfl, rfl⟩
  · have HC := Check_any l w
    obtain ⟨h1, h2⟩ := (may_iff l).1 hm
    rw [erN_good hm] at HC ⊢
    rw [show bkt l = (sumB l : Int) % 4 from if_pos hm]
    go_enter Tryd.func12, Tryd.ntmps12
    go_wp2_with (go_at_call 18; refine HC.mono ?_)
    rintro e w1 ⟨rfl, rfl⟩
    go_wp2
    go_loopw [5, 6, 14] (fun s _ c wr => ∃ i : Nat, i ≤ l.length ∧ c = .int .i64 (i : Int) ∧ s = .int .i64 ((sumB (l.take i) : Nat) : Int) ∧ wr = w1) (fun _ _ c _ => l.length - (intOf c).toNat)
    case atStart => exact ⟨0, Nat.zero_le _, rfl, rfl, rfl⟩
    case round =>
      obtain ⟨i, hi, rfl, rfl, rfl⟩ := hrel
      by_cases hlt : i < l.length
      · have i1 : (0 : Int) ≤ (i : Int) := by omega
        have i2 : (i : Int) < ((ByteArray.mk l.toArray).size : Int) := by omega
        have hb := sumB_le (l.take i)
        have hc := (l[i]'hlt).toNat_lt
        have hl : (l.take i).length ≤ 24 := by simp; omega
        go_wp2
        go_roundw
        case rel =>
          refine ⟨i + 1, by omega, by go_num, ret_str ?_, trivial⟩
          rw [sum_take l i hlt]
          show wrap64 ((sumB (l.take i) : Int) + wrap64 ((l[i]'hlt).toNat : Int)) = _
          unfold wrap64; omega
        case measure => simp [intOf]; omega
      · obtain rfl : i = l.length := by omega
        go_wp2
        go_ret2
        rw [List.take_length]
        exact ⟨rfl, rfl⟩
set_option maxHeartbeats 1000000 in
set_option maxRecDepth 100000 in
theorem RBucket_any (l : Nm) (w : World) : Calls Tryd.prog 16 #[.string ⟨l.toArray⟩] w fun e w' => e = .returned (.tuple #[.int .i64 (bkt l), .int .i64 (erN l)]) ∧ w' = w := by
  have hs := str_size l
  cases hm : may l
  · have HC := May_any l
    rw [hm] at HC
    rw [erN_bad hm, show bkt l = 0 from if_neg (by rw [hm]; decide)]
    go_enter Tryd.func16, Tryd.ntmps16
    go_wp2_with (go_at_call 29; refine (HC _).mono ?_)
    rintro e w1 ⟨rfl, rfl⟩
    go_wp2
    go_ret2
    exact ⟨rfl, rfl⟩
  · have HC := May_any l
    obtain ⟨h1, h2⟩ := (may_iff l).1 hm
    rw [hm] at HC
    rw [erN_good hm, show bkt l = (sumB l : Int) % 4 from if_pos hm]
    go_enter Tryd.func16, Tryd.ntmps16
    go_wp2_with (go_at_call 29; refine (HC _).mono ?_)
    rintro e w1 ⟨rfl, rfl⟩
    go_wp2
    go_loopw [4, 5] (fun s c wr => ∃ i : Nat, i ≤ l.length ∧ c = .int .i64 (i : Int) ∧ s = .int .i64 ((sumB (l.take i) : Nat) : Int) ∧ wr = w1) (fun _ c _ => l.length - (intOf c).toNat)
    case atStart => exact ⟨0, Nat.zero_le _, rfl, rfl, rfl⟩
    case round =>
      obtain ⟨i, hi, rfl, rfl, rfl⟩ := hrel
      by_cases hlt : i < l.length
      · have i1 : (0 : Int) ≤ (i : Int) := by omega
        have i2 : (i : Int) < ((ByteArray.mk l.toArray).size : Int) := by omega
        have hb := sumB_le (l.take i)
        have hc := (l[i]'hlt).toNat_lt
        have hl : (l.take i).length ≤ 24 := by simp; omega
        go_wp2
        go_roundw
        case rel =>
          refine ⟨i + 1, by omega, by go_num, ret_str ?_, trivial⟩
          rw [sum_take l i hlt]
          show wrap64 ((sumB (l.take i) : Int) + wrap64 ((l[i]'hlt).toNat : Int)) = _
          unfold wrap64; omega
        case measure => simp [intOf]; omega
      · obtain rfl : i = l.length := by omega
        go_wp2
        go_ret2
        rw [List.take_length]
        exact ⟨rfl, rfl⟩
/-! ### Which stands ahead -/
theorem drewN_add (w : World) (q r : Nat) : (w.drewN q).drewN r = w.drewN (q + r) := by simp [World.drewN, Nat.add_assoc]
theorem lt_drop : ∀ (i : Nat) (a b : Nm), a.take i = b.take i → (a < b ↔ a.drop i < b.drop i)
  | 0, _, _, _ => by simp
  | i + 1, [], [], _ => by simp
  | i + 1, [], y :: b, h => by simp at h
  | i + 1, x :: a, [], h => by simp at h
  | i + 1, x :: a, y :: b, h => by
    simp at h
    obtain ⟨rfl, h⟩ := h
    rw [List.drop_succ_cons, List.drop_succ_cons, ← lt_drop i a b h, List.cons_lt_cons_iff]
    simp
theorem less_end (a b : Nm) (i : Nat) (h : a.take i = b.take i) (hi : i ≤ a.length) (hj : i ≤ b.length) (g : i = a.length ∨ i = b.length) : decide (a < b) = decide (a.length < b.length) := by
  refine decide_eq_decide.2 ((lt_drop i a b h).trans ?_)
  rcases g with rfl | rfl
  · rw [List.drop_length]
    cases hd : b.drop a.length with
    | nil => have := congrArg List.length hd; simp at this; simp; omega
    | cons y r => have := congrArg List.length hd; simp at this; simp; omega
  · rw [List.drop_length]
    simp
    omega
theorem less_mid (a b : Nm) (i : Nat) (h : a.take i = b.take i) (hi : i < a.length) (hj : i < b.length) (g : a[i] ≠ b[i]) : decide (a < b) = decide (a[i].toNat < b[i].toNat) := by
  refine decide_eq_decide.2 ((lt_drop i a b h).trans ?_)
  rw [List.drop_eq_getElem_cons hi, List.drop_eq_getElem_cons hj, List.cons_lt_cons_iff]
  rw [← UInt8.lt_iff_toNat_lt]
  constructor
  · rintro (h | ⟨h, _⟩)
    · exact h
    · exact absurd h g
  · exact .inl
theorem take_more (a b : Nm) (i : Nat) (h : a.take i = b.take i) (hi : i < a.length) (hj : i < b.length) (g : a[i] = b[i]) : a.take (i + 1) = b.take (i + 1) := by
  rw [List.take_succ_eq_append_getElem hi, List.take_succ_eq_append_getElem hj, h, g]
set_option maxHeartbeats 1000000 in
set_option maxRecDepth 100000 in
theorem RLess_any (a b : Nm) (w : World) (ha : a.length ≤ 100000) : Calls Tryd.prog 21 #[.string ⟨a.toArray⟩, .string ⟨b.toArray⟩] w fun e w' => e = .returned (.bool (decide (a < b))) ∧ ∃ q, w' = w.drewN q := by
  have hsa := str_size a
  have hsb := str_size b
  obtain ⟨A, hA⟩ : ∃ A, A = decide (a < b) := ⟨_, rfl⟩
  rw [← hA]
  have HA : Hid (A = decide (a < b)) := hA
  clear hA
  go_enter Tryd.func21, Tryd.ntmps21
  go_wp2
  go_loopw [5] (fun c wr => ∃ i : Nat, i ≤ a.length ∧ i ≤ b.length ∧ c = .int .i64 (i : Int) ∧ Hid (a.take i = b.take i) ∧ Hid (∃ q, wr = w.drewN q)) (fun c _ => a.length - (intOf c).toNat)
  case atStart => exact ⟨0, Nat.zero_le _, Nat.zero_le _, rfl, rfl, 0, rfl⟩
  case round =>
    obtain ⟨i, hia, hib, rfl, ht, hdr⟩ := hrel
    have i0 : (0 : Int) ≤ (i : Int) := by omega
    by_cases ha1 : i = a.length
    · have he : Hid (A = decide (a.length < b.length)) := HA.out.trans (less_end a b i ht.out hia hib (.inl ha1))
      subst ha1
      go_wp2
      go_quiet (fail)
      go_wp2
      go_ret
      obtain ⟨q, rfl⟩ := hdr.out
      exact ⟨ret_bool he.out.symm, _, drewN_add _ _ _⟩
    · have i1 : (i : Int) < (a.length : Int) := by omega
      have i2 : (i : Int) < ((ByteArray.mk a.toArray).size : Int) := by omega
      by_cases hb1 : i = b.length
      · have he : Hid (A = decide (a.length < b.length)) := HA.out.trans (less_end a b i ht.out hia hib (.inr hb1))
        subst hb1
        go_wp2
        go_quiet (fail)
        go_wp2
        go_ret
        obtain ⟨q, rfl⟩ := hdr.out
        exact ⟨ret_bool he.out.symm, _, drewN_add _ _ _⟩
      · have i3 : (i : Int) < (b.length : Int) := by omega
        have i4 : (i : Int) < ((ByteArray.mk b.toArray).size : Int) := by omega
        have j1 : i < (ByteArray.mk a.toArray).size := by omega
        have j2 : i < (ByteArray.mk b.toArray).size := by omega
        by_cases heq : a[i]'(by omega) = b[i]'(by omega)
        · have htt : Hid (a.take (i + 1) = b.take (i + 1)) := take_more a b i ht.out (by omega) (by omega) heq
          have heq2 : ((((ByteArray.mk a.toArray)[i]'j1).toNat : Int) == (((ByteArray.mk b.toArray)[i]'j2).toNat : Int)) = true := by
            show ((((a[i]'(by omega)).toNat : Nat) : Int) == (((b[i]'(by omega)).toNat : Nat) : Int)) = true
            rw [heq]; simp
          go_wp2
          go_quiet (fail)
          go_wp2
          go_roundw
          case rel =>
            obtain ⟨q, hq⟩ := hdr.out
            exact ⟨i + 1, by omega, by omega, by go_num, htt, q + nq, by rw [hq]; exact drewN_add _ _ _⟩
          case measure => simp [intOf]; omega
        · have he : Hid (A = _) := HA.out.trans (less_mid a b i ht.out (by omega) (by omega) heq)
          have heq2 : ((((ByteArray.mk a.toArray)[i]'j1).toNat : Int) == (((ByteArray.mk b.toArray)[i]'j2).toNat : Int)) = false := by
            show ((((a[i]'(by omega)).toNat : Nat) : Int) == (((b[i]'(by omega)).toNat : Nat) : Int)) = false
            refine beq_eq_false_iff_ne.2 fun e => heq (UInt8.toNat_inj.1 (by exact_mod_cast e))
          have e1 : ((i : Int) == (a.length : Int)) = false := by simp; omega
          have e2 : ((i : Int) == (b.length : Int)) = false := by simp; omega
          go_wp2
          go_quiet (fail)
          go_wp2
          go_quiet (fail)
          go_wp2
          go_ret
          obtain ⟨q, rfl⟩ := hdr.out
          exact ⟨ret_bool he.out.symm, _, by rw [drewN_add, drewN_add]⟩
end Go.Proofs.YtdiecjkmbmgbkaaDoor
