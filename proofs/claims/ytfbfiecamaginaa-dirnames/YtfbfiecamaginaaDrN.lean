/- Names: whether one may be, whether it stands ahead of another. -/
import Derived.Test.YtfbfiecamaginaaProg
import Derived.Test.YtfbfiecamaginaaDrMath
import Derived.Test.YtfbfiecamaginaaLayB
import Derived.WalkKit
import Derived.WalkSpells
import Derived.WalkLawsBesides
import Derived.Below
import Derived.BigQuiet
import Derived.Deep.QuietTactic
namespace Go.Proofs.Ytfbfiecamaginaa
open Go.RowKit

theorem below_drewN (B : Nat) (w : World) (n : Nat) : Below B w (w.drewN n) := ⟨rfl, rfl, rfl, Nat.le_refl _, fun _ _ => rfl⟩
theorem bless_eq : ∀ (x y : List UInt8), Op.bytesLess x y = decide (x < y)
  | [], [] => by simp [Op.bytesLess]
  | _ :: _, [] => by simp [Op.bytesLess]
  | [], _ :: _ => by simp [Op.bytesLess]
  | a :: x, b :: y => by
    rw [Op.bytesLess, bless_eq x y]
    simp only [List.cons_lt_cons_iff]
    by_cases h1 : a < b <;> by_cases h2 : a = b <;> by_cases h3 : x < y <;> simp [h1, h2, h3]
def erM (l : Nm) : Int := if mayN l = true then 0 else 6
theorem mayN_iff (l : Nm) : mayN l = true ↔ 1 ≤ l.length ∧ l.length ≤ 24 := by simp [mayN]
theorem erM_good {l : Nm} (h : mayN l = true) : erM l = 0 := if_pos h
theorem erM_bad {l : Nm} (h : mayN l = false) : erM l = 6 := if_neg (by rw [h]; decide)
theorem str_size (l : Nm) : (ByteArray.mk l.toArray).size = l.length := by simp [ByteArray.size]

set_option maxHeartbeats 400000 in
theorem NMay_any (l : Nm) (w : World) : Calls Try.prog 57 #[.string ⟨l.toArray⟩] w fun e w' => e = .returned (.bool (mayN l)) ∧ w' = w := by
  have hs := str_size l
  go_enter Try.func57, Try.ntmps57
  go_wp2
  · go_ret
    exact ⟨ret_bool (by unfold mayN; exact decide_eq_decide.2 (by omega)), rfl⟩
  · go_ret
    exact ⟨ret_bool (by unfold mayN; exact (decide_eq_false (by omega)).symm), rfl⟩
set_option maxHeartbeats 400000 in
theorem Less_any (a b : Nm) (w : World) : Calls Try.prog 53 #[.string ⟨a.toArray⟩, .string ⟨b.toArray⟩] w fun e w' => e = .returned (.bool (decide (a < b))) ∧ w' = w := by
  go_enter Try.func53, Try.ntmps53
  go_wp2
  go_ret
  exact ⟨ret_bool (bless_eq a b), rfl⟩
set_option maxHeartbeats 400000 in
theorem NCheck_any (l : Nm) (w : World) : Calls Try.prog 51 #[.string ⟨l.toArray⟩] w fun e w' => e = .returned (.int .i64 (erM l)) ∧ w' = w := by
  have hs := str_size l
  go_enter Try.func51, Try.ntmps51
  go_wp2
  · go_ret
    rename_i h
    subst h
    exact ⟨rfl, rfl⟩
  · go_ret
    rename_i h0 h
    have h1 : l.isEmpty = false := by simpa using h0
    have : mayN l = false := by
      rw [Bool.eq_false_iff, Ne, mayN_iff]
      rcases h with h | h
      · rw [h1] at h; cases h
      · omega
    exact ⟨ret_int (erM_bad this).symm, rfl⟩
  · go_ret
    rename_i h0 h
    have h1 : 1 ≤ l.length := List.length_pos_iff.2 h0
    exact ⟨ret_int (erM_good ((mayN_iff l).2 ⟨h1, by omega⟩)).symm, rfl⟩
/-! ### Which stands ahead -/
theorem drewN_add (w : World) (q r : Nat) : (w.drewN q).drewN r = w.drewN (q + r) := by simp [World.drewN, Nat.add_assoc]
theorem lt_drop : ∀ (i : Nat) (a b : Nm), a.take i = b.take i → (a < b ↔ a.drop i < b.drop i)
  | 0, _, _, _ => by simp
  | i + 1, [], [], _ => by simp
  | i + 1, [], y :: b, h => by simp at h
  | i + 1, x :: a, [], h => by simp at h
  | i + 1, x :: a, y :: b, h => by
    simp at h
    obtain ⟨rfl, h⟩ := h
    rw [List.drop_succ_cons, List.drop_succ_cons, ← lt_drop i a b h, List.cons_lt_cons_iff]
    simp
theorem less_end (a b : Nm) (i : Nat) (h : a.take i = b.take i) (hi : i ≤ a.length) (hj : i ≤ b.length) (g : i = a.length ∨ i = b.length) : decide (a < b) = decide (a.length < b.length) := by
  refine decide_eq_decide.2 ((lt_drop i a b h).trans ?_)
  rcases g with rfl | rfl
  · rw [List.drop_length]
    cases hd : b.drop a.length with
    | nil => have := congrArg List.length hd; simp at this; simp; omega
    | cons y r => have := congrArg List.length hd; simp at this; simp; omega
  · rw [List.drop_length]
    simp
    omega
theorem less_mid (a b : Nm) (i : Nat) (h : a.take i = b.take i) (hi : i < a.length) (hj : i < b.length) (g : a[i] ≠ b[i]) : decide (a < b) = decide (a[i].toNat < b[i].toNat) := by
  refine decide_eq_decide.2 ((lt_drop i a b h).trans ?_)
  rw [List.drop_eq_getElem_cons hi, List.drop_eq_getElem_cons hj, List.cons_lt_cons_iff]
  rw [← UInt8.lt_iff_toNat_lt]
  constructor
  · rintro (h | ⟨h, _⟩)
    · exact h
    · exact absurd h g
  · exact .inl
theorem take_more (a b : Nm) (i : Nat) (h : a.take i = b.take i) (hi : i < a.length) (hj : i < b.length) (g : a[i] = b[i]) : a.take (i + 1) = b.take (i + 1) := by
  rw [List.take_succ_eq_append_getElem hi, List.take_succ_eq_append_getElem hj, h, g]
set_option maxHeartbeats 1000000 in
set_option maxRecDepth 100000 in
theorem RLess_any (a b : Nm) (w : World) (ha : a.length ≤ 100000) : Calls Try.prog 58 #[.string ⟨a.toArray⟩, .string ⟨b.toArray⟩] w fun e w' => e = .returned (.bool (decide (a < b))) ∧ ∃ q, w' = w.drewN q := by
  have hsa := str_size a
  have hsb := str_size b
  obtain ⟨A, hA⟩ : ∃ A, A = decide (a < b) := ⟨_, rfl⟩
  rw [← hA]
  have HA : Hid (A = decide (a < b)) := hA
  clear hA
  go_enter Try.func58, Try.ntmps58
  go_wp2
  go_loopw [5] (fun c wr => ∃ i : Nat, i ≤ a.length ∧ i ≤ b.length ∧ c = .int .i64 (i : Int) ∧ Hid (a.take i = b.take i) ∧ Hid (∃ q, wr = w.drewN q)) (fun c _ => a.length - (intOf c).toNat)
  case atStart => exact ⟨0, Nat.zero_le _, Nat.zero_le _, rfl, rfl, 0, rfl⟩
  case round =>
    obtain ⟨i, hia, hib, rfl, ht, hdr⟩ := hrel
    have i0 : (0 : Int) ≤ (i : Int) := by omega
    by_cases ha1 : i = a.length
    · have he : Hid (A = decide (a.length < b.length)) := HA.out.trans (less_end a b i ht.out hia hib (.inl ha1))
      subst ha1
      go_wp2
      go_quiet (fail)
      go_wp2
      go_ret
      obtain ⟨q, rfl⟩ := hdr.out
      exact ⟨ret_bool he.out.symm, _, drewN_add _ _ _⟩
    · have i1 : (i : Int) < (a.length : Int) := by omega
      have i2 : (i : Int) < ((ByteArray.mk a.toArray).size : Int) := by omega
      by_cases hb1 : i = b.length
      · have he : Hid (A = decide (a.length < b.length)) := HA.out.trans (less_end a b i ht.out hia hib (.inr hb1))
        subst hb1
        go_wp2
        go_quiet (fail)
        go_wp2
        go_ret
        obtain ⟨q, rfl⟩ := hdr.out
        exact ⟨ret_bool he.out.symm, _, drewN_add _ _ _⟩
      · have i3 : (i : Int) < (b.length : Int) := by omega
        have i4 : (i : Int) < ((ByteArray.mk b.toArray).size : Int) := by omega
        have j1 : i < (ByteArray.mk a.toArray).size := by omega
        have j2 : i < (ByteArray.mk b.toArray).size := by omega
        by_cases heq : a[i]'(by omega) = b[i]'(by omega)
        · have htt : Hid (a.take (i + 1) = b.take (i + 1)) := take_more a b i ht.out (by omega) (by omega) heq
          have heq2 : ((((ByteArray.mk a.toArray)[i]'j1).toNat : Int) == (((ByteArray.mk b.toArray)[i]'j2).toNat : Int)) = true := by
            show ((((a[i]'(by omega)).toNat : Nat) : Int) == (((b[i]'(by omega)).toNat : Nat) : Int)) = true
            rw [heq]; simp
          go_wp2
          go_quiet (fail)
          go_wp2
          go_roundw
          case rel =>
            obtain ⟨q, hq⟩ := hdr.out
            exact ⟨i + 1, by omega, by omega, by go_num, htt, q + nq, by rw [hq]; exact drewN_add _ _ _⟩
          case measure => simp [intOf]; omega
        · have he : Hid (A = _) := HA.out.trans (less_mid a b i ht.out (by omega) (by omega) heq)
          have heq2 : ((((ByteArray.mk a.toArray)[i]'j1).toNat : Int) == (((ByteArray.mk b.toArray)[i]'j2).toNat : Int)) = false := by
            show ((((a[i]'(by omega)).toNat : Nat) : Int) == (((b[i]'(by omega)).toNat : Nat) : Int)) = false
            refine beq_eq_false_iff_ne.2 fun e => heq (UInt8.toNat_inj.1 (by exact_mod_cast e))
          have e1 : ((i : Int) == (a.length : Int)) = false := by simp; omega
          have e2 : ((i : Int) == (b.length : Int)) = false := by simp; omega
          go_wp2
          go_quiet (fail)
          go_wp2
          go_quiet (fail)
          go_wp2
          go_ret
          obtain ⟨q, rfl⟩ := hdr.out
          exact ⟨ret_bool he.out.symm, _, by rw [drewN_add, drewN_add]⟩
end Go.Proofs.Ytfbfiecamaginaa
