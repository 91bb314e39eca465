/- Whether two rows are the same; the row of some names, by the document. -/
import Derived.Test.YtdiecjkmbmgbkaaDoorNmJ
import Derived.Laws.AppendOwnNone
import Derived.Laws.OwnMore
import Derived.Deep.RegionHeld3
namespace Go.Proofs.YtdiecjkmbmgbkaaDoor
open Go.RowKit

theorem first_diff {A B : List Nm} (hl : A.length = B.length) (h : A ≠ B) : ∃ p, ∃ hp : p < A.length, (∀ j (hj : j < A.length), j < p → A[j]'hj = B[j]'(by omega)) ∧ A[p] ≠ B[p]'(by omega) := by
  refine Classical.byContradiction fun hn => h ?_
  have key : ∀ n, ∀ j (hj : j < A.length), j < n → A[j]'hj = B[j]'(by omega) := fun n => by
    induction n with
    | zero => intro j _ h; omega
    | succ n ih =>
      intro j hj hjn
      by_cases e : j = n
      · subst e
        exact Classical.byContradiction fun g => hn ⟨j, hj, fun k hk hkj => ih k hk hkj, g⟩
      · exact ih j hj (by omega)
  exact List.ext_getElem hl fun j h1 h2 => key (j + 1) j h1 (by omega)
set_option maxHeartbeats 1000000 in
set_option maxRecDepth 100000 in
theorem Same_any (A B : List Nm) (w : World) (ao bo : Option Addr) (ca cb : Nat) (ha : RdS w ao A) (hb : RdS w bo B) (hn : A.length ≤ 200000) : Calls Tryd.prog 23 #[.slice ao A.length ca, .slice bo B.length cb] w fun e w' => e = .returned (.bool (decide (A = B))) ∧ ∃ q, w' = w.drewN q := by
  have HA : Hid (RdS w ao A) := ha
  have HB : Hid (RdS w bo B) := hb
  clear ha hb
  by_cases hl : A.length = B.length
  · by_cases hab : A = B
    · subst hab
      rw [decide_eq_true rfl]
      go_enter Tryd.func23, Tryd.ntmps23
      go_wp2
      go_loopw [5] (fun x wr => ∃ i : Nat, i ≤ A.length ∧ x = .int .i64 (i : Int) ∧ Hid (∃ q, wr = w.drewN q)) (fun x _ => A.length - (intOf x).toNat)
      case atStart => exact ⟨0, Nat.zero_le _, rfl, 0, rfl⟩
      case round =>
        obtain ⟨i, hi, rfl, hdr⟩ := hrel
        by_cases hlt : i < A.length
        · have hbel : Below w.heap.size w wr := by obtain ⟨q, rfl⟩ := hdr.out; exact below_drewN _ _ _
          have hne : A ≠ [] := by intro e; rw [e] at hlt; simp at hlt
          obtain ⟨b, off, rfl, hc⟩ := (HA.out.below hbel) hne
          obtain ⟨b', off', rfl, hc'⟩ := (HB.out.below hbel) hne
          have ck := hc i hlt
          have ck' := hc' i hlt
          clear hc hc' hbel
          have i0 : (0 : Int) ≤ (i : Int) := by omega
          have i1 : (i : Int) < (A.length : Int) := by omega
          go_wp2
          go_quiet (fail)
          go_wp2
          go_roundw
          case rel =>
            obtain ⟨q, hq⟩ := hdr.out
            exact ⟨i + 1, by omega, by go_num, q + nq, by rw [hq]; exact drewN_add _ _ _⟩
          case measure => simp [intOf]; omega
        · go_wp2
          go_ret
          exact ⟨rfl, hdr.out⟩
    · obtain ⟨p, hp, h1, h2⟩ := first_diff hl hab
      rw [decide_eq_false hab]
      have HE : Hid (∀ j (hj : j < A.length), j < p → A[j]'hj = B[j]'(by omega)) := h1
      clear h1 hab
      go_enter Tryd.func23, Tryd.ntmps23
      go_wp2
      go_loopw [5] (fun x wr => ∃ i : Nat, i ≤ p ∧ x = .int .i64 (i : Int) ∧ Hid (∃ q, wr = w.drewN q)) (fun x _ => A.length - (intOf x).toNat)
      case atStart => exact ⟨0, Nat.zero_le _, rfl, 0, rfl⟩
      case round =>
        obtain ⟨i, hi, rfl, hdr⟩ := hrel
        have hlt : i < A.length := by omega
        have hbel : Below w.heap.size w wr := by obtain ⟨q, rfl⟩ := hdr.out; exact below_drewN _ _ _
        obtain ⟨b, off, rfl, hc⟩ := (HA.out.below hbel) (by intro e; rw [e] at hlt; simp at hlt)
        obtain ⟨b', off', rfl, hc'⟩ := (HB.out.below hbel) (by intro e; rw [e] at hl; simp at hl; rw [hl] at hlt; simp at hlt)
        have ck := hc i hlt
        have ck' := hc' i (by omega)
        clear hc hc' hbel
        have i0 : (0 : Int) ≤ (i : Int) := by omega
        have i1 : (i : Int) < (A.length : Int) := by omega
        have i2 : (i : Int) < (B.length : Int) := by omega
        by_cases hip : i < p
        · have he := HE.out i hlt hip
          rw [← he] at ck'
          go_wp2
          go_quiet (fail)
          go_wp2
          go_roundw
          case rel =>
            obtain ⟨q, hq⟩ := hdr.out
            exact ⟨i + 1, by omega, by go_num, q + nq, by rw [hq]; exact drewN_add _ _ _⟩
          case measure => simp [intOf]; omega
        · obtain rfl : i = p := by omega
          obtain ⟨x, hx⟩ : ∃ x, x = A[i]'hlt := ⟨_, rfl⟩
          obtain ⟨y, hy⟩ : ∃ y, y = B[i]'(by omega) := ⟨_, rfl⟩
          rw [← hx] at ck h2
          rw [← hy] at ck' h2
          have hxy : (x == y) = false := by simpa using h2
          clear hx hy
          go_wp2
          go_quiet (fail)
          go_wp2
          go_ret
          obtain ⟨q, hq⟩ := hdr.out
          exact ⟨rfl, q + nq, by rw [hq]; exact drewN_add _ _ _⟩
  · have hab : A ≠ B := fun e => hl (by rw [e])
    rw [decide_eq_false hab]
    have hb : ((A.length : Int) != (B.length : Int)) = true := by simp; omega
    go_enter Tryd.func23, Tryd.ntmps23
    go_wp2
    go_ret
    exact ⟨rfl, 0, rfl⟩
end Go.Proofs.YtdiecjkmbmgbkaaDoor
