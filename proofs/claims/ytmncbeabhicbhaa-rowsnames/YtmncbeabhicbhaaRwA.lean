/- What the program's small functions tell of lists: whether the rows are there, whether they rise, whether lists may be. -/
import Derived.Test.YtmncbeabhicbhaaRwMath
import Derived.Test.YtmncbeabhicbhaaVecA
import Derived.BigQuiet
namespace Go.Proofs.Ytmncbeabhicbhaa
open Go.RowKit

set_option maxHeartbeats 1000000 in
set_option maxRecDepth 100000 in
theorem there_any (k r c q : Int) (w : World) (ao : Option Addr) (n ca : Nat) (R : Nat → Int) (hr : RdI w ao n R) (hn : n ≤ 200000) (E : Int) (hE : erH q n R = E) :
    Calls Try.prog 20 #[.agg #[.int .i64 k, .int .i64 r, .int .i64 c, .int .i64 q], .slice ao n ca] w fun e w' => e = .returned (.int .i64 E) ∧ Below w.heap.size w w' := by
  obtain ⟨w0, hw0⟩ : ∃ w0, w0 = w.alloc (.cells #[.int .i64 k, .int .i64 r, .int .i64 c, .int .i64 q] 24) := ⟨_, rfl⟩
  have b0 : Below w.heap.size w w0 := by rw [hw0]; exact below_alloc _ _
  have HB : Hid (Below w.heap.size w w0) := b0
  have HS : Hid (RdI w0 ao n R) := hr.below b0
  have cq : w0.cell? ⟨w.heap.size, 3, none⟩ = some (.int .i64 q) := (par_held hw0 (Below.refl _ _)).2.2.2
  clear hr b0
  rcases erH_cases q n R with ⟨h1, h2⟩ | ⟨h1, h3, h2⟩ | ⟨h1, h3, h2⟩
  · obtain rfl : E = 20 := hE.symm.trans h2
    have h4 : (65536 : Int) < (n : Int) := by omega
    clear h2 hE
    go_enter Try.func20, Try.ntmps20
    go_wp2_with fail
    rw [← hw0]
    go_ret
    exact ⟨rfl, HB.out⟩
  · obtain rfl : E = 0 := hE.symm.trans h2
    have h4 : ¬ (65536 : Int) < (n : Int) := by omega
    have HA : Hid (∀ i, i < n → 0 ≤ R i ∧ R i < q) := h3
    clear h2 h3 hE
    go_enter Try.func20, Try.ntmps20
    go_wp2_with fail
    rw [← hw0]
    clear hw0
    go_loop [12] (fun x => ∃ i : Nat, i ≤ n ∧ x = .int .i64 i) (fun x => n - (intOf x).toNat)
    case atStart => exact ⟨0, Nat.zero_le _, rfl⟩
    case round =>
      obtain ⟨i, hi, rfl⟩ := hrel
      by_cases hlt : i < n
      · obtain ⟨b, off, rfl, hc⟩ := HS.out (by omega)
        have ck := hc i hlt
        have a1 := (HA.out i hlt).1
        have a2 := (HA.out i hlt).2
        clear hc
        have i1 : (0 : Int) ≤ (i : Int) := by omega
        have i2 : (i : Int) < (n : Int) := by omega
        go_wp2_with fail
        go_round
        case rel => exact ⟨i + 1, by omega, by go_num⟩
        case measure => simp [intOf]; omega
      · go_wp2
        go_ret
        exact ⟨rfl, HB.out⟩
  · obtain rfl : E = 200 := hE.symm.trans h2
    have h4 : ¬ (65536 : Int) < (n : Int) := by omega
    obtain ⟨p, hp, hne, heq⟩ := first_not h3
    have HA : Hid (∀ i, i < p → 0 ≤ R i ∧ R i < q) := heq
    have HN : Hid (¬ (0 ≤ R p ∧ R p < q)) := hne
    clear h2 h3 hE hne heq
    go_enter Try.func20, Try.ntmps20
    go_wp2_with fail
    rw [← hw0]
    clear hw0
    go_loop [12] (fun x => ∃ i : Nat, i ≤ p ∧ x = .int .i64 i) (fun x => n - (intOf x).toNat)
    case atStart => exact ⟨0, Nat.zero_le _, rfl⟩
    case round =>
      obtain ⟨i, hi, rfl⟩ := hrel
      have hlt : i < n := by omega
      obtain ⟨b, off, rfl, hc⟩ := HS.out (by omega)
      have ck := hc i hlt
      clear hc
      have i1 : (0 : Int) ≤ (i : Int) := by omega
      have i2 : (i : Int) < (n : Int) := by omega
      by_cases hiq : i < p
      · have a1 := (HA.out i hiq).1
        have a2 := (HA.out i hiq).2
        go_wp2_with fail
        go_round
        case rel => exact ⟨i + 1, by omega, by go_num⟩
        case measure => simp [intOf]; omega
      · obtain rfl : i = p := by omega
        by_cases a1 : R i < 0
        · go_wp2_with fail
          go_ret
          exact ⟨rfl, HB.out⟩
        · have a2 : q ≤ R i := by have := HN.out; omega
          go_wp2_with fail
          go_ret
          exact ⟨rfl, HB.out⟩
set_option maxHeartbeats 1000000 in
set_option maxRecDepth 100000 in
theorem rise_of (w : World) (ao : Option Addr) (n ca : Nat) (R : Nat → Int) (hr : RdI w ao n R) (hn : n ≤ 400000) :
    Calls Try.prog 27 #[.slice ao n ca] w fun e w' => e = .returned (.bool (rsB n R)) ∧ ∃ q, w' = w.drewN q := by
  have HS : Hid (RdI w ao n R) := hr
  clear hr
  by_cases hall : ∀ i, i + 1 < n → R i < R (i + 1)
  · rw [show rsB n R = true from rsB_t hall]
    have HA : Hid (∀ i, i + 1 < n → R i < R (i + 1)) := hall
    clear hall
    go_enter Try.func27, Try.ntmps27
    go_wp2_with fail
    go_loopw [3] (fun x wr => ∃ i : Nat, (i + 1 ≤ n ∨ i = 0) ∧ x = .int .i64 ((i + 1 : Nat) : Int) ∧ Hid (∃ q, wr = w.drewN q)) (fun x _ => n + 1 - (intOf x).toNat)
    case atStart => exact ⟨0, .inr rfl, rfl, 0, rfl⟩
    case round =>
      obtain ⟨i, hi, rfl, hdr⟩ := hrel
      by_cases hlt : i + 1 < n
      · have hbel : Below w.heap.size w wr := by obtain ⟨q, rfl⟩ := hdr.out; exact below_drewN _ _ _
        obtain ⟨b, off, rfl, hc⟩ := (HS.out.below hbel) (by omega)
        have ck := hc (i + 1) hlt
        have ck' := hc i (by omega)
        have a1 : ¬ R (i + 1) ≤ R i := by have := HA.out i hlt; omega
        clear hc hbel
        have i1 : (0 : Int) ≤ ((i + 1 : Nat) : Int) := by omega
        have i2 : ((i + 1 : Nat) : Int) < (n : Int) := by omega
        have i3 : (((i + 1 : Nat) : Int) - 1) = (i : Int) := by omega
        go_wp2_with fail
        go_quiet (fail)
        go_wp2_with fail
        go_roundw
        case rel =>
          obtain ⟨q, hq⟩ := hdr.out
          exact ⟨i + 1, by omega, by go_num, q + nq, by rw [hq]; simp [World.drewN, Nat.add_assoc]⟩
        case measure => simp [intOf]; omega
      · have i2 : ¬ ((i + 1 : Nat) : Int) < (n : Int) := by omega
        go_wp2_with fail
        go_ret
        exact ⟨rfl, hdr.out⟩
  · rw [show rsB n R = false from rsB_f hall]
    obtain ⟨p, hp, hne, heq⟩ : ∃ p, p + 1 < n ∧ ¬ R p < R (p + 1) ∧ ∀ i, i < p → R i < R (i + 1) := by
      have h1 : ¬ ∀ i, i < n → (i + 1 < n → R i < R (i + 1)) := fun h => hall fun i hi => h i (by omega) hi
      obtain ⟨p, hp, hne, heq⟩ := first_not h1
      refine ⟨p, ?_, ?_, fun i hi => heq i hi ?_⟩
      · rcases Nat.lt_or_ge (p + 1) n with g | g
        · exact g
        · exact absurd (fun h => absurd h (by omega)) hne
      · exact fun h => hne fun _ => h
      · omega
    have HE : Hid (∀ i, i < p → R i < R (i + 1)) := heq
    have HN : Hid (¬ R p < R (p + 1)) := hne
    clear hall hne heq
    go_enter Try.func27, Try.ntmps27
    go_wp2_with fail
    go_loopw [3] (fun x wr => ∃ i : Nat, i ≤ p ∧ x = .int .i64 ((i + 1 : Nat) : Int) ∧ Hid (∃ q, wr = w.drewN q)) (fun x _ => n + 1 - (intOf x).toNat)
    case atStart => exact ⟨0, Nat.zero_le _, rfl, 0, rfl⟩
    case round =>
      obtain ⟨i, hi, rfl, hdr⟩ := hrel
      have hlt : i + 1 < n := by omega
      have hbel : Below w.heap.size w wr := by obtain ⟨q, rfl⟩ := hdr.out; exact below_drewN _ _ _
      obtain ⟨b, off, rfl, hc⟩ := (HS.out.below hbel) (by omega)
      have ck := hc (i + 1) hlt
      have ck' := hc i (by omega)
      clear hc hbel
      have i1 : (0 : Int) ≤ ((i + 1 : Nat) : Int) := by omega
      have i2 : ((i + 1 : Nat) : Int) < (n : Int) := by omega
      have i3 : (((i + 1 : Nat) : Int) - 1) = (i : Int) := by omega
      by_cases hiq : i < p
      · have a1 : ¬ R (i + 1) ≤ R i := by have := HE.out i hiq; omega
        go_wp2_with fail
        go_quiet (fail)
        go_wp2_with fail
        go_roundw
        case rel =>
          obtain ⟨q, hq⟩ := hdr.out
          exact ⟨i + 1, by omega, by go_num, q + nq, by rw [hq]; simp [World.drewN, Nat.add_assoc]⟩
        case measure => simp [intOf]; omega
      · obtain rfl : i = p := by omega
        have a1 : R (i + 1) ≤ R i := by have := HN.out; omega
        have HQ : Hid (∃ q, wr = w.drewN q) := hdr
        go_wp2_with fail
        go_quiet (fail)
        go_wp2_with fail
        go_ret
        obtain ⟨q, hq⟩ := HQ.out
        exact ⟨rfl, q + nq, by rw [hq]; simp [World.drewN, Nat.add_assoc]⟩
end Go.Proofs.Ytmncbeabhicbhaa
