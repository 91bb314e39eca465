/- Whether cells are alike; whether numbers are those of data cells, none of them twice. -/
import Derived.Test.YtgflgmkaaidfnaaDelMath
import Derived.Deep.CutRange
namespace Go.Proofs.Ytgflgmkaaidfnaa
open Go.RowKit

set_option maxHeartbeats 1000000 in
set_option maxRecDepth 100000 in
theorem alike_any (w : World) (lo : Option Addr) (ll cl : Nat) (A : Nat → Option Addr) (C L : Nat → Nat) (H : M) (hll : ll ≤ 1000000) (hl : Lst w lo ll A C L H) :
    Calls Try.prog 21 #[.slice lo ll cl] w fun e w' => e = .returned (.bool (alikeB ll L)) ∧ w' = w := by
  have HL : Hid (Lst w lo ll A C L H) := hl
  clear hl
  by_cases hall : ∀ i, i < ll → 1 ≤ L i ∧ L i ≤ 65536 ∧ L i = L 0
  · rw [show alikeB ll L = true from decide_eq_true hall]
    have HA : Hid (∀ i, i < ll → 1 ≤ L i ∧ L i ≤ 65536 ∧ L i = L 0) := hall
    clear hall
    go_enter Try.func21, Try.ntmps21
    go_wp2
    go_loop [7] (fun x => ∃ i : Nat, i ≤ ll ∧ x = .int .i64 i) (fun x => ll - (intOf x).toNat)
    case atStart => exact ⟨0, Nat.zero_le _, rfl⟩
    case round =>
      obtain ⟨i, hi, rfl⟩ := hrel
      by_cases hlt : i < ll
      · obtain ⟨b, off, rfl, hc⟩ := HL.out.at_ (by omega)
        have c0 := hc 0 (by omega)
        rw [Nat.add_zero] at c0
        have ck := hc i hlt
        obtain ⟨h1, h2, h3⟩ := HA.out i hlt
        rw [h3] at ck h1 h2
        clear h3 hc
        obtain ⟨m, hm⟩ : ∃ m, m = L 0 := ⟨_, rfl⟩
        rw [← hm] at c0 ck h1 h2
        clear hm
        have hd1 : decide ((m : Int) < 1) = false := by simp; omega
        have hd2 : decide ((65536 : Int) < (m : Int)) = false := by simp; omega
        have hbn : ((m : Int) != (m : Int)) = false := by simp
        have i1 : (0 : Int) ≤ (i : Int) := by omega
        have i2 : (i : Int) < (ll : Int) := by omega
        have i3 : (0 : Int) < (ll : Int) := by omega
        go_wp2
        go_round
        case rel => exact ⟨i + 1, by omega, by go_num⟩
        case measure => simp [intOf]; omega
      · go_wp2
        go_ret
        exact ⟨rfl, rfl⟩
  · rw [show alikeB ll L = false from decide_eq_false hall]
    obtain ⟨q, hq, hne, heq⟩ := first_not hall
    have HE : Hid (∀ i, i < q → 1 ≤ L i ∧ L i ≤ 65536 ∧ L i = L 0) := heq
    have HNE : Hid (¬ (1 ≤ L q ∧ L q ≤ 65536 ∧ L q = L 0)) := hne
    clear hall hne heq
    go_enter Try.func21, Try.ntmps21
    go_wp2
    go_loop [7] (fun x => ∃ i : Nat, i ≤ q ∧ x = .int .i64 i) (fun x => ll - (intOf x).toNat)
    case atStart => exact ⟨0, Nat.zero_le _, rfl⟩
    case round =>
      obtain ⟨i, hi, rfl⟩ := hrel
      have hlt : i < ll := by omega
      obtain ⟨b, off, rfl, hc⟩ := HL.out.at_ (by omega)
      have c0 := hc 0 (by omega)
      rw [Nat.add_zero] at c0
      have ck := hc i hlt
      have i1 : (0 : Int) ≤ (i : Int) := by omega
      have i2 : (i : Int) < (ll : Int) := by omega
      have i3 : (0 : Int) < (ll : Int) := by omega
      by_cases hiq : i < q
      · obtain ⟨h1, h2, h3⟩ := HE.out i hiq
        rw [h3] at ck h1 h2
        clear h3 hc
        obtain ⟨m, hm⟩ : ∃ m, m = L 0 := ⟨_, rfl⟩
        rw [← hm] at c0 ck h1 h2
        clear hm
        have hd1 : decide ((m : Int) < 1) = false := by simp; omega
        have hd2 : decide ((65536 : Int) < (m : Int)) = false := by simp; omega
        have hbn : ((m : Int) != (m : Int)) = false := by simp
        go_wp2
        go_round
        case rel => exact ⟨i + 1, by omega, by go_num⟩
        case measure => simp [intOf]; omega
      · obtain rfl : i = q := by omega
        have hn := HNE.out
        clear hc
        obtain ⟨m, hm⟩ : ∃ m, m = L i := ⟨_, rfl⟩
        obtain ⟨m0, hm0⟩ : ∃ m, m = L 0 := ⟨_, rfl⟩
        rw [← hm] at ck hn
        rw [← hm0] at c0 hn
        clear hm hm0
        by_cases h1 : 1 ≤ m
        · have hd1 : decide ((m : Int) < 1) = false := by simp; omega
          by_cases h2 : m ≤ 65536
          · have hd2 : decide ((65536 : Int) < (m : Int)) = false := by simp; omega
            have hbn : ((m : Int) != (m0 : Int)) = true := by
              have : ¬ m = m0 := fun e => hn ⟨h1, h2, e⟩
              simp; omega
            go_wp2
            go_ret
            exact ⟨rfl, rfl⟩
          · have hd2 : decide ((65536 : Int) < (m : Int)) = true := by simp; omega
            go_wp2
            go_ret
            exact ⟨rfl, rfl⟩
        · have hd1 : decide ((m : Int) < 1) = true := by simp; omega
          go_wp2
          go_ret
          exact ⟨rfl, rfl⟩

/-- Whether a number stands among n others. -/
def hasB (n : Nat) (R : Nat → Int) (v : Int) : Bool := !decide (∀ j, j < n → R j ≠ v)
set_option maxHeartbeats 1000000 in
set_option maxRecDepth 100000 in
theorem contains_any (w : World) (ao : Option Addr) (n ca : Nat) (R : Nat → Int) (v : Int) (hn : n ≤ 1000000) (hr : RdI w ao n R) :
    Calls Try.prog 36 #[.slice ao n ca, .int .i64 v] w fun e w' => e = .returned (.bool (hasB n R v)) ∧ w' = w := by
  have HX : Calls Try.prog 47 #[.slice ao n ca, .int .i64 v] w fun e w' => ∃ x : Int, e = .returned (.int .i64 x) ∧ decide (0 ≤ x) = hasB n R v ∧ w' = w := by
    have HR : Hid (RdI w ao n R) := hr
    clear hr
    by_cases hall : ∀ j, j < n → R j ≠ v
    · have HB : Hid (hasB n R v = false) := by show _ = _; unfold hasB; rw [decide_eq_true hall]; rfl
      have HA : Hid (∀ j, j < n → R j ≠ v) := hall
      clear hall
      go_enter Try.func47, Try.ntmps47
      go_wp2
      go_loop [8] (fun x => ∃ i : Nat, i ≤ n ∧ x = .int .i64 i) (fun x => n - (intOf x).toNat)
      case atStart => exact ⟨0, Nat.zero_le _, rfl⟩
      case round =>
        obtain ⟨i, hi, rfl⟩ := hrel
        by_cases hlt : i < n
        · obtain ⟨b, off, rfl, hc⟩ := HR.out (by omega)
          have ck := hc i hlt
          have hb : (v == R i) = false := by have := HA.out i hlt; simp; omega
          clear hc
          have i1 : (0 : Int) ≤ (i : Int) := by omega
          have i2 : (i : Int) < (n : Int) := by omega
          go_wp2
          go_round
          case rel => exact ⟨i + 1, by omega, by go_num⟩
          case measure => simp [intOf]; omega
        · go_wp2
          go_ret
          exact ⟨_, rfl, by rw [HB.out]; rfl, rfl⟩
    · have HB : Hid (hasB n R v = true) := by show _ = _; unfold hasB; rw [decide_eq_false hall]; rfl
      obtain ⟨q, hq, hne, heq⟩ := first_not hall
      have HE : Hid (∀ j, j < q → R j ≠ v) := heq
      have HN : Hid (R q = v) := by show _ = _; exact Classical.byContradiction hne
      clear hall hne heq
      go_enter Try.func47, Try.ntmps47
      go_wp2
      go_loop [8] (fun x => ∃ i : Nat, i ≤ q ∧ x = .int .i64 i) (fun x => n - (intOf x).toNat)
      case atStart => exact ⟨0, Nat.zero_le _, rfl⟩
      case round =>
        obtain ⟨i, hi, rfl⟩ := hrel
        have hlt : i < n := by omega
        obtain ⟨b, off, rfl, hc⟩ := HR.out (by omega)
        have ck := hc i hlt
        clear hc
        have i1 : (0 : Int) ≤ (i : Int) := by omega
        have i2 : (i : Int) < (n : Int) := by omega
        by_cases hiq : i < q
        · have hb : (v == R i) = false := by have := HE.out i hiq; simp; omega
          go_wp2
          go_round
          case rel => exact ⟨i + 1, by omega, by go_num⟩
          case measure => simp [intOf]; omega
        · obtain rfl : i = q := by omega
          rw [HN.out] at ck
          have hb : (v == v) = true := by simp
          go_wp2
          go_ret
          exact ⟨_, rfl, by rw [HB.out]; simp, rfl⟩
  clear hr
  go_enter Try.func36, Try.ntmps36
  go_wp2_with (go_at_call 47; refine HX.mono ?_; rintro e w' ⟨x, rfl, hx, rfl⟩)
  go_ret
  exact ⟨by rw [← hx]; rfl, rfl⟩

set_option maxHeartbeats 1000000 in
set_option maxRecDepth 100000 in
theorem once_any (w : World) (k : Int) (co : Option Addr) (n cc : Nat) (R : Nat → Int) (hcap : n ≤ cc) (hk : k ≤ 12) (hr : RdI w co n R) :
    Calls Try.prog 24 #[.int .i64 k, .slice co n cc] w fun e w' => e = .returned (.bool (onceB k n R)) ∧ w' = w := by
  have HR : Hid (RdI w co n R) := hr
  clear hr
  by_cases hnk : (n : Int) ≤ k
  · by_cases hall : ∀ i, i < n → (0 ≤ R i ∧ R i < k) ∧ ∀ j, j < i → R j ≠ R i
    · rw [show onceB k n R = true from decide_eq_true ⟨hnk, hall⟩]
      have HA : Hid (∀ i, i < n → (0 ≤ R i ∧ R i < k) ∧ ∀ j, j < i → R j ≠ R i) := hall
      clear hall
      go_enter Try.func24, Try.ntmps24
      go_wp2
      go_loop [13] (fun x => ∃ i : Nat, i ≤ n ∧ x = .int .i64 i) (fun x => n - (intOf x).toNat)
      case atStart => exact ⟨0, Nat.zero_le _, rfl⟩
      case round =>
        obtain ⟨i, hi, rfl⟩ := hrel
        by_cases hlt : i < n
        · obtain ⟨b, off, rfl, hc⟩ := HR.out (by omega)
          have ck := hc i hlt
          obtain ⟨⟨h1, h2⟩, h3⟩ := HA.out i hlt
          have HC := contains_any w (some ⟨b, off, none⟩) i cc R (R i) (by omega) (fun _ => ⟨b, off, rfl, fun j hj => hc j (by omega)⟩)
          rw [show hasB i R (R i) = false by unfold hasB; rw [decide_eq_true h3]; rfl] at HC
          clear hc h3
          have hd1 : decide (R i < 0) = false := by simp; omega
          have hd2 : decide (k ≤ R i) = false := by simp; omega
          have i1 : (0 : Int) ≤ (i : Int) := by omega
          have i2 : (i : Int) < (n : Int) := by omega
          have i3 : (i : Int) ≤ (cc : Int) := by omega
          go_wp2_with (go_at_call 36; refine HC.mono ?_; rintro e w' ⟨rfl, rfl⟩)
          go_round
          case rel => exact ⟨i + 1, by omega, by go_num⟩
          case measure => simp [intOf]; omega
        · go_wp2
          go_ret
          exact ⟨rfl, rfl⟩
    · rw [show onceB k n R = false from decide_eq_false fun h => hall h.2]
      obtain ⟨q, hq, hne, heq⟩ := first_not hall
      have HE : Hid (∀ i, i < q → (0 ≤ R i ∧ R i < k) ∧ ∀ j, j < i → R j ≠ R i) := heq
      have HNE : Hid (¬ ((0 ≤ R q ∧ R q < k) ∧ ∀ j, j < q → R j ≠ R q)) := hne
      clear hall hne heq
      go_enter Try.func24, Try.ntmps24
      go_wp2
      go_loop [13] (fun x => ∃ i : Nat, i ≤ q ∧ x = .int .i64 i) (fun x => n - (intOf x).toNat)
      case atStart => exact ⟨0, Nat.zero_le _, rfl⟩
      case round =>
        obtain ⟨i, hi, rfl⟩ := hrel
        have hlt : i < n := by omega
        obtain ⟨b, off, rfl, hc⟩ := HR.out (by omega)
        have ck := hc i hlt
        have HC := contains_any w (some ⟨b, off, none⟩) i cc R (R i) (by omega) (fun _ => ⟨b, off, rfl, fun j hj => hc j (by omega)⟩)
        clear hc
        have i1 : (0 : Int) ≤ (i : Int) := by omega
        have i2 : (i : Int) < (n : Int) := by omega
        have i3 : (i : Int) ≤ (cc : Int) := by omega
        by_cases hiq : i < q
        · obtain ⟨⟨h1, h2⟩, h3⟩ := HE.out i hiq
          rw [show hasB i R (R i) = false by unfold hasB; rw [decide_eq_true h3]; rfl] at HC
          clear h3
          have hd1 : decide (R i < 0) = false := by simp; omega
          have hd2 : decide (k ≤ R i) = false := by simp; omega
          go_wp2_with (go_at_call 36; refine HC.mono ?_; rintro e w' ⟨rfl, rfl⟩)
          go_round
          case rel => exact ⟨i + 1, by omega, by go_num⟩
          case measure => simp [intOf]; omega
        · obtain rfl : i = q := by omega
          have hn := HNE.out
          by_cases h1 : 0 ≤ R i
          · have hd1 : decide (R i < 0) = false := by simp; omega
            by_cases h2 : R i < k
            · have hd2 : decide (k ≤ R i) = false := by simp; omega
              rw [show hasB i R (R i) = true by unfold hasB; rw [decide_eq_false fun h => hn ⟨⟨h1, h2⟩, h⟩]; rfl] at HC
              clear hn
              go_wp2_with (go_at_call 36; refine HC.mono ?_; rintro e w' ⟨rfl, rfl⟩)
              go_ret
              exact ⟨rfl, rfl⟩
            · have hd2 : decide (k ≤ R i) = true := by simp; omega
              clear hn HC
              go_wp2
              go_ret
              exact ⟨rfl, rfl⟩
          · have hd1 : decide (R i < 0) = true := by simp; omega
            clear hn HC
            go_wp2
            go_ret
            exact ⟨rfl, rfl⟩
  · rw [show onceB k n R = false from decide_eq_false fun h => hnk h.1]
    go_enter Try.func24, Try.ntmps24
    go_wp2
    go_ret
    exact ⟨rfl, rfl⟩
end Go.Proofs.Ytgflgmkaaidfnaa
