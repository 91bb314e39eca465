/- Whether a matrix may be; the unit matrix; the parity's matrix. -/
import Derived.Test.YthkikocacbbhkaaMatD
namespace Go.Proofs.Ythkikocacbbhkaa
open Go.RowKit

def okM (ll : Nat) (L : Nat → Nat) : Bool := decide (1 ≤ ll ∧ ll ≤ 32 ∧ 1 ≤ L 0 ∧ L 0 ≤ 32 ∧ ∀ i, i < ll → L i = L 0)
theorem okM_true {ll : Nat} {L : Nat → Nat} (h : okM ll L = true) : 1 ≤ ll ∧ ll ≤ 32 ∧ 1 ≤ L 0 ∧ L 0 ≤ 32 ∧ ∀ i, i < ll → L i = L 0 := of_decide_eq_true h
theorem exists_first {p : Nat → Prop} (j : Nat) (h : ¬ p j) : ∃ k, k ≤ j ∧ ¬ p k ∧ ∀ i, i < k → p i := by
  induction j using Nat.strongRecOn with
  | _ j ih =>
    by_cases g : ∀ i, i < j → p i
    · exact ⟨j, Nat.le_refl _, h, g⟩
    · obtain ⟨i, hi⟩ := Classical.not_forall.1 g
      obtain ⟨hij, hpi⟩ := Classical.not_imp.1 hi
      obtain ⟨k, hk, h1, h2⟩ := ih i hij hpi
      exact ⟨k, by omega, h1, h2⟩
theorem first_not {p : Nat → Prop} {n : Nat} (h : ¬ ∀ i, i < n → p i) : ∃ q, q < n ∧ ¬ p q ∧ ∀ i, i < q → p i := by
  obtain ⟨i, hi⟩ := Classical.not_forall.1 h
  obtain ⟨p1, p2⟩ := Classical.not_imp.1 hi
  obtain ⟨k, hk, p3, p4⟩ := exists_first (p := p) i p2
  exact ⟨k, by omega, p3, p4⟩

set_option maxHeartbeats 400000 in
set_option maxRecDepth 100000 in
theorem check_any (w : World) (lo : Option Addr) (ll cl : Nat) (A : Nat → Option Addr) (C L : Nat → Nat) (H : M) (hl : Lst w lo ll A C L H) :
    Calls Try.prog 61 #[.slice lo ll cl] w fun e w' => e = .returned (.int .i64 (errB (okM ll L) 30)) ∧ w' = w := by
  by_cases h1 : 1 ≤ ll ∧ ll ≤ 32
  · obtain ⟨b, off, rfl, hcl⟩ := hl.at_ (by omega)
    have HCL : Hid (∀ i, i < ll → w.cell? ⟨b, off + i, none⟩ = some (.slice (A i) (L i) (C i))) := hcl
    have c0 := hcl 0 (by omega)
    rw [Nat.add_zero] at c0
    have W1 := within_any w (ll : Int) 32
    rw [show decide ((1 : Int) ≤ (ll : Int) ∧ (ll : Int) ≤ 32) = true from decide_eq_true (by omega)] at W1
    have i1 : (0 : Int) < (ll : Int) := by omega
    obtain ⟨l0, hl0⟩ : ∃ l0, l0 = L 0 := ⟨_, rfl⟩
    rw [← hl0] at c0
    by_cases h2 : 1 ≤ l0 ∧ l0 ≤ 32
    · have W2 := within_any w (l0 : Int) 32
      rw [show decide ((1 : Int) ≤ (l0 : Int) ∧ (l0 : Int) ≤ 32) = true from decide_eq_true (by omega)] at W2
      by_cases h3 : ∀ i, i < ll → L i = l0
      · rw [show errB (okM ll L) 30 = 0 by rw [show okM ll L = true from decide_eq_true ⟨h1.1, h1.2, by rw [← hl0]; exact h2.1, by rw [← hl0]; exact h2.2, by rw [← hl0]; exact h3⟩]; rfl]
        have H3 : Hid (∀ i, i < ll → L i = l0) := h3
        clear hcl hl h3 hl0
        have hq : ((l0 : Int) != (l0 : Int)) = false := by simp
        go_enter Try.func61, Try.ntmps61
        go_wp2_with fail
        refine W1.mono ?_
        rintro e w' ⟨rfl, hw'⟩
        obtain rfl := hw'.symm
        go_wp2_with fail
        refine W2.mono ?_
        rintro e w' ⟨rfl, hw'⟩
        obtain rfl := hw'.symm
        go_wp2_with fail
        go_loop [19] (fun i => ∃ k : Nat, k ≤ ll ∧ i = .int .i64 k) (fun i => ll - (intOf i).toNat)
        case atStart => exact ⟨0, Nat.zero_le _, rfl⟩
        case round =>
          obtain ⟨k, hk, rfl⟩ := hrel
          by_cases hlt : k < ll
          · have ck := HCL.out k hlt
            rw [H3.out k hlt] at ck
            have i2 : (0 : Int) ≤ (k : Int) := by omega
            have i3 : (k : Int) < (ll : Int) := by omega
            go_wp2
            go_round
            case rel => exact ⟨k + 1, by omega, by go_num⟩
            case measure => simp [intOf]; omega
          · go_wp2
            go_ret
            exact ⟨rfl, rfl⟩
      · rw [show errB (okM ll L) 30 = 30 by rw [show okM ll L = false from decide_eq_false fun g => h3 (by rw [hl0]; exact g.2.2.2.2)]; rfl]
        obtain ⟨q, hq, hne, heq⟩ := first_not h3
        have H3 : Hid (∀ i, i < q → L i = l0) := heq
        have HN : Hid (¬ L q = l0) := hne
        clear hcl hl h3 hl0 heq hne
        have hq0 : ((l0 : Int) != (l0 : Int)) = false := by simp
        go_enter Try.func61, Try.ntmps61
        go_wp2_with fail
        refine W1.mono ?_
        rintro e w' ⟨rfl, hw'⟩
        obtain rfl := hw'.symm
        go_wp2_with fail
        refine W2.mono ?_
        rintro e w' ⟨rfl, hw'⟩
        obtain rfl := hw'.symm
        go_wp2_with fail
        go_loop [19] (fun i => ∃ k : Nat, k ≤ q ∧ i = .int .i64 k) (fun i => ll - (intOf i).toNat)
        case atStart => exact ⟨0, Nat.zero_le _, rfl⟩
        case round =>
          obtain ⟨k, hk, rfl⟩ := hrel
          have ck := HCL.out k (by omega)
          have i2 : (0 : Int) ≤ (k : Int) := by omega
          have i3 : (k : Int) < (ll : Int) := by omega
          by_cases hlt : k < q
          · rw [H3.out k hlt] at ck
            go_wp2
            go_round
            case rel => exact ⟨k + 1, by omega, by go_num⟩
            case measure => simp [intOf]; omega
          · obtain rfl : k = q := by omega
            have hb : ((L k : Int) != (l0 : Int)) = true := by have := HN.out; simp; omega
            go_wp2
            go_ret
            exact ⟨rfl, rfl⟩
    · rw [show errB (okM ll L) 30 = 30 by rw [show okM ll L = false from decide_eq_false fun g => h2 (by rw [hl0]; exact ⟨g.2.2.1, g.2.2.2.1⟩)]; rfl]
      have W2 := within_any w (l0 : Int) 32
      rw [show decide ((1 : Int) ≤ (l0 : Int) ∧ (l0 : Int) ≤ 32) = false from decide_eq_false (by omega)] at W2
      clear hcl hl hl0
      go_enter Try.func61, Try.ntmps61
      go_wp2_with fail
      refine W1.mono ?_
      rintro e w' ⟨rfl, hw'⟩
      obtain rfl := hw'.symm
      go_wp2_with fail
      refine W2.mono ?_
      rintro e w' ⟨rfl, hw'⟩
      obtain rfl := hw'.symm
      go_wp2_with fail
      go_ret
      exact ⟨rfl, rfl⟩
  · rw [show errB (okM ll L) 30 = 30 by rw [show okM ll L = false from decide_eq_false fun g => h1 ⟨g.1, g.2.1⟩]; rfl]
    have W1 := within_any w (ll : Int) 32
    rw [show decide ((1 : Int) ≤ (ll : Int) ∧ (ll : Int) ≤ 32) = false from decide_eq_false (by omega)] at W1
    clear hl
    go_enter Try.func61, Try.ntmps61
    go_wp2_with fail
    refine W1.mono ?_
    rintro e w' ⟨rfl, hw'⟩
    obtain rfl := hw'.symm
    go_wp2_with fail
    go_ret
    exact ⟨rfl, rfl⟩

theorem rule_unit (w : World) (rows cols : Nat) : Rule w 54 #[] rows cols one := fun w' i j _ _ _ =>
  (unit_any w' i j).mono fun _ _ ⟨h1, h2⟩ => ⟨h1, 0, h2⟩

def okN (n m : Int) : Bool := decide (1 ≤ n ∧ n ≤ m)
set_option maxHeartbeats 400000 in
set_option maxRecDepth 100000 in
theorem one_any (w : World) (n : Int) : Calls Try.prog 40 #[.int .i64 n] w (Made w (okN n 32) 2 n.toNat n.toNat one) := by
  have W1 := within_any w n 32
  rw [show decide (1 ≤ n ∧ n ≤ 32) = okN n 32 from rfl] at W1
  cases hok : okN n 32
  · rw [hok] at W1
    go_enter Try.func40, Try.ntmps40
    go_wp2_with fail
    refine W1.mono ?_
    rintro e w' ⟨rfl, hw'⟩
    obtain rfl := hw'.symm
    go_wp2_with fail
    go_ret2
    exact ⟨none, 0, rfl, .inl ⟨rfl, rfl, rfl⟩, Below.refl _ _⟩
  · have h := of_decide_eq_true hok
    rw [hok] at W1
    obtain ⟨m, rfl⟩ := Int.eq_ofNat_of_zero_le (show 0 ≤ n by omega)
    rw [Int.toNat_natCast]
    have HMD := made_any w m m 54 #[] one (by omega) (by omega) (fun _ _ => rfl) (rule_unit w m m)
    clear hok
    go_enter Try.func40, Try.ntmps40
    go_wp2_with fail
    refine W1.mono ?_
    rintro e w' ⟨rfl, hw'⟩
    obtain rfl := hw'.symm
    go_wp2_with fail
    refine HMD.mono ?_
    rintro e w1 ⟨l, G, U, rfl, hm, hb⟩
    go_wp2_with fail
    go_ret2
    exact ⟨_, _, rfl, .inr ⟨l, G, U, rfl, hm⟩, hb⟩
end Go.Proofs.Ythkikocacbbhkaa
