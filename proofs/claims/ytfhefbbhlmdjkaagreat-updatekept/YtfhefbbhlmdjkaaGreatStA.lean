/- Rows in memory; whether a row may be; the stand that a call asks for. -/
import Derived.Test.YtfhefbbhlmdjkaaGreatStMath
import Derived.LoopN
namespace Go.Proofs.YtfhefbbhlmdjkaaGreat
open Go.RowKit

/-- A row of rn pairs at ro: slot number j lies at A j, has L j bytes, reads as F j. -/
structure Rw (w : World) (ro : Option Addr) (rn : Nat) (A : Nat → Option Addr) (L C : Nat → Nat) (F : Nat → Nat → UInt8) : Prop where
  at_ : 0 < rn → ∃ b off, ro = some ⟨b, off, none⟩ ∧ ∀ i, i < rn → w.cell? ⟨b, off + i * 2, none⟩ = some (.slice (A (2 * i)) (L (2 * i)) (C (2 * i))) ∧ w.cell? ⟨b, off + i * 2 + 1, none⟩ = some (.slice (A (2 * i + 1)) (L (2 * i + 1)) (C (2 * i + 1)))
  bec : ∀ j, j < 2 * rn → Bec w (A j) (L j) (C j) (F j)
theorem Rw.below {w w' : World} {ro : Option Addr} {rn : Nat} {A : Nat → Option Addr} {L C : Nat → Nat} {F : Nat → Nat → UInt8} (h : Rw w ro rn A L C F) (hb : Below w.heap.size w w') : Rw w' ro rn A L C F := by
  refine ⟨fun hp => ?_, fun j hj => (h.bec j hj).below hb⟩
  obtain ⟨b, off, rfl, hc⟩ := h.at_ hp
  exact ⟨b, off, rfl, fun i hi => ⟨held (hc i hi).1 hb, held (hc i hi).2 hb⟩⟩
theorem fun_call (fn : Nat) (h : ∀ xs w, (callFunc fn xs).run Tryz.prog w = .ok (.enter fn xs) w) : Hid (∀ xs w, (callFunc fn xs).run Tryz.prog w = .ok (.enter fn xs) w) := h
set_option maxHeartbeats 400000 in
theorem within2_any (n a b : Int) (w : World) :
    Calls Tryz.prog 49 #[.int .i64 n, .int .i64 a, .int .i64 b] w fun e w' => e = .returned (.bool (decide (a ≤ n ∧ n ≤ b))) ∧ w' = w := by
  rw [Bool.decide_and]
  go_enter Tryz.func49, Tryz.ntmps49
  go_wp2
  · go_ret
    exact ⟨ret_bool (by rw [decide_eq_true (show a ≤ n by omega)]; rfl), rfl⟩
  · go_ret
    exact ⟨ret_bool (by rw [decide_eq_false (show ¬ a ≤ n by omega)]; rfl), rfl⟩
/-- A function value that marks the slices of a list as P does. -/
def RuleC (w : World) (fn : Nat) (cp : Array Value) (n : Nat) (A : Nat → Option Addr) (L C : Nat → Nat) (P : Nat → Bool) : Prop :=
  ∀ i, i < n → Calls Tryz.prog fn (#[.slice (A i) (L i) (C i)] ++ cp) w fun e w' => e = .returned (.bool (P i)) ∧ w' = w
def RdC (w : World) (ao : Option Addr) (n : Nat) (A : Nat → Option Addr) (L C : Nat → Nat) : Prop := 0 < n → ∃ b off, ao = some ⟨b, off, none⟩ ∧ ∀ i, i < n → w.cell? ⟨b, off + i, none⟩ = some (.slice (A i) (L i) (C i))
set_option maxHeartbeats 1000000 in
set_option maxRecDepth 100000 in
theorem indexC_any (w : World) (ao : Option Addr) (n ca fn : Nat) (cp : Array Value) (A : Nat → Option Addr) (L C : Nat → Nat) (P : Nat → Bool) (hn : n ≤ 1000) (hfn : ∀ xs w, (callFunc fn xs).run Tryz.prog w = .ok (.enter fn xs) w) (hr : RdC w ao n A L C) (hf : RuleC w fn cp n A L C P) :
    Calls Tryz.prog 93 #[.slice ao n ca, .func (.func fn) #[] cp] w fun e w' => ∃ x : Int, e = .returned (.int .i64 x) ∧ decide (0 ≤ x) = anyB n P ∧ w' = w := by
  have HR : Hid (RdC w ao n A L C) := hr
  have HF : Hid (RuleC w fn cp n A L C P) := hf
  clear hr hf
  by_cases hall : ∀ i, i < n → P i = false
  · have HB : Hid (anyB n P = false) := by show _ = _; unfold anyB; rw [decide_eq_true hall]; rfl
    have HA : Hid (∀ i, i < n → P i = false) := hall
    clear hall
    go_enter Tryz.func93, Tryz.ntmps93
    go_wp2
    go_loop [8] (fun x => ∃ i : Nat, i ≤ n ∧ x = .int .i64 i) (fun x => n - (intOf x).toNat)
    case atStart => exact ⟨0, Nat.zero_le _, rfl⟩
    case round =>
      obtain ⟨i, hi, rfl⟩ := hrel
      by_cases hlt : i < n
      · obtain ⟨b, off, rfl, hc⟩ := HR.out (by omega)
        have ck := hc i hlt
        have HC := HF.out i hlt
        rw [HA.out i hlt] at HC
        clear hc
        have i1 : (0 : Int) ≤ (i : Int) := by omega
        have i2 : (i : Int) < (n : Int) := by omega
        go_wp2_with fail
        refine HC.mono ?_
        rintro e w' ⟨rfl, rfl⟩
        go_wp2_with fail
        go_round
        case rel => exact ⟨i + 1, by omega, by go_num⟩
        case measure => simp [intOf]; omega
      · go_wp2
        go_ret
        exact ⟨_, rfl, by rw [HB.out]; rfl, rfl⟩
  · have HB : Hid (anyB n P = true) := by show _ = _; unfold anyB; rw [decide_eq_false hall]; rfl
    obtain ⟨q, hq, hne, heq⟩ := first_not hall
    have HE : Hid (∀ i, i < q → P i = false) := heq
    have HN : Hid (P q = true) := by show _ = _; cases h : P q; exact absurd h hne; rfl
    clear hall hne heq
    go_enter Tryz.func93, Tryz.ntmps93
    go_wp2
    go_loop [8] (fun x => ∃ i : Nat, i ≤ q ∧ x = .int .i64 i) (fun x => n - (intOf x).toNat)
    case atStart => exact ⟨0, Nat.zero_le _, rfl⟩
    case round =>
      obtain ⟨i, hi, rfl⟩ := hrel
      have hlt : i < n := by omega
      obtain ⟨b, off, rfl, hc⟩ := HR.out (by omega)
      have ck := hc i hlt
      have HC := HF.out i hlt
      clear hc
      have i1 : (0 : Int) ≤ (i : Int) := by omega
      have i2 : (i : Int) < (n : Int) := by omega
      by_cases hiq : i < q
      · rw [HE.out i hiq] at HC
        go_wp2_with fail
        refine HC.mono ?_
        rintro e w' ⟨rfl, rfl⟩
        go_wp2_with fail
        go_round
        case rel => exact ⟨i + 1, by omega, by go_num⟩
        case measure => simp [intOf]; omega
      · obtain rfl : i = q := by omega
        rw [HN.out] at HC
        go_wp2_with fail
        refine HC.mono ?_
        rintro e w' ⟨rfl, rfl⟩
        go_wp2_with fail
        go_ret
        exact ⟨_, rfl, by rw [HB.out]; simp, rfl⟩
set_option maxHeartbeats 1000000 in
theorem containsC_any (w : World) (ao : Option Addr) (n ca fn : Nat) (cp : Array Value) (A : Nat → Option Addr) (L C : Nat → Nat) (P : Nat → Bool) (hn : n ≤ 1000) (hfn : ∀ xs w, (callFunc fn xs).run Tryz.prog w = .ok (.enter fn xs) w) (hr : RdC w ao n A L C) (hf : RuleC w fn cp n A L C P) :
    Calls Tryz.prog 78 #[.slice ao n ca, .func (.func fn) #[] cp] w fun e w' => e = .returned (.bool (anyB n P)) ∧ w' = w := by
  have HX := indexC_any w ao n ca fn cp A L C P hn hfn hr hf
  clear hr hf hfn
  go_enter Tryz.func78, Tryz.ntmps78
  go_wp2_with (go_at_call 93; refine HX.mono ?_; rintro e w' ⟨x, rfl, hx, rfl⟩)
  go_ret
  exact ⟨by rw [← hx]; rfl, rfl⟩
def badL (z l : Nat) : Bool := decide (l ≠ 0 ∧ l ≠ z)
set_option maxHeartbeats 1000000 in
theorem bad_any (w : World) (a : Option Addr) (l cp g z : Nat) (hg : w.cell? ⟨g, 0, none⟩ = some (.int .i64 (z : Int))) :
    Calls Tryz.prog 79 #[.slice a l cp, .pointer (some ⟨g, 0, none⟩)] w fun e w' => e = .returned (.bool (badL z l)) ∧ w' = w := by
  have HV : Hid (badL z l = decide (l ≠ 0 ∧ l ≠ z)) := rfl
  by_cases h0 : l = 0
  · have h1 : ((l : Int) != 0) = false := by simp [h0]
    go_enter Tryz.func79, Tryz.ntmps79
    go_wp2
    go_ret
    refine ⟨ret_bool ?_, rfl⟩
    rw [HV.out, decide_eq_false (by omega)]
  · have h1 : ((l : Int) != 0) = true := by simp [h0]
    have h2 : ((l : Int) != (z : Int)) = decide (l ≠ z) := by
      by_cases e : l = z
      · subst e; simp
      · rw [decide_eq_true e]; simp; omega
    go_enter Tryz.func79, Tryz.ntmps79
    go_wp2
    go_ret
    refine ⟨ret_bool ?_, rfl⟩
    rw [HV.out]
    first | (by_cases e : l = z; subst e; simp; simp [h0, e]; done) | simp [h0]
end Go.Proofs.YtfhefbbhlmdjkaaGreat
