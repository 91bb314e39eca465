/- Whether a ref may be; whether a list has an element that is marked; by the program. -/
import Derived.Test.YtjncnojplkljnaaDsA
namespace Go.Proofs.Ytjncnojplkljnaa
open Go.RowKit

set_option maxHeartbeats 400000 in
set_option maxRecDepth 100000 in
theorem mayBe_any (k r c q a v : Int) (w : World) :
    Calls Try.prog 57 #[.agg #[.int .i64 k, .int .i64 r, .int .i64 c, .int .i64 q], .agg #[.int .i64 a, .int .i64 v]] w fun e w' => e = .returned (.bool (okR q a v)) ∧ Below w.heap.size w w' := by
  have HO : Hid (okR q a v = decide (0 ≤ a ∧ a < q ∧ 1 ≤ v ∧ v ≤ 1073741824)) := rfl
  go_enter Try.func57, Try.ntmps57
  go_wp2
  all_goals (go_ret; refine ⟨ret_bool ?_, (below_alloc _ _).alloc (Nat.le_of_lt (by simp)) _⟩; rw [HO.out]; first | exact decide_eq_decide.2 (by omega) | exact (decide_eq_false (by omega)).symm | exact (decide_eq_true (by omega)).symm)
set_option maxHeartbeats 400000 in
set_option maxRecDepth 100000 in
theorem Ref_any (k r c q a v : Int) (w : World) :
    Calls Try.prog 64 #[.agg #[.int .i64 k, .int .i64 r, .int .i64 c, .int .i64 q], .agg #[.int .i64 a, .int .i64 v]] w fun e w' => e = .returned (.bool (okR q a v)) ∧ Below w.heap.size w w' := by
  have HO : Hid (okR q a v = decide (0 ≤ a ∧ a < q ∧ 1 ≤ v ∧ v ≤ 1073741824)) := rfl
  go_enter Try.func64, Try.ntmps64
  go_wp2
  all_goals (go_ret; refine ⟨ret_bool ?_, (below_alloc _ _).alloc (Nat.le_of_lt (by simp)) _⟩; rw [HO.out]; first | exact decide_eq_decide.2 (by omega) | exact (decide_eq_false (by omega)).symm | exact (decide_eq_true (by omega)).symm)
set_option maxHeartbeats 400000 in
set_option maxRecDepth 100000 in
theorem notMay_any (k r c q a v : Int) (pb : Nat) (w : World) (h0 : w.cell? ⟨pb, 0, none⟩ = some (.int .i64 k)) (h1 : w.cell? ⟨pb, 1, none⟩ = some (.int .i64 r)) (h2 : w.cell? ⟨pb, 2, none⟩ = some (.int .i64 c)) (h3 : w.cell? ⟨pb, 3, none⟩ = some (.int .i64 q)) :
    Calls Try.prog 56 #[.agg #[.int .i64 a, .int .i64 v], .pointer (some ⟨pb, 0, none⟩)] w fun e w' => e = .returned (.bool (!okR q a v)) ∧ Below w.heap.size w w' := by
  have HC := fun w => mayBe_any k r c q a v w
  obtain ⟨w0, hw0⟩ : ∃ w0, w0 = w.alloc (.cells #[.int .i64 a, .int .i64 v] 27) := ⟨_, rfl⟩
  have b0 : Below w.heap.size w w0 := by rw [hw0]; exact below_alloc _ _
  have g0 := held h0 b0
  have g1 := held h1 b0
  have g2 := held h2 b0
  have g3 := held h3 b0
  have x0 := blk_held hw0 (Below.refl _ _) 0 rfl
  have x1 := blk_held hw0 (Below.refl _ _) 1 rfl
  have u0 : ∀ o, (w.alloc o).cell? ⟨pb, 0, none⟩ = some (.int .i64 k) := fun o => held h0 (below_alloc _ _)
  have u1 : ∀ o, (w.alloc o).cell? ⟨pb, 1, none⟩ = some (.int .i64 r) := fun o => held h1 (below_alloc _ _)
  have u2 : ∀ o, (w.alloc o).cell? ⟨pb, 2, none⟩ = some (.int .i64 c) := fun o => held h2 (below_alloc _ _)
  have u3 : ∀ o, (w.alloc o).cell? ⟨pb, 3, none⟩ = some (.int .i64 q) := fun o => held h3 (below_alloc _ _)
  generalize okR q a v = b at *
  go_enter Try.func56, Try.ntmps56
  go_wp2_with fail
  rw [← hw0]
  refine (HC _).mono ?_
  rintro e wa ⟨rfl, ha⟩
  go_wp2_with fail
  go_ret
  exact ⟨rfl, below_then b0 ha⟩
set_option maxHeartbeats 400000 in
theorem notZero_any (u : UInt8) (w : World) : Calls Try.prog 59 #[.int .u8 ((u.toNat : Nat) : Int)] w fun e w' => e = .returned (.bool (!decide (u = 0))) ∧ Below w.heap.size w w' := by
  have HU : Hid ((u.toNat : Int) = 0 ↔ u = 0) := ⟨fun h => UInt8.toNat_inj.1 (by simpa using h), fun h => by rw [h]; rfl⟩
  obtain ⟨x, hx⟩ : ∃ x : Nat, u.toNat = x := ⟨_, rfl⟩
  rw [hx] at HU ⊢
  clear hx
  go_enter Try.func59, Try.ntmps59
  go_wp2
  go_ret
  refine ⟨ret_bool ?_, Below.refl _ _⟩
  by_cases hu : x = 0
  · rw [decide_eq_true (HU.out.1 (by omega))]; subst hu; rfl
  · rw [decide_eq_false (fun h => hu (by have := HU.out.2 h; omega))]
    have : ¬ (x : Int) = 0 := by omega
    simpa using this

/-- A function value that marks the elements of a list as P does, and makes new memory alone. -/
def RuleR (w : World) (fn : Nat) (cp : Array Value) (n : Nat) (R V : Nat → Int) (P : Nat → Bool) : Prop :=
  ∀ i, i < n → ∀ v, Below w.heap.size w v → Calls Try.prog fn (#[.agg #[.int .i64 (R i), .int .i64 (V i)]] ++ cp) v fun e w' => e = .returned (.bool (P i)) ∧ Below v.heap.size v w'
set_option maxHeartbeats 1000000 in
set_option maxRecDepth 100000 in
theorem indexR_any (w : World) (ao : Option Addr) (n ca fn : Nat) (cp : Array Value) (R V : Nat → Int) (P : Nat → Bool) (hn : n ≤ 1000) (hfn : ∀ xs w, (callFunc fn xs).run Try.prog w = .ok (.enter fn xs) w) (hr : RdR w ao n R V) (hf : RuleR w fn cp n R V P) :
    Calls Try.prog 70 #[.slice ao n ca, .func (.func fn) #[] cp] w fun e w' => ∃ x : Int, e = .returned (.int .i64 x) ∧ decide (0 ≤ x) = anyB n P ∧ Below w.heap.size w w' := by
  have HR : Hid (RdR w ao n R V) := hr
  have HF : Hid (RuleR w fn cp n R V P) := hf
  clear hr hf
  by_cases hall : ∀ i, i < n → P i = false
  · have HB : Hid (anyB n P = false) := by show _ = _; unfold anyB; rw [decide_eq_true hall]; rfl
    have HA : Hid (∀ i, i < n → P i = false) := hall
    clear hall
    go_enter Try.func70, Try.ntmps70
    go_wp2
    go_loopw [8] (fun x wr => ∃ i : Nat, i ≤ n ∧ x = .int .i64 i ∧ Hid (Below w.heap.size w wr)) (fun x _ => n - (intOf x).toNat)
    case atStart => exact ⟨0, Nat.zero_le _, rfl, Below.refl _ _⟩
    case round =>
      obtain ⟨i, hi, rfl, hbel⟩ := hrel
      by_cases hlt : i < n
      · obtain ⟨b, off, rfl, hc⟩ := (HR.out.below hbel.out) (by omega)
        obtain ⟨q0, q1⟩ := hc i hlt
        have HC := HF.out i hlt wr hbel.out
        rw [HA.out i hlt] at HC
        clear hc
        have i1 : (0 : Int) ≤ (i : Int) := by omega
        have i2 : (i : Int) < (n : Int) := by omega
        go_wp2_with fail
        refine HC.mono ?_
        rintro e w' ⟨rfl, hw'⟩
        have HB2 : Hid (Below w.heap.size w w') := below_then hbel.out hw'
        clear hw'
        go_wp2_with fail
        exact ⟨⟨i + 1, by omega, by go_num, HB2⟩, by simp [intOf]; omega⟩
      · go_wp2
        go_ret
        exact ⟨_, rfl, by rw [HB.out]; rfl, hbel.out⟩
  · have HB : Hid (anyB n P = true) := by show _ = _; unfold anyB; rw [decide_eq_false hall]; rfl
    obtain ⟨q, hq, hne, heq⟩ := first_not hall
    have HE : Hid (∀ i, i < q → P i = false) := heq
    have HN : Hid (P q = true) := by show _ = _; cases h : P q; exact absurd h hne; rfl
    clear hall hne heq
    go_enter Try.func70, Try.ntmps70
    go_wp2
    go_loopw [8] (fun x wr => ∃ i : Nat, i ≤ q ∧ x = .int .i64 i ∧ Hid (Below w.heap.size w wr)) (fun x _ => n - (intOf x).toNat)
    case atStart => exact ⟨0, Nat.zero_le _, rfl, Below.refl _ _⟩
    case round =>
      obtain ⟨i, hi, rfl, hbel⟩ := hrel
      have hlt : i < n := by omega
      obtain ⟨b, off, rfl, hc⟩ := (HR.out.below hbel.out) (by omega)
      obtain ⟨q0, q1⟩ := hc i hlt
      have HC := HF.out i hlt wr hbel.out
      clear hc
      have i1 : (0 : Int) ≤ (i : Int) := by omega
      have i2 : (i : Int) < (n : Int) := by omega
      by_cases hiq : i < q
      · rw [HE.out i hiq] at HC
        go_wp2_with fail
        refine HC.mono ?_
        rintro e w' ⟨rfl, hw'⟩
        have HB2 : Hid (Below w.heap.size w w') := below_then hbel.out hw'
        clear hw'
        go_wp2_with fail
        exact ⟨⟨i + 1, by omega, by go_num, HB2⟩, by simp [intOf]; omega⟩
      · obtain rfl : i = q := by omega
        rw [HN.out] at HC
        go_wp2_with fail
        refine HC.mono ?_
        rintro e w' ⟨rfl, hw'⟩
        have HB2 : Hid (Below w.heap.size w w') := below_then hbel.out hw'
        clear hw'
        go_wp2_with fail
        go_ret
        exact ⟨_, rfl, by rw [HB.out]; simp, HB2.out⟩
set_option maxHeartbeats 1000000 in
theorem containsR_any (w : World) (ao : Option Addr) (n ca fn : Nat) (cp : Array Value) (R V : Nat → Int) (P : Nat → Bool) (hn : n ≤ 1000) (hfn : ∀ xs w, (callFunc fn xs).run Try.prog w = .ok (.enter fn xs) w) (hr : RdR w ao n R V) (hf : RuleR w fn cp n R V P) :
    Calls Try.prog 55 #[.slice ao n ca, .func (.func fn) #[] cp] w fun e w' => e = .returned (.bool (anyB n P)) ∧ Below w.heap.size w w' := by
  have HX := indexR_any w ao n ca fn cp R V P hn hfn hr hf
  clear hr hf hfn
  go_enter Try.func55, Try.ntmps55
  go_wp2_with (go_at_call 70; refine HX.mono ?_; rintro e w' ⟨x, rfl, hx, hb⟩)
  go_ret
  exact ⟨by rw [← hx]; rfl, hb⟩

/-- A function value that marks the elements of a list as P does, and makes new memory alone. -/
def RuleB (w : World) (fn : Nat) (cp : Array Value) (n : Nat) (F : Nat → UInt8) (P : Nat → Bool) : Prop :=
  ∀ i, i < n → ∀ v, Below w.heap.size w v → Calls Try.prog fn (#[.int .u8 (((F i).toNat : Nat) : Int)] ++ cp) v fun e w' => e = .returned (.bool (P i)) ∧ Below v.heap.size v w'
set_option maxHeartbeats 1000000 in
set_option maxRecDepth 100000 in
theorem indexB_any (w : World) (ao : Option Addr) (n ca fn : Nat) (cp : Array Value) (F : Nat → UInt8) (P : Nat → Bool) (hn : n ≤ 1000) (hfn : ∀ xs w, (callFunc fn xs).run Try.prog w = .ok (.enter fn xs) w) (hr : RdU w ao n F) (hf : RuleB w fn cp n F P) :
    Calls Try.prog 71 #[.slice ao n ca, .func (.func fn) #[] cp] w fun e w' => ∃ x : Int, e = .returned (.int .i64 x) ∧ decide (0 ≤ x) = anyB n P ∧ Below w.heap.size w w' := by
  have HR : Hid (RdU w ao n F) := hr
  have HF : Hid (RuleB w fn cp n F P) := hf
  clear hr hf
  by_cases hall : ∀ i, i < n → P i = false
  · have HB : Hid (anyB n P = false) := by show _ = _; unfold anyB; rw [decide_eq_true hall]; rfl
    have HA : Hid (∀ i, i < n → P i = false) := hall
    clear hall
    go_enter Try.func71, Try.ntmps71
    go_wp2
    go_loopw [8] (fun x wr => ∃ i : Nat, i ≤ n ∧ x = .int .i64 i ∧ Hid (Below w.heap.size w wr)) (fun x _ => n - (intOf x).toNat)
    case atStart => exact ⟨0, Nat.zero_le _, rfl, Below.refl _ _⟩
    case round =>
      obtain ⟨i, hi, rfl, hbel⟩ := hrel
      by_cases hlt : i < n
      · obtain ⟨b, off, rfl, hc⟩ := (HR.out.below hbel.out) (by omega)
        have q0 := hc i hlt
        have HC := HF.out i hlt wr hbel.out
        rw [HA.out i hlt] at HC
        clear hc
        have i1 : (0 : Int) ≤ (i : Int) := by omega
        have i2 : (i : Int) < (n : Int) := by omega
        go_wp2_with fail
        refine HC.mono ?_
        rintro e w' ⟨rfl, hw'⟩
        have HB2 : Hid (Below w.heap.size w w') := below_then hbel.out hw'
        clear hw'
        go_wp2_with fail
        exact ⟨⟨i + 1, by omega, by go_num, HB2⟩, by simp [intOf]; omega⟩
      · go_wp2
        go_ret
        exact ⟨_, rfl, by rw [HB.out]; rfl, hbel.out⟩
  · have HB : Hid (anyB n P = true) := by show _ = _; unfold anyB; rw [decide_eq_false hall]; rfl
    obtain ⟨q, hq, hne, heq⟩ := first_not hall
    have HE : Hid (∀ i, i < q → P i = false) := heq
    have HN : Hid (P q = true) := by show _ = _; cases h : P q; exact absurd h hne; rfl
    clear hall hne heq
    go_enter Try.func71, Try.ntmps71
    go_wp2
    go_loopw [8] (fun x wr => ∃ i : Nat, i ≤ q ∧ x = .int .i64 i ∧ Hid (Below w.heap.size w wr)) (fun x _ => n - (intOf x).toNat)
    case atStart => exact ⟨0, Nat.zero_le _, rfl, Below.refl _ _⟩
    case round =>
      obtain ⟨i, hi, rfl, hbel⟩ := hrel
      have hlt : i < n := by omega
      obtain ⟨b, off, rfl, hc⟩ := (HR.out.below hbel.out) (by omega)
      have q0 := hc i hlt
      have HC := HF.out i hlt wr hbel.out
      clear hc
      have i1 : (0 : Int) ≤ (i : Int) := by omega
      have i2 : (i : Int) < (n : Int) := by omega
      by_cases hiq : i < q
      · rw [HE.out i hiq] at HC
        go_wp2_with fail
        refine HC.mono ?_
        rintro e w' ⟨rfl, hw'⟩
        have HB2 : Hid (Below w.heap.size w w') := below_then hbel.out hw'
        clear hw'
        go_wp2_with fail
        exact ⟨⟨i + 1, by omega, by go_num, HB2⟩, by simp [intOf]; omega⟩
      · obtain rfl : i = q := by omega
        rw [HN.out] at HC
        go_wp2_with fail
        refine HC.mono ?_
        rintro e w' ⟨rfl, hw'⟩
        have HB2 : Hid (Below w.heap.size w w') := below_then hbel.out hw'
        clear hw'
        go_wp2_with fail
        go_ret
        exact ⟨_, rfl, by rw [HB.out]; simp, HB2.out⟩
set_option maxHeartbeats 1000000 in
theorem containsB_any (w : World) (ao : Option Addr) (n ca fn : Nat) (cp : Array Value) (F : Nat → UInt8) (P : Nat → Bool) (hn : n ≤ 1000) (hfn : ∀ xs w, (callFunc fn xs).run Try.prog w = .ok (.enter fn xs) w) (hr : RdU w ao n F) (hf : RuleB w fn cp n F P) :
    Calls Try.prog 58 #[.slice ao n ca, .func (.func fn) #[] cp] w fun e w' => e = .returned (.bool (anyB n P)) ∧ Below w.heap.size w w' := by
  have HX := indexB_any w ao n ca fn cp F P hn hfn hr hf
  clear hr hf hfn
  go_enter Try.func58, Try.ntmps58
  go_wp2_with (go_at_call 71; refine HX.mono ?_; rintro e w' ⟨x, rfl, hx, hb⟩)
  go_ret
  exact ⟨by rw [← hx]; rfl, hb⟩
end Go.Proofs.Ytjncnojplkljnaa
