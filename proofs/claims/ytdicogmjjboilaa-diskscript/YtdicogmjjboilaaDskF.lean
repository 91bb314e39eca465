/- Whether an image may be. -/
import Derived.Test.YtdicogmjjboilaaDskD
namespace Go.Proofs.Ytdicogmjjboilaa
open Go.RowKit

/-- Slots that fit their parameters. -/
def Okm (k r c q : Int) (n : Nat) (F : Nat → List UInt8) : Prop := (n : Int) = (k + r) * q * 2 ∧ ∀ i, i < n → (F i).length = 0 ∨ ((F i).length : Int) = 12 + 4 * (k + r) + c
/-- The error of an image. -/
def ErI (k r c q : Int) (n : Nat) (F : Nat → List UInt8) (x : Int) : Prop := (may k r c q = false ∧ x = 2) ∨ (may k r c q = true ∧ Okm k r c q n F ∧ x = 0) ∨ (may k r c q = true ∧ ¬ Okm k r c q n F ∧ x = 90)
theorem eri_any (k r c q : Int) (n : Nat) (F : Nat → List UInt8) : ∃ x, ErI k r c q n F x := by
  cases h : may k r c q
  · exact ⟨2, .inl ⟨h, rfl⟩⟩
  · by_cases o : Okm k r c q n F
    · exact ⟨0, .inr (.inl ⟨h, o, rfl⟩)⟩
    · exact ⟨90, .inr (.inr ⟨h, o, rfl⟩)⟩
theorem first_bad {P : Nat → Prop} : ∀ {n : Nat}, ¬ (∀ i, i < n → P i) → ∃ p, p < n ∧ ¬ P p ∧ ∀ i, i < p → P i
  | 0, h => absurd (fun i hi => absurd hi (Nat.not_lt_zero i)) h
  | n + 1, h => by
    by_cases h1 : ∀ i, i < n → P i
    · refine ⟨n, Nat.lt_succ_self n, fun hp => h fun i hi => ?_, h1⟩
      rcases Nat.lt_succ_iff_lt_or_eq.1 hi with h2 | rfl
      · exact h1 i h2
      · exact hp
    · obtain ⟨p, h2, h3⟩ := first_bad h1
      exact ⟨p, by omega, h3⟩
theorem okm_pm {k r c q : Int} {N Q S n : Nat} {F : Nat → List UInt8} (h : Pm k r c q N Q S) : Okm k r c q n F ↔ (n = N * Q * 2 ∧ Fit n S F) := by
  obtain ⟨_, hN, hQ, hS⟩ := h
  unfold Okm Fit
  rw [← hN, ← hQ]
  refine and_congr ⟨fun e => ?_, fun e => ?_⟩ ⟨fun e i hi => ?_, fun e i hi => ?_⟩
  · have : ((N * Q * 2 : Nat) : Int) = (N : Int) * (Q : Int) * 2 := by simp
    omega
  · rw [e]; simp
  · have := e i hi; omega
  · have := e i hi; omega
theorem img_held {w w0 w1 : World} {x0 x1 x2 x3 x4 : Value} {t : TypeId} (h0 : w0 = w.alloc (.cells #[x0, x1, x2, x3, x4] t)) (hb : Below w0.heap.size w0 w1) :
    w1.cell? ⟨w.heap.size, 0, none⟩ = some x0 ∧ w1.cell? ⟨w.heap.size, 1, none⟩ = some x1 ∧ w1.cell? ⟨w.heap.size, 2, none⟩ = some x2 ∧ w1.cell? ⟨w.heap.size, 3, none⟩ = some x3 ∧ w1.cell? ⟨w.heap.size, 4, none⟩ = some x4 := mea_held h0 hb
set_option maxHeartbeats 1000000 in
set_option maxRecDepth 100000 in
theorem checkImage_bad (k r c q : Int) (hm : may k r c q = false) (lo : Option Addr) (n cl : Nat) (w : World) :
    Calls Try.prog 42 #[.agg #[.int .i64 k, .int .i64 r, .int .i64 c, .int .i64 q, .slice lo n cl]] w fun e w' => e = .returned (.int .i64 2) ∧ Below w.heap.size w w' := by
  have HC := fun w => drives_bad hm w
  obtain ⟨w0, hw0⟩ : ∃ w0, w0 = w.alloc (.cells #[.int .i64 k, .int .i64 r, .int .i64 c, .int .i64 q, .slice lo n cl] 26) := ⟨_, rfl⟩
  have b0 : Below w.heap.size w w0 := by rw [hw0]; exact below_alloc _ _
  clear hm
  go_enter Try.func42, Try.ntmps42
  go_wp2_with fail
  rw [← hw0]
  refine (HC _).mono ?_
  rintro e wa ⟨rfl, ha⟩
  clear hw0
  go_wp2_with fail
  go_ret
  exact ⟨rfl, below_then b0 ha⟩
set_option maxHeartbeats 1000000 in
set_option maxRecDepth 100000 in
theorem checkImage_len {k r c q : Int} {N Q S : Nat} (h : Pm k r c q N Q S) (lo : Option Addr) (n cl : Nat) (hn : ¬ n = N * Q * 2) (w : World) :
    Calls Try.prog 42 #[.agg #[.int .i64 k, .int .i64 r, .int .i64 c, .int .i64 q, .slice lo n cl]] w fun e w' => e = .returned (.int .i64 90) ∧ Below w.heap.size w w' := by
  have HC := fun w => drives_ok h w
  have hb := h.bounds
  obtain ⟨p, hp⟩ : ∃ p, p = N * Q := ⟨_, rfl⟩
  rw [← hp] at hn hb
  have hv : Value.int .i64 (wrap64 ((N : Int) * (Q : Int))) = .int .i64 (p : Int) := by rw [w64 _ (by rw [show (N : Int) * (Q : Int) = ((N * Q : Nat) : Int) by simp, ← hp]; omega), hp]; simp
  have he : ((n : Int) != (p : Int) * 2) = true := by simp; omega
  have hp2 : p ≤ 8192 := by omega
  obtain rfl : q = (Q : Int) := h.2.2.1.symm
  obtain ⟨w0, hw0⟩ : ∃ w0, w0 = w.alloc (.cells #[.int .i64 k, .int .i64 r, .int .i64 c, .int .i64 (Q : Int), .slice lo n cl] 26) := ⟨_, rfl⟩
  have b0 : Below w.heap.size w w0 := by rw [hw0]; exact below_alloc _ _
  clear h hp hb
  go_enter Try.func42, Try.ntmps42
  go_wp2_with fail
  rw [← hw0]
  refine (HC _).mono ?_
  rintro e wa ⟨rfl, ha⟩
  obtain ⟨s0, s1, s2, s3, s4⟩ := img_held hw0 ha
  clear hw0
  go_wp2_with fail
  go_ret
  exact ⟨rfl, below_then b0 ha⟩
set_option maxHeartbeats 1000000 in
set_option maxRecDepth 100000 in
theorem checkImage_fit {k r c q : Int} {N Q S : Nat} (h : Pm k r c q N Q S) (lo : Option Addr) (n cl : Nat) (A : Nat → Option Addr) (C : Nat → Nat) (F : Nat → List UInt8) (hn : n = N * Q * 2) (w : World) (hl : Lst w lo n A C F) (x : Int) (hx : (Fit n S F ∧ x = 0) ∨ (¬ Fit n S F ∧ x = 90)) :
    Calls Try.prog 42 #[.agg #[.int .i64 k, .int .i64 r, .int .i64 c, .int .i64 q, .slice lo n cl]] w fun e w' => e = .returned (.int .i64 x) ∧ Below w.heap.size w w' := by
  have HC := fun w => drives_ok h w
  have HZ := fun w => slotSize_any h w
  have hb := h.bounds
  obtain ⟨p, hp⟩ : ∃ p, p = N * Q := ⟨_, rfl⟩
  rw [← hp] at hn hb
  have hv : Value.int .i64 (wrap64 ((N : Int) * (Q : Int))) = .int .i64 (p : Int) := by rw [w64 _ (by rw [show (N : Int) * (Q : Int) = ((N * Q : Nat) : Int) by simp, ← hp]; omega), hp]; simp
  have he : ((n : Int) != (p : Int) * 2) = false := by simp; omega
  have hp2 : p ≤ 8192 := by omega
  have hn2 : n ≤ 16384 := by omega
  have hS2 : S ≤ 140 := hb.2.2.2.2.2.1
  obtain rfl : q = (Q : Int) := h.2.2.1.symm
  have HL : Hid (Lst w lo n A C F) := hl
  have HX : Hid ((Fit n S F ∧ x = 0) ∨ (¬ Fit n S F ∧ x = 90)) := hx
  obtain ⟨w0, hw0⟩ : ∃ w0, w0 = w.alloc (.cells #[.int .i64 k, .int .i64 r, .int .i64 c, .int .i64 (Q : Int), .slice lo n cl] 26) := ⟨_, rfl⟩
  have b0 : Below w.heap.size w w0 := by rw [hw0]; exact below_alloc _ _
  clear h hp hb hn hl hx
  go_enter Try.func42, Try.ntmps42
  go_wp2_with fail
  rw [← hw0]
  refine (HC _).mono ?_
  rintro e wa ⟨rfl, ha⟩
  obtain ⟨s0, s1, s2, s3, s4⟩ := img_held hw0 ha
  go_wp2_with fail
  refine (HZ _).mono ?_
  rintro e wb ⟨rfl, hb⟩
  obtain ⟨t0, t1, t2, t3, t4⟩ := img_held hw0 (below_then ha hb)
  have HB : Hid (Below w.heap.size w wb) := below_then b0 (below_then ha hb)
  clear hw0 s0 s1 s2 s3 s4 ha hb HC HZ hv he
  go_wp2_with fail
  go_loop [7, 33] (fun _ x => ∃ i : Nat, i ≤ n ∧ x = .int .i64 i ∧ Hid (∀ j, j < i → (F j).length = 0 ∨ (F j).length = S)) (fun _ x => n - (intOf x).toNat)
  case atStart => exact ⟨0, Nat.zero_le _, rfl, fun j hj => absurd hj (Nat.not_lt_zero _)⟩
  case round =>
    obtain ⟨i, hi, rfl, hg⟩ := hrel
    by_cases hlt : i < n
    · obtain ⟨b, off, rfl, hc⟩ := (HL.out.below HB.out).at_ (by omega)
      have ck := hc i hlt
      obtain ⟨L, hL⟩ : ∃ L, L = (F i).length := ⟨_, rfl⟩
      have HLi : Hid (L = (F i).length) := hL
      rw [← hL] at ck
      clear hc hL
      have i1 : (0 : Int) ≤ (i : Int) := by omega
      have i2 : (i : Int) < (n : Int) := by omega
      by_cases h0 : L = 0
      · subst h0
        go_wp2_with fail
        go_round
        case rel => exact ⟨i + 1, by omega, by go_num, fun j hj => by rcases Nat.lt_succ_iff_lt_or_eq.1 hj with g | rfl; exact hg.out j g; exact .inl HLi.out.symm⟩
        case measure => simp [intOf]; omega
      · have k0 : ((L : Int) != 0) = true := by simp; omega
        by_cases h1 : L = S
        · have k1 : ((L : Int) != (S : Int)) = false := by simp; omega
          have HS : Hid (L = S) := h1
          clear h1
          go_wp2_with fail
          go_round
          case rel => exact ⟨i + 1, by omega, by go_num, fun j hj => by rcases Nat.lt_succ_iff_lt_or_eq.1 hj with g | rfl; exact hg.out j g; exact .inr (HLi.out.symm.trans HS.out)⟩
          case measure => simp [intOf]; omega
        · have k1 : ((L : Int) != (S : Int)) = true := by simp; omega
          have HF : Hid (x = 90) := by
            rcases HX.out with ⟨hf, _⟩ | ⟨_, e⟩
            · have := hf i hlt
              rw [← HLi.out] at this
              omega
            · exact e
          go_wp2_with fail
          go_ret
          exact ⟨ret_int HF.out.symm, HB.out⟩
    · obtain rfl : i = n := by omega
      have HF : Hid (x = 0) := by
        rcases HX.out with ⟨_, e⟩ | ⟨hf, _⟩
        · exact e
        · exact absurd hg.out hf
      go_wp2_with fail
      go_ret
      exact ⟨ret_int HF.out.symm, HB.out⟩
theorem checkImage_any {k r c q : Int} (lo : Option Addr) (n cl : Nat) (A : Nat → Option Addr) (C : Nat → Nat) (F : Nat → List UInt8) (x : Int) (hx : ErI k r c q n F x) (w : World) (hl : Lst w lo n A C F) :
    Calls Try.prog 42 #[.agg #[.int .i64 k, .int .i64 r, .int .i64 c, .int .i64 q, .slice lo n cl]] w fun e w' => e = .returned (.int .i64 x) ∧ Below w.heap.size w w' := by
  rcases hx with ⟨h, rfl⟩ | ⟨h, o, rfl⟩ | ⟨h, o, rfl⟩
  · exact checkImage_bad k r c q h lo n cl w
  · obtain ⟨N, Q, S, hp⟩ := pm_of h
    obtain ⟨h1, h2⟩ := (okm_pm hp).1 o
    exact checkImage_fit hp lo n cl A C F h1 w hl 0 (.inl ⟨h2, rfl⟩)
  · obtain ⟨N, Q, S, hp⟩ := pm_of h
    by_cases h1 : n = N * Q * 2
    · exact checkImage_fit hp lo n cl A C F h1 w hl 90 (.inr ⟨fun h2 => o ((okm_pm hp).2 ⟨h1, h2⟩), rfl⟩)
    · exact checkImage_len hp lo n cl h1 w
end Go.Proofs.Ytdicogmjjboilaa
