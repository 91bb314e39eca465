/- The stand that a call writes into. -/
import Derived.Test.YtapflgfifppckaaStC
namespace Go.Proofs.Ytapflgfifppckaa
open Go.RowKit

theorem erR_zero {x : Int} {N : Nat} {c : Int} {rn : Nat} {L : Nat → Nat} (h : erR x N c rn L = 0) : x = 0 ∧ rn = N ∧ ∀ j, j < 2 * rn → L j = 0 ∨ L j = sz N c := by
  unfold erR at h
  by_cases e : x = 0
  · rw [if_pos e] at h
    by_cases g : rn = N ∧ ∀ j, j < 2 * rn → L j = 0 ∨ L j = sz N c
    · exact ⟨e, g⟩
    · rw [if_neg g] at h; exact absurd h (by decide)
  · rw [if_neg e] at h; exact absurd h e
theorem erK_zero {x : Int} {N : Nat} {c : Int} {rn : Nat} {L : Nat → Nat} {kd : UInt8} {v : Int} (h : erK x N c rn L kd v = 0) : erR x N c rn L = 0 ∧ (kd = 1 ∨ kd = 2) ∧ 1 ≤ v ∧ v ≤ 1073741824 := by
  unfold erK at h
  by_cases e : erR x N c rn L = 0
  · rw [if_pos e] at h
    by_cases g : (kd = 1 ∨ kd = 2) ∧ 1 ≤ v ∧ v ≤ 1073741824
    · exact ⟨e, g⟩
    · rw [if_neg g] at h; exact absurd h (by decide)
  · rw [if_neg e] at h; exact absurd h e
theorem erW_zero {E q nu ke : Int} (h : erW E q nu ke = 0) : E = 0 ∧ (0 ≤ nu ∧ nu ≤ q - 1) ∧ 0 ≤ ke ∧ ke ≤ 1073741824 := by
  unfold erW at h
  by_cases e : E = 0
  · rw [if_pos e] at h
    by_cases g : (0 ≤ nu ∧ nu ≤ q - 1) ∧ 0 ≤ ke ∧ ke ≤ 1073741824
    · exact ⟨e, g⟩
    · rw [if_neg g] at h; exact absurd h (by decide)
  · rw [if_neg e] at h; exact absurd h e
theorem Par.rows {k r c q : Int} {N W : Nat} (h : Par k r c q N W 0) : 8 ≤ q ∧ q ≤ 256 := by
  rcases h with ⟨h, _⟩ | ⟨_, _, _, h⟩
  · obtain ⟨h1, h2, h3, h4, h5, h6, h7, h8, h9⟩ := may_true h; exact ⟨h8, h9⟩
  · exact absurd h (by decide)

set_option maxHeartbeats 4000000 in
set_option maxRecDepth 100000 in
theorem written_any {k r c q : Int} {N W : Nat} {x : Int} (h : Par k r c q N W x) (w : World) (ro : Option Addr) (rn rc : Nat) (A : Nat → Option Addr) (L C : Nat → Nat) (F : Nat → Nat → UInt8) (hr : Rw w ro rn A L C F) (nu : Int) (kd : UInt8) (ke v : Int) (E : Int) (hE : erW (erK x N c rn L kd v) q nu ke = E) :
    Calls Try.prog 15 #[.agg #[.int .i64 k, .int .i64 r, .int .i64 c, .int .i64 q], .slice ro rn rc, .int .i64 nu, .int .u8 ((kd.toNat : Nat) : Int), .int .i64 ke, .int .i64 v] w fun e w' => e = .returned (.tuple #[if E = 0 then stv k r c q ro rn rc kd else stz, .int .i64 E]) ∧ Below w.heap.size w w' := by
  obtain ⟨D, hD⟩ : ∃ D, erK x N c rn L kd v = D := ⟨_, rfl⟩
  have HC : Hid (∀ u, Below w.heap.size w u → Calls Try.prog 22 #[.agg #[.int .i64 k, .int .i64 r, .int .i64 c, .int .i64 q], .slice ro rn rc, .int .u8 ((kd.toNat : Nat) : Int), .int .i64 v] u fun e w' => e = .returned (.tuple #[if D = 0 then stv k r c q ro rn rc kd else stz, .int .i64 D]) ∧ Below u.heap.size u w') := fun u hu => asked_any h u ro rn rc A L C F (hr.below hu) kd v D hD
  rw [hD] at hE
  have hq : D = 0 → 8 ≤ q ∧ q ≤ 256 := fun e => by
    obtain ⟨h1, _⟩ := erK_zero (hD.trans e)
    obtain ⟨rfl, _⟩ := erR_zero h1
    exact h.rows
  clear hD h hr
  obtain ⟨w0, hw0⟩ : ∃ w0, w0 = w.alloc (.cells #[.int .i64 k, .int .i64 r, .int .i64 c, .int .i64 q] 23) := ⟨_, rfl⟩
  have b0 : Below w.heap.size w w0 := by rw [hw0]; exact below_alloc _ _
  have z0 : w0.heap.size = w.heap.size + 1 := by rw [hw0]; simp
  obtain ⟨w1, hw1⟩ : ∃ w1, w1 = w0.alloc (.cells #[.int .i64 0, .int .i64 0, .int .i64 0, .int .i64 0, .slice none 0 0, .int .u8 0] 50) := ⟨_, rfl⟩
  have b1 : Below w0.heap.size w0 w1 := by rw [hw1]; exact below_alloc _ _
  have B1 : Hid (Below w.heap.size w w1) := below_then b0 b1
  have L0 : Hid (∀ v, Below w1.heap.size w1 v → At w v w.heap.size #[.int .i64 k, .int .i64 r, .int .i64 c, .int .i64 q] 23) := fun v hv => (at_made (Below.refl _ _) hw0).below (below_then b1 hv)
  have L1 : Hid (∀ v, Below w1.heap.size w1 v → At w v (w.heap.size + 1) #[.int .i64 0, .int .i64 0, .int .i64 0, .int .i64 0, .slice none 0 0, .int .u8 0] 50) := fun v hv => by rw [← z0]; exact (at_made b0 hw1).below hv
  clear b0 b1 z0
  unfold stv stz at *
  generalize ((kd.toNat : Nat) : Int) = kv at *
  by_cases hd : D = 0
  · subst hd
    obtain ⟨q1, q2⟩ := hq rfl
    rw [if_pos rfl] at HC
    unfold erW at hE
    rw [if_pos rfl] at hE
    obtain ⟨y, hy⟩ : ∃ y, decide (0 ≤ nu ∧ nu ≤ q - 1) = y := ⟨_, rfl⟩
    obtain ⟨y', hy'⟩ : ∃ y', decide (0 ≤ ke ∧ ke ≤ 1073741824) = y' := ⟨_, rfl⟩
    have HW := fun w => within2_any nu 0 (q - 1) w
    have HW' := fun w => within2_any ke 0 1073741824 w
    rw [hy] at HW
    rw [hy'] at HW'
    have HE : Hid ((y = true → y' = true → E = 0) ∧ (y = true → y' = false → E = 2) ∧ (y = false → E = 2)) := by
      refine ⟨fun a b => ?_, fun a b => ?_, fun a => ?_⟩
      · rw [if_pos ⟨of_decide_eq_true (hy.trans a), of_decide_eq_true (hy'.trans b)⟩] at hE; exact hE.symm
      · rw [if_neg fun g => of_decide_eq_false (hy'.trans b) g.2] at hE; exact hE.symm
      · rw [if_neg fun g => of_decide_eq_false (hy.trans a) g.1] at hE; exact hE.symm
    clear hE hy hy' hq
    cases y
    · obtain rfl : E = 2 := HE.out.2.2 rfl
      rw [if_neg (show ¬ (2 : Int) = 0 by decide)]
      go_enter Try.func15, Try.ntmps15
      go_wp2_with fail
      rw [← hw0, ← hw1]
      refine (HC.out _ B1.out).mono ?_
      rintro e wa ⟨rfl, ha⟩
      have q0 := L0.out wa ha
      have s0 := fun o => (q0.alloc o).cell (i := 0) rfl
      have s1 := fun o => (q0.alloc o).cell (i := 1) rfl
      have s2 := fun o => (q0.alloc o).cell (i := 2) rfl
      have s3 := fun o => (q0.alloc o).cell (i := 3) rfl
      have q1' := L1.out wa ha
      have t0 := fun o => (q1'.alloc o).cell (i := 0) rfl
      have t1 := fun o => (q1'.alloc o).cell (i := 1) rfl
      have t2 := fun o => (q1'.alloc o).cell (i := 2) rfl
      have t3 := fun o => (q1'.alloc o).cell (i := 3) rfl
      have t4 := fun o => (q1'.alloc o).cell (i := 4) rfl
      have t5 := fun o => (q1'.alloc o).cell (i := 5) rfl
      have tf := fun o => (q1'.alloc o).free
      have HA : Hid (Below w1.heap.size w1 wa) := ha
      clear q0 q1' ha hw0 hw1
      go_wp2_with fail
      refine (HW _).mono ?_
      rintro e w' ⟨rfl, hw'⟩
      obtain rfl := hw'.symm
      go_wp2_with (go_at_call 30; refine (HW' _).mono ?_; rintro e w' ⟨rfl, hw'⟩; obtain rfl := hw'.symm)
      refine bodyPost_ret (v := .tuple #[.agg #[.int .i64 0, .int .i64 0, .int .i64 0, .int .i64 0, .slice none 0 0, .int .u8 0], .int .i64 2]) (by simp [results, Try.results15, go_sem, t0, t1, t2, t3, t4, t5]) rfl ⟨rfl, ?_⟩
      exact below_six (below_then (below_then B1.out HA.out) (below_alloc _ _)) (Nat.le_succ _) _ _ _ _ _ _
    · cases y'
      · obtain rfl : E = 2 := HE.out.2.1 rfl rfl
        rw [if_neg (show ¬ (2 : Int) = 0 by decide)]
        go_enter Try.func15, Try.ntmps15
        go_wp2_with fail
        rw [← hw0, ← hw1]
        refine (HC.out _ B1.out).mono ?_
        rintro e wa ⟨rfl, ha⟩
        have q0 := L0.out wa ha
        have s0 := fun o => (q0.alloc o).cell (i := 0) rfl
        have s1 := fun o => (q0.alloc o).cell (i := 1) rfl
        have s2 := fun o => (q0.alloc o).cell (i := 2) rfl
        have s3 := fun o => (q0.alloc o).cell (i := 3) rfl
        have q1' := L1.out wa ha
        have t0 := fun o => (q1'.alloc o).cell (i := 0) rfl
        have t1 := fun o => (q1'.alloc o).cell (i := 1) rfl
        have t2 := fun o => (q1'.alloc o).cell (i := 2) rfl
        have t3 := fun o => (q1'.alloc o).cell (i := 3) rfl
        have t4 := fun o => (q1'.alloc o).cell (i := 4) rfl
        have t5 := fun o => (q1'.alloc o).cell (i := 5) rfl
        have tf := fun o => (q1'.alloc o).free
        have HA : Hid (Below w1.heap.size w1 wa) := ha
        clear q0 q1' ha hw0 hw1
        go_wp2_with fail
        refine (HW _).mono ?_
        rintro e w' ⟨rfl, hw'⟩
        obtain rfl := hw'.symm
        go_wp2_with (go_at_call 30; refine (HW' _).mono ?_; rintro e w' ⟨rfl, hw'⟩; obtain rfl := hw'.symm)
        refine bodyPost_ret (v := .tuple #[.agg #[.int .i64 0, .int .i64 0, .int .i64 0, .int .i64 0, .slice none 0 0, .int .u8 0], .int .i64 2]) (by simp [results, Try.results15, go_sem, t0, t1, t2, t3, t4, t5]) rfl ⟨rfl, ?_⟩
        exact below_six (below_then (below_then B1.out HA.out) (below_alloc _ _)) (Nat.le_succ _) _ _ _ _ _ _
      · obtain rfl : E = 0 := HE.out.1 rfl rfl
        rw [if_pos rfl]
        go_enter Try.func15, Try.ntmps15
        go_wp2_with fail
        rw [← hw0, ← hw1]
        refine (HC.out _ B1.out).mono ?_
        rintro e wa ⟨rfl, ha⟩
        have q0 := L0.out wa ha
        have s0 := fun o => (q0.alloc o).cell (i := 0) rfl
        have s1 := fun o => (q0.alloc o).cell (i := 1) rfl
        have s2 := fun o => (q0.alloc o).cell (i := 2) rfl
        have s3 := fun o => (q0.alloc o).cell (i := 3) rfl
        have q1' := L1.out wa ha
        have t0 := fun o => (q1'.alloc o).cell (i := 0) rfl
        have t1 := fun o => (q1'.alloc o).cell (i := 1) rfl
        have t2 := fun o => (q1'.alloc o).cell (i := 2) rfl
        have t3 := fun o => (q1'.alloc o).cell (i := 3) rfl
        have t4 := fun o => (q1'.alloc o).cell (i := 4) rfl
        have t5 := fun o => (q1'.alloc o).cell (i := 5) rfl
        have tf := fun o => (q1'.alloc o).free
        have HA : Hid (Below w1.heap.size w1 wa) := ha
        clear q0 q1' ha hw0 hw1
        go_wp2_with fail
        refine (HW _).mono ?_
        rintro e w' ⟨rfl, hw'⟩
        obtain rfl := hw'.symm
        go_wp2_with (go_at_call 30; refine (HW' _).mono ?_; rintro e w' ⟨rfl, hw'⟩; obtain rfl := hw'.symm)
        refine bodyPost_ret (v := .tuple #[.agg #[.int .i64 k, .int .i64 r, .int .i64 c, .int .i64 q, .slice ro rn rc, .int .u8 kv], .int .i64 0]) (by simp [results, Try.results15, go_sem, t0, t1, t2, t3, t4, t5]) rfl ⟨rfl, ?_⟩
        exact below_six (below_then (below_then B1.out HA.out) (below_alloc _ _)) (Nat.le_succ _) _ _ _ _ _ _
  · rw [if_neg hd] at HC
    obtain rfl : D = E := by unfold erW at hE; rw [if_neg hd] at hE; exact hE
    rw [if_neg hd]
    have e1 : (D != 0) = true := by simp [hd]
    clear hE hq
    go_enter Try.func15, Try.ntmps15
    go_wp2_with fail
    rw [← hw0, ← hw1]
    refine (HC.out _ B1.out).mono ?_
    rintro e wa ⟨rfl, ha⟩
    have q0 := L0.out wa ha
    have s0 := fun o => (q0.alloc o).cell (i := 0) rfl
    have s1 := fun o => (q0.alloc o).cell (i := 1) rfl
    have s2 := fun o => (q0.alloc o).cell (i := 2) rfl
    have s3 := fun o => (q0.alloc o).cell (i := 3) rfl
    have q1' := L1.out wa ha
    have t0 := fun o => (q1'.alloc o).cell (i := 0) rfl
    have t1 := fun o => (q1'.alloc o).cell (i := 1) rfl
    have t2 := fun o => (q1'.alloc o).cell (i := 2) rfl
    have t3 := fun o => (q1'.alloc o).cell (i := 3) rfl
    have t4 := fun o => (q1'.alloc o).cell (i := 4) rfl
    have t5 := fun o => (q1'.alloc o).cell (i := 5) rfl
    have tf := fun o => (q1'.alloc o).free
    have HA : Hid (Below w1.heap.size w1 wa) := ha
    clear q0 q1' ha hw0 hw1
    go_wp2_with fail
    refine bodyPost_ret (v := .tuple #[.agg #[.int .i64 0, .int .i64 0, .int .i64 0, .int .i64 0, .slice none 0 0, .int .u8 0], .int .i64 D]) (by simp [results, Try.results15, go_sem, t0, t1, t2, t3, t4, t5]) rfl ⟨rfl, ?_⟩
    exact below_six (below_then (below_then B1.out HA.out) (below_alloc _ _)) (Nat.le_succ _) _ _ _ _ _ _
end Go.Proofs.Ytapflgfifppckaa
