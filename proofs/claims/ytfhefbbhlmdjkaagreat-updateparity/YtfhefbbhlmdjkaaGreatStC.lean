/- The stand that a call asks for, that a call writes into. -/
import Derived.Test.YtfhefbbhlmdjkaaGreatStB
namespace Go.Proofs.YtfhefbbhlmdjkaaGreat
open Go.RowKit

/-- The value of a stand. -/
def stv (k r c q : Int) (ro : Option Addr) (rn rc : Nat) (kd : UInt8) : Value := .agg #[.int .i64 k, .int .i64 r, .int .i64 c, .int .i64 q, .slice ro rn rc, .int .u8 ((kd.toNat : Nat) : Int)]
def stz : Value := .agg #[.int .i64 0, .int .i64 0, .int .i64 0, .int .i64 0, .slice none 0 0, .int .u8 0]
/-- The errors of what is asked for a version; of what is written. -/
def erK (x : Int) (N : Nat) (c : Int) (rn : Nat) (L : Nat → Nat) (kd : UInt8) (v : Int) : Int := if erR x N c rn L = 0 then (if (kd = 1 ∨ kd = 2) ∧ 1 ≤ v ∧ v ≤ 1073741824 then 0 else 2) else erR x N c rn L
def erW (E q nu ke : Int) : Int := if E = 0 then (if (0 ≤ nu ∧ nu ≤ q - 1) ∧ 0 ≤ ke ∧ ke ≤ 1073741824 then 0 else 2) else E
theorem only_six (v : World) (g : Nat) (u0 u1 u2 u3 u4 u5 : Value) : Only (fun x => x = g) v ((((((v.setCell ⟨g, 0, none⟩ (u0)).setCell ⟨g, 1, none⟩ (u1)).setCell ⟨g, 2, none⟩ (u2)).setCell ⟨g, 3, none⟩ (u3)).setCell ⟨g, 4, none⟩ (u4)).setCell ⟨g, 5, none⟩ (u5)) := only_lo v g u0 u1 u2 u3 u4 u5
theorem below_six {a v : World} {g : Nat} (h : Below a.heap.size a v) (hg : a.heap.size ≤ g) (u0 u1 u2 u3 u4 u5 : Value) : Below a.heap.size a ((((((v.setCell ⟨g, 0, none⟩ (u0)).setCell ⟨g, 1, none⟩ (u1)).setCell ⟨g, 2, none⟩ (u2)).setCell ⟨g, 3, none⟩ (u3)).setCell ⟨g, 4, none⟩ (u4)).setCell ⟨g, 5, none⟩ (u5)) :=
  h.trans ((only_six v g u0 u1 u2 u3 u4 u5).below (fun i hi => by omega) h.size)

set_option maxHeartbeats 4000000 in
set_option maxRecDepth 100000 in
theorem asked_any {k r c q : Int} {N W : Nat} {x : Int} (h : Par k r c q N W x) (w : World) (ro : Option Addr) (rn rc : Nat) (A : Nat → Option Addr) (L C : Nat → Nat) (F : Nat → Nat → UInt8) (hr : Rw w ro rn A L C F) (kd : UInt8) (v : Int) (E : Int) (hE : erK x N c rn L kd v = E) :
    Calls Tryz.prog 23 #[.agg #[.int .i64 k, .int .i64 r, .int .i64 c, .int .i64 q], .slice ro rn rc, .int .u8 ((kd.toNat : Nat) : Int), .int .i64 v] w fun e w' => e = .returned (.tuple #[if E = 0 then stv k r c q ro rn rc kd else stz, .int .i64 E]) ∧ Below w.heap.size w w' := by
  obtain ⟨D, hD⟩ : ∃ D, erR x N c rn L = D := ⟨_, rfl⟩
  have HC : Hid (∀ v, Below w.heap.size w v → Calls Tryz.prog 48 #[.agg #[.int .i64 k, .int .i64 r, .int .i64 c, .int .i64 q], .slice ro rn rc] v fun e w' => e = .returned (.int .i64 D) ∧ Below v.heap.size v w') := fun v hv => checkRow_any h v ro rn rc A L C F (hr.below hv) D hD
  unfold erK at hE
  rw [hD] at hE
  clear hD h hr
  obtain ⟨w0, hw0⟩ : ∃ w0, w0 = w.alloc (.cells #[.int .i64 k, .int .i64 r, .int .i64 c, .int .i64 q] 23) := ⟨_, rfl⟩
  have b0 : Below w.heap.size w w0 := by rw [hw0]; exact below_alloc _ _
  have z0 : w0.heap.size = w.heap.size + 1 := by rw [hw0]; simp
  obtain ⟨w1, hw1⟩ : ∃ w1, w1 = w0.alloc (.cells #[.int .i64 0, .int .i64 0, .int .i64 0, .int .i64 0, .slice none 0 0, .int .u8 0] 69) := ⟨_, rfl⟩
  have b1 : Below w0.heap.size w0 w1 := by rw [hw1]; exact below_alloc _ _
  have B1 : Hid (Below w.heap.size w w1) := below_then b0 b1
  have L0 : Hid (∀ v, Below w1.heap.size w1 v → At w v w.heap.size #[.int .i64 k, .int .i64 r, .int .i64 c, .int .i64 q] 23) := fun v hv => (at_made (Below.refl _ _) hw0).below (below_then b1 hv)
  have L1 : Hid (∀ v, Below w1.heap.size w1 v → At w v (w.heap.size + 1) #[.int .i64 0, .int .i64 0, .int .i64 0, .int .i64 0, .slice none 0 0, .int .u8 0] 69) := fun v hv => by rw [← z0]; exact (at_made b0 hw1).below hv
  clear b0 b1 z0
  have hk1 := kd_one kd
  have hk2 := kd_two kd
  unfold stv stz
  by_cases hd : D = 0
  · subst hd
    rw [if_pos rfl] at hE
    obtain ⟨y, hy⟩ : ∃ y, decide (1 ≤ v ∧ v ≤ 1073741824) = y := ⟨_, rfl⟩
    have HW := fun w => within2_any v 1 1073741824 w
    rw [hy] at HW
    have HE : Hid (((kd = 1 ∨ kd = 2) → y = true → E = 0) ∧ ((kd = 1 ∨ kd = 2) → y = false → E = 2) ∧ (¬ (kd = 1 ∨ kd = 2) → E = 2)) := by
      refine ⟨fun a b => ?_, fun a b => ?_, fun a => ?_⟩
      · rw [if_pos ⟨a, of_decide_eq_true (hy.trans b)⟩] at hE; exact hE.symm
      · rw [if_neg fun g => of_decide_eq_false (hy.trans b) g.2] at hE; exact hE.symm
      · rw [if_neg fun g => a g.1] at hE; exact hE.symm
    clear hE hy
    by_cases g1 : kd = 1
    · subst g1
      rw [show ((UInt8.toNat 1 : Nat) : Int) = 1 from rfl]
      cases y
      · obtain rfl : E = 2 := HE.out.2.1 (.inl rfl) rfl
        rw [if_neg (show ¬ (2 : Int) = 0 by decide)]
        (
            go_enter Tryz.func23, Tryz.ntmps23
            go_wp2_with fail
            rw [← hw0, ← hw1]
            refine (HC.out _ B1.out).mono ?_
            rintro e wa ⟨rfl, ha⟩
            have q1 := L1.out wa ha
            have t0 := q1.cell (i := 0) rfl
            have t1 := q1.cell (i := 1) rfl
            have t2 := q1.cell (i := 2) rfl
            have t3 := q1.cell (i := 3) rfl
            have t4 := q1.cell (i := 4) rfl
            have t5 := q1.cell (i := 5) rfl
            have tf := q1.free
            have HA : Hid (Below w1.heap.size w1 wa) := ha
            clear q1 ha hw0 hw1
            go_wp2_with (go_at_call 49; refine (HW _).mono ?_; rintro e w' ⟨rfl, hw'⟩; obtain rfl := hw'.symm)
            refine bodyPost_ret (v := .tuple #[.agg #[.int .i64 0, .int .i64 0, .int .i64 0, .int .i64 0, .slice none 0 0, .int .u8 0], .int .i64 2]) (by simp [results, Tryz.results23, go_sem, t0, t1, t2, t3, t4, t5]) rfl ⟨rfl, ?_⟩
            exact below_six (below_then B1.out HA.out) (Nat.le_succ _) _ _ _ _ _ _)
      · obtain rfl : E = 0 := HE.out.1 (.inl rfl) rfl
        rw [if_pos rfl]
        (
            go_enter Tryz.func23, Tryz.ntmps23
            go_wp2_with fail
            rw [← hw0, ← hw1]
            refine (HC.out _ B1.out).mono ?_
            rintro e wa ⟨rfl, ha⟩
            have q0 := L0.out wa ha
            have s0 := q0.cell (i := 0) rfl
            have s1 := q0.cell (i := 1) rfl
            have s2 := q0.cell (i := 2) rfl
            have s3 := q0.cell (i := 3) rfl
            have q1 := L1.out wa ha
            have t0 := q1.cell (i := 0) rfl
            have t1 := q1.cell (i := 1) rfl
            have t2 := q1.cell (i := 2) rfl
            have t3 := q1.cell (i := 3) rfl
            have t4 := q1.cell (i := 4) rfl
            have t5 := q1.cell (i := 5) rfl
            have tf := q1.free
            have HA : Hid (Below w1.heap.size w1 wa) := ha
            clear q0 q1 ha hw0 hw1
            go_wp2_with (go_at_call 49; refine (HW _).mono ?_; rintro e w' ⟨rfl, hw'⟩; obtain rfl := hw'.symm)
            refine bodyPost_ret (v := .tuple #[.agg #[.int .i64 k, .int .i64 r, .int .i64 c, .int .i64 q, .slice ro rn rc, .int .u8 1], .int .i64 0]) (by simp [results, Tryz.results23, go_sem, t0, t1, t2, t3, t4, t5]) rfl ⟨rfl, ?_⟩
            exact below_six (below_then B1.out HA.out) (Nat.le_succ _) _ _ _ _ _ _)
    · by_cases g2 : kd = 2
      · subst g2
        rw [show ((UInt8.toNat 2 : Nat) : Int) = 2 from rfl]
        cases y
        · obtain rfl : E = 2 := HE.out.2.1 (.inr rfl) rfl
          rw [if_neg (show ¬ (2 : Int) = 0 by decide)]
          (
            go_enter Tryz.func23, Tryz.ntmps23
            go_wp2_with fail
            rw [← hw0, ← hw1]
            refine (HC.out _ B1.out).mono ?_
            rintro e wa ⟨rfl, ha⟩
            have q1 := L1.out wa ha
            have t0 := q1.cell (i := 0) rfl
            have t1 := q1.cell (i := 1) rfl
            have t2 := q1.cell (i := 2) rfl
            have t3 := q1.cell (i := 3) rfl
            have t4 := q1.cell (i := 4) rfl
            have t5 := q1.cell (i := 5) rfl
            have tf := q1.free
            have HA : Hid (Below w1.heap.size w1 wa) := ha
            clear q1 ha hw0 hw1
            go_wp2_with (go_at_call 49; refine (HW _).mono ?_; rintro e w' ⟨rfl, hw'⟩; obtain rfl := hw'.symm)
            refine bodyPost_ret (v := .tuple #[.agg #[.int .i64 0, .int .i64 0, .int .i64 0, .int .i64 0, .slice none 0 0, .int .u8 0], .int .i64 2]) (by simp [results, Tryz.results23, go_sem, t0, t1, t2, t3, t4, t5]) rfl ⟨rfl, ?_⟩
            exact below_six (below_then B1.out HA.out) (Nat.le_succ _) _ _ _ _ _ _)
        · obtain rfl : E = 0 := HE.out.1 (.inr rfl) rfl
          rw [if_pos rfl]
          (
            go_enter Tryz.func23, Tryz.ntmps23
            go_wp2_with fail
            rw [← hw0, ← hw1]
            refine (HC.out _ B1.out).mono ?_
            rintro e wa ⟨rfl, ha⟩
            have q0 := L0.out wa ha
            have s0 := q0.cell (i := 0) rfl
            have s1 := q0.cell (i := 1) rfl
            have s2 := q0.cell (i := 2) rfl
            have s3 := q0.cell (i := 3) rfl
            have q1 := L1.out wa ha
            have t0 := q1.cell (i := 0) rfl
            have t1 := q1.cell (i := 1) rfl
            have t2 := q1.cell (i := 2) rfl
            have t3 := q1.cell (i := 3) rfl
            have t4 := q1.cell (i := 4) rfl
            have t5 := q1.cell (i := 5) rfl
            have tf := q1.free
            have HA : Hid (Below w1.heap.size w1 wa) := ha
            clear q0 q1 ha hw0 hw1
            go_wp2_with (go_at_call 49; refine (HW _).mono ?_; rintro e w' ⟨rfl, hw'⟩; obtain rfl := hw'.symm)
            refine bodyPost_ret (v := .tuple #[.agg #[.int .i64 k, .int .i64 r, .int .i64 c, .int .i64 q, .slice ro rn rc, .int .u8 2], .int .i64 0]) (by simp [results, Tryz.results23, go_sem, t0, t1, t2, t3, t4, t5]) rfl ⟨rfl, ?_⟩
            exact below_six (below_then B1.out HA.out) (Nat.le_succ _) _ _ _ _ _ _)
      · obtain rfl : E = 2 := HE.out.2.2 fun a => a.elim g1 g2
        rw [if_neg (show ¬ (2 : Int) = 0 by decide)]
        have e1 : ¬ ((kd.toNat : Nat) : Int) = 1 := fun a => g1 (hk1.1 a)
        have e2 : ¬ ((kd.toNat : Nat) : Int) = 2 := fun a => g2 (hk2.1 a)
        generalize ((kd.toNat : Nat) : Int) = kv at *
        clear hk1 hk2 g1 g2
        (
            go_enter Tryz.func23, Tryz.ntmps23
            go_wp2_with fail
            rw [← hw0, ← hw1]
            refine (HC.out _ B1.out).mono ?_
            rintro e wa ⟨rfl, ha⟩
            have q1 := L1.out wa ha
            have t0 := q1.cell (i := 0) rfl
            have t1 := q1.cell (i := 1) rfl
            have t2 := q1.cell (i := 2) rfl
            have t3 := q1.cell (i := 3) rfl
            have t4 := q1.cell (i := 4) rfl
            have t5 := q1.cell (i := 5) rfl
            have tf := q1.free
            have HA : Hid (Below w1.heap.size w1 wa) := ha
            clear q1 ha hw0 hw1
            go_wp2_with (go_at_call 49; refine (HW _).mono ?_; rintro e w' ⟨rfl, hw'⟩; obtain rfl := hw'.symm)
            refine bodyPost_ret (v := .tuple #[.agg #[.int .i64 0, .int .i64 0, .int .i64 0, .int .i64 0, .slice none 0 0, .int .u8 0], .int .i64 2]) (by simp [results, Tryz.results23, go_sem, t0, t1, t2, t3, t4, t5]) rfl ⟨rfl, ?_⟩
            exact below_six (below_then B1.out HA.out) (Nat.le_succ _) _ _ _ _ _ _)
  · rw [if_neg hd] at hE
    subst hE
    rw [if_neg hd]
    have e1 : (D != 0) = true := by simp [hd]
    go_enter Tryz.func23, Tryz.ntmps23
    go_wp2_with fail
    rw [← hw0, ← hw1]
    refine (HC.out _ B1.out).mono ?_
    rintro e wa ⟨rfl, ha⟩
    have q1 := L1.out wa ha
    have t0 := q1.cell (i := 0) rfl
    have t1 := q1.cell (i := 1) rfl
    have t2 := q1.cell (i := 2) rfl
    have t3 := q1.cell (i := 3) rfl
    have t4 := q1.cell (i := 4) rfl
    have t5 := q1.cell (i := 5) rfl
    have tf := q1.free
    have HA : Hid (Below w1.heap.size w1 wa) := ha
    clear q1 ha hw0 hw1
    go_wp2_with fail
    refine bodyPost_ret (v := .tuple #[.agg #[.int .i64 0, .int .i64 0, .int .i64 0, .int .i64 0, .slice none 0 0, .int .u8 0], .int .i64 D]) (by simp [results, Tryz.results23, go_sem, t0, t1, t2, t3, t4, t5]) rfl ⟨rfl, ?_⟩
    exact below_six (below_then B1.out HA.out) (Nat.le_succ _) _ _ _ _ _ _
end Go.Proofs.YtfhefbbhlmdjkaaGreat
