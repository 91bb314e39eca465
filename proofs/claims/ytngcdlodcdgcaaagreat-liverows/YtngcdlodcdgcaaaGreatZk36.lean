import Derived.Test.YtngcdlodcdgcaaaGreatZk35
namespace Go.Proofs.YtngcdlodcdgcaaaGreat
open Go.RowKit
def stv (k r c q : Int) (ro : Option Addr) (rn rc : Nat) (kd : UInt8) : Value := .agg #[.int .i64 k, .int .i64 r, .int .i64 c, .int .i64 q, .slice ro rn rc, .int .u8 ((kd.toNat : Nat) : Int)]
def stz : Value := .agg #[.int .i64 0, .int .i64 0, .int .i64 0, .int .i64 0, .slice none 0 0, .int .u8 0]
def erK (x : Int) (N : Nat) (c : Int) (rn : Nat) (L : Nat -> Nat) (kd : UInt8) (v : Int) : Int := if erR x N c rn L = 0 then (if (kd = 1 \/ kd = 2) /\ 1 <= v /\ v <= 1073741824 then 0 else 2) else erR x N c rn L
theorem only_six (v : World) (g : Nat) (u0 u1 u2 u3 u4 u5 : Value) : Only (fun x => x = g) v ((((((v.setCell ⟨g, 0, none⟩ (u0)).setCell ⟨g, 1, none⟩ (u1)).setCell ⟨g, 2, none⟩ (u2)).setCell ⟨g, 3, none⟩ (u3)).setCell ⟨g, 4, none⟩ (u4)).setCell ⟨g, 5, none⟩ (u5)) := only_lo v g u0 u1 u2 u3 u4 u5
theorem below_six {a v : World} {g : Nat} (h : Below a.heap.size a v) (hg : a.heap.size <= g) (u0 u1 u2 u3 u4 u5 : Value) : Below a.heap.size a ((((((v.setCell ⟨g, 0, none⟩ (u0)).setCell ⟨g, 1, none⟩ (u1)).setCell ⟨g, 2, none⟩ (u2)).setCell ⟨g, 3, none⟩ (u3)).setCell ⟨g, 4, none⟩ (u4)).setCell ⟨g, 5, none⟩ (u5)) :=
  h.trans ((only_six v g u0 u1 u2 u3 u4 u5).below (fun i hi => by omega) h.size)
set_option maxHeartbeats 4000000 in
set_option maxRecDepth 100000 in
theorem asked_any {k r c q : Int} {N W : Nat} {x : Int} (h : Par k r c q N W x) (w : World) (ro : Option Addr) (rn rc : Nat) (A : Nat -> Option Addr) (L C : Nat -> Nat) (F : Nat -> Nat -> UInt8) (hr : Rw w ro rn A L C F) (kd : UInt8) (v : Int) (E : Int) (hE : erK x N c rn L kd v = E) :
    Calls Tryz.prog 114 #[.agg #[.int .i64 k, .int .i64 r, .int .i64 c, .int .i64 q], .slice ro rn rc, .int .u8 ((kd.toNat : Nat) : Int), .int .i64 v] w fun e w' => e = .returned (.tuple #[if E = 0 then stv k r c q ro rn rc kd else stz, .int .i64 E]) /\ Below w.heap.size w w' := by
  obtain ⟨D, hD⟩ : ∃ D, erR x N c rn L = D := ⟨_, rfl⟩
  have HC : Hid (∀ v, Below w.heap.size w v -> Calls Tryz.prog 129 #[.agg #[.int .i64 k, .int .i64 r, .int .i64 c, .int .i64 q], .slice ro rn rc] v fun e w' => e = .returned (.int .i64 D) /\ Below v.heap.size v w') := fun v hv => checkRow_any h v ro rn rc A L C F (hr.below hv) D hD
  unfold erK at hE
  rw [hD] at hE
  clear hD h hr
  obtain ⟨w0, hw0⟩ : ∃ w0, w0 = w.alloc (.cells #[.int .i64 k, .int .i64 r, .int .i64 c, .int .i64 q] 23) := ⟨_, rfl⟩
  have b0 : Below w.heap.size w w0 := by rw [hw0]; exact below_alloc _ _
  have z0 : w0.heap.size = w.heap.size + 1 := by rw [hw0]; simp
  obtain ⟨w1, hw1⟩ : ∃ w1, w1 = w0.alloc (.cells #[.int .i64 0, .int .i64 0, .int .i64 0, .int .i64 0, .slice none 0 0, .int .u8 0] 186) := ⟨_, rfl⟩
  have b1 : Below w0.heap.size w0 w1 := by rw [hw1]; exact below_alloc _ _
  have B1 : Hid (Below w.heap.size w w1) := below_then b0 b1
  have L0 : Hid (∀ v, Below w1.heap.size w1 v -> At w v w.heap.size #[.int .i64 k, .int .i64 r, .int .i64 c, .int .i64 q] 23) := fun v hv => (at_made (Below.refl _ _) hw0).below (below_then b1 hv)
  have L1 : Hid (∀ v, Below w1.heap.size w1 v -> At w v (w.heap.size + 1) #[.int .i64 0, .int .i64 0, .int .i64 0, .int .i64 0, .slice none 0 0, .int .u8 0] 186) := fun v hv => by rw [<- z0]; exact (at_made b0 hw1).below hv
  clear b0 b1 z0
  have hk1 := kd_one kd
  have hk2 := kd_two kd
  unfold stv stz
  by_cases hd : D = 0
  · subst hd
    rw [if_pos rfl] at hE
    obtain ⟨y, hy⟩ : ∃ y, decide (1 <= v /\ v <= 1073741824) = y := ⟨_, rfl⟩
    have HW := fun w => within2_any v 1 1073741824 w
    rw [hy] at HW
    have HE : Hid (((kd = 1 \/ kd = 2) -> y = true -> E = 0) /\ ((kd = 1 \/ kd = 2) -> y = false -> E = 2) /\ (¬ (kd = 1 \/ kd = 2) -> E = 2)) := by
      refine ⟨fun a b => ?_, fun a b => ?_, fun a => ?_⟩
      · rw [if_pos ⟨a, of_decide_eq_true (hy.trans b)⟩] at hE; exact hE.symm
      · rw [if_neg fun g => of_decide_eq_false (hy.trans b) g.2] at hE; exact hE.symm
      · rw [if_neg fun g => a g.1] at hE; exact hE.symm
    clear hE hy
    by_cases g1 : kd = 1
    · subst g1
      rw [show ((UInt8.toNat 1 : Nat) : Int) = 1 from rfl]
      cases y
      · obtain rfl : E = 2 := HE.out.2.1 (.inl rfl) rfl
        rw [if_neg (show ¬ (2 : Int) = 0 by decide)]
        (
            go_enter Tryz.func114, Tryz.ntmps114
            go_wp2_with fail
            rw [<- hw0, <- hw1]
            refine (HC.out _ B1.out).mono ?_
            rintro e wa ⟨rfl, ha⟩
            have q1 := L1.out wa ha
            have t0 := q1.cell (i := 0) rfl
            have t1 := q1.cell (i := 1) rfl
            have t2 := q1.cell (i := 2) rfl
            have t3 := q1.cell (i := 3) rfl
            have t4 := q1.cell (i := 4) rfl
            have t5 := q1.cell (i := 5) rfl
            have tf := q1.free
            have HA : Hid (Below w1.heap.size w1 wa) := ha
            clear q1 ha hw0 hw1
            go_wp2_with (go_at_call 130; refine (HW _).mono ?_; rintro e w' ⟨rfl, hw'⟩; obtain rfl := hw'.symm)
            refine bodyPost_ret (v := .tuple #[.agg #[.int .i64 0, .int .i64 0, .int .i64 0, .int .i64 0, .slice none 0 0, .int .u8 0], .int .i64 2]) (by simp [results, Tryz.results114, go_sem, t0, t1, t2, t3, t4, t5]) rfl ⟨rfl, ?_⟩
            exact below_six (below_then B1.out HA.out) (Nat.le_succ _) _ _ _ _ _ _)
      · obtain rfl : E = 0 := HE.out.1 (.inl rfl) rfl
        rw [if_pos rfl]
        (
            go_enter Tryz.func114, Tryz.ntmps114
            go_wp2_with fail
            rw [<- hw0, <- hw1]
            refine (HC.out _ B1.out).mono ?_
            rintro e wa ⟨rfl, ha⟩
            have q0 := L0.out wa ha
            have s0 := q0.cell (i := 0) rfl
            have s1 := q0.cell (i := 1) rfl
            have s2 := q0.cell (i := 2) rfl
            have s3 := q0.cell (i := 3) rfl
            have q1 := L1.out wa ha
            have t0 := q1.cell (i := 0) rfl
            have t1 := q1.cell (i := 1) rfl
            have t2 := q1.cell (i := 2) rfl
            have t3 := q1.cell (i := 3) rfl
            have t4 := q1.cell (i := 4) rfl
            have t5 := q1.cell (i := 5) rfl
            have tf := q1.free
            have HA : Hid (Below w1.heap.size w1 wa) := ha
            clear q0 q1 ha hw0 hw1
            go_wp2_with (go_at_call 130; refine (HW _).mono ?_; rintro e w' ⟨rfl, hw'⟩; obtain rfl := hw'.symm)
            refine bodyPost_ret (v := .tuple #[.agg #[.int .i64 k, .int .i64 r, .int .i64 c, .int .i64 q, .slice ro rn rc, .int .u8 1], .int .i64 0]) (by simp [results, Tryz.results114, go_sem, t0, t1, t2, t3, t4, t5]) rfl ⟨rfl, ?_⟩
            exact below_six (below_then B1.out HA.out) (Nat.le_succ _) _ _ _ _ _ _)
    · by_cases g2 : kd = 2
      · subst g2
        rw [show ((UInt8.toNat 2 : Nat) : Int) = 2 from rfl]
        cases y
        · obtain rfl : E = 2 := HE.out.2.1 (.inr rfl) rfl
          rw [if_neg (show ¬ (2 : Int) = 0 by decide)]
          (
            go_enter Tryz.func114, Tryz.ntmps114
            go_wp2_with fail
            rw [<- hw0, <- hw1]
            refine (HC.out _ B1.out).mono ?_
            rintro e wa ⟨rfl, ha⟩
            have q1 := L1.out wa ha
            have t0 := q1.cell (i := 0) rfl
            have t1 := q1.cell (i := 1) rfl
            have t2 := q1.cell (i := 2) rfl
            have t3 := q1.cell (i := 3) rfl
            have t4 := q1.cell (i := 4) rfl
            have t5 := q1.cell (i := 5) rfl
            have tf := q1.free
            have HA : Hid (Below w1.heap.size w1 wa) := ha
            clear q1 ha hw0 hw1
            go_wp2_with (go_at_call 130; refine (HW _).mono ?_; rintro e w' ⟨rfl, hw'⟩; obtain rfl := hw'.symm)
            refine bodyPost_ret (v := .tuple #[.agg #[.int .i64 0, .int .i64 0, .int .i64 0, .int .i64 0, .slice none 0 0, .int .u8 0], .int .i64 2]) (by simp [results, Tryz.results114, go_sem, t0, t1, t2, t3, t4, t5]) rfl ⟨rfl, ?_⟩
            exact below_six (below_then B1.out HA.out) (Nat.le_succ _) _ _ _ _ _ _)
        · obtain rfl : E = 0 := HE.out.1 (.inr rfl) rfl
          rw [if_pos rfl]
          (
            go_enter Tryz.func114, Tryz.ntmps114
            go_wp2_with fail
            rw [<- hw0, <- hw1]
            refine (HC.out _ B1.out).mono ?_
            rintro e wa ⟨rfl, ha⟩
            have q0 := L0.out wa ha
            have s0 := q0.cell (i := 0) rfl
            have s1 := q0.cell (i := 1) rfl
            have s2 := q0.cell (i := 2) rfl
            have s3 := q0.cell (i := 3) rfl
            have q1 := L1.out wa ha
            have t0 := q1.cell (i := 0) rfl
            have t1 := q1.cell (i := 1) rfl
            have t2 := q1.cell (i := 2) rfl
            have t3 := q1.cell (i := 3) rfl
            have t4 := q1.cell (i := 4) rfl
            have t5 := q1.cell (i := 5) rfl
            have tf := q1.free
            have HA : Hid (Below w1.heap.size w1 wa) := ha
            clear q0 q1 ha hw0 hw1
            go_wp2_with (go_at_call 130; refine (HW _).mono ?_; rintro e w' ⟨rfl, hw'⟩; obtain rfl := hw'.symm)
            refine bodyPost_ret (v := .tuple #[.agg #[.int .i64 k, .int .i64 r, .int .i64 c, .int .i64 q, .slice ro rn rc, .int .u8 2], .int .i64 0]) (by simp [results, Tryz.results114, go_sem, t0, t1, t2, t3, t4, t5]) rfl ⟨rfl, ?_⟩
            exact below_six (below_then B1.out HA.out) (Nat.le_succ _) _ _ _ _ _ _)
      · obtain rfl : E = 2 := HE.out.2.2 fun a => a.elim g1 g2
        rw [if_neg (show ¬ (2 : Int) = 0 by decide)]
        have e1 : ¬ ((kd.toNat : Nat) : Int) = 1 := fun a => g1 (hk1.1 a)
        have e2 : ¬ ((kd.toNat : Nat) : Int) = 2 := fun a => g2 (hk2.1 a)
        generalize ((kd.toNat : Nat) : Int) = kv at *
        clear hk1 hk2 g1 g2
        (
            go_enter Tryz.func114, Tryz.ntmps114
            go_wp2_with fail
            rw [<- hw0, <- hw1]
            refine (HC.out _ B1.out).mono ?_
            rintro e wa ⟨rfl, ha⟩
            have q1 := L1.out wa ha
            have t0 := q1.cell (i := 0) rfl
            have t1 := q1.cell (i := 1) rfl
            have t2 := q1.cell (i := 2) rfl
            have t3 := q1.cell (i := 3) rfl
            have t4 := q1.cell (i := 4) rfl
            have t5 := q1.cell (i := 5) rfl
            have tf := q1.free
            have HA : Hid (Below w1.heap.size w1 wa) := ha
            clear q1 ha hw0 hw1
            go_wp2_with (go_at_call 130; refine (HW _).mono ?_; rintro e w' ⟨rfl, hw'⟩; obtain rfl := hw'.symm)
            refine bodyPost_ret (v := .tuple #[.agg #[.int .i64 0, .int .i64 0, .int .i64 0, .int .i64 0, .slice none 0 0, .int .u8 0], .int .i64 2]) (by simp [results, Tryz.results114, go_sem, t0, t1, t2, t3, t4, t5]) rfl ⟨rfl, ?_⟩
            exact below_six (below_then B1.out HA.out) (Nat.le_succ _) _ _ _ _ _ _)
  · rw [if_neg hd] at hE
    subst hE
    rw [if_neg hd]
    have e1 : (D != 0) = true := by simp [hd]
    go_enter Tryz.func114, Tryz.ntmps114
    go_wp2_with fail
    rw [<- hw0, <- hw1]
    refine (HC.out _ B1.out).mono ?_
    rintro e wa ⟨rfl, ha⟩
    have q1 := L1.out wa ha
    have t0 := q1.cell (i := 0) rfl
    have t1 := q1.cell (i := 1) rfl
    have t2 := q1.cell (i := 2) rfl
    have t3 := q1.cell (i := 3) rfl
    have t4 := q1.cell (i := 4) rfl
    have t5 := q1.cell (i := 5) rfl
    have tf := q1.free
    have HA : Hid (Below w1.heap.size w1 wa) := ha
    clear q1 ha hw0 hw1
    go_wp2_with fail
    refine bodyPost_ret (v := .tuple #[.agg #[.int .i64 0, .int .i64 0, .int .i64 0, .int .i64 0, .slice none 0 0, .int .u8 0], .int .i64 D]) (by simp [results, Tryz.results114, go_sem, t0, t1, t2, t3, t4, t5]) rfl ⟨rfl, ?_⟩
    exact below_six (below_then B1.out HA.out) (Nat.le_succ _) _ _ _ _ _ _
end Go.Proofs.YtngcdlodcdgcaaaGreat
namespace Go.Proofs.YtngcdlodcdgcaaaGreat
open Go.RowKit
theorem erR_zero {x : Int} {N : Nat} {c : Int} {rn : Nat} {L : Nat -> Nat} (h : erR x N c rn L = 0) : x = 0 /\ rn = N /\ ∀ j, j < 2 * rn -> L j = 0 \/ L j = sz N c := by
  unfold erR at h
  by_cases e : x = 0
  · rw [if_pos e] at h
    by_cases g : rn = N /\ ∀ j, j < 2 * rn -> L j = 0 \/ L j = sz N c
    · exact ⟨e, g⟩
    · rw [if_neg g] at h; exact absurd h (by decide)
  · rw [if_neg e] at h; exact absurd h e
theorem erK_zero {x : Int} {N : Nat} {c : Int} {rn : Nat} {L : Nat -> Nat} {kd : UInt8} {v : Int} (h : erK x N c rn L kd v = 0) : erR x N c rn L = 0 /\ (kd = 1 \/ kd = 2) /\ 1 <= v /\ v <= 1073741824 := by
  unfold erK at h
  by_cases e : erR x N c rn L = 0
  · rw [if_pos e] at h
    by_cases g : (kd = 1 \/ kd = 2) /\ 1 <= v /\ v <= 1073741824
    · exact ⟨e, g⟩
    · rw [if_neg g] at h; exact absurd h (by decide)
  · rw [if_neg e] at h; exact absurd h e
end Go.Proofs.YtngcdlodcdgcaaaGreat
namespace Go.Proofs.YtngcdlodcdgcaaaGreat
open Go.RowKit
theorem told_ways {N : Nat} {c : Int} {kd : UInt8} (hk : kd = 1 \/ kd = 2) (i : Nat) (n : Nat) (F : Nat -> UInt8) (v : Int) (b : Bool) (z : Sl) (hb : isQ 0 N c n F = b) (hz : slQ b N c F = z) :
    (tB (he 0 N c (i : Int) n F) kd v = true /\ he 0 N c (i : Int) n F = z /\ b = true /\ z.kd = kd /\ z.ix = (i : Int) /\ z.st = v) \/
    (tB (he 0 N c (i : Int) n F) kd v = false /\ (b = false \/ (b = true /\ z.kd ≠ kd) \/ (b = true /\ z.kd = kd /\ z.ix ≠ (i : Int)) \/ (b = true /\ z.kd = kd /\ z.ix = (i : Int) /\ z.st ≠ v))) := by
  have hi : isS N c n F = b := by rw [<- hb]; unfold isQ; simp
  have hh : he 0 N c (i : Int) n F = ofI (i : Int) z := by unfold he; rw [if_pos rfl, hi, hz]
  have hzz : tB zSl kd v = false := by
    refine decide_eq_false fun a => ?_
    rcases hk with rfl | rfl <;> exact absurd a.1 (by decide)
  rw [hh]
  cases b
  · refine .inr ⟨?_, .inl rfl⟩
    have : z = zSl := by rw [<- hz]; rfl
    rw [this]
    unfold ofI
    by_cases e : zSl.ix = (i : Int)
    · rw [if_pos e]; exact hzz
    · rw [if_neg e]; exact hzz
  · by_cases e3 : z.ix = (i : Int)
    · have : ofI (i : Int) z = z := if_pos e3
      rw [this]
      by_cases e2 : z.kd = kd
      · by_cases e4 : z.st = v
        · exact .inl ⟨decide_eq_true ⟨e2, e4⟩, rfl, rfl, e2, e3, e4⟩
        · exact .inr ⟨decide_eq_false fun a => e4 a.2, .inr (.inr (.inr ⟨rfl, e2, e3, e4⟩))⟩
      · exact .inr ⟨decide_eq_false fun a => e2 a.1, .inr (.inl ⟨rfl, e2⟩)⟩
    · have : ofI (i : Int) z = zSl := if_neg e3
      rw [this]
      by_cases e2 : z.kd = kd
      · exact .inr ⟨hzz, .inr (.inr (.inl ⟨rfl, e2, e3⟩))⟩
      · exact .inr ⟨hzz, .inr (.inl ⟨rfl, e2⟩)⟩
theorem idp_s (w : World) (A : Nat -> Option Addr) (L C : Nat -> Nat) (i s : Nat) (hs : s < 2) : (Instr.index 127 (.agg #[.slice (A (2 * i)) (L (2 * i)) (C (2 * i)), .slice (A (2 * i + 1)) (L (2 * i + 1)) (C (2 * i + 1))]) (.int .i64 (s : Int))).run Tryz.prog w = .ok (.slice (A (2 * i + s)) (L (2 * i + s)) (C (2 * i + s))) w := by
  rcases (show s = 0 \/ s = 1 by omega) with rfl | rfl
  · exact idp0 w _ _
  · exact idp1 w _ _
def AnsV (w : World) (t : Sl) (e : Ending) (w' : World) : Prop := ∃ ao ca, e = .returned (.slice ao t.vn ca) /\ Own w.heap.size w' ao t.vn ca t.V /\ (ao = none ↔ t.ce = 0) /\ Below w.heap.size w w'
theorem kd_beq (a b : UInt8) : (((a.toNat : Nat) : Int) == ((b.toNat : Nat) : Int)) = decide (a = b) := by
  by_cases e : a = b
  · subst e; simp
  · rw [decide_eq_false e]
    have : a.toNat ≠ b.toNat := fun h => e (UInt8.toNat_inj.1 h)
    simp; omega
theorem int_beq (a b : Int) : (a == b) = decide (a = b) := by
  by_cases e : a = b
  · subst e; simp
  · rw [decide_eq_false e]; simpa using e
set_option maxHeartbeats 8000000 in
set_option maxRecDepth 100000 in
theorem vector_any {k r c q : Int} {N W : Nat} (h : Par k r c q N W 0) (w : World) (ro : Option Addr) (rc : Nat) (A : Nat -> Option Addr) (L C : Nat -> Nat) (F : Nat -> Nat -> UInt8) (hr : Rw w ro N A L C F) (hL : ∀ j, j < 2 * N -> L j = 0 \/ L j = sz N c) (kd : UInt8) (hk : kd = 1 \/ kd = 2) (v : Int) (t : Sl) (ht : tS (yy N c L F) kd v (2 * N) = t) :
    Calls Tryz.prog 144 #[stv k r c q ro N rc kd, .int .i64 v] w (AnsV w t) := by
  have hle := h.le
  obtain ⟨w0, hw0⟩ : ∃ w0, w0 = w.alloc (.cells #[.int .i64 k, .int .i64 r, .int .i64 c, .int .i64 q, .slice ro N rc, .int .u8 ((kd.toNat : Nat) : Int)] 186) := ⟨_, rfl⟩
  have b0 : Below w.heap.size w w0 := by rw [hw0]; exact below_alloc _ _
  have B0 : Hid (Below w.heap.size w w0) := b0
  have L0 : Hid (∀ v, Below w0.heap.size w0 v -> At w v w.heap.size #[.int .i64 k, .int .i64 r, .int .i64 c, .int .i64 q, .slice ro N rc, .int .u8 ((kd.toNat : Nat) : Int)] 186) := fun v hv => (at_made (Below.refl _ _) hw0).below hv
  have HR : Hid (Rw w ro N A L C F) := hr
  have HP : Hid (∀ j, j < 2 * N -> ∀ u, Below w.heap.size w u -> ∀ b z, isQ 0 N c (L j) (F j) = b -> slQ b N c (F j) = z -> Calls Tryz.prog 36 #[.agg #[.int .i64 k, .int .i64 r, .int .i64 c, .int .i64 q], .slice (A j) (L j) (C j)] u (AnsP u 0 b z)) := fun j hj u hu b z hb hz => by
    refine Parse_any h u _ _ _ _ ((hr.bec j hj).below hu) 0 ?_ b hb z hz
    unfold erQ; rw [if_pos rfl, if_pos (hL j hj)]
  have HT : Hid (tS (yy N c L F) kd v (2 * N) = t) := ht
  have HK : Hid (kd = 1 \/ kd = 2) := hk
  clear h hr hL ht hk
  unfold AnsP slv at HP
  unfold stv
  go_enter Tryz.func144, Tryz.ntmps144
  go_wp2_with fail
  rw [<- hw0]
  have q0 := L0.out w0 (Below.refl _ _)
  have p4 := q0.cell (i := 4) rfl
  clear hw0 b0 q0
  go_wp2_with fail
  go_loopw [15] (fun y wr => ∃ i : Nat, i <= N /\ y = .int .i64 (i : Int) /\ Hid (Below w0.heap.size w0 wr) /\ Hid (∀ j, j < 2 * i -> tB (yy N c L F j) kd v = false)) (fun y _ => N - (intOf y).toNat)
  case atStart => exact ⟨0, Nat.zero_le _, rfl, Below.refl _ _, fun j hj => absurd hj (by omega)⟩
  case round =>
    obtain ⟨i, hi, rfl, hbw, hno⟩ := hrel
    by_cases hlt : i < N
    · obtain ⟨b, off, rfl, hcc⟩ := HR.out.at_ (by omega)
      have c0 : wr.cell? ⟨b, off + i * 2, none⟩ = some (.slice (A (2 * i)) (L (2 * i)) (C (2 * i))) := held (hcc i hlt).1 (below_then B0.out hbw.out)
      have c1 : wr.cell? ⟨b, off + i * 2 + 1, none⟩ = some (.slice (A (2 * i + 1)) (L (2 * i + 1)) (C (2 * i + 1))) := held (hcc i hlt).2 (below_then B0.out hbw.out)
      clear hcc
      have i1 : (0 : Int) <= (i : Int) := by omega
      have i2 : (i : Int) < (N : Int) := by omega
      obtain ⟨wd, hwd⟩ : ∃ wd, wd = wr.alloc (.cells #[.slice (A (2 * i)) (L (2 * i)) (C (2 * i)), .slice (A (2 * i + 1)) (L (2 * i + 1)) (C (2 * i + 1))] 127) := ⟨_, rfl⟩
      have HD : Hid (Below w0.heap.size w0 wd) := by show Below _ _ _; rw [hwd]; exact below_then hbw.out (below_alloc _ _)
      go_wp2_with fail
      rw [<- hwd]
      clear hwd c0 c1
      obtain ⟨wm, hwm⟩ : ∃ x, x = wr := ⟨wr, rfl⟩
      rw [<- hwm]
      clear hwm hbw wr
      go_loopw [21] (fun y wr => ∃ s : Nat, s <= 2 /\ y = .int .i64 (s : Int) /\ Hid (Below w0.heap.size w0 wr) /\ Hid (∀ j, j < 2 * i + s -> tB (yy N c L F j) kd v = false)) (fun y _ => 2 - (intOf y).toNat)
      case atStart => exact ⟨0, Nat.zero_le _, rfl, HD.out, fun j hj => hno.out j (by omega)⟩
      case round =>
        obtain ⟨s, hs, rfl, hbs, hns⟩ := hrel
        by_cases hs2 : s < 2
        · obtain ⟨y, hy⟩ : ∃ y, isQ 0 N c (L (2 * i + s)) (F (2 * i + s)) = y := ⟨_, rfl⟩
          obtain ⟨z, hz⟩ : ∃ z, slQ y N c (F (2 * i + s)) = z := ⟨_, rfl⟩
          have hP := HP.out (2 * i + s) (by omega) wr (below_then B0.out hbs.out) y z hy hz
          have hW := told_ways HK.out i (L (2 * i + s)) (F (2 * i + s)) v y z hy hz
          have hyj : he 0 N c (i : Int) (L (2 * i + s)) (F (2 * i + s)) = yy N c L F (2 * i + s) := by unfold yy; rw [show (2 * i + s) / 2 = i by omega]
          rw [hyj] at hW
          have q0 := L0.out wr hbs.out
          have s0 := q0.cell (i := 0) rfl
          have s1 := q0.cell (i := 1) rfl
          have s2 := q0.cell (i := 2) rfl
          have s3 := q0.cell (i := 3) rfl
          have j1 : (s : Int) < 2 := by omega
          clear q0 hy hz hyj
          go_wp2_with fail
          rw [idp_s _ A L C i s hs2]
          go_wp2_with fail
          refine hP.mono ?_
          clear hP
          rintro e wa ⟨ao, ca, bo, cb, rfl, hg, ha⟩
          have q0 := (L0.out wa (below_then hbs.out ha))
          have r5 := fun o => (q0.alloc o).cell (i := 5) rfl
          have HG : Hid (Got wr.heap.size wa z ao ca bo cb) := hg
          have HA : Hid (Below w0.heap.size w0 wa) := below_then hbs.out ha
          have HS : Hid (w0.heap.size <= wr.heap.size) := hbs.out.size
          clear q0 hg ha s0 s1 s2 s3
          have u1 := kd_beq z.kd kd
          have u2 := int_beq z.ix (i : Int)
          have u3 := int_beq z.st v
          have u4 := kd_beq kd kd
          rcases hW with ⟨g0, g1, rfl, g2, g3, g4⟩ | ⟨g0, hW⟩
          · rw [decide_eq_true g2] at u1
            rw [decide_eq_true g3] at u2
            rw [decide_eq_true g4] at u3
            have HT1 : Hid (tB (yy N c L F (2 * i + s)) kd v = true /\ yy N c L F (2 * i + s) = z) := ⟨g0, g1⟩
            have HLT : Hid (2 * i + s < 2 * N) := by show _ < _; omega
            clear g0 g1 g2 g3 g4
            go_wp2_with fail
            go_ret
            have hI : Is N c z i := by
              have := tB_ne HK.out (yy_ok N c L F (2 * i + s) HLT.out) HT1.out.1
              rw [HT1.out.2, show (2 * i + s) / 2 = i by omega] at this
              exact this
            have htz : t = z := by
              have h1 : tS (yy N c L F) kd v (2 * i + s) = zSl := by
                rcases tS_is (v := v) HK.out (yy_ok N c L F) (2 * i + s) (by have := HLT.out; omega) with ⟨a, _⟩ | ⟨j, a1, _, a3, _⟩
                · exact a
                · rw [hns.out j a1] at a3; cases a3
              have h2 : tS (yy N c L F) kd v (2 * i + s + 1) = z := by
                rw [tS, h1, if_pos (show zSl.ce = 0 from rfl), HT1.out.1, if_pos rfl]; exact HT1.out.2
              rw [<- HT.out, <- h2]
              exact tS_stay (by rw [h2]; exact (ok_of hI.1).ne) HLT.out
            subst htz
            have hvn := (ok_of hI.1).vn
            refine ⟨ao, ca, rfl, ((HG.out.vec.mono (Nat.le_trans B0.out.size HS.out)).below (below_alloc _ _)), ?_, below_then (below_then B0.out HA.out) (below_alloc _ _)⟩
            constructor
            · intro e
              have := HG.out.vec.at_ (by omega)
              obtain ⟨g, e2, _⟩ := this
              rw [e] at e2; cases e2
            · intro e; exact absurd e (ok_of hI.1).ne
          · have HT1 : Hid (tB (yy N c L F (2 * i + s)) kd v = false) := g0
            clear g0
            rcases hW with rfl | ⟨rfl, g2⟩ | ⟨rfl, g2, g3⟩ | ⟨rfl, g2, g3, g4⟩
            · go_wp2_with fail
              go_roundw
              case rel => exact ⟨s + 1, by omega, by go_num, below_then HA.out (below_alloc _ _), fun j hj => by
                by_cases e : j = 2 * i + s
                · rw [e]; exact HT1.out
                · exact hns.out j (by omega)⟩
              case measure => simp [intOf]; omega
            · rw [decide_eq_false g2] at u1
              go_wp2_with fail
              go_roundw
              case rel => exact ⟨s + 1, by omega, by go_num, below_then HA.out (below_alloc _ _), fun j hj => by
                by_cases e : j = 2 * i + s
                · rw [e]; exact HT1.out
                · exact hns.out j (by omega)⟩
              case measure => simp [intOf]; omega
            · rw [decide_eq_true g2] at u1
              rw [decide_eq_false g3] at u2
              go_wp2_with fail
              go_roundw
              case rel => exact ⟨s + 1, by omega, by go_num, below_then HA.out (below_alloc _ _), fun j hj => by
                by_cases e : j = 2 * i + s
                · rw [e]; exact HT1.out
                · exact hns.out j (by omega)⟩
              case measure => simp [intOf]; omega
            · rw [decide_eq_true g2] at u1
              rw [decide_eq_true g3] at u2
              rw [decide_eq_false g4] at u3
              go_wp2_with fail
              go_roundw
              case rel => exact ⟨s + 1, by omega, by go_num, below_then HA.out (below_alloc _ _), fun j hj => by
                by_cases e : j = 2 * i + s
                · rw [e]; exact HT1.out
                · exact hns.out j (by omega)⟩
              case measure => simp [intOf]; omega
        · obtain rfl : s = 2 := by omega
          go_wp2_with fail
          go_roundw
          case rel => exact ⟨i + 1, by omega, by go_num, hbs.out, fun j hj => hns.out j (by omega)⟩
          case measure => simp [intOf]; omega
    · obtain rfl : i = N := by omega
      go_wp2_with fail
      go_ret
      have htz : t = zSl := by
        rcases tS_is (v := v) HK.out (yy_ok i c L F) (2 * i) (Nat.le_refl _) with ⟨a, _⟩ | ⟨j, a1, _, a3, _⟩
        · rw [<- HT.out]; exact a
        · rw [hno.out j a1] at a3; cases a3
      subst htz
      exact ⟨none, 0, rfl, own_nil _ _ _, ⟨fun _ => rfl, fun _ => rfl⟩, below_then B0.out hbw.out⟩
end Go.Proofs.YtngcdlodcdgcaaaGreat
