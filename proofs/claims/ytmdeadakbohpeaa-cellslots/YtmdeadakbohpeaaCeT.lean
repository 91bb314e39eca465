/- The document's answer: where the next version goes. -/
import Derived.Test.YtmdeadakbohpeaaCeQ
import Derived.Test.YtmdeadakbohpeaaCeF
namespace Go.Proofs.Ytmdeadakbohpeaa
open Go.RowKit

theorem he_nn {N : Nat} {c ix : Int} {n : Nat} {F : Nat → UInt8} {y : Sl} (h : he 0 N c ix n F = y) : 0 ≤ y.ce ∧ (y.ce = 0 → y = zSl) := by
  have key : ∀ z : Sl, z = zSl ∨ 1 ≤ z.ce → 0 ≤ (ofI ix z).ce ∧ ((ofI ix z).ce = 0 → ofI ix z = zSl) := fun z hz => by
    unfold ofI
    by_cases e : z.ix = ix
    · rw [if_pos e]
      rcases hz with rfl | hz
      · exact ⟨Int.le_refl _, fun _ => rfl⟩
      · exact ⟨by omega, fun h => by omega⟩
    · rw [if_neg e]; exact ⟨Int.le_refl _, fun _ => rfl⟩
  rw [← h]
  unfold he
  rw [if_pos rfl]
  apply key
  unfold slQ
  cases e : isS N c n F
  · exact .inl rfl
  · exact .inr (okS_nums (is_true e).2.2.2).1.1

set_option maxHeartbeats 16000000 in
set_option maxRecDepth 100000 in
theorem Next_any {k r c q : Int} {N W : Nat} (h : Par k r c q N W 0) (w : World) (a0 : Option Addr) (n0 c0 : Nat) (F0 : Nat → UInt8) (a1 : Option Addr) (n1 c1 : Nat) (F1 : Nat → UInt8) (h0 : Bec w a0 n0 c0 F0) (h1 : Bec w a1 n1 c1 F1) (l0 : n0 ≤ 9223372036854775807) (l1 : n1 ≤ 9223372036854775807) (kd : UInt8) (ix v : Int) (y0 y1 : Sl) (hy0 : he 0 N c ix n0 F0 = y0) (hy1 : he 0 N c ix n1 F1 = y1) :
    Calls Try.prog 27 #[.agg #[.int .i64 k, .int .i64 r, .int .i64 c, .int .i64 q], .agg #[.slice a0 n0 c0, .slice a1 n1 c1], .int .u8 ((kd.toNat : Nat) : Int), .int .i64 ix, .int .i64 v] w fun e w' => e = .returned (.int .i64 ((oN y0 y1 kd v : Nat) : Int)) ∧ Below w.heap.size w w' := by
  obtain ⟨w0, hw0⟩ : ∃ w0, w0 = w.alloc (.cells #[.int .i64 k, .int .i64 r, .int .i64 c, .int .i64 q] 23) := ⟨_, rfl⟩
  have bw0 : Below w.heap.size w w0 := by rw [hw0]; exact below_alloc _ _
  have zw0 : w0.heap.size = w.heap.size + 1 := by rw [hw0]; simp
  obtain ⟨w1, hw1⟩ : ∃ w1, w1 = w0.alloc (.cells #[.slice a0 n0 c0, .slice a1 n1 c1] 26) := ⟨_, rfl⟩
  have bw1 : Below w0.heap.size w0 w1 := by rw [hw1]; exact below_alloc _ _
  have zw1 : w1.heap.size = w.heap.size + 1 + 1 := by rw [hw1]; simp [zw0]
  have Bw : Hid (Below w.heap.size w w1) := (below_then bw0 bw1)
  have Lw0 : Hid (∀ v, Below w1.heap.size w1 v → At w v (w.heap.size) #[.int .i64 k, .int .i64 r, .int .i64 c, .int .i64 q] 23) := fun v hv => by exact (at_made (Below.refl _ _) hw0).below (below_then bw1 hv)
  have Lw1 : Hid (∀ v, Below w1.heap.size w1 v → At w v (w.heap.size + 1) #[.slice a0 n0 c0, .slice a1 n1 c1] 26) := fun v hv => by rw [← zw0]; exact (at_made bw0 hw1).below (below_then (Below.refl _ _) hv)
  have HH : Hid (∀ u, Below w.heap.size w u → Calls Try.prog 23 #[.agg #[.int .i64 k, .int .i64 r, .int .i64 c, .int .i64 q], .agg #[.slice a0 n0 c0, .slice a1 n1 c1], .int .u8 ((kd.toNat : Nat) : Int), .int .i64 ix, .int .i64 v] u fun e w' => e = .returned (.int .i64 (hN y0 y1 kd v)) ∧ Below u.heap.size u w') := fun u hu => Holds_any h u a0 n0 c0 F0 a1 n1 c1 F1 (h0.below hu) (h1.below hu) l0 l1 kd ix v y0 y1 hy0 hy1
  have t0 := he_nn hy0
  have t1 := he_nn hy1
  have HO0 : Hid (∀ v, Below w.heap.size w v → Calls Try.prog 24 #[.agg #[.int .i64 k, .int .i64 r, .int .i64 c, .int .i64 q], .slice a0 n0 c0, .int .i64 ix] v fun e w' => ∃ ao ca bo cb, e = .returned (.tuple #[slv y0 ao ca bo cb, .bool (decide (¬ y0.ce = 0))]) ∧ Got v.heap.size w' y0 ao ca bo cb ∧ Below v.heap.size v w') := fun v hv => Of_any h v a0 n0 c0 F0 (h0.below hv) l0 ix y0 hy0
  have HO1 : Hid (∀ v, Below w.heap.size w v → Calls Try.prog 24 #[.agg #[.int .i64 k, .int .i64 r, .int .i64 c, .int .i64 q], .slice a1 n1 c1, .int .i64 ix] v fun e w' => ∃ ao ca bo cb, e = .returned (.tuple #[slv y1 ao ca bo cb, .bool (decide (¬ y1.ce = 0))]) ∧ Got v.heap.size w' y1 ao ca bo cb ∧ Below v.heap.size v w') := fun v hv => Of_any h v a1 n1 c1 F1 (h1.below hv) l1 ix y1 hy1
  clear h h0 h1 l0 l1 hy0 hy1
  unfold slv at HO0 HO1
  unfold oN
  unfold hN at HH
  cases s0 : hB y0 kd v
  · rw [s0] at HH
    cases s1 : hB y1 kd v
    · rw [s1] at HH
      simp only [Bool.false_eq_true, if_false] at HH ⊢
      clear s0 s1
      by_cases z0 : y0.ce = 0
      · have hd : ¬ y1.ce < y0.ce := by omega
        rw [if_neg hd]
        rw [decide_eq_false (p := ¬ y0.ce = 0) (fun h => h z0)] at HO0
        clear hd z0 t0 t1
        go_enter Try.func27, Try.ntmps27
        go_wp2_with fail
        rw [← hw0, ← hw1]
        clear hw0 bw0 zw0 hw1 bw1 zw1
        refine (HH.out _ Bw.out).mono ?_
        rintro e wa ⟨rfl, ha⟩
        have HA : Hid (Below w1.heap.size w1 wa) := ha
        clear ha HH
        have q0 := Lw0.out wa HA.out
        have q1 := Lw1.out wa HA.out
        have p0 := q0.cell (i := 0) rfl
        have p1 := q0.cell (i := 1) rfl
        have p2 := q0.cell (i := 2) rfl
        have p3 := q0.cell (i := 3) rfl
        have r0 := q1.cell (i := 0) rfl
        have r1 := q1.cell (i := 1) rfl
        clear q0 q1
        go_wp2_with fail
        refine (HO0.out _ (below_then Bw.out HA.out)).mono ?_
        rintro e wb ⟨aowb, cawb, bowb, cbwb, rfl, _, hwb⟩
        have Hwb : Hid (Below w1.heap.size w1 wb) := below_then HA.out hwb
        clear hwb HO0 p0 p1 p2 p3 r0 r1
        go_wp2_with fail
        go_ret
        exact ⟨rfl, b_alloc (below_then Bw.out Hwb.out) _⟩
      · rw [decide_eq_true (p := ¬ y0.ce = 0) z0] at HO0
        by_cases z1 : y1.ce = 0
        · have hd : y1.ce < y0.ce := by omega
          rw [if_pos hd]
          rw [decide_eq_false (p := ¬ y1.ce = 0) (fun h => h z1)] at HO1
          clear hd z0 z1 t0 t1
          go_enter Try.func27, Try.ntmps27
          go_wp2_with fail
          rw [← hw0, ← hw1]
          clear hw0 bw0 zw0 hw1 bw1 zw1
          refine (HH.out _ Bw.out).mono ?_
          rintro e wa ⟨rfl, ha⟩
          have HA : Hid (Below w1.heap.size w1 wa) := ha
          clear ha HH
          have q0 := Lw0.out wa HA.out
          have q1 := Lw1.out wa HA.out
          have p0 := q0.cell (i := 0) rfl
          have p1 := q0.cell (i := 1) rfl
          have p2 := q0.cell (i := 2) rfl
          have p3 := q0.cell (i := 3) rfl
          have r0 := q1.cell (i := 0) rfl
          have r1 := q1.cell (i := 1) rfl
          clear q0 q1
          go_wp2_with fail
          refine (HO0.out _ (below_then Bw.out HA.out)).mono ?_
          rintro e wb ⟨aowb, cawb, bowb, cbwb, rfl, _, hwb⟩
          have Hwb : Hid (Below w1.heap.size w1 wb) := below_then HA.out hwb
          clear hwb HO0 p0 p1 p2 p3 r0 r1
          obtain ⟨wc, hwc⟩ : ∃ wc, wc = wb.alloc (.cells #[.int .u8 ((y0.kd.toNat : Nat) : Int), .int .i64 y0.ix, .int .i64 y0.ce, .int .i64 y0.st, .slice aowb y0.vn cawb, .slice bowb y0.dn cbwb] 31) := ⟨_, rfl⟩
          have HC : Hid (Below w1.heap.size w1 wc) := by show Below _ _ _; rw [hwc]; exact b_alloc Hwb.out _
          have HBK : Hid (At w1 wc wb.heap.size #[.int .u8 ((y0.kd.toNat : Nat) : Int), .int .i64 y0.ix, .int .i64 y0.ce, .int .i64 y0.st, .slice aowb y0.vn cawb, .slice bowb y0.dn cbwb] 31) := at_made Hwb.out hwc
          have qa := Lw0.out wb Hwb.out
          have qb := Lw1.out wb Hwb.out
          have p0 := fun o => (qa.alloc o).cell (i := 0) rfl
          have p1 := fun o => (qa.alloc o).cell (i := 1) rfl
          have p2 := fun o => (qa.alloc o).cell (i := 2) rfl
          have p3 := fun o => (qa.alloc o).cell (i := 3) rfl
          have r0 := fun o => (qb.alloc o).cell (i := 0) rfl
          have r1 := fun o => (qb.alloc o).cell (i := 1) rfl
          clear qa qb
          go_wp2_with fail
          rw [← hwc]
          clear hwc
          refine (HO1.out _ (below_then Bw.out HC.out)).mono ?_
          rintro e wd ⟨aowd, cawd, bowd, cbwd, rfl, _, hwd⟩
          have Hwd : Hid (Below w1.heap.size w1 wd) := below_then HC.out hwd
          clear hwd HO1 p0 p1 p2 p3 r0 r1
          skip
          go_wp2_with fail
          go_ret
          exact ⟨rfl, b_alloc (below_then Bw.out Hwd.out) _⟩
        · rw [decide_eq_true (p := ¬ y1.ce = 0) z1] at HO1
          by_cases hd : y1.ce < y0.ce
          · rw [if_pos hd]
            clear z0 z1 t0 t1
            go_enter Try.func27, Try.ntmps27
            go_wp2_with fail
            rw [← hw0, ← hw1]
            clear hw0 bw0 zw0 hw1 bw1 zw1
            refine (HH.out _ Bw.out).mono ?_
            rintro e wa ⟨rfl, ha⟩
            have HA : Hid (Below w1.heap.size w1 wa) := ha
            clear ha HH
            have q0 := Lw0.out wa HA.out
            have q1 := Lw1.out wa HA.out
            have p0 := q0.cell (i := 0) rfl
            have p1 := q0.cell (i := 1) rfl
            have p2 := q0.cell (i := 2) rfl
            have p3 := q0.cell (i := 3) rfl
            have r0 := q1.cell (i := 0) rfl
            have r1 := q1.cell (i := 1) rfl
            clear q0 q1
            go_wp2_with fail
            refine (HO0.out _ (below_then Bw.out HA.out)).mono ?_
            rintro e wb ⟨aowb, cawb, bowb, cbwb, rfl, _, hwb⟩
            have Hwb : Hid (Below w1.heap.size w1 wb) := below_then HA.out hwb
            clear hwb HO0 p0 p1 p2 p3 r0 r1
            obtain ⟨wc, hwc⟩ : ∃ wc, wc = wb.alloc (.cells #[.int .u8 ((y0.kd.toNat : Nat) : Int), .int .i64 y0.ix, .int .i64 y0.ce, .int .i64 y0.st, .slice aowb y0.vn cawb, .slice bowb y0.dn cbwb] 31) := ⟨_, rfl⟩
            have HC : Hid (Below w1.heap.size w1 wc) := by show Below _ _ _; rw [hwc]; exact b_alloc Hwb.out _
            have HBK : Hid (At w1 wc wb.heap.size #[.int .u8 ((y0.kd.toNat : Nat) : Int), .int .i64 y0.ix, .int .i64 y0.ce, .int .i64 y0.st, .slice aowb y0.vn cawb, .slice bowb y0.dn cbwb] 31) := at_made Hwb.out hwc
            have qa := Lw0.out wb Hwb.out
            have qb := Lw1.out wb Hwb.out
            have p0 := fun o => (qa.alloc o).cell (i := 0) rfl
            have p1 := fun o => (qa.alloc o).cell (i := 1) rfl
            have p2 := fun o => (qa.alloc o).cell (i := 2) rfl
            have p3 := fun o => (qa.alloc o).cell (i := 3) rfl
            have r0 := fun o => (qb.alloc o).cell (i := 0) rfl
            have r1 := fun o => (qb.alloc o).cell (i := 1) rfl
            clear qa qb
            go_wp2_with fail
            rw [← hwc]
            clear hwc
            refine (HO1.out _ (below_then Bw.out HC.out)).mono ?_
            rintro e wd ⟨aowd, cawd, bowd, cbwd, rfl, _, hwd⟩
            have HDC : Hid (Below wc.heap.size wc wd) := hwd
            have Hwd : Hid (Below w1.heap.size w1 wd) := below_then HC.out hwd
            clear hwd HO1 p0 p1 p2 p3 r0 r1
            skip
            have m2 := fun o => ((HBK.out.below HDC.out).alloc o).cell (i := 2) rfl
            go_wp2_with fail
            go_ret
            exact ⟨rfl, b_alloc (below_then Bw.out Hwd.out) _⟩
          · rw [if_neg hd]
            clear z0 z1 t0 t1
            go_enter Try.func27, Try.ntmps27
            go_wp2_with fail
            rw [← hw0, ← hw1]
            clear hw0 bw0 zw0 hw1 bw1 zw1
            refine (HH.out _ Bw.out).mono ?_
            rintro e wa ⟨rfl, ha⟩
            have HA : Hid (Below w1.heap.size w1 wa) := ha
            clear ha HH
            have q0 := Lw0.out wa HA.out
            have q1 := Lw1.out wa HA.out
            have p0 := q0.cell (i := 0) rfl
            have p1 := q0.cell (i := 1) rfl
            have p2 := q0.cell (i := 2) rfl
            have p3 := q0.cell (i := 3) rfl
            have r0 := q1.cell (i := 0) rfl
            have r1 := q1.cell (i := 1) rfl
            clear q0 q1
            go_wp2_with fail
            refine (HO0.out _ (below_then Bw.out HA.out)).mono ?_
            rintro e wb ⟨aowb, cawb, bowb, cbwb, rfl, _, hwb⟩
            have Hwb : Hid (Below w1.heap.size w1 wb) := below_then HA.out hwb
            clear hwb HO0 p0 p1 p2 p3 r0 r1
            obtain ⟨wc, hwc⟩ : ∃ wc, wc = wb.alloc (.cells #[.int .u8 ((y0.kd.toNat : Nat) : Int), .int .i64 y0.ix, .int .i64 y0.ce, .int .i64 y0.st, .slice aowb y0.vn cawb, .slice bowb y0.dn cbwb] 31) := ⟨_, rfl⟩
            have HC : Hid (Below w1.heap.size w1 wc) := by show Below _ _ _; rw [hwc]; exact b_alloc Hwb.out _
            have HBK : Hid (At w1 wc wb.heap.size #[.int .u8 ((y0.kd.toNat : Nat) : Int), .int .i64 y0.ix, .int .i64 y0.ce, .int .i64 y0.st, .slice aowb y0.vn cawb, .slice bowb y0.dn cbwb] 31) := at_made Hwb.out hwc
            have qa := Lw0.out wb Hwb.out
            have qb := Lw1.out wb Hwb.out
            have p0 := fun o => (qa.alloc o).cell (i := 0) rfl
            have p1 := fun o => (qa.alloc o).cell (i := 1) rfl
            have p2 := fun o => (qa.alloc o).cell (i := 2) rfl
            have p3 := fun o => (qa.alloc o).cell (i := 3) rfl
            have r0 := fun o => (qb.alloc o).cell (i := 0) rfl
            have r1 := fun o => (qb.alloc o).cell (i := 1) rfl
            clear qa qb
            go_wp2_with fail
            rw [← hwc]
            clear hwc
            refine (HO1.out _ (below_then Bw.out HC.out)).mono ?_
            rintro e wd ⟨aowd, cawd, bowd, cbwd, rfl, _, hwd⟩
            have HDC : Hid (Below wc.heap.size wc wd) := hwd
            have Hwd : Hid (Below w1.heap.size w1 wd) := below_then HC.out hwd
            clear hwd HO1 p0 p1 p2 p3 r0 r1
            skip
            have m2 := fun o => ((HBK.out.below HDC.out).alloc o).cell (i := 2) rfl
            go_wp2_with fail
            go_ret
            exact ⟨rfl, b_alloc (below_then Bw.out Hwd.out) _⟩
    · rw [s1] at HH
      simp only [Bool.false_eq_true, if_false, if_true] at HH ⊢
      clear s0 s1 t0 t1
      go_enter Try.func27, Try.ntmps27
      go_wp2_with fail
      rw [← hw0, ← hw1]
      clear hw0 bw0 zw0 hw1 bw1 zw1
      refine (HH.out _ Bw.out).mono ?_
      rintro e wa ⟨rfl, ha⟩
      have HA : Hid (Below w1.heap.size w1 wa) := ha
      clear ha HH
      have q0 := Lw0.out wa HA.out
      have q1 := Lw1.out wa HA.out
      have p0 := q0.cell (i := 0) rfl
      have p1 := q0.cell (i := 1) rfl
      have p2 := q0.cell (i := 2) rfl
      have p3 := q0.cell (i := 3) rfl
      have r0 := q1.cell (i := 0) rfl
      have r1 := q1.cell (i := 1) rfl
      clear q0 q1
      go_wp2_with fail
      go_ret
      exact ⟨rfl, below_then Bw.out HA.out⟩
  · rw [s0] at HH
    simp only [if_true] at HH ⊢
    clear s0 t0 t1
    go_enter Try.func27, Try.ntmps27
    go_wp2_with fail
    rw [← hw0, ← hw1]
    clear hw0 bw0 zw0 hw1 bw1 zw1
    refine (HH.out _ Bw.out).mono ?_
    rintro e wa ⟨rfl, ha⟩
    have HA : Hid (Below w1.heap.size w1 wa) := ha
    clear ha HH
    have q0 := Lw0.out wa HA.out
    have q1 := Lw1.out wa HA.out
    have p0 := q0.cell (i := 0) rfl
    have p1 := q0.cell (i := 1) rfl
    have p2 := q0.cell (i := 2) rfl
    have p3 := q0.cell (i := 3) rfl
    have r0 := q1.cell (i := 0) rfl
    have r1 := q1.cell (i := 1) rfl
    clear q0 q1
    go_wp2_with fail
    go_ret
    exact ⟨rfl, below_then Bw.out HA.out⟩
set_option maxHeartbeats 16000000 in
set_option maxRecDepth 100000 in
theorem ROlder_any {k r c q : Int} {N W : Nat} {x : Int} (h : Par k r c q N W x) (w : World) (a0 : Option Addr) (n0 c0 : Nat) (F0 : Nat → UInt8) (a1 : Option Addr) (n1 c1 : Nat) (F1 : Nat → UInt8) (h0 : Bec w a0 n0 c0 F0) (h1 : Bec w a1 n1 c1 F1) (l0 : n0 ≤ 9223372036854775807) (l1 : n1 ≤ 9223372036854775807) (kd : UInt8) (ix v : Int) (E : Int) (hE : erO (erC x N c n0 n1 ((kd.toNat : Nat) : Int) ix) v = E) (y0 y1 : Sl) (hy0 : he E N c ix n0 F0 = y0) (hy1 : he E N c ix n1 F1 = y1) :
    Calls Try.prog 14 #[.agg #[.int .i64 k, .int .i64 r, .int .i64 c, .int .i64 q], .agg #[.slice a0 n0 c0, .slice a1 n1 c1], .int .u8 ((kd.toNat : Nat) : Int), .int .i64 ix, .int .i64 v] w fun e w' => e = .returned (.tuple #[.int .i64 ((oN y0 y1 kd v : Nat) : Int), .int .i64 E]) ∧ Below w.heap.size w w' := by
  obtain ⟨w0, hw0⟩ : ∃ w0, w0 = w.alloc (.cells #[.int .i64 k, .int .i64 r, .int .i64 c, .int .i64 q] 23) := ⟨_, rfl⟩
  have bw0 : Below w.heap.size w w0 := by rw [hw0]; exact below_alloc _ _
  have zw0 : w0.heap.size = w.heap.size + 1 := by rw [hw0]; simp
  obtain ⟨w1, hw1⟩ : ∃ w1, w1 = w0.alloc (.cells #[.slice a0 n0 c0, .slice a1 n1 c1] 26) := ⟨_, rfl⟩
  have bw1 : Below w0.heap.size w0 w1 := by rw [hw1]; exact below_alloc _ _
  have zw1 : w1.heap.size = w.heap.size + 1 + 1 := by rw [hw1]; simp [zw0]
  have Bw : Hid (Below w.heap.size w w1) := (below_then bw0 bw1)
  have Lw0 : Hid (∀ v, Below w1.heap.size w1 v → At w v (w.heap.size) #[.int .i64 k, .int .i64 r, .int .i64 c, .int .i64 q] 23) := fun v hv => by exact (at_made (Below.refl _ _) hw0).below (below_then bw1 hv)
  have Lw1 : Hid (∀ v, Below w1.heap.size w1 v → At w v (w.heap.size + 1) #[.slice a0 n0 c0, .slice a1 n1 c1] 26) := fun v hv => by rw [← zw0]; exact (at_made bw0 hw1).below (below_then (Below.refl _ _) hv)
  obtain ⟨C, hC⟩ : ∃ C, erC x N c n0 n1 ((kd.toNat : Nat) : Int) ix = C := ⟨_, rfl⟩
  have HAS : Hid (∀ u, Calls Try.prog 21 #[.agg #[.int .i64 k, .int .i64 r, .int .i64 c, .int .i64 q], .agg #[.slice a0 n0 c0, .slice a1 n1 c1], .int .u8 ((kd.toNat : Nat) : Int), .int .i64 ix] u fun e w' => e = .returned (.int .i64 C) ∧ Below u.heap.size u w') := fun u => by rw [← hC]; exact asked_any h u a0 n0 c0 a1 n1 c1 _ ix
  have HNX : Hid (E = 0 → ∀ u, Below w.heap.size w u → Calls Try.prog 27 #[.agg #[.int .i64 k, .int .i64 r, .int .i64 c, .int .i64 q], .agg #[.slice a0 n0 c0, .slice a1 n1 c1], .int .u8 ((kd.toNat : Nat) : Int), .int .i64 ix, .int .i64 v] u fun e w' => e = .returned (.int .i64 ((oN y0 y1 kd v : Nat) : Int)) ∧ Below u.heap.size u w') := fun e u hu => by
    have hx : x = 0 := by
      have h3 : C = 0 := by
        rw [← hE, hC] at e; unfold erO at e
        by_cases q0 : C = 0
        · exact q0
        · rw [if_neg q0] at e; exact e
      exact erQ_zero (erT_zero (erC_zero (hC.trans h3)).1).1
    subst hx
    rw [e] at hy0 hy1
    exact Next_any h u a0 n0 c0 F0 a1 n1 c1 F1 (h0.below hu) (h1.below hu) l0 l1 kd ix v y0 y1 hy0 hy1
  have HVE := fun u => Version_any v u
  have HZ2 : Hid (¬ E = 0 → y0 = zSl ∧ y1 = zSl) := fun e => by
    rw [← hy0, ← hy1]; unfold he; rw [if_neg e, if_neg e]; exact ⟨rfl, rfl⟩
  have HEE : E = if C = 0 then (if 0 ≤ v ∧ v ≤ 1073741824 then 0 else 2) else C := by rw [← hE, hC]; rfl
  clear hE hy0 hy1 hC h h0 h1 l0 l1
  unfold verB at HVE
  by_cases eC : C = 0
  · subst eC
    rw [if_pos rfl] at HEE
    by_cases vv : 0 ≤ v ∧ v ≤ 1073741824
    · rw [if_pos vv] at HEE
      subst HEE
      have HN2 := HNX.out rfl
      clear HNX
      have HNX : Hid _ := HN2
      clear HN2
      clear HZ2
      by_cases v0 : v = 0
      · have v5 : (v != 0) = false := by simp [v0]
        clear v0 vv HVE
        go_enter Try.func14, Try.ntmps14
        go_wp2_with fail
        rw [← hw0, ← hw1]
        clear hw0 bw0 zw0 hw1 bw1 zw1
        refine (HAS.out _).mono ?_
        rintro e wa ⟨rfl, ha⟩
        have HA : Hid (Below w1.heap.size w1 wa) := ha
        clear ha HAS
        have q0 := Lw0.out wa HA.out
        have q1 := Lw1.out wa HA.out
        have p0 := q0.cell (i := 0) rfl
        have p1 := q0.cell (i := 1) rfl
        have p2 := q0.cell (i := 2) rfl
        have p3 := q0.cell (i := 3) rfl
        have r0 := q1.cell (i := 0) rfl
        have r1 := q1.cell (i := 1) rfl
        clear q0 q1
        go_wp2_with fail
        refine (HNX.out _ (below_then Bw.out HA.out)).mono ?_
        rintro e wb ⟨rfl, hb⟩
        go_wp2_with fail
        go_ret2
        exact ⟨rfl, below_then (below_then Bw.out HA.out) hb⟩
      · have v5 : (v != 0) = true := by simpa using v0
        simp only [decide_eq_true (p := 1 ≤ v ∧ v ≤ 1073741824) ⟨by omega, vv.2⟩] at HVE
        clear v0 vv
        go_enter Try.func14, Try.ntmps14
        go_wp2_with fail
        rw [← hw0, ← hw1]
        clear hw0 bw0 zw0 hw1 bw1 zw1
        refine (HAS.out _).mono ?_
        rintro e wa ⟨rfl, ha⟩
        have HA : Hid (Below w1.heap.size w1 wa) := ha
        clear ha HAS
        have q0 := Lw0.out wa HA.out
        have q1 := Lw1.out wa HA.out
        have p0 := q0.cell (i := 0) rfl
        have p1 := q0.cell (i := 1) rfl
        have p2 := q0.cell (i := 2) rfl
        have p3 := q0.cell (i := 3) rfl
        have r0 := q1.cell (i := 0) rfl
        have r1 := q1.cell (i := 1) rfl
        clear q0 q1
        go_wp2_with fail
        refine (HVE _).mono ?_
        rintro e w' ⟨rfl, hw'⟩
        obtain rfl := hw'.symm
        go_wp2_with fail
        refine (HNX.out _ (below_then Bw.out HA.out)).mono ?_
        rintro e wb ⟨rfl, hb⟩
        go_wp2_with fail
        go_ret2
        exact ⟨rfl, below_then (below_then Bw.out HA.out) hb⟩
    · rw [if_neg vv] at HEE
      subst HEE
      have v5 : (v != 0) = true := by simp only [bne_iff_ne, ne_eq]; omega
      simp only [decide_eq_false (p := 1 ≤ v ∧ v ≤ 1073741824) (by omega)] at HVE
      clear vv HNX
      go_enter Try.func14, Try.ntmps14
      go_wp2_with fail
      rw [← hw0, ← hw1]
      clear hw0 bw0 zw0 hw1 bw1 zw1
      refine (HAS.out _).mono ?_
      rintro e wa ⟨rfl, ha⟩
      have HA : Hid (Below w1.heap.size w1 wa) := ha
      clear ha HAS
      have q0 := Lw0.out wa HA.out
      have q1 := Lw1.out wa HA.out
      have p0 := q0.cell (i := 0) rfl
      have p1 := q0.cell (i := 1) rfl
      have p2 := q0.cell (i := 2) rfl
      have p3 := q0.cell (i := 3) rfl
      have r0 := q1.cell (i := 0) rfl
      have r1 := q1.cell (i := 1) rfl
      clear q0 q1
      go_wp2_with fail
      refine (HVE _).mono ?_
      rintro e w' ⟨rfl, hw'⟩
      obtain rfl := hw'.symm
      go_wp2_with fail
      obtain ⟨rfl, rfl⟩ := HZ2.out (by first | assumption | decide | trivial)
      go_ret2
      rw [oin_z]
      exact ⟨rfl, below_then Bw.out HA.out⟩
  · rw [if_neg eC] at HEE
    subst HEE
    have hq : (E == 0) = false := by simpa using eC
    have hq2 : (E != 0) = true := by simpa using eC
    clear HNX HVE
    go_enter Try.func14, Try.ntmps14
    go_wp2_with fail
    rw [← hw0, ← hw1]
    clear hw0 bw0 zw0 hw1 bw1 zw1
    refine (HAS.out _).mono ?_
    rintro e wa ⟨rfl, ha⟩
    have HA : Hid (Below w1.heap.size w1 wa) := ha
    clear ha HAS
    have q0 := Lw0.out wa HA.out
    have q1 := Lw1.out wa HA.out
    have p0 := q0.cell (i := 0) rfl
    have p1 := q0.cell (i := 1) rfl
    have p2 := q0.cell (i := 2) rfl
    have p3 := q0.cell (i := 3) rfl
    have r0 := q1.cell (i := 0) rfl
    have r1 := q1.cell (i := 1) rfl
    clear q0 q1
    go_wp2_with fail
    obtain ⟨rfl, rfl⟩ := HZ2.out (by first | assumption | decide | trivial)
    go_ret2
    rw [oin_z]
    exact ⟨rfl, below_then Bw.out HA.out⟩
end Go.Proofs.Ytmdeadakbohpeaa
