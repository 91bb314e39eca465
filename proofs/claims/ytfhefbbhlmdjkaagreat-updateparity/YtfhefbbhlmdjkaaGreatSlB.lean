/- What Size of the program answers, and whether a slot may be. -/
import Derived.Test.YtfhefbbhlmdjkaaGreatSlA
namespace Go.Proofs.YtfhefbbhlmdjkaaGreat
open Go.RowKit

set_option maxHeartbeats 400000 in
set_option maxRecDepth 100000 in
theorem Size_any {k r c q : Int} {N W : Nat} {x : Int} (h : Par k r c q N W x) (w : World) :
    Calls Tryz.prog 44 #[.agg #[.int .i64 k, .int .i64 r, .int .i64 c, .int .i64 q]] w fun e w' => e = .returned (.tuple #[.int .i64 ((szE x N c : Nat) : Int), .int .i64 x]) ∧ Below w.heap.size w w' := by
  have HD := fun w => Drives_any h w
  have hN := h.few
  have hc := fun e => h.cell e
  have hx := h.err
  clear h
  obtain ⟨w0, hw0⟩ : ∃ w0, w0 = w.alloc (.cells #[.int .i64 k, .int .i64 r, .int .i64 c, .int .i64 q] 23) := ⟨_, rfl⟩
  have b0 : Below w.heap.size w w0 := by rw [hw0]; exact below_alloc _ _
  rcases hx with rfl | rfl
  · have hc' := hc rfl
    clear hc
    have HE : Hid (12 + 4 * (N : Int) + c = ((szE 0 N c : Nat) : Int)) := by show _ = _; unfold szE sz; rw [if_pos rfl]; omega
    go_enter Tryz.func44, Tryz.ntmps44
    go_wp2_with fail
    rw [← hw0]
    refine (HD _).mono ?_
    rintro e wa ⟨rfl, ha⟩
    obtain ⟨s0, s1, s2, s3⟩ := par_held hw0 ha
    have hb := below_then b0 ha
    clear hw0
    go_wp2_with fail
    go_ret2
    exact ⟨by rw [← HE.out]; rfl, hb⟩
  · have HE : Hid (szE 2 N c = 0) := by show _ = _; unfold szE; rw [if_neg (by decide)]
    go_enter Tryz.func44, Tryz.ntmps44
    go_wp2_with fail
    rw [← hw0]
    refine (HD _).mono ?_
    rintro e wa ⟨rfl, ha⟩
    have hb := below_then b0 ha
    clear hw0
    go_wp2_with fail
    go_ret2
    exact ⟨by rw [HE.out]; rfl, hb⟩
theorem kd_one (u : UInt8) : ((u.toNat : Nat) : Int) = 1 ↔ u = 1 := by
  constructor
  · intro h; exact UInt8.toNat_inj.1 (by have : (1 : UInt8).toNat = 1 := rfl; omega)
  · rintro rfl; rfl
theorem kd_two (u : UInt8) : ((u.toNat : Nat) : Int) = 2 ↔ u = 2 := by
  constructor
  · intro h; exact UInt8.toNat_inj.1 (by have : (2 : UInt8).toNat = 2 := rfl; omega)
  · rintro rfl; rfl
set_option maxHeartbeats 2000000 in
set_option maxRecDepth 100000 in
theorem mayBe_any {k r c q : Int} {N W : Nat} (h : Par k r c q N W 0) (w : World) (s : Sl) (ao : Option Addr) (ca : Nat) (bo : Option Addr) (cb : Nat) (hs : Has w s ao ca bo cb) (y : Bool) (hy : okS N c s = y) :
    Calls Tryz.prog 47 #[.agg #[.int .i64 k, .int .i64 r, .int .i64 c, .int .i64 q], slv s ao ca bo cb] w fun e w' => e = .returned (.bool y) ∧ Below w.heap.size w w' := by
  obtain ⟨E, hE⟩ : ∃ E, erV 0 N s.vn s.V = E := ⟨_, rfl⟩
  have HL := fun w (hv : Vec w ao s.vn ca s.V) => Last_any h w ao s.vn ca s.V hv E hE
  have hN := h.few
  obtain ⟨kd, ix, ce, st, vn, V, dn, D⟩ := s
  simp only [slv] at *
  have HV : Hid (Vec w ao vn ca V) := hs.vec
  obtain ⟨kn, hkn⟩ : ∃ kn : Int, kn = ((kd.toNat : Nat) : Int) := ⟨_, rfl⟩
  have HK : Hid (decide (kd = 1 ∨ kd = 2) = decide (kn = 1 ∨ kn = 2)) := by
    show _ = _
    apply decide_eq_decide.2
    rw [hkn, kd_one, kd_two]
  have HO : Hid (okS N c ⟨kd, ix, ce, st, vn, V, dn, D⟩ = y) := hy
  rw [← hkn]
  clear hkn hs h hy
  obtain ⟨w0, hw0⟩ : ∃ w0, w0 = w.alloc (.cells #[.int .i64 k, .int .i64 r, .int .i64 c, .int .i64 q] 23) := ⟨_, rfl⟩
  obtain ⟨w1, hw1⟩ : ∃ w1, w1 = w0.alloc (.cells #[.int .u8 kn, .int .i64 ix, .int .i64 ce, .int .i64 st, .slice ao vn ca, .slice bo dn cb] 63) := ⟨_, rfl⟩
  have b0 : Below w.heap.size w w0 := by rw [hw0]; exact below_alloc _ _
  have b1 : Below w0.heap.size w0 w1 := by rw [hw1]; exact below_alloc _ _
  have z0 : w0.heap.size = w.heap.size + 1 := by rw [hw0]; simp
  unfold TellI at HL
  by_cases h1 : E = 0
  · subst h1
    obtain ⟨_, h3, h4⟩ := erV_of hE
    rw [if_pos rfl] at HL
    have HVV : Hid (∀ i, i < vn → 1 ≤ V i ∧ V i ≤ 1073741824) := h4
    obtain ⟨m, hm⟩ : ∃ m, mx V vn = m := ⟨_, rfl⟩
    rw [hm] at HL
    have HM : Hid (mx V vn = m) := hm
    have HN : Hid (vn = N) := h3
    clear hm h4 hE h3
    by_cases hk : kn = 1 ∨ kn = 2
    · by_cases hi : 0 ≤ ix ∧ ix < (vn : Int)
      · by_cases hd : (dn : Int) = c
        · have HY : Hid (y = decide (st = m ∧ ce = V ix.toNat)) := by
            show _ = _
            rw [← HO.out]
            unfold okS
            apply decide_eq_decide.2
            simp only
            rw [HM.out]
            constructor
            · rintro ⟨_, _, _, _, _, p, q⟩; exact ⟨p, q⟩
            · rintro ⟨p, q⟩; exact ⟨⟨HN.out, HVV.out⟩, of_decide_eq_true (by rw [HK.out]; exact decide_eq_true hk), hi.1, hi.2, hd, p, q⟩
          go_enter Tryz.func47, Tryz.ntmps47
          go_wp2_with fail
          rw [← hw0, ← hw1]
          refine (HL _ (HV.out.below (below_then b0 b1))).mono ?_
          rintro e wa ⟨rfl, ha⟩
          obtain ⟨s0, s1, s2, s3⟩ := par_held hw0 (below_then b1 ha)
          obtain ⟨m0, m1, m2, m3, m4, m5⟩ := slo_held hw1 ha
          rw [z0] at m0 m1 m2 m3 m4 m5
          have hb := below_then (below_then b0 b1) ha
          obtain ⟨b, off, rfl, hcc⟩ := (HV.out.below hb).rd (by omega)
          have ck := hcc ix.toNat (by omega)
          obtain ⟨t, ht⟩ : ∃ t : Nat, ix = (t : Int) := ⟨ix.toNat, by omega⟩
          subst ht
          rw [Int.toNat_natCast] at ck
          obtain ⟨vt, hvt⟩ : ∃ vt, V t = vt := ⟨_, rfl⟩
          rw [hvt] at ck
          have HT : Hid (V t = vt) := hvt
          have HBB : Hid (Below w.heap.size w wa) := hb
          clear hw0 hw1 hb ha b0 b1 z0 hcc hvt HL
          rcases hk with rfl | rfl
          all_goals (
            go_wp2_with fail
            by_cases hst : st = m
            · go_quiet (fail)
              go_wp2
              go_ret
              refine ⟨ret_bool ?_, HBB.out.trans (below_drewN _ _ _)⟩
              rw [HY.out, Int.toNat_natCast, HT.out]
              by_cases hce : ce = vt
              · rw [decide_eq_true (show st = m ∧ ce = vt from ⟨hst, hce⟩)]; simp [hce]
              · rw [decide_eq_false (show ¬ (st = m ∧ ce = vt) from fun h => hce h.2)]; simp [hce]
            · go_quiet (fail)
              go_wp2
              go_ret
              refine ⟨ret_bool ?_, HBB.out.trans (below_drewN _ _ _)⟩
              rw [HY.out, decide_eq_false (show ¬ (st = m ∧ ce = V (t : Int).toNat) from fun h => hst h.1)])
        · have HY : Hid (y = false) := by
            show _ = _
            rw [← HO.out]
            exact decide_eq_false fun ⟨p1, p2, p3, p4, p5, p6, p7⟩ => hd p5
          have hd2 : ((dn : Int) != c) = true := by simpa using hd
          go_enter Tryz.func47, Tryz.ntmps47
          go_wp2_with fail
          rw [← hw0, ← hw1]
          refine (HL _ (HV.out.below (below_then b0 b1))).mono ?_
          rintro e wa ⟨rfl, ha⟩
          obtain ⟨s0, s1, s2, s3⟩ := par_held hw0 (below_then b1 ha)
          obtain ⟨m0, m1, m2, m3, m4, m5⟩ := slo_held hw1 ha
          rw [z0] at m0 m1 m2 m3 m4 m5
          have HBB : Hid (Below w.heap.size w wa) := below_then (below_then b0 b1) ha
          clear hw0 hw1 ha b0 b1 z0 HL
          rcases hk with rfl | rfl
          all_goals (
            go_wp2_with fail
            go_ret
            exact ⟨ret_bool HY.out.symm, HBB.out⟩)
      · have HY : Hid (y = false) := by
          show _ = _
          rw [← HO.out]
          exact decide_eq_false fun ⟨p1, p2, p3, p4, p5, p6, p7⟩ => hi ⟨p3, p4⟩
        go_enter Tryz.func47, Tryz.ntmps47
        go_wp2_with fail
        rw [← hw0, ← hw1]
        refine (HL _ (HV.out.below (below_then b0 b1))).mono ?_
        rintro e wa ⟨rfl, ha⟩
        obtain ⟨s0, s1, s2, s3⟩ := par_held hw0 (below_then b1 ha)
        obtain ⟨m0, m1, m2, m3, m4, m5⟩ := slo_held hw1 ha
        rw [z0] at m0 m1 m2 m3 m4 m5
        have HBB : Hid (Below w.heap.size w wa) := below_then (below_then b0 b1) ha
        clear hw0 hw1 ha b0 b1 z0 HL
        have hi2 : ix < 0 ∨ (0 ≤ ix ∧ (vn : Int) ≤ ix) := by omega
        clear hi
        rcases hk with rfl | rfl <;> rcases hi2 with hi2 | ⟨hi2, hi3⟩
        all_goals (
          go_wp2_with fail
          go_ret
          exact ⟨ret_bool HY.out.symm, HBB.out⟩)
    · have HY : Hid (y = false) := by
        show _ = _
        rw [← HO.out]
        exact decide_eq_false fun ⟨p1, p2, p3, p4, p5, p6, p7⟩ => hk (of_decide_eq_true (by rw [← HK.out]; exact decide_eq_true p2))
      have hk1 : ¬ kn = 1 := fun h => hk (.inl h)
      have hk2 : ¬ kn = 2 := fun h => hk (.inr h)
      have hk3 : (kn != 1) = true := by simpa using hk1
      have hk4 : (kn != 2) = true := by simpa using hk2
      clear hk
      go_enter Tryz.func47, Tryz.ntmps47
      go_wp2_with fail
      rw [← hw0, ← hw1]
      refine (HL _ (HV.out.below (below_then b0 b1))).mono ?_
      rintro e wa ⟨rfl, ha⟩
      obtain ⟨s0, s1, s2, s3⟩ := par_held hw0 (below_then b1 ha)
      obtain ⟨m0, m1, m2, m3, m4, m5⟩ := slo_held hw1 ha
      rw [z0] at m0 m1 m2 m3 m4 m5
      have HBB : Hid (Below w.heap.size w wa) := below_then (below_then b0 b1) ha
      clear hw0 hw1 ha b0 b1 z0 HL
      go_wp2_with fail
      go_ret
      exact ⟨ret_bool HY.out.symm, HBB.out⟩
  · have hne : (E != 0) = true := by simpa using h1
    rw [if_neg h1] at HL
    have HY : Hid (y = false) := by
      show _ = _
      rw [← HO.out]
      exact decide_eq_false fun ⟨p1, p2, p3, p4, p5, p6, p7⟩ => h1 (by rw [← hE]; exact erV_ok p1.1 p1.2)
    clear hE
    go_enter Tryz.func47, Tryz.ntmps47
    go_wp2_with fail
    rw [← hw0, ← hw1]
    refine (HL _ (HV.out.below (below_then b0 b1))).mono ?_
    rintro e wa ⟨rfl, ha⟩
    obtain ⟨s0, s1, s2, s3⟩ := par_held hw0 (below_then b1 ha)
    obtain ⟨m0, m1, m2, m3, m4, m5⟩ := slo_held hw1 ha
    rw [z0] at m0 m1 m2 m3 m4 m5
    have HBB : Hid (Below w.heap.size w wa) := below_then (below_then b0 b1) ha
    clear hw0 hw1 ha b0 b1 z0 HL
    go_wp2_with fail
    go_ret
    exact ⟨ret_bool HY.out.symm, HBB.out⟩
end Go.Proofs.YtfhefbbhlmdjkaaGreat
