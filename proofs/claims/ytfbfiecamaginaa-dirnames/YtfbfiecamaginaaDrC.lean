/- Whether entries may be, by the document; how many bytes they have, by both; whether two lists are the same. -/
import Derived.Test.YtfbfiecamaginaaDrB
import Derived.Lib.QuietBelow
namespace Go.Proofs.Ytfbfiecamaginaa
open Go.RowKit Go.Sort

theorem NMay_iff (l : Nm) (w : World) : Calls Try.prog 57 #[.string ⟨l.toArray⟩] w fun e w' => e = .returned (.bool (mayN l)) ∧ Below w.heap.size w w' := (NMay_any l w).mono fun _ _ ⟨h1, h2⟩ => ⟨h1, by rw [h2]; exact Below.refl _ _⟩
set_option maxHeartbeats 1000000 in
set_option maxRecDepth 100000 in
theorem one_any (k r c q : Int) (N : Nm) (R : Int) (w : World) : Calls Try.prog 45 #[.agg #[.int .i64 k, .int .i64 r, .int .i64 c, .int .i64 q], .agg #[.string ⟨N.toArray⟩, .int .i64 R]] w fun e w' => e = .returned (.bool (oneE q (N, R))) ∧ Below w.heap.size w w' := by
  have HC := NMay_any N
  obtain ⟨w0, hw0⟩ : ∃ w0, w0 = w.alloc (.cells #[.int .i64 k, .int .i64 r, .int .i64 c, .int .i64 q] 24) := ⟨_, rfl⟩
  obtain ⟨w1, hw1⟩ : ∃ w1, w1 = w0.alloc (.cells #[.string ⟨N.toArray⟩, .int .i64 R] 34) := ⟨_, rfl⟩
  have b1 : Below w.heap.size w w1 := by rw [hw1, hw0]; exact below_then (below_alloc _ _) (below_alloc _ _)
  obtain ⟨x0, x1, x2, x3⟩ := par_held hw0 (show Below w0.heap.size w0 w1 by rw [hw1]; exact below_alloc _ _)
  obtain ⟨y0, y1⟩ := ent_held hw1 (Below.refl _ _)
  have HW : Hid (w1 = (w.alloc (.cells #[.int .i64 k, .int .i64 r, .int .i64 c, .int .i64 q] 24)).alloc (.cells #[.string ⟨N.toArray⟩, .int .i64 R] 34)) := by show _ = _; rw [hw1, hw0]
  have hs : w0.heap.size = w.heap.size + 1 := by rw [hw0]; simp
  rw [hs] at y0 y1
  clear hw1 hw0 hs
  cases hm : mayN N
  · rw [hm] at HC
    go_enter Try.func45, Try.ntmps45
    go_wp2_with fail
    rw [← HW.out]
    clear HW
    refine (HC _).mono ?_
    rintro _ w2 ⟨rfl, rfl⟩
    go_wp2
    go_ret
    exact ⟨ret_bool (by unfold oneE; rw [hm]; rfl), b1⟩
  · rw [hm] at HC
    go_enter Try.func45, Try.ntmps45
    go_wp2_with fail
    rw [← HW.out]
    clear HW
    refine (HC _).mono ?_
    rintro _ w2 ⟨rfl, rfl⟩
    go_wp2
    all_goals (
      go_ret
      refine ⟨ret_bool ?_, b1⟩
      unfold oneE inR
      rw [hm]
      simp <;> omega)
set_option maxHeartbeats 2000000 in
set_option maxRecDepth 100000 in
theorem RMay_any (k r c q : Int) (w : World) (ao : Option Addr) (l : List En) (ca : Nat) (hv : Ren w ao l ca) (hn : l.length ≤ 1000000) (hlong : ∀ x ∈ l, x.1.length ≤ 100000) :
    Calls Try.prog 50 #[.agg #[.int .i64 k, .int .i64 r, .int .i64 c, .int .i64 q], .slice ao l.length ca] w fun e w' => e = .returned (.bool (mayE q l)) ∧ Below w.heap.size w w' := by
  obtain ⟨w0, hw0⟩ : ∃ w0, w0 = w.alloc (.cells #[.int .i64 k, .int .i64 r, .int .i64 c, .int .i64 q] 24) := ⟨_, rfl⟩
  have b0 : Below w.heap.size w w0 := by rw [hw0]; exact below_alloc _ _
  have HPAR : Hid (∀ v, Below w0.heap.size w0 v → v.cell? ⟨w.heap.size, 0, none⟩ = some (.int .i64 k) ∧ v.cell? ⟨w.heap.size, 1, none⟩ = some (.int .i64 r) ∧ v.cell? ⟨w.heap.size, 2, none⟩ = some (.int .i64 c) ∧ v.cell? ⟨w.heap.size, 3, none⟩ = some (.int .i64 q)) := fun v hv => par_held hw0 hv
  have HV : Hid (Ren w0 ao l ca) := hv.below b0
  have HT := one_any k r c q
  have HL : Hid (∀ i, i < l.length → ∀ b w, Calls Try.prog 58 #[.string ⟨(gN l i).toArray⟩, .string ⟨(b : Nm).toArray⟩] w fun e w' => e = .returned (.bool (decide (gN l i < b))) ∧ Below w.heap.size w w') := fun i hi b w =>
    (RLess_any (gN l i) b w (by rw [gN_eq hi]; exact hlong _ (List.getElem_mem hi))).mono fun _ _ ⟨h1, q, h2⟩ => ⟨h1, by rw [h2]; exact below_drewN _ _ _⟩
  have HB0 : Hid (Below w.heap.size w w0) := b0
  have HY : Hid ((∀ i, i < l.length → okI q l i = true) → mayE q l = true) := (mayE_iff q l).2
  have HN : Hid (∀ i, i < l.length → okI q l i = false → mayE q l = false) := fun i hi g => mayE_no hi g
  obtain ⟨M, hM⟩ : ∃ M, M = mayE q l := ⟨_, rfl⟩
  rw [← hM] at HY HN ⊢
  clear hv b0 hM hlong
  go_enter Try.func50, Try.ntmps50
  go_wp2_with fail
  rw [← hw0]
  clear hw0
  go_loopw [5] (fun x wr => ∃ i : Nat, i ≤ l.length ∧ x = .int .i64 (i : Int) ∧ Hid (∀ j, j < i → okI q l j = true) ∧ Hid (Below w0.heap.size w0 wr)) (fun x _ => l.length - (intOf x).toNat)
  case atStart => exact ⟨0, Nat.zero_le _, rfl, fun j hj => absurd hj (by omega), Below.refl _ _⟩
  case round =>
    obtain ⟨i, hi, rfl, hok, hbel⟩ := hrel
    by_cases hlt : i < l.length
    · obtain ⟨b, off, rfl, hc⟩ := (HV.out.below hbel.out).at_ (by omega)
      obtain ⟨c0, c1⟩ := hc i hlt
      have HPREV : Hid (0 < i → wr.cell? ⟨b, off + (i - 1) * 2, none⟩ = some (.string ⟨(gN l (i - 1)).toArray⟩)) := fun h => (hc (i - 1) (by omega)).1
      have HOK : Hid (okI q l i = (oneE q (gN l i, gR l i) && (decide (i = 0) || decide (gN l (i - 1) < gN l i)))) := rfl
      have HNO : Hid (okI q l i = false → M = false) := HN.out i hlt
      have HYES : Hid (okI q l i = true → ∀ j, j < i + 1 → okI q l j = true) := fun h j hj => by
        by_cases e : j = i
        · rw [e]; exact h
        · exact hok.out j (by omega)
      obtain ⟨N, hN⟩ : ∃ N, N = gN l i := ⟨_, rfl⟩
      obtain ⟨R, hR⟩ : ∃ R, R = gR l i := ⟨_, rfl⟩
      rw [← hN] at c0 HOK
      rw [← hR] at c1 HOK
      have i1 : (0 : Int) ≤ (i : Int) := by omega
      have i2 : (i : Int) < (l.length : Int) := by omega
      obtain ⟨x0, x1, x2, x3⟩ := HPAR.out wr hbel.out
      clear hc hN hR
      have k0 := cell_regrown c0
      have k1 := cell_regrown c1
      have p0 := cell_regrown x0
      have p1 := cell_regrown x1
      have p2 := cell_regrown x2
      have p3 := cell_regrown x3
      have HTT := HT N R
      cases hm : oneE q (N, R)
      · rw [hm] at HTT
        have cT := fun d os => Calls.regrown_of (d := d) (os := os) (HTT (grow (redrawn wr d) os))
        clear HT HTT c0 c1 x0 x1 x2 x3 HPREV
        go_wp2_with fail
        refine wp_region_quiet_below (by kernel_rfl) (by kernel_rfl) ?_
        repeat (go_big_quiet_step (exact cT _ _))
        refine wpQuiet_nil ?_
        intro _ hw'
        obtain ⟨⟨dq, osq⟩, hw''⟩ := hw'
        subst hw''
        go_wp2
        go_ret
        exact ⟨ret_bool (HNO.out (by rw [HOK.out, hm]; rfl)).symm, below_then HB0.out (hbel.out.trans ((below_regrown wr dq osq).mono hbel.out.size))⟩
      · rw [hm] at HTT
        have cT := fun d os => Calls.regrown_of (d := d) (os := os) (HTT (grow (redrawn wr d) os))
        by_cases h0 : i = 0
        · have HOKI : Hid (okI q l i = true) := by show _ = _; rw [HOK.out, hm, h0]; rfl
          have H0 : Hid (i = 0) := h0
          have d1 : decide ((0 : Int) < (i : Int)) = false := by simp; omega
          have d2 : decide (0 < i) = false := by simp; omega
          have d3 : ¬ (0 : Int) < (i : Int) := by omega
          have d4 : ¬ 0 < i := by omega
          clear h0
          clear HT HTT c0 c1 x0 x1 x2 x3 HPREV
          go_wp2_with fail
          refine wp_region_quiet_below (by kernel_rfl) (by kernel_rfl) ?_
          repeat (go_big_quiet_step (exact cT _ _))
          refine wpQuiet_nil ?_
          intro _ hw'
          obtain ⟨⟨dq, osq⟩, hw''⟩ := hw'
          subst hw''
          go_wp2
          go_roundw
          case rel => exact ⟨i + 1, by omega, by go_num, HYES.out HOKI.out, hbel.out.trans ((below_regrown wr dq osq).mono hbel.out.size)⟩
          case measure => simp [intOf]; omega
        · obtain ⟨m, hm1⟩ : ∃ m, m = i - 1 := ⟨_, rfl⟩
          have c2 := HPREV.out (by omega)
          rw [← hm1] at c2
          have k2 := cell_regrown c2
          have i0 : 0 < i := by omega
          have i3 : (0 : Int) < (i : Int) := by omega
          have d1 : decide ((0 : Int) < (i : Int)) = true := by simp; omega
          have d2 : decide (0 < i) = true := by simp; omega
          have i4 : (0 : Int) ≤ (m : Int) := by omega
          have i5 : (m : Int) < (l.length : Int) := by omega
          have i6 : IntKind.i64.wrap ((i : Int) - 1) = (m : Int) := by rw [IntKind.wrap_i64]; omega
          have HM : Hid (m = i - 1) := hm1
          have HLL := HL.out m (by omega) N
          clear hm1
          cases hl : decide (gN l m < N)
          · rw [hl] at HLL
            have cL := fun d os => Calls.regrown_of (d := d) (os := os) (HLL (grow (redrawn wr d) os))
            clear HT HTT c0 c1 x0 x1 x2 x3 HPREV c2 HLL
            go_wp2_with fail
            refine wp_region_quiet_below (by kernel_rfl) (by kernel_rfl) ?_
            repeat (go_big_quiet_step (first | exact cT _ _ | exact cL _ _))
            refine wpQuiet_nil ?_
            intro _ hw'
            obtain ⟨⟨dq, osq⟩, hw''⟩ := hw'
            subst hw''
            go_wp2
            go_ret
            exact ⟨ret_bool (HNO.out (by rw [HOK.out, hm, ← HM.out, hl]; simp [h0])).symm, below_then HB0.out (hbel.out.trans ((below_regrown wr dq osq).mono hbel.out.size))⟩
          · rw [hl] at HLL
            have cL := fun d os => Calls.regrown_of (d := d) (os := os) (HLL (grow (redrawn wr d) os))
            have HOKI : Hid (okI q l i = true) := by show _ = _; rw [HOK.out, hm, ← HM.out, hl]; simp
            clear HT HTT c0 c1 x0 x1 x2 x3 HPREV c2 HLL
            go_wp2_with fail
            refine wp_region_quiet_below (by kernel_rfl) (by kernel_rfl) ?_
            repeat (go_big_quiet_step (first | exact cT _ _ | exact cL _ _))
            refine wpQuiet_nil ?_
            intro _ hw'
            obtain ⟨⟨dq, osq⟩, hw''⟩ := hw'
            subst hw''
            go_wp2
            go_roundw
            case rel => exact ⟨i + 1, by omega, by go_num, HYES.out HOKI.out, hbel.out.trans ((below_regrown wr dq osq).mono hbel.out.size)⟩
            case measure => simp [intOf]; omega
    · obtain rfl : i = l.length := by omega
      have HMM : Hid (M = true) := HY.out fun j hj => hok.out j hj
      go_wp2
      go_ret
      exact ⟨ret_bool HMM.out.symm, below_then HB0.out hbel.out⟩
end Go.Proofs.Ytfbfiecamaginaa
