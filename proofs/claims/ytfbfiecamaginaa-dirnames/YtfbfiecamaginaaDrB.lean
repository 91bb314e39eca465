/- Whether entries may be, how many bytes they have; by the program and by the document. -/
import Derived.Test.YtfbfiecamaginaaDrA
namespace Go.Proofs.Ytfbfiecamaginaa
open Go.RowKit

theorem there_any (k r c q x : Int) (w : World) : Calls Try.prog 52 #[.agg #[.int .i64 k, .int .i64 r, .int .i64 c, .int .i64 q], .int .i64 x] w fun e w' => e = .returned (.bool (inR q x)) ∧ Below w.heap.size w w' := by
  go_enter Try.func52, Try.ntmps52
  go_wp2
  all_goals (
    go_ret
    refine ⟨ret_bool ?_, below_alloc _ _⟩
    unfold inR
    simp <;> omega)
theorem ent_held {w w0 w1 : World} {x0 x1 : Value} {t : TypeId} (h0 : w0 = w.alloc (.cells #[x0, x1] t)) (hb : Below w0.heap.size w0 w1) :
    w1.cell? ⟨w.heap.size, 0, none⟩ = some x0 ∧ w1.cell? ⟨w.heap.size, 1, none⟩ = some x1 := ⟨blk_held h0 hb 0 rfl, blk_held h0 hb 1 rfl⟩
set_option maxHeartbeats 1000000 in
set_option maxRecDepth 100000 in
theorem may_any (k r c q : Int) (w : World) (ao : Option Addr) (l : List En) (ca : Nat) (hv : Ren w ao l ca) (hn : l.length ≤ 1000000) :
    Calls Try.prog 33 #[.agg #[.int .i64 k, .int .i64 r, .int .i64 c, .int .i64 q], .slice ao l.length ca] w fun e w' => e = .returned (.bool (mayE q l)) ∧ Below w.heap.size w w' := by
  obtain ⟨w0, hw0⟩ : ∃ w0, w0 = w.alloc (.cells #[.int .i64 k, .int .i64 r, .int .i64 c, .int .i64 q] 24) := ⟨_, rfl⟩
  have b0 : Below w.heap.size w w0 := by rw [hw0]; exact below_alloc _ _
  have HPAR : Hid (∀ v, Below w0.heap.size w0 v → v.cell? ⟨w.heap.size, 0, none⟩ = some (.int .i64 k) ∧ v.cell? ⟨w.heap.size, 1, none⟩ = some (.int .i64 r) ∧ v.cell? ⟨w.heap.size, 2, none⟩ = some (.int .i64 c) ∧ v.cell? ⟨w.heap.size, 3, none⟩ = some (.int .i64 q)) := fun v hv => par_held hw0 hv
  have HV : Hid (Ren w0 ao l ca) := hv.below b0
  have HC := NCheck_any
  have HT := there_any k r c q
  have HL := Less_any
  have HB0 : Hid (Below w.heap.size w w0) := b0
  have HY : Hid ((∀ i, i < l.length → okI q l i = true) → mayE q l = true) := (mayE_iff q l).2
  have HN : Hid (∀ i, i < l.length → okI q l i = false → mayE q l = false) := fun i hi g => mayE_no hi g
  obtain ⟨M, hM⟩ : ∃ M, M = mayE q l := ⟨_, rfl⟩
  rw [← hM] at HY HN ⊢
  clear hv b0 hM
  go_enter Try.func33, Try.ntmps33
  go_wp2_with fail
  rw [← hw0]
  clear hw0
  go_loopw [9] (fun x wr => ∃ i : Nat, i ≤ l.length ∧ x = .int .i64 (i : Int) ∧ Hid (∀ j, j < i → okI q l j = true) ∧ Hid (Below w0.heap.size w0 wr)) (fun x _ => l.length - (intOf x).toNat)
  case atStart => exact ⟨0, Nat.zero_le _, rfl, fun j hj => absurd hj (by omega), Below.refl _ _⟩
  case round =>
    obtain ⟨i, hi, rfl, hok, hbel⟩ := hrel
    by_cases hlt : i < l.length
    · obtain ⟨b, off, rfl, hc⟩ := (HV.out.below hbel.out).at_ (by omega)
      obtain ⟨c0, c1⟩ := hc i hlt
      have HPREV : Hid (0 < i → wr.cell? ⟨b, off + (i - 1) * 2, none⟩ = some (.string ⟨(gN l (i - 1)).toArray⟩)) := fun h => (hc (i - 1) (by omega)).1
      have HOK : Hid (okI q l i = (oneE q (gN l i, gR l i) && (decide (i = 0) || decide (gN l (i - 1) < gN l i)))) := rfl
      have HNO : Hid (okI q l i = false → M = false) := HN.out i hlt
      have HYES : Hid (okI q l i = true → ∀ j, j < i + 1 → okI q l j = true) := fun h j hj => by
        by_cases e : j = i
        · rw [e]; exact h
        · exact hok.out j (by omega)
      obtain ⟨N, hN⟩ : ∃ N, N = gN l i := ⟨_, rfl⟩
      obtain ⟨R, hR⟩ : ∃ R, R = gR l i := ⟨_, rfl⟩
      rw [← hN] at c0 HOK
      rw [← hR] at c1 HOK
      have i1 : (0 : Int) ≤ (i : Int) := by omega
      have i2 : (i : Int) < (l.length : Int) := by omega
      obtain ⟨x0, x1, x2, x3⟩ := HPAR.out wr hbel.out
      clear hc hN hR
      obtain ⟨w1, hw1⟩ : ∃ w1, w1 = wr.alloc (.cells #[.string ⟨N.toArray⟩, .int .i64 R] 34) := ⟨_, rfl⟩
      have HB1 : Hid (Below w0.heap.size w0 w1) := by rw [hw1]; exact below_then hbel.out (below_alloc _ _)
      have HE : Hid (∀ v, Below w1.heap.size w1 v → v.cell? ⟨wr.heap.size, 0, none⟩ = some (.string ⟨N.toArray⟩) ∧ v.cell? ⟨wr.heap.size, 1, none⟩ = some (.int .i64 R)) := fun v hv => ent_held hw1 hv
      obtain ⟨y0, y1⟩ := HE.out w1 (Below.refl _ _)
      have HBW : Hid (Below wr.heap.size wr w1) := by rw [hw1]; exact below_alloc _ _
      have hHC := HC N
      cases hm : mayN N
      · rw [erM_bad hm] at hHC
        go_wp2_with fail
        rw [← hw1]
        clear hw1
        refine (hHC _).mono ?_
        rintro _ w2 ⟨rfl, rfl⟩
        go_wp2
        go_ret
        exact ⟨ret_bool (HNO.out (by rw [HOK.out]; unfold oneE; rw [hm]; rfl)).symm, below_then HB0.out HB1.out⟩
      · rw [erM_good hm] at hHC
        have hHT := HT R
        obtain ⟨x0, x1, x2, x3⟩ := HPAR.out w1 HB1.out
        cases hr : inR q R
        · rw [hr] at hHT
          go_wp2_with fail
          rw [← hw1]
          clear hw1
          refine (hHC _).mono ?_
          rintro _ w2 ⟨rfl, rfl⟩
          go_wp2_with fail
          refine (hHT _).mono ?_
          rintro _ w3 ⟨rfl, hb3⟩
          go_wp2
          go_ret
          exact ⟨ret_bool (HNO.out (by rw [HOK.out]; unfold oneE; rw [hm, hr]; rfl)).symm, below_then HB0.out (below_then HB1.out hb3)⟩
        · rw [hr] at hHT
          have HON : Hid (oneE q (N, R) = true) := by show oneE q (N, R) = true; unfold oneE; rw [hm, hr]; rfl
          go_wp2_with fail
          rw [← hw1]
          clear hw1
          refine (hHC _).mono ?_
          rintro _ w2 ⟨rfl, rfl⟩
          go_wp2_with fail
          refine (hHT _).mono ?_
          rintro _ w3 ⟨rfl, hb3⟩
          obtain ⟨z0, z1⟩ := HE.out w3 hb3
          have HB3 : Hid (Below w0.heap.size w0 w3) := below_then HB1.out hb3
          have HP3 : Hid (0 < i → w3.cell? ⟨b, off + (i - 1) * 2, none⟩ = some (.string ⟨(gN l (i - 1)).toArray⟩)) := fun h => held (HPREV.out h) (below_then HBW.out hb3)
          clear x0 x1 x2 x3 y0 y1 c0 c1 HE hb3 hHT hHC HPREV HBW HT HC
          by_cases h0 : i = 0
          · subst h0
            have HOKI : Hid (okI q l 0 = true) := by show _ = _; rw [HOK.out, HON.out]; rfl
            go_wp2
            go_quiet (fail)
            go_wp2
            go_roundw
            case rel => exact ⟨0 + 1, by omega, by go_num, HYES.out HOKI.out, HB3.out.trans (below_drewN _ _ _)⟩
            case measure => simp [intOf]; omega
          · have hHL := HL (gN l (i - 1)) N
            have c2 := HP3.out (by omega)
            obtain ⟨m, hm1⟩ : ∃ m, m = i - 1 := ⟨_, rfl⟩
            rw [← hm1] at hHL c2
            have i0 : 0 < i := by omega
            have i3 : (0 : Int) < (i : Int) := by omega
            have i4 : (0 : Int) ≤ (m : Int) := by omega
            have i5 : (m : Int) < (l.length : Int) := by omega
            have i6 : IntKind.i64.wrap ((i : Int) - 1) = (m : Int) := by rw [IntKind.wrap_i64]; omega
            have HM : Hid (m = i - 1) := hm1
            clear hm1
            cases hl : decide (gN l m < N)
            · rw [hl] at hHL
              go_wp2_with fail
              go_region_held3 (fun w' => w'.cell? ⟨b, off + m * 2, none⟩ = some (.string ⟨(gN l m).toArray⟩) ∧ w'.cell? ⟨wr.heap.size, 0, none⟩ = some (.string ⟨N.toArray⟩)) (go_keep) ((go_at_call 53; refine (hHL _).mono ?_; rintro e wa ⟨rfl, rfl⟩))
              go_wp2
              go_ret
              exact ⟨ret_bool (HNO.out (by rw [HOK.out, HON.out, ← HM.out, hl]; simp [h0])).symm, below_then HB0.out (HB3.out.trans (below_drew _ _))⟩
            · rw [hl] at hHL
              have HOKI : Hid (okI q l i = true) := by show _ = _; rw [HOK.out, HON.out, ← HM.out, hl]; simp
              go_wp2_with fail
              go_region_held3 (fun w' => w'.cell? ⟨b, off + m * 2, none⟩ = some (.string ⟨(gN l m).toArray⟩) ∧ w'.cell? ⟨wr.heap.size, 0, none⟩ = some (.string ⟨N.toArray⟩)) (go_keep) ((go_at_call 53; refine (hHL _).mono ?_; rintro e wa ⟨rfl, rfl⟩))
              go_wp2
              trace_state
              go_roundw
              case rel => exact ⟨i + 1, by omega, by go_num, HYES.out HOKI.out, HB3.out.trans (below_drew _ _)⟩
              case measure => simp [intOf]; omega
    · obtain rfl : i = l.length := by omega
      have HMM : Hid (M = true) := HY.out fun j hj => hok.out j hj
      go_wp2
      go_ret
      exact ⟨ret_bool HMM.out.symm, below_then HB0.out hbel.out⟩
end Go.Proofs.Ytfbfiecamaginaa
