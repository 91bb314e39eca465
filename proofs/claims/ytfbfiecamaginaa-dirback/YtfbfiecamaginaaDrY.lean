/- DirBack's walk. -/
import Derived.Test.YtfbfiecamaginaaDrX
namespace Go.Proofs.Ytfbfiecamaginaa
open Go.RowKit Go.Sort

theorem erB_zero {e : Int} {M : Nat} {q : Int} {n : Nat} {l : List En} {rest : List UInt8} (h : erB e M q n l rest = 0) : e = 0 ∧ n ≤ M ∧ rest = [] ∧ mayE q l = true := by
  unfold erB at h
  split at h
  · next h0 =>
    split at h
    · cases h
    · next h1 =>
      split at h
      · next h2 => exact ⟨h0, by omega, h2.1, h2.2⟩
      · cases h
  · next h0 => exact absurd h h0
theorem erT_zero {e q : Int} {L : List Int} (h : erT e q L = 0) : e = 0 ∧ okT q L = true := by
  unfold erT at h
  split at h
  · next h0 =>
    split at h
    · next h1 => exact ⟨h0, h1⟩
    · cases h
  · next h0 => exact absurd h h0
theorem erU_zero {e q : Int} {b : List UInt8} (h : erU e q b = 0) : e = 0 ∧ b.length = 8 ∧ allR q (rws b) = true := by
  unfold erU at h
  split at h
  · next h0 =>
    split at h
    · next h1 => exact ⟨h0, h1.1, h1.2⟩
    · cases h
  · next h0 => exact absurd h h0
/-- Entries as bytes, read back. -/
theorem back_a {k r c q : Int} {M : Nat} {e : Int} (hp : PP k r c q M e) {l : List En} (h : erC e M q l = 0) : erB e M q (bys l).length l [] = 0 ∧ Prs (bys l) l [] := by
  obtain ⟨h1, h2, h3⟩ := erC_zero h
  subst h1
  exact ⟨erB_good (by rw [bys_length]; omega) rfl h2, prs_bys (hp.rows rfl).2 h2⟩
theorem back_b {e : Int} {M : Nat} {q : Int} {b rest : List UInt8} {l : List En} (hp : Prs b l rest) (h : erB e M q b.length l rest = 0) : erC e M q l = 0 ∧ bys l = b := by
  obtain ⟨h1, h2, h3, h4⟩ := erB_zero h
  subst h3
  have hb : b = bys l := by rw [hp.1]; simp
  exact ⟨erC_good h1 h4 (by rw [← bys_length, ← hb]; exact h2), hb.symm⟩
theorem back_c {k r c q : Int} {M : Nat} {e : Int} (hp : PP k r c q M e) {L : List Int} (h : erT e q L = 0) : erU e q (rts L) = 0 ∧ rws (rts L) = L := by
  obtain ⟨h1, h2⟩ := erT_zero h
  subst h1
  have hw := rws_rts (hp.rows rfl).2 h2
  unfold okT at h2
  rw [Bool.and_eq_true] at h2
  have h4 : L.length = 4 := by simpa using h2.2
  exact ⟨erU_good (by rw [rts_length]; omega) (by rw [hw]; exact h2.1), hw⟩
theorem back_d {e q : Int} {b : List UInt8} (h : erU e q b = 0) : erT e q (rws b) = 0 ∧ rts (rws b) = b := by
  obtain ⟨h1, h2, h3⟩ := erU_zero h
  subst h1
  exact ⟨erT_good (by rw [okT_rws]; exact h3), rts_rws h2⟩
set_option maxHeartbeats 8000000 in
set_option maxRecDepth 100000 in
theorem back_law {k r c q : Int} {M : Nat} {e : Int} (hp : PP k r c q M e) (w : World) (ao bo io : Option Addr) (l : List En) (b : List UInt8) (R : List Int) (ca cb ci : Nat) (hv : Ren w ao l ca) (hu : Reb w bo b cb) (hi : Rei w io R ci) :
    Calls Try.prog 6 #[.agg #[.int .i64 k, .int .i64 r, .int .i64 c, .int .i64 q], .slice ao l.length ca, .slice bo b.length cb, .slice io R.length ci] w fun e' w' => e' = .returned (.bool true) ∧ RowKit.Below w.heap.size w w' := by
  obtain ⟨w0, hw0⟩ : ∃ w0, w0 = w.alloc (.cells #[.int .i64 k, .int .i64 r, .int .i64 c, .int .i64 q] 24) := ⟨_, rfl⟩
  have b0 : RowKit.Below w.heap.size w w0 := by rw [hw0]; exact below_alloc _ _
  have HPAR : Hid (∀ v, RowKit.Below w0.heap.size w0 v → v.cell? ⟨w.heap.size, 0, none⟩ = some (.int .i64 k) ∧ v.cell? ⟨w.heap.size, 1, none⟩ = some (.int .i64 r) ∧ v.cell? ⟨w.heap.size, 2, none⟩ = some (.int .i64 c) ∧ v.cell? ⟨w.heap.size, 3, none⟩ = some (.int .i64 q)) := fun v hv => par_held hw0 hv
  have HV : Hid (∀ v, RowKit.Below w0.heap.size w0 v → Ren v ao l ca) := fun v h => hv.below (below_then b0 h)
  have HU : Hid (∀ v, RowKit.Below w0.heap.size w0 v → Reb v bo b cb) := fun v h => hu.below (below_then b0 h)
  have HI : Hid (∀ v, RowKit.Below w0.heap.size w0 v → Rei v io R ci) := fun v h => hi.below (below_then b0 h)
  have HB0 : Hid (RowKit.Below w.heap.size w w0) := b0
  have HP : Hid (PP k r c q M e) := hp
  have HAL := alive_any w0
  clear hv hu hi b0 hp
  go_enter Try.func6, Try.ntmps6
  go_wp2_with fail
  rw [← hw0]
  clear hw0
  refine HAL.mono ?_
  rintro _ w1 ⟨rfl, h1⟩
  have HB1 : Hid (RowKit.Below w0.heap.size w0 w1) := h1
  have hMU := much_any w1 ao l ca (HV.out w1 h1)
  clear HAL h1
  cases hm : muE l
  · rw [hm] at hMU
    have hfew := few_mu hm
    have HF : Hid (Few l) := hfew
    clear hm hfew
    by_cases hb4 : b.length ≤ 40000
    · have d1 : ¬ (40000 : Int) < (b.length : Int) := by omega
      by_cases hr2 : R.length ≤ 2000
      · have d2 : ¬ (2000 : Int) < (R.length : Int) := by omega
        have HS : Hid (b.length ≤ 40000 ∧ R.length ≤ 2000) := ⟨hb4, hr2⟩
        clear hb4 hr2
        go_wp2_with fail
        refine hMU.mono ?_
        rintro _ w2 ⟨rfl, h2⟩
        have HB2 : Hid (RowKit.Below w0.heap.size w0 w2) := below_then HB1.out h2
        have hC := Bytes_go HP.out w2 ao l ca (HV.out w2 HB2.out) HF.out
        obtain ⟨x0, x1, x2, x3⟩ := HPAR.out w2 HB2.out
        clear h2 hMU
        go_wp2_with fail
        refine hC.mono ?_
        rintro _ w3 ⟨E1, co, cc, c1, hE1, hc1, rfl, ho1, h3⟩
        have HB3 : Hid (RowKit.Below w0.heap.size w0 w3) := below_then HB2.out h3
        clear hC x0 x1 x2 x3
        by_cases e1 : E1 = 0
        case' pos =>
          subst e1
          rw [if_pos rfl] at hc1
          subst hc1
          obtain ⟨g1, g2⟩ := back_a HP.out hE1.symm
          have hlen : (bys l).length ≤ 100000 := by have := (erC_zero hE1.symm).2.2; have := HP.out.top; rw [bys_length]; omega
          have hC := Parse_any HP.out w3 co (bys l) cc ho1.reb hlen l [] g2
          rw [g1] at hC
          obtain ⟨x0, x1, x2, x3⟩ := HPAR.out w3 HB3.out
          obtain ⟨c1, hc1⟩ : ∃ c1, c1 = bys l := ⟨_, rfl⟩
          rw [← hc1] at hC ⊢
          clear hE1 g1 g2 hlen h3 ho1 hc1
          go_wp2_with fail
          refine hC.mono ?_
          rintro _ w4 ⟨E, lo, lc, L, hE, hL, rfl, ho, h4⟩
          subst hE
          rw [if_pos rfl] at hL
          have hL2 := hL.symm
          subst hL2
          clear hL
          have HB4 : Hid (RowKit.Below w0.heap.size w0 w4) := below_then HB3.out h4
          have hS := Same_any w4 lo ao l l lc ca ho.ren (HV.out w4 HB4.out) (by have := HF.out.1; omega)
          rw [decide_eq_true rfl] at hS
          clear hC x0 x1 x2 x3 h4 ho
          go_wp2_with fail
          refine hS.mono ?_
          rintro _ w5 ⟨rfl, h5⟩
          have HBA : Hid (RowKit.Below w0.heap.size w0 w5) := below_then HB4.out h5
          obtain ⟨wA, rfl⟩ : ∃ wA, wA = w5 := ⟨_, rfl⟩
          obtain ⟨x0, x1, x2, x3⟩ := HPAR.out wA HBA.out
          clear hS h5
          go_wp2_with fail
        case' neg =>
          have HE1 : Hid (E1 ≠ 0) := e1
          have e1z : (E1 == 0) = false := by simpa using e1
          obtain ⟨wA, rfl⟩ : ∃ wA, wA = w3 := ⟨_, rfl⟩
          have HBA : Hid (RowKit.Below w0.heap.size w0 wA) := HB3
          obtain ⟨x0, x1, x2, x3⟩ := HPAR.out wA HBA.out
          clear hE1 hc1 ho1 h3 e1
          go_wp2_with fail
        all_goals (
          obtain ⟨lb, rest, hpr⟩ := prs_of b
          have hC := Parse_any HP.out wA bo b cb (HU.out wA HBA.out) (by have := HS.out; omega) lb rest hpr
          refine hC.mono ?_
          rintro _ w6 ⟨E2, lo2, lc2, L2, hE2, hL2, rfl, ho6, h6⟩
          have HB6 : Hid (RowKit.Below w0.heap.size w0 w6) := below_then HBA.out h6
          clear hC x0 x1 x2 x3
          by_cases e2 : E2 = 0
          case' pos =>
            subst e2
            rw [if_pos rfl] at hL2
            subst hL2
            obtain ⟨g1, g2⟩ := back_b hpr hE2.symm
            have hsz : szE L2 = b.length := by rw [← bys_length, g2]
            have hfl : Few L2 := ⟨by have := sz_len L2; have := HS.out; omega, by have := HS.out; omega, fun x hx => by have := (hpr.2.1 x hx).1; omega⟩
            have hC := Bytes_go HP.out w6 lo2 L2 lc2 ho6.ren hfl
            rw [g1, g2] at hC
            obtain ⟨x0, x1, x2, x3⟩ := HPAR.out w6 HB6.out
            clear hpr hE2 g1 g2 hsz hfl h6 ho6
            go_wp2_with fail
            refine hC.mono ?_
            rintro _ w7 ⟨E, oo, oc, D, hE, hD, rfl, ho, h7⟩
            subst hE
            rw [if_pos rfl] at hD
            have hD2 := hD.symm
            subst hD2
            have HBB : Hid (RowKit.Below w0.heap.size w0 w7) := below_then HB6.out h7
            have t1 := text_reb ho.reb
            have t2 := text_reb (HU.out w7 HBB.out)
            obtain ⟨wB, rfl⟩ : ∃ wB, wB = w7 := ⟨_, rfl⟩
            clear hC x0 x1 x2 x3 hD ho h7
            obtain ⟨x0, x1, x2, x3⟩ := HPAR.out wB HBB.out
            go_wp2_with fail
          case' neg =>
            have HE2 : Hid (E2 ≠ 0) := e2
            have e2z : (E2 == 0) = false := by simpa using e2
            obtain ⟨wB, rfl⟩ : ∃ wB, wB = w6 := ⟨_, rfl⟩
            have HBB : Hid (RowKit.Below w0.heap.size w0 wB) := HB6
            obtain ⟨x0, x1, x2, x3⟩ := HPAR.out wB HBB.out
            clear hpr hE2 hL2 ho6 h6 e2
            go_wp2_with fail
          all_goals (
            have hC := Root_any HP.out wB io R ci (HI.out wB HBB.out) (by have := HS.out; omega)
            refine hC.mono ?_
            rintro _ w8 ⟨E3, ro, rc, D3, hE3, hD3, rfl, ho8, h8⟩
            have HB8 : Hid (RowKit.Below w0.heap.size w0 w8) := below_then HBB.out h8
            clear hC x0 x1 x2 x3
            by_cases e3 : E3 = 0
            case' pos =>
              subst e3
              rw [if_pos rfl] at hD3
              subst hD3
              obtain ⟨g1, g2⟩ := back_c HP.out hE3.symm
              have hC := Buckets_any HP.out w8 ro (rts R) rc ho8.reb
              rw [g1, g2] at hC
              obtain ⟨x0, x1, x2, x3⟩ := HPAR.out w8 HB8.out
              obtain ⟨D4, hD4⟩ : ∃ D4, D4 = rts R := ⟨_, rfl⟩
              rw [← hD4] at hC
              rw [← hD4]
              clear hE3 g1 g2 h8 ho8 hD4
              go_wp2_with fail
              refine hC.mono ?_
              rintro _ w9 ⟨E, no, nc, L4, hE, hL4, rfl, ho, h9⟩
              subst hE
              rw [if_pos rfl] at hL4
              have hL5 := hL4.symm
              subst hL5
              have HB9 : Hid (RowKit.Below w0.heap.size w0 w9) := below_then HB8.out h9
              have hS := SameI_any w9 no io R R nc ci ho.rei (HI.out w9 HB9.out) (by have := HS.out; omega)
              rw [decide_eq_true rfl] at hS
              clear hC x0 x1 x2 x3 hL4 ho h9
              go_wp2_with fail
              refine hS.mono ?_
              rintro _ w10 ⟨rfl, h10⟩
              have HBC : Hid (RowKit.Below w0.heap.size w0 w10) := below_then HB9.out h10
              obtain ⟨wC, rfl⟩ : ∃ wC, wC = w10 := ⟨_, rfl⟩
              obtain ⟨x0, x1, x2, x3⟩ := HPAR.out wC HBC.out
              clear hS h10
              go_wp2_with fail
            case' neg =>
              have HE3 : Hid (E3 ≠ 0) := e3
              have e3z : (E3 == 0) = false := by simpa using e3
              obtain ⟨wC, rfl⟩ : ∃ wC, wC = w8 := ⟨_, rfl⟩
              have HBC : Hid (RowKit.Below w0.heap.size w0 wC) := HB8
              obtain ⟨x0, x1, x2, x3⟩ := HPAR.out wC HBC.out
              clear hE3 hD3 ho8 h8 e3
              go_wp2_with fail
            all_goals (
              have hC := Buckets_any HP.out wC bo b cb (HU.out wC HBC.out)
              refine hC.mono ?_
              rintro _ w11 ⟨E4, no4, nc4, L6, hE4, hL6, rfl, ho11, h11⟩
              have HB11 : Hid (RowKit.Below w0.heap.size w0 w11) := below_then HBC.out h11
              clear hC x0 x1 x2 x3
              by_cases e4 : E4 = 0
              · subst e4
                rw [if_pos rfl] at hL6
                subst hL6
                obtain ⟨g1, g2⟩ := back_d hE4.symm
                have hC := Root_any HP.out w11 no4 (rws b) nc4 ho11.rei (by simp [rws])
                rw [g1, g2] at hC
                obtain ⟨x0, x1, x2, x3⟩ := HPAR.out w11 HB11.out
                obtain ⟨L7, hL7⟩ : ∃ L7, L7 = rws b := ⟨_, rfl⟩
                rw [← hL7] at hC
                rw [← hL7]
                clear hE4 g1 g2 h11 ho11 hL7
                go_wp2_with fail
                refine hC.mono ?_
                rintro _ w12 ⟨E, ro5, rc5, D5, hE, hD5, rfl, ho, h12⟩
                subst hE
                rw [if_pos rfl] at hD5
                have hD6 := hD5.symm
                subst hD6
                have HB12 : Hid (RowKit.Below w0.heap.size w0 w12) := below_then HB11.out h12
                have t1 := text_reb ho.reb
                have t2 := text_reb (HU.out w12 HB12.out)
                clear hC x0 x1 x2 x3 hD5 ho h12
                go_wp2
                go_ret
                exact ⟨rfl, below_then HB0.out HB12.out⟩
              · rw [if_neg e4] at hL6
                subst hL6
                have e4z : (E4 != 0) = true := by simpa using e4
                clear hE4 ho11 h11 e4
                go_wp2
                go_ret
                exact ⟨rfl, below_then HB0.out HB11.out⟩)))
      · have d2 : (2000 : Int) < (R.length : Int) := by omega
        clear hb4 hr2
        go_wp2_with fail
        refine hMU.mono ?_
        rintro _ w2 ⟨rfl, h2⟩
        go_wp2
        go_ret
        exact ⟨rfl, below_then (below_then HB0.out HB1.out) h2⟩
    · have d1 : (40000 : Int) < (b.length : Int) := by omega
      clear hb4
      go_wp2_with fail
      refine hMU.mono ?_
      rintro _ w2 ⟨rfl, h2⟩
      go_wp2
      go_ret
      exact ⟨rfl, below_then (below_then HB0.out HB1.out) h2⟩
  · rw [hm] at hMU
    clear hm
    go_wp2_with fail
    refine hMU.mono ?_
    rintro _ w2 ⟨rfl, h2⟩
    go_wp2
    go_ret
    exact ⟨rfl, below_then (below_then HB0.out HB1.out) h2⟩
end Go.Proofs.Ytfbfiecamaginaa
