/- The walk of RowsFree. -/
import Derived.Test.YtmncbeabhicbhaaRwN
import Derived.WalkMore
namespace Go.Proofs.Ytmncbeabhicbhaa
open Go.RowKit

theorem nfB_in {n : Nat} {R : Nat → Int} {i : Nat} : nfB n R i = !inB n R i := rfl
theorem inB_sel (P : Nat → Bool) (Q i : Nat) (hi : i < Q) : inB (cnt P Q) (sel P Q) i = P i := by
  cases h : P i
  · refine inB_no.2 fun j hj e => ?_
    obtain ⟨a, ha, e1, p1, _⟩ := sel_spec P Q j hj
    have : a = i := by omega
    subst this
    rw [h] at p1; cases p1
  · obtain ⟨h1, h2⟩ := sel_at P Q i hi h
    exact inB_iff.2 ⟨_, h1, h2⟩
theorem cnt_not (P : Nat → Bool) : ∀ Q, cnt (fun i => !P i) Q + cnt P Q = Q
  | 0 => rfl
  | k + 1 => by
    have := cnt_not P k
    cases h : P k
    · rw [cnt_yes (P := fun i => !P i) (by show (!P k) = true; rw [h]; rfl), cnt_no h]; omega
    · rw [cnt_no (P := fun i => !P i) (by show (!P k) = false; rw [h]; rfl), cnt_yes h]; omega
/-- The free ones of a selection are those not selected. -/
theorem nf_sel (P : Nat → Bool) (Q : Nat) : ∀ i, i < Q → nfB (cnt P Q) (sel P Q) i = !P i := fun i hi => by unfold nfB; rw [inB_sel P Q i hi]
theorem cnt_top (P : Nat → Bool) {a b : Nat} (h : a ≤ b) : cnt P a ≤ cnt P b := cnt_mono P h
theorem erH_sel (P : Nat → Bool) {Q : Nat} (hQ : Q ≤ 256) : erH (Q : Int) (cnt P Q) (sel P Q) = 0 := by
  have hc := cnt_le P Q
  unfold erH
  rw [if_neg (by omega), if_pos]
  refine decide_eq_true fun t ht => ?_
  obtain ⟨a, ha, e1, _⟩ := sel_spec P Q t ht
  rw [e1]; omega
theorem inB_next {n : Nat} {R : Nat → Int} {i : Nat} : inB (n + 1) R i = (inB n R i || (R n == (i : Int))) := by
  cases h : inB n R i
  · by_cases e : R n = (i : Int)
    · rw [inB_iff.2 ⟨n, by omega, e⟩, e]; simp
    · rw [inB_no.2 fun j hj => ?_]
      · simp [e]
      · by_cases f : j = n
        · subst f; exact e
        · exact inB_no.1 h j (by omega)
  · obtain ⟨j, hj, e⟩ := inB_iff.1 h
    rw [inB_iff.2 ⟨j, by omega, e⟩]; rfl
set_option maxHeartbeats 8000000 in
set_option maxRecDepth 100000 in
theorem free_law (w : World) (k r c q : Int) (ao : Option Addr) (n ca : Nat) (R : Nat → Int) (hv : RdI w ao n R) :
    Calls Try.prog 6 #[.agg #[.int .i64 k, .int .i64 r, .int .i64 c, .int .i64 q], .slice ao n ca] w fun e w' => e = .returned (.bool true) ∧ Below w.heap.size w w' := by
  obtain ⟨w0, hw0⟩ : ∃ w0, w0 = w.alloc (.cells #[.int .i64 k, .int .i64 r, .int .i64 c, .int .i64 q] 24) := ⟨_, rfl⟩
  have b0 : Below w.heap.size w w0 := by rw [hw0]; exact below_alloc _ _
  have HPAR : Hid (∀ v, Below w0.heap.size w0 v → v.cell? ⟨w.heap.size, 0, none⟩ = some (.int .i64 k) ∧ v.cell? ⟨w.heap.size, 1, none⟩ = some (.int .i64 r) ∧ v.cell? ⟨w.heap.size, 2, none⟩ = some (.int .i64 c) ∧ v.cell? ⟨w.heap.size, 3, none⟩ = some (.int .i64 q)) := fun v hv => par_held hw0 hv
  have HB0 : Hid (Below w.heap.size w w0) := b0
  have HV : Hid (RdI w ao n R) := hv
  clear hv b0
  by_cases hn : 2000 < n
  · have h4 : (2000 : Int) < (n : Int) := by omega
    go_enter Try.func6, Try.ntmps6
    go_wp2_with fail
    rw [← hw0]
    refine (alive_any _).mono ?_
    rintro e wa ⟨rfl, ha⟩
    have HBA : Hid (Below w.heap.size w wa) := below_then HB0.out ha
    clear ha hw0 HPAR
    go_wp2_with fail
    go_ret
    exact ⟨rfl, HBA.out⟩
  · have h4 : ¬ (2000 : Int) < (n : Int) := by omega
    obtain ⟨E, hE⟩ : ∃ E, erF (erP k r c q) q n R = E := ⟨_, rfl⟩
    have HF : Hid (∀ v, Below w.heap.size w v → Calls Try.prog 9 #[.agg #[.int .i64 k, .int .i64 r, .int .i64 c, .int .i64 q], .slice ao n ca] v fun e w' => AnsR v.heap.size w' e E (cnt (nfB n R) q.toNat) (sel (nfB n R) q.toNat) ∧ Below v.heap.size v w') := fun v hb => Free_any k r c q v ao n ca R (HV.out.below hb) (by omega) E hE
    go_enter Try.func6, Try.ntmps6
    go_wp2_with fail
    rw [← hw0]
    refine (alive_any _).mono ?_
    rintro e wa ⟨rfl, ha⟩
    have HBA : Hid (Below w0.heap.size w0 wa) := ha
    clear ha hw0
    obtain ⟨x0, x1, x2, x3⟩ := HPAR.out wa HBA.out
    go_wp2_with fail
    refine (HF.out _ (below_then HB0.out HBA.out)).mono ?_
    rintro e wb ⟨⟨fo, fc, rfl, ho⟩, hb⟩
    have HBB : Hid (Below w0.heap.size w0 wb) := below_then HBA.out hb
    clear hb HF x0 x1 x2 x3
    by_cases h1 : E = 0
    · subst h1
      rw [show lenE 0 (cnt (nfB n R) q.toNat) = cnt (nfB n R) q.toNat from if_pos rfl] at *
      have h0 : erP k r c q = 0 := by
        unfold erF at hE
        by_cases h : erP k r c q = 0
        · exact h
        · rw [if_neg h] at hE; exact absurd hE h
      obtain ⟨q1, q2⟩ := erP_rows h0
      obtain ⟨Q, rfl⟩ : ∃ Q : Nat, q = (Q : Int) := ⟨q.toNat, by omega⟩
      rw [Int.toNat_natCast] at *
      obtain ⟨P, hP⟩ : ∃ P, P = nfB n R := ⟨_, rfl⟩
      have HPI : Hid (∀ i, P i = !inB n R i) := fun i => by rw [hP]; rfl
      rw [← hP] at ho ⊢
      have HO : Hid (Own wa.heap.size wb fo (cnt P Q) fc (sel P Q)) := ho
      have HF1 : Hid (∀ v, Below wb.heap.size wb v → Calls Try.prog 9 #[.agg #[.int .i64 k, .int .i64 r, .int .i64 c, .int .i64 (Q : Int)], .slice fo (cnt P Q) fc] v fun e w' => AnsR v.heap.size w' e 0 (cnt (fun i => !P i) Q) (sel (fun i => !P i) Q) ∧ Below v.heap.size v w') := fun v hb => by
        have hcl := cnt_le P Q
        have := Free_any k r c (Q : Int) v fo (cnt P Q) fc (sel P Q) (Own.vec (Own.below ho hb)).rd (by omega) 0 (by unfold erF; rw [if_pos h0]; exact erH_sel P (by omega))
        rw [Int.toNat_natCast, cnt_congr (nf_sel P Q), sel_congr (nf_sel P Q)] at this
        exact this
      have HF2 : Hid (∀ v go gc, RdI v go (cnt (fun i => !P i) Q) (sel (fun i => !P i) Q) → Calls Try.prog 9 #[.agg #[.int .i64 k, .int .i64 r, .int .i64 c, .int .i64 (Q : Int)], .slice go (cnt (fun i => !P i) Q) gc] v fun e w' => AnsR v.heap.size w' e 0 (cnt P Q) (sel P Q) ∧ Below v.heap.size v w') := fun v go gc hr => by
        have hcl := cnt_le (fun i => !P i) Q
        have h6 : ∀ i, i < Q → nfB (cnt (fun i => !P i) Q) (sel (fun i => !P i) Q) i = P i := fun i hi => by rw [nf_sel (fun i => !P i) Q i hi]; simp
        have := Free_any k r c (Q : Int) v go _ gc _ hr (by omega) 0 (by unfold erF; rw [if_pos h0]; exact erH_sel _ (by omega))
        rw [Int.toNat_natCast, cnt_congr h6, sel_congr h6] at this
        exact this
      have hno := cnt_not P Q
      clear hE h0 hP ho
      go_wp2_with fail
      go_loop [8, 9] (fun a x => ∃ i : Nat, i ≤ Q ∧ x = .int .i64 (i : Int) ∧ a = .int .i64 ((cnt P i : Nat) : Int)) (fun _ x => Q - (intOf x).toNat)
      case atStart => exact ⟨0, Nat.zero_le _, rfl, rfl⟩
      case round =>
        obtain ⟨i, hi, rfl, rfl⟩ := hrel
        obtain ⟨x0, x1, x2, x3⟩ := HPAR.out wb HBB.out
        have HVB := HV.out.below (below_then HB0.out HBB.out)
        by_cases hlt : i < Q
        · have i1 : (0 : Int) ≤ (i : Int) := by omega
          have i2 : (i : Int) < (Q : Int) := by omega
          go_wp2_with fail
          go_loop [10, 11] (fun a x => ∃ j : Nat, j ≤ n ∧ x = .int .i64 (j : Int) ∧ a = .bool (inB j R i)) (fun _ x => n - (intOf x).toNat)
          case atStart => exact ⟨0, Nat.zero_le _, rfl, by rw [show inB 0 R i = false from inB_no.2 fun j hj => absurd hj (Nat.not_lt_zero j)]⟩
          case round =>
            obtain ⟨j, hj, rfl, rfl⟩ := hrel
            by_cases hlt2 : j < n
            · obtain ⟨b, off, rfl, hc⟩ := HVB (by omega)
              have ck := hc j hlt2
              have j1 : (0 : Int) ≤ (j : Int) := by omega
              have j2 : (j : Int) < (n : Int) := by omega
              have hnx := inB_next (n := j) (R := R) (i := i)
              clear hc
              cases hin : inB j R i
              · rw [hin, Bool.false_or] at hnx
                have HNX : Hid (inB (j + 1) R i = (R j == (i : Int))) := hnx
                clear hnx hin
                go_wp2_with fail
                go_round
                case rel => exact ⟨j + 1, by omega, by go_num, by rw [HNX.out]⟩
                case measure => simp [intOf]; omega
              · rw [hin, Bool.true_or] at hnx
                have HNX : Hid (inB (j + 1) R i = true) := hnx
                clear hnx hin
                go_wp2_with fail
                go_round
                case rel => exact ⟨j + 1, by omega, by go_num, by rw [HNX.out]⟩
                case measure => simp [intOf]; omega
            · obtain rfl : j = n := by omega
              cases hP : P i
              · have hin : inB j R i = true := by have := HPI.out i; rw [hP] at this; simpa using this.symm
                rw [hin]
                have HC : Hid (cnt P (i + 1) = cnt P i) := cnt_no hP
                clear hP hin
                go_wp2_with fail
                go_round
                case rel => exact ⟨i + 1, by omega, by go_num, by rw [HC.out]⟩
                case measure => simp [intOf]; omega
              · have hin : inB j R i = false := by have := HPI.out i; rw [hP] at this; simpa using this.symm
                rw [hin]
                obtain ⟨s1, s2⟩ := sel_at P Q i hlt hP
                have HC : Hid (cnt P (i + 1) = cnt P i + 1) := cnt_yes hP
                obtain ⟨g, rfl, _⟩ := HO.out.at_ (by omega)
                have ck := HO.out.cell s1
                rw [s2] at ck
                have s3 : ¬ ((cnt P Q : Nat) : Int) ≤ ((cnt P i : Nat) : Int) := by omega
                have s4 : (0 : Int) ≤ ((cnt P i : Nat) : Int) := by omega
                have s5 : ((cnt P i : Nat) : Int) < ((cnt P Q : Nat) : Int) := by omega
                clear hP hin s2
                go_wp2_with fail
                go_round
                case rel => exact ⟨i + 1, by omega, by go_num, by rw [HC.out]; go_num⟩
                case measure => simp [intOf]; omega
        · obtain rfl : i = Q := by omega
          clear HVB
          go_wp2_with fail
          refine (HF1.out _ (Below.refl _ _)).mono ?_
          rintro e wc ⟨⟨go, gc, rfl, hg⟩, hb⟩
          rw [show lenE 0 (cnt (fun i => !P i) i) = cnt (fun i => !P i) i from if_pos rfl] at *
          have HBC : Hid (Below w0.heap.size w0 wc) := below_then HBB.out hb
          have HOC : Hid (Own wa.heap.size wc fo (cnt P i) fc (sel P i)) := Own.below HO.out hb
          have HG := HF2.out wc go gc (Own.vec hg).rd
          clear hb hg HF1 HF2 x0 x1 x2 x3
          obtain ⟨x0, x1, x2, x3⟩ := HPAR.out wc HBC.out
          obtain ⟨a, ha⟩ : ∃ a, a = cnt (fun i => !P i) i := ⟨_, rfl⟩
          rw [← ha] at HG hno ⊢
          clear ha
          go_wp2_with fail
          refine HG.mono ?_
          rintro e wd ⟨⟨ho, hc, rfl, hg⟩, hb⟩
          rw [show lenE 0 (cnt P i) = cnt P i from if_pos rfl] at *
          have HBD : Hid (Below w0.heap.size w0 wd) := below_then HBC.out hb
          have HS := Same_any wd ho fo (cnt P i) hc (cnt P i) fc (sel P i) (sel P i) (Own.vec hg).rd (Own.vec (Own.below HOC.out hb)).rd (by omega) (by omega)
          rw [same_refl] at HS
          clear hb hg HG x0 x1 x2 x3
          obtain ⟨x0, x1, x2, x3⟩ := HPAR.out wd HBD.out
          obtain ⟨b, hb⟩ : ∃ b, b = cnt P i := ⟨_, rfl⟩
          rw [← hb] at HS hno ⊢
          have y1 : (i : Int) - (b : Int) = (a : Int) := by omega
          have y2 : (0 : Int) ≤ (b : Int) := by omega
          have y3 : (b : Int) ≤ (i : Int) := by omega
          clear hb hno
          go_wp2_with fail
          refine HS.mono ?_
          rintro e we ⟨rfl, q', rfl⟩
          have HBE : Hid (Below w.heap.size w (wd.drewN q')) := below_then HB0.out (below_then HBD.out (below_drewN _ _ _))
          go_wp2_with fail
          go_ret
          exact ⟨rfl, HBE.out⟩
    · rw [show lenE E (cnt (nfB n R) q.toNat) = 0 from if_neg h1] at *
      clear HPAR ho
      go_wp2_with fail
      go_ret
      exact ⟨rfl, below_then HB0.out HBB.out⟩
end Go.Proofs.Ytmncbeabhicbhaa
