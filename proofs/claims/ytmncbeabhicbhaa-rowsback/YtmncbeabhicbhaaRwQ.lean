/- The walk of RowsBack. -/
import Derived.Test.YtmncbeabhicbhaaRwN
import Derived.WalkMore
namespace Go.Proofs.Ytmncbeabhicbhaa
open Go.RowKit

theorem erT_of {x q m : Int} {n : Nat} {R : Nat → Int} (h : erT x q n R m = 0) : x = 0 ∧ erL q n R = 0 ∧ 0 ≤ m ∧ m ≤ (n : Int) := by
  unfold erT at h
  by_cases h1 : erM x q n R = 0
  · rw [if_pos h1] at h
    have h2 : 0 ≤ m := by
      rcases Int.lt_or_le m 0 with g | g
      · rw [if_pos g] at h; cases h
      · exact g
    rw [if_neg (by omega)] at h
    have h3 : m ≤ (n : Int) := by
      rcases Int.lt_or_le (n : Int) m with g | g
      · rw [if_pos g] at h; cases h
      · exact g
    unfold erM at h1
    by_cases h4 : x = 0
    · rw [if_pos h4] at h1; exact ⟨h4, h1, h2, h3⟩
    · rw [if_neg h4] at h1; exact absurd h1 h4
  · rw [if_neg h1] at h; exact absurd h h1
theorem erT_to {q m : Int} {n : Nat} {R : Nat → Int} (h : erL q n R = 0) : erT 0 q n R m = if m < 0 then 2 else if (n : Int) < m then 4 else 0 := by
  unfold erT erM; rw [if_pos rfl, if_pos h]
theorem erL_to {q : Int} {n : Nat} {R : Nat → Int} (h1 : n ≤ 65536) (h2 : ∀ i, i < n → 0 ≤ R i ∧ R i < q) (h3 : ∀ i, i + 1 < n → R i < R (i + 1)) : erL q n R = 0 := by
  have h : erH q n R = 0 := by unfold erH; rw [if_neg (by omega), if_pos (show ltB q n R = true from decide_eq_true h2)]
  unfold erL; rw [if_pos h, if_pos (rsB_t h3)]
theorem erL_cut {q : Int} {n N : Nat} {R : Nat → Int} (h : erL q n R = 0) (hN : N ≤ n) : erL q N R = 0 := by
  obtain ⟨h1, h2, h3⟩ := erL_of h
  exact erL_to (by omega) (fun i hi => h2 i (by omega)) (fun i hi => rsB_of h3 i (by omega))
theorem erL_rest {q : Int} {n N : Nat} {R : Nat → Int} (h : erL q n R = 0) (hN : N ≤ n) : erL q (n - N) (fun i => R (N + i)) = 0 := by
  obtain ⟨h1, h2, h3⟩ := erL_of h
  exact erL_to (by omega) (fun i hi => h2 _ (by omega)) (fun i hi => rsB_of h3 (N + i) (by omega))
theorem erG_back {q : Int} {n N : Nat} {R : Nat → Int} (h : erL q n R = 0) (hN : N ≤ n) : erG 0 q (n - N) (fun i => R (N + i)) N R = 0 := by
  obtain ⟨h1, h2, h3⟩ := erL_of h
  have h4 : er2M 0 q (n - N) (fun i => R (N + i)) N R = 0 := by
    unfold er2M erM
    rw [if_pos rfl, erL_rest h hN, if_pos rfl, erL_cut h hN]
  unfold erG
  rw [if_pos h4, if_pos]
  exact decide_eq_true fun i hi j hj e => by
    have e2 : R (N + i) = R j := e
    have := rise_any (rsB_of h3) (i := j) (j := N + i) (by omega) (by omega)
    omega
/-- What was taken, given back to what was left: just the list that there was. -/
theorem back_is {Q n N : Nat} {R : Nat → Int} (h : erL (Q : Int) n R = 0) (hN : N ≤ n) : cnt (twB (n - N) (fun i => R (N + i)) N R) Q = n ∧ ∀ i, i < n → sel (twB (n - N) (fun i => R (N + i)) N R) Q i = R i := by
  obtain ⟨h1, h2, h3⟩ := erL_of h
  obtain ⟨a1, a2, a3⟩ := erL_of (erL_rest h hN)
  obtain ⟨b1, b2, b3⟩ := erL_of (erL_cut h hN)
  have hap : apB (n - N) (fun i => R (N + i)) N R = true := decide_eq_true fun i hi j hj e => by
    have e2 : R (N + i) = R j := e
    have := rise_any (rsB_of h3) (i := j) (j := N + i) (by omega) (by omega)
    omega
  have e1 := both_sorted (Q := Q) a3 b3 a2 b2 hap
  have e2 : (lsI (n - N) (fun i => R (N + i)) ++ lsI N R).mergeSort Go.leI = lsI n R := by
    refine sorted_is (lsI_sorted (rsB_of h3)) ((app_nodup a3 b3).2 hap) fun x => ?_
    rw [List.mem_append, lsI_mem, lsI_mem, lsI_mem]
    constructor
    · rintro (⟨j, hj, rfl⟩ | ⟨j, hj, rfl⟩)
      · exact ⟨N + j, by omega, rfl⟩
      · exact ⟨j, by omega, rfl⟩
    · rintro ⟨j, hj, rfl⟩
      by_cases g : j < N
      · exact .inr ⟨j, g, rfl⟩
      · exact .inl ⟨j - N, by omega, by show R _ = _; rw [show N + (j - N) = j by omega]⟩
  have e3 : lsI n R = lsI (cnt (twB (n - N) (fun i => R (N + i)) N R) Q) (sel (twB (n - N) (fun i => R (N + i)) N R) Q) := e2.symm.trans e1
  have e4 := congrArg List.length e3
  rw [lsI_length, lsI_length] at e4
  rw [← e4] at e3 ⊢
  exact ⟨rfl, fun i hi => (lsI_fun e3 i hi).symm⟩
theorem app_rest (N : Nat) (R : Nat → Int) (j : Nat) : R j = app N R (fun i => R (N + i)) j := by
  unfold app
  by_cases g : j < N
  · rw [if_pos g]
  · rw [if_neg g]
    show R j = R (N + (j - N))
    rw [show N + (j - N) = j by omega]
theorem same_of {n : Nat} {A B : Nat → Int} (h : ∀ i, i < n → A i = B i) : sameB n n A B = true := decide_eq_true ⟨rfl, h⟩
set_option maxHeartbeats 8000000 in
set_option maxRecDepth 100000 in
theorem back_law (w : World) (k r c q : Int) (ao : Option Addr) (l ca : Nat) (R : Nat → Int) (hv : Vec w ao l ca R) (n m : Int) :
    Calls Try.prog 5 #[.agg #[.int .i64 k, .int .i64 r, .int .i64 c, .int .i64 q], .slice ao l ca, .int .i64 n, .int .i64 m] w fun e w' => e = .returned (.bool true) ∧ Below w.heap.size w w' := by
  obtain ⟨w0, hw0⟩ : ∃ w0, w0 = w.alloc (.cells #[.int .i64 k, .int .i64 r, .int .i64 c, .int .i64 q] 24) := ⟨_, rfl⟩
  have b0 : Below w.heap.size w w0 := by rw [hw0]; exact below_alloc _ _
  have HPAR : Hid (∀ v, Below w0.heap.size w0 v → v.cell? ⟨w.heap.size, 0, none⟩ = some (.int .i64 k) ∧ v.cell? ⟨w.heap.size, 1, none⟩ = some (.int .i64 r) ∧ v.cell? ⟨w.heap.size, 2, none⟩ = some (.int .i64 c) ∧ v.cell? ⟨w.heap.size, 3, none⟩ = some (.int .i64 q)) := fun v hv => par_held hw0 hv
  have HB0 : Hid (Below w.heap.size w w0) := b0
  have HV : Hid (Vec w ao l ca R) := hv
  clear hv b0
  by_cases hg : 2000 < l ∨ 3000 < n ∨ 3000 < m
  · have hg1 : (2000 : Int) < (l : Int) ∨ (¬ (2000 : Int) < (l : Int) ∧ 3000 < n) ∨ (¬ (2000 : Int) < (l : Int) ∧ ¬ 3000 < n ∧ 3000 < m) := by omega
    clear hg
    go_enter Try.func5, Try.ntmps5
    go_wp2_with fail
    rw [← hw0]
    refine (alive_any _).mono ?_
    rintro e wa ⟨rfl, ha⟩
    have HBA : Hid (Below w.heap.size w wa) := below_then HB0.out ha
    clear ha hw0 HPAR
    rcases hg1 with h1 | ⟨h1, h2⟩ | ⟨h1, h2, h3⟩
    all_goals
      go_wp2_with fail
      go_ret
      exact ⟨rfl, HBA.out⟩
  · have hl : l ≤ 2000 := by omega
    have h1 : ¬ (2000 : Int) < (l : Int) := by omega
    have h2 : ¬ 3000 < n := by omega
    have h3 : ¬ 3000 < m := by omega
    clear hg
    obtain ⟨E, hE⟩ : ∃ E, erT (erP k r c q) q l R n = E := ⟨_, rfl⟩
    have HT1 : Hid (∀ v, Below w.heap.size w v → Calls Try.prog 10 #[.agg #[.int .i64 k, .int .i64 r, .int .i64 c, .int .i64 q], .slice ao l ca, .int .i64 n] v fun e w' => AnsP v.heap.size w' e E n.toNat (l - n.toNat) R (fun i => R (n.toNat + i)) ∧ Below v.heap.size v w') := fun v hb => Take_any k r c q v ao l ca R (HV.out.below hb) (by omega) n E hE
    go_enter Try.func5, Try.ntmps5
    go_wp2_with fail
    rw [← hw0]
    refine (alive_any _).mono ?_
    rintro e wa ⟨rfl, ha⟩
    have HBA : Hid (Below w0.heap.size w0 wa) := ha
    clear ha hw0
    obtain ⟨x0, x1, x2, x3⟩ := HPAR.out wa HBA.out
    go_wp2_with fail
    refine (HT1.out _ (below_then HB0.out HBA.out)).mono ?_
    rintro e wb ⟨⟨aa, ac, ba, bc, T, rfl, ho, hT, hT2, hu⟩, hb⟩
    have HBB : Hid (Below w0.heap.size w0 wb) := below_then HBA.out hb
    clear hb HT1 x0 x1 x2 x3 hT hT2
    by_cases h0 : E = 0
    · subst h0
      obtain ⟨z1, z2, z3, z4⟩ := erT_of hE
      obtain ⟨q1, q2⟩ := erP_rows z1
      obtain ⟨Q, rfl⟩ : ∃ Q : Nat, q = (Q : Int) := ⟨q.toNat, by omega⟩
      obtain ⟨N, rfl⟩ : ∃ N : Nat, n = (N : Int) := ⟨n.toNat, by omega⟩
      rw [Int.toNat_natCast] at *
      have hN : N ≤ l := by omega
      rw [show lenE 0 N = N from if_pos rfl, show lenE 0 (l - N) = l - N from if_pos rfl] at *
      have HOA : Hid (Vec wb aa N ac R) := Own.vec ho
      have HOB : Hid (Vec wb ba (l - N) bc (fun i => R (N + i))) := Own.vec hu
      have HER : Hid (erP k r c (Q : Int) = 0 ∧ erL (Q : Int) l R = 0) := ⟨z1, z2⟩
      have HG : Hid (Calls Try.prog 11 #[.agg #[.int .i64 k, .int .i64 r, .int .i64 c, .int .i64 (Q : Int)], .slice ba (l - N) bc, .slice aa N ac] wb fun e w' => ∃ go gc, e = .returned (.tuple #[.slice go l gc, .int .i64 0]) ∧ RdI w' go l R ∧ Below wb.heap.size wb w') := by
        have h5 := Give_any k r c (Q : Int) wb ba aa (l - N) bc N ac (fun i => R (N + i)) R HOB.out HOA.out (by omega) (by omega) 0 (by rw [z1]; exact erG_back z2 hN)
        obtain ⟨e1, e2⟩ := back_is z2 hN
        refine h5.mono ?_
        rintro e w' ⟨⟨go, gc, rfl, hg⟩, hb⟩
        rw [Int.toNat_natCast, e1] at hg ⊢
        exact ⟨go, gc, rfl, (Own.vec hg).rd.congr e2, hb⟩
      clear hE z1 z2 ho hu
      obtain ⟨x0, x1, x2, x3⟩ := HPAR.out wb HBB.out
      have hll : ((l - N : Nat) : Int) = (l : Int) - (N : Int) := by omega
      clear hll
      go_wp2_with fail
      refine HG.out.mono ?_
      rintro e wc ⟨go, gc, rfl, hgr, hb⟩
      have HBC : Hid (Below w0.heap.size w0 wc) := below_then HBB.out hb
      have HOA : Hid (Vec wc aa N ac R) := HOA.out.below hb
      have HOB : Hid (Vec wc ba (l - N) bc (fun i => R (N + i))) := HOB.out.below hb
      have HVC : Hid (Vec wc ao l ca R) := HV.out.below (below_then HB0.out HBC.out)
      have HS := Same_any wc go ao l gc l ca R R hgr HVC.out.rd (by omega) (by omega)
      rw [same_refl] at HS
      clear hb hgr HG x0 x1 x2 x3
      go_wp2_with fail
      refine HS.mono ?_
      rintro e wd ⟨rfl, q', rfl⟩
      have HBD : Hid (Below wc.heap.size wc (wc.drewN q')) := below_drewN _ _ _
      clear HS
      go_wp2_with fail
      go_loopw [14] (fun x wr => ∃ i : Nat, i ≤ l ∧ x = .int .i64 (i : Int) ∧ Hid (∃ q, wr = wc.drewN q)) (fun x _ => l - (intOf x).toNat)
      case atStart => exact ⟨0, Nat.zero_le _, rfl, _, rfl⟩
      case round =>
        obtain ⟨i, hi, rfl, hdr⟩ := hrel
        have hbel : Below wc.heap.size wc wr := by obtain ⟨q, rfl⟩ := hdr.out; exact below_drewN _ _ _
        by_cases hlt : i < l
        · have i1 : (0 : Int) ≤ (i : Int) := by omega
          have i2 : (i : Int) < (l : Int) := by omega
          obtain ⟨b, off, rfl, hc⟩ := (HVC.out.below hbel).rd (by omega)
          have ck := hc i hlt
          by_cases hiN : i < N
          · obtain ⟨b2, off2, rfl, hc2⟩ := (HOA.out.below hbel).rd (by omega)
            have cj := hc2 i hiN
            have HIN : Hid (i < N) := hiN
            have i3 : (i : Int) < (N : Int) := by omega
            have hbb : (R i != R i) = false := by simp
            clear hc hc2 hbel hiN
            go_wp2_with fail
            have a1 : decide ((i : Int) < (N : Int)) = true := decide_eq_true (by have := HIN.out; omega)
            have a2 : decide (i < N) = true := decide_eq_true HIN.out
            have a3 : decide ((N : Int) ≤ (i : Int)) = false := decide_eq_false (by have := HIN.out; omega)
            have a4 : decide (N ≤ i) = false := decide_eq_false (by have := HIN.out; omega)
            go_big_quiet (fail)
            go_wp2_with fail
            go_roundw
            case rel =>
              obtain ⟨q, hq⟩ := hdr.out
              exact ⟨i + 1, by omega, by go_num, q + nq, by rw [hq]; simp [World.drewN, Nat.add_assoc]⟩
            case measure => simp [intOf]; omega
          · obtain ⟨j, hij⟩ : ∃ j, i = N + j := ⟨i - N, by omega⟩
            obtain ⟨b2, off2, rfl, hc2⟩ := (HOB.out.below hbel).rd (by omega)
            have cj : wr.cell? ⟨b2, off2 + j, none⟩ = some (.int .i64 (R (N + j))) := hc2 j (by omega)
            rw [← hij] at cj
            have i3 : ((i : Int) - (N : Int)) = (j : Int) := by omega
            have i4 : (j : Int) < ((l - N : Nat) : Int) := by omega
            have i5 : j < l - N := by omega
            have i6 : (0 : Int) ≤ (j : Int) := by omega
            have hbb : (R i != R i) = false := by simp
            have HIN : Hid (N ≤ i) := by show _ ≤ _; omega
            clear hc hc2 hbel hiN hij
            go_wp2_with fail
            have a1 : decide ((i : Int) < (N : Int)) = false := decide_eq_false (by have := HIN.out; omega)
            have a2 : decide (i < N) = false := decide_eq_false (by have := HIN.out; omega)
            have a3 : decide ((N : Int) ≤ (i : Int)) = true := decide_eq_true (by have := HIN.out; omega)
            have a4 : decide (N ≤ i) = true := decide_eq_true HIN.out
            go_big_quiet (fail)
            go_wp2_with fail
            go_roundw
            case rel =>
              obtain ⟨q, hq⟩ := hdr.out
              exact ⟨i + 1, by omega, by go_num, q + nq, by rw [hq]; simp [World.drewN, Nat.add_assoc]⟩
            case measure => simp [intOf]; omega
        · obtain rfl : i = l := by omega
          have HBE : Hid (Below w0.heap.size w0 wr) := below_then HBC.out hbel
          have HOA : Hid (Vec wr aa N ac R) := HOA.out.below hbel
          have HOB : Hid (Vec wr ba (i - N) bc (fun i => R (N + i))) := HOB.out.below hbel
          have HVD : Hid (∀ v, Below wr.heap.size wr v → Vec v ao i ca R) := fun v hb => HVC.out.below (below_then hbel hb)
          obtain ⟨z1, z2⟩ := HER.out
          obtain ⟨E2, hE2⟩ : ∃ E2, erT 0 (Q : Int) (i - N) (fun i => R (N + i)) m = E2 := ⟨_, rfl⟩
          have HT2 : Hid (Calls Try.prog 10 #[.agg #[.int .i64 k, .int .i64 r, .int .i64 c, .int .i64 (Q : Int)], .slice ba (i - N) bc, .int .i64 m] wr fun e w' => AnsP wr.heap.size w' e E2 m.toNat (i - N - m.toNat) (fun i => R (N + i)) (fun i => R (N + (m.toNat + i))) ∧ Below wr.heap.size wr w') := Take_any k r c (Q : Int) wr ba (i - N) bc (fun i => R (N + i)) HOB.out (by omega) m E2 (by rw [z1]; exact hE2)
          have HT3 : Hid (∀ M : Nat, N + M ≤ i → ∀ v, Below wr.heap.size wr v → Calls Try.prog 10 #[.agg #[.int .i64 k, .int .i64 r, .int .i64 c, .int .i64 (Q : Int)], .slice ao i ca, .int .i64 ((N : Int) + (M : Int))] v fun e w' => (∃ ao ca bo cb, e = .returned (.tuple #[.slice ao (N + M) ca, .slice bo (i - N - M) cb, .int .i64 0]) ∧ Vec w' ao (N + M) ca R ∧ Vec w' bo (i - N - M) cb (fun j => R (N + (M + j)))) ∧ Below v.heap.size v w') := fun M hM v hb => by
            refine (Take_any k r c (Q : Int) v ao i ca R (HVD.out v hb) (by omega) ((N : Int) + (M : Int)) 0 (by rw [z1, erT_to z2, if_neg (by omega), if_neg (by omega)])).mono ?_
            rintro e w' ⟨⟨ao, ca, bo, cb, T, rfl, ho, _, _, hu⟩, hb⟩
            rw [show ((N : Int) + (M : Int)).toNat = N + M by omega] at *
            rw [show lenE 0 (N + M) = N + M from if_pos rfl, show lenE 0 (i - (N + M)) = i - (N + M) from if_pos rfl, show i - (N + M) = i - N - M by omega] at *
            exact ⟨⟨ao, ca, bo, cb, rfl, Own.vec ho, (Own.vec hu).congr fun j _ => by rw [Nat.add_assoc]⟩, hb⟩
          have hE3 : E2 = if m < 0 then 2 else if ((i - N : Nat) : Int) < m then 4 else 0 := by rw [← hE2, erT_to (erL_rest z2 hN)]
          clear hE2 z1 z2 hdr hbel
          obtain ⟨x0, x1, x2, x3⟩ := HPAR.out wr HBE.out
          go_wp2_with fail
          refine HT2.out.mono ?_
          rintro e wf ⟨⟨ka, kc, da, dc, T, rfl, ho, hT, hT2, hu⟩, hb⟩
          have HBF : Hid (Below wr.heap.size wr wf) := hb
          clear hb HT2 x0 x1 x2 x3 hT hT2
          have HFE : Hid (Below w.heap.size w wf) := below_then HB0.out (below_then HBE.out HBF.out)
          by_cases g1 : m < 0
          · rw [if_pos g1] at hE3
            subst hE3
            rw [show lenE 2 m.toNat = 0 from rfl, show lenE 2 (i - N - m.toNat) = 0 from rfl] at *
            clear ho hu HT3
            go_wp2_with fail
            go_ret
            exact ⟨rfl, HFE.out⟩
          · rw [if_neg g1] at hE3
            by_cases g2 : ((i - N : Nat) : Int) < m
            · rw [if_pos g2] at hE3
              subst hE3
              rw [show lenE 4 m.toNat = 0 from rfl, show lenE 4 (i - N - m.toNat) = 0 from rfl] at *
              clear ho hu HT3
              go_wp2_with fail
              go_ret
              exact ⟨rfl, HFE.out⟩
            · rw [if_neg g2] at hE3
              subst hE3
              obtain ⟨M, rfl⟩ : ∃ M : Nat, m = (M : Int) := ⟨m.toNat, by omega⟩
              rw [Int.toNat_natCast] at *
              have hNM : N + M ≤ i := by omega
              rw [show lenE 0 M = M from if_pos rfl, show lenE 0 (i - N - M) = i - N - M from if_pos rfl] at *
              have HOC : Hid (Vec wf ka M kc (fun i => R (N + i))) := Own.vec ho
              have HOD : Hid (Vec wf da (i - N - M) dc (fun j => R (N + (M + j)))) := Own.vec hu
              have HOA : Hid (Vec wf aa N ac R) := HOA.out.below HBF.out
              have HT3 := HT3.out M hNM wf HBF.out
              obtain ⟨x0, x1, x2, x3⟩ := HPAR.out wf (below_then HBE.out HBF.out)
              have y1 : M ≤ 2000 := by omega
              have y2 : N ≤ 2000 := by omega
              clear ho hu g1 g2
              go_wp2_with fail
              refine HT3.mono ?_
              rintro e wg ⟨⟨oa, oc, ra, rc, rfl, ho, hu⟩, hb⟩
              have HOO : Hid (Vec wg oa (N + M) oc R) := ho
              have HOR : Hid (Vec wg ra (i - N - M) rc (fun j => R (N + (M + j)))) := hu
              have HOA : Hid (Vec wg aa N ac R) := HOA.out.below hb
              have HOC : Hid (Vec wg ka M kc (fun i => R (N + i))) := HOC.out.below hb
              have HOD : Hid (Vec wg da (i - N - M) dc (fun j => R (N + (M + j)))) := HOD.out.below hb
              have HBG : Hid (Below w.heap.size w wg) := below_then HFE.out hb
              clear ho hu hb x0 x1 x2 x3
              have n1 : N ≤ 200000 := by omega
              have n2 : M ≤ 200000 := by omega
              go_wp2_with (at_builtin; first
                | (refine wpList_append_first (by rfl) (.tmp 139) (.tmp 140) (by rfl) wg.heap.size N ac none aa R (by rfl) (by rfl) (World.ownsRow_nil _ _ _ _) HOA.out n1 (Nat.le_refl _) ?_; intro ro5 rc5 w5 HO5 B5)
                | (refine wpList_append_more (by rfl) (.tmp 142) (.tmp 143) (by rfl) wg.heap.size N M rc5 kc ro5 ka R (fun i => R (N + i)) (by rfl) (by rfl) HO5.out (HOC.out.below B5.out) n1 n2 B5.out.size ?_; intro ro6 rc6 w6 HO6 hgr6
                   have HB6 : Hid (Below wg.heap.size wg w6) := B5.out.grown hgr6.out B5.out.size (fun r hr => (World.ownsRow.lt HO5.out r hr).1)
                   have HSA : Hid (Calls Try.prog 16 #[.slice oa (N + M) oc, .slice ro6 (N + M) rc6] w6 fun e w' => e = .returned (.bool true) ∧ ∃ q, w' = w6.drewN q) := (by
                     have h7 := Same_any w6 oa ro6 (N + M) oc (N + M) rc6 R (app N R (fun i => R (N + i))) (HOO.out.below HB6.out).rd (Own.vec HO6.out).rd (by omega) (by omega)
                     rw [same_of (fun j _ => app_rest N R j)] at h7
                     exact h7)))
              refine HSA.out.mono ?_
              rintro e w7 ⟨rfl, q7, rfl⟩
              have HB7 : Hid (Below wg.heap.size wg (w6.drewN q7)) := HB6.out.trans ((below_drewN w6.heap.size w6 q7).mono HB6.out.size)
              have HSB := Same_any (w6.drewN q7) ra da (i - N - M) rc (i - N - M) dc (fun j => R (N + (M + j))) (fun j => R (N + (M + j))) (HOR.out.below HB7.out).rd (HOD.out.below HB7.out).rd (by omega) (by omega)
              rw [same_refl] at HSB
              clear HSA
              go_wp2_with fail
              refine HSB.mono ?_
              rintro e w8 ⟨rfl, q8, rfl⟩
              have HB8 : Hid (Below w.heap.size w (w6.drewN (q7 + q8))) := below_then HBG.out (HB6.out.trans ((below_drewN w6.heap.size w6 (q7 + q8)).mono HB6.out.size))
              go_wp2_with fail
              go_ret
              exact ⟨rfl, HB8.out⟩
    · rw [show lenE E n.toNat = 0 from if_neg h0, show lenE E (l - n.toNat) = 0 from if_neg h0] at *
      clear HPAR ho hu
      go_wp2_with fail
      go_ret
      exact ⟨rfl, below_then HB0.out HBB.out⟩
end Go.Proofs.Ytmncbeabhicbhaa
