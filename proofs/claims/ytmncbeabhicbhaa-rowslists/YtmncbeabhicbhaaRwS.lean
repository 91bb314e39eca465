/- The walk of RowsLists. -/
import Derived.Test.YtmncbeabhicbhaaRwJ
import Derived.Test.YtmncbeabhicbhaaRwK
import Derived.Test.YtmncbeabhicbhaaRwL
import Derived.Test.YtmncbeabhicbhaaRwN
namespace Go.Proofs.Ytmncbeabhicbhaa
open Go.RowKit

theorem own_blk {B : Nat} {w : World} {ao : Option Addr} {n cap : Nat} {R : Nat → Int} (h : Own B w ao n cap R) {k : Nat} (hk : BlkOf ao k) : B ≤ k ∧ k < w.heap.size := by
  obtain ⟨a, rfl, rfl⟩ := hk
  rcases h.2 with ⟨h1, _⟩ | ⟨g, cap', cur, h1, h2, h3, _⟩
  · cases h1
  · cases h1
    exact ⟨h2, (Array.getElem?_eq_some_iff.1 h3).1⟩
theorem own_only {B : Nat} {Y : Nat → Prop} {w w' : World} {ao : Option Addr} {n cap : Nat} {R : Nat → Int} (h : Own B w ao n cap R) (ho : Only Y w w') (hd : ∀ k, BlkOf ao k → ¬ Y k) : Own B w' ao n cap R := by
  have h0 := h
  refine ⟨h.1, ?_⟩
  rcases h.2 with h1 | ⟨g, cap', cur, h1, h2, h3, h4⟩
  · exact .inl h1
  · cases h1
    exact .inr ⟨g, _, cur, rfl, h2, by rw [ho.block g (Array.getElem?_eq_some_iff.1 h3).1 (hd g ⟨_, rfl, rfl⟩)]; exact h3, h4⟩
theorem same_true (v : World) (ao bo : Option Addr) (n ca cb : Nat) (F : Nat → Int) (ha : RdI v ao n F) (hb : RdI v bo n F) (hn : n ≤ 200000) :
    Calls Try.prog 16 #[.slice ao n ca, .slice bo n cb] v fun e w' => e = .returned (.bool true) ∧ ∃ q, w' = v.drewN q := by
  have h := Same_any v ao bo n ca n cb F F ha hb hn hn
  rw [same_refl] at h
  exact h
theorem lenE_le (E : Int) (n : Nat) : lenE E n ≤ n := by unfold lenE; split <;> omega
set_option maxHeartbeats 16000000 in
set_option maxRecDepth 100000 in
theorem lists_law (w : World) (k r c q : Int) (lo : Option Addr) (l lc : Nat) (R : Nat → Int) (hv : Vec w lo l lc R) (mo : Option Addr) (m mc : Nat) (S : Nat → Int) (hu : Vec w mo m mc S) (n : Int) :
    Calls Try.prog 4 #[.agg #[.int .i64 k, .int .i64 r, .int .i64 c, .int .i64 q], .slice lo l lc, .slice mo m mc, .int .i64 n] w fun e w' => e = .returned (.bool true) ∧ Below w.heap.size w w' := by
  obtain ⟨w0, hw0⟩ : ∃ w0, w0 = w.alloc (.cells #[.int .i64 k, .int .i64 r, .int .i64 c, .int .i64 q] 24) := ⟨_, rfl⟩
  have b0 : Below w.heap.size w w0 := by rw [hw0]; exact below_alloc _ _
  have HPAR : Hid (∀ v, Below w0.heap.size w0 v → v.cell? ⟨w.heap.size, 0, none⟩ = some (.int .i64 k) ∧ v.cell? ⟨w.heap.size, 1, none⟩ = some (.int .i64 r) ∧ v.cell? ⟨w.heap.size, 2, none⟩ = some (.int .i64 c) ∧ v.cell? ⟨w.heap.size, 3, none⟩ = some (.int .i64 q)) := fun v hv => par_held hw0 hv
  have HB0 : Hid (Below w.heap.size w w0) := b0
  have HV : Hid (Vec w lo l lc R) := hv
  have HU : Hid (Vec w mo m mc S) := hu
  clear hv hu b0
  by_cases hg : 2000 < l ∨ 2000 < m
  · have hg1 : (2000 : Int) < (l : Int) ∨ (¬ (2000 : Int) < (l : Int) ∧ (2000 : Int) < (m : Int)) := by omega
    clear hg
    go_enter Try.func4, Try.ntmps4
    go_wp2_with fail
    rw [← hw0]
    refine (alive_any _).mono ?_
    rintro e wa ⟨rfl, ha⟩
    have HBA : Hid (Below w.heap.size w wa) := below_then HB0.out ha
    clear ha hw0 HPAR
    rcases hg1 with h1 | ⟨h1, h2⟩
    all_goals
      go_wp2_with fail
      go_ret
      exact ⟨rfl, HBA.out⟩
  · have hl : l ≤ 2000 := by omega
    have hm : m ≤ 2000 := by omega
    have h1 : ¬ (2000 : Int) < (l : Int) := by omega
    have h2 : ¬ (2000 : Int) < (m : Int) := by omega
    clear hg
    obtain ⟨E1, hE1⟩ : ∃ E, erF (erP k r c q) q l R = E := ⟨_, rfl⟩
    obtain ⟨E2, hE2⟩ : ∃ E, erT (erP k r c q) q l R n = E := ⟨_, rfl⟩
    obtain ⟨E3, hE3⟩ : ∃ E, erG (erP k r c q) q l R m S = E := ⟨_, rfl⟩
    have HF1 : Hid (∀ v xo xc, Vec v xo l xc R → Calls Try.prog 9 #[.agg #[.int .i64 k, .int .i64 r, .int .i64 c, .int .i64 q], .slice xo l xc] v fun e w' => AnsR v.heap.size w' e E1 (cnt (nfB l R) q.toNat) (sel (nfB l R) q.toNat) ∧ Below v.heap.size v w') := fun v xo xc hx => Free_any k r c q v xo l xc R hx.rd (by omega) E1 hE1
    have HT1 : Hid (∀ v xo xc, Vec v xo l xc R → Calls Try.prog 10 #[.agg #[.int .i64 k, .int .i64 r, .int .i64 c, .int .i64 q], .slice xo l xc, .int .i64 n] v fun e w' => AnsP v.heap.size w' e E2 n.toNat (l - n.toNat) R (fun i => R (n.toNat + i)) ∧ Below v.heap.size v w') := fun v xo xc hx => Take_any k r c q v xo l xc R hx (by omega) n E2 hE2
    have HG1 : Hid (∀ v xo xc yo yc, Vec v xo l xc R → Vec v yo m yc S → Calls Try.prog 11 #[.agg #[.int .i64 k, .int .i64 r, .int .i64 c, .int .i64 q], .slice xo l xc, .slice yo m yc] v fun e w' => AnsR v.heap.size w' e E3 (cnt (twB l R m S) q.toNat) (sel (twB l R m S) q.toNat) ∧ Below v.heap.size v w') := fun v xo xc yo yc hx hy => Give_any k r c q v xo yo l xc m yc R S hx hy (by omega) (by omega) E3 hE3
    have HF2 : Hid (∀ v, Vec v lo l lc R → Calls Try.prog 13 #[.agg #[.int .i64 k, .int .i64 r, .int .i64 c, .int .i64 q], .slice lo l lc] v fun e w' => AnsR v.heap.size w' e E1 (cnt (nfB l R) q.toNat) (sel (nfB l R) q.toNat) ∧ Below v.heap.size v w') := fun v hx => RFree_any k r c q v lo l lc R hx.rd (by omega) E1 hE1
    have HT2 : Hid (∀ v, Vec v lo l lc R → Calls Try.prog 14 #[.agg #[.int .i64 k, .int .i64 r, .int .i64 c, .int .i64 q], .slice lo l lc, .int .i64 n] v fun e w' => AnsP v.heap.size w' e E2 n.toNat (l - n.toNat) R (fun i => R (n.toNat + i)) ∧ Below v.heap.size v w') := fun v hx => RTake_any k r c q v lo l lc R hx (by omega) n E2 hE2
    have HG2 : Hid (∀ v, Vec v lo l lc R → Vec v mo m mc S → Calls Try.prog 15 #[.agg #[.int .i64 k, .int .i64 r, .int .i64 c, .int .i64 q], .slice lo l lc, .slice mo m mc] v fun e w' => AnsR v.heap.size w' e E3 (cnt (twB l R m S) q.toNat) (sel (twB l R m S) q.toNat) ∧ Below v.heap.size v w') := fun v hx hy => RGive_any k r c q v lo mo l lc m mc R S hx hy (by omega) (by omega) E3 hE3
    have hq : q.toNat ≤ 256 ∨ (E1 ≠ 0 ∧ E3 ≠ 0) := by
      rcases erP_cases k r c q with hx | hx
      · have := erP_rows hx; exact .inl (by omega)
      · refine .inr ⟨?_, ?_⟩
        · rw [← hE1]; unfold erF; rw [hx]; show (2 : Int) ≠ 0; decide
        · rw [← hE3]; unfold erG er2M erM; rw [hx]; show (2 : Int) ≠ 0; decide
    have hnl : E2 ≠ 0 ∨ n.toNat ≤ l := by
      by_cases h : E2 = 0
      · refine .inr ?_
        have h3 : erT (erP k r c q) q l R n = 0 := hE2.trans h
        unfold erT at h3
        by_cases h4 : erM (erP k r c q) q l R = 0
        · rw [if_pos h4] at h3
          by_cases h5 : n < 0
          · rw [if_pos h5] at h3; cases h3
          · rw [if_neg h5] at h3
            by_cases h6 : (l : Int) < n
            · rw [if_pos h6] at h3; cases h3
            · omega
        · rw [if_neg h4] at h3; exact absurd h3 h4
      · exact .inl h
    obtain ⟨nf, hnf, NF⟩ : ∃ nf, lenE E1 (cnt (nfB l R) q.toNat) = nf ∧ nf ≤ 5000 := ⟨_, rfl, by
      have h3 := cnt_le (nfB l R) q.toNat
      rcases hq with h4 | h4
      · have := lenE_le E1 (cnt (nfB l R) q.toNat); omega
      · rw [show lenE E1 (cnt (nfB l R) q.toNat) = 0 from if_neg h4.1]; omega⟩
    obtain ⟨na, hna, NA⟩ : ∃ na, lenE E2 n.toNat = na ∧ na ≤ 5000 := ⟨_, rfl, by
      rcases hnl with h4 | h4
      · rw [show lenE E2 n.toNat = 0 from if_neg h4]; omega
      · have := lenE_le E2 n.toNat; omega⟩
    obtain ⟨nb, hnb, NB⟩ : ∃ nb, lenE E2 (l - n.toNat) = nb ∧ nb ≤ 5000 := ⟨_, rfl, by have := lenE_le E2 (l - n.toNat); omega⟩
    obtain ⟨ng, hng, NG⟩ : ∃ ng, lenE E3 (cnt (twB l R m S) q.toNat) = ng ∧ ng ≤ 5000 := ⟨_, rfl, by
      have h3 := cnt_le (twB l R m S) q.toNat
      rcases hq with h4 | h4
      · have := lenE_le E3 (cnt (twB l R m S) q.toNat); omega
      · rw [show lenE E3 (cnt (twB l R m S) q.toNat) = 0 from if_neg h4.2]; omega⟩
    unfold AnsR at HF1 HG1 HF2 HG2
    unfold AnsP at HT1 HT2
    rw [hnf] at HF1 HF2
    rw [hna, hnb] at HT1 HT2
    rw [hng] at HG1 HG2
    obtain ⟨FF, hFF⟩ : ∃ F, F = sel (nfB l R) q.toNat := ⟨_, rfl⟩
    obtain ⟨FB, hFB⟩ : ∃ F : Nat → Int, F = (fun i => R (n.toNat + i)) := ⟨_, rfl⟩
    obtain ⟨FG, hFG⟩ : ∃ F, F = sel (twB l R m S) q.toNat := ⟨_, rfl⟩
    rw [← hFF] at HF1 HF2
    rw [← hFB] at HT1 HT2
    rw [← hFG] at HG1 HG2
    clear hnf hna hnb hng hFF hFB hFG hE1 hE2 hE3 hq hnl
    go_enter Try.func4, Try.ntmps4
    go_wp2_with fail
    rw [← hw0]
    refine (alive_any _).mono ?_
    rintro e wa ⟨rfl, ha⟩
    have HBA : Hid (Below w0.heap.size w0 wa) := ha
    clear ha hw0
    have HL1 := lent_any wa lo l lc R (HV.out.below (below_then HB0.out HBA.out)) (by omega)
    go_wp2_with fail
    refine HL1.mono ?_
    rintro e wx ⟨gx, xc, rfl, hx, hb⟩
    have HBX : Hid (Below w0.heap.size w0 wx) := below_then HBA.out hb
    have HX : Hid (∀ v, Below wx.heap.size wx v → Lent w.heap.size v gx l xc R) := fun v hb => Lent.below (hx.mono (below_then HB0.out HBA.out).size) hb
    have HL2 := lent_any wx mo m mc S (HU.out.below (below_then HB0.out HBX.out)) (by omega)
    clear hx hb HL1
    go_wp2_with fail
    refine HL2.mono ?_
    rintro e wy ⟨gy, yc, rfl, hy, hb⟩
    have HXY : Hid (Below wx.heap.size wx wy) := hb
    have HBY : Hid (Below w0.heap.size w0 wy) := below_then HBX.out hb
    have HY : Hid (∀ v, Below wy.heap.size wy v → Lent w.heap.size v gy m yc S) := fun v hb => Lent.below (hy.mono (below_then HB0.out HBX.out).size) hb
    clear hy hb HL2
    obtain ⟨x0, x1, x2, x3⟩ := HPAR.out wy HBY.out
    have HC := HF1.out wy _ xc (HX.out wy HXY.out).vec
    go_wp2_with fail
    refine HC.mono ?_
    rintro e wf ⟨⟨fo, fc, rfl, hf⟩, hb⟩
    have HYF : Hid (Below wy.heap.size wy wf) := hb
    have HFO : Hid (Own wy.heap.size wf fo nf fc FF) := hf
    have HBF : Hid (Below w0.heap.size w0 wf) := below_then HBY.out hb
    clear hb hf HC x0 x1 x2 x3 HF1
    obtain ⟨x0, x1, x2, x3⟩ := HPAR.out wf HBF.out
    have HC := HT1.out wf _ xc (HX.out wf (below_then HXY.out HYF.out)).vec
    go_wp2_with fail
    refine HC.mono ?_
    rintro e wt ⟨⟨ao, ac, bo, bc, T, rfl, ha, hT1, hT2, hbb⟩, hb⟩
    have HFT : Hid (Below wf.heap.size wf wt) := hb
    have HAO : Hid (Own wf.heap.size wt ao na ac R ∧ (∀ g, ao = some ⟨g, 0, none⟩ → g < T) ∧ wf.heap.size ≤ T) := ⟨ha, hT1, hT2⟩
    have HBO : Hid (Own T wt bo nb bc FB) := hbb
    have HBT : Hid (Below w0.heap.size w0 wt) := below_then HBF.out hb
    clear hb ha hT1 hT2 hbb HC x0 x1 x2 x3 HT1
    obtain ⟨x0, x1, x2, x3⟩ := HPAR.out wt HBT.out
    have HYT : Hid (Below wy.heap.size wy wt) := below_then HYF.out HFT.out
    have HC := HG1.out wt _ xc _ yc (HX.out wt (below_then HXY.out HYT.out)).vec (HY.out wt HYT.out).vec
    go_wp2_with fail
    refine HC.mono ?_
    rintro e wg ⟨⟨go, gc, rfl, hg⟩, hb⟩
    have HTG : Hid (Below wt.heap.size wt wg) := hb
    have HGO : Hid (Own wt.heap.size wg go ng gc FG) := hg
    have HBG : Hid (Below w0.heap.size w0 wg) := below_then HBT.out hb
    clear hb hg HC x0 x1 x2 x3 HG1
    obtain ⟨x0, x1, x2, x3⟩ := HPAR.out wg HBG.out
    have HC := HF2.out wg (HV.out.below (below_then HB0.out HBG.out))
    go_wp2_with fail
    refine HC.mono ?_
    rintro e vf ⟨⟨f2, f2c, rfl, hf⟩, hb⟩
    have HGF : Hid (Below wg.heap.size wg vf) := hb
    have HF3 : Hid (Own wg.heap.size vf f2 nf f2c FF) := hf
    have HCF : Hid (Below w0.heap.size w0 vf) := below_then HBG.out hb
    clear hb hf HC x0 x1 x2 x3 HF2
    obtain ⟨x0, x1, x2, x3⟩ := HPAR.out vf HCF.out
    have HC := HT2.out vf (HV.out.below (below_then HB0.out HCF.out))
    go_wp2_with fail
    refine HC.mono ?_
    rintro e vt ⟨⟨a2, a2c, b2, b2c, T2, rfl, ha, _, hT2, hbb⟩, hb⟩
    have HFT2 : Hid (Below vf.heap.size vf vt) := hb
    have HA3 : Hid (Own vf.heap.size vt a2 na a2c R) := ha
    have HB3 : Hid (Own vf.heap.size vt b2 nb b2c FB) := hbb.mono hT2
    have HCT : Hid (Below w0.heap.size w0 vt) := below_then HCF.out hb
    clear hb ha hT2 hbb HC x0 x1 x2 x3 HT2
    obtain ⟨x0, x1, x2, x3⟩ := HPAR.out vt HCT.out
    have HC := HG2.out vt (HV.out.below (below_then HB0.out HCT.out)) (HU.out.below (below_then HB0.out HCT.out))
    go_wp2_with fail
    refine HC.mono ?_
    rintro e vg ⟨⟨g2, g2c, rfl, hg⟩, hb⟩
    have HTG2 : Hid (Below vt.heap.size vt vg) := hb
    have HG3 : Hid (Own vt.heap.size vg g2 ng g2c FG) := hg
    have HCG : Hid (Below w0.heap.size w0 vg) := below_then HCT.out hb
    clear hb hg HC x0 x1 x2 x3 HG2 HPAR
    have q1 : Hid (Below wg.heap.size wg vg) := below_then HGF.out (below_then HFT2.out HTG2.out)
    have q2 : Hid (Below wt.heap.size wt vg) := below_then HTG.out q1.out
    have q3 : Hid (Below wf.heap.size wf vg) := below_then HFT.out q2.out
    have q4 : Hid (Below wy.heap.size wy vg) := below_then HYF.out q3.out
    have q5 : Hid (Below wx.heap.size wx vg) := below_then HXY.out q4.out
    have q6 : Hid (Below vf.heap.size vf vg) := below_then HFT2.out HTG2.out
    have KF : Hid (Own wy.heap.size vg fo nf fc FF) := Own.below HFO.out q3.out
    have KA : Hid (Own wf.heap.size vg ao na ac R) := Own.below HAO.out.1 q2.out
    have KB : Hid (Own T vg bo nb bc FB) := Own.below HBO.out q2.out
    have KG : Hid (Own wt.heap.size vg go ng gc FG) := Own.below HGO.out q1.out
    have KF2 : Hid (Vec vg f2 nf f2c FF) := (Own.vec HF3.out).below q6.out
    have KA2 : Hid (Vec vg a2 na a2c R) := (Own.vec HA3.out).below HTG2.out
    have KB2 : Hid (Own vf.heap.size vg b2 nb b2c FB) := Own.below HB3.out HTG2.out
    have KG2 : Hid (Vec vg g2 ng g2c FG) := Own.vec HG3.out
    have KX : Hid (Lent w.heap.size vg gx l xc R ∧ gx < wy.heap.size) := ⟨HX.out vg q5.out, Nat.lt_of_lt_of_le (HX.out wx (Below.refl _ _)).lt.2 HXY.out.size⟩
    have KY : Hid (Lent w.heap.size vg gy m yc S ∧ gy < wy.heap.size) := ⟨HY.out vg q4.out, (HY.out wy (Below.refl _ _)).lt.2⟩
    have YF : Hid (∀ j, BlkOf fo j → wy.heap.size ≤ j ∧ j < wf.heap.size) := fun j hj => own_blk HFO.out hj
    have YA : Hid (∀ j, BlkOf ao j → wf.heap.size ≤ j ∧ j < wt.heap.size ∧ j < T) := fun j hj => ⟨(own_blk HAO.out.1 hj).1, (own_blk HAO.out.1 hj).2, by
      obtain ⟨a, rfl, rfl⟩ := hj
      rcases HAO.out.1.2 with ⟨h1, _⟩ | ⟨g, cap', cur, h1, h2, h3, _⟩
      · cases h1
      · cases h1; exact HAO.out.2.1 g rfl⟩
    have YB : Hid (∀ j, BlkOf bo j → T ≤ j ∧ j < wt.heap.size) := fun j hj => own_blk HBO.out hj
    have YG : Hid (∀ j, BlkOf go j → wt.heap.size ≤ j) := fun j hj => (own_blk HGO.out hj).1
    have YB2 : Hid (∀ j, BlkOf b2 j → wt.heap.size ≤ j) := fun j hj => by
      have h3 := (own_blk HB3.out hj).1
      have h4 := HTG.out.size
      have h5 := HGF.out.size
      omega
    have SZ1 : Hid (w.heap.size ≤ wy.heap.size) := (below_then HB0.out HBY.out).size
    have SZ2 : Hid (wy.heap.size ≤ wf.heap.size) := HYF.out.size
    have SZ3 : Hid (wf.heap.size ≤ T) := HAO.out.2.2
    have SZ5 : Hid (wf.heap.size ≤ wt.heap.size) := HFT.out.size
    have SZ4 : Hid (w.heap.size ≤ vg.heap.size) := (below_then HB0.out HCG.out).size
    have WV : Hid (Below w.heap.size w vg) := below_then HB0.out HCG.out
    clear HFO HAO HBO HGO HF3 HA3 HB3 HG3 HX HY q1 q2 q3 q4 q5 q6 HBA HBX HXY HBY HYF HBF HFT HBT HYT HTG HBG HGF HCF HFT2 HCT HTG2 HCG HB0
    have HC := same_true vg fo f2 nf fc f2c FF (Own.vec KF.out).rd KF2.out.rd (by omega)
    go_wp2_with fail
    refine HC.mono ?_
    rintro e v1 ⟨rfl, j1, rfl⟩
    have HC := same_true (vg.drewN j1) ao a2 na ac a2c R (Own.vec KA.out).rd KA2.out.rd (by omega)
    go_wp2_with fail
    refine HC.mono ?_
    rintro e v1 ⟨rfl, j2, hv1⟩
    have HC := same_true v1 bo b2 nb bc b2c FB (by rw [hv1]; exact (Own.vec KB.out).rd) (by rw [hv1]; exact (Own.vec KB2.out).rd) (by omega)
    have HV1 : Hid (v1 = (vg.drewN j1).drewN j2) := hv1
    clear hv1
    go_wp2_with fail
    refine HC.mono ?_
    rintro e v2 ⟨rfl, j3, hv2⟩
    have HV2 : Hid (v2 = v1.drewN j3) := hv2
    have HC := same_true v2 go g2 ng gc g2c FG (by rw [hv2, HV1.out]; exact (Own.vec KG.out).rd) (by rw [hv2, HV1.out]; exact KG2.out.rd) (by omega)
    clear hv2
    go_wp2_with fail
    refine HC.mono ?_
    rintro e v3 ⟨rfl, j4, hv3⟩
    have EV : Hid (v3 = (((vg.drewN j1).drewN j2).drewN j3).drewN j4) := by show _ = _; rw [hv3, HV2.out, HV1.out]
    clear hv3 HV1 HV2
    have KF : Hid (Own wy.heap.size v3 fo nf fc FF) := by show Own _ _ _ _ _ _; rw [EV.out]; exact KF.out
    have KA : Hid (Own wf.heap.size v3 ao na ac R) := by show Own _ _ _ _ _ _; rw [EV.out]; exact KA.out
    have KB : Hid (Own T v3 bo nb bc FB) := by show Own _ _ _ _ _ _; rw [EV.out]; exact KB.out
    have KG : Hid (Own wt.heap.size v3 go ng gc FG) := by show Own _ _ _ _ _ _; rw [EV.out]; exact KG.out
    have KB2 : Hid (Own vf.heap.size v3 b2 nb b2c FB) := by show Own _ _ _ _ _ _; rw [EV.out]; exact KB2.out
    have KX : Hid (Lent w.heap.size v3 gx l xc R ∧ gx < wy.heap.size) := by show _ ∧ _; rw [EV.out]; exact KX.out
    have KY : Hid (Lent w.heap.size v3 gy m yc S ∧ gy < wy.heap.size) := by show _ ∧ _; rw [EV.out]; exact KY.out
    have WV : Hid (Below w.heap.size w v3) := by show Below _ _ _; rw [EV.out]; exact below_then (below_then (below_then (below_then WV.out (below_drewN _ _ _)) (below_drewN _ _ _)) (below_drewN _ _ _)) (below_drewN _ _ _)
    clear EV KF2 KA2 KG2 SZ4 HC
    have HC := spoil_any v3 ao na ac wf.heap.size R (by omega) KA.out
    go_wp2_with fail
    refine HC.mono ?_
    rintro e u1 ⟨rfl, ho⟩
    have KF : Hid (Own wy.heap.size u1 fo nf fc FF) := own_only KF.out ho fun j h3 h4 => by have := (YF.out j h3).2; have := (YA.out j h4).1; omega
    have KB : Hid (Own T u1 bo nb bc FB) := own_only KB.out ho fun j h3 h4 => by have := (YB.out j h3).1; have := (YA.out j h4).2; omega
    have KG : Hid (Own wt.heap.size u1 go ng gc FG) := own_only KG.out ho fun j h3 h4 => by have := YG.out j h3; have := (YA.out j h4).2; have := SZ5.out; omega
    have KB2 : Hid (Own vf.heap.size u1 b2 nb b2c FB) := own_only KB2.out ho fun j h3 h4 => by have := YB2.out j h3; have := (YA.out j h4).2; have := SZ5.out; omega
    have KX : Hid (Lent w.heap.size u1 gx l xc R ∧ gx < wy.heap.size) := ⟨own_only KX.out.1 ho (fun j h3 h4 => by obtain ⟨a, h5, rfl⟩ := h3; cases h5; have := KX.out.2; have := (YA.out _ h4).1; have := SZ2.out; simp at *; omega), KX.out.2⟩
    have KY : Hid (Lent w.heap.size u1 gy m yc S ∧ gy < wy.heap.size) := ⟨own_only KY.out.1 ho (fun j h3 h4 => by obtain ⟨a, h5, rfl⟩ := h3; cases h5; have := KY.out.2; have := (YA.out _ h4).1; have := SZ2.out; simp at *; omega), KY.out.2⟩
    have WV : Hid (Below w.heap.size w u1) := WV.out.trans (ho.below WV.out.size fun j h4 => by have := (YA.out j h4).1; have := SZ2.out; have := SZ1.out; omega)
    clear ho KA HC
    have HC := same_true u1 bo b2 nb bc b2c FB (Own.vec KB.out).rd (Own.vec KB2.out).rd (by omega)
    go_wp2_with fail
    refine HC.mono ?_
    rintro e u2 ⟨rfl, j5, hu2⟩
    have EV : Hid (u2 = u1.drewN j5) := hu2
    clear hu2 KB2
    have KF : Hid (Own wy.heap.size u2 fo nf fc FF) := by show Own _ _ _ _ _ _; rw [EV.out]; exact KF.out
    have KB : Hid (Own T u2 bo nb bc FB) := by show Own _ _ _ _ _ _; rw [EV.out]; exact KB.out
    have KG : Hid (Own wt.heap.size u2 go ng gc FG) := by show Own _ _ _ _ _ _; rw [EV.out]; exact KG.out
    have KX : Hid (Lent w.heap.size u2 gx l xc R ∧ gx < wy.heap.size) := by show _ ∧ _; rw [EV.out]; exact KX.out
    have KY : Hid (Lent w.heap.size u2 gy m yc S ∧ gy < wy.heap.size) := by show _ ∧ _; rw [EV.out]; exact KY.out
    have WV : Hid (Below w.heap.size w u2) := by show Below _ _ _; rw [EV.out]; exact below_then WV.out (below_drewN _ _ _)
    clear EV HC
    have HC := spoil_any u2 fo nf fc wy.heap.size FF (by omega) KF.out
    go_wp2_with fail
    refine HC.mono ?_
    rintro e u3 ⟨rfl, ho⟩
    have KB : Hid (Own T u3 bo nb bc FB) := own_only KB.out ho fun j h3 h4 => by have := (YB.out j h3).1; have := (YF.out j h4).2; have := SZ3.out; omega
    have KG : Hid (Own wt.heap.size u3 go ng gc FG) := own_only KG.out ho fun j h3 h4 => by have := YG.out j h3; have := (YF.out j h4).2; have := SZ5.out; have := SZ3.out; omega
    have KX : Hid (Lent w.heap.size u3 gx l xc R ∧ gx < wy.heap.size) := ⟨own_only KX.out.1 ho (fun j h3 h4 => by obtain ⟨a, h5, rfl⟩ := h3; cases h5; have := KX.out.2; have := (YF.out _ h4).1; simp at *; omega), KX.out.2⟩
    have KY : Hid (Lent w.heap.size u3 gy m yc S ∧ gy < wy.heap.size) := ⟨own_only KY.out.1 ho (fun j h3 h4 => by obtain ⟨a, h5, rfl⟩ := h3; cases h5; have := KY.out.2; have := (YF.out _ h4).1; simp at *; omega), KY.out.2⟩
    have WV : Hid (Below w.heap.size w u3) := WV.out.trans (ho.below WV.out.size fun j h4 => by have := (YF.out j h4).1; have := SZ1.out; omega)
    clear ho KF HC
    have HC := spoil_any u3 bo nb bc T FB (by omega) KB.out
    go_wp2_with fail
    refine HC.mono ?_
    rintro e u4 ⟨rfl, ho⟩
    have KG : Hid (Own wt.heap.size u4 go ng gc FG) := own_only KG.out ho fun j h3 h4 => by have := YG.out j h3; have := (YB.out j h4).2; omega
    have KX : Hid (Lent w.heap.size u4 gx l xc R ∧ gx < wy.heap.size) := ⟨own_only KX.out.1 ho (fun j h3 h4 => by obtain ⟨a, h5, rfl⟩ := h3; cases h5; have := KX.out.2; have := (YB.out _ h4).1; have := SZ2.out; have := SZ3.out; simp at *; omega), KX.out.2⟩
    have KY : Hid (Lent w.heap.size u4 gy m yc S ∧ gy < wy.heap.size) := ⟨own_only KY.out.1 ho (fun j h3 h4 => by obtain ⟨a, h5, rfl⟩ := h3; cases h5; have := KY.out.2; have := (YB.out _ h4).1; have := SZ2.out; have := SZ3.out; simp at *; omega), KY.out.2⟩
    have WV : Hid (Below w.heap.size w u4) := WV.out.trans (ho.below WV.out.size fun j h4 => by have := (YB.out j h4).1; have := SZ1.out; have := SZ2.out; have := SZ3.out; omega)
    clear ho KB HC
    have HC := spoil_any u4 go ng gc wt.heap.size FG (by omega) KG.out
    go_wp2_with fail
    refine HC.mono ?_
    rintro e u5 ⟨rfl, ho⟩
    have KX : Hid (Lent w.heap.size u5 gx l xc R) := own_only KX.out.1 ho (fun j h3 h4 => by obtain ⟨a, h5, rfl⟩ := h3; cases h5; have := KX.out.2; have := YG.out _ h4; have := SZ5.out; have := SZ2.out; have := SZ3.out; simp at *; omega)
    have KY : Hid (Lent w.heap.size u5 gy m yc S) := own_only KY.out.1 ho (fun j h3 h4 => by obtain ⟨a, h5, rfl⟩ := h3; cases h5; have := KY.out.2; have := YG.out _ h4; have := SZ5.out; have := SZ2.out; have := SZ3.out; simp at *; omega)
    have WV : Hid (Below w.heap.size w u5) := WV.out.trans (ho.below WV.out.size fun j h4 => by have := YG.out j h4; have := SZ1.out; have := SZ2.out; have := SZ3.out; have := SZ5.out; omega)
    clear ho KG HC YF YA YB YG YB2 SZ1 SZ2 SZ3 SZ5
    have HC := kept_any u5 gx l xc lo lc w.heap.size R KX.out (HV.out.below (WV.out)) (by omega)
    go_wp2_with fail
    refine HC.mono ?_
    rintro e u6 ⟨rfl, j6, hu6⟩
    have KY : Hid (Lent w.heap.size u6 gy m yc S) := by show Lent _ _ _ _ _ _; rw [hu6]; exact KY.out
    have WV : Hid (Below w.heap.size w u6) := by show Below _ _ _; rw [hu6]; exact below_then WV.out (below_drewN _ _ _)
    clear hu6 HC
    have HC := kept_any u6 gy m yc mo mc w.heap.size S KY.out (HU.out.below (WV.out)) (by omega)
    go_wp2_with fail
    refine HC.mono ?_
    rintro e u7 ⟨rfl, j7, hu7⟩
    have WV : Hid (Below w.heap.size w u7) := by show Below _ _ _; rw [hu7]; exact below_then WV.out (below_drewN _ _ _)
    clear hu7 HC
    have e1 : (E1 == E1) = true := by simp
    have e2 : (E2 == E2) = true := by simp
    have e3 : (E3 == E3) = true := by simp
    go_wp2_with fail
    go_ret
    exact ⟨rfl, WV.out⟩
end Go.Proofs.Ytmncbeabhicbhaa
