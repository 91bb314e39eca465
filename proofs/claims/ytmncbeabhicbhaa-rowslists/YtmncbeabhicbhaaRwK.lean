/- What the document's Give answers. -/
import Derived.Test.YtmncbeabhicbhaaRwI
namespace Go.Proofs.Ytmncbeabhicbhaa
open Go.RowKit

theorem ap_yes {n m Q : Nat} {R S : Nat → Int} (h : apB n R m S = true) : ∀ i, i < Q → (inB n R i && inB m S i) = false := fun i _ => by
  cases h1 : inB n R i
  · rfl
  · cases h2 : inB m S i
    · rfl
    · obtain ⟨a, ha, ea⟩ := inB_iff.1 h1
      obtain ⟨b, hb, eb⟩ := inB_iff.1 h2
      exact absurd (ea.trans eb.symm) (of_decide_eq_true h a ha b hb)
theorem ap_no {n m Q : Nat} {R S : Nat → Int} (h : apB n R m S = false) (hr : ∀ i, i < n → 0 ≤ R i ∧ R i < (Q : Int)) : ∃ p, p < Q ∧ (inB n R p && inB m S p) = true ∧ ∀ i, i < p → (inB n R i && inB m S i) = false := by
  have h1 : ¬ ∀ i, i < Q → (inB n R i && inB m S i) = false := fun hall => by
    have h2 : apB n R m S = true := decide_eq_true fun i hi j hj e => by
      have h3 := hr i hi
      have h4 := hall (R i).toNat (by omega)
      rw [inB_iff.2 ⟨i, hi, by omega⟩, inB_iff.2 ⟨j, hj, by omega⟩] at h4
      cases h4
    rw [h] at h2; cases h2
  obtain ⟨p, hp, hne, heq⟩ := first_not h1
  exact ⟨p, hp, by simpa using hne, heq⟩
set_option maxHeartbeats 8000000 in
set_option maxRecDepth 100000 in
theorem RGive_any (k r c q : Int) (w : World) (ao bo : Option Addr) (n ca m cb : Nat) (R S : Nat → Int) (hv : Vec w ao n ca R) (hu : Vec w bo m cb S) (hn : n ≤ 200000) (hm : m ≤ 200000) (E : Int) (hE : erG (erP k r c q) q n R m S = E) :
    Calls Try.prog 15 #[.agg #[.int .i64 k, .int .i64 r, .int .i64 c, .int .i64 q], .slice ao n ca, .slice bo m cb] w fun e w' => AnsR w.heap.size w' e E (cnt (twB n R m S) q.toNat) (sel (twB n R m S) q.toNat) ∧ Below w.heap.size w w' := by
  obtain ⟨w0, hw0⟩ : ∃ w0, w0 = w.alloc (.cells #[.int .i64 k, .int .i64 r, .int .i64 c, .int .i64 q] 24) := ⟨_, rfl⟩
  have b0 : Below w.heap.size w w0 := by rw [hw0]; exact below_alloc _ _
  have HPAR : Hid (∀ v, Below w0.heap.size w0 v → v.cell? ⟨w.heap.size, 0, none⟩ = some (.int .i64 k) ∧ v.cell? ⟨w.heap.size, 1, none⟩ = some (.int .i64 r) ∧ v.cell? ⟨w.heap.size, 2, none⟩ = some (.int .i64 c) ∧ v.cell? ⟨w.heap.size, 3, none⟩ = some (.int .i64 q)) := fun v hv => par_held hw0 hv
  obtain ⟨x0, x1, x2, x3⟩ := HPAR.out w0 (Below.refl _ _)
  have HCK := fun w => May_any k r c q w
  have HB0 : Hid (Below w.heap.size w w0) := b0
  have HV : Hid (Vec w ao n ca R) := hv
  have HU : Hid (Vec w bo m cb S) := hu
  clear hv hu b0
  rcases erP_cases k r c q with hx | hx
  · rw [erP_may hx] at HCK
    obtain ⟨q1, q2⟩ := erP_rows hx
    obtain ⟨Q, rfl⟩ : ∃ Q : Nat, q = (Q : Int) := ⟨q.toNat, by omega⟩
    rw [Int.toNat_natCast]
    obtain ⟨e1, he1⟩ : ∃ e1, erL (Q : Int) n R = e1 := ⟨_, rfl⟩
    obtain ⟨e2, he2⟩ : ∃ e2, erL (Q : Int) m S = e2 := ⟨_, rfl⟩
    have hE' : E = if e1 = 0 then (if e2 = 0 then (if apB n R m S = true then 0 else 200) else e2) else e1 := by
      rw [← hE]; unfold erG er2M erM; rw [hx, if_pos rfl, he1, he2]
      by_cases h1 : e1 = 0
      · rw [if_pos h1, if_pos h1]
      · rw [if_neg h1, if_neg h1, if_neg h1]
    have HT : Hid (∀ v, Below w.heap.size w v → Calls Try.prog 29 #[.agg #[.int .i64 k, .int .i64 r, .int .i64 c, .int .i64 (Q : Int)], .slice ao n ca, .bool true] v fun e w' => ((e1 ≠ 0 ∧ e = .returned (.tuple #[.slice none 0 0, .int .i64 e1])) ∨ (e1 = 0 ∧ ∃ g, e = .returned (.tuple #[.slice (some ⟨g, 0, none⟩) Q Q, .int .i64 0]) ∧ v.heap.size ≤ g ∧ Mrk w' g Q (inB n R))) ∧ Below v.heap.size v w') := fun v hb => marked_any k r c Q (by omega) v ao n ca R (HV.out.below hb).rd hn true e1 ((erMk_t _ _ _).trans he1)
    have HS : Hid (∀ v, Below w.heap.size w v → Calls Try.prog 29 #[.agg #[.int .i64 k, .int .i64 r, .int .i64 c, .int .i64 (Q : Int)], .slice bo m cb, .bool true] v fun e w' => ((e2 ≠ 0 ∧ e = .returned (.tuple #[.slice none 0 0, .int .i64 e2])) ∨ (e2 = 0 ∧ ∃ g, e = .returned (.tuple #[.slice (some ⟨g, 0, none⟩) Q Q, .int .i64 0]) ∧ v.heap.size ≤ g ∧ Mrk w' g Q (inB m S))) ∧ Below v.heap.size v w') := fun v hb => marked_any k r c Q (by omega) v bo m cb S (HU.out.below hb).rd hm true e2 ((erMk_t _ _ _).trans he2)
    have HAL : Hid (e1 = 0 → ∀ i, i < n → 0 ≤ R i ∧ R i < (Q : Int)) := fun h => (erL_of (he1.trans h)).2.1
    clear hx hE he1 he2
    go_enter Try.func15, Try.ntmps15
    go_wp2_with fail
    rw [← hw0]
    refine (HCK _).mono ?_
    rintro e wa ⟨rfl, ha⟩
    have HBA : Hid (Below w0.heap.size w0 wa) := ha
    clear ha hw0 x0 x1 x2 x3 HCK
    obtain ⟨x0, x1, x2, x3⟩ := HPAR.out wa HBA.out
    go_wp2_with fail
    refine (HT.out _ (below_then HB0.out HBA.out)).mono ?_
    rintro e wb ⟨⟨h1, rfl⟩ | ⟨rfl, g, rfl, hg, hm1⟩, hb⟩
    · rw [if_neg h1] at hE'
      subst hE'
      have HBB : Hid (Below w.heap.size w wb) := below_then HB0.out (below_then HBA.out hb)
      clear hb HT HS x0 x1 x2 x3 HPAR
      go_wp2_with fail
      go_ret2
      exact ⟨ansR_no h1 rfl, HBB.out⟩
    · rw [if_pos rfl] at hE'
      have HBB : Hid (Below w0.heap.size w0 wb) := below_then HBA.out hb
      have HM1 : Hid (Mrk wb g Q (inB n R)) := hm1
      clear hb HT x0 x1 x2 x3 hg hm1
      obtain ⟨x0, x1, x2, x3⟩ := HPAR.out wb HBB.out
      have HE3 : Hid (E = if e2 = 0 then (if apB n R m S = true then 0 else 200) else e2) := hE'
      clear hE'
      go_wp2_with fail
      refine (HS.out _ (below_then HB0.out HBB.out)).mono ?_
      rintro e wc ⟨⟨h1, rfl⟩ | ⟨rfl, f, rfl, hg, hm1⟩, hb⟩
      · have hE' := HE3.out
        rw [if_neg h1] at hE'
        subst hE'
        have HBC : Hid (Below w.heap.size w wc) := below_then HB0.out (below_then HBB.out hb)
        clear hb HS x0 x1 x2 x3 HPAR
        go_wp2_with fail
        go_ret2
        exact ⟨ansR_no h1 rfl, HBC.out⟩
      · have HBC : Hid (Below w0.heap.size w0 wc) := below_then HBB.out hb
        have HM2 : Hid (Mrk wc f Q (inB m S)) := hm1
        have HM3 : Hid (Mrk wc g Q (inB n R)) := HM1.out.below hb
        clear hb HS x0 x1 x2 x3 hg hm1
        have HON : Hid (Own wc.heap.size wc none (cnt (twB n R m S) 0) 0 (sel (twB n R m S) 0)) := own_nil _ _ _
        obtain ⟨P, hP, HP⟩ : ∃ P, P ≤ Q ∧ Hid ((∀ i, i < P → (inB n R i && inB m S i) = false) ∧ ((P = Q ∧ E = 0) ∨ (P < Q ∧ (inB n R P && inB m S P) = true ∧ E = 200))) := by
          have hE' := HE3.out
          rw [if_pos rfl] at hE'
          cases hap : apB n R m S
          · obtain ⟨p, h1, h2, h3⟩ := ap_no hap (HAL.out (by trivial))
            rw [hap, if_neg (by decide)] at hE'
            exact ⟨p, by omega, h3, .inr ⟨h1, h2, hE'⟩⟩
          · rw [hap, if_pos rfl] at hE'
            exact ⟨Q, Nat.le_refl _, ap_yes hap, .inl ⟨rfl, hE'⟩⟩
        clear HE3
        go_wp2_with fail
        go_loopw [11, 12] (fun v x wr => ∃ (i : Nat) (ro : Option Addr) (rc : Nat), i ≤ P ∧ x = .int .i64 (i : Int) ∧ v = .slice ro (cnt (twB n R m S) i) rc ∧ Hid (Own wc.heap.size wr ro (cnt (twB n R m S) i) rc (sel (twB n R m S) i)) ∧ Hid (Below wc.heap.size wc wr)) (fun _ x _ => Q - (intOf x).toNat)
        case atStart => exact ⟨0, none, 0, Nat.zero_le _, rfl, rfl, HON, Below.refl _ _⟩
        case round =>
          obtain ⟨i, ro, rc, hi, rfl, rfl, hown, hbel⟩ := hrel
          obtain ⟨x0, x1, x2, x3⟩ := HPAR.out wr (below_then HBC.out hbel.out)
          by_cases hlt : i < Q
          · have hc1 := World.rowIs.cell (HM3.out.below hbel.out) hlt
            have hc2 := World.rowIs.cell (HM2.out.below hbel.out) hlt
            have i1 : (0 : Int) ≤ (i : Int) := by omega
            have i2 : (i : Int) < (Q : Int) := by omega
            have hcl := cnt_le (twB n R m S) i
            by_cases hiP : i < P
            · have hfl := HP.out.1 i hiP
              by_cases htw : twB n R m S i = true
              · have HC1 : Hid (cnt (twB n R m S) (i + 1) = cnt (twB n R m S) i + 1) := cnt_yes htw
                have HC2 : Hid (sel (twB n R m S) (i + 1) = put (cnt (twB n R m S) i) (i : Int) (sel (twB n R m S) i)) := sel_yes htw
                obtain ⟨t, ht⟩ : ∃ t, t = cnt (twB n R m S) i := ⟨_, rfl⟩
                obtain ⟨F, hF⟩ : ∃ F, F = sel (twB n R m S) i := ⟨_, rfl⟩
                rw [← ht] at hown HC1 HC2 hcl
                rw [← hF] at hown HC2
                have HL : Hid (Vec (wr.alloc (.cells #[.int .i64 (i : Int)] 3)) (some ⟨wr.heap.size, 0, none⟩) 1 1 (fun _ => (i : Int))) := vec_lit wr _
                have HOA : Hid (Own wc.heap.size (wr.alloc (.cells #[.int .i64 (i : Int)] 3)) ro t rc F) := Own.below hown.out (below_alloc _ _)
                have HBA2 : Hid (Below wc.heap.size wc (wr.alloc (.cells #[.int .i64 (i : Int)] 3))) := below_then hbel.out (below_alloc _ _)
                have hsz := HBA2.out.size
                rw [← ht]
                have htw2 : Hid (twB n R m S i = true) := htw
                clear ht hF htw
                cases hA : inB n R i <;> cases hB : inB m S i
                · have := htw2.out; unfold twB at this; rw [hA, hB] at this; cases this
                all_goals first
                  | (rw [hA, hB] at hfl; cases hfl; done)
                  | (rw [hA] at hc1; rw [hB] at hc2
                     clear hA hB hfl
                     go_wp2_with (at_builtin; refine wpList_append_more (by rfl) (.tmp 60) (.tmp 62) (by rfl) wc.heap.size t 1 rc 1 ro (some ⟨wr.heap.size, 0, none⟩) F (fun _ => (i : Int)) (by rfl) (by rfl) HOA.out HL.out (by omega) (by omega) hsz ?_; intro ao' c' w' hown' hgrow')
                     have HB2 : Hid (Below wc.heap.size wc w') := HBA2.out.grown hgrow'.out hsz (fun r hr => (World.ownsRow.lt HOA.out r hr).1)
                     have HO2 : Hid (Own wc.heap.size w' ao' (t + 1) c' (put t (i : Int) F)) := Own.congr hown'.out (app_one _ _ _)
                     clear hown' hgrow'
                     go_roundw
                     case rel => exact ⟨i + 1, ao', c', by omega, by go_num, by rw [HC1.out], by show Own _ _ _ _ _ _; rw [HC1.out, HC2.out]; exact HO2.out, HB2⟩
                     case measure => simp [intOf]; omega)
              · have hP : twB n R m S i = false := by simpa using htw
                have HC1 : Hid (cnt (twB n R m S) (i + 1) = cnt (twB n R m S) i) := cnt_no hP
                have HC2 : Hid (sel (twB n R m S) (i + 1) = sel (twB n R m S) i) := sel_no hP
                obtain ⟨t, ht⟩ : ∃ t, t = cnt (twB n R m S) i := ⟨_, rfl⟩
                obtain ⟨F, hF⟩ : ∃ F, F = sel (twB n R m S) i := ⟨_, rfl⟩
                rw [← ht] at hown HC1 hcl
                rw [← hF] at hown HC2
                rw [← ht]
                have hA : inB n R i = false := by unfold twB at hP; simp at hP; exact hP.1
                have hB : inB m S i = false := by unfold twB at hP; simp at hP; exact hP.2
                rw [hA] at hc1; rw [hB] at hc2
                clear hA hB hP ht hF htw hfl
                go_wp2_with fail
                go_roundw
                case rel => exact ⟨i + 1, ro, rc, by omega, by go_num, by rw [HC1.out], by show Own _ _ _ _ _ _; rw [HC1.out, HC2.out]; exact hown.out, hbel⟩
                case measure => simp [intOf]; omega
            · obtain rfl : i = P := by omega
              obtain ⟨h6, h7⟩ : (inB n R i && inB m S i) = true ∧ E = 200 := by
                rcases HP.out.2 with ⟨h6, _⟩ | ⟨_, h6, h7⟩
                · omega
                · exact ⟨h6, h7⟩
              subst h7
              have hA : inB n R i = true := by simp at h6; exact h6.1
              have hB : inB m S i = true := by simp at h6; exact h6.2
              rw [hA] at hc1; rw [hB] at hc2
              have HFX : Hid (Below w.heap.size w wr) := below_then HB0.out (below_then HBC.out hbel.out)
              clear hA hB h6 hown hbel hcl
              go_wp2_with fail
              go_ret2
              exact ⟨ansR_no (by decide) rfl, HFX.out⟩
          · obtain rfl : i = Q := by omega
            have h7 : E = 0 := by
              rcases HP.out.2 with ⟨_, h7⟩ | ⟨h6, _⟩
              · exact h7
              · omega
            subst h7
            have HFX : Hid (AnsR w.heap.size wr (.returned (.tuple #[.slice ro (cnt (twB n R m S) i) rc, .int .i64 0])) 0 (cnt (twB n R m S) i) (sel (twB n R m S) i) ∧ Below w.heap.size w wr) := by
              have hb9 := below_then HB0.out HBC.out
              exact ⟨⟨ro, rc, rfl, Own.mono hown.out hb9.size⟩, below_then hb9 hbel.out⟩
            clear hown hbel
            go_wp2_with fail
            go_ret2
            exact HFX.out
  · rw [not_may hx] at HCK
    have hE' : E = 2 := by rw [← hE]; unfold erG er2M erM; rw [hx]; rfl
    subst hE'
    clear hE
    go_enter Try.func15, Try.ntmps15
    go_wp2_with fail
    rw [← hw0]
    refine (HCK _).mono ?_
    rintro e wa ⟨rfl, ha⟩
    clear hw0 x0 x1 x2 x3 HCK HPAR
    go_wp2_with fail
    go_ret2
    exact ⟨ansR_no (by decide) rfl, below_then HB0.out ha⟩
end Go.Proofs.Ytmncbeabhicbhaa
