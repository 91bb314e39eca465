/- What the document's Free, Take and Give answer. -/
import Derived.Test.YtmncbeabhicbhaaRwH
namespace Go.Proofs.Ytmncbeabhicbhaa
open Go.RowKit

theorem vec_lit (w : World) (x : Int) : Vec (w.alloc (.cells #[.int .i64 x] 3)) (some ⟨w.heap.size, 0, none⟩) 1 1 (fun _ => x) := by
  refine ⟨fun _ => ⟨w.heap.size, 0, rfl, fun i hi => ?_⟩, (fun e => by cases e), Nat.le_refl _⟩
  obtain rfl : i = 0 := by omega
  exact blk_held (w := w) rfl (Below.refl _ _) 0 rfl
theorem app_one (k : Nat) (R : Nat → Int) (x : Int) : ∀ i, i < k + 1 → app k R (fun _ => x) i = put k x R i := fun i hi => by
  unfold app put
  by_cases h : i < k
  · rw [if_pos h, if_neg (by omega)]
  · rw [if_neg h, if_pos (by omega)]
theorem Mrk.below {w w' : World} {g Q : Nat} {P : Nat → Bool} (h : Mrk w g Q P) (hb : Below w.heap.size w w') : Mrk w' g Q P := World.rowIs.of_block h (hb.block _ (World.rowIs.lt h))
theorem erMk_t (q : Int) (n : Nat) (R : Nat → Int) : erMk true q n R = erL q n R := if_pos rfl
theorem erMk_f (q : Int) (n : Nat) (R : Nat → Int) : erMk false q n R = erH q n R := if_neg (by decide)
theorem not_may {k r c q : Int} (h : erP k r c q = 2) : may k r c q = false := by
  cases g : may k r c q
  · rfl
  · unfold erP at h; rw [if_pos g] at h; exact absurd h (by decide)
set_option maxHeartbeats 4000000 in
set_option maxRecDepth 100000 in
theorem RFree_any (k r c q : Int) (w : World) (ao : Option Addr) (n ca : Nat) (R : Nat → Int) (hv : RdI w ao n R) (hn : n ≤ 200000) (E : Int) (hE : erF (erP k r c q) q n R = E) :
    Calls Try.prog 13 #[.agg #[.int .i64 k, .int .i64 r, .int .i64 c, .int .i64 q], .slice ao n ca] w fun e w' => AnsR w.heap.size w' e E (cnt (nfB n R) q.toNat) (sel (nfB n R) q.toNat) ∧ Below w.heap.size w w' := by
  obtain ⟨w0, hw0⟩ : ∃ w0, w0 = w.alloc (.cells #[.int .i64 k, .int .i64 r, .int .i64 c, .int .i64 q] 24) := ⟨_, rfl⟩
  have b0 : Below w.heap.size w w0 := by rw [hw0]; exact below_alloc _ _
  have HPAR : Hid (∀ v, Below w0.heap.size w0 v → v.cell? ⟨w.heap.size, 0, none⟩ = some (.int .i64 k) ∧ v.cell? ⟨w.heap.size, 1, none⟩ = some (.int .i64 r) ∧ v.cell? ⟨w.heap.size, 2, none⟩ = some (.int .i64 c) ∧ v.cell? ⟨w.heap.size, 3, none⟩ = some (.int .i64 q)) := fun v hv => par_held hw0 hv
  obtain ⟨x0, x1, x2, x3⟩ := HPAR.out w0 (Below.refl _ _)
  have HCK := fun w => May_any k r c q w
  have HB0 : Hid (Below w.heap.size w w0) := b0
  have HV : Hid (RdI w ao n R) := hv
  clear hv b0
  unfold erF at hE
  rcases erP_cases k r c q with hx | hx
  · rw [erP_may hx] at HCK
    rw [hx, if_pos rfl] at hE
    obtain ⟨q1, q2⟩ := erP_rows hx
    obtain ⟨Q, rfl⟩ : ∃ Q : Nat, q = (Q : Int) := ⟨q.toNat, by omega⟩
    rw [Int.toNat_natCast]
    have HT : Hid (∀ v, Below w.heap.size w v → Calls Try.prog 29 #[.agg #[.int .i64 k, .int .i64 r, .int .i64 c, .int .i64 (Q : Int)], .slice ao n ca, .bool false] v fun e w' => ((E ≠ 0 ∧ e = .returned (.tuple #[.slice none 0 0, .int .i64 E])) ∨ (E = 0 ∧ ∃ g, e = .returned (.tuple #[.slice (some ⟨g, 0, none⟩) Q Q, .int .i64 0]) ∧ v.heap.size ≤ g ∧ Mrk w' g Q (inB n R))) ∧ Below v.heap.size v w') := fun v hb => marked_any k r c Q (by omega) v ao n ca R (HV.out.below hb) hn false E ((erMk_f _ _ _).trans hE)
    clear hx hE
    go_enter Try.func13, Try.ntmps13
    go_wp2_with fail
    rw [← hw0]
    refine (HCK _).mono ?_
    rintro e wa ⟨rfl, ha⟩
    have HBA : Hid (Below w0.heap.size w0 wa) := ha
    clear ha hw0 x0 x1 x2 x3 HCK
    obtain ⟨x0, x1, x2, x3⟩ := HPAR.out wa HBA.out
    go_wp2_with fail
    refine (HT.out _ (below_then HB0.out HBA.out)).mono ?_
    rintro e wb ⟨⟨h1, rfl⟩ | ⟨rfl, g, rfl, hg, hm⟩, hb⟩
    · have HBB : Hid (Below w.heap.size w wb) := below_then HB0.out (below_then HBA.out hb)
      clear hb HT x0 x1 x2 x3 HPAR
      go_wp2_with fail
      go_ret2
      exact ⟨ansR_no h1 rfl, HBB.out⟩
    · have HBB : Hid (Below w0.heap.size w0 wb) := below_then HBA.out hb
      have HM : Hid (Mrk wb g Q (inB n R)) := hm
      clear hb HT x0 x1 x2 x3 hg hm
      have HON : Hid (Own wb.heap.size wb none (cnt (nfB n R) 0) 0 (sel (nfB n R) 0)) := own_nil _ _ _
      go_wp2_with fail
      go_loopw [8, 9] (fun v x wr => ∃ (i : Nat) (ro : Option Addr) (rc : Nat), i ≤ Q ∧ x = .int .i64 (i : Int) ∧ v = .slice ro (cnt (nfB n R) i) rc ∧ Hid (Own wb.heap.size wr ro (cnt (nfB n R) i) rc (sel (nfB n R) i)) ∧ Hid (Below wb.heap.size wb wr)) (fun _ x _ => Q - (intOf x).toNat)
      case atStart => exact ⟨0, none, 0, Nat.zero_le _, rfl, rfl, HON, Below.refl _ _⟩
      case round =>
        obtain ⟨i, ro, rc, hi, rfl, rfl, hown, hbel⟩ := hrel
        obtain ⟨x0, x1, x2, x3⟩ := HPAR.out wr (below_then HBB.out hbel.out)
        by_cases hlt : i < Q
        · have hm := HM.out.below hbel.out
          have hcell := World.rowIs.cell hm hlt
          have i1 : (0 : Int) ≤ (i : Int) := by omega
          have i2 : (i : Int) < (Q : Int) := by omega
          have hcl := cnt_le (nfB n R) i
          cases hin : inB n R i
          · rw [hin] at hcell
            have hP : nfB n R i = true := by unfold nfB; rw [hin]; rfl
            have HC1 : Hid (cnt (nfB n R) (i + 1) = cnt (nfB n R) i + 1) := cnt_yes hP
            have HC2 : Hid (sel (nfB n R) (i + 1) = put (cnt (nfB n R) i) (i : Int) (sel (nfB n R) i)) := sel_yes hP
            obtain ⟨t, ht⟩ : ∃ t, t = cnt (nfB n R) i := ⟨_, rfl⟩
            obtain ⟨F, hF⟩ : ∃ F, F = sel (nfB n R) i := ⟨_, rfl⟩
            rw [← ht] at hown HC1 HC2 hcl
            rw [← hF] at hown HC2
            have HL : Hid (Vec (wr.alloc (.cells #[.int .i64 (i : Int)] 3)) (some ⟨wr.heap.size, 0, none⟩) 1 1 (fun _ => (i : Int))) := vec_lit wr _
            have HOA : Hid (Own wb.heap.size (wr.alloc (.cells #[.int .i64 (i : Int)] 3)) ro t rc F) := Own.below hown.out (below_alloc _ _)
            have HBA2 : Hid (Below wb.heap.size wb (wr.alloc (.cells #[.int .i64 (i : Int)] 3))) := below_then hbel.out (below_alloc _ _)
            have hsz := HBA2.out.size
            rw [← ht]
            clear hm hin hP ht hF
            go_wp2_with (at_builtin; refine wpList_append_more (by rfl) (.tmp 33) (.tmp 35) (by rfl) wb.heap.size t 1 rc 1 ro (some ⟨wr.heap.size, 0, none⟩) F (fun _ => (i : Int)) (by rfl) (by rfl) HOA.out HL.out (by omega) (by omega) hsz ?_; intro ao' c' w' hown' hgrow')
            have HB2 : Hid (Below wb.heap.size wb w') := HBA2.out.grown hgrow'.out hsz (fun r hr => (World.ownsRow.lt HOA.out r hr).1)
            have HO2 : Hid (Own wb.heap.size w' ao' (t + 1) c' (put t (i : Int) F)) := Own.congr hown'.out (app_one _ _ _)
            clear hown' hgrow'
            go_roundw
            case rel => exact ⟨i + 1, ao', c', by omega, by go_num, by rw [HC1.out], by show Own _ _ _ _ _ _; rw [HC1.out, HC2.out]; exact HO2.out, HB2⟩
            case measure => simp [intOf]; omega
          · rw [hin] at hcell
            have hP : nfB n R i = false := by unfold nfB; rw [hin]; rfl
            have HC1 : Hid (cnt (nfB n R) (i + 1) = cnt (nfB n R) i) := cnt_no hP
            have HC2 : Hid (sel (nfB n R) (i + 1) = sel (nfB n R) i) := sel_no hP
            obtain ⟨t, ht⟩ : ∃ t, t = cnt (nfB n R) i := ⟨_, rfl⟩
            obtain ⟨F, hF⟩ : ∃ F, F = sel (nfB n R) i := ⟨_, rfl⟩
            rw [← ht] at hown HC1 hcl
            rw [← hF] at hown HC2
            rw [← ht]
            clear hm hin hP ht hF
            go_wp2_with fail
            go_roundw
            case rel => exact ⟨i + 1, ro, rc, by omega, by go_num, by rw [HC1.out], by show Own _ _ _ _ _ _; rw [HC1.out, HC2.out]; exact hown.out, hbel⟩
            case measure => simp [intOf]; omega
        · obtain rfl : i = Q := by omega
          have HFX : Hid (AnsR w.heap.size wr (.returned (.tuple #[.slice ro (cnt (nfB n R) i) rc, .int .i64 0])) 0 (cnt (nfB n R) i) (sel (nfB n R) i) ∧ Below w.heap.size w wr) := by
            have hb9 := below_then HB0.out HBB.out
            exact ⟨⟨ro, rc, rfl, Own.mono hown.out hb9.size⟩, below_then hb9 hbel.out⟩
          clear hown hbel
          go_wp2_with fail
          go_ret2
          exact HFX.out
  · rw [not_may hx] at HCK
    rw [hx, if_neg (by decide)] at hE
    subst hE
    go_enter Try.func13, Try.ntmps13
    go_wp2_with fail
    rw [← hw0]
    refine (HCK _).mono ?_
    rintro e wa ⟨rfl, ha⟩
    clear hw0 x0 x1 x2 x3 HCK HPAR
    go_wp2_with fail
    go_ret2
    exact ⟨ansR_no (by decide) rfl, below_then HB0.out ha⟩
end Go.Proofs.Ytmncbeabhicbhaa
