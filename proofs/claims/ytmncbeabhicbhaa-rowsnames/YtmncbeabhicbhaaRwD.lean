/- Two lists in one; whether one list or two may be. -/
import Derived.Test.YtmncbeabhicbhaaRwB
import Derived.Lib.AppendZeros
namespace Go.Proofs.Ytmncbeabhicbhaa
open Go.RowKit

theorem zero_size3 (m n : Nat) : (Builtin.zeroCells (Value.int .i64 0).cells m ++ Builtin.zeroCells (Value.int .i64 0).cells n).size = (m + n) * 1 := by
  rw [Array.size_append, size_zeroCells, size_zeroCells]
  have : (Value.int .i64 0).cells.size = 1 := rfl
  rw [this]; omega
set_option maxHeartbeats 1000000 in
set_option maxRecDepth 100000 in
theorem growI_any (w : World) (n : Nat) (hn : n ≤ 400000) (R : Nat → Int) :
    Calls Try.prog 33 #[.slice none 0 0, .int .i64 (n : Int)] w fun e w' => ∃ ao cap, e = .returned (.slice ao 0 cap) ∧ Own w.heap.size w' ao 0 cap R ∧ Below w.heap.size w w' := by
  by_cases h0 : n = 0
  · subst h0
    go_enter Try.func33, Try.ntmps33
    go_wp2
    go_ret
    exact ⟨none, 0, rfl, own_nil _ _ _, Below.refl _ _⟩
  · obtain ⟨j0, hj, hj0, hj1, hj2⟩ := info_parts info3
    have hr := fun ty => Lib.run_append_nil_zeros (P := Try.prog) w 26 3 ty 3 j0 (.int .i64 0) .i64 .i64 Try.underlying26 Try.underlying3 hj hj0 n (by omega) (by rw [hj1]; decide) (by omega) (by rw [hj2]; omega)
    have hc1 := grownCap_ge w n 0 3
    have hc2 := grownCap_le_maxLen w n 0 3 (by unfold maxLen; omega)
    obtain ⟨cp, hcp⟩ : ∃ c, c = grownCap w n 0 3 := ⟨_, rfl⟩
    rw [← hcp] at hr hc1 hc2
    obtain ⟨w1, hw1⟩ : ∃ w1, w1 = w.drew.alloc (.cells (Builtin.zeroCells (Value.int .i64 0).cells n ++ Builtin.zeroCells (Value.int .i64 0).cells (cp - n)) 3) := ⟨_, rfl⟩
    rw [← hw1] at hr
    have HO : Hid (Own w.heap.size w1 (some ⟨w.heap.size, 0, none⟩) 0 cp R) := by
      refine ⟨rfl, .inr ⟨w.heap.size, cp, _, rfl, Nat.le_refl _, by rw [hw1]; exact heap_alloc_new w.drew _, Nat.zero_le _, hc2, ?_, by simp [zOf]⟩⟩
      rw [zero_size3, Nat.add_sub_cancel' hc1]
    have HB : Hid (Below w.heap.size w w1) := by rw [hw1]; exact (below_drew _ w).alloc (Nat.le_refl _) _
    clear hw1 hcp hj hj0 hj1 hj2 hc2
    have hpos : (0 : Int) < (n : Int) := by omega
    go_enter Try.func33, Try.ntmps33
    go_wp2_with (at_builtin; refine Lib.wpList_append_run _ (by rfl) (.tmp 20) (.tmp 21) 26 3 (by rfl) (.slice none 0 0) (.int .i64 (n : Int)) (by rfl) (by rfl) _ _ (hr _) ?_)
    go_ret
    exact ⟨_, _, rfl, HO.out, HB.out⟩
theorem app_zero {α : Type} (R S : Nat → α) : app 0 R S = S := by funext i; unfold app; rw [if_neg (by omega), Nat.sub_zero]
set_option maxHeartbeats 2000000 in
set_option maxRecDepth 100000 in
theorem concatI_any (w : World) (g : Nat) (po qo : Option Addr) (pl pc ql qc : Nat) (R S : Nat → Int) (c0 : w.cell? ⟨g, 0, none⟩ = some (.slice po pl pc)) (c1 : w.cell? ⟨g, 1, none⟩ = some (.slice qo ql qc))
    (hpl : pl ≤ 200000) (hql : ql ≤ 200000) (hp : Vec w po pl pc R) (hq : Vec w qo ql qc S) :
    Calls Try.prog 25 #[.slice (some ⟨g, 0, none⟩) 2 2] w fun e w' => ∃ ro rc, e = .returned (.slice ro (pl + ql) rc) ∧ Own w.heap.size w' ro (pl + ql) rc (app pl R S) ∧ Below w.heap.size w w' := by
  have HP : Hid (Vec w po pl pc R) := hp
  have HQ : Hid (Vec w qo ql qc S) := hq
  clear hp hq
  go_enter Try.func25, Try.ntmps25
  go_wp2
  go_loop [3, 11] (fun s x => (s = .int .i64 0 ∧ x = .int .i64 0) ∨ (s = .int .i64 (pl : Int) ∧ x = .int .i64 1) ∨ (s = .int .i64 ((pl : Int) + (ql : Int)) ∧ x = .int .i64 2)) (fun _ x => 2 - (intOf x).toNat)
  case atStart => exact .inl ⟨rfl, rfl⟩
  case round =>
    rcases hrel with ⟨rfl, rfl⟩ | ⟨rfl, rfl⟩ | ⟨rfl, rfl⟩
    · go_wp2
      go_round
      case rel => exact .inr (.inl ⟨by go_num, by go_num⟩)
      case measure => simp [intOf]
    · go_wp2
      go_round
      case rel => exact .inr (.inr ⟨by go_num, by go_num⟩)
      case measure => simp [intOf]
    · have HG := growI_any w (pl + ql) (by omega) R
      rw [Int.natCast_add] at HG
      go_wp2_with (go_at_call 33; refine HG.mono ?_; rintro e w1 ⟨ao, cap, rfl, hown, hb⟩)
      have HO1 : Hid (Own w.heap.size w1 ao 0 cap R) := hown
      have HB1 : Hid (Below w.heap.size w w1) := hb
      clear hown hb HG
      go_loopw [6, 27] (fun v x wr => (x = .int .i64 0 ∧ ∃ ao c, v = .slice ao 0 c ∧ Hid (Own w.heap.size wr ao 0 c R) ∧ Hid (Below w.heap.size w wr)) ∨ (x = .int .i64 1 ∧ ∃ ao c, v = .slice ao pl c ∧ Hid (Own w.heap.size wr ao pl c R) ∧ Hid (Below w.heap.size w wr))
        ∨ (x = .int .i64 2 ∧ ∃ ao c, v = .slice ao (pl + ql) c ∧ Hid (Own w.heap.size wr ao (pl + ql) c (app pl R S)) ∧ Hid (Below w.heap.size w wr))) (fun _ x _ => 2 - (intOf x).toNat)
      case atStart => exact .inl ⟨rfl, ao, cap, rfl, HO1, HB1⟩
      case round =>
        rcases hrel with ⟨rfl, ao, c, rfl, hown, hbel⟩ | ⟨rfl, ao, c, rfl, hown, hbel⟩ | ⟨rfl, ao, c, rfl, hown, hbel⟩
        · have d0 := held c0 hbel.out
          have hws := hbel.out.size
          have HL : Hid (Vec wr po pl pc R) := HP.out.below hbel.out
          go_wp2_with (at_builtin; refine wpList_append_more (by rfl) (.tmp 31) (.tmp 32) (by rfl) w.heap.size 0 pl c pc ao po R R (by rfl) (by rfl) hown.out HL.out (by omega) (by omega) hws ?_; intro ao' c' w' hown' hgrow')
          rw [Nat.zero_add, app_zero] at hown'
          have HB2 : Hid (Below w.heap.size w w') := hbel.out.grown hgrow'.out hws (fun r hr => (World.ownsRow.lt hown.out r hr).1)
          clear hgrow'
          go_roundw
          case rel => exact .inr (.inl ⟨by go_num, ao', c', rfl, hown', HB2⟩)
          case measure => simp [intOf]
        · have d0 := held c1 hbel.out
          have hws := hbel.out.size
          have HL : Hid (Vec wr qo ql qc S) := HQ.out.below hbel.out
          go_wp2_with (at_builtin; refine wpList_append_more (by rfl) (.tmp 31) (.tmp 32) (by rfl) w.heap.size pl ql c qc ao qo R S (by rfl) (by rfl) hown.out HL.out (by omega) (by omega) hws ?_; intro ao' c' w' hown' hgrow')
          have HB2 : Hid (Below w.heap.size w w') := hbel.out.grown hgrow'.out hws (fun r hr => (World.ownsRow.lt hown.out r hr).1)
          clear hgrow'
          go_roundw
          case rel => exact .inr (.inr ⟨by go_num, ao', c', rfl, hown', HB2⟩)
          case measure => simp [intOf]
        · go_wp2
          go_ret
          exact ⟨ao, c, rfl, hown.out, hbel.out⟩
theorem erH_any (q : Int) (n : Nat) (R : Nat → Int) : ∃ E, erH q n R = E := ⟨_, rfl⟩
theorem erP_cases (k r c q : Int) : erP k r c q = 0 ∨ erP k r c q = 2 := by unfold erP; split; exact .inl rfl; exact .inr rfl
set_option maxHeartbeats 2000000 in
set_option maxRecDepth 100000 in
/-- Whether one list may be. -/
theorem may1_any (k r c q : Int) (w : World) (g : Nat) (ao : Option Addr) (n ca : Nat) (R : Nat → Int) (c0 : w.cell? ⟨g, 0, none⟩ = some (.slice ao n ca)) (ha : RdI w ao n R) (la : n ≤ 200000) (E : Int) (hE : erM (erP k r c q) q n R = E) :
    Calls Try.prog 23 #[.agg #[.int .i64 k, .int .i64 r, .int .i64 c, .int .i64 q], .slice (some ⟨g, 0, none⟩) 1 1] w fun e w' => e = .returned (.int .i64 E) ∧ Below w.heap.size w w' := by
  obtain ⟨w0, hw0⟩ : ∃ w0, w0 = w.alloc (.cells #[.int .i64 k, .int .i64 r, .int .i64 c, .int .i64 q] 24) := ⟨_, rfl⟩
  have b0 : Below w.heap.size w w0 := by rw [hw0]; exact below_alloc _ _
  have HPAR : Hid (∀ v, Below w0.heap.size w0 v → v.cell? ⟨w.heap.size, 0, none⟩ = some (.int .i64 k) ∧ v.cell? ⟨w.heap.size, 1, none⟩ = some (.int .i64 r) ∧ v.cell? ⟨w.heap.size, 2, none⟩ = some (.int .i64 c) ∧ v.cell? ⟨w.heap.size, 3, none⟩ = some (.int .i64 q)) := fun v hv => par_held hw0 hv
  have HR : Hid (RdI w ao n R) := ha
  have HC0 : Hid (w.cell? ⟨g, 0, none⟩ = some (.slice ao n ca)) := c0
  clear c0 ha
  have HCK := fun w => Check_any k r c q w
  have HB0 : Hid (Below w.heap.size w w0) := b0
  clear b0
  obtain ⟨x0, x1, x2, x3⟩ := HPAR.out w0 (Below.refl _ _)
  rcases erP_cases k r c q with hx | hx
  · rw [hx] at hE HCK
    have hE' : Hid (erL q n R = E) := hE
    clear hx hE
    go_enter Try.func23, Try.ntmps23
    go_wp2_with fail
    rw [← hw0]
    refine (HCK _).mono ?_
    rintro e wa ⟨rfl, ha⟩
    have HBA : Hid (Below w0.heap.size w0 wa) := ha
    clear ha hw0 x0 x1 x2 x3 HCK
    go_wp2_with fail
    go_loopw [16] (fun x wr => (x = .int .i64 0 ∧ Hid (Below w0.heap.size w0 wr)) ∨ (x = .int .i64 1 ∧ Hid (erL q n R = 0 ∧ Below w0.heap.size w0 wr))) (fun x _ => 1 - (intOf x).toNat)
    case atStart => exact .inl ⟨rfl, HBA⟩
    case round =>
      rcases hrel with ⟨rfl, hbel⟩ | ⟨rfl, hbel⟩
      · obtain ⟨x0, x1, x2, x3⟩ := HPAR.out wr hbel.out
        have BW := below_then HB0.out hbel.out
        have d0 := held HC0.out BW
        have HL := HR.out.below BW
        obtain ⟨e1, he1⟩ := erH_any q n R
        have HT := there_any k r c q wr ao n ca R HL la e1 he1
        clear BW
        rcases erL_cases q n R with ⟨h1, h2⟩ | ⟨h1, h3, h2⟩ | ⟨h1, h3, h2⟩
        · have hne : e1 ≠ 0 := by rw [← he1]; exact h1
          have h5 : Hid (E = e1) := by show _ = _; rw [← hE'.out, h2, he1]
          clear h1 h2 he1
          go_wp2_with fail
          refine HT.mono ?_
          rintro e wb ⟨rfl, hb⟩
          have HBB := below_then hbel.out hb
          clear hb HT
          go_wp2_with fail
          go_ret
          exact ⟨ret_int h5.out.symm, below_then HB0.out HBB⟩
        · obtain rfl : e1 = 0 := by rw [← he1, h1]
          have h5 : Hid (erL q n R = 0) := by show _ = _; exact h2
          have HRS := fun v hl => rise_of v ao n ca R hl (by omega)
          rw [h3] at HRS
          clear h1 h2 he1 h3
          go_wp2_with fail
          refine HT.mono ?_
          rintro e wb ⟨rfl, hb⟩
          have HBB : Hid (Below w0.heap.size w0 wb) := below_then hbel.out hb
          have HLB := HL.below hb
          clear hb HT
          go_wp2_with fail
          refine (HRS wb HLB).mono ?_
          rintro e wc ⟨rfl, q', rfl⟩
          have HBC : Hid (Below w0.heap.size w0 (wb.drewN q')) := below_then HBB.out (below_drewN _ _ _)
          clear HRS
          go_wp2_with fail
          go_roundw
          case rel => exact .inr ⟨by go_num, h5.out, HBC.out⟩
          case measure => simp [intOf]
        · obtain rfl : e1 = 0 := by rw [← he1, h1]
          have h5 : Hid (E = 200) := by show _ = _; rw [← hE'.out, h2]
          have HRS := fun v hl => rise_of v ao n ca R hl (by omega)
          rw [h3] at HRS
          clear h1 h2 he1 h3
          go_wp2_with fail
          refine HT.mono ?_
          rintro e wb ⟨rfl, hb⟩
          have HBB : Hid (Below w0.heap.size w0 wb) := below_then hbel.out hb
          have HLB := HL.below hb
          clear hb HT
          go_wp2_with fail
          refine (HRS wb HLB).mono ?_
          rintro e wc ⟨rfl, q', rfl⟩
          have HBC : Hid (Below w0.heap.size w0 (wb.drewN q')) := below_then HBB.out (below_drewN _ _ _)
          clear HRS
          go_wp2_with fail
          go_ret
          exact ⟨ret_int h5.out.symm, below_then HB0.out HBC.out⟩
      · have h6 : Hid (0 = E) := by show _ = _; rw [← hE'.out, hbel.out.1]
        go_wp2_with fail
        go_ret
        exact ⟨ret_int h6.out, below_then HB0.out hbel.out.2⟩
  · rw [hx] at hE HCK
    have hE' : Hid (2 = E) := hE
    clear hx hE
    go_enter Try.func23, Try.ntmps23
    go_wp2_with fail
    rw [← hw0]
    refine (HCK _).mono ?_
    rintro e wa ⟨rfl, ha⟩
    clear hw0 x0 x1 x2 x3 HCK
    go_wp2_with fail
    go_ret
    exact ⟨ret_int hE'.out, below_then HB0.out ha⟩
set_option maxHeartbeats 2000000 in
set_option maxRecDepth 100000 in
/-- Whether two lists may be. -/
theorem may2_any (k r c q : Int) (w : World) (g : Nat) (ao : Option Addr) (n ca : Nat) (R : Nat → Int) (c0 : w.cell? ⟨g, 0, none⟩ = some (.slice ao n ca)) (ha : RdI w ao n R) (la : n ≤ 200000) (bo : Option Addr) (m cb : Nat) (S : Nat → Int) (c1 : w.cell? ⟨g, 1, none⟩ = some (.slice bo m cb)) (hb : RdI w bo m S) (lb : m ≤ 200000) (E : Int) (hE : er2M (erP k r c q) q n R m S = E) :
    Calls Try.prog 23 #[.agg #[.int .i64 k, .int .i64 r, .int .i64 c, .int .i64 q], .slice (some ⟨g, 0, none⟩) 2 2] w fun e w' => e = .returned (.int .i64 E) ∧ Below w.heap.size w w' := by
  obtain ⟨w0, hw0⟩ : ∃ w0, w0 = w.alloc (.cells #[.int .i64 k, .int .i64 r, .int .i64 c, .int .i64 q] 24) := ⟨_, rfl⟩
  have b0 : Below w.heap.size w w0 := by rw [hw0]; exact below_alloc _ _
  have HPAR : Hid (∀ v, Below w0.heap.size w0 v → v.cell? ⟨w.heap.size, 0, none⟩ = some (.int .i64 k) ∧ v.cell? ⟨w.heap.size, 1, none⟩ = some (.int .i64 r) ∧ v.cell? ⟨w.heap.size, 2, none⟩ = some (.int .i64 c) ∧ v.cell? ⟨w.heap.size, 3, none⟩ = some (.int .i64 q)) := fun v hv => par_held hw0 hv
  have HR : Hid (RdI w ao n R) := ha
  have HC0 : Hid (w.cell? ⟨g, 0, none⟩ = some (.slice ao n ca)) := c0
  have HS : Hid (RdI w bo m S) := hb
  have HC1 : Hid (w.cell? ⟨g, 1, none⟩ = some (.slice bo m cb)) := c1
  clear c0 ha c1 hb
  have HCK := fun w => Check_any k r c q w
  have HB0 : Hid (Below w.heap.size w w0) := b0
  clear b0
  obtain ⟨x0, x1, x2, x3⟩ := HPAR.out w0 (Below.refl _ _)
  rcases erP_cases k r c q with hx | hx
  · rw [hx] at hE HCK
    have hE' : Hid ((if erL q n R = 0 then erL q m S else erL q n R) = E) := hE
    clear hx hE
    go_enter Try.func23, Try.ntmps23
    go_wp2_with fail
    rw [← hw0]
    refine (HCK _).mono ?_
    rintro e wa ⟨rfl, ha⟩
    have HBA : Hid (Below w0.heap.size w0 wa) := ha
    clear ha hw0 x0 x1 x2 x3 HCK
    go_wp2_with fail
    go_loopw [16] (fun x wr => (x = .int .i64 0 ∧ Hid (Below w0.heap.size w0 wr)) ∨ (x = .int .i64 1 ∧ Hid (erL q n R = 0 ∧ Below w0.heap.size w0 wr)) ∨ (x = .int .i64 2 ∧ Hid (erL q n R = 0 ∧ erL q m S = 0 ∧ Below w0.heap.size w0 wr))) (fun x _ => 2 - (intOf x).toNat)
    case atStart => exact .inl ⟨rfl, HBA⟩
    case round =>
      rcases hrel with ⟨rfl, hbel⟩ | ⟨rfl, hbel⟩ | ⟨rfl, hbel⟩
      · obtain ⟨x0, x1, x2, x3⟩ := HPAR.out wr hbel.out
        have BW := below_then HB0.out hbel.out
        have d0 := held HC0.out BW
        have HL := HR.out.below BW
        obtain ⟨e1, he1⟩ := erH_any q n R
        have HT := there_any k r c q wr ao n ca R HL la e1 he1
        clear BW
        rcases erL_cases q n R with ⟨h1, h2⟩ | ⟨h1, h3, h2⟩ | ⟨h1, h3, h2⟩
        · have hne : e1 ≠ 0 := by rw [← he1]; exact h1
          have h5 : Hid (E = e1) := by show _ = _; rw [← hE'.out, if_neg (by rw [h2]; exact h1), h2, he1]
          clear h1 h2 he1
          go_wp2_with fail
          refine HT.mono ?_
          rintro e wb ⟨rfl, hb⟩
          have HBB := below_then hbel.out hb
          clear hb HT
          go_wp2_with fail
          go_ret
          exact ⟨ret_int h5.out.symm, below_then HB0.out HBB⟩
        · obtain rfl : e1 = 0 := by rw [← he1, h1]
          have h5 : Hid (erL q n R = 0) := by show _ = _; exact h2
          have HRS := fun v hl => rise_of v ao n ca R hl (by omega)
          rw [h3] at HRS
          clear h1 h2 he1 h3
          go_wp2_with fail
          refine HT.mono ?_
          rintro e wb ⟨rfl, hb⟩
          have HBB : Hid (Below w0.heap.size w0 wb) := below_then hbel.out hb
          have HLB := HL.below hb
          clear hb HT
          go_wp2_with fail
          refine (HRS wb HLB).mono ?_
          rintro e wc ⟨rfl, q', rfl⟩
          have HBC : Hid (Below w0.heap.size w0 (wb.drewN q')) := below_then HBB.out (below_drewN _ _ _)
          clear HRS
          go_wp2_with fail
          go_roundw
          case rel => exact .inr (.inl ⟨by go_num, h5.out, HBC.out⟩)
          case measure => simp [intOf]
        · obtain rfl : e1 = 0 := by rw [← he1, h1]
          have h5 : Hid (E = 200) := by show _ = _; rw [← hE'.out, if_neg (by rw [h2]; decide), h2]
          have HRS := fun v hl => rise_of v ao n ca R hl (by omega)
          rw [h3] at HRS
          clear h1 h2 he1 h3
          go_wp2_with fail
          refine HT.mono ?_
          rintro e wb ⟨rfl, hb⟩
          have HBB : Hid (Below w0.heap.size w0 wb) := below_then hbel.out hb
          have HLB := HL.below hb
          clear hb HT
          go_wp2_with fail
          refine (HRS wb HLB).mono ?_
          rintro e wc ⟨rfl, q', rfl⟩
          have HBC : Hid (Below w0.heap.size w0 (wb.drewN q')) := below_then HBB.out (below_drewN _ _ _)
          clear HRS
          go_wp2_with fail
          go_ret
          exact ⟨ret_int h5.out.symm, below_then HB0.out HBC.out⟩
      · obtain ⟨x0, x1, x2, x3⟩ := HPAR.out wr hbel.out.2
        have BW := below_then HB0.out hbel.out.2
        have d0 := held HC1.out BW
        have HL := HS.out.below BW
        obtain ⟨e1, he1⟩ := erH_any q m S
        have HT := there_any k r c q wr bo m cb S HL lb e1 he1
        clear BW
        rcases erL_cases q m S with ⟨h1, h2⟩ | ⟨h1, h3, h2⟩ | ⟨h1, h3, h2⟩
        · have hne : e1 ≠ 0 := by rw [← he1]; exact h1
          have h5 : Hid (E = e1) := by show _ = _; rw [← hE'.out, if_pos hbel.out.1, h2, he1]
          clear h1 h2 he1
          go_wp2_with fail
          refine HT.mono ?_
          rintro e wb ⟨rfl, hb⟩
          have HBB := below_then hbel.out.2 hb
          clear hb HT
          go_wp2_with fail
          go_ret
          exact ⟨ret_int h5.out.symm, below_then HB0.out HBB⟩
        · obtain rfl : e1 = 0 := by rw [← he1, h1]
          have h5 : Hid (erL q m S = 0) := by show _ = _; exact h2
          have HRS := fun v hl => rise_of v bo m cb S hl (by omega)
          rw [h3] at HRS
          clear h1 h2 he1 h3
          go_wp2_with fail
          refine HT.mono ?_
          rintro e wb ⟨rfl, hb⟩
          have HBB : Hid (Below w0.heap.size w0 wb) := below_then hbel.out.2 hb
          have HLB := HL.below hb
          clear hb HT
          go_wp2_with fail
          refine (HRS wb HLB).mono ?_
          rintro e wc ⟨rfl, q', rfl⟩
          have HBC : Hid (Below w0.heap.size w0 (wb.drewN q')) := below_then HBB.out (below_drewN _ _ _)
          clear HRS
          go_wp2_with fail
          go_roundw
          case rel => exact .inr (.inr ⟨by go_num, hbel.out.1, h5.out, HBC.out⟩)
          case measure => simp [intOf]
        · obtain rfl : e1 = 0 := by rw [← he1, h1]
          have h5 : Hid (E = 200) := by show _ = _; rw [← hE'.out, if_pos hbel.out.1, h2]
          have HRS := fun v hl => rise_of v bo m cb S hl (by omega)
          rw [h3] at HRS
          clear h1 h2 he1 h3
          go_wp2_with fail
          refine HT.mono ?_
          rintro e wb ⟨rfl, hb⟩
          have HBB : Hid (Below w0.heap.size w0 wb) := below_then hbel.out.2 hb
          have HLB := HL.below hb
          clear hb HT
          go_wp2_with fail
          refine (HRS wb HLB).mono ?_
          rintro e wc ⟨rfl, q', rfl⟩
          have HBC : Hid (Below w0.heap.size w0 (wb.drewN q')) := below_then HBB.out (below_drewN _ _ _)
          clear HRS
          go_wp2_with fail
          go_ret
          exact ⟨ret_int h5.out.symm, below_then HB0.out HBC.out⟩
      · have h6 : Hid (0 = E) := by show _ = _; rw [← hE'.out, if_pos hbel.out.1, hbel.out.2.1]
        go_wp2_with fail
        go_ret
        exact ⟨ret_int h6.out, below_then HB0.out hbel.out.2.2⟩
  · rw [hx] at hE HCK
    have hE' : Hid (2 = E) := hE
    clear hx hE
    go_enter Try.func23, Try.ntmps23
    go_wp2_with fail
    rw [← hw0]
    refine (HCK _).mono ?_
    rintro e wa ⟨rfl, ha⟩
    clear hw0 x0 x1 x2 x3 HCK
    go_wp2_with fail
    go_ret
    exact ⟨ret_int hE'.out, below_then HB0.out ha⟩
end Go.Proofs.Ytmncbeabhicbhaa
