/- What Join, Below and Unlike of the program answer. -/
import Derived.Test.YtkoblkkigmnocaaVecD
namespace Go.Proofs.Ytkoblkkigmnocaa
open Go.RowKit

def boolV (F : Nat → Bool) (k i : Nat) : Value := if i < k then .bool (F i) else .bool false
theorem boolV_step (F : Nat → Bool) (k i : Nat) : (if i = k then .bool (F k) else boolV F k i) = boolV F (k + 1) i := by
  unfold boolV
  by_cases e : i = k
  · subst e; rw [if_pos rfl, if_pos (by omega)]
  · rw [if_neg e]
    by_cases h : i < k
    · rw [if_pos h, if_pos (by omega)]
    · rw [if_neg h, if_neg (by omega)]
set_option maxHeartbeats 1000000 in
set_option maxRecDepth 100000 in
theorem paired_bool (w : World) (ao bo : Option Addr) (n ca cb fn : Nat) (A B : Nat → Int) (F : Nat → Bool) (hn : n ≤ 1000) (hfn : ∀ xs w, (callFunc fn xs).run Try.prog w = .ok (.enter fn xs) w) (ha : RdI w ao n A) (hb : RdI w bo n B) (hf : RuleT fn n A B F) :
    Calls Try.prog 37 #[.slice ao n ca, .slice bo n cb, .func (.func fn) #[] #[]] w fun e w' => ∃ g, e = .returned (.slice (some ⟨g, 0, none⟩) n n) ∧ w'.rowIs g 4 n (fun i => .bool (F i)) ∧ Below w.heap.size w w' := by
  have HA : Hid (RdI w ao n A) := ha
  have HB : Hid (RdI w bo n B) := hb
  have HF : Hid (RuleT fn n A B F) := hf
  have hm := run_make_row' (P := Try.prog) 43 4 (.bool false) 1 Try.underlying43 info4 rfl .i64 .i64 n (by omega) (by omega)
  clear ha hb hf
  go_enter Try.func37, Try.ntmps37
  go_wp2
  go_loopw [15] (fun x wr => ∃ i : Nat, i ≤ n ∧ x = .int .i64 i ∧ Hid (wr.rowIs w.heap.size 4 n (boolV F i)) ∧ Hid (Below w.heap.size w wr)) (fun x _ => n - (intOf x).toNat)
  case atStart => exact ⟨0, Nat.zero_le _, rfl, (World.rowIs_made w _ n 4).congr (fun i _ => by unfold boolV; rw [if_neg (by omega)]), (Below.refl _ _).alloc (Nat.le_refl _) _⟩
  case round =>
    obtain ⟨i, hi, rfl, hrow, hbel⟩ := hrel
    by_cases hlt : i < n
    · obtain ⟨b, off, rfl, hc⟩ := (HA.out) (by omega)
      obtain ⟨b', off', rfl, hc'⟩ := (HB.out) (by omega)
      have ck := held (hc i hlt) hbel.out
      have ck' := held (hc' i hlt) hbel.out
      have HC := HF.out i hlt
      have c1 := hrow.out.cell hlt
      have z1 := hrow.out.frozen i
      clear hc hc'
      have i1 : (0 : Int) ≤ (i : Int) := by omega
      have i2 : (i : Int) < (n : Int) := by omega
      go_wp2_with fail
      refine (HC _).mono ?_
      rintro e w' ⟨rfl, rfl⟩
      have HO2 : Hid ((w'.setCell ⟨w.heap.size, i, none⟩ (.bool (F i))).rowIs w.heap.size 4 n (boolV F (i + 1))) := (hrow.out.set i (.bool (F i))).congr (fun j _ => boolV_step F i j)
      have HK2 : Hid (Below w.heap.size w (w'.setCell ⟨w.heap.size, i, none⟩ (.bool (F i)))) := hbel.out.setCell (Nat.le_refl _) _
      go_wp2
      go_roundw
      case rel => exact ⟨i + 1, by omega, by go_num, HO2.out, HK2.out⟩
      case measure => simp [intOf]; omega
    · obtain rfl : i = n := by omega
      go_wp2
      go_ret
      exact ⟨_, rfl, hrow.out.congr (fun j hj => by unfold boolV; rw [if_pos hj]), hbel.out⟩
set_option maxHeartbeats 1000000 in
set_option maxRecDepth 100000 in
theorem contains_true (w : World) (g n ca : Nat) (F : Nat → Bool) (hn : n ≤ 1000) (hr : w.rowIs g 4 n (fun i => .bool (F i))) :
    Calls Try.prog 39 #[.slice (some ⟨g, 0, none⟩) n ca, .bool true] w fun e w' => e = .returned (.bool (anyB n F)) ∧ w' = w := by
  have HX : Calls Try.prog 49 #[.slice (some ⟨g, 0, none⟩) n ca, .bool true] w fun e w' => ∃ x : Int, e = .returned (.int .i64 x) ∧ decide (0 ≤ x) = anyB n F ∧ w' = w := by
    have HR : Hid (w.rowIs g 4 n (fun i => .bool (F i))) := hr
    clear hr
    by_cases hall : ∀ i, i < n → F i = false
    · have HB : Hid (anyB n F = false) := by show _ = _; unfold anyB; rw [decide_eq_true hall]; rfl
      have HA : Hid (∀ i, i < n → F i = false) := hall
      clear hall
      go_enter Try.func49, Try.ntmps49
      go_wp2
      go_loop [8] (fun x => ∃ i : Nat, i ≤ n ∧ x = .int .i64 i) (fun x => n - (intOf x).toNat)
      case atStart => exact ⟨0, Nat.zero_le _, rfl⟩
      case round =>
        obtain ⟨i, hi, rfl⟩ := hrel
        by_cases hlt : i < n
        · have ck := HR.out.cell hlt
          rw [HA.out i hlt] at ck
          have i1 : (0 : Int) ≤ (i : Int) := by omega
          have i2 : (i : Int) < (n : Int) := by omega
          go_wp2
          go_round
          case rel => exact ⟨i + 1, by omega, by go_num⟩
          case measure => simp [intOf]; omega
        · go_wp2
          go_ret
          exact ⟨_, rfl, by rw [HB.out]; rfl, rfl⟩
    · have HB : Hid (anyB n F = true) := by show _ = _; unfold anyB; rw [decide_eq_false hall]; rfl
      obtain ⟨q, hq, hne, heq⟩ := first_not hall
      have HE : Hid (∀ j, j < q → F j = false) := heq
      have HN : Hid (F q = true) := by show _ = _; cases h : F q; exact absurd h hne; rfl
      clear hall hne heq
      go_enter Try.func49, Try.ntmps49
      go_wp2
      go_loop [8] (fun x => ∃ i : Nat, i ≤ q ∧ x = .int .i64 i) (fun x => n - (intOf x).toNat)
      case atStart => exact ⟨0, Nat.zero_le _, rfl⟩
      case round =>
        obtain ⟨i, hi, rfl⟩ := hrel
        have hlt : i < n := by omega
        have ck := HR.out.cell hlt
        have i1 : (0 : Int) ≤ (i : Int) := by omega
        have i2 : (i : Int) < (n : Int) := by omega
        by_cases hiq : i < q
        · rw [HE.out i hiq] at ck
          go_wp2
          go_round
          case rel => exact ⟨i + 1, by omega, by go_num⟩
          case measure => simp [intOf]; omega
        · obtain rfl : i = q := by omega
          rw [HN.out] at ck
          go_wp2
          go_ret
          exact ⟨_, rfl, by rw [HB.out]; simp, rfl⟩
  clear hr
  go_enter Try.func39, Try.ntmps39
  go_wp2_with (go_at_call 49; refine HX.mono ?_; rintro e w' ⟨x, rfl, hx, rfl⟩)
  go_ret
  exact ⟨by rw [← hx]; rfl, rfl⟩
theorem any_le (n : Nat) (A B : Nat → Int) : (!anyB n fun i => decide (B i < A i)) = leB n A B := by
  unfold anyB leB
  rw [Bool.not_not]
  apply decide_eq_decide.2
  constructor
  · intro h i hi
    have := of_decide_eq_false (h i hi)
    omega
  · intro h i hi
    have := h i hi
    exact decide_eq_false (by omega)

/-- A list of its own and an error. -/
def Ans (w : World) (E : Int) (n : Nat) (F : Nat → Int) (e : Ending) (w' : World) : Prop :=
  ∃ ao cap, e = .returned (.tuple #[.slice ao (lenE E n) cap, .int .i64 E]) ∧ Own w.heap.size w' ao (lenE E n) cap F ∧ Below w.heap.size w w'
set_option maxHeartbeats 1000000 in
set_option maxRecDepth 100000 in
theorem Join_any {k r c q : Int} {N W : Nat} {x : Int} (h : Par k r c q N W x) (w : World) (ao bo : Option Addr) (n ca m cb : Nat) (A B : Nat → Int) (hv : Vec w ao n ca A) (hv' : Vec w bo m cb B) (hn : n ≤ 1000) (hm : m ≤ 1000) (E : Int) (hE : er2 x N n A m B = E) :
    Calls Try.prog 13 #[.agg #[.int .i64 k, .int .i64 r, .int .i64 c, .int .i64 q], .slice ao n ca, .slice bo m cb] w (Ans w E n (joi A B)) := by
  have HC := fun w (hv : Vec w ao n ca A) (hv' : Vec w bo m cb B) => both_any h w ao bo n ca m cb A B hv hv' hn hm
  rw [hE] at HC
  have HV : Hid (Vec w ao n ca A) := hv
  have HV' : Hid (Vec w bo m cb B) := hv'
  clear hv hv' h
  obtain ⟨w0, hw0⟩ : ∃ w0, w0 = w.alloc (.cells #[.int .i64 k, .int .i64 r, .int .i64 c, .int .i64 q] 24) := ⟨_, rfl⟩
  have b0 : Below w.heap.size w w0 := by rw [hw0]; exact below_alloc _ _
  by_cases h1 : E = 0
  · subst h1
    obtain ⟨h2, h3⟩ := er2_of hE
    obtain ⟨rfl, rfl, h4⟩ := erV_of h2
    obtain ⟨_, rfl, h5⟩ := erV_of h3
    unfold Ans
    rw [lenE_zero]
    clear hE h2 h3 h4 h5
    have HP := fun w (ha : RdI w ao m A) (hb : RdI w bo m B) => paired_int w ao bo m ca cb 36 A B (joi A B) hn (fun _ _ => rfl) ha hb (fun i _ w => join1_any (A i) (B i) w)
    go_enter Try.func13, Try.ntmps13
    go_wp2_with fail
    rw [← hw0]
    refine (HC _ (HV.out.below b0) (HV'.out.below b0)).mono ?_
    rintro e wa ⟨rfl, ha⟩
    have hb := below_then b0 ha
    clear hw0
    go_wp2_with fail
    refine (HP _ (HV.out.below hb).rd (HV'.out.below hb).rd).mono ?_
    rintro e wb ⟨g, cap, rfl, hown, hb2⟩
    go_wp2_with fail
    go_ret2
    exact ⟨_, _, rfl, hown.mono hb.size, below_then hb hb2⟩
  · have hne : (E != 0) = true := by simpa using h1
    unfold Ans
    rw [lenE_ne _ h1]
    clear hE h1
    go_enter Try.func13, Try.ntmps13
    go_wp2_with fail
    rw [← hw0]
    refine (HC _ (HV.out.below b0) (HV'.out.below b0)).mono ?_
    rintro e wa ⟨rfl, ha⟩
    have hb := below_then b0 ha
    clear hw0
    go_wp2_with fail
    go_ret2
    exact ⟨_, _, rfl, own_nil _ _ _, hb⟩
/-- A truth value and an error. -/
def TellB (w : World) (E : Int) (b : Bool) (e : Ending) (w' : World) : Prop := e = .returned (.tuple #[.bool (decide (E = 0) && b), .int .i64 E]) ∧ Below w.heap.size w w'
set_option maxHeartbeats 1000000 in
set_option maxRecDepth 100000 in
theorem Below_any {k r c q : Int} {N W : Nat} {x : Int} (h : Par k r c q N W x) (w : World) (ao bo : Option Addr) (n ca m cb : Nat) (A B : Nat → Int) (hv : Vec w ao n ca A) (hv' : Vec w bo m cb B) (hn : n ≤ 1000) (hm : m ≤ 1000) (E : Int) (hE : er2 x N n A m B = E) :
    Calls Try.prog 14 #[.agg #[.int .i64 k, .int .i64 r, .int .i64 c, .int .i64 q], .slice ao n ca, .slice bo m cb] w (TellB w E (leB n A B)) := by
  have HC := fun w (hv : Vec w ao n ca A) (hv' : Vec w bo m cb B) => both_any h w ao bo n ca m cb A B hv hv' hn hm
  rw [hE] at HC
  have HV : Hid (Vec w ao n ca A) := hv
  have HV' : Hid (Vec w bo m cb B) := hv'
  clear hv hv' h
  obtain ⟨w0, hw0⟩ : ∃ w0, w0 = w.alloc (.cells #[.int .i64 k, .int .i64 r, .int .i64 c, .int .i64 q] 24) := ⟨_, rfl⟩
  have b0 : Below w.heap.size w w0 := by rw [hw0]; exact below_alloc _ _
  unfold TellB
  by_cases h1 : E = 0
  · subst h1
    obtain ⟨h2, h3⟩ := er2_of hE
    obtain ⟨rfl, rfl, h4⟩ := erV_of h2
    obtain ⟨_, rfl, h5⟩ := erV_of h3
    rw [show decide ((0 : Int) = 0) = true from rfl, Bool.true_and, ← any_le]
    clear hE h2 h3 h4 h5
    have HP := fun w (ha : RdI w ao m A) (hb : RdI w bo m B) => paired_bool w ao bo m ca cb 38 A B (fun i => decide (B i < A i)) hn (fun _ _ => rfl) ha hb (fun i _ w => below1_any (A i) (B i) w)
    have HT := fun w g => contains_true w g m m (fun i => decide (B i < A i)) hn
    generalize (fun i => decide (B i < A i)) = F at *
    go_enter Try.func14, Try.ntmps14
    go_wp2_with fail
    rw [← hw0]
    refine (HC _ (HV.out.below b0) (HV'.out.below b0)).mono ?_
    rintro e wa ⟨rfl, ha⟩
    have hb := below_then b0 ha
    clear hw0
    go_wp2_with fail
    refine (HP _ (HV.out.below hb).rd (HV'.out.below hb).rd).mono ?_
    rintro e wb ⟨g, rfl, hrow, hb2⟩
    go_wp2_with fail
    refine (HT _ g hrow).mono ?_
    rintro e wc ⟨rfl, rfl⟩
    go_wp2_with fail
    go_ret2
    exact ⟨rfl, below_then hb hb2⟩
  · have hne : (E != 0) = true := by simpa using h1
    rw [decide_eq_false h1, Bool.false_and]
    clear hE h1
    go_enter Try.func14, Try.ntmps14
    go_wp2_with fail
    rw [← hw0]
    refine (HC _ (HV.out.below b0) (HV'.out.below b0)).mono ?_
    rintro e wa ⟨rfl, ha⟩
    have hb := below_then b0 ha
    clear hw0
    go_wp2_with fail
    go_ret2
    exact ⟨rfl, hb⟩
set_option maxHeartbeats 1000000 in
set_option maxRecDepth 100000 in
theorem Unlike_any {k r c q : Int} {N W : Nat} {x : Int} (h : Par k r c q N W x) (w : World) (ao bo : Option Addr) (n ca m cb : Nat) (A B : Nat → Int) (hv : Vec w ao n ca A) (hv' : Vec w bo m cb B) (hn : n ≤ 1000) (hm : m ≤ 1000) (E : Int) (hE : er2 x N n A m B = E) :
    Calls Try.prog 15 #[.agg #[.int .i64 k, .int .i64 r, .int .i64 c, .int .i64 q], .slice ao n ca, .slice bo m cb] w (Ans w E (cnt (dif A B) n) (sel (dif A B) n)) := by
  have HC := fun w (hv : Vec w ao n ca A) (hv' : Vec w bo m cb B) => both_any h w ao bo n ca m cb A B hv hv' hn hm
  rw [hE] at HC
  have HV : Hid (Vec w ao n ca A) := hv
  have HV' : Hid (Vec w bo m cb B) := hv'
  clear hv hv' h
  obtain ⟨w0, hw0⟩ : ∃ w0, w0 = w.alloc (.cells #[.int .i64 k, .int .i64 r, .int .i64 c, .int .i64 q] 24) := ⟨_, rfl⟩
  have b0 : Below w.heap.size w w0 := by rw [hw0]; exact below_alloc _ _
  obtain ⟨i0, hi, hi0, hi1, hi2⟩ := info_parts info3
  by_cases h1 : E = 0
  · subst h1
    obtain ⟨h2, h3⟩ := er2_of hE
    obtain ⟨rfl, rfl, h4⟩ := erV_of h2
    obtain ⟨_, rfl, h5⟩ := erV_of h3
    unfold Ans
    rw [lenE_zero]
    clear hE h2 h3 h4 h5
    have HP := fun w (ha : RdI w ao m A) (hb : RdI w bo m B) => paired_bool w ao bo m ca cb 40 A B (dif A B) hn (fun _ _ => rfl) ha hb (fun i _ w => unlike1_any (A i) (B i) w)
    generalize dif A B = F at *
    go_enter Try.func15, Try.ntmps15
    go_wp2_with fail
    rw [← hw0]
    refine (HC _ (HV.out.below b0) (HV'.out.below b0)).mono ?_
    rintro e wa ⟨rfl, ha⟩
    have hb := below_then b0 ha
    clear hw0
    go_wp2_with fail
    refine (HP _ (HV.out.below hb).rd (HV'.out.below hb).rd).mono ?_
    rintro e wb ⟨g, rfl, hrow, hb2⟩
    have HROW : Hid (wb.rowIs g 4 m (fun i => .bool (F i))) := hrow
    have HWB : Hid (Below w.heap.size w wb) := below_then hb hb2
    clear hrow hb hb2 ha HC HP b0
    go_wp2_with fail
    go_loopw [9, 23] (fun v x wr => ∃ i : Nat, i ≤ m ∧ x = .int .i64 i ∧ (∃ ao cap, v = .slice ao (cnt F i) cap) ∧ Hid (wr.ownsRow wb.heap.size 3 1 v (cnt F i) (zOf (cnt F i) (sel F i))) ∧ Hid (Below wb.heap.size wb wr)) (fun _ x _ => m - (intOf x).toNat)
    case atStart => exact ⟨0, Nat.zero_le _, rfl, ⟨none, 0, rfl⟩, World.ownsRow_nil _ _ _ _, Below.refl _ _⟩
    case round =>
      obtain ⟨i, him, rfl, ⟨ro, cap, rfl⟩, hown, hbel⟩ := hrel
      by_cases hlt : i < m
      · have ck := held (HROW.out.cell hlt) hbel.out
        have i1 : (0 : Int) ≤ (i : Int) := by omega
        have i2 : (i : Int) < (m : Int) := by omega
        cases hf : F i
        · simp only [hf] at ck
          have HS : Hid (cnt F (i + 1) = cnt F i ∧ sel F (i + 1) = sel F i) := ⟨cnt_no hf, sel_no hf⟩
          clear hf
          go_wp2
          go_roundw
          case rel => exact ⟨i + 1, by omega, by go_num, ⟨ro, cap, by rw [HS.out.1]⟩, by rw [HS.out.1, HS.out.2]; exact hown, hbel⟩
          case measure => simp [intOf]; omega
        · simp only [hf] at ck
          obtain ⟨ct, hct⟩ : ∃ ct, ct = cnt F i := ⟨_, rfl⟩
          obtain ⟨XS, hXS⟩ : ∃ XS, XS = zOf ct (sel F i) := ⟨_, rfl⟩
          have hws := hbel.out.size
          have hcti : ct ≤ i := by rw [hct]; exact cnt_le F i
          have HOW : Hid (∀ o, (wr.alloc o).ownsRow wb.heap.size 3 1 (.slice ro ct cap) ct XS) := fun o => by rw [hXS, hct]; exact hown.out.alloc o
          have HXS : Hid (XS ++ [.int .i64 (i : Int)] = zOf (cnt F (i + 1)) (sel F (i + 1))) := by show _ = _; rw [cnt_yes hf, sel_yes hf, zOf_put, hXS, hct]
          have HCT : Hid (cnt F (i + 1) = ct + 1) := by show _ = _; rw [cnt_yes hf, hct]
          rw [← hct]
          clear hf hct hXS
          go_wp2_with (at_builtin; refine wpList_append_lies _ (by rfl) (.tmp 29) (.tmp 31) 26 (by rfl) wb.heap.size 3 i0 (.int .i64 0) 1 8 Try.underlying26 hi hi0 hi1 hi2 (by rfl) (by decide) (.slice ro ct cap) ct XS (by rfl) (HOW.out _) ⟨wr.heap.size, 0, none⟩ 1 1 [.int .i64 (i : Int)] (by rfl) (by rfl) (World.news_of_block (heap_alloc_new wr _)) (by simp [Value.oneCell']) (by decide) (by unfold maxLen; omega) (by omega) (by simp; omega) (wr.heap.size + 1) (by simp) ?_; intro g5 cap5 w5 hown5 hgrow5 _ _
                       have HO5 : Hid (w5.ownsRow wb.heap.size 3 1 (.slice (some ⟨g5, 0, none⟩) (ct + 1) cap5) (ct + 1) (XS ++ [.int .i64 (i : Int)])) := hown5
                       have B5 : Hid (Below wb.heap.size wb w5) := (hbel.out.alloc hws _).grown hgrow5 (by simp; omega) (fun q hq => ((HOW.out (.cells #[] 3)).lt q hq).1)
                       clear hown5 hgrow5)
          go_roundw
          case rel => exact ⟨i + 1, by omega, by go_num, ⟨_, _, by rw [HCT.out]⟩, by rw [← HXS.out, HCT.out]; exact HO5.out, B5.out⟩
          case measure => simp [intOf]; omega
      · obtain rfl : i = m := by omega
        go_wp2
        go_ret2
        exact ⟨_, _, rfl, Own.mono (B := wb.heap.size) hown.out HWB.out.size, below_then HWB.out hbel.out⟩
  · have hne : (E != 0) = true := by simpa using h1
    unfold Ans
    rw [lenE_ne _ h1]
    clear hE h1
    go_enter Try.func15, Try.ntmps15
    go_wp2_with fail
    rw [← hw0]
    refine (HC _ (HV.out.below b0) (HV'.out.below b0)).mono ?_
    rintro e wa ⟨rfl, ha⟩
    have hb := below_then b0 ha
    clear hw0
    go_wp2_with fail
    go_ret2
    exact ⟨_, _, rfl, own_nil _ _ _, hb⟩
end Go.Proofs.Ytkoblkkigmnocaa
