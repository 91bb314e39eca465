/- What Bump of the program answers. -/
import Derived.Test.YtfhefbbhlmdjkaaGreatVecF
import Derived.Test.YtfhefbbhlmdjkaaGreatStPb
namespace Go.Proofs.YtfhefbbhlmdjkaaGreat
open Go.RowKit

theorem eq_nil_no (w : World) (a : Addr) (l c : Nat) : (binOp .eql 36 (.slice (some a) l c) (.slice none 0 0)).run Tryz.prog w = .ok (.bool false) w := by
  have h : (Op.equal 36 (.slice (some a) l c) (.slice none 0 0)).run Tryz.prog w = .ok false w := run_equalIn_slice_nil w 9999 36 3 (some a) l c Tryz.underlying36
  simp only [binOp]
  simp [h]
/-- Integers appended to nothing: a list of the call's own. -/
theorem wpList_append_first {w : World} {ops : Array Oper} {rest : List Oper} {o : Oper} {a : Act} {Q : Exit → Act → World → Prop} (hgd : o.guard = none) (s x : Operand)
    (ho : o.op = .call { callee := .builtin .append, args := #[s, x], argTypes := #[36, 36] }) (B n cb : Nat) (ao bo : Option Addr) (R : Nat → Int)
    (hs : a.eval s = .slice ao 0 0) (hx : a.eval x = .slice bo n cb) (h : w.ownsRow B 3 1 (.slice ao 0 0) 0 []) (hv : Vec w bo n cb R) (hn : n ≤ 1000) (hB : B ≤ w.heap.size)
    (cont : ∀ ao' c' w', Hid (Own B w' ao' n c' R) → Hid (Below B w w') → wpList Tryz.prog ops Q rest (a.put o.dst (.slice ao' n c')) w') : wpList Tryz.prog ops Q (o :: rest) a w := by
  refine wpList_append_ints hgd s x ho B 0 n 0 cb ao bo [] R hs hx h hv (by omega) hn hB ?_
  intro ao' c' w' h1 h2
  rw [Nat.zero_add, List.nil_append] at h1
  rw [Nat.zero_add]
  exact cont ao' c' w' h1 ((Below.refl _ _).grown h2 hB (fun q hq => (h.lt q hq).1))
set_option maxHeartbeats 1000000 in
set_option maxRecDepth 100000 in
theorem clone_any (w : World) (ao : Option Addr) (n ca : Nat) (R : Nat → Int) (hv : Vec w ao n ca R) (h1 : 1 ≤ n) (hn : n ≤ 1000) :
    Calls Tryz.prog 62 #[.slice ao n ca] w fun e w' => ∃ g cap, e = .returned (.slice (some ⟨g, 0, none⟩) n cap) ∧ Own w.heap.size w' (some ⟨g, 0, none⟩) n cap R ∧ Below w.heap.size w w' := by
  obtain ⟨ad, rfl⟩ : ∃ ad, ao = some ad := by
    cases ao with
    | none => have := (hv.nil rfl).1; omega
    | some ad => exact ⟨ad, rfl⟩
  have HV : Hid (∀ o, Vec (w.alloc o) (some ad) n ca R) := fun o => hv.below (below_alloc _ _)
  have HO : Hid ((w.alloc (.cells #[] 3)).ownsRow w.heap.size 3 1 (.slice (some ⟨w.heap.size, 0, none⟩) 0 0) 0 []) := World.ownsRow_lit w #[] 0 (Nat.le_refl _) (Nat.zero_le _) rfl
  clear hv
  go_enter Tryz.func62, Tryz.ntmps62
  have hnil := fun w => eq_nil_no w ad n ca
  have HB0 : Hid (∀ o, Below w.heap.size w (w.alloc o)) := fun o => below_alloc w o
  go_wp2_with (at_builtin; refine wpList_append_first (by rfl) (.tmp 5) (.tmp 6) (by rfl) w.heap.size n ca (some ⟨w.heap.size, 0, none⟩) (some ad) R (by rfl) (by rfl) HO.out (HV.out _) hn (by simp) ?_; intro ro cap w5 HO5 B5)
  go_ret
  obtain ⟨g, rfl, _⟩ := HO5.out.at_ (by omega)
  exact ⟨_, _, rfl, HO5.out, (HB0.out _).trans B5.out⟩
set_option maxHeartbeats 400000 in
theorem bump1_any (c : Int) (g n ca : Nat) (ao : Option Addr) (w : World) (hc : w.cell? ⟨g, 0, none⟩ = some (.slice ao n ca)) :
    Calls Tryz.prog 60 (#[.int .i64 c] ++ #[.pointer (some ⟨g, 0, none⟩)]) w fun e w' => e = .returned (.bool (!decide (0 ≤ c ∧ c < (n : Int)))) ∧ w' = w := by
  show Calls Tryz.prog 60 #[.int .i64 c, .pointer (some ⟨g, 0, none⟩)] w _
  by_cases h1 : c < 0
  · rw [decide_eq_false (show ¬ (0 ≤ c ∧ c < (n : Int)) by omega)]
    go_enter Tryz.func60, Tryz.ntmps60
    go_wp2
    go_ret
    exact ⟨ret_bool (by first | rfl | (rw [decide_eq_true h1]; rfl)), rfl⟩
  · by_cases h2 : c < (n : Int)
    · rw [decide_eq_true (show (0 ≤ c ∧ c < (n : Int)) by omega)]
      go_enter Tryz.func60, Tryz.ntmps60
      go_wp2
      go_ret
      exact ⟨ret_bool (by first | rfl | rw [decide_eq_false (show ¬ (n : Int) ≤ c by omega)]), rfl⟩
    · rw [decide_eq_false (show ¬ (0 ≤ c ∧ c < (n : Int)) by omega)]
      go_enter Tryz.func60, Tryz.ntmps60
      go_wp2
      go_ret
      exact ⟨ret_bool rfl, rfl⟩
theorem any_cel (n m : Nat) (C : Nat → Int) : anyB m (fun j => !decide (0 ≤ C j ∧ C j < (n : Int))) = !celB n m C := by
  unfold anyB celB
  congr 1
  apply decide_eq_decide.2
  constructor
  · intro h j hj
    have := h j hj
    exact of_decide_eq_true (p := 0 ≤ C j ∧ C j < (n : Int)) (by simpa using this)
  · intro h j hj
    show (!decide (0 ≤ C j ∧ C j < (n : Int))) = false
    rw [decide_eq_true (h j hj)]; rfl
theorem bmp_step {C : Nat → Int} {v : Int} {R : Nat → Int} {j c : Nat} (h : C j = (c : Int)) (i : Nat) : put c v (bmp C v R j) i = bmp C v R (j + 1) i := by
  show (if i = c then v else bmp C v R j i) = (if C j = (i : Int) then v else bmp C v R j i)
  by_cases e : i = c
  · subst e; rw [if_pos rfl, if_pos h]
  · rw [if_neg e, if_neg (by rw [h]; omega)]
set_option maxHeartbeats 2000000 in
set_option maxRecDepth 100000 in
theorem Bump_any {k r c q : Int} {N W : Nat} {x : Int} (h : Par k r c q N W x) (w : World) (ao bo : Option Addr) (n ca m cb : Nat) (R C : Nat → Int) (v : Int) (hv : Vec w ao n ca R) (hv' : Vec w bo m cb C) (hn : n ≤ 1000) (hm : m ≤ 1000) (E : Int) (hE : erB x N n R m C v = E) :
    Calls Tryz.prog 37 #[.agg #[.int .i64 k, .int .i64 r, .int .i64 c, .int .i64 q], .slice ao n ca, .slice bo m cb, .int .i64 v] w (Ans w E n (bmp C v R m)) := by
  have HC := fun w (hv : Vec w ao n ca R) => VCheck_any h w ao n ca R hv
  have HN := fun w => noVersion_any v w
  have hs := h.some
  have HV : Hid (Vec w ao n ca R) := hv
  have HV' : Hid (Vec w bo m cb C) := hv'
  clear hv hv' h
  obtain ⟨w0, hw0⟩ : ∃ w0, w0 = w.alloc (.cells #[.int .i64 k, .int .i64 r, .int .i64 c, .int .i64 q] 23) := ⟨_, rfl⟩
  obtain ⟨w1, hw1⟩ : ∃ w1, w1 = w0.alloc (.cells #[.slice ao n ca] 36) := ⟨_, rfl⟩
  have z0 : w0.heap.size = w.heap.size + 1 := by rw [hw0]; simp
  have b0 : Below w.heap.size w w0 := by rw [hw0]; exact below_alloc _ _
  have b01 : Below w0.heap.size w0 w1 := by rw [hw1]; exact below_alloc _ _
  have b1 : Below w.heap.size w w1 := below_then b0 b01
  have HS : Hid (∀ w', Below w1.heap.size w1 w' → w'.cell? ⟨w.heap.size + 1, 0, none⟩ = some (.slice ao n ca)) := fun w' hb => by
    have := blk_held hw1 hb 0 rfl
    rw [z0] at this; exact this
  have c1 : w1.cell? ⟨w.heap.size + 1, 0, none⟩ = some (.slice ao n ca) := HS.out _ (Below.refl _ _)
  obtain ⟨p0, p1, p2, p3⟩ := par_held hw0 b01
  obtain ⟨E1, hE1⟩ : ∃ E1, E1 = erV x N n R := ⟨_, rfl⟩
  rw [← hE1] at HC
  unfold Ans
  by_cases h1 : E1 = 0
  · subst h1
    obtain ⟨rfl, rfl, h4⟩ := erV_of hE1.symm
    have hn1 : 1 ≤ n := hs rfl
    unfold erB at hE
    rw [if_pos hE1.symm] at hE
    clear hE1 hs h4
    by_cases h2 : n < m
    · rw [if_pos h2] at hE
      subst hE
      rw [lenE_ne n (show (20 : Int) ≠ 0 by decide)]
      go_enter Tryz.func37, Tryz.ntmps37
      go_wp2_with fail
      rw [← hw0, ← hw1]
      refine (HC _ (HV.out.below b1)).mono ?_
      rintro e wa ⟨rfl, ha⟩
      have hb := below_then b1 ha
      have c2 := HS.out _ ha
      clear hw0 hw1 p0 p1 p2 p3 c1
      go_wp2_with fail
      go_ret2
      exact ⟨_, _, rfl, own_nil _ _ _, hb⟩
    · rw [if_neg h2] at hE
      have HF := fun w (hr : RdI w bo m C) (hc : w.cell? ⟨w1.heap.size - 1, 0, none⟩ = some (.slice ao n ca)) => containsF_any w bo m cb 60 #[.pointer (some ⟨w1.heap.size - 1, 0, none⟩)] C (fun j => !decide (0 ≤ C j ∧ C j < (n : Int))) hm (fun _ _ => rfl) hr (fun i _ => bump1_any (C i) (w1.heap.size - 1) n ca ao w hc)
      rw [any_cel, show w1.heap.size - 1 = w.heap.size + 1 by rw [hw1, hw0]; simp] at HF
      cases h3 : celB n m C
      · rw [h3, if_neg (by decide)] at hE
        subst hE
        rw [h3] at HF
        rw [lenE_ne n (show (2 : Int) ≠ 0 by decide)]
        clear h3
        go_enter Tryz.func37, Tryz.ntmps37
        go_wp2_with fail
        rw [← hw0, ← hw1]
        refine (HC _ (HV.out.below b1)).mono ?_
        rintro e wa ⟨rfl, ha⟩
        have hb := below_then b1 ha
        have c2 := HS.out _ ha
        clear hw0 hw1 p0 p1 p2 p3 c1
        go_wp2_with fail
        refine (HF _ (HV'.out.below hb).rd c2).mono ?_
        rintro e wb ⟨rfl, rfl⟩
        go_wp2_with fail
        go_ret2
        exact ⟨_, _, rfl, own_nil _ _ _, hb⟩
      · rw [h3, if_pos rfl] at hE
        rw [h3] at HF
        have hcb : ∀ j, j < m → 0 ≤ C j ∧ C j < (n : Int) := of_decide_eq_true h3
        have HCB : Hid (∀ j, j < m → 0 ≤ C j ∧ C j < (n : Int)) := hcb
        clear hcb
        clear h3
        cases h5 : verB v
        · rw [h5, if_neg (by decide)] at hE
          subst hE
          rw [h5] at HN
          rw [lenE_ne n (show (70 : Int) ≠ 0 by decide)]
          clear h5
          go_enter Tryz.func37, Tryz.ntmps37
          go_wp2_with fail
          rw [← hw0, ← hw1]
          refine (HC _ (HV.out.below b1)).mono ?_
          rintro e wa ⟨rfl, ha⟩
          have hb := below_then b1 ha
          have c2 := HS.out _ ha
          clear hw0 hw1 p0 p1 p2 p3 c1
          go_wp2_with fail
          refine (HF _ (HV'.out.below hb).rd c2).mono ?_
          rintro e wb ⟨rfl, rfl⟩
          go_wp2_with fail
          refine (HN _).mono ?_
          rintro e wc ⟨rfl, rfl⟩
          go_wp2_with fail
          go_ret2
          exact ⟨_, _, rfl, own_nil _ _ _, hb⟩
        · rw [h5, if_pos rfl] at hE
          subst hE
          rw [h5] at HN
          rw [lenE_zero]
          clear h5
          go_enter Tryz.func37, Tryz.ntmps37
          go_wp2_with fail
          rw [← hw0, ← hw1]
          refine (HC _ (HV.out.below b1)).mono ?_
          rintro e wa ⟨rfl, ha⟩
          have hb := below_then b1 ha
          have c2 := HS.out _ ha
          clear hw0 hw1 p0 p1 p2 p3 c1
          go_wp2_with fail
          refine (HF _ (HV'.out.below hb).rd c2).mono ?_
          rintro e wb ⟨rfl, hwb⟩
          obtain rfl := hwb.symm
          go_wp2_with fail
          refine (HN _).mono ?_
          rintro e wc ⟨rfl, hwc⟩
          obtain rfl := hwc.symm
          go_wp2_with fail
          refine (clone_any wa ao n ca R (HV.out.below hb) hn1 hn).mono ?_
          rintro e wd ⟨g, cap, rfl, hown, hd⟩
          have HO : Hid (Own wa.heap.size wd (some ⟨g, 0, none⟩) n cap R) := hown
          have HB : Hid (Below w.heap.size w wd) := below_then hb hd
          have hsz := hb.size
          have hgl : w.heap.size ≤ g := by
            obtain ⟨g', e, h1, _⟩ := hown.at_ hn1
            cases e; omega
          clear hown hd hb ha c2 HC HN HF HS b0 b01 b1
          go_wp2_with fail
          go_loopw [34] (fun x wr => ∃ j : Nat, j ≤ m ∧ x = .int .i64 (j : Int) ∧ Hid (Own wa.heap.size wr (some ⟨g, 0, none⟩) n cap (bmp C v R j)) ∧ Hid (Below w.heap.size w wr)) (fun x _ => m - (intOf x).toNat)
          case atStart => exact ⟨0, Nat.zero_le _, rfl, HO.out, HB.out⟩
          case round =>
            obtain ⟨j, hj, rfl, hown, hbel⟩ := hrel
            by_cases hlt : j < m
            · obtain ⟨b, off, rfl, hcc⟩ := (HV'.out.below hbel.out).rd (by omega)
              have ck := hcc j hlt
              obtain ⟨hc0, hc1⟩ := HCB.out j hlt
              obtain ⟨cj, hcj⟩ := Int.eq_ofNat_of_zero_le hc0
              have HCJ : Hid (C j = (cj : Int)) := hcj
              rw [hcj] at ck hc1
              have i1 : (0 : Int) ≤ (j : Int) := by omega
              have i2 : (j : Int) < (m : Int) := by omega
              have i3 : (0 : Int) ≤ (cj : Int) := by omega
              have hcn : cj < n := by omega
              have d1 := hown.out.cell hcn
              have z1 := hown.out.free cj
              have HO2 : Hid (Own wa.heap.size (wr.setCell ⟨g, cj, none⟩ (.int .i64 v)) (some ⟨g, 0, none⟩) n cap (bmp C v R (j + 1))) := (hown.out.set cj v).congr (fun i _ => bmp_step HCJ.out i)
              have HB2 : Hid (Below w.heap.size w (wr.setCell ⟨g, cj, none⟩ (.int .i64 v))) := hbel.out.setCell hgl _
              clear hcc hcj hc0
              go_wp2
              go_roundw
              case rel => exact ⟨j + 1, by omega, by go_num, HO2.out, HB2.out⟩
              case measure => simp [intOf]; omega
            · obtain rfl : j = m := by omega
              go_wp2
              go_ret2
              exact ⟨_, _, rfl, hown.out.mono hsz, hbel.out⟩
  · have hne : (E1 != 0) = true := by simpa using h1
    obtain rfl : E = E1 := by rw [← hE]; unfold erB; rw [← hE1, if_neg h1]
    rw [lenE_ne _ h1]
    clear hE h1 hs hE1
    go_enter Tryz.func37, Tryz.ntmps37
    go_wp2_with fail
    rw [← hw0, ← hw1]
    refine (HC _ (HV.out.below b1)).mono ?_
    rintro e wa ⟨rfl, ha⟩
    have hb := below_then b1 ha
    clear hw0 hw1 p0 p1 p2 p3 c1
    go_wp2_with fail
    go_ret2
    exact ⟨_, _, rfl, own_nil _ _ _, hb⟩
end Go.Proofs.YtfhefbbhlmdjkaaGreat
