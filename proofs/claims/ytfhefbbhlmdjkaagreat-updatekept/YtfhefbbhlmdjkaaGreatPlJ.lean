/- Plan and fit, and what a row holds behind an update. -/
import Derived.Test.YtfhefbbhlmdjkaaGreatPlB
import Derived.Test.YtfhefbbhlmdjkaaGreatVecG
import Derived.Test.YtfhefbbhlmdjkaaGreatDoB
import Derived.Test.YtfhefbbhlmdjkaaGreatStPb
/- Two lists of changes one behind the other. -/
namespace Go.Proofs.YtfhefbbhlmdjkaaGreat
open Go.RowKit

theorem chOf_cat (p : Nat) (D D' : Nat → Int) (T T' : Nat → Option Addr) (L L' U U' : Nat → Nat) : ∀ q, chOf D T L U p ++ chOf D' T' L' U' q = chOf (Cod.cat p D D') (Cod.cat p T T') (Cod.cat p L L') (Cod.cat p U U') (p + q)
  | 0 => by
    rw [chOf, List.append_nil, Nat.add_zero]
    exact chOf_congr fun i hi => ⟨(Cod.cat_lo _ _ hi).symm, (Cod.cat_lo _ _ hi).symm, (Cod.cat_lo _ _ hi).symm, (Cod.cat_lo _ _ hi).symm⟩
  | q + 1 => by rw [chOf, ← List.append_assoc, chOf_cat p D D' T T' L L' U U' q, Nat.add_succ, chOf, Cod.cat_hi, Cod.cat_hi, Cod.cat_hi, Cod.cat_hi]
theorem chOf_one (D : Nat → Int) (T : Nat → Option Addr) (L U : Nat → Nat) : ∀ n, ∀ u ∈ chOf D T L U n, u.oneCell' = true
  | 0, u, h => by cases h
  | n + 1, u, h => by
    rw [chOf] at h
    rcases List.mem_append.1 h with h | h
    · exact chOf_one D T L U n u h
    · simp at h
      rcases h with rfl | rfl <;> rfl
theorem owns_chl {B : Nat} {w : World} {ao : Option Addr} {n cap : Nat} {D : Nat → Int} {T : Nat → Option Addr} {L U : Nat → Nat} {H : Nat → Nat → UInt8} (h : w.ownsRow B 42 2 (.slice ao n cap) n (chOf D T L U n)) (hb : ∀ i, i < n → Bec w (T i) (L i) (U i) (H i)) : Chl w ao n cap D T L U H := by
  refine ⟨fun hn => ?_, hb, fun e => ?_, ?_⟩
  · rcases h.2 with ⟨_, e⟩ | ⟨g, c', cur, e, h1, h2, h3, _⟩
    · omega
    · cases e
      refine ⟨g, 0, rfl, fun i hi => ?_⟩
      obtain ⟨a, b⟩ := chOf_get D T L U n i hi
      have c0 := h.cells (g := g) rfl _ _ a
      have c1 := h.cells (g := g) rfl _ _ b
      rw [Addr.add_lit, Nat.zero_add] at c0 c1
      rw [Nat.zero_add]
      exact ⟨c0, c1⟩
  · rcases h.2 with ⟨h0, h1⟩ | ⟨g, c', cur, e', _⟩
    · cases h0; exact ⟨rfl, rfl⟩
    · rw [e] at e'; cases e'
  · rcases h.2 with ⟨h0, h1⟩ | ⟨g, c', cur, e', _, _, h3, _⟩
    · omega
    · cases e'; exact h3
theorem wpList_append_chl {w : World} {ops : Array Oper} {rest : List Oper} {o : Oper} {a : Act} {Q : Exit → Act → World → Prop} (hgd : o.guard = none) (s x : Operand)
    (ho : o.op = .call { callee := .builtin .append, args := #[s, x], argTypes := #[25, 25] }) (B k n ca cb : Nat) (ao bo : Option Addr) (xs : List Value) (D : Nat → Int) (A : Nat → Option Addr) (L C : Nat → Nat) (H : Nat → Nat → UInt8)
    (hs : a.eval s = .slice ao k ca) (hx : a.eval x = .slice bo n cb) (h : w.ownsRow B 42 2 (.slice ao k ca) k xs) (hl : Chl w bo n cb D A L C H) (hk : k ≤ 1000) (hn : n ≤ 1000) (hB : B ≤ w.heap.size)
    (cont : ∀ ao' c' w', w'.ownsRow B 42 2 (.slice ao' (k + n) c') (k + n) (xs ++ chOf D A L C n) → w.grownBy w' (Value.slice ao k ca).ownBlock → wpList Tryz.prog ops Q rest (a.put o.dst (.slice ao' (k + n) c')) w') : wpList Tryz.prog ops Q (o :: rest) a w := by
  obtain ⟨j0, hj, hj0, hj1, hj2⟩ := info_parts info33
  cases bo with
  | none =>
    obtain ⟨rfl, rfl⟩ := hl.nil rfl
    have := cont ao ca w (by rw [show chOf D A L C 0 = [] from rfl, List.append_nil]; exact h) (Cod.grown_refl w _)
    exact wpList_append_own_none hgd s x 25 ho B 42 j0 2 Tryz.underlying25 hj (.slice ao k ca) k xs hs h hx this
  | some ad =>
    refine wpList_append_own w hgd s x 25 ho B 42 j0 (.agg #[.int .i64 0, .slice none 0 0]) 2 32 Tryz.underlying25 hj hj0 hj1 hj2 rfl (by decide) (.slice ao k ca) k xs hs h ad n cb (chOf D A L C n) hx (chOf_length _ _ _ _ _) (fun j u hu => ?_) (chOf_one _ _ _ _ _) (by unfold maxLen; omega) (by omega) hB ?_
    · have hj : j < n * 2 := Cod.list_lt (chOf_length D A L C n) hu
      obtain ⟨b, off, e, hc⟩ := hl.at_ (by omega)
      cases e
      obtain ⟨c0, c1⟩ := hc (j / 2) (by omega)
      obtain ⟨g0, g1⟩ := chOf_get D A L C n (j / 2) (by omega)
      rw [Addr.add_lit]
      rcases Nat.mod_two_eq_zero_or_one j with e | e
      · have e2 : j / 2 * 2 = j := by omega
        rw [e2] at c0 g0
        rw [g0] at hu; cases hu
        exact c0
      · have e2 : j / 2 * 2 + 1 = j := by omega
        rw [Nat.add_assoc, e2] at c1
        rw [e2] at g1
        rw [g1] at hu; cases hu
        exact c1
    · intro v' w' h1 h2 _
      obtain ⟨ao', c', rfl⟩ : ∃ ao cap, v' = .slice ao (k + n) cap := by
        rcases h1.2 with ⟨e1, e2⟩ | ⟨g, cap, cur, e1, _⟩
        · rw [e1, e2]; exact ⟨none, 0, rfl⟩
        · exact ⟨_, cap, e1⟩
      exact cont ao' c' w' h1 h2
theorem zero_size2 (m n : Nat) : (Builtin.zeroCells (Value.agg #[.int .i64 0, .slice none 0 0]).cells m ++ Builtin.zeroCells (Value.agg #[.int .i64 0, .slice none 0 0]).cells n).size = (m + n) * 2 := by
  rw [Array.size_append, size_zeroCells, size_zeroCells]
  have : (Value.agg #[.int .i64 0, .slice none 0 0]).cells.size = 2 := rfl
  rw [this]; omega
set_option maxHeartbeats 1000000 in
set_option maxRecDepth 100000 in
theorem growc_any (w : World) (n : Nat) (hn : n ≤ 1000) :
    Calls Tryz.prog 40 #[.slice none 0 0, .int .i64 (n : Int)] w fun e w' => ∃ ao cap, e = .returned (.slice ao 0 cap) ∧ w'.ownsRow w.heap.size 42 2 (.slice ao 0 cap) 0 [] ∧ Below w.heap.size w w' := by
  by_cases h0 : n = 0
  · subst h0
    go_enter Tryz.func40, Tryz.ntmps40
    go_wp2
    go_ret
    exact ⟨none, 0, rfl, World.ownsRow_nil _ _ _ _, Below.refl _ _⟩
  · obtain ⟨j0, hj, hj0, hj1, hj2⟩ := info_parts info33
    have hr := fun ty => Lib.run_append_nil_zeros (P := Tryz.prog) w 25 3 ty 42 j0 (.agg #[.int .i64 0, .slice none 0 0]) .i64 .i64 Tryz.underlying25 Tryz.underlying3 hj hj0 n (by omega) (by rw [hj1]; decide) (by omega) (by rw [hj2]; omega)
    have hc1 := grownCap_ge w n 0 42
    have hc2 := grownCap_le_maxLen w n 0 42 (by unfold maxLen; omega)
    obtain ⟨cp, hcp⟩ : ∃ c, c = grownCap w n 0 42 := ⟨_, rfl⟩
    rw [← hcp] at hr hc1 hc2
    obtain ⟨w1, hw1⟩ : ∃ w1, w1 = w.drew.alloc (.cells (Builtin.zeroCells (Value.agg #[.int .i64 0, .slice none 0 0]).cells n ++ Builtin.zeroCells (Value.agg #[.int .i64 0, .slice none 0 0]).cells (cp - n)) 42) := ⟨_, rfl⟩
    rw [← hw1] at hr
    have HO : Hid (w1.ownsRow w.heap.size 42 2 (.slice (some ⟨w.heap.size, 0, none⟩) 0 cp) 0 []) := by
      refine ⟨rfl, .inr ⟨w.heap.size, cp, _, rfl, Nat.le_refl _, by rw [hw1]; exact heap_alloc_new w.drew _, Nat.zero_le _, hc2, ?_, by simp⟩⟩
      rw [zero_size2, Nat.add_sub_cancel' hc1]
    have HB : Hid (Below w.heap.size w w1) := by rw [hw1]; exact (below_drew _ w).alloc (Nat.le_refl _) _
    clear hw1 hcp hj hj0 hj1 hj2 hc2
    have hpos : (0 : Int) < (n : Int) := by omega
    go_enter Tryz.func40, Tryz.ntmps40
    go_wp2_with (at_builtin; refine Lib.wpList_append_run _ (by rfl) (.tmp 20) (.tmp 21) 25 3 (by rfl) (.slice none 0 0) (.int .i64 (n : Int)) (by rfl) (by rfl) _ _ (hr _) ?_)
    go_ret
    exact ⟨_, _, rfl, HO.out, HB.out⟩
set_option maxHeartbeats 2000000 in
set_option maxRecDepth 100000 in
theorem concatc_any (w : World) (g : Nat) (po qo : Option Addr) (pl pc ql qc : Nat) (PD QD : Nat → Int) (PA QA : Nat → Option Addr) (PL PC QL QC : Nat → Nat) (P Q : Nat → Nat → UInt8) (c0 : w.cell? ⟨g, 0, none⟩ = some (.slice po pl pc)) (c1 : w.cell? ⟨g, 1, none⟩ = some (.slice qo ql qc))
    (hpl : pl ≤ 100) (hql : ql ≤ 100) (hp : Chl w po pl pc PD PA PL PC P) (hq : Chl w qo ql qc QD QA QL QC Q) :
    Calls Tryz.prog 19 #[.slice (some ⟨g, 0, none⟩) 2 2] w fun e w' => ∃ ro rc, e = .returned (.slice ro (pl + ql) rc) ∧ Chl w' ro (pl + ql) rc (Cod.cat pl PD QD) (Cod.cat pl PA QA) (Cod.cat pl PL QL) (Cod.cat pl PC QC) (Cod.cat pl P Q) ∧ Below w.heap.size w w' := by
  have HP : Hid (Chl w po pl pc PD PA PL PC P) := hp
  have HQ : Hid (Chl w qo ql qc QD QA QL QC Q) := hq
  clear hp hq
  go_enter Tryz.func19, Tryz.ntmps19
  go_wp2
  go_loop [3, 11] (fun s x => (s = .int .i64 0 ∧ x = .int .i64 0) ∨ (s = .int .i64 (pl : Int) ∧ x = .int .i64 1) ∨ (s = .int .i64 ((pl : Int) + (ql : Int)) ∧ x = .int .i64 2)) (fun _ x => 2 - (intOf x).toNat)
  case atStart => exact .inl ⟨rfl, rfl⟩
  case round =>
    rcases hrel with ⟨rfl, rfl⟩ | ⟨rfl, rfl⟩ | ⟨rfl, rfl⟩
    · go_wp2
      go_round
      case rel => exact .inr (.inl ⟨by go_num, by go_num⟩)
      case measure => simp [intOf]
    · go_wp2
      go_round
      case rel => exact .inr (.inr ⟨by go_num, by go_num⟩)
      case measure => simp [intOf]
    · have HG := growc_any w (pl + ql) (by omega)
      rw [Int.natCast_add] at HG
      go_wp2_with (go_at_call 40; refine HG.mono ?_; rintro e w1 ⟨ao, cap, rfl, hown, hb⟩)
      have HO1 : Hid (w1.ownsRow w.heap.size 42 2 (.slice ao 0 cap) 0 []) := hown
      have HB1 : Hid (Below w.heap.size w w1) := hb
      clear hown hb HG
      go_loopw [6, 27] (fun v x wr => (x = .int .i64 0 ∧ ∃ ao c, v = .slice ao 0 c ∧ Hid (wr.ownsRow w.heap.size 42 2 v 0 []) ∧ Hid (Below w.heap.size w wr)) ∨ (x = .int .i64 1 ∧ ∃ ao c, v = .slice ao pl c ∧ Hid (wr.ownsRow w.heap.size 42 2 v pl (chOf PD PA PL PC pl)) ∧ Hid (Below w.heap.size w wr))
        ∨ (x = .int .i64 2 ∧ ∃ ao c, v = .slice ao (pl + ql) c ∧ Hid (wr.ownsRow w.heap.size 42 2 v (pl + ql) (chOf PD PA PL PC pl ++ chOf QD QA QL QC ql)) ∧ Hid (Below w.heap.size w wr))) (fun _ x _ => 2 - (intOf x).toNat)
      case atStart => exact .inl ⟨rfl, ao, cap, rfl, HO1, HB1⟩
      case round =>
        rcases hrel with ⟨rfl, ao, c, rfl, hown, hbel⟩ | ⟨rfl, ao, c, rfl, hown, hbel⟩ | ⟨rfl, ao, c, rfl, hown, hbel⟩
        · have d0 := held c0 hbel.out
          have hws := hbel.out.size
          have HL : Hid (Chl wr po pl pc PD PA PL PC P) := HP.out.below hbel.out
          go_wp2_with (at_builtin; refine wpList_append_chl (by rfl) (.tmp 31) (.tmp 32) (by rfl) w.heap.size 0 pl c pc ao po [] PD PA PL PC P (by rfl) (by rfl) hown.out HL.out (by omega) (by omega) (by omega) ?_; intro ao' c' w' hown' hgrow')
          have HO2 : Hid (w'.ownsRow w.heap.size 42 2 (.slice ao' (0 + pl) c') (0 + pl) ([] ++ chOf PD PA PL PC pl)) := hown'
          have HB2 : Hid (Below w.heap.size w w') := hbel.out.grown hgrow' hws (fun r hr => (hown.out.lt r hr).1)
          rw [Nat.zero_add] at HO2
          clear hown' hgrow'
          go_roundw
          case rel => exact .inr (.inl ⟨by go_num, ao', c', rfl, HO2, HB2⟩)
          case measure => simp [intOf]
        · have d0 := held c1 hbel.out
          have hws := hbel.out.size
          have HL : Hid (Chl wr qo ql qc QD QA QL QC Q) := HQ.out.below hbel.out
          obtain ⟨XS, hXS⟩ : ∃ X, X = chOf PD PA PL PC pl := ⟨_, rfl⟩
          have HXS : Hid (chOf PD PA PL PC pl = XS) := hXS.symm
          have HO : Hid (wr.ownsRow w.heap.size 42 2 (.slice ao pl c) pl XS) := by rw [hXS]; exact hown.out
          clear hXS hown
          go_wp2_with (at_builtin; refine wpList_append_chl (by rfl) (.tmp 31) (.tmp 32) (by rfl) w.heap.size pl ql c qc ao qo XS QD QA QL QC Q (by rfl) (by rfl) HO.out HL.out (by omega) (by omega) (by omega) ?_; intro ao' c' w' hown' hgrow')
          have HO2 : Hid (w'.ownsRow w.heap.size 42 2 (.slice ao' (pl + ql) c') (pl + ql) (chOf PD PA PL PC pl ++ chOf QD QA QL QC ql)) := by rw [HXS.out]; exact hown'
          have HB2 : Hid (Below w.heap.size w w') := hbel.out.grown hgrow' hws (fun r hr => (HO.out.lt r hr).1)
          clear hown' hgrow'
          go_roundw
          case rel => exact .inr (.inr ⟨by go_num, ao', c', rfl, HO2, HB2⟩)
          case measure => simp [intOf]
        · go_wp2
          go_ret
          refine ⟨ao, c, rfl, owns_chl (by rw [← chOf_cat]; exact hown.out) fun i hi => ?_, hbel.out⟩
          by_cases e : i < pl
          · rw [Cod.cat_lo _ _ e, Cod.cat_lo _ _ e, Cod.cat_lo _ _ e, Cod.cat_lo _ _ e]
            exact (HP.out.bec i e).below hbel.out
          · obtain ⟨q, rfl⟩ : ∃ q, i = pl + q := ⟨i - pl, by omega⟩
            rw [Cod.cat_hi, Cod.cat_hi, Cod.cat_hi, Cod.cat_hi]
            exact (HQ.out.bec q (by omega)).below hbel.out
end Go.Proofs.YtfhefbbhlmdjkaaGreat
/- The raw writes of some cells. -/
namespace Go.Proofs.YtfhefbbhlmdjkaaGreat
open Go.RowKit

/-- Raw writes as they lie in memory, one behind the other. -/
def pto (D : Nat → Int) (os : Nat → Nat) (nu : Int) (n : Nat) (T : Nat → Option Addr) (U : Nat → Nat) : Nat → List Value
  | 0 => []
  | j + 1 => pto D os nu n T U j ++ [.int .i64 (D j), .int .i64 nu, .int .i64 ((os j : Nat) : Int), .slice (T j) n (U j)]
theorem pto_congr {D : Nat → Int} {os : Nat → Nat} {nu : Int} {n : Nat} {T T' : Nat → Option Addr} {U U' : Nat → Nat} : ∀ {d : Nat}, (∀ i, i < d → T i = T' i ∧ U i = U' i) → pto D os nu n T U d = pto D os nu n T' U' d
  | 0, _ => rfl
  | d + 1, h => by rw [pto, pto, pto_congr (d := d) (fun i hi => h i (by omega)), (h d (by omega)).1, (h d (by omega)).2]
theorem info39 : (Tryz.prog.info? 40).map (fun i => (i.zero, i.size, i.bytes)) = some (some (.agg #[.int .i64 0, .int .i64 0, .int .i64 0, .slice none 0 0]), 4, 48) := by kernel_rfl
/-- Into which slot a drive's cell goes, so that version V i stays. -/
def ol (N : Nat) (c : Int) (L : Nat → Nat) (F : Nat → Nat → UInt8) (V : Nat → Int) (i : Nat) : Nat := oN (yy N c L F (2 * i)) (yy N c L F (2 * i + 1)) 1 (V i)
/-- What comes in is right. -/
structure Ren (N : Nat) (V : Nat → Int) (n : Nat) (D : Nat → Int) (d : Nat → Nat) (tv : Int) : Prop where
  V : ∀ i, i < N → 1 ≤ V i ∧ V i < tv
  tv : tv ≤ 1073741824
  D : ∀ j, j < n → D j = ((d j : Nat) : Int) ∧ d j < N
  n0 : 0 < n
  nN : n ≤ N
theorem Ren.X {N : Nat} {V : Nat → Int} {n : Nat} {D : Nat → Int} {d : Nat → Nat} {tv : Int} (h : Ren N V n D d tv) : ∀ i, i < N → 1 ≤ bmp D tv V n i ∧ bmp D tv V n i ≤ tv := fun i hi => by
  have h1 := h.V i hi
  by_cases e : ∃ j, j < n ∧ D j = (i : Int)
  · rw [bmp_hit e]; omega
  · rw [bmp_miss e]; omega
theorem Ren.hit {N : Nat} {V : Nat → Int} {n : Nat} {D : Nat → Int} {d : Nat → Nat} {tv : Int} (h : Ren N V n D d tv) {j : Nat} (hj : j < n) : bmp D tv V n (d j) = tv := bmp_hit ⟨j, hj, (h.D j hj).1⟩
theorem Ren.mx {N : Nat} {V : Nat → Int} {n : Nat} {D : Nat → Int} {d : Nat → Nat} {tv : Int} (h : Ren N V n D d tv) : mx (bmp D tv V n) N = tv := by
  have h0 := h.n0
  have h1 := mx_leq (R := bmp D tv V n) (h.D 0 h0).2
  rw [h.hit h0] at h1
  have h2 := mx_top (R := bmp D tv V n) (n := N) (t := tv) (by have := h.V (d 0) (h.D 0 h0).2; omega) (fun i hi => (h.X i hi).2)
  omega
theorem Ren.erB {N : Nat} {V : Nat → Int} {n : Nat} {D : Nat → Int} {d : Nat → Nat} {tv : Int} (h : Ren N V n D d tv) : erB 0 N N V n D tv = 0 := by
  have e1 : erV 0 N N V = 0 := by
    unfold erV vok
    rw [if_pos rfl, if_pos]
    have := h.tv
    exact decide_eq_true ⟨rfl, fun i hi => by have := h.V i hi; omega⟩
  have e2 : celB N n D = true := decide_eq_true fun j hj => by have := h.D j hj; omega
  have e3 : verB tv = true := by
    have := h.V (d 0) (h.D 0 h.n0).2
    have := h.tv
    unfold verB
    exact decide_eq_true (by omega)
  unfold Go.Proofs.YtfhefbbhlmdjkaaGreat.erB
  rw [if_pos e1, if_neg (by have := h.nN; omega), if_pos e2, if_pos e3]
theorem ren_held {w w0 w1 : World} {x0 x1 x2 x3 x4 x5 x6 x7 : Value} {t : TypeId} (h0 : w0 = w.alloc (.cells #[x0, x1, x2, x3, x4, x5, x6, x7] t)) (hb : Below w0.heap.size w0 w1) :
    w1.cell? ⟨w.heap.size, 0, none⟩ = some x0 ∧ w1.cell? ⟨w.heap.size, 1, none⟩ = some x1 ∧ w1.cell? ⟨w.heap.size, 2, none⟩ = some x2 ∧ w1.cell? ⟨w.heap.size, 3, none⟩ = some x3 ∧ w1.cell? ⟨w.heap.size, 4, none⟩ = some x4 ∧ w1.cell? ⟨w.heap.size, 5, none⟩ = some x5 ∧ w1.cell? ⟨w.heap.size, 6, none⟩ = some x6 ∧ w1.cell? ⟨w.heap.size, 7, none⟩ = some x7 :=
  ⟨blk_held h0 hb 0 rfl, blk_held h0 hb 1 rfl, blk_held h0 hb 2 rfl, blk_held h0 hb 3 rfl, blk_held h0 hb 4 rfl, blk_held h0 hb 5 rfl, blk_held h0 hb 6 rfl, blk_held h0 hb 7 rfl⟩
set_option maxHeartbeats 4000000 in
set_option maxRecDepth 100000 in
theorem puts_any {K R m : Nat} {q : Int} {N W : Nat} (h : Par (K : Int) (R : Int) (m : Int) q N W 0) (w : World) (ro : Option Addr) (rc : Nat) (A : Nat → Option Addr) (L C : Nat → Nat) (F : Nat → Nat → UInt8) (hr : Rw w ro N A L C F) (hL : ∀ j, j < 2 * N → L j = 0 ∨ L j = sz N (m : Int)) (nu tv : Int) (ko : Option Addr) (kc : Nat) (V : Nat → Int) (hv : Vec w ko N kc V)
    (lo : Option Addr) (n lc : Nat) (D : Nat → Int) (AA : Nat → Option Addr) (CC : Nat → Nat) (H : Nat → Nat → UInt8) (hl : Chl w lo n lc D AA (fun _ => m) CC H) (d : Nat → Nat) (hR : Ren N V n D d tv) (X : Nat → Int) (hX : bmp D tv V n = X) :
    Calls Tryz.prog 18 #[.agg #[.int .i64 (K : Int), .int .i64 (R : Int), .int .i64 (m : Int), .int .i64 q, .slice ro N rc, .int .i64 nu, .slice ko N kc, .int .i64 tv], .slice lo n lc] w fun e w' => ∃ ao cap T U, e = .returned (.slice ao n cap) ∧ w'.ownsRow w.heap.size 40 4 (.slice ao n cap) n (pto D (fun j => ol N (m : Int) L F V (d j)) nu (sz N (m : Int)) T U n) ∧ (∀ j, j < n → OwU w.heap.size w' (T j) (sz N (m : Int)) (U j) (enc (slC 1 N X m (H j) (d j)))) ∧ Below w.heap.size w w' := by
  obtain ⟨j0, hj, hj0, hj1, hj2⟩ := info_parts info39
  obtain ⟨i0, hi, hi0, hi1, hi2⟩ := info_parts info3
  have hN := h.le
  have hnN := hR.nN
  have hn0 := hR.n0
  obtain ⟨w0, hw0⟩ : ∃ w0, w0 = w.alloc (.cells #[.int .i64 (K : Int), .int .i64 (R : Int), .int .i64 (m : Int), .int .i64 q, .slice ro N rc, .int .i64 nu, .slice ko N kc, .int .i64 tv] 57) := ⟨_, rfl⟩
  have B0 : Hid (Below w.heap.size w w0) := by show Below _ _ _; rw [hw0]; exact below_alloc _ _
  have HPAR := fun v (hv : Below w0.heap.size w0 v) => ren_held hw0 hv
  have HPAR : Hid _ := HPAR
  have HLL : Hid (∀ v, Below w.heap.size w v → Chl v lo n lc D AA (fun _ => m) CC H) := fun v hv => hl.below hv
  have HRR : Hid (∀ v, Below w.heap.size w v → Rw v ro N A L C F) := fun v hv => hr.below hv
  have HVV : Hid (∀ v, Below w.heap.size w v → Vec v ko N kc V) := fun v hv' => hv.below hv'
  have HD : Hid (∀ j, j < n → D j = ((d j : Nat) : Int) ∧ d j < N) := hR.D
  have HBU : Hid (∀ v bo cb B, Below w.heap.size w v → Own B v bo n cb D → Calls Tryz.prog 37 #[.agg #[.int .i64 (K : Int), .int .i64 (R : Int), .int .i64 (m : Int), .int .i64 q], .slice ko N kc, .slice bo n cb, .int .i64 tv] v fun e w' => ∃ ao cap, e = .returned (.tuple #[.slice ao N cap, .int .i64 0]) ∧ Own v.heap.size w' ao N cap X ∧ Below v.heap.size v w') := fun v bo cb B hb ho => by
    have := Bump_any h v ko bo N kc n cb V D tv (hv.below hb) ho.vec (by omega) (by omega) 0 hR.erB
    rw [hX] at this
    exact this
  have HOL : Hid (∀ v i, Below w.heap.size w v → i < N → Calls Tryz.prog 38 #[.agg #[.int .i64 (K : Int), .int .i64 (R : Int), .int .i64 (m : Int), .int .i64 q], .agg #[.slice (A (2 * i)) (L (2 * i)) (C (2 * i)), .slice (A (2 * i + 1)) (L (2 * i + 1)) (C (2 * i + 1))], .int .u8 1, .int .i64 (i : Int), .int .i64 (V i)] v fun e w' => e = .returned (.tuple #[.int .i64 ((ol N (m : Int) L F V i : Nat) : Int), .int .i64 0]) ∧ Below v.heap.size v w') := fun v i hb hi =>
    Older_any h v _ _ _ _ _ _ _ _ ((hr.below hb).bec (2 * i) (by omega)) ((hr.below hb).bec (2 * i + 1) (by omega)) 1 (i : Int) (V i) 0 (by unfold erO; rw [if_pos (he_err (.inl rfl) (hL _ (by omega)) (hL _ (by omega)) hi), if_pos (by have := hR.V i hi; have := hR.tv; omega)]) (yy N (m : Int) L F (2 * i)) (yy N (m : Int) L F (2 * i + 1)) (by unfold yy; rw [show 2 * i / 2 = i by omega]) (by unfold yy; rw [show (2 * i + 1) / 2 = i by omega])
  have HBY : Hid (∀ v ao ca j, Below w.heap.size w v → Vec v ao N ca X → j < n → Calls Tryz.prog 39 #[.agg #[.int .i64 (K : Int), .int .i64 (R : Int), .int .i64 (m : Int), .int .i64 q], .agg #[.int .u8 1, .int .i64 ((d j : Nat) : Int), .int .i64 tv, .int .i64 tv, .slice ao N ca, .slice (AA j) m (CC j)]] v fun e w' => ∃ bo cb, e = .returned (.tuple #[.slice bo (sz N (m : Int)) cb, .int .i64 0]) ∧ OwU v.heap.size w' bo (sz N (m : Int)) cb (enc (slC 1 N X m (H j) (d j))) ∧ Below v.heap.size v w') := fun v ao ca j hb hvx hjn => by
    have e1 : slC 1 N X m (H j) (d j) = ⟨1, ((d j : Nat) : Int), tv, tv, N, X, m, H j⟩ := by
      unfold slC; rw [← hX, hR.hit hjn, hR.mx]
    have e2 : erS 0 N (m : Int) (slC 1 N X m (H j) (d j)) = 0 := by
      have := (slC_ok (c := (m : Int)) (X := X) (kd := 1) (G := H j) (.inl rfl) (fun i hi => by have := hR.X i hi; rw [hX] at this; have := hR.tv; omega) (hR.D j hjn).2 (by omega)).ok
      rw [Int.toNat_natCast] at this
      unfold erS; rw [if_pos rfl, if_pos this]
    have := Bytes_any h v (slC 1 N X m (H j) (d j)) ao ca (AA j) (CC j) ⟨hvx, ((hl.below hb).bec j hjn)⟩ 0 e2
    unfold slv at this
    rw [e1] at this ⊢
    exact this
  obtain ⟨os, hos⟩ : ∃ os : Nat → Nat, os = fun j => ol N (m : Int) L F V (d j) := ⟨_, rfl⟩
  rw [← hos]
  have HOS : Hid (∀ j, ol N (m : Int) L F V (d j) = os j) := fun j => by rw [hos]
  have HOLJ : Hid (∀ v j, Below w.heap.size w v → j < n → Calls Tryz.prog 38 #[.agg #[.int .i64 (K : Int), .int .i64 (R : Int), .int .i64 (m : Int), .int .i64 q], .agg #[.slice (A (2 * d j)) (L (2 * d j)) (C (2 * d j)), .slice (A (2 * d j + 1)) (L (2 * d j + 1)) (C (2 * d j + 1))], .int .u8 1, .int .i64 ((d j : Nat) : Int), .int .i64 (V (d j))] v fun e w' => e = .returned (.tuple #[.int .i64 ((os j : Nat) : Int), .int .i64 0]) ∧ Below v.heap.size v w') := fun v j hb hjn => by
    have := HOL.out v (d j) hb (HD.out j hjn).2
    rw [HOS.out j] at this
    exact this
  obtain ⟨G, hG⟩ : ∃ G : Nat → Nat → UInt8, G = fun j => enc (slC 1 N X m (H j) (d j)) := ⟨_, rfl⟩
  have HG : Hid (∀ j, enc (slC 1 N X m (H j) (d j)) = G j) := fun j => by rw [hG]
  obtain ⟨S, hS⟩ : ∃ S, S = sz N (m : Int) := ⟨_, rfl⟩
  rw [← hS]
  rw [← hS] at HBY
  clear h hr hL hv hl hR hX hos hG hS
  go_enter Tryz.func18, Tryz.ntmps18
  go_wp2_with fail
  rw [← hw0]
  clear hw0
  go_wp2_with fail
  go_loopw [5, 20] (fun nm y wr => ∃ i : Nat, i ≤ n ∧ y = .int .i64 (i : Int) ∧ ∃ ao ca, nm = .slice ao i ca ∧ Hid (Own w0.heap.size wr ao i ca D) ∧ Hid (Below w0.heap.size w0 wr)) (fun _ y _ => n - (intOf y).toNat)
  case atStart => exact ⟨0, Nat.zero_le _, rfl, none, 0, rfl, own_nil _ _ _, Below.refl _ _⟩
  case round =>
    obtain ⟨i, hi', rfl, ao, ca, rfl, hown, hb⟩ := hrel
    by_cases hlt : i < n
    · obtain ⟨b, off, rfl, hc⟩ := (HLL.out wr (below_then B0.out hb.out)).at_ (by omega)
      obtain ⟨c0, c1⟩ := hc i hlt
      have i1 : (0 : Int) ≤ (i : Int) := by omega
      have i2 : (i : Int) < (n : Int) := by omega
      obtain ⟨wc, hwc⟩ : ∃ wc, wc = wr.alloc (.cells #[.int .i64 (D i), .slice (AA i) m (CC i)] 42) := ⟨_, rfl⟩
      have bc : Below wr.heap.size wr wc := by rw [hwc]; exact below_alloc _ _
      have HZ : Hid (wc.heap.size = wr.heap.size + 1) := by show _ = _; rw [hwc]; simp
      have HBC : Hid (Below w0.heap.size w0 wc) := below_then hb.out bc
      obtain ⟨xs, hxs⟩ : ∃ xs, xs = zOf i D := ⟨_, rfl⟩
      have HOWN : Hid (wc.ownsRow w0.heap.size 3 1 (.slice ao i ca) i xs) := by rw [hxs]; exact hown.out.below bc
      have HXS : Hid (xs ++ [.int .i64 (D i)] = zOf (i + 1) D) := by show _ = _; rw [zOf_succ, hxs]
      clear hc hown hb bc hxs
      go_wp2_with (at_builtin; rw [← hwc]; clear hwc; refine wpList_append_lies _ (by rfl) (.tmp 24) (.tmp 27) 36 (by rfl) w0.heap.size 3 i0 (.int .i64 0) 1 8 Tryz.underlying36 hi hi0 hi1 hi2 (by rfl) (by decide) (.slice ao i ca) i xs (by rfl) (owns_below HOWN.out (below_alloc _ _)) ⟨wr.heap.size + 1, 0, none⟩ 1 1 [.int .i64 (D i)] (by simp [Act.eval]) (by rfl) (by rw [← HZ.out]; exact World.news_of_block (heap_alloc_new wc _)) (by simp [Value.oneCell']) (by decide) (by unfold maxLen; omega) (by omega) (by have := HBC.out.size; simp; omega) (wr.heap.size + 1 + 1) (by simp [HZ.out]) ?_; intro g5 cap5 w5 hown5 hgrow5 _ _
                   have HO5 : Hid (Own w0.heap.size w5 (some ⟨g5, 0, none⟩) (i + 1) cap5 D) := by show Own _ _ _ _ _ _; unfold Own; rw [← HXS.out]; exact hown5
                   have HB5 : Hid (Below w0.heap.size w0 w5) := (below_then HBC.out (below_alloc _ _)).grown hgrow5 (by have := HBC.out.size; simp; omega) (fun r hr => (HOWN.out.lt r hr).1)
                   clear hown5 hgrow5)
      go_roundw
      case rel => exact ⟨i + 1, by omega, by go_num, _, cap5, rfl, HO5.out, HB5.out⟩
      case measure => simp [intOf]; omega
    · obtain rfl : i = n := by omega
      obtain ⟨wm, rfl⟩ : ∃ x, x = wr := ⟨wr, rfl⟩
      obtain ⟨a0, a1, a2, a3, a4, a5, a6, a7⟩ := HPAR.out wm hb.out
      have HBM : Hid (Below w0.heap.size w0 wm) := hb.out
      have HOM : Hid (Own w0.heap.size wm ao i ca D) := hown.out
      clear hown hb
      go_wp2_with (go_at_call 37; refine (HBU.out _ _ _ _ (below_then B0.out HBM.out) HOM.out).mono ?_; rintro e wv ⟨vo, vc, rfl, hvo, hvb⟩)
      have HVO : Hid (Own wm.heap.size wv vo N vc X) := hvo
      have HBV : Hid (Below w0.heap.size w0 wv) := below_then HBM.out hvb
      clear hvo hvb a0 a1 a2 a3 a4 a5 a6 a7
      go_wp2_with fail
      go_loopw [10, 43] (fun cl y wr => ∃ j : Nat, j ≤ i ∧ y = .int .i64 (j : Int) ∧ ∃ zo zc T U, cl = .slice zo j zc ∧ Hid (wr.ownsRow wv.heap.size 40 4 (.slice zo j zc) j (pto D os nu S T U j)) ∧ Hid (∀ t, t < j → OwU wv.heap.size wr (T t) S (U t) (G t)) ∧ Hid (Below wv.heap.size wv wr)) (fun _ y _ => i - (intOf y).toNat)
      case atStart => exact ⟨0, Nat.zero_le _, rfl, none, 0, fun _ => none, fun _ => 0, rfl, World.ownsRow_nil _ _ _ _, fun t ht => absurd ht (Nat.not_lt_zero t), Below.refl _ _⟩
      case round =>
        obtain ⟨j, hji, rfl, zo, zc, T, U, rfl, hown, hrow, hb⟩ := hrel
        by_cases hlt : j < i
        · have BWR : Hid (Below w.heap.size w wr) := below_then B0.out (below_then HBV.out hb.out)
          obtain ⟨b, off, rfl, hc⟩ := (HLL.out wr BWR.out).at_ (by omega)
          obtain ⟨c0, c1⟩ := hc j hlt
          obtain ⟨hd1, hd2⟩ := HD.out j hlt
          rw [hd1] at c0
          have i1 : (0 : Int) ≤ (j : Int) := by omega
          have i2 : (j : Int) < (i : Int) := by omega
          have i3 : (0 : Int) ≤ ((d j : Nat) : Int) := by omega
          have i4 : ((d j : Nat) : Int) < (N : Int) := by omega
          obtain ⟨wc, hwc⟩ : ∃ wc, wc = wr.alloc (.cells #[.int .i64 ((d j : Nat) : Int), .slice (AA j) m (CC j)] 42) := ⟨_, rfl⟩
          have bc : Below wr.heap.size wr wc := by rw [hwc]; exact below_alloc _ _
          have HCC : Hid (∀ v, Below wc.heap.size wc v → v.cell? ⟨wr.heap.size, 0, none⟩ = some (.int .i64 ((d j : Nat) : Int)) ∧ v.cell? ⟨wr.heap.size, 1, none⟩ = some (.slice (AA j) m (CC j))) := fun v hv => ⟨blk_held hwc hv 0 rfl, blk_held hwc hv 1 rfl⟩
          have HB1 : Hid (Below wv.heap.size wv wc) := below_then hb.out bc
          have BWC : Hid (Below w.heap.size w wc) := below_then BWR.out bc
          have BW0 : Hid (Below w0.heap.size w0 wc) := below_then HBV.out HB1.out
          obtain ⟨xs, hxs⟩ : ∃ xs, xs = pto D os nu S T U j := ⟨_, rfl⟩
          have HOWN : Hid (wc.ownsRow wv.heap.size 40 4 (.slice zo j zc) j xs) := by rw [hxs]; exact owns_below hown.out bc
          have HROW : Hid (∀ t, t < j → OwU wv.heap.size wc (T t) S (U t) (G t)) := fun t ht => (hrow.out t ht).below bc
          have HXS : Hid (xs = pto D os nu S T U j ∧ D j = ((d j : Nat) : Int)) := ⟨hxs, hd1⟩
          obtain ⟨rb, roff, rfl, hrc⟩ := (HRR.out wc BWC.out).at_ (by omega)
          obtain ⟨r0, r1⟩ := hrc (d j) hd2
          obtain ⟨kb, koff, rfl, hkc⟩ := (HVV.out wc BWC.out).rd (by omega)
          have k0 := hkc (d j) hd2
          obtain ⟨a0, a1, a2, a3, a4, a5, a6, a7⟩ := HPAR.out wc BW0.out
          clear hc hown hrow hb bc hxs hrc hkc hd1
          go_wp2_with fail
          rw [← hwc]
          clear hwc c0 c1
          go_region_held3 (fun v => v.cell? ⟨w.heap.size, 0, none⟩ = some (.int .i64 (K : Int)) ∧ v.cell? ⟨w.heap.size, 1, none⟩ = some (.int .i64 (R : Int)) ∧ v.cell? ⟨w.heap.size, 2, none⟩ = some (.int .i64 (m : Int)) ∧ v.cell? ⟨w.heap.size, 3, none⟩ = some (.int .i64 q) ∧ v.cell? ⟨w.heap.size, 4, none⟩ = some (.slice (some ⟨rb, roff, none⟩) N rc) ∧ v.cell? ⟨w.heap.size, 6, none⟩ = some (.slice (some ⟨kb, koff, none⟩) N kc) ∧ v.cell? ⟨rb, roff + d j * 2, none⟩ = some (.slice (A (2 * d j)) (L (2 * d j)) (C (2 * d j))) ∧ v.cell? ⟨rb, roff + d j * 2 + 1, none⟩ = some (.slice (A (2 * d j + 1)) (L (2 * d j + 1)) (C (2 * d j + 1))) ∧ v.cell? ⟨kb, koff + d j, none⟩ = some (.int .i64 (V (d j)))) (go_keep)
            ((go_at_call 38; refine (HOLJ.out _ _ (below_then BWC.out (below_drew _ _)) hlt).mono ?_; rintro e wd ⟨rfl, hdd⟩; have f0 := held (w := wc.drew) a0 hdd; have f1 := held (w := wc.drew) a1 hdd; have f2 := held (w := wc.drew) a2 hdd; have f3 := held (w := wc.drew) a3 hdd; have f4 := held (w := wc.drew) a4 hdd; have f6 := held (w := wc.drew) a6 hdd; have f7 := held (w := wc.drew) r0 hdd; have f8 := held (w := wc.drew) r1 hdd; have f9 := held (w := wc.drew) k0 hdd))
          have BCD : Hid (Below wc.heap.size wc wd) := below_then (below_drew _ _) hdd
          have HOW2 : Hid (wd.ownsRow wv.heap.size 40 4 (.slice zo j zc) j xs) := owns_below HOWN.out BCD.out
          have HRO2 : Hid (∀ t, t < j → OwU wv.heap.size wd (T t) S (U t) (G t)) := fun t ht => (HROW.out t ht).below BCD.out
          have HBD : Hid (Below wv.heap.size wv wd) := below_then HB1.out BCD.out
          obtain ⟨_, e1⟩ := HCC.out wd BCD.out
          have hto := (HPAR.out wd (below_then HBV.out HBD.out)).2.2.2.2.2.2.2
          clear hdd a0 a1 a2 a3 a4 a5 a6 a7 r0 r1 k0 f4 f6 f7 f8 f9
          go_wp2_with (first
            | (go_at_call 39; refine (HBY.out _ _ _ j (below_then BWC.out BCD.out) (HVO.out.vec.below HBD.out) hlt).mono ?_; rintro e we ⟨bo, cb, rfl, hbo, hbe⟩
               have HBO : Hid (OwU wd.heap.size we bo S cb (G j)) := by show OwU _ _ _ _ _ _; rw [← HG.out]; exact hbo
               have HOW3 : Hid (we.ownsRow wv.heap.size 40 4 (.slice zo j zc) j xs) := owns_below HOW2.out hbe
               have HRO3 : Hid (∀ t, t < j → OwU wv.heap.size we (T t) S (U t) (G t)) := fun t ht => (HRO2.out t ht).below hbe
               have HBE : Hid (Below wv.heap.size wv we) := below_then HBD.out hbe
               have hnu := (HPAR.out we (below_then HBV.out HBE.out)).2.2.2.2.2.1
               clear hbo hbe)
            | (at_builtin; refine wpList_append_lies _ (by rfl) (.tmp 81) (.tmp 88) 28 (by rfl) wv.heap.size 40 j0 (.agg #[.int .i64 0, .int .i64 0, .int .i64 0, .slice none 0 0]) 4 48 Tryz.underlying28 hj hj0 hj1 hj2 (by rfl) (by decide) (.slice zo j zc) j xs (by rfl) (owns_below HOW3.out (below_alloc _ _)) ⟨we.heap.size, 0, none⟩ 1 1 [.int .i64 ((d j : Nat) : Int), .int .i64 nu, .int .i64 ((os j : Nat) : Int), .slice bo S cb] (by simp [Act.eval]) (by rfl) (World.news_of_block (heap_alloc_new we _)) (by simp [Value.oneCell']) (by decide) (by unfold maxLen; omega) (by omega) (by have := HBE.out.size; simp; omega) (we.heap.size + 1) (by simp) ?_; intro g7 cap7 w7 hown7 hgrow7 _ _
               have HO7 : Hid (w7.ownsRow wv.heap.size 40 4 (.slice (some ⟨g7, 0, none⟩) (j + 1) cap7) (j + 1) (pto D os nu S (Cod.put j bo T) (Cod.put j cb U) (j + 1))) := by
                 rw [pto, Cod.put_at, Cod.put_at, pto_congr (T' := T) (U' := U) (fun i hi => ⟨Cod.put_ne _ _ (by omega), Cod.put_ne _ _ (by omega)⟩), ← HXS.out.1, HXS.out.2]
                 exact hown7
               have HR7 : Hid (∀ t, t < j + 1 → OwU wv.heap.size w7 (Cod.put j bo T t) S (Cod.put j cb U t) (G t)) := fun t ht => by
                 by_cases e : t = j
                 · subst e
                   rw [Cod.put_at, Cod.put_at]
                   exact owns_mono (owns_kept HBO.out HOW3.out (by decide) (below_alloc _ _) hgrow7) HBD.out.size
                 · rw [Cod.put_ne _ _ e, Cod.put_ne _ _ e]
                   exact owns_kept (HRO3.out t (by omega)) HOW3.out (by decide) (below_alloc _ _) hgrow7
               have HB7 : Hid (Below wv.heap.size wv w7) := (below_then HBE.out (below_alloc _ _)).grown hgrow7 (by have := HBE.out.size; simp; omega) (fun r hr => (HOW3.out.lt r hr).1)
               clear hown7 hgrow7))
          go_roundw
          case rel => exact ⟨j + 1, by omega, by go_num, _, cap7, _, _, rfl, HO7.out, HR7.out, HB7.out⟩
          case measure => simp [intOf]; omega
        · obtain rfl : j = i := by omega
          have BV := below_then B0.out HBV.out
          have hsz := BV.size
          go_wp2_with fail
          go_ret
          exact ⟨zo, zc, T, U, rfl, owns_mono hown.out hsz, fun t ht => by rw [HG.out]; exact (hrow.out t ht).mono hsz, below_then BV hb.out⟩
end Go.Proofs.YtfhefbbhlmdjkaaGreat
/- Plan. -/
namespace Go.Proofs.YtfhefbbhlmdjkaaGreat
open Go.RowKit

/-- Which drives are written. -/
def Lw (d : Nat → Nat) : Nat → Nat → Nat
  | 0, _ => 0
  | n + 1, i => if d n = i then 1 else Lw d n i
theorem Lw_hit {d : Nat → Nat} : ∀ {n j : Nat}, j < n → Lw d n (d j) ≠ 0
  | 0, j, h => absurd h (Nat.not_lt_zero j)
  | n + 1, j, h => by
    rw [Lw]
    by_cases e : d n = d j
    · rw [if_pos e]; decide
    · rw [if_neg e]
      exact Lw_hit (n := n) (by
        have : j ≠ n := fun q => e (by rw [q])
        omega)
theorem Lw_inv {d : Nat → Nat} : ∀ {n i : Nat}, Lw d n i ≠ 0 → ∃ j, j < n ∧ d j = i
  | 0, _, h => absurd rfl h
  | n + 1, i, h => by
    rw [Lw] at h
    by_cases e : d n = i
    · exact ⟨n, by omega, e⟩
    · rw [if_neg e] at h
      obtain ⟨j, h1, h2⟩ := Lw_inv h
      exact ⟨j, by omega, h2⟩
theorem cnt_flat {L : Nat → Nat} {a : Nat} : ∀ {b : Nat}, a ≤ b → (∀ i, a ≤ i → i < b → L i = 0) → Cod.cnt L b = Cod.cnt L a
  | 0, h, _ => by rw [show a = 0 by omega]
  | b + 1, h, h0 => by
    by_cases e : a = b + 1
    · rw [e]
    · rw [Cod.cnt_skip (h0 b (by omega) (by omega))]
      exact cnt_flat (by omega) fun i h1 h2 => h0 i h1 (by omega)
/-- Rising numbers below N. -/
structure Ris (d : Nat → Nat) (n N : Nat) : Prop where
  up : ∀ i j, i < j → j < n → d i < d j
  lt : ∀ j, j < n → d j < N
theorem Ris.at_ {d : Nat → Nat} {n N : Nat} (h : Ris d n N) : ∀ j, j < n → Cod.cnt (Lw d n) (d j) = j
  | 0, hj => by
    rw [cnt_flat (a := 0) (Nat.zero_le _) fun i _ hi => ?_]
    · rfl
    · by_cases e : Lw d n i = 0
      · exact e
      · obtain ⟨j, h1, h2⟩ := Lw_inv e
        by_cases g : j = 0
        · subst g; omega
        · have := h.up 0 j (by omega) h1; omega
  | j + 1, hj => by
    have hu := h.up j (j + 1) (by omega) hj
    rw [cnt_flat (a := d j + 1) (by omega) fun i h0 hi => ?_]
    · rw [Cod.cnt_take (Lw_hit (by omega)), h.at_ j (by omega)]
    · by_cases e : Lw d n i = 0
      · exact e
      · obtain ⟨l, h1, h2⟩ := Lw_inv e
        rcases Nat.lt_trichotomy l j with g | g | g
        · have := h.up l j g (by omega); omega
        · subst g; omega
        · by_cases g2 : l = j + 1
          · subst g2; omega
          · have := h.up (j + 1) l (by omega) h1; omega
theorem Ris.all {d : Nat → Nat} {n N : Nat} (h : Ris d n N) : Cod.cnt (Lw d n) N = n := by
  cases n with
  | zero => exact (cnt_flat (L := Lw d 0) (a := 0) (b := N) (Nat.zero_le _) fun i _ _ => rfl).trans rfl
  | succ n =>
    rw [cnt_flat (a := d n + 1) (h.lt n (by omega)) fun i h0 hi => ?_]
    · rw [Cod.cnt_take (Lw_hit (by omega)), h.at_ n (by omega)]
    · by_cases e : Lw d (n + 1) i = 0
      · exact e
      · obtain ⟨l, h1, h2⟩ := Lw_inv e
        by_cases g : l = n
        · subst g; omega
        · have := h.up l n (by omega) (by omega); omega
theorem Ris.inv {d : Nat → Nat} {n N : Nat} (h : Ris d n N) {i : Nat} (hi : Lw d n i ≠ 0) : Cod.cnt (Lw d n) i < n ∧ d (Cod.cnt (Lw d n) i) = i := by
  obtain ⟨j, h1, rfl⟩ := Lw_inv hi
  rw [h.at_ j h1]; exact ⟨h1, rfl⟩
theorem ptl_pto {d : Nat → Nat} {n N : Nat} (h : Ris d n N) {D : Nat → Int} (hD : ∀ j, j < n → D j = ((d j : Nat) : Int)) (os : Nat → Nat) (nu : Int) (S : Nat) (T : Nat → Option Addr) (U : Nat → Nat) : ∀ i, ptl (Lw d n) os nu S (fun i => T (Cod.cnt (Lw d n) i)) (fun i => U (Cod.cnt (Lw d n) i)) i = pto D (fun j => os (d j)) nu S T U (Cod.cnt (Lw d n) i)
  | 0 => rfl
  | i + 1 => by
    rw [ptl]
    by_cases e : Lw d n i = 0
    · rw [if_pos e, Cod.cnt_skip e]; exact ptl_pto h hD os nu S T U i
    · obtain ⟨h1, h2⟩ := h.inv e
      rw [if_neg e, Cod.cnt_take e, pto, ptl_pto h hD os nu S T U i, hD _ h1, h2]
/-- The cells that are written: those that change, then all parity. -/
def dq (K n : Nat) (D : Nat → Int) (j : Nat) : Nat := if j < n then (D j).toNat else K + (j - n)
theorem dq_D {K n : Nat} {D : Nat → Int} (hg : gdB D (K : Int) n) (j : Nat) : Cod.cat n D (fun i => ((K + i : Nat) : Int)) j = ((dq K n D j : Nat) : Int) := by
  unfold dq Cod.cat
  by_cases e : j < n
  · rw [if_pos e, if_pos e]; have := gd_ge hg e; omega
  · rw [if_neg e, if_neg e]
theorem gd_len {D : Nat → Int} {K : Nat} {n : Nat} (h : gdB D (K : Int) n) : n ≤ K := by
  have key : ∀ j, j < n → (j : Int) ≤ D j := fun j => by
    induction j with
    | zero => intro h0; have := gd_ge h h0; omega
    | succ j ih => intro h0; have := ih (by omega); have := gd_lt h (j + 1) j (by omega) h0; omega
  cases n with
  | zero => omega
  | succ n => have := key n (by omega); have := gd_ge h (show n < n + 1 by omega); omega
theorem dq_ris {K R n : Nat} {D : Nat → Int} (hg : gdB D (K : Int) n) : Ris (dq K n D) (n + R) (K + R) := by
  refine ⟨fun i j hij hj => ?_, fun j hj => ?_⟩
  · unfold dq
    by_cases e : j < n
    · rw [if_pos e, if_pos (by omega)]
      have := gd_lt hg j i hij e
      have := gd_ge hg (show i < n by omega)
      have := gd_ge hg e
      omega
    · rw [if_neg e]
      by_cases e2 : i < n
      · rw [if_pos e2]; have := gd_ge hg e2; omega
      · rw [if_neg e2]; omega
  · unfold dq
    by_cases e : j < n
    · rw [if_pos e]; have := gd_ge hg e; omega
    · rw [if_neg e]; omega
set_option maxHeartbeats 2000000 in
set_option maxRecDepth 100000 in
theorem plan_no {k r c q : Int} {N W : Nat} {x : Int} (h : Par k r c q N W x) (w : World) (ro : Option Addr) (rn rc : Nat) (A : Nat → Option Addr) (L C : Nat → Nat) (F : Nat → Nat → UInt8) (hr : Rw w ro rn A L C F) (nu fr tv : Int) (lo : Option Addr) (n lc : Nat) (E : Int) (hE : erK x N c rn L 1 fr = E) (he : E ≠ 0) :
    Calls Tryz.prog 7 #[.agg #[.int .i64 k, .int .i64 r, .int .i64 c, .int .i64 q], .slice ro rn rc, .int .i64 nu, .int .i64 fr, .int .i64 tv, .slice lo n lc] w fun e w' => e = .returned (.tuple #[.slice none 0 0, .int .i64 E]) ∧ Below w.heap.size w w' := by
  have HV : Hid (∀ v, Below w.heap.size w v → Calls Tryz.prog 16 #[.agg #[.int .i64 k, .int .i64 r, .int .i64 c, .int .i64 q], .slice ro rn rc, .int .u8 1, .int .i64 fr] v fun e w' => ∃ ao n ca b, e = .returned (.tuple #[.slice ao n ca, .bool b, .int .i64 E]) ∧ Below v.heap.size v w') := fun v hv => by
    refine (Vector_any h v ro rn rc A L C F (hr.below hv) 1 fr E hE _ rfl).mono ?_
    rintro e w' ⟨ao, ca, rfl, _, hb⟩
    exact ⟨_, _, _, _, rfl, hb⟩
  obtain ⟨w0, hw0⟩ : ∃ w0, w0 = w.alloc (.cells #[.int .i64 k, .int .i64 r, .int .i64 c, .int .i64 q] 23) := ⟨_, rfl⟩
  have B0 : Hid (Below w.heap.size w w0) := by show Below _ _ _; rw [hw0]; exact below_alloc _ _
  have e1 : (E != 0) = true := by simp [he]
  clear h hr hE
  go_enter Tryz.func7, Tryz.ntmps7
  go_wp2_with fail
  rw [← hw0]
  clear hw0
  refine (HV.out _ B0.out).mono ?_
  rintro e wv ⟨ao, vn, ca, b, rfl, hb⟩
  go_wp2_with fail
  go_ret2
  exact ⟨rfl, below_then B0.out hb⟩
/-- The data of the cells that are written. -/
def pH (K N n : Nat) (z : Nat → Sl) (D : Nat → Int) (H : Nat → Nat → UInt8) : Nat → Nat → UInt8 := Cod.cat n H (nwP K n D (cH K z N) H)
theorem chl_len {w : World} {lo : Option Addr} {n lc : Nat} {D : Nat → Int} {A : Nat → Option Addr} {L L' C : Nat → Nat} {F : Nat → Nat → UInt8} (h : Chl w lo n lc D A L C F) (e : ∀ i, i < n → L i = L' i) : Chl w lo n lc D A L' C F :=
  ⟨fun hn => by obtain ⟨b, off, e1, hc⟩ := h.at_ hn; exact ⟨b, off, e1, fun i hi => by rw [← e i hi]; exact hc i hi⟩, fun i hi => by rw [← e i hi]; exact h.bec i hi, h.nil, h.room⟩
/-- What can be read is told. -/
theorem told_of {N : Nat} {c : Int} {L : Nat → Nat} {F : Nat → Nat → UInt8} {fr : Int} {t : Sl} {K : Nat} (ht : tS (yy N c L F) 1 fr (2 * N) = t) (hE : erL K (zv N c L F 1 fr) N = 0) (hK : 1 ≤ K) : t.ce ≠ 0 ∧ t.vn = N ∧ ∀ i, i < N → 1 ≤ t.V i ∧ t.V i ≤ fr := by
  rcases tS_is (kd := 1) (v := fr) (.inl rfl) (yy_ok N c L F) (2 * N) (Nat.le_refl _) with ⟨h1, _⟩ | ⟨j, h1, h2, h3, h4, _⟩
  · exfalso
    have h0 : ∀ i, Lz (zv N c L F 1 fr) i = 0 := fun i => by
      show (zz (yy N c L F) 1 (tS (yy N c L F) 1 fr (2 * N)) i).dn = 0
      rw [h1]; rfl
    have : Cod.cnt (Lz (zv N c L F 1 fr)) N = 0 := (cnt_flat (a := 0) (Nat.zero_le _) fun i _ _ => h0 i).trans rfl
    unfold erL at hE
    rw [this, if_neg (by omega)] at hE
    exact absurd hE (by decide)
  · rw [ht] at h2
    rw [← h2] at h3 h4
    have ho := ok_of h4.1
    have hst : t.st = fr := (of_decide_eq_true h3).2
    refine ⟨ho.ne, ho.vn, fun i hi => ⟨(ho.V i hi).1, ?_⟩⟩
    have := mx_leq (R := t.V) hi
    rw [← ho.st, hst] at this
    exact this
set_option maxHeartbeats 4000000 in
set_option maxRecDepth 100000 in
theorem plan_yes {K R m : Nat} {q : Int} {N W : Nat} (h : Par (K : Int) (R : Int) (m : Int) q N W 0) (w : World) (ro : Option Addr) (rc : Nat) (A : Nat → Option Addr) (L C : Nat → Nat) (F : Nat → Nat → UInt8) (hr : Rw w ro N A L C F) (hL : ∀ j, j < 2 * N → L j = 0 ∨ L j = sz N (m : Int)) (nu fr tv : Int) (hfr : 1 ≤ fr ∧ fr ≤ 1073741824)
    (lo : Option Addr) (n lc : Nat) (D : Nat → Int) (AA : Nat → Option Addr) (LL CC : Nat → Nat) (H : Nat → Nat → UInt8) (hl : Chl w lo n lc D AA LL CC H) (hn : n ≤ 100) (t : Sl) (ht : tS (yy N (m : Int) L F) 1 fr (2 * N) = t) (z : Nat → Sl) (hz : zv N (m : Int) L F 1 fr = z) :
    Calls Tryz.prog 7 #[.agg #[.int .i64 (K : Int), .int .i64 (R : Int), .int .i64 (m : Int), .int .i64 q], .slice ro N rc, .int .i64 nu, .int .i64 fr, .int .i64 tv, .slice lo n lc] w fun e w' => (∃ E, E ≠ 0 ∧ e = .returned (.tuple #[.slice none 0 0, .int .i64 E]) ∧ Below w.heap.size w w') ∨
      (fr < tv ∧ tv ≤ 1073741824 ∧ 0 < n ∧ gdB D (K : Int) n ∧ (∀ i, i < n → LL i = m) ∧ erL K z N = 0 ∧ (0 ≤ nu ∧ nu < q) ∧ t.ce ≠ 0 ∧ ∃ ao cap T U, e = .returned (.tuple #[.slice ao (n + R) cap, .int .i64 0]) ∧ PL w.heap.size w' ao (n + R) cap N (Lw (dq K n D) (n + R)) (ol N (m : Int) L F t.V) nu (sz N (m : Int)) T U (fun i => enc (slC 1 N (bmp (Cod.cat n D (fun i => ((K + i : Nat) : Int))) tv t.V (n + R)) m (pH K N n z D H (Cod.cnt (Lw (dq K n D) (n + R)) i)) i)) ∧ Below w.heap.size w w') := by
  have hp : (1 ≤ K ∧ K ≤ 12 ∧ R ≤ 4 ∧ 8 ≤ m ∧ m ≤ 64) ∧ N = K + R := by
    rcases h with ⟨h1, _, h0, _⟩ | ⟨_, _, _, h0⟩
    · obtain ⟨h1, h2, h3, h4, h5, h6, h7, h8, h9⟩ := may_true h1; omega
    · exact absurd h0 (by decide)
  obtain ⟨⟨hK, hK2, hR, hm, hm2⟩, rfl⟩ := hp
  have eK : erK 0 (K + R) (m : Int) (K + R) L 1 fr = 0 := erK_ok hL (.inl rfl) hfr
  have HV : Hid (∀ v, Below w.heap.size w v → Calls Tryz.prog 16 #[.agg #[.int .i64 (K : Int), .int .i64 (R : Int), .int .i64 (m : Int), .int .i64 q], .slice ro (K + R) rc, .int .u8 1, .int .i64 fr] v fun e w' => ∃ ao ca b, e = .returned (.tuple #[.slice ao t.vn ca, .bool b, .int .i64 0]) ∧ Own v.heap.size w' ao t.vn ca t.V ∧ Below v.heap.size v w') := fun v hv => by
    refine (Vector_any h v ro _ rc A L C F (hr.below hv) 1 fr 0 eK t ht).mono ?_
    rintro e w' ⟨ao, ca, rfl, h1, hb⟩
    exact ⟨_, _, _, rfl, h1, hb⟩
  obtain ⟨G, hG⟩ : ∃ G, erG D LL (K : Int) m n = G := ⟨_, rfl⟩
  have HWR : Hid (∀ v, Below w.heap.size w v → Calls Tryz.prog 17 #[.agg #[.int .i64 (K : Int), .int .i64 (R : Int), .int .i64 (m : Int), .int .i64 q], .slice lo n lc] v fun e w' => e = .returned (.int .i64 G) ∧ Below v.heap.size v w') := fun v hv => wrong_any (K : Int) (R : Int) q m v lo n lc D AA LL CC H (hl.below hv) hn G hG
  obtain ⟨Q, hQ⟩ : ∃ Q, erL K z (K + R) = Q := ⟨_, rfl⟩
  have HCE : Hid (∀ v, Below w.heap.size w v → Calls Tryz.prog 12 #[.agg #[.int .i64 (K : Int), .int .i64 (R : Int), .int .i64 (m : Int), .int .i64 q], .slice ro (K + R) rc, .int .u8 1, .int .i64 fr] v (AnsC v Q (K + R) m (cH K z (K + R)))) := fun v hv => by
    have := Cells_any h v ro _ rc A L C F (hr.below hv) 1 fr Q (by rw [eK, hz]; unfold erV2; rw [if_pos rfl, Int.toNat_natCast]; exact hQ)
    rw [hz, Int.toNat_natCast, Int.toNat_natCast] at this
    exact this
  unfold AnsC at HCE
  obtain ⟨w0, hw0⟩ : ∃ w0, w0 = w.alloc (.cells #[.int .i64 (K : Int), .int .i64 (R : Int), .int .i64 (m : Int), .int .i64 q] 23) := ⟨_, rfl⟩
  have B0 : Hid (Below w.heap.size w w0) := by show Below _ _ _; rw [hw0]; exact below_alloc _ _
  have HPAR : Hid (∀ v, Below w0.heap.size w0 v → v.cell? ⟨w.heap.size, 0, none⟩ = some (.int .i64 (K : Int)) ∧ v.cell? ⟨w.heap.size, 1, none⟩ = some (.int .i64 (R : Int)) ∧ v.cell? ⟨w.heap.size, 2, none⟩ = some (.int .i64 (m : Int)) ∧ v.cell? ⟨w.heap.size, 3, none⟩ = some (.int .i64 q)) := fun v hv => par_held hw0 hv
  have HLL : Hid (∀ v, Below w.heap.size w v → Chl v lo n lc D AA LL CC H) := fun v hv => hl.below hv
  have HRR : Hid (∀ v, Below w.heap.size w v → Rw v ro (K + R) A L C F) := fun v hv => hr.below hv
  have HP : Hid (Par (K : Int) (R : Int) (m : Int) q (K + R) W 0) := h
  have HL : Hid (∀ j, j < 2 * (K + R) → L j = 0 ∨ L j = sz (K + R) (m : Int)) := hL
  have HT : Hid (tS (yy (K + R) (m : Int) L F) 1 fr (2 * (K + R)) = t ∧ zv (K + R) (m : Int) L F 1 fr = z) := ⟨ht, hz⟩
  have HGG : Hid (erG D LL (K : Int) m n = G) := hG
  have HQ : Hid (erL K z (K + R) = Q) := hQ
  clear h hr hL hl ht hz eK hG hQ
  go_enter Tryz.func7, Tryz.ntmps7
  go_wp2_with fail
  rw [← hw0]
  clear hw0
  refine (HV.out _ B0.out).mono ?_
  rintro e wv ⟨vo, vc, b, rfl, hvo, hvb⟩
  have HVO : Hid (Own w0.heap.size wv vo t.vn vc t.V) := hvo
  have HBV : Hid (Below w0.heap.size w0 wv) := hvb
  obtain ⟨a0, a1, a2, a3⟩ := HPAR.out wv HBV.out
  have BWV := below_then B0.out HBV.out
  clear hvo hvb
  by_cases g1 : nu < 0
  · go_wp2_with fail
    go_ret2
    exact .inl ⟨2, by decide, rfl, BWV⟩
  by_cases g2 : q ≤ nu
  · go_wp2_with fail
    go_ret2
    exact .inl ⟨2, by decide, rfl, BWV⟩
  by_cases g3 : tv ≤ fr
  · go_wp2_with fail
    go_ret2
    exact .inl ⟨2, by decide, rfl, BWV⟩
  by_cases g4 : 1073741824 < tv
  · go_wp2_with fail
    go_ret2
    exact .inl ⟨2, by decide, rfl, BWV⟩
  have HBW : Hid (Below w.heap.size w wv) := BWV
  clear BWV
  go_wp2_with fail
  refine (HWR.out _ HBW.out).mono ?_
  rintro e wg ⟨rfl, hwg⟩
  have HBG : Hid (Below w0.heap.size w0 wg) := below_then HBV.out hwg
  have HVG : Hid (Own w0.heap.size wg vo t.vn vc t.V) := HVO.out.below hwg
  obtain ⟨b0, b1, b2, b3⟩ := HPAR.out wg HBG.out
  clear a0 a1 a2 a3 hwg
  by_cases g5 : ¬ G = 0
  · have e1 : (G != 0) = true := by simp [g5]
    go_wp2_with fail
    go_ret2
    exact .inl ⟨G, g5, rfl, below_then B0.out HBG.out⟩
  obtain rfl : G = 0 := Decidable.not_not.1 g5
  clear g5
  go_wp2_with fail
  refine (HCE.out _ (below_then B0.out HBG.out)).mono ?_
  rintro e wc ⟨co, cc, CT, CU, rfl, hcl, hwc⟩
  have HBC : Hid (Below w0.heap.size w0 wc) := below_then HBG.out hwc
  have HVC : Hid (Own w0.heap.size wc vo t.vn vc t.V) := HVG.out.below hwc
  clear b0 b1 b2 b3
  by_cases g6 : ¬ Q = 0
  · have e1 : (Q != 0) = true := by simp [g6]
    go_wp2_with fail
    go_ret2
    exact .inl ⟨Q, g6, rfl, below_then B0.out HBC.out⟩
  obtain rfl : Q = 0 := Decidable.not_not.1 g6
  clear g6
  rw [show lenE 0 (K + R) = K + R from rfl] at *
  have hg := HGG.out
  unfold erG at hg
  by_cases hg1 : ¬ (0 < n ∧ gdB D (K : Int) n)
  · rw [if_neg hg1] at hg; exact absurd hg (by decide)
  have hg1 := Classical.not_not.1 hg1
  rw [if_pos hg1] at hg
  by_cases hg2 : ¬ (∀ i, i < n → LL i = m)
  · rw [if_neg hg2] at hg; exact absurd hg (by decide)
  have hg2 := Classical.not_not.1 hg2
  clear hg
  obtain ⟨hn0, hgd⟩ := hg1
  have hnK := gd_len hgd
  have htt := told_of HT.out.1 (by rw [HT.out.2]; exact HQ.out) hK
  obtain ⟨htc, hvn, hVr⟩ := htt
  have hren : Ren (K + R) t.V (n + R) (Cod.cat n D (fun i => ((K + i : Nat) : Int))) (dq K n D) tv := ⟨fun i hi => by have := hVr i hi; omega, by omega, fun j hj => ⟨dq_D hgd j, (dq_ris (R := R) hgd).lt j hj⟩, by omega, by omega⟩
  obtain ⟨X, hX⟩ : ∃ X, bmp (Cod.cat n D (fun i => ((K + i : Nat) : Int))) tv t.V (n + R) = X := ⟨_, rfl⟩
  have HCH : Hid (∀ v, Below wc.heap.size wc v → Cls wg.heap.size v co (K + R) cc m CT CU (cH K z (K + R))) := fun v hv => hcl.below hv
  have HLM : Hid (∀ v, Below w.heap.size w v → Chl v lo n lc D AA (fun _ => m) CC H) := fun v hv => chl_len (HLL.out v hv) hg2
  have BWC : Hid (Below w.heap.size w wc) := below_then B0.out HBC.out
  have HPY : Hid (∀ v, Below wc.heap.size wc v → Calls Tryz.prog 20 #[.agg #[.int .i64 (K : Int), .int .i64 (R : Int), .int .i64 (m : Int), .int .i64 q], .slice co (K + R) cc, .slice lo n lc] v fun e w' => ∃ ao cap T' U', e = .returned (.slice ao R cap) ∧ Chl w' ao R cap (fun i => ((K + i : Nat) : Int)) T' (fun _ => m) U' (nwP K n D (cH K z (K + R)) H) ∧ Below v.heap.size v w') := fun v hv => by
    refine (parity_any q v _ co cc CT CU _ (HCH.out v hv) lo n lc D AA CC H (HLM.out v (below_then BWC.out hv)) hgd hn0 (by omega) hK hK2 hR (by omega) hm2).mono ?_
    rintro e w' ⟨ao, cap, T', U', rfl, h1, h2⟩
    exact ⟨ao, cap, T', U', rfl, h1.chl, h2⟩
  obtain ⟨M, hM⟩ : ∃ M, M = pH K (K + R) n z D H := ⟨_, rfl⟩
  have HCO : Hid (∀ v g xo xc T' U', Below w.heap.size w v → v.cell? ⟨g, 0, none⟩ = some (.slice lo n lc) → v.cell? ⟨g, 1, none⟩ = some (.slice xo R xc) → Chl v xo R xc (fun i => ((K + i : Nat) : Int)) T' (fun _ => m) U' (nwP K n D (cH K z (K + R)) H) → Calls Tryz.prog 19 #[.slice (some ⟨g, 0, none⟩) 2 2] v fun e w' => ∃ qo qc A' C', e = .returned (.slice qo (n + R) qc) ∧ Chl w' qo (n + R) qc (Cod.cat n D (fun i => ((K + i : Nat) : Int))) A' (fun _ => m) C' M ∧ Below v.heap.size v w') := fun v g xo xc T' U' hv c0 c1 hx => by
    refine (concatc_any v g lo xo n lc R xc _ _ _ _ _ _ _ _ _ _ c0 c1 (by omega) (by omega) (HLM.out v hv) hx).mono ?_
    rintro e w' ⟨qo, qc, rfl, h1, h2⟩
    refine ⟨qo, qc, Cod.cat n AA T', Cod.cat n CC U', rfl, ?_, h2⟩
    rw [hM]
    exact chl_len h1 fun i _ => by unfold Cod.cat; split <;> rfl
  have HPU : Hid (∀ v qo qc A' C', Below wc.heap.size wc v → Chl v qo (n + R) qc (Cod.cat n D (fun i => ((K + i : Nat) : Int))) A' (fun _ => m) C' M → Calls Tryz.prog 18 #[.agg #[.int .i64 (K : Int), .int .i64 (R : Int), .int .i64 (m : Int), .int .i64 q, .slice ro (K + R) rc, .int .i64 nu, .slice vo (K + R) vc, .int .i64 tv], .slice qo (n + R) qc] v fun e w' => ∃ ao cap T U, e = .returned (.slice ao (n + R) cap) ∧ PL v.heap.size w' ao (n + R) cap (K + R) (Lw (dq K n D) (n + R)) (ol (K + R) (m : Int) L F t.V) nu (sz (K + R) (m : Int)) T U (fun i => enc (slC 1 (K + R) X m (M (Cod.cnt (Lw (dq K n D) (n + R)) i)) i)) ∧ Below v.heap.size v w') := fun v qo qc A' C' hv hq => by
    have hvv := (HVC.out.below hv).vec
    rw [hvn] at hvv
    refine (puts_any HP.out v ro rc A L C F (HRR.out v (below_then BWC.out hv)) HL.out nu tv vo vc t.V hvv qo (n + R) qc _ A' C' M hq (dq K n D) hren X hX).mono ?_
    rintro e w' ⟨ao, cap, T, U, rfl, h1, h2, h3⟩
    have hri := dq_ris (R := R) hgd
    refine ⟨ao, cap, fun i => T (Cod.cnt (Lw (dq K n D) (n + R)) i), fun i => U (Cod.cnt (Lw (dq K n D) (n + R)) i), rfl, ⟨?_, fun i hi hne => ?_⟩, h3⟩
    · rw [ptl_pto hri (D := Cod.cat n D (fun i => ((K + i : Nat) : Int))) (fun j _ => dq_D hgd j), hri.all]; exact h1
    · obtain ⟨k1, k2⟩ := hri.inv hne
      have := h2 _ k1
      rw [k2] at this
      exact this
  obtain ⟨ws, hws⟩ : ∃ ws, ws = wc.alloc (.cells #[.int .i64 (K : Int), .int .i64 (R : Int), .int .i64 (m : Int), .int .i64 q, .slice ro (K + R) rc, .int .i64 nu, .slice vo (K + R) vc, .int .i64 tv] 57) := ⟨_, rfl⟩
  have BCS : Hid (Below wc.heap.size wc ws) := by show Below _ _ _; rw [hws]; exact below_alloc _ _
  obtain ⟨s0, s1, s2, s3, s4, s5, s6, s7⟩ := ren_held hws (Below.refl _ ws)
  obtain ⟨a0, a1, a2, a3⟩ := HPAR.out ws (below_then HBC.out BCS.out)
  have HFI : Hid (fr < tv ∧ tv ≤ 1073741824 ∧ 0 < n ∧ gdB D (K : Int) n ∧ (∀ i, i < n → LL i = m) ∧ erL K z (K + R) = 0 ∧ (0 ≤ nu ∧ nu < q) ∧ t.ce ≠ 0) := ⟨by omega, by omega, hn0, hgd, hg2, HQ.out, ⟨by omega, by omega⟩, htc⟩
  have HFX : Hid (bmp (Cod.cat n D (fun i => ((K + i : Nat) : Int))) tv t.V (n + R) = X ∧ M = pH K (K + R) n z D H) := ⟨hX, hM⟩
  have hvn2 := hvn
  clear hcl hg1 hg2 hn0 hgd hren hVr htc hX hM hnK hwc
  rw [hvn]
  clear hvn hvn2
  obtain ⟨p0, p1, p2, p3⟩ := HPAR.out wc HBC.out
  go_wp2_with fail
  rw [← hws]
  clear hws p0 p1 p2 p3
  go_region_held3 (fun v => v.cell? ⟨w.heap.size, 0, none⟩ = some (.int .i64 (K : Int)) ∧ v.cell? ⟨w.heap.size, 1, none⟩ = some (.int .i64 (R : Int)) ∧ v.cell? ⟨w.heap.size, 2, none⟩ = some (.int .i64 (m : Int)) ∧ v.cell? ⟨w.heap.size, 3, none⟩ = some (.int .i64 q) ∧ v.cell? ⟨wc.heap.size, 0, none⟩ = some (.int .i64 (K : Int)) ∧ v.cell? ⟨wc.heap.size, 1, none⟩ = some (.int .i64 (R : Int)) ∧ v.cell? ⟨wc.heap.size, 2, none⟩ = some (.int .i64 (m : Int)) ∧ v.cell? ⟨wc.heap.size, 3, none⟩ = some (.int .i64 q) ∧ v.cell? ⟨wc.heap.size, 4, none⟩ = some (.slice ro (K + R) rc) ∧ v.cell? ⟨wc.heap.size, 5, none⟩ = some (.int .i64 nu) ∧ v.cell? ⟨wc.heap.size, 6, none⟩ = some (.slice vo (K + R) vc) ∧ v.cell? ⟨wc.heap.size, 7, none⟩ = some (.int .i64 tv)) (go_keep)
    ((first
      | (go_at_call 20; refine (HPY.out _ (below_then BCS.out (below_drew _ _))).mono ?_; rintro e wp ⟨xo, xc, T', U', rfl, hxs, hdd⟩
         have HXS : Hid (Chl wp xo R xc (fun i => ((K + i : Nat) : Int)) T' (fun _ => m) U' (nwP K n D (cH K z (K + R)) H)) := hxs
         have HDD : Hid (Below wc.heap.size wc wp) := below_then BCS.out (below_then (below_drew _ _) hdd)
         have f0 := held (w := ws.drew) a0 hdd; have f1 := held (w := ws.drew) a1 hdd; have f2 := held (w := ws.drew) a2 hdd; have f3 := held (w := ws.drew) a3 hdd
         have r0 := held (w := ws.drew) s0 hdd; have r1 := held (w := ws.drew) s1 hdd; have r2 := held (w := ws.drew) s2 hdd; have r3 := held (w := ws.drew) s3 hdd; have r4 := held (w := ws.drew) s4 hdd; have r5 := held (w := ws.drew) s5 hdd; have r6 := held (w := ws.drew) s6 hdd; have r7 := held (w := ws.drew) s7 hdd)
      | (go_at_call 19; refine (HCO.out _ _ xo xc T' U' (below_then BWC.out (below_then HDD.out (below_alloc _ _))) (blk_held (w := wp) rfl (Below.refl _ _) 0 rfl) (blk_held (w := wp) rfl (Below.refl _ _) 1 rfl) (HXS.out.below (below_alloc _ _))).mono ?_; rintro e wq ⟨qo, qc, A', C', rfl, hq, hqq⟩
         have HQQ : Hid (Chl wq qo (n + R) qc (Cod.cat n D (fun i => ((K + i : Nat) : Int))) A' (fun _ => m) C' M) := hq
         have hpq := below_then (below_alloc wp (.cells #[.slice lo n lc, .slice xo R xc] 25)) hqq
         have HDQ : Hid (Below wc.heap.size wc wq) := below_then HDD.out hpq
         have u0 := held f0 hpq; have u1 := held f1 hpq; have u2 := held f2 hpq; have u3 := held f3 hpq
         have v0 := held r0 hpq; have v1 := held r1 hpq; have v2 := held r2 hpq; have v3 := held r3 hpq; have v4 := held r4 hpq; have v5 := held r5 hpq; have v6 := held r6 hpq; have v7 := held r7 hpq)
      | (go_at_call 18; refine (HPU.out _ qo qc A' C' HDQ.out HQQ.out).mono ?_; rintro e wf ⟨yo, yc, T2, U2, rfl, hpl, hff⟩
         have y0 := held u0 hff; have y1 := held u1 hff; have y2 := held u2 hff; have y3 := held u3 hff
         have z0 := held v0 hff; have z1 := held v1 hff; have z2 := held v2 hff; have z3 := held v3 hff; have z4 := held v4 hff; have z5 := held v5 hff; have z6 := held v6 hff; have z7 := held v7 hff)))
  have BWQ : Hid (Below w.heap.size w wq) := below_then BWC.out HDQ.out
  have HPF : Hid (PL w.heap.size wf yo (n + R) yc (K + R) (Lw (dq K n D) (n + R)) (ol (K + R) (m : Int) L F t.V) nu (sz (K + R) (m : Int)) T2 U2 (fun i => enc (slC 1 (K + R) X m (M (Cod.cnt (Lw (dq K n D) (n + R)) i)) i)) ∧ Below w.heap.size w wf) := ⟨hpl.mono BWQ.out.size, below_then BWQ.out hff⟩
  clear hpl hff
  go_wp2_with fail
  go_ret2
  obtain ⟨i1, i2, i3, i4, i5, i6, i7, i8⟩ := HFI.out
  exact .inr ⟨i1, i2, i3, i4, i5, i6, i7, i8, yo, yc, T2, U2, rfl, by rw [HFX.out.1, ← HFX.out.2]; exact HPF.out.1, HPF.out.2⟩
end Go.Proofs.YtfhefbbhlmdjkaaGreat
/- The regions in which fit parses a slot. -/
namespace Go.Proofs.YtfhefbbhlmdjkaaGreat
open Go.RowKit

theorem b_six {a v : World} {g : Nat} (h : Below a.heap.size a v) (hg : a.heap.size ≤ g) (u0 u1 u2 u3 u4 u5 : Value) : Below a.heap.size a ((((((v.setCell ⟨g, 0, none⟩ u0).setCell ⟨g, 1, none⟩ u1).setCell ⟨g, 2, none⟩ u2).setCell ⟨g, 3, none⟩ u3).setCell ⟨g, 4, none⟩ u4).setCell ⟨g, 5, none⟩ u5) := below_six h hg u0 u1 u2 u3 u4 u5

def fops0 : Array Oper := #[{ dst := some 21, op := Op.load 23 (Operand.tmp 3), type := 23, pos := "outright.go:29", after := #[], guard := none }, { dst := some 22, op := Op.move (Operand.tmp 1), type := 24, pos := "outright.go:29", after := #[], guard := none }, { dst := some 23, op := Op.move (Operand.tmp 7), type := 3, pos := "outright.go:29", after := #[], guard := none }, { dst := some 24, op := Op.indexAddr 24 (Operand.tmp 22) (Operand.tmp 23), type := 0, pos := "outright.go:29", after := #[{ on := 1, ground := Ground.data }, { on := 2, ground := Ground.data }], guard := none }, { dst := some 25, op := Op.indexAddr 67 (Operand.tmp 24) (Operand.const (Value.int IntKind.i64 0)), type := 0, pos := "outright.go:29", after := #[{ on := 3, ground := Ground.data }], guard := none }, { dst := some 26, op := Op.load 32 (Operand.tmp 25), type := 32, pos := "outright.go:29", after := #[{ on := 4, ground := Ground.data }], guard := none }, { dst := some 27, op := Op.call { callee := Callee.value (Operand.func 22), args := #[Operand.tmp 21, Operand.tmp 26], argTypes := #[23, 32] }, type := 64, pos := "outright.go:29", after := #[{ on := 0, ground := Ground.data }, { on := 5, ground := Ground.data }], guard := none }, { dst := some 20, op := Op.move (Operand.tmp 27), type := 64, pos := "outright.go:29", after := #[{ on := 6, ground := Ground.data }], guard := none }, { dst := some 28, op := Op.extract (Operand.tmp 20) 0, type := 63, pos := "outright.go:29", after := #[{ on := 7, ground := Ground.data }], guard := none }, { dst := some 29, op := Op.extract (Operand.tmp 20) 1, type := 4, pos := "outright.go:29", after := #[{ on := 7, ground := Ground.data }, { on := 12, ground := Ground.gcOnly Departure.lateStores }], guard := none }, { dst := some 30, op := Op.extract (Operand.tmp 20) 2, type := 29, pos := "outright.go:29", after := #[{ on := 7, ground := Ground.data }, { on := 13, ground := Ground.gcOnly Departure.lateStores }], guard := none }, { dst := some 8, op := Op.alloc 63, type := 0, pos := "outright.go:29", after := #[], guard := none }, { dst := none, op := Op.store 63 (Operand.tmp 8) (Operand.tmp 28), type := 0, pos := "outright.go:29", after := #[{ on := 11, ground := Ground.data }, { on := 8, ground := Ground.data }, { on := 6, ground := Ground.chain }, { on := 0, ground := Ground.phase }, { on := 1, ground := Ground.phase }, { on := 2, ground := Ground.phase }, { on := 3, ground := Ground.phase }, { on := 4, ground := Ground.phase }, { on := 5, ground := Ground.phase }, { on := 6, ground := Ground.phase }, { on := 7, ground := Ground.phase }, { on := 8, ground := Ground.phase }, { on := 9, ground := Ground.textOnly Departure.lateStores }, { on := 10, ground := Ground.textOnly Departure.lateStores }, { on := 11, ground := Ground.phase }], guard := none }, { dst := some 9, op := Op.assign (Operand.tmp 29), type := 4, pos := "outright.go:29", after := #[{ on := 9, ground := Ground.data }, { on := 12, ground := Ground.chain }, { on := 0, ground := Ground.phase }, { on := 1, ground := Ground.phase }, { on := 2, ground := Ground.phase }, { on := 3, ground := Ground.phase }, { on := 4, ground := Ground.phase }, { on := 5, ground := Ground.phase }, { on := 6, ground := Ground.phase }, { on := 7, ground := Ground.phase }, { on := 8, ground := Ground.phase }, { on := 9, ground := Ground.phase }, { on := 10, ground := Ground.textOnly Departure.lateStores }, { on := 11, ground := Ground.phase }, { on := 12, ground := Ground.phase }], guard := none }, { dst := some 10, op := Op.assign (Operand.tmp 30), type := 29, pos := "outright.go:29", after := #[{ on := 10, ground := Ground.data }, { on := 13, ground := Ground.chain }, { on := 0, ground := Ground.phase }, { on := 1, ground := Ground.phase }, { on := 2, ground := Ground.phase }, { on := 3, ground := Ground.phase }, { on := 4, ground := Ground.phase }, { on := 5, ground := Ground.phase }, { on := 6, ground := Ground.phase }, { on := 7, ground := Ground.phase }, { on := 8, ground := Ground.phase }, { on := 9, ground := Ground.phase }, { on := 10, ground := Ground.phase }, { on := 11, ground := Ground.phase }, { on := 12, ground := Ground.phase }, { on := 13, ground := Ground.phase }], guard := none }]
set_option maxHeartbeats 8000000 in
set_option maxRecDepth 100000 in
theorem fit_reg0 (w1 : World) (k r c q : Int) (g0 rb ro rn rc i : Nat) (hi : (0 : Int) ≤ (i : Int)) (hi2 : (i : Int) < (rn : Int)) (a0 : Option Addr) (n0 c0 : Nat) (y : Sl) (b : Bool) (x0 x2 x4 x5 x6 x8 x9 x10 x11 x12 x13 x14 x15 x16 x17 x18 x19 x20 x21 x22 x23 x24 x25 x26 x27 x28 x29 x30 x31 x32 x33 x34 x35 x36 x37 x38 x39 x40 x41 x42 x43 x44 x45 x46 x47 x48 x49 x50 x51 x52 x53 x54 x55 x56 x57 x58 x59 x60 x61 x62 x63 x64 x65 x66 x67 x68 x69 x70 x71 x72 x73 x74 x75 x76 x77 x78 x79 x80 x81 x82 x83 x84 x85 x86 : Value)
    (hS : ∀ v, Below w1.heap.size w1 v → (v.cell? ⟨g0, 0, none⟩ = some (.int .i64 k) ∧ v.cell? ⟨g0, 1, none⟩ = some (.int .i64 r) ∧ v.cell? ⟨g0, 2, none⟩ = some (.int .i64 c) ∧ v.cell? ⟨g0, 3, none⟩ = some (.int .i64 q) ∧ v.cell? ⟨rb, ro + i * 2, none⟩ = some (.slice a0 n0 c0)))
    (P1 : ∀ v, Below w1.heap.size w1 v → Calls Tryz.prog 22 #[.agg #[.int .i64 k, .int .i64 r, .int .i64 c, .int .i64 q], .slice a0 n0 c0] v fun e w' => ∃ ao ca bo cb, e = .returned (.tuple #[.agg #[.int .u8 ((y.kd.toNat : Nat) : Int), .int .i64 y.ix, .int .i64 y.ce, .int .i64 y.st, .slice ao y.vn ca, .slice bo y.dn cb], .bool b, .int .i64 0]) ∧ Below v.heap.size v w')
    (Q : Exit → Act → World → Prop) (hQp : ∀ ch a v, Q (.panic ch) a v → False) (hQ : ∀ v g ao ca bo cb, Below w1.heap.size w1 v → At w1 v g #[.int .u8 ((y.kd.toNat : Nat) : Int), .int .i64 y.ix, .int .i64 y.ce, .int .i64 y.st, .slice ao y.vn ca, .slice bo y.dn cb] 63 → Q .normal { tmps := #[x0, .slice (some ⟨rb, ro, none⟩) rn rc, x2, .pointer (some ⟨g0, 0, none⟩), x4, x5, x6, .int .i64 (i : Int), .pointer (some ⟨g, 0, none⟩), .bool b, .int .i64 0, x11, x12, x13, x14, x15, x16, x17, x18, x19, .tuple #[.agg #[.int .u8 ((y.kd.toNat : Nat) : Int), .int .i64 y.ix, .int .i64 y.ce, .int .i64 y.st, .slice ao y.vn ca, .slice bo y.dn cb], .bool b, .int .i64 0], .agg #[.int .i64 k, .int .i64 r, .int .i64 c, .int .i64 q], .slice (some ⟨rb, ro, none⟩) rn rc, .int .i64 (i : Int), .pointer (some ⟨rb, ro + i * 2, none⟩), .pointer (some ⟨rb, ro + i * 2, none⟩), .slice a0 n0 c0, .tuple #[.agg #[.int .u8 ((y.kd.toNat : Nat) : Int), .int .i64 y.ix, .int .i64 y.ce, .int .i64 y.st, .slice ao y.vn ca, .slice bo y.dn cb], .bool b, .int .i64 0], .agg #[.int .u8 ((y.kd.toNat : Nat) : Int), .int .i64 y.ix, .int .i64 y.ce, .int .i64 y.st, .slice ao y.vn ca, .slice bo y.dn cb], .bool b, .int .i64 0, x31, x32, x33, x34, x35, x36, x37, x38, x39, x40, x41, x42, x43, x44, x45, x46, x47, x48, x49, x50, x51, x52, x53, x54, x55, x56, x57, x58, x59, x60, x61, x62, x63, x64, x65, x66, x67, x68, x69, x70, x71, x72, x73, x74, x75, x76, x77, x78, x79, x80, x81, x82, x83, x84, x85, x86], defers := [] } v) :
    Code.wp Tryz.prog (Code.region 4 fops0 true) Q { tmps := #[x0, .slice (some ⟨rb, ro, none⟩) rn rc, x2, .pointer (some ⟨g0, 0, none⟩), x4, x5, x6, .int .i64 (i : Int), x8, x9, x10, x11, x12, x13, x14, x15, x16, x17, x18, x19, x20, x21, x22, x23, x24, x25, x26, x27, x28, x29, x30, x31, x32, x33, x34, x35, x36, x37, x38, x39, x40, x41, x42, x43, x44, x45, x46, x47, x48, x49, x50, x51, x52, x53, x54, x55, x56, x57, x58, x59, x60, x61, x62, x63, x64, x65, x66, x67, x68, x69, x70, x71, x72, x73, x74, x75, x76, x77, x78, x79, x80, x81, x82, x83, x84, x85, x86], defers := [] } w1 := by
  have HQ : Hid (∀ v g ao ca bo cb, Below w1.heap.size w1 v → At w1 v g #[.int .u8 ((y.kd.toNat : Nat) : Int), .int .i64 y.ix, .int .i64 y.ce, .int .i64 y.st, .slice ao y.vn ca, .slice bo y.dn cb] 63 → Q .normal { tmps := #[x0, .slice (some ⟨rb, ro, none⟩) rn rc, x2, .pointer (some ⟨g0, 0, none⟩), x4, x5, x6, .int .i64 (i : Int), .pointer (some ⟨g, 0, none⟩), .bool b, .int .i64 0, x11, x12, x13, x14, x15, x16, x17, x18, x19, .tuple #[.agg #[.int .u8 ((y.kd.toNat : Nat) : Int), .int .i64 y.ix, .int .i64 y.ce, .int .i64 y.st, .slice ao y.vn ca, .slice bo y.dn cb], .bool b, .int .i64 0], .agg #[.int .i64 k, .int .i64 r, .int .i64 c, .int .i64 q], .slice (some ⟨rb, ro, none⟩) rn rc, .int .i64 (i : Int), .pointer (some ⟨rb, ro + i * 2, none⟩), .pointer (some ⟨rb, ro + i * 2, none⟩), .slice a0 n0 c0, .tuple #[.agg #[.int .u8 ((y.kd.toNat : Nat) : Int), .int .i64 y.ix, .int .i64 y.ce, .int .i64 y.st, .slice ao y.vn ca, .slice bo y.dn cb], .bool b, .int .i64 0], .agg #[.int .u8 ((y.kd.toNat : Nat) : Int), .int .i64 y.ix, .int .i64 y.ce, .int .i64 y.st, .slice ao y.vn ca, .slice bo y.dn cb], .bool b, .int .i64 0, x31, x32, x33, x34, x35, x36, x37, x38, x39, x40, x41, x42, x43, x44, x45, x46, x47, x48, x49, x50, x51, x52, x53, x54, x55, x56, x57, x58, x59, x60, x61, x62, x63, x64, x65, x66, x67, x68, x69, x70, x71, x72, x73, x74, x75, x76, x77, x78, x79, x80, x81, x82, x83, x84, x85, x86], defers := [] } v) := hQ
  obtain ⟨S, HS1, HS⟩ : ∃ S : World → Prop, Hid (∀ v, S v → (v.cell? ⟨g0, 0, none⟩ = some (.int .i64 k) ∧ v.cell? ⟨g0, 1, none⟩ = some (.int .i64 r) ∧ v.cell? ⟨g0, 2, none⟩ = some (.int .i64 c) ∧ v.cell? ⟨g0, 3, none⟩ = some (.int .i64 q) ∧ v.cell? ⟨rb, ro + i * 2, none⟩ = some (.slice a0 n0 c0))) ∧ Hid (∀ v, Below w1.heap.size w1 v → S v) := ⟨fun v => v.cell? ⟨g0, 0, none⟩ = some (.int .i64 k) ∧ v.cell? ⟨g0, 1, none⟩ = some (.int .i64 r) ∧ v.cell? ⟨g0, 2, none⟩ = some (.int .i64 c) ∧ v.cell? ⟨g0, 3, none⟩ = some (.int .i64 q) ∧ v.cell? ⟨rb, ro + i * 2, none⟩ = some (.slice a0 n0 c0), fun v h => h, hS⟩
  have HP1 : Hid (∀ v, Below w1.heap.size w1 v → Calls Tryz.prog 22 #[.agg #[.int .i64 k, .int .i64 r, .int .i64 c, .int .i64 q], .slice a0 n0 c0] v fun e w' => ∃ ao ca bo cb, e = .returned (.tuple #[.agg #[.int .u8 ((y.kd.toNat : Nat) : Int), .int .i64 y.ix, .int .i64 y.ce, .int .i64 y.st, .slice ao y.vn ca, .slice bo y.dn cb], .bool b, .int .i64 0]) ∧ Below v.heap.size v w') := P1
  clear hS hQ P1
  have H11 : Hid (∀ (v : World) (ao : Option Addr) (ca : Nat) (bo : Option Addr) (cb : Nat) (g : Nat), Below w1.heap.size w1 v → At w1 v g #[.int .u8 0, .int .i64 0, .int .i64 0, .int .i64 0, .slice none 0 0, .slice none 0 0] 63 → wpAnyH Tryz.prog .any fops0 Q S 3 #[true, true, true, true, true, true, true, true, true, true, true, true, false, false, false] { tmps := #[x0, .slice (some ⟨rb, ro, none⟩) rn rc, x2, .pointer (some ⟨g0, 0, none⟩), x4, x5, x6, .int .i64 (i : Int), .pointer (some ⟨g, 0, none⟩), x9, x10, x11, x12, x13, x14, x15, x16, x17, x18, x19, .tuple #[.agg #[.int .u8 ((y.kd.toNat : Nat) : Int), .int .i64 y.ix, .int .i64 y.ce, .int .i64 y.st, .slice ao y.vn ca, .slice bo y.dn cb], .bool b, .int .i64 0], .agg #[.int .i64 k, .int .i64 r, .int .i64 c, .int .i64 q], .slice (some ⟨rb, ro, none⟩) rn rc, .int .i64 (i : Int), .pointer (some ⟨rb, ro + i * 2, none⟩), .pointer (some ⟨rb, ro + i * 2, none⟩), .slice a0 n0 c0, .tuple #[.agg #[.int .u8 ((y.kd.toNat : Nat) : Int), .int .i64 y.ix, .int .i64 y.ce, .int .i64 y.st, .slice ao y.vn ca, .slice bo y.dn cb], .bool b, .int .i64 0], .agg #[.int .u8 ((y.kd.toNat : Nat) : Int), .int .i64 y.ix, .int .i64 y.ce, .int .i64 y.st, .slice ao y.vn ca, .slice bo y.dn cb], .bool b, .int .i64 0, x31, x32, x33, x34, x35, x36, x37, x38, x39, x40, x41, x42, x43, x44, x45, x46, x47, x48, x49, x50, x51, x52, x53, x54, x55, x56, x57, x58, x59, x60, x61, x62, x63, x64, x65, x66, x67, x68, x69, x70, x71, x72, x73, x74, x75, x76, x77, x78, x79, x80, x81, x82, x83, x84, x85, x86], defers := [] } v) := fun v ao ca bo cb g hb f3 => by
    have c0 := f3.cell (i := 0) rfl
    have c1 := f3.cell (i := 1) rfl
    have c2 := f3.cell (i := 2) rfl
    have c3 := f3.cell (i := 3) rfl
    have c4 := f3.cell (i := 4) rfl
    have c5 := f3.cell (i := 5) rfl
    have cf := f3.free
    have hbb := b_six hb f3.1 (.int .u8 ((y.kd.toNat : Nat) : Int)) (.int .i64 y.ix) (.int .i64 y.ce) (.int .i64 y.st) (.slice ao y.vn ca) (.slice bo y.dn cb)
    have hat := at_six f3 (.int .u8 ((y.kd.toNat : Nat) : Int)) (.int .i64 y.ix) (.int .i64 y.ce) (.int .i64 y.st) (.slice ao y.vn ca) (.slice bo y.dn cb)
    refine wpAnyH_ready (rs := [12]) (by kernel_rfl) (by simp) ?_
    refine AllReadyH.cons (o := { dst := none, op := Op.store 63 (Operand.tmp 8) (Operand.tmp 28), type := 0, pos := "outright.go:29", after := #[{ on := 11, ground := Ground.data }, { on := 8, ground := Ground.data }, { on := 6, ground := Ground.chain }, { on := 0, ground := Ground.phase }, { on := 1, ground := Ground.phase }, { on := 2, ground := Ground.phase }, { on := 3, ground := Ground.phase }, { on := 4, ground := Ground.phase }, { on := 5, ground := Ground.phase }, { on := 6, ground := Ground.phase }, { on := 7, ground := Ground.phase }, { on := 8, ground := Ground.phase }, { on := 9, ground := Ground.textOnly Departure.lateStores }, { on := 10, ground := Ground.textOnly Departure.lateStores }, { on := 11, ground := Ground.phase }], guard := none }) rfl (fun K hK => ?_) AllReadyH.nil
    go_simp
    refine hK.out _ _ (HS.out _ hbb) (fun hHeld => ?_)
    refine wpAnyH_take (i := 13) (oi := { dst := some 9, op := Op.assign (Operand.tmp 29), type := 4, pos := "outright.go:29", after := #[{ on := 9, ground := Ground.data }, { on := 12, ground := Ground.chain }, { on := 0, ground := Ground.phase }, { on := 1, ground := Ground.phase }, { on := 2, ground := Ground.phase }, { on := 3, ground := Ground.phase }, { on := 4, ground := Ground.phase }, { on := 5, ground := Ground.phase }, { on := 6, ground := Ground.phase }, { on := 7, ground := Ground.phase }, { on := 8, ground := Ground.phase }, { on := 9, ground := Ground.phase }, { on := 10, ground := Ground.textOnly Departure.lateStores }, { on := 11, ground := Ground.phase }, { on := 12, ground := Ground.phase }], guard := none }) (v := .bool b) rfl (by kernel_rfl) (by kernel_rfl) (by kernel_rfl) (fun _ _ _ h => (hQp _ _ _ h).elim) (Or.inl ⟨by kernel_rfl, ?_⟩) (HS.out _ hbb) ?_
    · intro w' hSw
      obtain ⟨s0, s1, s2, s3, s4⟩ := HS1.out _ hSw
      go_simp <;> first | with_reducible rfl | assumption
    refine wpAnyH_take (i := 14) (oi := { dst := some 10, op := Op.assign (Operand.tmp 30), type := 29, pos := "outright.go:29", after := #[{ on := 10, ground := Ground.data }, { on := 13, ground := Ground.chain }, { on := 0, ground := Ground.phase }, { on := 1, ground := Ground.phase }, { on := 2, ground := Ground.phase }, { on := 3, ground := Ground.phase }, { on := 4, ground := Ground.phase }, { on := 5, ground := Ground.phase }, { on := 6, ground := Ground.phase }, { on := 7, ground := Ground.phase }, { on := 8, ground := Ground.phase }, { on := 9, ground := Ground.phase }, { on := 10, ground := Ground.phase }, { on := 11, ground := Ground.phase }, { on := 12, ground := Ground.phase }, { on := 13, ground := Ground.phase }], guard := none }) (v := .int .i64 0) rfl (by kernel_rfl) (by kernel_rfl) (by kernel_rfl) (fun _ _ _ h => (hQp _ _ _ h).elim) (Or.inl ⟨by kernel_rfl, ?_⟩) (HS.out _ hbb) ?_
    · intro w' hSw
      obtain ⟨s0, s1, s2, s3, s4⟩ := HS1.out _ hSw
      go_simp <;> first | with_reducible rfl | assumption
    refine wpAnyH_done (by kernel_rfl) ?_ _
    exact HQ.out _ g ao ca bo cb hbb hat
  have H10 : Hid (∀ (v : World) (ao : Option Addr) (ca : Nat) (bo : Option Addr) (cb : Nat), Below w1.heap.size w1 v → wpAnyH Tryz.prog .any fops0 Q S 4 #[true, true, true, true, true, true, true, true, true, true, true, false, false, false, false] { tmps := #[x0, .slice (some ⟨rb, ro, none⟩) rn rc, x2, .pointer (some ⟨g0, 0, none⟩), x4, x5, x6, .int .i64 (i : Int), x8, x9, x10, x11, x12, x13, x14, x15, x16, x17, x18, x19, .tuple #[.agg #[.int .u8 ((y.kd.toNat : Nat) : Int), .int .i64 y.ix, .int .i64 y.ce, .int .i64 y.st, .slice ao y.vn ca, .slice bo y.dn cb], .bool b, .int .i64 0], .agg #[.int .i64 k, .int .i64 r, .int .i64 c, .int .i64 q], .slice (some ⟨rb, ro, none⟩) rn rc, .int .i64 (i : Int), .pointer (some ⟨rb, ro + i * 2, none⟩), .pointer (some ⟨rb, ro + i * 2, none⟩), .slice a0 n0 c0, .tuple #[.agg #[.int .u8 ((y.kd.toNat : Nat) : Int), .int .i64 y.ix, .int .i64 y.ce, .int .i64 y.st, .slice ao y.vn ca, .slice bo y.dn cb], .bool b, .int .i64 0], .agg #[.int .u8 ((y.kd.toNat : Nat) : Int), .int .i64 y.ix, .int .i64 y.ce, .int .i64 y.st, .slice ao y.vn ca, .slice bo y.dn cb], .bool b, .int .i64 0, x31, x32, x33, x34, x35, x36, x37, x38, x39, x40, x41, x42, x43, x44, x45, x46, x47, x48, x49, x50, x51, x52, x53, x54, x55, x56, x57, x58, x59, x60, x61, x62, x63, x64, x65, x66, x67, x68, x69, x70, x71, x72, x73, x74, x75, x76, x77, x78, x79, x80, x81, x82, x83, x84, x85, x86], defers := [] } v) := fun v ao ca bo cb hb => by
    refine wpAnyH_ready (rs := [11]) (by kernel_rfl) (by simp) ?_
    refine AllReadyH.cons (o := { dst := some 8, op := Op.alloc 63, type := 0, pos := "outright.go:29", after := #[], guard := none }) rfl (fun K hK => ?_) AllReadyH.nil
    go_simp
    refine hK.out _ _ (HS.out _ (b_alloc hb _)) (fun hHeld => ?_)
    exact H11.out _ ao ca bo cb _ (b_alloc hb _) (at_new hb _ _)
  have H01 : Hid (∀ (v : World) (g : Nat), Below w1.heap.size w1 v → At w1 v g #[.int .u8 0, .int .i64 0, .int .i64 0, .int .i64 0, .slice none 0 0, .slice none 0 0] 63 → wpAnyH Tryz.prog .any fops0 Q S 8 #[true, true, true, true, true, true, false, false, false, false, false, true, false, false, false] { tmps := #[x0, .slice (some ⟨rb, ro, none⟩) rn rc, x2, .pointer (some ⟨g0, 0, none⟩), x4, x5, x6, .int .i64 (i : Int), .pointer (some ⟨g, 0, none⟩), x9, x10, x11, x12, x13, x14, x15, x16, x17, x18, x19, x20, .agg #[.int .i64 k, .int .i64 r, .int .i64 c, .int .i64 q], .slice (some ⟨rb, ro, none⟩) rn rc, .int .i64 (i : Int), .pointer (some ⟨rb, ro + i * 2, none⟩), .pointer (some ⟨rb, ro + i * 2, none⟩), .slice a0 n0 c0, x27, x28, x29, x30, x31, x32, x33, x34, x35, x36, x37, x38, x39, x40, x41, x42, x43, x44, x45, x46, x47, x48, x49, x50, x51, x52, x53, x54, x55, x56, x57, x58, x59, x60, x61, x62, x63, x64, x65, x66, x67, x68, x69, x70, x71, x72, x73, x74, x75, x76, x77, x78, x79, x80, x81, x82, x83, x84, x85, x86], defers := [] } v) := fun v g hb f3 => by
    refine wpAnyH_ready (rs := [6]) (by kernel_rfl) (by simp) ?_
    refine AllReadyH.cons (o := { dst := some 27, op := Op.call { callee := Callee.value (Operand.func 22), args := #[Operand.tmp 21, Operand.tmp 26], argTypes := #[23, 32] }, type := 64, pos := "outright.go:29", after := #[{ on := 0, ground := Ground.data }, { on := 5, ground := Ground.data }], guard := none }) rfl (fun K hK => ?_) AllReadyH.nil
    go_simp
    refine (HP1.out _ hb).mono ?_
    rintro e w' ⟨ao, ca, bo, cb, rfl, hw'⟩
    have hb' := below_then hb hw'
    refine hK.out _ _ (HS.out _ hb') (fun hHeld => ?_)
    show wpAnyH Tryz.prog .any fops0 Q S 7 #[true, true, true, true, true, true, true, false, false, false, false, true, false, false, false] { tmps := #[x0, .slice (some ⟨rb, ro, none⟩) rn rc, x2, .pointer (some ⟨g0, 0, none⟩), x4, x5, x6, .int .i64 (i : Int), .pointer (some ⟨g, 0, none⟩), x9, x10, x11, x12, x13, x14, x15, x16, x17, x18, x19, x20, .agg #[.int .i64 k, .int .i64 r, .int .i64 c, .int .i64 q], .slice (some ⟨rb, ro, none⟩) rn rc, .int .i64 (i : Int), .pointer (some ⟨rb, ro + i * 2, none⟩), .pointer (some ⟨rb, ro + i * 2, none⟩), .slice a0 n0 c0, .tuple #[.agg #[.int .u8 ((y.kd.toNat : Nat) : Int), .int .i64 y.ix, .int .i64 y.ce, .int .i64 y.st, .slice ao y.vn ca, .slice bo y.dn cb], .bool b, .int .i64 0], x28, x29, x30, x31, x32, x33, x34, x35, x36, x37, x38, x39, x40, x41, x42, x43, x44, x45, x46, x47, x48, x49, x50, x51, x52, x53, x54, x55, x56, x57, x58, x59, x60, x61, x62, x63, x64, x65, x66, x67, x68, x69, x70, x71, x72, x73, x74, x75, x76, x77, x78, x79, x80, x81, x82, x83, x84, x85, x86], defers := [] } w'
    refine wpAnyH_take (i := 7) (oi := { dst := some 20, op := Op.move (Operand.tmp 27), type := 64, pos := "outright.go:29", after := #[{ on := 6, ground := Ground.data }], guard := none }) (v := .tuple #[.agg #[.int .u8 ((y.kd.toNat : Nat) : Int), .int .i64 y.ix, .int .i64 y.ce, .int .i64 y.st, .slice ao y.vn ca, .slice bo y.dn cb], .bool b, .int .i64 0]) rfl (by kernel_rfl) (by kernel_rfl) (by kernel_rfl) (fun _ _ _ h => (hQp _ _ _ h).elim) (Or.inl ⟨by kernel_rfl, ?_⟩) (HS.out _ hb') ?_
    · intro w' hSw
      obtain ⟨s0, s1, s2, s3, s4⟩ := HS1.out _ hSw
      go_simp <;> first | with_reducible rfl | assumption
    show wpAnyH Tryz.prog .any fops0 Q S 6 #[true, true, true, true, true, true, true, true, false, false, false, true, false, false, false] { tmps := #[x0, .slice (some ⟨rb, ro, none⟩) rn rc, x2, .pointer (some ⟨g0, 0, none⟩), x4, x5, x6, .int .i64 (i : Int), .pointer (some ⟨g, 0, none⟩), x9, x10, x11, x12, x13, x14, x15, x16, x17, x18, x19, .tuple #[.agg #[.int .u8 ((y.kd.toNat : Nat) : Int), .int .i64 y.ix, .int .i64 y.ce, .int .i64 y.st, .slice ao y.vn ca, .slice bo y.dn cb], .bool b, .int .i64 0], .agg #[.int .i64 k, .int .i64 r, .int .i64 c, .int .i64 q], .slice (some ⟨rb, ro, none⟩) rn rc, .int .i64 (i : Int), .pointer (some ⟨rb, ro + i * 2, none⟩), .pointer (some ⟨rb, ro + i * 2, none⟩), .slice a0 n0 c0, .tuple #[.agg #[.int .u8 ((y.kd.toNat : Nat) : Int), .int .i64 y.ix, .int .i64 y.ce, .int .i64 y.st, .slice ao y.vn ca, .slice bo y.dn cb], .bool b, .int .i64 0], x28, x29, x30, x31, x32, x33, x34, x35, x36, x37, x38, x39, x40, x41, x42, x43, x44, x45, x46, x47, x48, x49, x50, x51, x52, x53, x54, x55, x56, x57, x58, x59, x60, x61, x62, x63, x64, x65, x66, x67, x68, x69, x70, x71, x72, x73, x74, x75, x76, x77, x78, x79, x80, x81, x82, x83, x84, x85, x86], defers := [] } w'
    refine wpAnyH_take (i := 8) (oi := { dst := some 28, op := Op.extract (Operand.tmp 20) 0, type := 63, pos := "outright.go:29", after := #[{ on := 7, ground := Ground.data }], guard := none }) (v := .agg #[.int .u8 ((y.kd.toNat : Nat) : Int), .int .i64 y.ix, .int .i64 y.ce, .int .i64 y.st, .slice ao y.vn ca, .slice bo y.dn cb]) rfl (by kernel_rfl) (by kernel_rfl) (by kernel_rfl) (fun _ _ _ h => (hQp _ _ _ h).elim) (Or.inl ⟨by kernel_rfl, ?_⟩) (HS.out _ hb') ?_
    · intro w' hSw
      obtain ⟨s0, s1, s2, s3, s4⟩ := HS1.out _ hSw
      go_simp <;> first | with_reducible rfl | assumption
    show wpAnyH Tryz.prog .any fops0 Q S 5 #[true, true, true, true, true, true, true, true, true, false, false, true, false, false, false] { tmps := #[x0, .slice (some ⟨rb, ro, none⟩) rn rc, x2, .pointer (some ⟨g0, 0, none⟩), x4, x5, x6, .int .i64 (i : Int), .pointer (some ⟨g, 0, none⟩), x9, x10, x11, x12, x13, x14, x15, x16, x17, x18, x19, .tuple #[.agg #[.int .u8 ((y.kd.toNat : Nat) : Int), .int .i64 y.ix, .int .i64 y.ce, .int .i64 y.st, .slice ao y.vn ca, .slice bo y.dn cb], .bool b, .int .i64 0], .agg #[.int .i64 k, .int .i64 r, .int .i64 c, .int .i64 q], .slice (some ⟨rb, ro, none⟩) rn rc, .int .i64 (i : Int), .pointer (some ⟨rb, ro + i * 2, none⟩), .pointer (some ⟨rb, ro + i * 2, none⟩), .slice a0 n0 c0, .tuple #[.agg #[.int .u8 ((y.kd.toNat : Nat) : Int), .int .i64 y.ix, .int .i64 y.ce, .int .i64 y.st, .slice ao y.vn ca, .slice bo y.dn cb], .bool b, .int .i64 0], .agg #[.int .u8 ((y.kd.toNat : Nat) : Int), .int .i64 y.ix, .int .i64 y.ce, .int .i64 y.st, .slice ao y.vn ca, .slice bo y.dn cb], x29, x30, x31, x32, x33, x34, x35, x36, x37, x38, x39, x40, x41, x42, x43, x44, x45, x46, x47, x48, x49, x50, x51, x52, x53, x54, x55, x56, x57, x58, x59, x60, x61, x62, x63, x64, x65, x66, x67, x68, x69, x70, x71, x72, x73, x74, x75, x76, x77, x78, x79, x80, x81, x82, x83, x84, x85, x86], defers := [] } w'
    refine wpAnyH_take (i := 9) (oi := { dst := some 29, op := Op.extract (Operand.tmp 20) 1, type := 4, pos := "outright.go:29", after := #[{ on := 7, ground := Ground.data }, { on := 12, ground := Ground.gcOnly Departure.lateStores }], guard := none }) (v := .bool b) rfl (by kernel_rfl) (by kernel_rfl) (by kernel_rfl) (fun _ _ _ h => (hQp _ _ _ h).elim) (Or.inl ⟨by kernel_rfl, ?_⟩) (HS.out _ hb') ?_
    · intro w' hSw
      obtain ⟨s0, s1, s2, s3, s4⟩ := HS1.out _ hSw
      go_simp <;> first | with_reducible rfl | assumption
    show wpAnyH Tryz.prog .any fops0 Q S 4 #[true, true, true, true, true, true, true, true, true, true, false, true, false, false, false] { tmps := #[x0, .slice (some ⟨rb, ro, none⟩) rn rc, x2, .pointer (some ⟨g0, 0, none⟩), x4, x5, x6, .int .i64 (i : Int), .pointer (some ⟨g, 0, none⟩), x9, x10, x11, x12, x13, x14, x15, x16, x17, x18, x19, .tuple #[.agg #[.int .u8 ((y.kd.toNat : Nat) : Int), .int .i64 y.ix, .int .i64 y.ce, .int .i64 y.st, .slice ao y.vn ca, .slice bo y.dn cb], .bool b, .int .i64 0], .agg #[.int .i64 k, .int .i64 r, .int .i64 c, .int .i64 q], .slice (some ⟨rb, ro, none⟩) rn rc, .int .i64 (i : Int), .pointer (some ⟨rb, ro + i * 2, none⟩), .pointer (some ⟨rb, ro + i * 2, none⟩), .slice a0 n0 c0, .tuple #[.agg #[.int .u8 ((y.kd.toNat : Nat) : Int), .int .i64 y.ix, .int .i64 y.ce, .int .i64 y.st, .slice ao y.vn ca, .slice bo y.dn cb], .bool b, .int .i64 0], .agg #[.int .u8 ((y.kd.toNat : Nat) : Int), .int .i64 y.ix, .int .i64 y.ce, .int .i64 y.st, .slice ao y.vn ca, .slice bo y.dn cb], .bool b, x30, x31, x32, x33, x34, x35, x36, x37, x38, x39, x40, x41, x42, x43, x44, x45, x46, x47, x48, x49, x50, x51, x52, x53, x54, x55, x56, x57, x58, x59, x60, x61, x62, x63, x64, x65, x66, x67, x68, x69, x70, x71, x72, x73, x74, x75, x76, x77, x78, x79, x80, x81, x82, x83, x84, x85, x86], defers := [] } w'
    refine wpAnyH_take (i := 10) (oi := { dst := some 30, op := Op.extract (Operand.tmp 20) 2, type := 29, pos := "outright.go:29", after := #[{ on := 7, ground := Ground.data }, { on := 13, ground := Ground.gcOnly Departure.lateStores }], guard := none }) (v := .int .i64 0) rfl (by kernel_rfl) (by kernel_rfl) (by kernel_rfl) (fun _ _ _ h => (hQp _ _ _ h).elim) (Or.inl ⟨by kernel_rfl, ?_⟩) (HS.out _ hb') ?_
    · intro w' hSw
      obtain ⟨s0, s1, s2, s3, s4⟩ := HS1.out _ hSw
      go_simp <;> first | with_reducible rfl | assumption
    show wpAnyH Tryz.prog .any fops0 Q S 3 #[true, true, true, true, true, true, true, true, true, true, true, true, false, false, false] { tmps := #[x0, .slice (some ⟨rb, ro, none⟩) rn rc, x2, .pointer (some ⟨g0, 0, none⟩), x4, x5, x6, .int .i64 (i : Int), .pointer (some ⟨g, 0, none⟩), x9, x10, x11, x12, x13, x14, x15, x16, x17, x18, x19, .tuple #[.agg #[.int .u8 ((y.kd.toNat : Nat) : Int), .int .i64 y.ix, .int .i64 y.ce, .int .i64 y.st, .slice ao y.vn ca, .slice bo y.dn cb], .bool b, .int .i64 0], .agg #[.int .i64 k, .int .i64 r, .int .i64 c, .int .i64 q], .slice (some ⟨rb, ro, none⟩) rn rc, .int .i64 (i : Int), .pointer (some ⟨rb, ro + i * 2, none⟩), .pointer (some ⟨rb, ro + i * 2, none⟩), .slice a0 n0 c0, .tuple #[.agg #[.int .u8 ((y.kd.toNat : Nat) : Int), .int .i64 y.ix, .int .i64 y.ce, .int .i64 y.st, .slice ao y.vn ca, .slice bo y.dn cb], .bool b, .int .i64 0], .agg #[.int .u8 ((y.kd.toNat : Nat) : Int), .int .i64 y.ix, .int .i64 y.ce, .int .i64 y.st, .slice ao y.vn ca, .slice bo y.dn cb], .bool b, .int .i64 0, x31, x32, x33, x34, x35, x36, x37, x38, x39, x40, x41, x42, x43, x44, x45, x46, x47, x48, x49, x50, x51, x52, x53, x54, x55, x56, x57, x58, x59, x60, x61, x62, x63, x64, x65, x66, x67, x68, x69, x70, x71, x72, x73, x74, x75, x76, x77, x78, x79, x80, x81, x82, x83, x84, x85, x86], defers := [] } w'
    exact H11.out _ ao ca bo cb g hb' (f3.below hw')
  have H00 : Hid (∀ (v : World), Below w1.heap.size w1 v → wpAnyH Tryz.prog .any fops0 Q S 9 #[true, true, true, true, true, true, false, false, false, false, false, false, false, false, false] { tmps := #[x0, .slice (some ⟨rb, ro, none⟩) rn rc, x2, .pointer (some ⟨g0, 0, none⟩), x4, x5, x6, .int .i64 (i : Int), x8, x9, x10, x11, x12, x13, x14, x15, x16, x17, x18, x19, x20, .agg #[.int .i64 k, .int .i64 r, .int .i64 c, .int .i64 q], .slice (some ⟨rb, ro, none⟩) rn rc, .int .i64 (i : Int), .pointer (some ⟨rb, ro + i * 2, none⟩), .pointer (some ⟨rb, ro + i * 2, none⟩), .slice a0 n0 c0, x27, x28, x29, x30, x31, x32, x33, x34, x35, x36, x37, x38, x39, x40, x41, x42, x43, x44, x45, x46, x47, x48, x49, x50, x51, x52, x53, x54, x55, x56, x57, x58, x59, x60, x61, x62, x63, x64, x65, x66, x67, x68, x69, x70, x71, x72, x73, x74, x75, x76, x77, x78, x79, x80, x81, x82, x83, x84, x85, x86], defers := [] } v) := fun v hb => by
    refine wpAnyH_ready (rs := [6, 11]) (by kernel_rfl) (by simp) ?_
    refine AllReadyH.cons (o := { dst := some 27, op := Op.call { callee := Callee.value (Operand.func 22), args := #[Operand.tmp 21, Operand.tmp 26], argTypes := #[23, 32] }, type := 64, pos := "outright.go:29", after := #[{ on := 0, ground := Ground.data }, { on := 5, ground := Ground.data }], guard := none }) rfl (fun K hK => ?_) ?_
    rotate_left
    refine AllReadyH.cons (o := { dst := some 8, op := Op.alloc 63, type := 0, pos := "outright.go:29", after := #[], guard := none }) rfl (fun K hK => ?_) AllReadyH.nil
    rotate_left
    · skip
      go_simp
      refine (HP1.out _ hb).mono ?_
      rintro e w' ⟨ao, ca, bo, cb, rfl, hw'⟩
      have hb' := below_then hb hw'
      refine hK.out _ _ (HS.out _ hb') (fun hHeld => ?_)
      show wpAnyH Tryz.prog .any fops0 Q S 8 #[true, true, true, true, true, true, true, false, false, false, false, false, false, false, false] { tmps := #[x0, .slice (some ⟨rb, ro, none⟩) rn rc, x2, .pointer (some ⟨g0, 0, none⟩), x4, x5, x6, .int .i64 (i : Int), x8, x9, x10, x11, x12, x13, x14, x15, x16, x17, x18, x19, x20, .agg #[.int .i64 k, .int .i64 r, .int .i64 c, .int .i64 q], .slice (some ⟨rb, ro, none⟩) rn rc, .int .i64 (i : Int), .pointer (some ⟨rb, ro + i * 2, none⟩), .pointer (some ⟨rb, ro + i * 2, none⟩), .slice a0 n0 c0, .tuple #[.agg #[.int .u8 ((y.kd.toNat : Nat) : Int), .int .i64 y.ix, .int .i64 y.ce, .int .i64 y.st, .slice ao y.vn ca, .slice bo y.dn cb], .bool b, .int .i64 0], x28, x29, x30, x31, x32, x33, x34, x35, x36, x37, x38, x39, x40, x41, x42, x43, x44, x45, x46, x47, x48, x49, x50, x51, x52, x53, x54, x55, x56, x57, x58, x59, x60, x61, x62, x63, x64, x65, x66, x67, x68, x69, x70, x71, x72, x73, x74, x75, x76, x77, x78, x79, x80, x81, x82, x83, x84, x85, x86], defers := [] } w'
      refine wpAnyH_take (i := 7) (oi := { dst := some 20, op := Op.move (Operand.tmp 27), type := 64, pos := "outright.go:29", after := #[{ on := 6, ground := Ground.data }], guard := none }) (v := .tuple #[.agg #[.int .u8 ((y.kd.toNat : Nat) : Int), .int .i64 y.ix, .int .i64 y.ce, .int .i64 y.st, .slice ao y.vn ca, .slice bo y.dn cb], .bool b, .int .i64 0]) rfl (by kernel_rfl) (by kernel_rfl) (by kernel_rfl) (fun _ _ _ h => (hQp _ _ _ h).elim) (Or.inl ⟨by kernel_rfl, ?_⟩) (HS.out _ hb') ?_
      · intro w' hSw
        obtain ⟨s0, s1, s2, s3, s4⟩ := HS1.out _ hSw
        go_simp <;> first | with_reducible rfl | assumption
      show wpAnyH Tryz.prog .any fops0 Q S 7 #[true, true, true, true, true, true, true, true, false, false, false, false, false, false, false] { tmps := #[x0, .slice (some ⟨rb, ro, none⟩) rn rc, x2, .pointer (some ⟨g0, 0, none⟩), x4, x5, x6, .int .i64 (i : Int), x8, x9, x10, x11, x12, x13, x14, x15, x16, x17, x18, x19, .tuple #[.agg #[.int .u8 ((y.kd.toNat : Nat) : Int), .int .i64 y.ix, .int .i64 y.ce, .int .i64 y.st, .slice ao y.vn ca, .slice bo y.dn cb], .bool b, .int .i64 0], .agg #[.int .i64 k, .int .i64 r, .int .i64 c, .int .i64 q], .slice (some ⟨rb, ro, none⟩) rn rc, .int .i64 (i : Int), .pointer (some ⟨rb, ro + i * 2, none⟩), .pointer (some ⟨rb, ro + i * 2, none⟩), .slice a0 n0 c0, .tuple #[.agg #[.int .u8 ((y.kd.toNat : Nat) : Int), .int .i64 y.ix, .int .i64 y.ce, .int .i64 y.st, .slice ao y.vn ca, .slice bo y.dn cb], .bool b, .int .i64 0], x28, x29, x30, x31, x32, x33, x34, x35, x36, x37, x38, x39, x40, x41, x42, x43, x44, x45, x46, x47, x48, x49, x50, x51, x52, x53, x54, x55, x56, x57, x58, x59, x60, x61, x62, x63, x64, x65, x66, x67, x68, x69, x70, x71, x72, x73, x74, x75, x76, x77, x78, x79, x80, x81, x82, x83, x84, x85, x86], defers := [] } w'
      refine wpAnyH_take (i := 8) (oi := { dst := some 28, op := Op.extract (Operand.tmp 20) 0, type := 63, pos := "outright.go:29", after := #[{ on := 7, ground := Ground.data }], guard := none }) (v := .agg #[.int .u8 ((y.kd.toNat : Nat) : Int), .int .i64 y.ix, .int .i64 y.ce, .int .i64 y.st, .slice ao y.vn ca, .slice bo y.dn cb]) rfl (by kernel_rfl) (by kernel_rfl) (by kernel_rfl) (fun _ _ _ h => (hQp _ _ _ h).elim) (Or.inl ⟨by kernel_rfl, ?_⟩) (HS.out _ hb') ?_
      · intro w' hSw
        obtain ⟨s0, s1, s2, s3, s4⟩ := HS1.out _ hSw
        go_simp <;> first | with_reducible rfl | assumption
      show wpAnyH Tryz.prog .any fops0 Q S 6 #[true, true, true, true, true, true, true, true, true, false, false, false, false, false, false] { tmps := #[x0, .slice (some ⟨rb, ro, none⟩) rn rc, x2, .pointer (some ⟨g0, 0, none⟩), x4, x5, x6, .int .i64 (i : Int), x8, x9, x10, x11, x12, x13, x14, x15, x16, x17, x18, x19, .tuple #[.agg #[.int .u8 ((y.kd.toNat : Nat) : Int), .int .i64 y.ix, .int .i64 y.ce, .int .i64 y.st, .slice ao y.vn ca, .slice bo y.dn cb], .bool b, .int .i64 0], .agg #[.int .i64 k, .int .i64 r, .int .i64 c, .int .i64 q], .slice (some ⟨rb, ro, none⟩) rn rc, .int .i64 (i : Int), .pointer (some ⟨rb, ro + i * 2, none⟩), .pointer (some ⟨rb, ro + i * 2, none⟩), .slice a0 n0 c0, .tuple #[.agg #[.int .u8 ((y.kd.toNat : Nat) : Int), .int .i64 y.ix, .int .i64 y.ce, .int .i64 y.st, .slice ao y.vn ca, .slice bo y.dn cb], .bool b, .int .i64 0], .agg #[.int .u8 ((y.kd.toNat : Nat) : Int), .int .i64 y.ix, .int .i64 y.ce, .int .i64 y.st, .slice ao y.vn ca, .slice bo y.dn cb], x29, x30, x31, x32, x33, x34, x35, x36, x37, x38, x39, x40, x41, x42, x43, x44, x45, x46, x47, x48, x49, x50, x51, x52, x53, x54, x55, x56, x57, x58, x59, x60, x61, x62, x63, x64, x65, x66, x67, x68, x69, x70, x71, x72, x73, x74, x75, x76, x77, x78, x79, x80, x81, x82, x83, x84, x85, x86], defers := [] } w'
      refine wpAnyH_take (i := 9) (oi := { dst := some 29, op := Op.extract (Operand.tmp 20) 1, type := 4, pos := "outright.go:29", after := #[{ on := 7, ground := Ground.data }, { on := 12, ground := Ground.gcOnly Departure.lateStores }], guard := none }) (v := .bool b) rfl (by kernel_rfl) (by kernel_rfl) (by kernel_rfl) (fun _ _ _ h => (hQp _ _ _ h).elim) (Or.inl ⟨by kernel_rfl, ?_⟩) (HS.out _ hb') ?_
      · intro w' hSw
        obtain ⟨s0, s1, s2, s3, s4⟩ := HS1.out _ hSw
        go_simp <;> first | with_reducible rfl | assumption
      show wpAnyH Tryz.prog .any fops0 Q S 5 #[true, true, true, true, true, true, true, true, true, true, false, false, false, false, false] { tmps := #[x0, .slice (some ⟨rb, ro, none⟩) rn rc, x2, .pointer (some ⟨g0, 0, none⟩), x4, x5, x6, .int .i64 (i : Int), x8, x9, x10, x11, x12, x13, x14, x15, x16, x17, x18, x19, .tuple #[.agg #[.int .u8 ((y.kd.toNat : Nat) : Int), .int .i64 y.ix, .int .i64 y.ce, .int .i64 y.st, .slice ao y.vn ca, .slice bo y.dn cb], .bool b, .int .i64 0], .agg #[.int .i64 k, .int .i64 r, .int .i64 c, .int .i64 q], .slice (some ⟨rb, ro, none⟩) rn rc, .int .i64 (i : Int), .pointer (some ⟨rb, ro + i * 2, none⟩), .pointer (some ⟨rb, ro + i * 2, none⟩), .slice a0 n0 c0, .tuple #[.agg #[.int .u8 ((y.kd.toNat : Nat) : Int), .int .i64 y.ix, .int .i64 y.ce, .int .i64 y.st, .slice ao y.vn ca, .slice bo y.dn cb], .bool b, .int .i64 0], .agg #[.int .u8 ((y.kd.toNat : Nat) : Int), .int .i64 y.ix, .int .i64 y.ce, .int .i64 y.st, .slice ao y.vn ca, .slice bo y.dn cb], .bool b, x30, x31, x32, x33, x34, x35, x36, x37, x38, x39, x40, x41, x42, x43, x44, x45, x46, x47, x48, x49, x50, x51, x52, x53, x54, x55, x56, x57, x58, x59, x60, x61, x62, x63, x64, x65, x66, x67, x68, x69, x70, x71, x72, x73, x74, x75, x76, x77, x78, x79, x80, x81, x82, x83, x84, x85, x86], defers := [] } w'
      refine wpAnyH_take (i := 10) (oi := { dst := some 30, op := Op.extract (Operand.tmp 20) 2, type := 29, pos := "outright.go:29", after := #[{ on := 7, ground := Ground.data }, { on := 13, ground := Ground.gcOnly Departure.lateStores }], guard := none }) (v := .int .i64 0) rfl (by kernel_rfl) (by kernel_rfl) (by kernel_rfl) (fun _ _ _ h => (hQp _ _ _ h).elim) (Or.inl ⟨by kernel_rfl, ?_⟩) (HS.out _ hb') ?_
      · intro w' hSw
        obtain ⟨s0, s1, s2, s3, s4⟩ := HS1.out _ hSw
        go_simp <;> first | with_reducible rfl | assumption
      show wpAnyH Tryz.prog .any fops0 Q S 4 #[true, true, true, true, true, true, true, true, true, true, true, false, false, false, false] { tmps := #[x0, .slice (some ⟨rb, ro, none⟩) rn rc, x2, .pointer (some ⟨g0, 0, none⟩), x4, x5, x6, .int .i64 (i : Int), x8, x9, x10, x11, x12, x13, x14, x15, x16, x17, x18, x19, .tuple #[.agg #[.int .u8 ((y.kd.toNat : Nat) : Int), .int .i64 y.ix, .int .i64 y.ce, .int .i64 y.st, .slice ao y.vn ca, .slice bo y.dn cb], .bool b, .int .i64 0], .agg #[.int .i64 k, .int .i64 r, .int .i64 c, .int .i64 q], .slice (some ⟨rb, ro, none⟩) rn rc, .int .i64 (i : Int), .pointer (some ⟨rb, ro + i * 2, none⟩), .pointer (some ⟨rb, ro + i * 2, none⟩), .slice a0 n0 c0, .tuple #[.agg #[.int .u8 ((y.kd.toNat : Nat) : Int), .int .i64 y.ix, .int .i64 y.ce, .int .i64 y.st, .slice ao y.vn ca, .slice bo y.dn cb], .bool b, .int .i64 0], .agg #[.int .u8 ((y.kd.toNat : Nat) : Int), .int .i64 y.ix, .int .i64 y.ce, .int .i64 y.st, .slice ao y.vn ca, .slice bo y.dn cb], .bool b, .int .i64 0, x31, x32, x33, x34, x35, x36, x37, x38, x39, x40, x41, x42, x43, x44, x45, x46, x47, x48, x49, x50, x51, x52, x53, x54, x55, x56, x57, x58, x59, x60, x61, x62, x63, x64, x65, x66, x67, x68, x69, x70, x71, x72, x73, x74, x75, x76, x77, x78, x79, x80, x81, x82, x83, x84, x85, x86], defers := [] } w'
      exact H10.out _ ao ca bo cb hb'
    · go_simp
      refine hK.out _ _ (HS.out _ (b_alloc hb _)) (fun hHeld => ?_)
      exact H01.out _ _ (b_alloc hb _) (at_new hb _ _)
  refine wp_region_held_drew (S := S) (by kernel_rfl) (HS.out _ (below_drew _ _)) (fun hHeld => ?_)
  have hb : Below w1.heap.size w1 w1.drew := below_drew _ _
  rw [show fops0.size = 15 from by kernel_rfl, show Array.replicate 15 false = #[false, false, false, false, false, false, false, false, false, false, false, false, false, false, false] from by kernel_rfl]
  refine wpAnyH_take (i := 0) (oi := { dst := some 21, op := Op.load 23 (Operand.tmp 3), type := 23, pos := "outright.go:29", after := #[], guard := none }) (v := .agg #[.int .i64 k, .int .i64 r, .int .i64 c, .int .i64 q]) rfl (by kernel_rfl) (by kernel_rfl) (by kernel_rfl) (fun _ _ _ h => (hQp _ _ _ h).elim) (Or.inl ⟨by kernel_rfl, ?_⟩) (HS.out _ hb) ?_
  · intro w' hSw
    obtain ⟨s0, s1, s2, s3, s4⟩ := HS1.out _ hSw
    go_simp <;> first | with_reducible rfl | assumption
  show wpAnyH Tryz.prog .any fops0 Q S 14 #[true, false, false, false, false, false, false, false, false, false, false, false, false, false, false] { tmps := #[x0, .slice (some ⟨rb, ro, none⟩) rn rc, x2, .pointer (some ⟨g0, 0, none⟩), x4, x5, x6, .int .i64 (i : Int), x8, x9, x10, x11, x12, x13, x14, x15, x16, x17, x18, x19, x20, .agg #[.int .i64 k, .int .i64 r, .int .i64 c, .int .i64 q], x22, x23, x24, x25, x26, x27, x28, x29, x30, x31, x32, x33, x34, x35, x36, x37, x38, x39, x40, x41, x42, x43, x44, x45, x46, x47, x48, x49, x50, x51, x52, x53, x54, x55, x56, x57, x58, x59, x60, x61, x62, x63, x64, x65, x66, x67, x68, x69, x70, x71, x72, x73, x74, x75, x76, x77, x78, x79, x80, x81, x82, x83, x84, x85, x86], defers := [] } w1.drew
  refine wpAnyH_take (i := 1) (oi := { dst := some 22, op := Op.move (Operand.tmp 1), type := 24, pos := "outright.go:29", after := #[], guard := none }) (v := .slice (some ⟨rb, ro, none⟩) rn rc) rfl (by kernel_rfl) (by kernel_rfl) (by kernel_rfl) (fun _ _ _ h => (hQp _ _ _ h).elim) (Or.inl ⟨by kernel_rfl, ?_⟩) (HS.out _ hb) ?_
  · intro w' hSw
    obtain ⟨s0, s1, s2, s3, s4⟩ := HS1.out _ hSw
    go_simp <;> first | with_reducible rfl | assumption
  show wpAnyH Tryz.prog .any fops0 Q S 13 #[true, true, false, false, false, false, false, false, false, false, false, false, false, false, false] { tmps := #[x0, .slice (some ⟨rb, ro, none⟩) rn rc, x2, .pointer (some ⟨g0, 0, none⟩), x4, x5, x6, .int .i64 (i : Int), x8, x9, x10, x11, x12, x13, x14, x15, x16, x17, x18, x19, x20, .agg #[.int .i64 k, .int .i64 r, .int .i64 c, .int .i64 q], .slice (some ⟨rb, ro, none⟩) rn rc, x23, x24, x25, x26, x27, x28, x29, x30, x31, x32, x33, x34, x35, x36, x37, x38, x39, x40, x41, x42, x43, x44, x45, x46, x47, x48, x49, x50, x51, x52, x53, x54, x55, x56, x57, x58, x59, x60, x61, x62, x63, x64, x65, x66, x67, x68, x69, x70, x71, x72, x73, x74, x75, x76, x77, x78, x79, x80, x81, x82, x83, x84, x85, x86], defers := [] } w1.drew
  refine wpAnyH_take (i := 2) (oi := { dst := some 23, op := Op.move (Operand.tmp 7), type := 3, pos := "outright.go:29", after := #[], guard := none }) (v := .int .i64 (i : Int)) rfl (by kernel_rfl) (by kernel_rfl) (by kernel_rfl) (fun _ _ _ h => (hQp _ _ _ h).elim) (Or.inl ⟨by kernel_rfl, ?_⟩) (HS.out _ hb) ?_
  · intro w' hSw
    obtain ⟨s0, s1, s2, s3, s4⟩ := HS1.out _ hSw
    go_simp <;> first | with_reducible rfl | assumption
  show wpAnyH Tryz.prog .any fops0 Q S 12 #[true, true, true, false, false, false, false, false, false, false, false, false, false, false, false] { tmps := #[x0, .slice (some ⟨rb, ro, none⟩) rn rc, x2, .pointer (some ⟨g0, 0, none⟩), x4, x5, x6, .int .i64 (i : Int), x8, x9, x10, x11, x12, x13, x14, x15, x16, x17, x18, x19, x20, .agg #[.int .i64 k, .int .i64 r, .int .i64 c, .int .i64 q], .slice (some ⟨rb, ro, none⟩) rn rc, .int .i64 (i : Int), x24, x25, x26, x27, x28, x29, x30, x31, x32, x33, x34, x35, x36, x37, x38, x39, x40, x41, x42, x43, x44, x45, x46, x47, x48, x49, x50, x51, x52, x53, x54, x55, x56, x57, x58, x59, x60, x61, x62, x63, x64, x65, x66, x67, x68, x69, x70, x71, x72, x73, x74, x75, x76, x77, x78, x79, x80, x81, x82, x83, x84, x85, x86], defers := [] } w1.drew
  refine wpAnyH_take (i := 3) (oi := { dst := some 24, op := Op.indexAddr 24 (Operand.tmp 22) (Operand.tmp 23), type := 0, pos := "outright.go:29", after := #[{ on := 1, ground := Ground.data }, { on := 2, ground := Ground.data }], guard := none }) (v := .pointer (some ⟨rb, ro + i * 2, none⟩)) rfl (by kernel_rfl) (by kernel_rfl) (by kernel_rfl) (fun _ _ _ h => (hQp _ _ _ h).elim) (Or.inl ⟨by kernel_rfl, ?_⟩) (HS.out _ hb) ?_
  · intro w' hSw
    obtain ⟨s0, s1, s2, s3, s4⟩ := HS1.out _ hSw
    go_simp <;> first | with_reducible rfl | assumption
  show wpAnyH Tryz.prog .any fops0 Q S 11 #[true, true, true, true, false, false, false, false, false, false, false, false, false, false, false] { tmps := #[x0, .slice (some ⟨rb, ro, none⟩) rn rc, x2, .pointer (some ⟨g0, 0, none⟩), x4, x5, x6, .int .i64 (i : Int), x8, x9, x10, x11, x12, x13, x14, x15, x16, x17, x18, x19, x20, .agg #[.int .i64 k, .int .i64 r, .int .i64 c, .int .i64 q], .slice (some ⟨rb, ro, none⟩) rn rc, .int .i64 (i : Int), .pointer (some ⟨rb, ro + i * 2, none⟩), x25, x26, x27, x28, x29, x30, x31, x32, x33, x34, x35, x36, x37, x38, x39, x40, x41, x42, x43, x44, x45, x46, x47, x48, x49, x50, x51, x52, x53, x54, x55, x56, x57, x58, x59, x60, x61, x62, x63, x64, x65, x66, x67, x68, x69, x70, x71, x72, x73, x74, x75, x76, x77, x78, x79, x80, x81, x82, x83, x84, x85, x86], defers := [] } w1.drew
  refine wpAnyH_take (i := 4) (oi := { dst := some 25, op := Op.indexAddr 67 (Operand.tmp 24) (Operand.const (Value.int IntKind.i64 0)), type := 0, pos := "outright.go:29", after := #[{ on := 3, ground := Ground.data }], guard := none }) (v := .pointer (some ⟨rb, ro + i * 2, none⟩)) rfl (by kernel_rfl) (by kernel_rfl) (by kernel_rfl) (fun _ _ _ h => (hQp _ _ _ h).elim) (Or.inl ⟨by kernel_rfl, ?_⟩) (HS.out _ hb) ?_
  · intro w' hSw
    obtain ⟨s0, s1, s2, s3, s4⟩ := HS1.out _ hSw
    go_simp <;> first | with_reducible rfl | assumption
  show wpAnyH Tryz.prog .any fops0 Q S 10 #[true, true, true, true, true, false, false, false, false, false, false, false, false, false, false] { tmps := #[x0, .slice (some ⟨rb, ro, none⟩) rn rc, x2, .pointer (some ⟨g0, 0, none⟩), x4, x5, x6, .int .i64 (i : Int), x8, x9, x10, x11, x12, x13, x14, x15, x16, x17, x18, x19, x20, .agg #[.int .i64 k, .int .i64 r, .int .i64 c, .int .i64 q], .slice (some ⟨rb, ro, none⟩) rn rc, .int .i64 (i : Int), .pointer (some ⟨rb, ro + i * 2, none⟩), .pointer (some ⟨rb, ro + i * 2, none⟩), x26, x27, x28, x29, x30, x31, x32, x33, x34, x35, x36, x37, x38, x39, x40, x41, x42, x43, x44, x45, x46, x47, x48, x49, x50, x51, x52, x53, x54, x55, x56, x57, x58, x59, x60, x61, x62, x63, x64, x65, x66, x67, x68, x69, x70, x71, x72, x73, x74, x75, x76, x77, x78, x79, x80, x81, x82, x83, x84, x85, x86], defers := [] } w1.drew
  refine wpAnyH_take (i := 5) (oi := { dst := some 26, op := Op.load 32 (Operand.tmp 25), type := 32, pos := "outright.go:29", after := #[{ on := 4, ground := Ground.data }], guard := none }) (v := .slice a0 n0 c0) rfl (by kernel_rfl) (by kernel_rfl) (by kernel_rfl) (fun _ _ _ h => (hQp _ _ _ h).elim) (Or.inl ⟨by kernel_rfl, ?_⟩) (HS.out _ hb) ?_
  · intro w' hSw
    obtain ⟨s0, s1, s2, s3, s4⟩ := HS1.out _ hSw
    go_simp <;> first | with_reducible rfl | assumption
  show wpAnyH Tryz.prog .any fops0 Q S 9 #[true, true, true, true, true, true, false, false, false, false, false, false, false, false, false] { tmps := #[x0, .slice (some ⟨rb, ro, none⟩) rn rc, x2, .pointer (some ⟨g0, 0, none⟩), x4, x5, x6, .int .i64 (i : Int), x8, x9, x10, x11, x12, x13, x14, x15, x16, x17, x18, x19, x20, .agg #[.int .i64 k, .int .i64 r, .int .i64 c, .int .i64 q], .slice (some ⟨rb, ro, none⟩) rn rc, .int .i64 (i : Int), .pointer (some ⟨rb, ro + i * 2, none⟩), .pointer (some ⟨rb, ro + i * 2, none⟩), .slice a0 n0 c0, x27, x28, x29, x30, x31, x32, x33, x34, x35, x36, x37, x38, x39, x40, x41, x42, x43, x44, x45, x46, x47, x48, x49, x50, x51, x52, x53, x54, x55, x56, x57, x58, x59, x60, x61, x62, x63, x64, x65, x66, x67, x68, x69, x70, x71, x72, x73, x74, x75, x76, x77, x78, x79, x80, x81, x82, x83, x84, x85, x86], defers := [] } w1.drew
  exact H00.out _ hb
def fops1 : Array Oper := #[{ dst := some 32, op := Op.load 23 (Operand.tmp 3), type := 23, pos := "outright.go:30", after := #[], guard := none }, { dst := some 33, op := Op.move (Operand.tmp 1), type := 24, pos := "outright.go:30", after := #[], guard := none }, { dst := some 34, op := Op.move (Operand.tmp 7), type := 3, pos := "outright.go:30", after := #[], guard := none }, { dst := some 35, op := Op.indexAddr 24 (Operand.tmp 33) (Operand.tmp 34), type := 0, pos := "outright.go:30", after := #[{ on := 1, ground := Ground.data }, { on := 2, ground := Ground.data }], guard := none }, { dst := some 36, op := Op.indexAddr 67 (Operand.tmp 35) (Operand.const (Value.int IntKind.i64 1)), type := 0, pos := "outright.go:30", after := #[{ on := 3, ground := Ground.data }], guard := none }, { dst := some 37, op := Op.load 32 (Operand.tmp 36), type := 32, pos := "outright.go:30", after := #[{ on := 4, ground := Ground.data }], guard := none }, { dst := some 38, op := Op.call { callee := Callee.value (Operand.func 22), args := #[Operand.tmp 32, Operand.tmp 37], argTypes := #[23, 32] }, type := 64, pos := "outright.go:30", after := #[{ on := 0, ground := Ground.data }, { on := 5, ground := Ground.data }], guard := none }, { dst := some 31, op := Op.move (Operand.tmp 38), type := 64, pos := "outright.go:30", after := #[{ on := 6, ground := Ground.data }], guard := none }, { dst := some 39, op := Op.extract (Operand.tmp 31) 0, type := 63, pos := "outright.go:30", after := #[{ on := 7, ground := Ground.data }], guard := none }, { dst := some 40, op := Op.extract (Operand.tmp 31) 1, type := 4, pos := "outright.go:30", after := #[{ on := 7, ground := Ground.data }, { on := 12, ground := Ground.gcOnly Departure.lateStores }], guard := none }, { dst := some 41, op := Op.extract (Operand.tmp 31) 2, type := 29, pos := "outright.go:30", after := #[{ on := 7, ground := Ground.data }, { on := 13, ground := Ground.gcOnly Departure.lateStores }], guard := none }, { dst := some 11, op := Op.alloc 63, type := 0, pos := "outright.go:30", after := #[], guard := none }, { dst := none, op := Op.store 63 (Operand.tmp 11) (Operand.tmp 39), type := 0, pos := "outright.go:30", after := #[{ on := 11, ground := Ground.data }, { on := 8, ground := Ground.data }, { on := 6, ground := Ground.chain }, { on := 0, ground := Ground.phase }, { on := 1, ground := Ground.phase }, { on := 2, ground := Ground.phase }, { on := 3, ground := Ground.phase }, { on := 4, ground := Ground.phase }, { on := 5, ground := Ground.phase }, { on := 6, ground := Ground.phase }, { on := 7, ground := Ground.phase }, { on := 8, ground := Ground.phase }, { on := 9, ground := Ground.textOnly Departure.lateStores }, { on := 10, ground := Ground.textOnly Departure.lateStores }, { on := 11, ground := Ground.phase }], guard := none }, { dst := some 12, op := Op.assign (Operand.tmp 40), type := 4, pos := "outright.go:30", after := #[{ on := 9, ground := Ground.data }, { on := 12, ground := Ground.chain }, { on := 0, ground := Ground.phase }, { on := 1, ground := Ground.phase }, { on := 2, ground := Ground.phase }, { on := 3, ground := Ground.phase }, { on := 4, ground := Ground.phase }, { on := 5, ground := Ground.phase }, { on := 6, ground := Ground.phase }, { on := 7, ground := Ground.phase }, { on := 8, ground := Ground.phase }, { on := 9, ground := Ground.phase }, { on := 10, ground := Ground.textOnly Departure.lateStores }, { on := 11, ground := Ground.phase }, { on := 12, ground := Ground.phase }], guard := none }, { dst := some 13, op := Op.assign (Operand.tmp 41), type := 29, pos := "outright.go:30", after := #[{ on := 10, ground := Ground.data }, { on := 13, ground := Ground.chain }, { on := 0, ground := Ground.phase }, { on := 1, ground := Ground.phase }, { on := 2, ground := Ground.phase }, { on := 3, ground := Ground.phase }, { on := 4, ground := Ground.phase }, { on := 5, ground := Ground.phase }, { on := 6, ground := Ground.phase }, { on := 7, ground := Ground.phase }, { on := 8, ground := Ground.phase }, { on := 9, ground := Ground.phase }, { on := 10, ground := Ground.phase }, { on := 11, ground := Ground.phase }, { on := 12, ground := Ground.phase }, { on := 13, ground := Ground.phase }], guard := none }]
set_option maxHeartbeats 8000000 in
set_option maxRecDepth 100000 in
theorem fit_reg1 (w1 : World) (k r c q : Int) (g0 rb ro rn rc i : Nat) (hi : (0 : Int) ≤ (i : Int)) (hi2 : (i : Int) < (rn : Int)) (a0 : Option Addr) (n0 c0 : Nat) (y : Sl) (b : Bool) (x0 x2 x4 x5 x6 x8 x9 x10 x11 x12 x13 x14 x15 x16 x17 x18 x19 x20 x21 x22 x23 x24 x25 x26 x27 x28 x29 x30 x31 x32 x33 x34 x35 x36 x37 x38 x39 x40 x41 x42 x43 x44 x45 x46 x47 x48 x49 x50 x51 x52 x53 x54 x55 x56 x57 x58 x59 x60 x61 x62 x63 x64 x65 x66 x67 x68 x69 x70 x71 x72 x73 x74 x75 x76 x77 x78 x79 x80 x81 x82 x83 x84 x85 x86 : Value)
    (hS : ∀ v, Below w1.heap.size w1 v → (v.cell? ⟨g0, 0, none⟩ = some (.int .i64 k) ∧ v.cell? ⟨g0, 1, none⟩ = some (.int .i64 r) ∧ v.cell? ⟨g0, 2, none⟩ = some (.int .i64 c) ∧ v.cell? ⟨g0, 3, none⟩ = some (.int .i64 q) ∧ v.cell? ⟨rb, ro + i * 2 + 1, none⟩ = some (.slice a0 n0 c0)))
    (P1 : ∀ v, Below w1.heap.size w1 v → Calls Tryz.prog 22 #[.agg #[.int .i64 k, .int .i64 r, .int .i64 c, .int .i64 q], .slice a0 n0 c0] v fun e w' => ∃ ao ca bo cb, e = .returned (.tuple #[.agg #[.int .u8 ((y.kd.toNat : Nat) : Int), .int .i64 y.ix, .int .i64 y.ce, .int .i64 y.st, .slice ao y.vn ca, .slice bo y.dn cb], .bool b, .int .i64 0]) ∧ Below v.heap.size v w')
    (Q : Exit → Act → World → Prop) (hQp : ∀ ch a v, Q (.panic ch) a v → False) (hQ : ∀ v g ao ca bo cb, Below w1.heap.size w1 v → At w1 v g #[.int .u8 ((y.kd.toNat : Nat) : Int), .int .i64 y.ix, .int .i64 y.ce, .int .i64 y.st, .slice ao y.vn ca, .slice bo y.dn cb] 63 → Q .normal { tmps := #[x0, .slice (some ⟨rb, ro, none⟩) rn rc, x2, .pointer (some ⟨g0, 0, none⟩), x4, x5, x6, .int .i64 (i : Int), x8, x9, x10, .pointer (some ⟨g, 0, none⟩), .bool b, .int .i64 0, x14, x15, x16, x17, x18, x19, x20, x21, x22, x23, x24, x25, x26, x27, x28, x29, x30, .tuple #[.agg #[.int .u8 ((y.kd.toNat : Nat) : Int), .int .i64 y.ix, .int .i64 y.ce, .int .i64 y.st, .slice ao y.vn ca, .slice bo y.dn cb], .bool b, .int .i64 0], .agg #[.int .i64 k, .int .i64 r, .int .i64 c, .int .i64 q], .slice (some ⟨rb, ro, none⟩) rn rc, .int .i64 (i : Int), .pointer (some ⟨rb, ro + i * 2, none⟩), .pointer (some ⟨rb, ro + i * 2 + 1, none⟩), .slice a0 n0 c0, .tuple #[.agg #[.int .u8 ((y.kd.toNat : Nat) : Int), .int .i64 y.ix, .int .i64 y.ce, .int .i64 y.st, .slice ao y.vn ca, .slice bo y.dn cb], .bool b, .int .i64 0], .agg #[.int .u8 ((y.kd.toNat : Nat) : Int), .int .i64 y.ix, .int .i64 y.ce, .int .i64 y.st, .slice ao y.vn ca, .slice bo y.dn cb], .bool b, .int .i64 0, x42, x43, x44, x45, x46, x47, x48, x49, x50, x51, x52, x53, x54, x55, x56, x57, x58, x59, x60, x61, x62, x63, x64, x65, x66, x67, x68, x69, x70, x71, x72, x73, x74, x75, x76, x77, x78, x79, x80, x81, x82, x83, x84, x85, x86], defers := [] } v) :
    Code.wp Tryz.prog (Code.region 5 fops1 true) Q { tmps := #[x0, .slice (some ⟨rb, ro, none⟩) rn rc, x2, .pointer (some ⟨g0, 0, none⟩), x4, x5, x6, .int .i64 (i : Int), x8, x9, x10, x11, x12, x13, x14, x15, x16, x17, x18, x19, x20, x21, x22, x23, x24, x25, x26, x27, x28, x29, x30, x31, x32, x33, x34, x35, x36, x37, x38, x39, x40, x41, x42, x43, x44, x45, x46, x47, x48, x49, x50, x51, x52, x53, x54, x55, x56, x57, x58, x59, x60, x61, x62, x63, x64, x65, x66, x67, x68, x69, x70, x71, x72, x73, x74, x75, x76, x77, x78, x79, x80, x81, x82, x83, x84, x85, x86], defers := [] } w1 := by
  have HQ : Hid (∀ v g ao ca bo cb, Below w1.heap.size w1 v → At w1 v g #[.int .u8 ((y.kd.toNat : Nat) : Int), .int .i64 y.ix, .int .i64 y.ce, .int .i64 y.st, .slice ao y.vn ca, .slice bo y.dn cb] 63 → Q .normal { tmps := #[x0, .slice (some ⟨rb, ro, none⟩) rn rc, x2, .pointer (some ⟨g0, 0, none⟩), x4, x5, x6, .int .i64 (i : Int), x8, x9, x10, .pointer (some ⟨g, 0, none⟩), .bool b, .int .i64 0, x14, x15, x16, x17, x18, x19, x20, x21, x22, x23, x24, x25, x26, x27, x28, x29, x30, .tuple #[.agg #[.int .u8 ((y.kd.toNat : Nat) : Int), .int .i64 y.ix, .int .i64 y.ce, .int .i64 y.st, .slice ao y.vn ca, .slice bo y.dn cb], .bool b, .int .i64 0], .agg #[.int .i64 k, .int .i64 r, .int .i64 c, .int .i64 q], .slice (some ⟨rb, ro, none⟩) rn rc, .int .i64 (i : Int), .pointer (some ⟨rb, ro + i * 2, none⟩), .pointer (some ⟨rb, ro + i * 2 + 1, none⟩), .slice a0 n0 c0, .tuple #[.agg #[.int .u8 ((y.kd.toNat : Nat) : Int), .int .i64 y.ix, .int .i64 y.ce, .int .i64 y.st, .slice ao y.vn ca, .slice bo y.dn cb], .bool b, .int .i64 0], .agg #[.int .u8 ((y.kd.toNat : Nat) : Int), .int .i64 y.ix, .int .i64 y.ce, .int .i64 y.st, .slice ao y.vn ca, .slice bo y.dn cb], .bool b, .int .i64 0, x42, x43, x44, x45, x46, x47, x48, x49, x50, x51, x52, x53, x54, x55, x56, x57, x58, x59, x60, x61, x62, x63, x64, x65, x66, x67, x68, x69, x70, x71, x72, x73, x74, x75, x76, x77, x78, x79, x80, x81, x82, x83, x84, x85, x86], defers := [] } v) := hQ
  obtain ⟨S, HS1, HS⟩ : ∃ S : World → Prop, Hid (∀ v, S v → (v.cell? ⟨g0, 0, none⟩ = some (.int .i64 k) ∧ v.cell? ⟨g0, 1, none⟩ = some (.int .i64 r) ∧ v.cell? ⟨g0, 2, none⟩ = some (.int .i64 c) ∧ v.cell? ⟨g0, 3, none⟩ = some (.int .i64 q) ∧ v.cell? ⟨rb, ro + i * 2 + 1, none⟩ = some (.slice a0 n0 c0))) ∧ Hid (∀ v, Below w1.heap.size w1 v → S v) := ⟨fun v => v.cell? ⟨g0, 0, none⟩ = some (.int .i64 k) ∧ v.cell? ⟨g0, 1, none⟩ = some (.int .i64 r) ∧ v.cell? ⟨g0, 2, none⟩ = some (.int .i64 c) ∧ v.cell? ⟨g0, 3, none⟩ = some (.int .i64 q) ∧ v.cell? ⟨rb, ro + i * 2 + 1, none⟩ = some (.slice a0 n0 c0), fun v h => h, hS⟩
  have HP1 : Hid (∀ v, Below w1.heap.size w1 v → Calls Tryz.prog 22 #[.agg #[.int .i64 k, .int .i64 r, .int .i64 c, .int .i64 q], .slice a0 n0 c0] v fun e w' => ∃ ao ca bo cb, e = .returned (.tuple #[.agg #[.int .u8 ((y.kd.toNat : Nat) : Int), .int .i64 y.ix, .int .i64 y.ce, .int .i64 y.st, .slice ao y.vn ca, .slice bo y.dn cb], .bool b, .int .i64 0]) ∧ Below v.heap.size v w') := P1
  clear hS hQ P1
  have H11 : Hid (∀ (v : World) (ao : Option Addr) (ca : Nat) (bo : Option Addr) (cb : Nat) (g : Nat), Below w1.heap.size w1 v → At w1 v g #[.int .u8 0, .int .i64 0, .int .i64 0, .int .i64 0, .slice none 0 0, .slice none 0 0] 63 → wpAnyH Tryz.prog .any fops1 Q S 3 #[true, true, true, true, true, true, true, true, true, true, true, true, false, false, false] { tmps := #[x0, .slice (some ⟨rb, ro, none⟩) rn rc, x2, .pointer (some ⟨g0, 0, none⟩), x4, x5, x6, .int .i64 (i : Int), x8, x9, x10, .pointer (some ⟨g, 0, none⟩), x12, x13, x14, x15, x16, x17, x18, x19, x20, x21, x22, x23, x24, x25, x26, x27, x28, x29, x30, .tuple #[.agg #[.int .u8 ((y.kd.toNat : Nat) : Int), .int .i64 y.ix, .int .i64 y.ce, .int .i64 y.st, .slice ao y.vn ca, .slice bo y.dn cb], .bool b, .int .i64 0], .agg #[.int .i64 k, .int .i64 r, .int .i64 c, .int .i64 q], .slice (some ⟨rb, ro, none⟩) rn rc, .int .i64 (i : Int), .pointer (some ⟨rb, ro + i * 2, none⟩), .pointer (some ⟨rb, ro + i * 2 + 1, none⟩), .slice a0 n0 c0, .tuple #[.agg #[.int .u8 ((y.kd.toNat : Nat) : Int), .int .i64 y.ix, .int .i64 y.ce, .int .i64 y.st, .slice ao y.vn ca, .slice bo y.dn cb], .bool b, .int .i64 0], .agg #[.int .u8 ((y.kd.toNat : Nat) : Int), .int .i64 y.ix, .int .i64 y.ce, .int .i64 y.st, .slice ao y.vn ca, .slice bo y.dn cb], .bool b, .int .i64 0, x42, x43, x44, x45, x46, x47, x48, x49, x50, x51, x52, x53, x54, x55, x56, x57, x58, x59, x60, x61, x62, x63, x64, x65, x66, x67, x68, x69, x70, x71, x72, x73, x74, x75, x76, x77, x78, x79, x80, x81, x82, x83, x84, x85, x86], defers := [] } v) := fun v ao ca bo cb g hb f3 => by
    have c0 := f3.cell (i := 0) rfl
    have c1 := f3.cell (i := 1) rfl
    have c2 := f3.cell (i := 2) rfl
    have c3 := f3.cell (i := 3) rfl
    have c4 := f3.cell (i := 4) rfl
    have c5 := f3.cell (i := 5) rfl
    have cf := f3.free
    have hbb := b_six hb f3.1 (.int .u8 ((y.kd.toNat : Nat) : Int)) (.int .i64 y.ix) (.int .i64 y.ce) (.int .i64 y.st) (.slice ao y.vn ca) (.slice bo y.dn cb)
    have hat := at_six f3 (.int .u8 ((y.kd.toNat : Nat) : Int)) (.int .i64 y.ix) (.int .i64 y.ce) (.int .i64 y.st) (.slice ao y.vn ca) (.slice bo y.dn cb)
    refine wpAnyH_ready (rs := [12]) (by kernel_rfl) (by simp) ?_
    refine AllReadyH.cons (o := { dst := none, op := Op.store 63 (Operand.tmp 11) (Operand.tmp 39), type := 0, pos := "outright.go:30", after := #[{ on := 11, ground := Ground.data }, { on := 8, ground := Ground.data }, { on := 6, ground := Ground.chain }, { on := 0, ground := Ground.phase }, { on := 1, ground := Ground.phase }, { on := 2, ground := Ground.phase }, { on := 3, ground := Ground.phase }, { on := 4, ground := Ground.phase }, { on := 5, ground := Ground.phase }, { on := 6, ground := Ground.phase }, { on := 7, ground := Ground.phase }, { on := 8, ground := Ground.phase }, { on := 9, ground := Ground.textOnly Departure.lateStores }, { on := 10, ground := Ground.textOnly Departure.lateStores }, { on := 11, ground := Ground.phase }], guard := none }) rfl (fun K hK => ?_) AllReadyH.nil
    go_simp
    refine hK.out _ _ (HS.out _ hbb) (fun hHeld => ?_)
    refine wpAnyH_take (i := 13) (oi := { dst := some 12, op := Op.assign (Operand.tmp 40), type := 4, pos := "outright.go:30", after := #[{ on := 9, ground := Ground.data }, { on := 12, ground := Ground.chain }, { on := 0, ground := Ground.phase }, { on := 1, ground := Ground.phase }, { on := 2, ground := Ground.phase }, { on := 3, ground := Ground.phase }, { on := 4, ground := Ground.phase }, { on := 5, ground := Ground.phase }, { on := 6, ground := Ground.phase }, { on := 7, ground := Ground.phase }, { on := 8, ground := Ground.phase }, { on := 9, ground := Ground.phase }, { on := 10, ground := Ground.textOnly Departure.lateStores }, { on := 11, ground := Ground.phase }, { on := 12, ground := Ground.phase }], guard := none }) (v := .bool b) rfl (by kernel_rfl) (by kernel_rfl) (by kernel_rfl) (fun _ _ _ h => (hQp _ _ _ h).elim) (Or.inl ⟨by kernel_rfl, ?_⟩) (HS.out _ hbb) ?_
    · intro w' hSw
      obtain ⟨s0, s1, s2, s3, s4⟩ := HS1.out _ hSw
      go_simp <;> first | with_reducible rfl | assumption
    refine wpAnyH_take (i := 14) (oi := { dst := some 13, op := Op.assign (Operand.tmp 41), type := 29, pos := "outright.go:30", after := #[{ on := 10, ground := Ground.data }, { on := 13, ground := Ground.chain }, { on := 0, ground := Ground.phase }, { on := 1, ground := Ground.phase }, { on := 2, ground := Ground.phase }, { on := 3, ground := Ground.phase }, { on := 4, ground := Ground.phase }, { on := 5, ground := Ground.phase }, { on := 6, ground := Ground.phase }, { on := 7, ground := Ground.phase }, { on := 8, ground := Ground.phase }, { on := 9, ground := Ground.phase }, { on := 10, ground := Ground.phase }, { on := 11, ground := Ground.phase }, { on := 12, ground := Ground.phase }, { on := 13, ground := Ground.phase }], guard := none }) (v := .int .i64 0) rfl (by kernel_rfl) (by kernel_rfl) (by kernel_rfl) (fun _ _ _ h => (hQp _ _ _ h).elim) (Or.inl ⟨by kernel_rfl, ?_⟩) (HS.out _ hbb) ?_
    · intro w' hSw
      obtain ⟨s0, s1, s2, s3, s4⟩ := HS1.out _ hSw
      go_simp <;> first | with_reducible rfl | assumption
    refine wpAnyH_done (by kernel_rfl) ?_ _
    exact HQ.out _ g ao ca bo cb hbb hat
  have H10 : Hid (∀ (v : World) (ao : Option Addr) (ca : Nat) (bo : Option Addr) (cb : Nat), Below w1.heap.size w1 v → wpAnyH Tryz.prog .any fops1 Q S 4 #[true, true, true, true, true, true, true, true, true, true, true, false, false, false, false] { tmps := #[x0, .slice (some ⟨rb, ro, none⟩) rn rc, x2, .pointer (some ⟨g0, 0, none⟩), x4, x5, x6, .int .i64 (i : Int), x8, x9, x10, x11, x12, x13, x14, x15, x16, x17, x18, x19, x20, x21, x22, x23, x24, x25, x26, x27, x28, x29, x30, .tuple #[.agg #[.int .u8 ((y.kd.toNat : Nat) : Int), .int .i64 y.ix, .int .i64 y.ce, .int .i64 y.st, .slice ao y.vn ca, .slice bo y.dn cb], .bool b, .int .i64 0], .agg #[.int .i64 k, .int .i64 r, .int .i64 c, .int .i64 q], .slice (some ⟨rb, ro, none⟩) rn rc, .int .i64 (i : Int), .pointer (some ⟨rb, ro + i * 2, none⟩), .pointer (some ⟨rb, ro + i * 2 + 1, none⟩), .slice a0 n0 c0, .tuple #[.agg #[.int .u8 ((y.kd.toNat : Nat) : Int), .int .i64 y.ix, .int .i64 y.ce, .int .i64 y.st, .slice ao y.vn ca, .slice bo y.dn cb], .bool b, .int .i64 0], .agg #[.int .u8 ((y.kd.toNat : Nat) : Int), .int .i64 y.ix, .int .i64 y.ce, .int .i64 y.st, .slice ao y.vn ca, .slice bo y.dn cb], .bool b, .int .i64 0, x42, x43, x44, x45, x46, x47, x48, x49, x50, x51, x52, x53, x54, x55, x56, x57, x58, x59, x60, x61, x62, x63, x64, x65, x66, x67, x68, x69, x70, x71, x72, x73, x74, x75, x76, x77, x78, x79, x80, x81, x82, x83, x84, x85, x86], defers := [] } v) := fun v ao ca bo cb hb => by
    refine wpAnyH_ready (rs := [11]) (by kernel_rfl) (by simp) ?_
    refine AllReadyH.cons (o := { dst := some 11, op := Op.alloc 63, type := 0, pos := "outright.go:30", after := #[], guard := none }) rfl (fun K hK => ?_) AllReadyH.nil
    go_simp
    refine hK.out _ _ (HS.out _ (b_alloc hb _)) (fun hHeld => ?_)
    exact H11.out _ ao ca bo cb _ (b_alloc hb _) (at_new hb _ _)
  have H01 : Hid (∀ (v : World) (g : Nat), Below w1.heap.size w1 v → At w1 v g #[.int .u8 0, .int .i64 0, .int .i64 0, .int .i64 0, .slice none 0 0, .slice none 0 0] 63 → wpAnyH Tryz.prog .any fops1 Q S 8 #[true, true, true, true, true, true, false, false, false, false, false, true, false, false, false] { tmps := #[x0, .slice (some ⟨rb, ro, none⟩) rn rc, x2, .pointer (some ⟨g0, 0, none⟩), x4, x5, x6, .int .i64 (i : Int), x8, x9, x10, .pointer (some ⟨g, 0, none⟩), x12, x13, x14, x15, x16, x17, x18, x19, x20, x21, x22, x23, x24, x25, x26, x27, x28, x29, x30, x31, .agg #[.int .i64 k, .int .i64 r, .int .i64 c, .int .i64 q], .slice (some ⟨rb, ro, none⟩) rn rc, .int .i64 (i : Int), .pointer (some ⟨rb, ro + i * 2, none⟩), .pointer (some ⟨rb, ro + i * 2 + 1, none⟩), .slice a0 n0 c0, x38, x39, x40, x41, x42, x43, x44, x45, x46, x47, x48, x49, x50, x51, x52, x53, x54, x55, x56, x57, x58, x59, x60, x61, x62, x63, x64, x65, x66, x67, x68, x69, x70, x71, x72, x73, x74, x75, x76, x77, x78, x79, x80, x81, x82, x83, x84, x85, x86], defers := [] } v) := fun v g hb f3 => by
    refine wpAnyH_ready (rs := [6]) (by kernel_rfl) (by simp) ?_
    refine AllReadyH.cons (o := { dst := some 38, op := Op.call { callee := Callee.value (Operand.func 22), args := #[Operand.tmp 32, Operand.tmp 37], argTypes := #[23, 32] }, type := 64, pos := "outright.go:30", after := #[{ on := 0, ground := Ground.data }, { on := 5, ground := Ground.data }], guard := none }) rfl (fun K hK => ?_) AllReadyH.nil
    go_simp
    refine (HP1.out _ hb).mono ?_
    rintro e w' ⟨ao, ca, bo, cb, rfl, hw'⟩
    have hb' := below_then hb hw'
    refine hK.out _ _ (HS.out _ hb') (fun hHeld => ?_)
    show wpAnyH Tryz.prog .any fops1 Q S 7 #[true, true, true, true, true, true, true, false, false, false, false, true, false, false, false] { tmps := #[x0, .slice (some ⟨rb, ro, none⟩) rn rc, x2, .pointer (some ⟨g0, 0, none⟩), x4, x5, x6, .int .i64 (i : Int), x8, x9, x10, .pointer (some ⟨g, 0, none⟩), x12, x13, x14, x15, x16, x17, x18, x19, x20, x21, x22, x23, x24, x25, x26, x27, x28, x29, x30, x31, .agg #[.int .i64 k, .int .i64 r, .int .i64 c, .int .i64 q], .slice (some ⟨rb, ro, none⟩) rn rc, .int .i64 (i : Int), .pointer (some ⟨rb, ro + i * 2, none⟩), .pointer (some ⟨rb, ro + i * 2 + 1, none⟩), .slice a0 n0 c0, .tuple #[.agg #[.int .u8 ((y.kd.toNat : Nat) : Int), .int .i64 y.ix, .int .i64 y.ce, .int .i64 y.st, .slice ao y.vn ca, .slice bo y.dn cb], .bool b, .int .i64 0], x39, x40, x41, x42, x43, x44, x45, x46, x47, x48, x49, x50, x51, x52, x53, x54, x55, x56, x57, x58, x59, x60, x61, x62, x63, x64, x65, x66, x67, x68, x69, x70, x71, x72, x73, x74, x75, x76, x77, x78, x79, x80, x81, x82, x83, x84, x85, x86], defers := [] } w'
    refine wpAnyH_take (i := 7) (oi := { dst := some 31, op := Op.move (Operand.tmp 38), type := 64, pos := "outright.go:30", after := #[{ on := 6, ground := Ground.data }], guard := none }) (v := .tuple #[.agg #[.int .u8 ((y.kd.toNat : Nat) : Int), .int .i64 y.ix, .int .i64 y.ce, .int .i64 y.st, .slice ao y.vn ca, .slice bo y.dn cb], .bool b, .int .i64 0]) rfl (by kernel_rfl) (by kernel_rfl) (by kernel_rfl) (fun _ _ _ h => (hQp _ _ _ h).elim) (Or.inl ⟨by kernel_rfl, ?_⟩) (HS.out _ hb') ?_
    · intro w' hSw
      obtain ⟨s0, s1, s2, s3, s4⟩ := HS1.out _ hSw
      go_simp <;> first | with_reducible rfl | assumption
    show wpAnyH Tryz.prog .any fops1 Q S 6 #[true, true, true, true, true, true, true, true, false, false, false, true, false, false, false] { tmps := #[x0, .slice (some ⟨rb, ro, none⟩) rn rc, x2, .pointer (some ⟨g0, 0, none⟩), x4, x5, x6, .int .i64 (i : Int), x8, x9, x10, .pointer (some ⟨g, 0, none⟩), x12, x13, x14, x15, x16, x17, x18, x19, x20, x21, x22, x23, x24, x25, x26, x27, x28, x29, x30, .tuple #[.agg #[.int .u8 ((y.kd.toNat : Nat) : Int), .int .i64 y.ix, .int .i64 y.ce, .int .i64 y.st, .slice ao y.vn ca, .slice bo y.dn cb], .bool b, .int .i64 0], .agg #[.int .i64 k, .int .i64 r, .int .i64 c, .int .i64 q], .slice (some ⟨rb, ro, none⟩) rn rc, .int .i64 (i : Int), .pointer (some ⟨rb, ro + i * 2, none⟩), .pointer (some ⟨rb, ro + i * 2 + 1, none⟩), .slice a0 n0 c0, .tuple #[.agg #[.int .u8 ((y.kd.toNat : Nat) : Int), .int .i64 y.ix, .int .i64 y.ce, .int .i64 y.st, .slice ao y.vn ca, .slice bo y.dn cb], .bool b, .int .i64 0], x39, x40, x41, x42, x43, x44, x45, x46, x47, x48, x49, x50, x51, x52, x53, x54, x55, x56, x57, x58, x59, x60, x61, x62, x63, x64, x65, x66, x67, x68, x69, x70, x71, x72, x73, x74, x75, x76, x77, x78, x79, x80, x81, x82, x83, x84, x85, x86], defers := [] } w'
    refine wpAnyH_take (i := 8) (oi := { dst := some 39, op := Op.extract (Operand.tmp 31) 0, type := 63, pos := "outright.go:30", after := #[{ on := 7, ground := Ground.data }], guard := none }) (v := .agg #[.int .u8 ((y.kd.toNat : Nat) : Int), .int .i64 y.ix, .int .i64 y.ce, .int .i64 y.st, .slice ao y.vn ca, .slice bo y.dn cb]) rfl (by kernel_rfl) (by kernel_rfl) (by kernel_rfl) (fun _ _ _ h => (hQp _ _ _ h).elim) (Or.inl ⟨by kernel_rfl, ?_⟩) (HS.out _ hb') ?_
    · intro w' hSw
      obtain ⟨s0, s1, s2, s3, s4⟩ := HS1.out _ hSw
      go_simp <;> first | with_reducible rfl | assumption
    show wpAnyH Tryz.prog .any fops1 Q S 5 #[true, true, true, true, true, true, true, true, true, false, false, true, false, false, false] { tmps := #[x0, .slice (some ⟨rb, ro, none⟩) rn rc, x2, .pointer (some ⟨g0, 0, none⟩), x4, x5, x6, .int .i64 (i : Int), x8, x9, x10, .pointer (some ⟨g, 0, none⟩), x12, x13, x14, x15, x16, x17, x18, x19, x20, x21, x22, x23, x24, x25, x26, x27, x28, x29, x30, .tuple #[.agg #[.int .u8 ((y.kd.toNat : Nat) : Int), .int .i64 y.ix, .int .i64 y.ce, .int .i64 y.st, .slice ao y.vn ca, .slice bo y.dn cb], .bool b, .int .i64 0], .agg #[.int .i64 k, .int .i64 r, .int .i64 c, .int .i64 q], .slice (some ⟨rb, ro, none⟩) rn rc, .int .i64 (i : Int), .pointer (some ⟨rb, ro + i * 2, none⟩), .pointer (some ⟨rb, ro + i * 2 + 1, none⟩), .slice a0 n0 c0, .tuple #[.agg #[.int .u8 ((y.kd.toNat : Nat) : Int), .int .i64 y.ix, .int .i64 y.ce, .int .i64 y.st, .slice ao y.vn ca, .slice bo y.dn cb], .bool b, .int .i64 0], .agg #[.int .u8 ((y.kd.toNat : Nat) : Int), .int .i64 y.ix, .int .i64 y.ce, .int .i64 y.st, .slice ao y.vn ca, .slice bo y.dn cb], x40, x41, x42, x43, x44, x45, x46, x47, x48, x49, x50, x51, x52, x53, x54, x55, x56, x57, x58, x59, x60, x61, x62, x63, x64, x65, x66, x67, x68, x69, x70, x71, x72, x73, x74, x75, x76, x77, x78, x79, x80, x81, x82, x83, x84, x85, x86], defers := [] } w'
    refine wpAnyH_take (i := 9) (oi := { dst := some 40, op := Op.extract (Operand.tmp 31) 1, type := 4, pos := "outright.go:30", after := #[{ on := 7, ground := Ground.data }, { on := 12, ground := Ground.gcOnly Departure.lateStores }], guard := none }) (v := .bool b) rfl (by kernel_rfl) (by kernel_rfl) (by kernel_rfl) (fun _ _ _ h => (hQp _ _ _ h).elim) (Or.inl ⟨by kernel_rfl, ?_⟩) (HS.out _ hb') ?_
    · intro w' hSw
      obtain ⟨s0, s1, s2, s3, s4⟩ := HS1.out _ hSw
      go_simp <;> first | with_reducible rfl | assumption
    show wpAnyH Tryz.prog .any fops1 Q S 4 #[true, true, true, true, true, true, true, true, true, true, false, true, false, false, false] { tmps := #[x0, .slice (some ⟨rb, ro, none⟩) rn rc, x2, .pointer (some ⟨g0, 0, none⟩), x4, x5, x6, .int .i64 (i : Int), x8, x9, x10, .pointer (some ⟨g, 0, none⟩), x12, x13, x14, x15, x16, x17, x18, x19, x20, x21, x22, x23, x24, x25, x26, x27, x28, x29, x30, .tuple #[.agg #[.int .u8 ((y.kd.toNat : Nat) : Int), .int .i64 y.ix, .int .i64 y.ce, .int .i64 y.st, .slice ao y.vn ca, .slice bo y.dn cb], .bool b, .int .i64 0], .agg #[.int .i64 k, .int .i64 r, .int .i64 c, .int .i64 q], .slice (some ⟨rb, ro, none⟩) rn rc, .int .i64 (i : Int), .pointer (some ⟨rb, ro + i * 2, none⟩), .pointer (some ⟨rb, ro + i * 2 + 1, none⟩), .slice a0 n0 c0, .tuple #[.agg #[.int .u8 ((y.kd.toNat : Nat) : Int), .int .i64 y.ix, .int .i64 y.ce, .int .i64 y.st, .slice ao y.vn ca, .slice bo y.dn cb], .bool b, .int .i64 0], .agg #[.int .u8 ((y.kd.toNat : Nat) : Int), .int .i64 y.ix, .int .i64 y.ce, .int .i64 y.st, .slice ao y.vn ca, .slice bo y.dn cb], .bool b, x41, x42, x43, x44, x45, x46, x47, x48, x49, x50, x51, x52, x53, x54, x55, x56, x57, x58, x59, x60, x61, x62, x63, x64, x65, x66, x67, x68, x69, x70, x71, x72, x73, x74, x75, x76, x77, x78, x79, x80, x81, x82, x83, x84, x85, x86], defers := [] } w'
    refine wpAnyH_take (i := 10) (oi := { dst := some 41, op := Op.extract (Operand.tmp 31) 2, type := 29, pos := "outright.go:30", after := #[{ on := 7, ground := Ground.data }, { on := 13, ground := Ground.gcOnly Departure.lateStores }], guard := none }) (v := .int .i64 0) rfl (by kernel_rfl) (by kernel_rfl) (by kernel_rfl) (fun _ _ _ h => (hQp _ _ _ h).elim) (Or.inl ⟨by kernel_rfl, ?_⟩) (HS.out _ hb') ?_
    · intro w' hSw
      obtain ⟨s0, s1, s2, s3, s4⟩ := HS1.out _ hSw
      go_simp <;> first | with_reducible rfl | assumption
    show wpAnyH Tryz.prog .any fops1 Q S 3 #[true, true, true, true, true, true, true, true, true, true, true, true, false, false, false] { tmps := #[x0, .slice (some ⟨rb, ro, none⟩) rn rc, x2, .pointer (some ⟨g0, 0, none⟩), x4, x5, x6, .int .i64 (i : Int), x8, x9, x10, .pointer (some ⟨g, 0, none⟩), x12, x13, x14, x15, x16, x17, x18, x19, x20, x21, x22, x23, x24, x25, x26, x27, x28, x29, x30, .tuple #[.agg #[.int .u8 ((y.kd.toNat : Nat) : Int), .int .i64 y.ix, .int .i64 y.ce, .int .i64 y.st, .slice ao y.vn ca, .slice bo y.dn cb], .bool b, .int .i64 0], .agg #[.int .i64 k, .int .i64 r, .int .i64 c, .int .i64 q], .slice (some ⟨rb, ro, none⟩) rn rc, .int .i64 (i : Int), .pointer (some ⟨rb, ro + i * 2, none⟩), .pointer (some ⟨rb, ro + i * 2 + 1, none⟩), .slice a0 n0 c0, .tuple #[.agg #[.int .u8 ((y.kd.toNat : Nat) : Int), .int .i64 y.ix, .int .i64 y.ce, .int .i64 y.st, .slice ao y.vn ca, .slice bo y.dn cb], .bool b, .int .i64 0], .agg #[.int .u8 ((y.kd.toNat : Nat) : Int), .int .i64 y.ix, .int .i64 y.ce, .int .i64 y.st, .slice ao y.vn ca, .slice bo y.dn cb], .bool b, .int .i64 0, x42, x43, x44, x45, x46, x47, x48, x49, x50, x51, x52, x53, x54, x55, x56, x57, x58, x59, x60, x61, x62, x63, x64, x65, x66, x67, x68, x69, x70, x71, x72, x73, x74, x75, x76, x77, x78, x79, x80, x81, x82, x83, x84, x85, x86], defers := [] } w'
    exact H11.out _ ao ca bo cb g hb' (f3.below hw')
  have H00 : Hid (∀ (v : World), Below w1.heap.size w1 v → wpAnyH Tryz.prog .any fops1 Q S 9 #[true, true, true, true, true, true, false, false, false, false, false, false, false, false, false] { tmps := #[x0, .slice (some ⟨rb, ro, none⟩) rn rc, x2, .pointer (some ⟨g0, 0, none⟩), x4, x5, x6, .int .i64 (i : Int), x8, x9, x10, x11, x12, x13, x14, x15, x16, x17, x18, x19, x20, x21, x22, x23, x24, x25, x26, x27, x28, x29, x30, x31, .agg #[.int .i64 k, .int .i64 r, .int .i64 c, .int .i64 q], .slice (some ⟨rb, ro, none⟩) rn rc, .int .i64 (i : Int), .pointer (some ⟨rb, ro + i * 2, none⟩), .pointer (some ⟨rb, ro + i * 2 + 1, none⟩), .slice a0 n0 c0, x38, x39, x40, x41, x42, x43, x44, x45, x46, x47, x48, x49, x50, x51, x52, x53, x54, x55, x56, x57, x58, x59, x60, x61, x62, x63, x64, x65, x66, x67, x68, x69, x70, x71, x72, x73, x74, x75, x76, x77, x78, x79, x80, x81, x82, x83, x84, x85, x86], defers := [] } v) := fun v hb => by
    refine wpAnyH_ready (rs := [6, 11]) (by kernel_rfl) (by simp) ?_
    refine AllReadyH.cons (o := { dst := some 38, op := Op.call { callee := Callee.value (Operand.func 22), args := #[Operand.tmp 32, Operand.tmp 37], argTypes := #[23, 32] }, type := 64, pos := "outright.go:30", after := #[{ on := 0, ground := Ground.data }, { on := 5, ground := Ground.data }], guard := none }) rfl (fun K hK => ?_) ?_
    rotate_left
    refine AllReadyH.cons (o := { dst := some 11, op := Op.alloc 63, type := 0, pos := "outright.go:30", after := #[], guard := none }) rfl (fun K hK => ?_) AllReadyH.nil
    rotate_left
    · skip
      go_simp
      refine (HP1.out _ hb).mono ?_
      rintro e w' ⟨ao, ca, bo, cb, rfl, hw'⟩
      have hb' := below_then hb hw'
      refine hK.out _ _ (HS.out _ hb') (fun hHeld => ?_)
      show wpAnyH Tryz.prog .any fops1 Q S 8 #[true, true, true, true, true, true, true, false, false, false, false, false, false, false, false] { tmps := #[x0, .slice (some ⟨rb, ro, none⟩) rn rc, x2, .pointer (some ⟨g0, 0, none⟩), x4, x5, x6, .int .i64 (i : Int), x8, x9, x10, x11, x12, x13, x14, x15, x16, x17, x18, x19, x20, x21, x22, x23, x24, x25, x26, x27, x28, x29, x30, x31, .agg #[.int .i64 k, .int .i64 r, .int .i64 c, .int .i64 q], .slice (some ⟨rb, ro, none⟩) rn rc, .int .i64 (i : Int), .pointer (some ⟨rb, ro + i * 2, none⟩), .pointer (some ⟨rb, ro + i * 2 + 1, none⟩), .slice a0 n0 c0, .tuple #[.agg #[.int .u8 ((y.kd.toNat : Nat) : Int), .int .i64 y.ix, .int .i64 y.ce, .int .i64 y.st, .slice ao y.vn ca, .slice bo y.dn cb], .bool b, .int .i64 0], x39, x40, x41, x42, x43, x44, x45, x46, x47, x48, x49, x50, x51, x52, x53, x54, x55, x56, x57, x58, x59, x60, x61, x62, x63, x64, x65, x66, x67, x68, x69, x70, x71, x72, x73, x74, x75, x76, x77, x78, x79, x80, x81, x82, x83, x84, x85, x86], defers := [] } w'
      refine wpAnyH_take (i := 7) (oi := { dst := some 31, op := Op.move (Operand.tmp 38), type := 64, pos := "outright.go:30", after := #[{ on := 6, ground := Ground.data }], guard := none }) (v := .tuple #[.agg #[.int .u8 ((y.kd.toNat : Nat) : Int), .int .i64 y.ix, .int .i64 y.ce, .int .i64 y.st, .slice ao y.vn ca, .slice bo y.dn cb], .bool b, .int .i64 0]) rfl (by kernel_rfl) (by kernel_rfl) (by kernel_rfl) (fun _ _ _ h => (hQp _ _ _ h).elim) (Or.inl ⟨by kernel_rfl, ?_⟩) (HS.out _ hb') ?_
      · intro w' hSw
        obtain ⟨s0, s1, s2, s3, s4⟩ := HS1.out _ hSw
        go_simp <;> first | with_reducible rfl | assumption
      show wpAnyH Tryz.prog .any fops1 Q S 7 #[true, true, true, true, true, true, true, true, false, false, false, false, false, false, false] { tmps := #[x0, .slice (some ⟨rb, ro, none⟩) rn rc, x2, .pointer (some ⟨g0, 0, none⟩), x4, x5, x6, .int .i64 (i : Int), x8, x9, x10, x11, x12, x13, x14, x15, x16, x17, x18, x19, x20, x21, x22, x23, x24, x25, x26, x27, x28, x29, x30, .tuple #[.agg #[.int .u8 ((y.kd.toNat : Nat) : Int), .int .i64 y.ix, .int .i64 y.ce, .int .i64 y.st, .slice ao y.vn ca, .slice bo y.dn cb], .bool b, .int .i64 0], .agg #[.int .i64 k, .int .i64 r, .int .i64 c, .int .i64 q], .slice (some ⟨rb, ro, none⟩) rn rc, .int .i64 (i : Int), .pointer (some ⟨rb, ro + i * 2, none⟩), .pointer (some ⟨rb, ro + i * 2 + 1, none⟩), .slice a0 n0 c0, .tuple #[.agg #[.int .u8 ((y.kd.toNat : Nat) : Int), .int .i64 y.ix, .int .i64 y.ce, .int .i64 y.st, .slice ao y.vn ca, .slice bo y.dn cb], .bool b, .int .i64 0], x39, x40, x41, x42, x43, x44, x45, x46, x47, x48, x49, x50, x51, x52, x53, x54, x55, x56, x57, x58, x59, x60, x61, x62, x63, x64, x65, x66, x67, x68, x69, x70, x71, x72, x73, x74, x75, x76, x77, x78, x79, x80, x81, x82, x83, x84, x85, x86], defers := [] } w'
      refine wpAnyH_take (i := 8) (oi := { dst := some 39, op := Op.extract (Operand.tmp 31) 0, type := 63, pos := "outright.go:30", after := #[{ on := 7, ground := Ground.data }], guard := none }) (v := .agg #[.int .u8 ((y.kd.toNat : Nat) : Int), .int .i64 y.ix, .int .i64 y.ce, .int .i64 y.st, .slice ao y.vn ca, .slice bo y.dn cb]) rfl (by kernel_rfl) (by kernel_rfl) (by kernel_rfl) (fun _ _ _ h => (hQp _ _ _ h).elim) (Or.inl ⟨by kernel_rfl, ?_⟩) (HS.out _ hb') ?_
      · intro w' hSw
        obtain ⟨s0, s1, s2, s3, s4⟩ := HS1.out _ hSw
        go_simp <;> first | with_reducible rfl | assumption
      show wpAnyH Tryz.prog .any fops1 Q S 6 #[true, true, true, true, true, true, true, true, true, false, false, false, false, false, false] { tmps := #[x0, .slice (some ⟨rb, ro, none⟩) rn rc, x2, .pointer (some ⟨g0, 0, none⟩), x4, x5, x6, .int .i64 (i : Int), x8, x9, x10, x11, x12, x13, x14, x15, x16, x17, x18, x19, x20, x21, x22, x23, x24, x25, x26, x27, x28, x29, x30, .tuple #[.agg #[.int .u8 ((y.kd.toNat : Nat) : Int), .int .i64 y.ix, .int .i64 y.ce, .int .i64 y.st, .slice ao y.vn ca, .slice bo y.dn cb], .bool b, .int .i64 0], .agg #[.int .i64 k, .int .i64 r, .int .i64 c, .int .i64 q], .slice (some ⟨rb, ro, none⟩) rn rc, .int .i64 (i : Int), .pointer (some ⟨rb, ro + i * 2, none⟩), .pointer (some ⟨rb, ro + i * 2 + 1, none⟩), .slice a0 n0 c0, .tuple #[.agg #[.int .u8 ((y.kd.toNat : Nat) : Int), .int .i64 y.ix, .int .i64 y.ce, .int .i64 y.st, .slice ao y.vn ca, .slice bo y.dn cb], .bool b, .int .i64 0], .agg #[.int .u8 ((y.kd.toNat : Nat) : Int), .int .i64 y.ix, .int .i64 y.ce, .int .i64 y.st, .slice ao y.vn ca, .slice bo y.dn cb], x40, x41, x42, x43, x44, x45, x46, x47, x48, x49, x50, x51, x52, x53, x54, x55, x56, x57, x58, x59, x60, x61, x62, x63, x64, x65, x66, x67, x68, x69, x70, x71, x72, x73, x74, x75, x76, x77, x78, x79, x80, x81, x82, x83, x84, x85, x86], defers := [] } w'
      refine wpAnyH_take (i := 9) (oi := { dst := some 40, op := Op.extract (Operand.tmp 31) 1, type := 4, pos := "outright.go:30", after := #[{ on := 7, ground := Ground.data }, { on := 12, ground := Ground.gcOnly Departure.lateStores }], guard := none }) (v := .bool b) rfl (by kernel_rfl) (by kernel_rfl) (by kernel_rfl) (fun _ _ _ h => (hQp _ _ _ h).elim) (Or.inl ⟨by kernel_rfl, ?_⟩) (HS.out _ hb') ?_
      · intro w' hSw
        obtain ⟨s0, s1, s2, s3, s4⟩ := HS1.out _ hSw
        go_simp <;> first | with_reducible rfl | assumption
      show wpAnyH Tryz.prog .any fops1 Q S 5 #[true, true, true, true, true, true, true, true, true, true, false, false, false, false, false] { tmps := #[x0, .slice (some ⟨rb, ro, none⟩) rn rc, x2, .pointer (some ⟨g0, 0, none⟩), x4, x5, x6, .int .i64 (i : Int), x8, x9, x10, x11, x12, x13, x14, x15, x16, x17, x18, x19, x20, x21, x22, x23, x24, x25, x26, x27, x28, x29, x30, .tuple #[.agg #[.int .u8 ((y.kd.toNat : Nat) : Int), .int .i64 y.ix, .int .i64 y.ce, .int .i64 y.st, .slice ao y.vn ca, .slice bo y.dn cb], .bool b, .int .i64 0], .agg #[.int .i64 k, .int .i64 r, .int .i64 c, .int .i64 q], .slice (some ⟨rb, ro, none⟩) rn rc, .int .i64 (i : Int), .pointer (some ⟨rb, ro + i * 2, none⟩), .pointer (some ⟨rb, ro + i * 2 + 1, none⟩), .slice a0 n0 c0, .tuple #[.agg #[.int .u8 ((y.kd.toNat : Nat) : Int), .int .i64 y.ix, .int .i64 y.ce, .int .i64 y.st, .slice ao y.vn ca, .slice bo y.dn cb], .bool b, .int .i64 0], .agg #[.int .u8 ((y.kd.toNat : Nat) : Int), .int .i64 y.ix, .int .i64 y.ce, .int .i64 y.st, .slice ao y.vn ca, .slice bo y.dn cb], .bool b, x41, x42, x43, x44, x45, x46, x47, x48, x49, x50, x51, x52, x53, x54, x55, x56, x57, x58, x59, x60, x61, x62, x63, x64, x65, x66, x67, x68, x69, x70, x71, x72, x73, x74, x75, x76, x77, x78, x79, x80, x81, x82, x83, x84, x85, x86], defers := [] } w'
      refine wpAnyH_take (i := 10) (oi := { dst := some 41, op := Op.extract (Operand.tmp 31) 2, type := 29, pos := "outright.go:30", after := #[{ on := 7, ground := Ground.data }, { on := 13, ground := Ground.gcOnly Departure.lateStores }], guard := none }) (v := .int .i64 0) rfl (by kernel_rfl) (by kernel_rfl) (by kernel_rfl) (fun _ _ _ h => (hQp _ _ _ h).elim) (Or.inl ⟨by kernel_rfl, ?_⟩) (HS.out _ hb') ?_
      · intro w' hSw
        obtain ⟨s0, s1, s2, s3, s4⟩ := HS1.out _ hSw
        go_simp <;> first | with_reducible rfl | assumption
      show wpAnyH Tryz.prog .any fops1 Q S 4 #[true, true, true, true, true, true, true, true, true, true, true, false, false, false, false] { tmps := #[x0, .slice (some ⟨rb, ro, none⟩) rn rc, x2, .pointer (some ⟨g0, 0, none⟩), x4, x5, x6, .int .i64 (i : Int), x8, x9, x10, x11, x12, x13, x14, x15, x16, x17, x18, x19, x20, x21, x22, x23, x24, x25, x26, x27, x28, x29, x30, .tuple #[.agg #[.int .u8 ((y.kd.toNat : Nat) : Int), .int .i64 y.ix, .int .i64 y.ce, .int .i64 y.st, .slice ao y.vn ca, .slice bo y.dn cb], .bool b, .int .i64 0], .agg #[.int .i64 k, .int .i64 r, .int .i64 c, .int .i64 q], .slice (some ⟨rb, ro, none⟩) rn rc, .int .i64 (i : Int), .pointer (some ⟨rb, ro + i * 2, none⟩), .pointer (some ⟨rb, ro + i * 2 + 1, none⟩), .slice a0 n0 c0, .tuple #[.agg #[.int .u8 ((y.kd.toNat : Nat) : Int), .int .i64 y.ix, .int .i64 y.ce, .int .i64 y.st, .slice ao y.vn ca, .slice bo y.dn cb], .bool b, .int .i64 0], .agg #[.int .u8 ((y.kd.toNat : Nat) : Int), .int .i64 y.ix, .int .i64 y.ce, .int .i64 y.st, .slice ao y.vn ca, .slice bo y.dn cb], .bool b, .int .i64 0, x42, x43, x44, x45, x46, x47, x48, x49, x50, x51, x52, x53, x54, x55, x56, x57, x58, x59, x60, x61, x62, x63, x64, x65, x66, x67, x68, x69, x70, x71, x72, x73, x74, x75, x76, x77, x78, x79, x80, x81, x82, x83, x84, x85, x86], defers := [] } w'
      exact H10.out _ ao ca bo cb hb'
    · go_simp
      refine hK.out _ _ (HS.out _ (b_alloc hb _)) (fun hHeld => ?_)
      exact H01.out _ _ (b_alloc hb _) (at_new hb _ _)
  refine wp_region_held_drew (S := S) (by kernel_rfl) (HS.out _ (below_drew _ _)) (fun hHeld => ?_)
  have hb : Below w1.heap.size w1 w1.drew := below_drew _ _
  rw [show fops1.size = 15 from by kernel_rfl, show Array.replicate 15 false = #[false, false, false, false, false, false, false, false, false, false, false, false, false, false, false] from by kernel_rfl]
  refine wpAnyH_take (i := 0) (oi := { dst := some 32, op := Op.load 23 (Operand.tmp 3), type := 23, pos := "outright.go:30", after := #[], guard := none }) (v := .agg #[.int .i64 k, .int .i64 r, .int .i64 c, .int .i64 q]) rfl (by kernel_rfl) (by kernel_rfl) (by kernel_rfl) (fun _ _ _ h => (hQp _ _ _ h).elim) (Or.inl ⟨by kernel_rfl, ?_⟩) (HS.out _ hb) ?_
  · intro w' hSw
    obtain ⟨s0, s1, s2, s3, s4⟩ := HS1.out _ hSw
    go_simp <;> first | with_reducible rfl | assumption
  show wpAnyH Tryz.prog .any fops1 Q S 14 #[true, false, false, false, false, false, false, false, false, false, false, false, false, false, false] { tmps := #[x0, .slice (some ⟨rb, ro, none⟩) rn rc, x2, .pointer (some ⟨g0, 0, none⟩), x4, x5, x6, .int .i64 (i : Int), x8, x9, x10, x11, x12, x13, x14, x15, x16, x17, x18, x19, x20, x21, x22, x23, x24, x25, x26, x27, x28, x29, x30, x31, .agg #[.int .i64 k, .int .i64 r, .int .i64 c, .int .i64 q], x33, x34, x35, x36, x37, x38, x39, x40, x41, x42, x43, x44, x45, x46, x47, x48, x49, x50, x51, x52, x53, x54, x55, x56, x57, x58, x59, x60, x61, x62, x63, x64, x65, x66, x67, x68, x69, x70, x71, x72, x73, x74, x75, x76, x77, x78, x79, x80, x81, x82, x83, x84, x85, x86], defers := [] } w1.drew
  refine wpAnyH_take (i := 1) (oi := { dst := some 33, op := Op.move (Operand.tmp 1), type := 24, pos := "outright.go:30", after := #[], guard := none }) (v := .slice (some ⟨rb, ro, none⟩) rn rc) rfl (by kernel_rfl) (by kernel_rfl) (by kernel_rfl) (fun _ _ _ h => (hQp _ _ _ h).elim) (Or.inl ⟨by kernel_rfl, ?_⟩) (HS.out _ hb) ?_
  · intro w' hSw
    obtain ⟨s0, s1, s2, s3, s4⟩ := HS1.out _ hSw
    go_simp <;> first | with_reducible rfl | assumption
  show wpAnyH Tryz.prog .any fops1 Q S 13 #[true, true, false, false, false, false, false, false, false, false, false, false, false, false, false] { tmps := #[x0, .slice (some ⟨rb, ro, none⟩) rn rc, x2, .pointer (some ⟨g0, 0, none⟩), x4, x5, x6, .int .i64 (i : Int), x8, x9, x10, x11, x12, x13, x14, x15, x16, x17, x18, x19, x20, x21, x22, x23, x24, x25, x26, x27, x28, x29, x30, x31, .agg #[.int .i64 k, .int .i64 r, .int .i64 c, .int .i64 q], .slice (some ⟨rb, ro, none⟩) rn rc, x34, x35, x36, x37, x38, x39, x40, x41, x42, x43, x44, x45, x46, x47, x48, x49, x50, x51, x52, x53, x54, x55, x56, x57, x58, x59, x60, x61, x62, x63, x64, x65, x66, x67, x68, x69, x70, x71, x72, x73, x74, x75, x76, x77, x78, x79, x80, x81, x82, x83, x84, x85, x86], defers := [] } w1.drew
  refine wpAnyH_take (i := 2) (oi := { dst := some 34, op := Op.move (Operand.tmp 7), type := 3, pos := "outright.go:30", after := #[], guard := none }) (v := .int .i64 (i : Int)) rfl (by kernel_rfl) (by kernel_rfl) (by kernel_rfl) (fun _ _ _ h => (hQp _ _ _ h).elim) (Or.inl ⟨by kernel_rfl, ?_⟩) (HS.out _ hb) ?_
  · intro w' hSw
    obtain ⟨s0, s1, s2, s3, s4⟩ := HS1.out _ hSw
    go_simp <;> first | with_reducible rfl | assumption
  show wpAnyH Tryz.prog .any fops1 Q S 12 #[true, true, true, false, false, false, false, false, false, false, false, false, false, false, false] { tmps := #[x0, .slice (some ⟨rb, ro, none⟩) rn rc, x2, .pointer (some ⟨g0, 0, none⟩), x4, x5, x6, .int .i64 (i : Int), x8, x9, x10, x11, x12, x13, x14, x15, x16, x17, x18, x19, x20, x21, x22, x23, x24, x25, x26, x27, x28, x29, x30, x31, .agg #[.int .i64 k, .int .i64 r, .int .i64 c, .int .i64 q], .slice (some ⟨rb, ro, none⟩) rn rc, .int .i64 (i : Int), x35, x36, x37, x38, x39, x40, x41, x42, x43, x44, x45, x46, x47, x48, x49, x50, x51, x52, x53, x54, x55, x56, x57, x58, x59, x60, x61, x62, x63, x64, x65, x66, x67, x68, x69, x70, x71, x72, x73, x74, x75, x76, x77, x78, x79, x80, x81, x82, x83, x84, x85, x86], defers := [] } w1.drew
  refine wpAnyH_take (i := 3) (oi := { dst := some 35, op := Op.indexAddr 24 (Operand.tmp 33) (Operand.tmp 34), type := 0, pos := "outright.go:30", after := #[{ on := 1, ground := Ground.data }, { on := 2, ground := Ground.data }], guard := none }) (v := .pointer (some ⟨rb, ro + i * 2, none⟩)) rfl (by kernel_rfl) (by kernel_rfl) (by kernel_rfl) (fun _ _ _ h => (hQp _ _ _ h).elim) (Or.inl ⟨by kernel_rfl, ?_⟩) (HS.out _ hb) ?_
  · intro w' hSw
    obtain ⟨s0, s1, s2, s3, s4⟩ := HS1.out _ hSw
    go_simp <;> first | with_reducible rfl | assumption
  show wpAnyH Tryz.prog .any fops1 Q S 11 #[true, true, true, true, false, false, false, false, false, false, false, false, false, false, false] { tmps := #[x0, .slice (some ⟨rb, ro, none⟩) rn rc, x2, .pointer (some ⟨g0, 0, none⟩), x4, x5, x6, .int .i64 (i : Int), x8, x9, x10, x11, x12, x13, x14, x15, x16, x17, x18, x19, x20, x21, x22, x23, x24, x25, x26, x27, x28, x29, x30, x31, .agg #[.int .i64 k, .int .i64 r, .int .i64 c, .int .i64 q], .slice (some ⟨rb, ro, none⟩) rn rc, .int .i64 (i : Int), .pointer (some ⟨rb, ro + i * 2, none⟩), x36, x37, x38, x39, x40, x41, x42, x43, x44, x45, x46, x47, x48, x49, x50, x51, x52, x53, x54, x55, x56, x57, x58, x59, x60, x61, x62, x63, x64, x65, x66, x67, x68, x69, x70, x71, x72, x73, x74, x75, x76, x77, x78, x79, x80, x81, x82, x83, x84, x85, x86], defers := [] } w1.drew
  refine wpAnyH_take (i := 4) (oi := { dst := some 36, op := Op.indexAddr 67 (Operand.tmp 35) (Operand.const (Value.int IntKind.i64 1)), type := 0, pos := "outright.go:30", after := #[{ on := 3, ground := Ground.data }], guard := none }) (v := .pointer (some ⟨rb, ro + i * 2 + 1, none⟩)) rfl (by kernel_rfl) (by kernel_rfl) (by kernel_rfl) (fun _ _ _ h => (hQp _ _ _ h).elim) (Or.inl ⟨by kernel_rfl, ?_⟩) (HS.out _ hb) ?_
  · intro w' hSw
    obtain ⟨s0, s1, s2, s3, s4⟩ := HS1.out _ hSw
    go_simp <;> first | with_reducible rfl | assumption
  show wpAnyH Tryz.prog .any fops1 Q S 10 #[true, true, true, true, true, false, false, false, false, false, false, false, false, false, false] { tmps := #[x0, .slice (some ⟨rb, ro, none⟩) rn rc, x2, .pointer (some ⟨g0, 0, none⟩), x4, x5, x6, .int .i64 (i : Int), x8, x9, x10, x11, x12, x13, x14, x15, x16, x17, x18, x19, x20, x21, x22, x23, x24, x25, x26, x27, x28, x29, x30, x31, .agg #[.int .i64 k, .int .i64 r, .int .i64 c, .int .i64 q], .slice (some ⟨rb, ro, none⟩) rn rc, .int .i64 (i : Int), .pointer (some ⟨rb, ro + i * 2, none⟩), .pointer (some ⟨rb, ro + i * 2 + 1, none⟩), x37, x38, x39, x40, x41, x42, x43, x44, x45, x46, x47, x48, x49, x50, x51, x52, x53, x54, x55, x56, x57, x58, x59, x60, x61, x62, x63, x64, x65, x66, x67, x68, x69, x70, x71, x72, x73, x74, x75, x76, x77, x78, x79, x80, x81, x82, x83, x84, x85, x86], defers := [] } w1.drew
  refine wpAnyH_take (i := 5) (oi := { dst := some 37, op := Op.load 32 (Operand.tmp 36), type := 32, pos := "outright.go:30", after := #[{ on := 4, ground := Ground.data }], guard := none }) (v := .slice a0 n0 c0) rfl (by kernel_rfl) (by kernel_rfl) (by kernel_rfl) (fun _ _ _ h => (hQp _ _ _ h).elim) (Or.inl ⟨by kernel_rfl, ?_⟩) (HS.out _ hb) ?_
  · intro w' hSw
    obtain ⟨s0, s1, s2, s3, s4⟩ := HS1.out _ hSw
    go_simp <;> first | with_reducible rfl | assumption
  show wpAnyH Tryz.prog .any fops1 Q S 9 #[true, true, true, true, true, true, false, false, false, false, false, false, false, false, false] { tmps := #[x0, .slice (some ⟨rb, ro, none⟩) rn rc, x2, .pointer (some ⟨g0, 0, none⟩), x4, x5, x6, .int .i64 (i : Int), x8, x9, x10, x11, x12, x13, x14, x15, x16, x17, x18, x19, x20, x21, x22, x23, x24, x25, x26, x27, x28, x29, x30, x31, .agg #[.int .i64 k, .int .i64 r, .int .i64 c, .int .i64 q], .slice (some ⟨rb, ro, none⟩) rn rc, .int .i64 (i : Int), .pointer (some ⟨rb, ro + i * 2, none⟩), .pointer (some ⟨rb, ro + i * 2 + 1, none⟩), .slice a0 n0 c0, x38, x39, x40, x41, x42, x43, x44, x45, x46, x47, x48, x49, x50, x51, x52, x53, x54, x55, x56, x57, x58, x59, x60, x61, x62, x63, x64, x65, x66, x67, x68, x69, x70, x71, x72, x73, x74, x75, x76, x77, x78, x79, x80, x81, x82, x83, x84, x85, x86], defers := [] } w1.drew
  exact H00.out _ hb
end Go.Proofs.YtfhefbbhlmdjkaaGreat
/- fit. -/
namespace Go.Proofs.YtfhefbbhlmdjkaaGreat
open Go.RowKit

/-- Above all, and none twice. -/
def AnsFi (w : World) (N : Nat) (c : Int) (L : Nat → Nat) (F : Nat → Nat → UInt8) (v : Int) (e : Ending) (w' : World) : Prop := ∃ y : Bool, e = .returned (.bool y) ∧ (y = true → abB N c L F v = true ∧ ∀ i, i < N → ¬ twB N c L F 1 i) ∧ Below w.heap.size w w'
set_option maxHeartbeats 8000000 in
set_option maxRecDepth 100000 in
theorem fit_any {k r c q : Int} {N W : Nat} (h : Par k r c q N W 0) (w : World) (ro : Option Addr) (rc : Nat) (A : Nat → Option Addr) (L C : Nat → Nat) (F : Nat → Nat → UInt8) (hr : Rw w ro N A L C F) (hL : ∀ j, j < 2 * N → L j = 0 ∨ L j = sz N c) (v : Int) :
    Calls Tryz.prog 9 #[.agg #[.int .i64 k, .int .i64 r, .int .i64 c, .int .i64 q], .slice ro N rc, .int .i64 v] w (AnsFi w N c L F v) := by
  have hle := h.le
  obtain ⟨w0, hw0⟩ : ∃ w0, w0 = w.alloc (.cells #[.int .i64 k, .int .i64 r, .int .i64 c, .int .i64 q] 23) := ⟨_, rfl⟩
  have B0 : Hid (Below w.heap.size w w0) := by show Below _ _ _; rw [hw0]; exact below_alloc _ _
  have L0 : Hid (∀ v, Below w0.heap.size w0 v → At w v w.heap.size #[.int .i64 k, .int .i64 r, .int .i64 c, .int .i64 q] 23) := fun v hv => (at_made (Below.refl _ _) hw0).below hv
  have HR : Hid (Rw w ro N A L C F) := hr
  have HP : Hid (∀ j, j < 2 * N → ∀ u, Below w.heap.size w u → Calls Tryz.prog 22 #[.agg #[.int .i64 k, .int .i64 r, .int .i64 c, .int .i64 q], .slice (A j) (L j) (C j)] u fun e w' => ∃ ao ca bo cb, e = .returned (.tuple #[.agg #[.int .u8 (((zq N c L F j).kd.toNat : Nat) : Int), .int .i64 (zq N c L F j).ix, .int .i64 (zq N c L F j).ce, .int .i64 (zq N c L F j).st, .slice ao (zq N c L F j).vn ca, .slice bo (zq N c L F j).dn cb], .bool (isS N c (L j) (F j)), .int .i64 0]) ∧ Below u.heap.size u w') := fun j hj u hu => by
    refine (Parse_any h u _ _ _ _ ((hr.bec j hj).below hu) 0 (by unfold erQ; rw [if_pos rfl, if_pos (hL j hj)]) (isS N c (L j) (F j)) (by unfold isQ; simp) (zq N c L F j) rfl).mono ?_
    rintro e w' ⟨ao, ca, bo, cb, rfl, _, hb⟩
    exact ⟨ao, ca, bo, cb, rfl, hb⟩
  clear h hr hL
  go_enter Tryz.func9, Tryz.ntmps9
  go_wp2_with fail
  rw [← hw0]
  clear hw0
  go_loopw [7] (fun y wr => ∃ i : Nat, i ≤ N ∧ y = .int .i64 (i : Int) ∧ Hid (Below w0.heap.size w0 wr) ∧ Hid ((∀ j, j < 2 * i → isS N c (L j) (F j) = true → (zq N c L F j).st < v) ∧ ∀ j, j < i → ¬ twB N c L F 1 j)) (fun y _ => N - (intOf y).toNat)
  case atStart => exact ⟨0, Nat.zero_le _, rfl, Below.refl _ _, fun j hj => absurd hj (by omega), fun j hj => absurd hj (by omega)⟩
  case round =>
    obtain ⟨i, hi, rfl, hbw, hno⟩ := hrel
    by_cases hlt : i < N
    · obtain ⟨b, off, rfl, hcc⟩ := HR.out.at_ (by omega)
      have i1 : (0 : Int) ≤ (i : Int) := by omega
      have i2 : (i : Int) < (N : Int) := by omega
      have CH0 : Hid (∀ v, Below wr.heap.size wr v → (v.cell? ⟨w.heap.size, 0, none⟩ = some (.int .i64 k) ∧ v.cell? ⟨w.heap.size, 1, none⟩ = some (.int .i64 r) ∧ v.cell? ⟨w.heap.size, 2, none⟩ = some (.int .i64 c) ∧ v.cell? ⟨w.heap.size, 3, none⟩ = some (.int .i64 q) ∧ v.cell? ⟨b, off + i * 2, none⟩ = some (.slice (A (2 * i)) (L (2 * i)) (C (2 * i))))) := fun v hv => by
        have p := L0.out v (below_then hbw.out hv)
        exact ⟨p.cell (i := 0) rfl, p.cell (i := 1) rfl, p.cell (i := 2) rfl, p.cell (i := 3) rfl, held (hcc i hlt).1 (below_then (below_then B0.out hbw.out) hv)⟩
      have CH1 : Hid (∀ v, Below wr.heap.size wr v → (v.cell? ⟨w.heap.size, 0, none⟩ = some (.int .i64 k) ∧ v.cell? ⟨w.heap.size, 1, none⟩ = some (.int .i64 r) ∧ v.cell? ⟨w.heap.size, 2, none⟩ = some (.int .i64 c) ∧ v.cell? ⟨w.heap.size, 3, none⟩ = some (.int .i64 q) ∧ v.cell? ⟨b, off + i * 2 + 1, none⟩ = some (.slice (A (2 * i + 1)) (L (2 * i + 1)) (C (2 * i + 1))))) := fun v hv => by
        have p := L0.out v (below_then hbw.out hv)
        exact ⟨p.cell (i := 0) rfl, p.cell (i := 1) rfl, p.cell (i := 2) rfl, p.cell (i := 3) rfl, held (hcc i hlt).2 (below_then (below_then B0.out hbw.out) hv)⟩
      have hP0 := fun u (hu : Below wr.heap.size wr u) => HP.out (2 * i) (by omega) u (below_then (below_then B0.out hbw.out) hu)
      have hP1 := fun u (hu : Below wr.heap.size wr u) => HP.out (2 * i + 1) (by omega) u (below_then (below_then B0.out hbw.out) hu)
      clear hcc
      obtain ⟨z0, hz0⟩ : ∃ z, z = zq N c L F (2 * i) := ⟨_, rfl⟩
      obtain ⟨z1, hz1⟩ : ∃ z, z = zq N c L F (2 * i + 1) := ⟨_, rfl⟩
      obtain ⟨y0, hy0⟩ : ∃ y, y = isS N c (L (2 * i)) (F (2 * i)) := ⟨_, rfl⟩
      obtain ⟨y1, hy1⟩ : ∃ y, y = isS N c (L (2 * i + 1)) (F (2 * i + 1)) := ⟨_, rfl⟩
      have HST : Hid ((y0 = true → z0.st < v) → (y1 = true → z1.st < v) → ¬ (y0 = true ∧ y1 = true ∧ z0.kd = 1 ∧ z1.kd = 1 ∧ z0.ce = z1.ce) → (∀ j, j < 2 * (i + 1) → isS N c (L j) (F j) = true → (zq N c L F j).st < v) ∧ ∀ j, j < i + 1 → ¬ twB N c L F 1 j) := fun q0 q1 q2 => by
        rw [hz0, hy0] at q0
        rw [hz1, hy1] at q1
        rw [hz0, hz1, hy0, hy1] at q2
        refine ⟨fun j hj => ?_, fun j hj => ?_⟩
        · by_cases e : j = 2 * i
          · rw [e]; exact q0
          · by_cases e2 : j = 2 * i + 1
            · rw [e2]; exact q1
            · exact hno.out.1 j (by omega)
        · by_cases e : j = i
          · rw [e]; exact q2
          · exact hno.out.2 j (by omega)
      rw [← hz0, ← hy0] at hP0
      rw [← hz1, ← hy1] at hP1
      clear hz0 hz1 hy0 hy1
      go_wp2_with fail
      refine wp_region_noPanic (fit_reg0 wr k r c q w.heap.size b off N rc i i1 i2 (A (2 * i)) (L (2 * i)) (C (2 * i)) z0 y0 _ _ _ _ _ _ _ _ _ _ _ _ _ _ _ _ _ _ _ _ _ _ _ _ _ _ _ _ _ _ _ _ _ _ _ _ _ _ _ _ _ _ _ _ _ _ _ _ _ _ _ _ _ _ _ _ _ _ _ _ _ _ _ _ _ _ _ _ _ _ _ _ _ _ _ _ _ _ _ _ _ _ _ _ CH0.out hP0 _ (fun _ _ _ h => h) (fun v' g ao ca bo cb hb3 hat => NoPanic.normal ?_))
      go_wp2_with fail
      refine wp_region_noPanic (fit_reg1 v' k r c q w.heap.size b off N rc i i1 i2 (A (2 * i + 1)) (L (2 * i + 1)) (C (2 * i + 1)) z1 y1 _ _ _ _ _ _ _ _ _ _ _ _ _ _ _ _ _ _ _ _ _ _ _ _ _ _ _ _ _ _ _ _ _ _ _ _ _ _ _ _ _ _ _ _ _ _ _ _ _ _ _ _ _ _ _ _ _ _ _ _ _ _ _ _ _ _ _ _ _ _ _ _ _ _ _ _ _ _ _ _ _ _ _ _ (fun u hu => CH1.out u (below_then hb3 hu)) (fun u hu => hP1 u (below_then hb3 hu)) _ (fun _ _ _ h => h) (fun v2 g' ao' ca' bo' cb' hb4 hat' => NoPanic.normal ?_))
      have hat2 := hat.below hb4
      have s0 := hat2.cell (i := 0) rfl
      have s2 := hat2.cell (i := 2) rfl
      have s3 := hat2.cell (i := 3) rfl
      have t0 := hat'.cell (i := 0) rfl
      have t2 := hat'.cell (i := 2) rfl
      have t3 := hat'.cell (i := 3) rfl
      have HB3 : Hid (Below w0.heap.size w0 v2) := below_then (below_then hbw.out hb3) hb4
      have HBB : Hid (Below w.heap.size w v2) := below_then B0.out HB3.out
      have u1 : (((z0.kd.toNat : Nat) : Int) == 1) = decide (z0.kd = 1) := kd_beq z0.kd 1
      have u2 : (((z1.kd.toNat : Nat) : Int) == 1) = decide (z1.kd = 1) := kd_beq z1.kd 1
      have u3 := int_beq z0.ce z1.ce
      clear hat hat' hat2 hb3 hb4 hP0 hP1 hno
      cases y0
      · cases y1
        · skip
          go_wp2_with fail
          go_roundw
          case rel => exact ⟨i + 1, by omega, by go_num, HB3.out, HST.out (fun a => by cases a) (fun a => by cases a) (fun a => by cases a.1)⟩
          case measure => simp [intOf]; omega
        · by_cases k1 : v ≤ z1.st
          · skip
            go_wp2_with fail
            go_ret
            exact ⟨false, rfl, (fun a => by cases a), HBB.out⟩
          · have HK1 : Hid (z1.st < v) := Int.not_le.1 k1
            go_wp2_with fail
            go_roundw
            case rel => exact ⟨i + 1, by omega, by go_num, HB3.out, HST.out (fun a => by cases a) (fun _ => HK1.out) (fun a => by cases a.1)⟩
            case measure => simp [intOf]; omega
      · by_cases k0 : v ≤ z0.st
        · cases y1 <;> skip
          · skip
            go_wp2_with fail
            go_ret
            exact ⟨false, rfl, (fun a => by cases a), HBB.out⟩
          · by_cases k1 : v ≤ z1.st
            · skip
              go_wp2_with fail
              go_ret
              exact ⟨false, rfl, (fun a => by cases a), HBB.out⟩
            · skip
              go_wp2_with fail
              go_ret
              exact ⟨false, rfl, (fun a => by cases a), HBB.out⟩
        · have HK0 : Hid (z0.st < v) := Int.not_le.1 k0
          cases y1
          · skip
            go_wp2_with fail
            go_roundw
            case rel => exact ⟨i + 1, by omega, by go_num, HB3.out, HST.out (fun _ => HK0.out) (fun a => by cases a) (fun a => by cases a.2.1)⟩
            case measure => simp [intOf]; omega
          · by_cases k1 : v ≤ z1.st
            · skip
              go_wp2_with fail
              go_ret
              exact ⟨false, rfl, (fun a => by cases a), HBB.out⟩
            · have HK1 : Hid (z1.st < v) := Int.not_le.1 k1
              by_cases g0 : z0.kd = 1
              · rw [decide_eq_true g0] at u1
                by_cases g1 : z1.kd = 1
                · rw [decide_eq_true g1] at u2
                  by_cases g2 : z0.ce = z1.ce
                  · rw [decide_eq_true g2] at u3
                    clear g0 g1 g2
                    go_wp2_with fail
                    go_ret
                    exact ⟨false, rfl, (fun a => by cases a), HBB.out⟩
                  · rw [decide_eq_false g2] at u3
                    have HG : Hid (¬ z0.ce = z1.ce) := g2
                    clear g0 g1 g2
                    go_wp2_with fail
                    go_roundw
                    case rel => exact ⟨i + 1, by omega, by go_num, HB3.out, HST.out (fun _ => HK0.out) (fun _ => HK1.out) (fun a => HG.out a.2.2.2.2)⟩
                    case measure => simp [intOf]; omega
                · rw [decide_eq_false g1] at u2
                  have HG : Hid (¬ z1.kd = 1) := g1
                  clear g0 g1
                  go_wp2_with fail
                  go_roundw
                  case rel => exact ⟨i + 1, by omega, by go_num, HB3.out, HST.out (fun _ => HK0.out) (fun _ => HK1.out) (fun a => HG.out a.2.2.2.1)⟩
                  case measure => simp [intOf]; omega
              · rw [decide_eq_false g0] at u1
                have HG : Hid (¬ z0.kd = 1) := g0
                clear g0
                go_wp2_with fail
                go_roundw
                case rel => exact ⟨i + 1, by omega, by go_num, HB3.out, HST.out (fun _ => HK0.out) (fun _ => HK1.out) (fun a => HG.out a.2.2.1)⟩
                case measure => simp [intOf]; omega
    · obtain rfl : i = N := by omega
      go_wp2_with fail
      go_ret
      exact ⟨true, rfl, (fun _ => ⟨decide_eq_true hno.out.1, hno.out.2⟩), below_then B0.out hbw.out⟩
end Go.Proofs.YtfhefbbhlmdjkaaGreat
/- What a row holds behind an update. -/
namespace Go.Proofs.YtfhefbbhlmdjkaaGreat
open Go.RowKit

/-- Some drives have a new version, the others are as they were. -/
structure Upd (N : Nat) (c tv : Int) (X : Nat → Int) (G : Nat → Nat → UInt8) (Lc : Nat → Nat) (Y Y' : Nat → Sl) (t : Sl) : Prop where
  yes : ∀ i, i < N → Lc i ≠ 0 → ∃ s, (s = 0 ∨ s = 1) ∧ New N c 1 tv X G i (Y' (2 * i + s)) ∧ (Y' (2 * i + (1 - s))).st < tv
  no : ∀ i, i < N → Lc i = 0 → Y' (2 * i) = Y (2 * i) ∧ Y' (2 * i + 1) = Y (2 * i + 1)
  st : ∀ j, j < 2 * N → (Y j).st < tv
  X1 : ∀ i, i < N → Lc i ≠ 0 → X i = tv
  X0 : ∀ i, i < N → Lc i = 0 → X i = t.V i
  some : ∃ i, i < N ∧ Lc i ≠ 0
theorem upd {N : Nat} {c tv : Int} {X : Nat → Int} {G : Nat → Nat → UInt8} {Lc : Nat → Nat} {Y Y' : Nat → Sl} {t : Sl} (hv : 1 ≤ tv) (hY' : OkY N c Y') (ht : t.ce ≠ 0) (h : Upd N c tv X G Lc Y Y' t) :
    ∀ i, i < N → (Lc i ≠ 0 → New N c 1 tv X G i (zz Y' 1 (tS Y' 1 tv (2 * N)) i)) ∧ (Lc i = 0 → zz Y' 1 (tS Y' 1 tv (2 * N)) i = zz Y 1 t i) := by
  obtain ⟨t', ht'⟩ : ∃ t', tS Y' 1 tv (2 * N) = t' := ⟨_, rfl⟩
  rw [ht']
  have key : t'.ce ≠ 0 ∧ ∀ l, l < N → t'.V l = X l := by
    rcases tS_is (kd := 1) (v := tv) (.inl rfl) hY' (2 * N) (Nat.le_refl _) with ⟨_, h2⟩ | ⟨j, h1, h2, h3, h4, _⟩
    · exfalso
      obtain ⟨i, hi, hne⟩ := h.some
      obtain ⟨s, hs, hn, _⟩ := h.yes i hi hne
      have := h2 (2 * i + s) (by omega)
      rw [show tB (Y' (2 * i + s)) 1 tv = true from decide_eq_true ⟨hn.kd, hn.st⟩] at this
      cases this
    · rw [ht'] at h2
      have hst : (Y' j).st = tv := (of_decide_eq_true h3).2
      have hne : Lc (j / 2) ≠ 0 := fun e => by
        obtain ⟨e0, e1⟩ := h.no (j / 2) (by omega) e
        have := h.st j h1
        rcases Nat.mod_two_eq_zero_or_one j with q | q
        · rw [show 2 * (j / 2) = j by omega] at e0; rw [e0] at hst; omega
        · rw [show 2 * (j / 2) + 1 = j by omega] at e1; rw [e1] at hst; omega
      obtain ⟨s, hs, hn, ho⟩ := h.yes (j / 2) (by omega) hne
      have hjs : j = 2 * (j / 2) + s := by
        by_cases e : j = 2 * (j / 2) + s
        · exact e
        · exfalso
          rw [show 2 * (j / 2) + (1 - s) = j by omega] at ho
          omega
      rw [← hjs] at hn
      rw [h2]
      exact ⟨(ok_of h4.1).ne, hn.V⟩
  intro i hi
  refine ⟨fun hne => ?_, fun he => ?_⟩
  · obtain ⟨s, hs, hn, ho⟩ := h.yes i hi hne
    have hx := h.X1 i hi hne
    have hce : (Y' (2 * i + s)).ce = tv := by rw [hn.ce, hx]
    have hh : hB (Y' (2 * i + s)) 1 tv = true := hB_of (by omega) hn.kd hce
    obtain ⟨p0, p1⟩ := pair_of hY' hi
    unfold zz
    rw [if_neg key.1, key.2 i hi, hx]
    unfold fZ
    rcases hs with rfl | rfl
    · rw [Nat.add_zero] at hh hn
      rw [if_pos hh]; exact hn
    · have : hB (Y' (2 * i)) 1 tv = false := hB_no (ce_lt hv p0 ho)
      rw [this, if_neg Bool.false_ne_true, if_pos hh]; exact hn
  · obtain ⟨e0, e1⟩ := h.no i hi he
    unfold zz
    rw [if_neg key.1, if_neg ht, key.2 i hi, h.X0 i hi he, e0, e1]
theorem cnt_more {L L' : Nat → Nat} : ∀ {n : Nat}, (∀ i, i < n → L i ≠ 0 → L' i ≠ 0) → Cod.cnt L n ≤ Cod.cnt L' n
  | 0, _ => Nat.le_refl _
  | n + 1, h => by
    have ih := cnt_more (n := n) fun i hi => h i (by omega)
    by_cases e : L n = 0
    · rw [Cod.cnt_skip e]; exact Nat.le_trans ih (Cod.cnt_mono _ (Nat.le_succ n))
    · rw [Cod.cnt_take e, Cod.cnt_take (h n (by omega) e)]; omega
/-- What could be read can be read. -/
theorem upd_read {N K : Nat} {c tv : Int} {X : Nat → Int} {G : Nat → Nat → UInt8} {Lc : Nat → Nat} {Y Y' : Nat → Sl} {t : Sl} (hc : 8 ≤ c) (hv : 1 ≤ tv) (hY' : OkY N c Y') (ht : t.ce ≠ 0) (h : Upd N c tv X G Lc Y Y' t) (hE : erL K (fun i => zz Y 1 t i) N = 0) : erL K (fun i => zz Y' 1 (tS Y' 1 tv (2 * N)) i) N = 0 := by
  have hu := upd hv hY' ht h
  have hm : Cod.cnt (Lz fun i => zz Y 1 t i) N ≤ Cod.cnt (Lz fun i => zz Y' 1 (tS Y' 1 tv (2 * N)) i) N := cnt_more fun i hi hne => by
    by_cases e : Lc i = 0
    · show (zz Y' 1 (tS Y' 1 tv (2 * N)) i).dn ≠ 0
      rw [(hu i hi).2 e]; exact hne
    · have := (ok_of ((hu i hi).1 e).is.1).dn
      show (zz Y' 1 (tS Y' 1 tv (2 * N)) i).dn ≠ 0
      omega
  unfold erL at hE ⊢
  by_cases g : K ≤ Cod.cnt (Lz fun i => zz Y 1 t i) N
  · rw [if_pos (Nat.le_trans g hm)]
  · rw [if_neg g] at hE; exact absurd hE (by decide)
/-- The row behind all raw writes. -/
theorem upd_row {N n : Nat} {m : Nat} {tv : Int} {D : Nat → Int} {d : Nat → Nat} {L : Nat → Nat} {F M : Nat → Nat → UInt8} {os : Nat → Nat} {t : Sl} (hN : N ≤ 16) (hr : Ren N t.V n D d tv) (hri : Ris d n N) (ho : ∀ i, os i < 2) (hst : ∀ j, j < 2 * N → (yy N (m : Int) L F j).st < tv) :
    Upd N (m : Int) tv (bmp D tv t.V n) (fun i => M (Cod.cnt (Lw d n) i)) (Lw d n) (yy N (m : Int) L F) (yy N (m : Int) (bP (Lw d n) os N L (fun _ => sz N (m : Int)) n) (bP (Lw d n) os N F (fun i => enc (slC 1 N (bmp D tv t.V n) m (M (Cod.cnt (Lw d n) i)) i)) n)) t := by
  have hS := Cod.sel_is (Lw d n) N
  rw [hri.all] at hS
  have hX := hr.X
  have htv := hr.tv
  have out : ∀ i s, (∀ u, u < n → 2 * Cod.sel (Lw d n) N u + os (Cod.sel (Lw d n) N u) ≠ 2 * i + s) → yy N (m : Int) (bP (Lw d n) os N L (fun _ => sz N (m : Int)) n) (bP (Lw d n) os N F (fun i => enc (slC 1 N (bmp D tv t.V n) m (M (Cod.cnt (Lw d n) i)) i)) n) (2 * i + s) = yy N (m : Int) L F (2 * i + s) := fun i s hu => yy_congr (bP_out hu) (bP_out hu)
  refine ⟨fun i hi hne => ?_, fun i hi he => ?_, hst, fun i hi hne => ?_, fun i hi he => ?_, ?_⟩
  · obtain ⟨u, hu, hui⟩ := hS.all i hi hne
    have h2 := ho i
    refine ⟨os i, by omega, ?_, ?_⟩
    · have e1 := bP_in (Lc := Lw d n) (os := os) (N := N) (f := L) (g := fun _ => sz N (m : Int)) ho (s := u) (t := n) (by rw [hri.all]; exact Nat.le_refl _) hu
      have e2 := bP_in (Lc := Lw d n) (os := os) (N := N) (f := F) (g := fun i => enc (slC 1 N (bmp D tv t.V n) m (M (Cod.cnt (Lw d n) i)) i)) ho (s := u) (t := n) (by rw [hri.all]; exact Nat.le_refl _) hu
      rw [hui] at e1 e2
      unfold yy
      rw [e1, e2, show (2 * i + os i) / 2 = i by omega]
      have := new_of (N := N) (c := (m : Int)) (kd := 1) (X := bmp D tv t.V n) (G := fun i => M (Cod.cnt (Lw d n) i)) (i := i) (F := enc (slC 1 N (bmp D tv t.V n) m (M (Cod.cnt (Lw d n) i)) i)) hN (by omega) (.inl rfl) (fun j hj => by have := hX j hj; omega) hi (fun j _ => by rw [Int.toNat_natCast])
      rw [hr.mx] at this
      exact this
    · rw [out i (1 - os i) fun w hw e => ?_]
      · exact hst _ (by omega)
      · have h3 := ho (Cod.sel (Lw d n) N w)
        have : Cod.sel (Lw d n) N w = i := by omega
        rw [this] at e
        omega
  · refine ⟨?_, ?_⟩
    · have := out i 0 fun w hw e => ?_
      · exact this
      · have h3 := ho (Cod.sel (Lw d n) N w)
        have h4 : Cod.sel (Lw d n) N w = i := by omega
        exact hS.there w hw (by rw [h4]; exact he)
    · refine out i 1 fun w hw e => ?_
      have h3 := ho (Cod.sel (Lw d n) N w)
      have h4 : Cod.sel (Lw d n) N w = i := by omega
      exact hS.there w hw (by rw [h4]; exact he)
  · obtain ⟨j, hj, rfl⟩ := Lw_inv hne
    exact hr.hit hj
  · refine bmp_miss fun ⟨j, hj, e⟩ => ?_
    have := (hr.D j hj).1
    have e2 : d j = i := by omega
    exact Lw_hit (d := d) hj (by rw [e2]; exact he)
  · exact ⟨d 0, (hr.D 0 hr.n0).2, Lw_hit hr.n0⟩
/-- Cells that were made anew are right. -/
theorem ver_cH {K R m N : Nat} {z : Nat → Sl} : Cod.verB K R m (fun i b => toK (cH K z N i b)) = true := by
  unfold Cod.verB Cod.eqAll
  refine decide_eq_true fun i hi => ?_
  have e : Cod.par K (fun i b => toK (cH K z N i b)) i = fun b => toK (cH K z N (K + i) b) := by
    funext b
    show Cod.enc K (fun i b => toK (cH K z N i b)) (K + i) b = toK (cH K z N (K + i) b)
    unfold cH
    rw [toK_bK]
    exact Cod.enc_congr (fun j hj => by show toK (bK (Cod.enc K (cD K z N) j b)) = _; rw [toK_bK, Cod.enc_data _ hj]) (K + i)
  rw [e]
  unfold Cod.eqB
  simp
theorem verify_good {K R m N : Nat} {z : Nat → Sl} (w : World) (B : Nat) (co : Option Addr) (cc : Nat) (T : Nat → Option Addr) (U : Nat → Nat) (h : Cls B w co (K + R) cc m T U (cH K z N)) (hK : 1 ≤ K) (hK2 : K ≤ 12) (hR : R ≤ 4) (hm : 1 ≤ m) (hm2 : m ≤ 64) :
    Calls Tryz.prog 13 #[.int .i64 (K : Int), .int .i64 (R : Int), .slice co (K + R) cc] w fun e w' => e = .returned (.tuple #[.bool true, .int .i64 0]) ∧ Below w.heap.size w w' := by
  have hv := Cod.Verify_any w (K : Int) (R : Int) co (K + R) cc T U (fun _ => m) _ h.lst h.room
  have e0 : Cod.mayB (K : Int) (R : Int) = true := decide_eq_true (by omega)
  have e1 : Cod.okVer (K + R) (fun _ => m) (K : Int) (R : Int) = true := by
    unfold Cod.okVer Cod.okC
    rw [e0, Cod.cnt_full (fun i _ => by omega), decide_eq_true (show ((K + R : Nat) : Int) = (K : Int) + (R : Int) by omega), decide_eq_true (show (K : Int) + (R : Int) ≤ ((K + R : Nat) : Int) by omega), Bool.true_and, Bool.true_and, Bool.and_true]
    exact (Cod.okT_of (m := m) (by omega) (by omega) (fun i _ => .inr rfl)).1
  rw [e0, e1, Int.toNat_natCast, Int.toNat_natCast, ver_cH] at hv
  exact hv
end Go.Proofs.YtfhefbbhlmdjkaaGreat
