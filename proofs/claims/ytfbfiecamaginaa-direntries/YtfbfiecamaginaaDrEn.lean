/- DirEntries' walk. -/
import Derived.Test.YtfbfiecamaginaaDrX
namespace Go.Proofs.Ytfbfiecamaginaa
open Go.RowKit Go.Sort

/-- Elements of the call's own, whatever they hold by now. -/
def OwAny (B : Nat) (w : World) (ao : Option Addr) (n cap : Nat) : Prop := ∃ vs, Ow B w 34 2 ao n cap vs
theorem OwE.any {B : Nat} {w : World} {ao : Option Addr} {l : List En} {cap : Nat} (h : OwE B w ao l cap) : OwAny B w ao l.length cap := ⟨_, h⟩
theorem OwAny.below {B : Nat} {w w' : World} {ao : Option Addr} {n cap : Nat} (h : OwAny B w ao n cap) (hb : RowKit.Below w.heap.size w w') : OwAny B w' ao n cap := by
  obtain ⟨vs, h⟩ := h
  exact ⟨vs, ow_below h hb⟩
theorem OwAny.at_ {B : Nat} {w : World} {ao : Option Addr} {n cap : Nat} (h : OwAny B w ao n cap) (hn : 0 < n) : ∃ g, ao = some ⟨g, 0, none⟩ ∧ B ≤ g := by
  obtain ⟨vs, h⟩ := h
  rcases h.2 with ⟨_, h2⟩ | ⟨g, cap', cur, h1, h2, h3, h4⟩
  · omega
  · cases h1; exact ⟨g, rfl, h2⟩
theorem OwAny.cell {B : Nat} {w : World} {g n cap : Nat} (h : OwAny B w (some ⟨g, 0, none⟩) n cap) {j : Nat} (hj : j < n * 2) : (∃ v, w.cell? ⟨g, j, none⟩ = some v) ∧ w.frozen? ⟨g, j, none⟩ = false := by
  obtain ⟨vs, h⟩ := h
  have hl : vs.length = n * 2 := h.1
  exact ⟨⟨vs[j]'(by omega), by rw [World.ownsRow.cellAt h j hj, List.getElem?_eq_getElem]⟩, World.ownsRow.frozenAt h j⟩
theorem OwAny.set {B : Nat} {w : World} {g n cap : Nat} (h : OwAny B w (some ⟨g, 0, none⟩) n cap) (j : Nat) (u : Value) : OwAny B (w.setCell ⟨g, j, none⟩ u) (some ⟨g, 0, none⟩) n cap := by
  obtain ⟨vs, h⟩ := h
  exact ⟨_, (World.ownsRow.stored h j u).1⟩
theorem OwAny.other {B : Nat} {w : World} {n2 cap2 : Nat} {ao : Option Addr} (h2 : OwAny B w ao n2 cap2) {g : Nat} (hg : g < B) (j : Nat) (u : Value) : OwAny B (w.setCell ⟨g, j, none⟩ u) ao n2 cap2 := by
  obtain ⟨vs, h2⟩ := h2
  exact ⟨vs, ow_stay h2 fun g2 h3 _ => Below.heap_setCell w _ u g2 (by show g2 ≠ g; omega)⟩
theorem OwAny.mono {B B' : Nat} {w : World} {ao : Option Addr} {n cap : Nat} (h : OwAny B w ao n cap) (hb : B' ≤ B) : OwAny B' w ao n cap := by
  obtain ⟨vs, h⟩ := h
  exact ⟨vs, ow_mono h hb⟩
theorem OwAny.lt {B : Nat} {w : World} {g n cap : Nat} (h : OwAny B w (some ⟨g, 0, none⟩) n cap) : g < w.heap.size := by
  obtain ⟨vs, h⟩ := h
  exact (World.ownsRow.lt h g rfl).2
set_option maxHeartbeats 8000000 in
set_option maxRecDepth 100000 in
theorem entries_law {k r c q : Int} {M : Nat} {e : Int} (hp : PP k r c q M e) (w : World) (ao : Option Addr) (l : List En) (ca : Nat) (hv : Ren w ao l ca) (N : Nm) (R : Int) (hN : N.length ≤ 140737488355328) (s : Nm) (hs : s.length ≤ 140737488355328) :
    Calls Try.prog 4 #[.agg #[.int .i64 k, .int .i64 r, .int .i64 c, .int .i64 q], .slice ao l.length ca, .agg #[.string ⟨N.toArray⟩, .int .i64 R], .string ⟨s.toArray⟩] w fun e' w' => e' = .returned (.bool true) ∧ RowKit.Below w.heap.size w w' := by
  obtain ⟨w0, hw0⟩ : ∃ w0, w0 = w.alloc (.cells #[.int .i64 k, .int .i64 r, .int .i64 c, .int .i64 q] 24) := ⟨_, rfl⟩
  have b0 : RowKit.Below w.heap.size w w0 := by rw [hw0]; exact below_alloc _ _
  obtain ⟨v0, hv0⟩ : ∃ v0, v0 = w0.alloc (.cells #[.string ⟨N.toArray⟩, .int .i64 R] 34) := ⟨_, rfl⟩
  have b1 : RowKit.Below w0.heap.size w0 v0 := by rw [hv0]; exact below_alloc _ _
  have HPAR : Hid (∀ v, RowKit.Below v0.heap.size v0 v → v.cell? ⟨w.heap.size, 0, none⟩ = some (.int .i64 k) ∧ v.cell? ⟨w.heap.size, 1, none⟩ = some (.int .i64 r) ∧ v.cell? ⟨w.heap.size, 2, none⟩ = some (.int .i64 c) ∧ v.cell? ⟨w.heap.size, 3, none⟩ = some (.int .i64 q)) := fun v hv => par_held hw0 (below_then b1 hv)
  have hs0 : w0.heap.size = w.heap.size + 1 := by rw [hw0]; simp
  have HEN : Hid (∀ v, RowKit.Below v0.heap.size v0 v → v.cell? ⟨w.heap.size + 1, 0, none⟩ = some (.string ⟨N.toArray⟩) ∧ v.cell? ⟨w.heap.size + 1, 1, none⟩ = some (.int .i64 R)) := fun v hv => by rw [← hs0]; exact ent_held hv0 hv
  have HB0 : Hid (RowKit.Below w.heap.size w v0) := below_then b0 b1
  have HV : Hid (∀ v, RowKit.Below v0.heap.size v0 v → Ren v ao l ca) := fun v h => hv.below (below_then HB0.out h)
  have HP : Hid (PP k r c q M e) := hp
  have HAL := alive_any v0
  rw [hw0] at hv0
  have HW : Hid ((w.alloc (.cells #[.int .i64 k, .int .i64 r, .int .i64 c, .int .i64 q] 24)).alloc (.cells #[.string ⟨N.toArray⟩, .int .i64 R] 34) = v0) := hv0.symm
  have hsN := str_size N
  have hss := str_size s
  have hwr : IntKind.i64.wrap ((N.length : Int) + (s.length : Int)) = (N.length : Int) + (s.length : Int) := by rw [IntKind.wrap_i64]; omega
  clear hv b0 b1 hp hw0 hv0 hs0
  go_enter Try.func4, Try.ntmps4
  go_wp2_with fail
  rw [HW.out]
  clear HW
  refine HAL.mono ?_
  rintro _ w1 ⟨rfl, h1⟩
  have HB1 : Hid (RowKit.Below v0.heap.size v0 w1) := h1
  have hMU := much_any w1 ao l ca (HV.out w1 h1)
  obtain ⟨y0, y1⟩ := HEN.out w1 HB1.out
  clear HAL h1
  cases hm : muE l
  · rw [hm] at hMU
    by_cases hlen : N.length + s.length ≤ 2000
    · have d1 : ¬ (2000 : Int) < (N.length : Int) + (s.length : Int) := by omega
      have HM : Hid (muE l = false) := hm
      have HN : Hid (N.length ≤ 2000 ∧ s.length ≤ 2000) := ⟨by omega, by omega⟩
      have HF : Hid (Few l) := few_mu hm
      have hll : l.length ≤ 2000 := (mu_few hm).1
      have HLL : Hid (l.length ≤ 2000) := hll
      have hl2 : (l.length : Int) ≤ 2000 := by omega
      clear hm hlen
      go_wp2_with fail
      refine hMU.mono ?_
      rintro _ w2 ⟨rfl, h2⟩
      have HB2 : Hid (RowKit.Below v0.heap.size v0 w2) := below_then HB1.out h2
      have hC := lent_any w2 ao l ca (HV.out w2 HB2.out) hll
      clear y0 y1
      obtain ⟨y0, y1⟩ := HEN.out w2 HB2.out
      clear h2 hMU hll
      go_wp2_with fail
      refine hC.mono ?_
      rintro _ w3 ⟨xo, xc, rfl, ho, h3⟩
      have HB3 : Hid (RowKit.Below v0.heap.size v0 w3) := below_then HB2.out h3
      have HX : Hid (∀ v, RowKit.Below w3.heap.size w3 v → Ren v xo (l ++ [mk77]) xc) := fun v h => ho.ren.below h
      have HY : Hid (∀ v, RowKit.Below w3.heap.size w3 v → Ren v xo l xc) := fun v h => by
        obtain ⟨b, off, rfl, _⟩ := (ho.ren.below h).at_ (by simp)
        have := (ho.ren.below h).upto (p := l.length) (by simp)
        rw [List.take_left' rfl] at this
        exact this
      clear hC ho h3 y0 y1
      -- Bytes
      obtain ⟨x0, x1, x2, x3⟩ := HPAR.out w3 HB3.out
      have hC := Bytes_go HP.out w3 xo l xc (HY.out w3 (Below.refl _ _)) HF.out
      go_wp2_with fail
      refine hC.mono ?_
      rintro _ w4 ⟨E1, p1, q1, L1, hE1, hL1, rfl, ho1, h4⟩
      have HE1 : Hid (E1 = erC e M q l ∧ L1 = (if E1 = 0 then bys l else [])) := ⟨hE1, hL1⟩
      have HB34 : Hid (RowKit.Below w3.heap.size w3 w4) := h4
      have HB4 : Hid (RowKit.Below v0.heap.size v0 w4) := below_then HB3.out h4
      have HO1 : Hid (∀ v, RowKit.Below w4.heap.size w4 v → Reb v p1 L1 q1) := fun v h => ho1.reb.below h
      clear hC x0 x1 x2 x3 hE1 hL1 ho1 h4
      -- Find
      obtain ⟨x0, x1, x2, x3⟩ := HPAR.out w4 HB4.out
      have hC := Find_any HP.out w4 xo l xc (HY.out w4 HB34.out) HF.out s
      go_wp2_with fail
      refine hC.mono ?_
      rintro _ w5 ⟨E2, hE2, rfl, h5⟩
      have HE2 : Hid (E2 = erN (erC e M q l) s) := hE2
      obtain ⟨nf, hnf⟩ : ∃ nf, nf = fiR E2 l s := ⟨_, rfl⟩
      obtain ⟨sf, hsf⟩ : ∃ sf, sf = asI E2 l s := ⟨_, rfl⟩
      rw [← hnf, ← hsf]
      have HNF : Hid (nf = fiR E2 l s ∧ sf = asI E2 l s) := ⟨hnf, hsf⟩
      have HB5 : Hid (RowKit.Below v0.heap.size v0 w5) := below_then HB4.out h5
      have HB35 : Hid (RowKit.Below w3.heap.size w3 w5) := below_then HB34.out h5
      have HB45 : Hid (RowKit.Below w4.heap.size w4 w5) := h5
      clear hC x0 x1 x2 x3 hE2 h5 hnf hsf
      -- Add
      obtain ⟨x0, x1, x2, x3⟩ := HPAR.out w5 HB5.out
      obtain ⟨y0, y1⟩ := HEN.out w5 HB5.out
      have hC := Add_any HP.out w5 xo l xc (HY.out w5 HB35.out) HF.out N R (few_ins HM.out HN.out.1)
      go_wp2_with fail
      refine hC.mono ?_
      rintro _ w6 ⟨E3, p3, q3, L3, hE3, hL3, rfl, ho3, h6⟩
      have HE3 : Hid (E3 = erA (erC e M q l) M q l (N, R) ∧ L3 = (if E3 = 0 then insE l (N, R) else [])) := ⟨hE3, hL3⟩
      have HB6 : Hid (RowKit.Below v0.heap.size v0 w6) := below_then HB5.out h6
      have HB36 : Hid (RowKit.Below w3.heap.size w3 w6) := below_then HB35.out h6
      have HSZ56 : Hid (w5.heap.size ≤ w6.heap.size) := h6.size
      have HB46 : Hid (RowKit.Below w4.heap.size w4 w6) := below_then HB45.out h6
      have HO3 : Hid (∀ v, RowKit.Below w6.heap.size w6 v → OwE w5.heap.size v p3 L3 q3) := fun v h => ho3.below h
      have HL3 : Hid (L3.length ≤ 10000) := by
        show _ ≤ _
        rw [hL3]
        split
        · rw [ins_length]; have := HLL.out; omega
        · exact Nat.zero_le _
      clear hC x0 x1 x2 x3 y0 y1 hE3 hL3 ho3 h6
      -- Remove
      obtain ⟨x0, x1, x2, x3⟩ := HPAR.out w6 HB6.out
      have hC := Remove_any HP.out w6 xo l xc (HY.out w6 HB36.out) HF.out s
      go_wp2_with fail
      refine hC.mono ?_
      rintro _ w7 ⟨E4, p4, q4, L4, hE4, hL4, rfl, ho4, h7⟩
      have HE4 : Hid (E4 = erR (erN (erC e M q l) s) l s ∧ L4 = (if E4 = 0 then remE l s else [])) := ⟨hE4, hL4⟩
      have HB7 : Hid (RowKit.Below v0.heap.size v0 w7) := below_then HB6.out h7
      have HB37 : Hid (RowKit.Below w3.heap.size w3 w7) := below_then HB36.out h7
      have HB47 : Hid (RowKit.Below w4.heap.size w4 w7) := below_then HB46.out h7
      have HB67 : Hid (RowKit.Below w6.heap.size w6 w7) := h7
      have HO4 : Hid (∀ v, RowKit.Below w7.heap.size w7 v → OwE w6.heap.size v p4 L4 q4) := fun v h => ho4.below h
      have HL4 : Hid (L4.length ≤ 10000) := by
        show _ ≤ _
        rw [hL4]
        split
        · have := congrArg List.length (remE_eq l s)
          rw [this, List.length_append, List.length_take, List.length_drop]
          have := HLL.out
          omega
        · exact Nat.zero_le _
      clear hC x0 x1 x2 x3 hE4 hL4 ho4 h7
      -- the document's
      obtain ⟨x0, x1, x2, x3⟩ := HPAR.out w7 HB7.out
      have hC := RBytes_go HP.out w7 ao l ca (HV.out w7 HB7.out) HF.out
      go_wp2_with fail
      refine hC.mono ?_
      rintro _ w8 ⟨E, p5, q5, L, hE, hL, rfl, ho5, h8⟩
      obtain rfl : E = E1 := hE.trans HE1.out.1.symm
      obtain rfl : L = L1 := hL.trans HE1.out.2.symm
      have HB8 : Hid (RowKit.Below v0.heap.size v0 w8) := below_then HB7.out h8
      have HB78 : Hid (RowKit.Below w7.heap.size w7 w8) := h8
      have HO5 : Hid (∀ v, RowKit.Below w8.heap.size w8 v → Reb v p5 L q5) := fun v h => ho5.reb.below h
      clear hC x0 x1 x2 x3 hE hL ho5 h8
      obtain ⟨x0, x1, x2, x3⟩ := HPAR.out w8 HB8.out
      have hC := RFind_any HP.out w8 ao l ca (HV.out w8 HB8.out) HF.out s
      go_wp2_with fail
      refine hC.mono ?_
      rintro _ w9 ⟨E', hE, rfl, h9⟩
      obtain rfl : E' = E2 := hE.trans HE2.out.symm
      rw [← HNF.out.1, ← HNF.out.2]
      have HB9 : Hid (RowKit.Below v0.heap.size v0 w9) := below_then HB8.out h9
      have HB79 : Hid (RowKit.Below w7.heap.size w7 w9) := below_then HB78.out h9
      have HB89 : Hid (RowKit.Below w8.heap.size w8 w9) := h9
      clear hC x0 x1 x2 x3 hE h9
      obtain ⟨x0, x1, x2, x3⟩ := HPAR.out w9 HB9.out
      obtain ⟨y0, y1⟩ := HEN.out w9 HB9.out
      have hC := RAdd_any HP.out w9 ao l ca (HV.out w9 HB9.out) HF.out N R (few_ins HM.out HN.out.1)
      go_wp2_with fail
      refine hC.mono ?_
      rintro _ w10 ⟨E'', p6, q6, LA, hE, hL, rfl, ho6, h10⟩
      obtain rfl : E'' = E3 := hE.trans HE3.out.1.symm
      obtain rfl : LA = L3 := hL.trans HE3.out.2.symm
      have HB10 : Hid (RowKit.Below v0.heap.size v0 w10) := below_then HB9.out h10
      have HB710 : Hid (RowKit.Below w7.heap.size w7 w10) := below_then HB79.out h10
      have HB810 : Hid (RowKit.Below w8.heap.size w8 w10) := below_then HB89.out h10
      have HO6 : Hid (∀ v, RowKit.Below w10.heap.size w10 v → Ren v p6 LA q6) := fun v h => ho6.ren.below h
      clear hC x0 x1 x2 x3 y0 y1 hE hL ho6 h10
      obtain ⟨x0, x1, x2, x3⟩ := HPAR.out w10 HB10.out
      have hC := RRemove_any HP.out w10 ao l ca (HV.out w10 HB10.out) HF.out s
      go_wp2_with fail
      refine hC.mono ?_
      rintro _ w11 ⟨E5, p7, q7, LR, hE, hL, rfl, ho7, h11⟩
      obtain rfl : E5 = E4 := hE.trans HE4.out.1.symm
      obtain rfl : LR = L4 := hL.trans HE4.out.2.symm
      have HB11 : Hid (RowKit.Below v0.heap.size v0 w11) := below_then HB10.out h11
      have HB711 : Hid (RowKit.Below w7.heap.size w7 w11) := below_then HB710.out h11
      have HB811 : Hid (RowKit.Below w8.heap.size w8 w11) := below_then HB810.out h11
      have HB1011 : Hid (RowKit.Below w10.heap.size w10 w11) := h11
      have HO7 : Hid (∀ v, RowKit.Below w11.heap.size w11 v → Ren v p7 LR q7) := fun v h => ho7.ren.below h
      clear hC x0 x1 x2 x3 hE hL ho7 h11
      -- all compared
      have t1 : ∀ d os, (convert 25 9 (.slice p1 L.length q1)).run Try.prog (grow (redrawn w11 d) os) = .ok (.string ⟨L.toArray⟩) (grow (redrawn w11 d) os) := fun d os => text_reb (HO1.out _ (below_then HB47.out (below_then HB711.out (below_regrown w11 d os))))
      have t2 : ∀ d os, (convert 25 9 (.slice p5 L.length q5)).run Try.prog (grow (redrawn w11 d) os) = .ok (.string ⟨L.toArray⟩) (grow (redrawn w11 d) os) := fun d os => text_reb (HO5.out _ (below_then HB811.out (below_regrown w11 d os)))
      have cA : ∀ d os, Calls Try.prog 23 #[.slice p3 LA.length q3, .slice p6 LA.length q6] (grow (redrawn w11 d) os) fun e w'' => e = .returned (.bool true) ∧ ∃ p : Regrown, w'' = grow (redrawn w11 p.d) p.os := fun d os => Calls.regrown_of (by
        have := Same_any (grow (redrawn w11 d) os) p3 p6 LA LA q3 q6 (HO3.out _ (below_then HB67.out (below_then HB711.out (below_regrown w11 d os)))).ren (HO6.out _ (below_then HB1011.out (below_regrown w11 d os))) (by have := HL3.out; omega)
        rw [decide_eq_true rfl] at this
        exact this)
      have cR : ∀ d os, Calls Try.prog 23 #[.slice p4 LR.length q4, .slice p7 LR.length q7] (grow (redrawn w11 d) os) fun e w'' => e = .returned (.bool true) ∧ ∃ p : Regrown, w'' = grow (redrawn w11 p.d) p.os := fun d os => Calls.regrown_of (by
        have := Same_any (grow (redrawn w11 d) os) p4 p7 LR LR q4 q7 (HO4.out _ (below_then HB711.out (below_regrown w11 d os))).ren (HO7.out _ (below_regrown w11 d os)) (by have := HL4.out; omega)
        rw [decide_eq_true rfl] at this
        exact this)
      have cC := fun d os => Calls.regrown_of (d := d) (os := os) (Check_e HP.out (grow (redrawn w11 d) os) xo l xc (HY.out _ (below_then HB37.out (below_then HB711.out (below_regrown w11 d os)))) HF.out)
      have cD := fun d os => Calls.regrown_of (d := d) (os := os) (RCheck_e HP.out (grow (redrawn w11 d) os) ao l ca (HV.out _ (below_then HB11.out (below_regrown w11 d os))) HF.out)
      obtain ⟨EC, hEC⟩ : ∃ EC, EC = erC e M q l := ⟨_, rfl⟩
      rw [← hEC] at cC cD
      obtain ⟨x0, x1, x2, x3⟩ := HPAR.out w11 HB11.out
      have k0 := cell_regrown x0
      have k1 := cell_regrown x1
      have k2 := cell_regrown x2
      have k3 := cell_regrown x3
      have be1 : (sf == sf) = true := by simp
      have be2 : (nf == nf) = true := by simp
      have be3 : (EC == EC) = true := by simp
      have be4 : (L == L) = true := by simp
      clear x0 x1 x2 x3 hEC
      go_wp2_with fail
      refine wp_region_quiet_below (by kernel_rfl) (by kernel_rfl) ?_
      repeat (go_big_quiet_step (first | (go_at_call_of 23 (Value.slice p3 LA.length q3); exact cA _ _) | (go_at_call_of 23 (Value.slice p4 LR.length q4); exact cR _ _) | (go_at_call 24; exact cC _ _) | (go_at_call 25; exact cD _ _)))
      refine wpQuiet_nil ?_
      intro w12 hw'
      obtain ⟨⟨dq, osq⟩, hw''⟩ := hw'
      have hb12 := below_regrown w11 dq osq
      rw [← hw''] at hb12
      have HB12 : Hid (RowKit.Below v0.heap.size v0 w12) := below_then HB11.out hb12
      have HY12 : Hid (RowKit.Below w3.heap.size w3 w12) := below_then HB37.out (below_then HB711.out hb12)
      have HOA : Hid (OwAny w5.heap.size w12 p3 LA.length q3) := (HO3.out w12 (below_then HB67.out (below_then HB711.out hb12))).any
      have HOR : Hid (OwAny w6.heap.size w12 p4 LR.length q4) := (HO4.out w12 (below_then HB711.out hb12)).any
      have HG : Hid (∀ g, p3 = some ⟨g, 0, none⟩ → g < w6.heap.size) := fun g hg => by
        have h := (HO3.out w6 (Below.refl _ _)).any
        rw [hg] at h
        exact h.lt
      have HS56 : Hid (w5.heap.size ≤ w6.heap.size ∧ w3.heap.size ≤ w5.heap.size ∧ v0.heap.size ≤ w5.heap.size) := ⟨HSZ56.out, HB35.out.size, HB5.out.size⟩
      have la : (LA.length : Int) ≤ 10000 := by have := HL3.out; omega
      have lr : (LR.length : Int) ≤ 10000 := by have := HL4.out; omega
      clear hw'' hb12 t1 t2 cA cR cC cD k0 k1 k2 k3
      go_wp2_with fail
      go_loopw [30] (fun x wr => ∃ i : Nat, i ≤ LA.length ∧ x = .int .i64 (i : Int) ∧ Hid (OwAny w5.heap.size wr p3 LA.length q3) ∧ Hid (OwAny w6.heap.size wr p4 LR.length q4) ∧ Hid (RowKit.Below w5.heap.size w12 wr)) (fun x _ => LA.length - (intOf x).toNat)
      case atStart => exact ⟨0, Nat.zero_le _, rfl, HOA, HOR, Below.refl _ _⟩
      case round =>
        obtain ⟨i, hi, rfl, hoa, hor, hbel⟩ := hrel
        have i1 : (0 : Int) ≤ (i : Int) := by omega
        by_cases hlt : i < LA.length
        · obtain ⟨g, hg, hgb⟩ := hoa.out.at_ (by omega)
          have hg6 := HG.out g hg
          subst hg
          obtain ⟨⟨v, c0⟩, f0⟩ := hoa.out.cell (j := i * 2 + 1) (by omega)
          have i2 : (i : Int) < (LA.length : Int) := by omega
          have HA2 : Hid (OwAny w5.heap.size (wr.setCell ⟨g, i * 2 + 1, none⟩ (.int .i64 (-9))) (some ⟨g, 0, none⟩) LA.length q3) := hoa.out.set _ _
          have HR2 : Hid (OwAny w6.heap.size (wr.setCell ⟨g, i * 2 + 1, none⟩ (.int .i64 (-9))) p4 LR.length q4) := hor.out.other hg6 _ _
          have HB2 : Hid (RowKit.Below w5.heap.size w12 (wr.setCell ⟨g, i * 2 + 1, none⟩ (.int .i64 (-9)))) := hbel.out.setCell hgb _
          clear hgb hg6
          go_wp2_with fail
          go_roundw
          case rel => exact ⟨i + 1, by omega, by go_num, HA2, HR2, HB2⟩
          case measure => simp [intOf]; omega
        · obtain rfl : i = LA.length := by omega
          have hor2 := hor
          have hbel2 := hbel
          clear hoa hor hbel hlt HOA HOR HG
          obtain ⟨w13, hw13⟩ : ∃ w13, w13 = wr := ⟨_, rfl⟩
          rw [← hw13] at hor2 hbel2
          go_wp2_with fail
          rw [← hw13]
          clear hw13
          go_loopw [31] (fun x wr => ∃ i : Nat, i ≤ LR.length ∧ x = .int .i64 (i : Int) ∧ Hid (OwAny w6.heap.size wr p4 LR.length q4) ∧ Hid (RowKit.Below w5.heap.size w12 wr)) (fun x _ => LR.length - (intOf x).toNat)
          case atStart => exact ⟨0, Nat.zero_le _, rfl, hor2, hbel2⟩
          case round =>
            obtain ⟨j, hj, rfl, hor, hbel⟩ := hrel
            have i1 : (0 : Int) ≤ (j : Int) := by omega
            by_cases hlt : j < LR.length
            · obtain ⟨g, hg, hgb⟩ := hor.out.at_ (by omega)
              subst hg
              obtain ⟨⟨v, c0⟩, f0⟩ := hor.out.cell (j := j * 2 + 1) (by omega)
              have i2 : (j : Int) < (LR.length : Int) := by omega
              have HR2 : Hid (OwAny w6.heap.size (wr.setCell ⟨g, j * 2 + 1, none⟩ (.int .i64 (-9))) (some ⟨g, 0, none⟩) LR.length q4) := hor.out.set _ _
              have HB2 : Hid (RowKit.Below w5.heap.size w12 (wr.setCell ⟨g, j * 2 + 1, none⟩ (.int .i64 (-9)))) := hbel.out.setCell (Nat.le_trans HS56.out.1 hgb) _
              clear hgb
              go_wp2_with fail
              go_roundw
              case rel => exact ⟨j + 1, by omega, by go_num, HR2, HB2⟩
              case measure => simp [intOf]; omega
            · obtain rfl : j = LR.length := by omega
              have HBV : Hid (RowKit.Below v0.heap.size v0 wr) := HB12.out.trans (hbel.out.mono HS56.out.2.2)
              have hK := kept_any wr xo ao l xc ca (HX.out wr (HY12.out.trans (hbel.out.mono HS56.out.2.1))) (HV.out wr HBV.out) HLL.out
              have ee1 : (E == E) = true := by simp
              have ee2 : (E' == E') = true := by simp
              have ee3 : (E'' == E'') = true := by simp
              have ee4 : (E5 == E5) = true := by simp
              clear hor hbel hlt i1 hor2 hbel2
              go_wp2_with fail
              refine hK.mono ?_
              rintro _ w14 ⟨rfl, h14⟩
              go_wp2
              go_ret
              exact ⟨rfl, below_then HB0.out (below_then HBV.out h14)⟩
    · have d1 : (2000 : Int) < (N.length : Int) + (s.length : Int) := by omega
      clear hm hlen
      go_wp2_with fail
      refine hMU.mono ?_
      rintro _ w2 ⟨rfl, h2⟩
      have y2 := held y0 h2
      clear y0 y1
      go_wp2
      go_ret
      exact ⟨rfl, below_then (below_then HB0.out HB1.out) h2⟩
  · rw [hm] at hMU
    clear hm
    go_wp2_with fail
    refine hMU.mono ?_
    rintro _ w2 ⟨rfl, h2⟩
    go_wp2
    go_ret
    exact ⟨rfl, below_then (below_then HB0.out HB1.out) h2⟩
end Go.Proofs.Ytfbfiecamaginaa
