/- DirBytes' walk. -/
import Derived.Test.YtfbfiecamaginaaDrX
namespace Go.Proofs.Ytfbfiecamaginaa
open Go.RowKit Go.Sort

/-- What '[]byte(s)' lays. -/
theorem reb_conv (w : World) (l : Nm) : (convert 9 25 (.string ⟨l.toArray⟩)).run Try.prog w = .ok (.slice (some ⟨w.heap.size, 0, none⟩) l.length (grownCap w l.length 0 5)) (w.drew.alloc (.cells (bytesRow ⟨l.toArray⟩ (grownCap w l.length 0 5)) 5 ((bytesRow ⟨l.toArray⟩ (grownCap w l.length 0 5)).size, (bytesRow ⟨l.toArray⟩ (grownCap w l.length 0 5)).size + 1))) := by
  have h := run_bytes_of_string (P := Try.prog) w 9 25 5 ⟨l.toArray⟩ Try.underlying9 Try.underlying25 Try.underlying5
  rw [str_size] at h
  exact h
theorem reb_new (w : World) (l : Nm) (cap : Nat) (hc : l.length ≤ cap) (fz : Nat × Nat) : Reb (w.drew.alloc (.cells (bytesRow ⟨l.toArray⟩ cap) 5 fz)) (some ⟨w.heap.size, 0, none⟩) l cap := by
  refine ⟨fun _ => ⟨_, _, rfl, fun j u hj => ?_⟩, (fun e => by cases e), hc⟩
  have hjl : j < l.length := by
    rcases Nat.lt_or_ge j l.length with g | g
    · exact g
    · rw [List.getElem?_eq_none (by rw [bvl_length]; omega)] at hj; cases hj
  rw [bvl_get l j hjl] at hj
  have h : (w.drew.alloc (.cells (bytesRow ⟨l.toArray⟩ cap) 5 fz)).heap[w.heap.size]? = some (.cells (bytesRow ⟨l.toArray⟩ cap) 5 fz) := by
    show (w.heap.push _)[w.heap.size]? = _
    simp
  rw [Lib.cell_of_heap h, Nat.zero_add, ← hj]
  unfold bytesRow
  rw [Array.getElem?_append_left (by simpa using hjl)]
  simp [List.getD_eq_getElem?_getD, hjl]
set_option maxHeartbeats 8000000 in
set_option maxRecDepth 100000 in
theorem bytes_law {k r c q : Int} {M : Nat} {e : Int} (hp : PP k r c q M e) (w : World) (bo io : Option Addr) (b : List UInt8) (R : List Int) (cb ci : Nat) (hu : Reb w bo b cb) (hi : Rei w io R ci) :
    Calls Try.prog 5 #[.agg #[.int .i64 k, .int .i64 r, .int .i64 c, .int .i64 q], .slice bo b.length cb, .slice io R.length ci] w fun e' w' => e' = .returned (.bool true) ∧ RowKit.Below w.heap.size w w' := by
  obtain ⟨w0, hw0⟩ : ∃ w0, w0 = w.alloc (.cells #[.int .i64 k, .int .i64 r, .int .i64 c, .int .i64 q] 24) := ⟨_, rfl⟩
  have b0 : RowKit.Below w.heap.size w w0 := by rw [hw0]; exact below_alloc _ _
  have HPAR : Hid (∀ v, RowKit.Below w0.heap.size w0 v → v.cell? ⟨w.heap.size, 0, none⟩ = some (.int .i64 k) ∧ v.cell? ⟨w.heap.size, 1, none⟩ = some (.int .i64 r) ∧ v.cell? ⟨w.heap.size, 2, none⟩ = some (.int .i64 c) ∧ v.cell? ⟨w.heap.size, 3, none⟩ = some (.int .i64 q)) := fun v hv => par_held hw0 hv
  have HU : Hid (∀ v, RowKit.Below w0.heap.size w0 v → Reb v bo b cb) := fun v h => hu.below (below_then b0 h)
  have HI : Hid (∀ v, RowKit.Below w0.heap.size w0 v → Rei v io R ci) := fun v h => hi.below (below_then b0 h)
  have HB0 : Hid (RowKit.Below w.heap.size w w0) := b0
  have HP : Hid (PP k r c q M e) := hp
  have HAL := alive_any w0
  clear hu hi b0 hp
  go_enter Try.func5, Try.ntmps5
  go_wp2_with fail
  rw [← hw0]
  clear hw0
  refine HAL.mono ?_
  rintro _ w1 ⟨rfl, h1⟩
  have HB1 : Hid (RowKit.Below w0.heap.size w0 w1) := h1
  clear HAL h1
  by_cases hb4 : b.length ≤ 40000
  · have d1 : ¬ (40000 : Int) < (b.length : Int) := by omega
    by_cases hr2 : R.length ≤ 2000
    · have d2 : ¬ (2000 : Int) < (R.length : Int) := by omega
      have HS : Hid (b.length ≤ 40000 ∧ R.length ≤ 2000) := ⟨hb4, hr2⟩
      have tb := text_reb (HU.out w1 HB1.out)
      have tc := reb_conv w1 b
      obtain ⟨cc, hcc⟩ : ∃ cc, cc = grownCap w1 b.length 0 5 := ⟨_, rfl⟩
      have hcap : b.length ≤ cc := by rw [hcc]; exact grownCap_ge _ _ _ _
      rw [← hcc] at tc
      obtain ⟨w2, hw2⟩ : ∃ w2, w2 = w1.drew.alloc (.cells (bytesRow ⟨b.toArray⟩ cc) 5 ((bytesRow ⟨b.toArray⟩ cc).size, (bytesRow ⟨b.toArray⟩ cc).size + 1)) := ⟨_, rfl⟩
      have hx : Reb w2 (some ⟨w1.heap.size, 0, none⟩) b cc := by rw [hw2]; exact reb_new w1 b cc hcap _
      rw [← hw2] at tc
      have HB2 : Hid (RowKit.Below w0.heap.size w0 w2) := by
        show RowKit.Below _ _ _
        rw [hw2]
        exact below_then HB1.out ((below_drew _ _).alloc (Nat.le_refl _) _)
      have HX : Hid (∀ v, RowKit.Below w2.heap.size w2 v → Reb v (some ⟨w1.heap.size, 0, none⟩) b cc) := fun v h => hx.below h
      have hi2 := HI.out w2 HB2.out
      clear hb4 hr2 hcc hcap hw2 hx
      go_wp2_with (at_builtin; refine append_ints (by rfl) (.tmp 36) (.tmp 37) (by rfl) w2.heap.size 0 ci none io [] R (by rfl) (by rfl) (owi_nil _ _) hi2 (by have := HS.out; simp; omega) (Nat.le_refl _) ?_; intro yo yc w3 Y hY ho3 hg3; have HB23 : Hid (RowKit.Below w2.heap.size w2 w3) := (Below.refl _ _).grown hg3 (Nat.le_refl _) (fun k e => by cases e); have hY2 : Y = R := hY; subst hY2; have HOY : Hid (∀ v, RowKit.Below w3.heap.size w3 v → Rei v yo Y yc) := (fun v h => ho3.rei.below h); have HB3 : Hid (RowKit.Below w0.heap.size w0 w3) := below_then HB2.out HB23.out; clear hY ho3 hg3; obtain ⟨x0, x1, x2, x3⟩ := HPAR.out w3 HB3.out)
      obtain ⟨lb, rest, hpr⟩ := prs_of b
      have HPR : Hid (Prs b lb rest) := hpr
      have hlb : lb.length ≤ 100000 := by have := prs_sz hpr; have := sz_len lb; have := HS.out; omega
      have HLB : Hid (lb.length ≤ 100000) := hlb
      have hC := Parse_any HP.out w3 _ b cc (HX.out w3 HB23.out) (by have := HS.out; omega) lb rest hpr
      clear hpr hlb tb tc hi2
      refine hC.mono ?_
      rintro _ w4 ⟨E1, p1, q1, L1, hE1, hL1, rfl, ho1, h4⟩
      have HE1 : Hid (E1 = erB e M q b.length lb rest ∧ L1 = (if E1 = 0 then lb else [])) := ⟨hE1, hL1⟩
      have HB4 : Hid (RowKit.Below w0.heap.size w0 w4) := below_then HB3.out h4
      have HB34 : Hid (RowKit.Below w3.heap.size w3 w4) := h4
      have HO1 : Hid (∀ v, RowKit.Below w4.heap.size w4 v → Ren v p1 L1 q1) := fun v h => ho1.ren.below h
      clear hC x0 x1 x2 x3 hE1 hL1 ho1 h4
      obtain ⟨x0, x1, x2, x3⟩ := HPAR.out w4 HB4.out
      have hC := Buckets_any HP.out w4 _ b cc (HX.out w4 (below_then HB23.out HB34.out))
      go_wp2_with fail
      refine hC.mono ?_
      rintro _ w5 ⟨E2, p2, q2, L2, hE2, hL2, rfl, ho2, h5⟩
      have HE2 : Hid (E2 = erU e q b ∧ L2 = (if E2 = 0 then rws b else [])) := ⟨hE2, hL2⟩
      have HB5 : Hid (RowKit.Below w0.heap.size w0 w5) := below_then HB4.out h5
      have HB45 : Hid (RowKit.Below w4.heap.size w4 w5) := h5
      have HO2 : Hid (∀ v, RowKit.Below w5.heap.size w5 v → Rei v p2 L2 q2) := fun v h => ho2.rei.below h
      clear hC x0 x1 x2 x3 hE2 hL2 ho2 h5
      obtain ⟨x0, x1, x2, x3⟩ := HPAR.out w5 HB5.out
      have hC := Root_any HP.out w5 yo Y yc (HOY.out w5 (below_then HB34.out HB45.out)) (by have := HS.out; omega)
      go_wp2_with fail
      refine hC.mono ?_
      rintro _ w6 ⟨E3, p3, q3, L3, hE3, hL3, rfl, ho3, h6⟩
      have HE3 : Hid (E3 = erT e q Y ∧ L3 = (if E3 = 0 then rts Y else [])) := ⟨hE3, hL3⟩
      have HB6 : Hid (RowKit.Below w0.heap.size w0 w6) := below_then HB5.out h6
      have HB46 : Hid (RowKit.Below w4.heap.size w4 w6) := below_then HB45.out h6
      have HB56 : Hid (RowKit.Below w5.heap.size w5 w6) := h6
      have HO3 : Hid (∀ v, RowKit.Below w6.heap.size w6 v → Reb v p3 L3 q3) := fun v h => ho3.reb.below h
      clear hC x0 x1 x2 x3 hE3 hL3 ho3 h6
      obtain ⟨x0, x1, x2, x3⟩ := HPAR.out w6 HB6.out
      have hC := RParse_any HP.out w6 bo b cb (HU.out w6 HB6.out) (by have := HS.out; omega) lb rest HPR.out
      go_wp2_with fail
      refine hC.mono ?_
      rintro _ w7 ⟨E, p4, q4, L, hE, hL, rfl, ho4, h7⟩
      obtain rfl : E = E1 := hE.trans HE1.out.1.symm
      obtain rfl : L = L1 := hL.trans HE1.out.2.symm
      have HB7 : Hid (RowKit.Below w0.heap.size w0 w7) := below_then HB6.out h7
      have HB47 : Hid (RowKit.Below w4.heap.size w4 w7) := below_then HB46.out h7
      have HB57 : Hid (RowKit.Below w5.heap.size w5 w7) := below_then HB56.out h7
      have HB67 : Hid (RowKit.Below w6.heap.size w6 w7) := h7
      have HO4 : Hid (∀ v, RowKit.Below w7.heap.size w7 v → Ren v p4 L q4) := fun v h => ho4.ren.below h
      have HLL : Hid (L.length ≤ 100000) := by
        show _ ≤ _
        rw [HE1.out.2]
        split
        · exact HLB.out
        · exact Nat.zero_le _
      clear hC x0 x1 x2 x3 hE hL ho4 h7
      obtain ⟨x0, x1, x2, x3⟩ := HPAR.out w7 HB7.out
      have hC := RBuckets_any HP.out w7 bo b cb (HU.out w7 HB7.out)
      go_wp2_with fail
      refine hC.mono ?_
      rintro _ w8 ⟨E, p5, q5, LL, hE, hL, rfl, ho5, h8⟩
      obtain rfl : E = E2 := hE.trans HE2.out.1.symm
      obtain rfl : LL = L2 := hL.trans HE2.out.2.symm
      have HB8 : Hid (RowKit.Below w0.heap.size w0 w8) := below_then HB7.out h8
      have HB48 : Hid (RowKit.Below w4.heap.size w4 w8) := below_then HB47.out h8
      have HB58 : Hid (RowKit.Below w5.heap.size w5 w8) := below_then HB57.out h8
      have HB68 : Hid (RowKit.Below w6.heap.size w6 w8) := below_then HB67.out h8
      have HB78 : Hid (RowKit.Below w7.heap.size w7 w8) := h8
      have HO5 : Hid (∀ v, RowKit.Below w8.heap.size w8 v → Rei v p5 LL q5) := fun v h => ho5.rei.below h
      have HL2 : Hid (LL.length ≤ 100000) := by
        show _ ≤ _
        rw [HE2.out.2]
        split
        · simp [rws]
        · exact Nat.zero_le _
      clear hC x0 x1 x2 x3 hE hL ho5 h8
      obtain ⟨x0, x1, x2, x3⟩ := HPAR.out w8 HB8.out
      have hC := RRoot_any HP.out w8 io Y ci (HI.out w8 HB8.out) (by have := HS.out; omega)
      go_wp2_with fail
      refine hC.mono ?_
      rintro _ w9 ⟨E, p6, q6, L6, hE, hL, rfl, ho6, h9⟩
      obtain rfl : E = E3 := hE.trans HE3.out.1.symm
      obtain rfl : L6 = L3 := hL.trans HE3.out.2.symm
      have HB9 : Hid (RowKit.Below w0.heap.size w0 w9) := below_then HB8.out h9
      have HB89 : Hid (RowKit.Below w8.heap.size w8 w9) := h9
      have HO6 : Hid (∀ v, RowKit.Below w9.heap.size w9 v → Reb v p6 L6 q6) := fun v h => ho6.reb.below h
      clear hC x0 x1 x2 x3 hE hL ho6 h9
      have hS := Same_any w9 p1 p4 L L q1 q4 (HO1.out w9 (below_then HB48.out HB89.out)) (HO4.out w9 (below_then HB78.out HB89.out)) (by have := HLL.out; omega)
      rw [decide_eq_true rfl] at hS
      go_wp2_with fail
      refine hS.mono ?_
      rintro _ w10 ⟨rfl, h10⟩
      have HB10 : Hid (RowKit.Below w0.heap.size w0 w10) := below_then HB9.out h10
      have HB810 : Hid (RowKit.Below w8.heap.size w8 w10) := below_then HB89.out h10
      have HB910 : Hid (RowKit.Below w9.heap.size w9 w10) := h10
      clear hS h10
      have hS := SameI_any w10 p2 p5 LL LL q2 q5 (HO2.out w10 (below_then HB58.out HB810.out)) (HO5.out w10 HB810.out) (by have := HL2.out; omega)
      rw [decide_eq_true rfl] at hS
      go_wp2_with fail
      refine hS.mono ?_
      rintro _ w11 ⟨rfl, h11⟩
      have HB11 : Hid (RowKit.Below w0.heap.size w0 w11) := below_then HB10.out h11
      have HB811 : Hid (RowKit.Below w8.heap.size w8 w11) := below_then HB810.out h11
      have HB911 : Hid (RowKit.Below w9.heap.size w9 w11) := below_then HB910.out h11
      have t1 := text_reb (HO3.out w11 (below_then HB68.out HB811.out))
      have t2 := text_reb (HO6.out w11 HB911.out)
      have t3 := text_reb (HX.out w11 (below_then HB23.out (below_then HB34.out (below_then HB48.out HB811.out))))
      have t4 := text_reb (HU.out w11 HB11.out)
      clear hS h11
      have hS := SameI_any w11 yo io Y Y yc ci (HOY.out w11 (below_then HB34.out (below_then HB48.out HB811.out))) (HI.out w11 HB11.out) (by have := HS.out; omega)
      rw [decide_eq_true rfl] at hS
      go_wp2_with fail
      refine hS.mono ?_
      rintro _ w12 ⟨rfl, h12⟩
      go_wp2
      go_ret
      exact ⟨rfl, below_then HB0.out (below_then HB11.out h12)⟩
    · have d2 : (2000 : Int) < (R.length : Int) := by omega
      clear hb4 hr2
      go_wp2
      go_ret
      exact ⟨rfl, below_then HB0.out HB1.out⟩
  · have d1 : (40000 : Int) < (b.length : Int) := by omega
    clear hb4
    go_wp2
    go_ret
    exact ⟨rfl, below_then HB0.out HB1.out⟩
end Go.Proofs.Ytfbfiecamaginaa
