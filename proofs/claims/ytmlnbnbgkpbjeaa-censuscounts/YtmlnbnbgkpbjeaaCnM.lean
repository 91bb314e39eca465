/- The version that counts is the greatest one that K drives hold: the statement's walk, no version counts. -/
import Derived.Test.YtmlnbnbgkpbjeaaCnL
namespace Go.Proofs.Ytmlnbnbgkpbjeaa
open Go.RowKit Go.Maps Go.ChangeShapes

set_option maxHeartbeats 40000000 in
set_option maxRecDepth 100000 in
theorem cc_none {k r c q : Int} {N W : Nat} {x : Int} (h : Par k r c q N W x) (w : World) (ro : Option Addr) (rn rc : Nat) (A : Nat → Option Addr) (L C : Nat → Nat) (F : Nat → Nat → UInt8) (hr : Rw w ro rn A L C F) (hE0 : erR x N c rn L = 0) (hws : wins k (hP N c L F) (hQ N c L F) N = []) :
    Calls Try.prog 4 #[.agg #[.int .i64 k, .int .i64 r, .int .i64 c, .int .i64 q], .slice ro rn rc] w fun e w' => e = .returned (.bool true) ∧ Below w.heap.size w w' := by
  obtain ⟨E, hE⟩ : ∃ E, erR x N c rn L = E := ⟨_, rfl⟩
  have e0 : E = 0 := hE.symm.trans hE0
  clear hE0
  obtain ⟨y0, hy0⟩ : ∃ y, rdv E (wins k (hP N c L F) (hQ N c L F) N) 0 = y := ⟨_, rfl⟩
  obtain ⟨z0, hz0⟩ : ∃ z, rdb E (wins k (hP N c L F) (hQ N c L F) N) 0 = z := ⟨_, rfl⟩
  obtain ⟨y1, hy1⟩ : ∃ y, rdv E (wins k (hP N c L F) (hQ N c L F) N) 1 = y := ⟨_, rfl⟩
  obtain ⟨z1, hz1⟩ : ∃ z, rdb E (wins k (hP N c L F) (hQ N c L F) N) 1 = z := ⟨_, rfl⟩
  obtain ⟨ms, hms⟩ : ∃ ms, (if E = 0 then lost k (hP N c L F) (hQ N c L F) N else []) = ms := ⟨_, rfl⟩
  have HTL : Hid (∀ u, Below w.heap.size w u → Calls Try.prog 8 #[.agg #[.int .i64 k, .int .i64 r, .int .i64 c, .int .i64 q], .slice ro rn rc] u (AnsTl u E (hP N c L F) (hQ N c L F) N)) := fun u hu => Tallies_any h u ro rn rc A L C F (hr.below hu) E hE
  have HWN : Hid (∀ u, Below w.heap.size w u → Calls Try.prog 10 #[.agg #[.int .i64 k, .int .i64 r, .int .i64 c, .int .i64 q], .slice ro rn rc] u fun e w' => e = .returned (.tuple #[.int .i64 y0, .bool z0, .int .i64 E]) ∧ Below u.heap.size u w') := fun u hu => Winner_any h u ro rn rc A L C F (hr.below hu) E hE y0 hy0 z0 hz0
  have HRN : Hid (∀ u, Below w.heap.size w u → Calls Try.prog 12 #[.agg #[.int .i64 k, .int .i64 r, .int .i64 c, .int .i64 q], .slice ro rn rc] u fun e w' => e = .returned (.tuple #[.int .i64 y1, .bool z1, .int .i64 E]) ∧ Below u.heap.size u w') := fun u hu => Runner_any h u ro rn rc A L C F (hr.below hu) E hE y1 hy1 z1 hz1
  have HLS : Hid (∀ u, Below w.heap.size w u → Calls Try.prog 14 #[.agg #[.int .i64 k, .int .i64 r, .int .i64 c, .int .i64 q], .slice ro rn rc] u (AnsI u E ms)) := fun u hu => Losers_any h u ro rn rc A L C F (hr.below hu) E hE ms hms
  have HMS : Hid (∀ u v, Below w.heap.size w u → E = 0 → 1 ≤ v → v ≤ 1073741824 → Calls Try.prog 16 #[.agg #[.int .i64 k, .int .i64 r, .int .i64 c, .int .i64 q], .slice ro rn rc, .int .i64 v] u (AnsI u 0 (dl (fun d => !hbv (hP N c L F) (hQ N c L F) v d) N))) := fun u v hu e h1 h2 => Missing_any h u ro rn rc A L C F (hr.below hu) E hE v 0 (by rw [e]; unfold erF; rw [if_pos rfl, if_pos ⟨h1, h2⟩]) _ rfl
  have HAW : Hid (∀ u, Calls Try.prog 6 #[] u fun e w' => e = .returned (.bool true) ∧ Below u.heap.size u w') := fun u => awake_any u
  have hle := h.le
  have HE0 : Hid (E = 0 → rn = N) := fun e => (erR_zero (hE.trans e)).2.1
  have HB : Hid ((∀ i, 0 ≤ hP N c L F i ∧ hP N c L F i ≤ 1073741824) ∧ ∀ i, 0 ≤ hQ N c L F i ∧ hQ N c L F i ≤ 1073741824) := ⟨hP_bd N c L F, hQ_bd N c L F⟩
  clear hr h hE
  generalize hP N c L F = P at *
  generalize hQ N c L F = Q at *
  unfold AnsTl at HTL
  unfold AnsI at HLS HMS
  obtain ⟨w0, hw0⟩ : ∃ w0, w0 = w.alloc (.cells #[.int .i64 k, .int .i64 r, .int .i64 c, .int .i64 q] 23) := ⟨_, rfl⟩
  have B0 : Hid (Below w.heap.size w w0) := by show Below _ _ _; rw [hw0]; exact below_alloc _ _
  have L0 : Hid (∀ v, Below w0.heap.size w0 v → At w v w.heap.size #[.int .i64 k, .int .i64 r, .int .i64 c, .int .i64 q] 23) := fun v hv => (at_made (Below.refl _ _) hw0).below hv
  have HC : Hid (∀ v, Below w0.heap.size w0 v → v.cell? ⟨w.heap.size, 0, none⟩ = some (.int .i64 k) ∧ v.cell? ⟨w.heap.size, 1, none⟩ = some (.int .i64 r) ∧ v.cell? ⟨w.heap.size, 2, none⟩ = some (.int .i64 c) ∧ v.cell? ⟨w.heap.size, 3, none⟩ = some (.int .i64 q)) := fun v hv => by
    have pq := L0.out v hv
    exact ⟨pq.cell (i := 0) rfl, pq.cell (i := 1) rfl, pq.cell (i := 2) rfl, pq.cell (i := 3) rfl⟩
  subst e0
  obtain rfl : rn = N := HE0.out rfl
  rw [if_pos rfl] at hms
  have HW : Hid (Who (enB k P Q rn) (tvL P Q rn) (wins k P Q rn) ms) := by show Who _ _ _ _; rw [← hms]; exact who_row k P Q rn (fun i => (HB.out.1 i).1) (fun i => (HB.out.2 i).1)
  unfold rdv at hy0 hy1
  rw [if_pos rfl] at hy0 hy1
  have HY : Hid ((wins k P Q rn).getD 0 0 = y0 ∧ (wins k P Q rn).getD 1 0 = y1) := ⟨hy0, hy1⟩
  unfold rdb at hz0 hz1
  rw [hws] at hz0 hz1 hy0 hy1
  have hall : ms = tvL P Q rn := HW.out.none hws
  obtain rfl : z0 = false := hz0.symm
  obtain rfl : z1 = false := hz1.symm
  obtain rfl : y0 = 0 := hy0.symm
  obtain rfl : y1 = 0 := hy1.symm
  clear hz0 hz1 hy0 hy1 hms hws
  have HSM : Hid (∀ j, sm (ct P Q rn) ((tvL P Q rn).take j) ≤ 2 * rn) := fun j => ct_sum P Q ((tvL_fall P Q rn).sublist (List.take_sublist j _)) rn
  go_enter Try.func4, Try.ntmps4
  go_wp2_with fail
  rw [← hw0]
  clear hw0
  refine (HAW.out _).mono ?_
  rintro e wa ⟨rfl, ha⟩
  have BA : Hid (Below w0.heap.size w0 wa) := ha
  obtain ⟨s0, s1, s2, s3⟩ := HC.out wa BA.out
  clear ha
  go_wp2_with fail
  refine (HTL.out _ (below_then B0.out BA.out)).mono ?_
  rintro e wb ⟨a, cap, ts, rfl, ht, hm, hb⟩
  rw [if_pos (by trivial)] at hm
  have HT : Hid (Tal wa.heap.size wb a cap ts (dv P Q rn)) := ht
  have HM : Hid (ts.map (fun t => t.1) = tvL P Q rn) := hm
  have BB : Hid (Below w0.heap.size w0 wb) := below_then BA.out hb
  have hln : ts.length ≤ 32 := by
    have h1 := tvL_few P Q rn
    rw [← hm, List.length_map] at h1; omega
  clear s0 s1 s2 s3 ht hm hb
  obtain ⟨tl, htl⟩ : ∃ tl, tl = ts.length := ⟨_, rfl⟩
  have HTLL : Hid (tl = ts.length) := htl
  rw [← htl] at hln ⊢
  clear htl
  obtain ⟨s0, s1, s2, s3⟩ := HC.out wb BB.out
  go_wp2_with fail
  refine (HWN.out _ (below_then B0.out BB.out)).mono ?_
  rintro e wc ⟨rfl, hc⟩
  have BBC : Hid (Below wb.heap.size wb wc) := hc
  have BC : Hid (Below w0.heap.size w0 wc) := below_then BB.out hc
  clear s0 s1 s2 s3 hc
  obtain ⟨s0, s1, s2, s3⟩ := HC.out wc BC.out
  go_wp2_with fail
  refine (HRN.out _ (below_then B0.out BC.out)).mono ?_
  rintro e wd ⟨rfl, hd⟩
  have BCD : Hid (Below wc.heap.size wc wd) := hd
  have BD : Hid (Below w0.heap.size w0 wd) := below_then BC.out hd
  clear s0 s1 s2 s3 hd
  obtain ⟨s0, s1, s2, s3⟩ := HC.out wd BD.out
  go_wp2_with fail
  refine (HLS.out _ (below_then B0.out BD.out)).mono ?_
  rintro e we ⟨am, capm, rfl, hm, he⟩
  have HTE : Hid (Tal wa.heap.size we a cap ts (dv P Q rn)) := HT.out.below (below_then BBC.out (below_then BCD.out he))
  have HME : Hid (we.ownsInts wd.heap.size 3 .i64 (.slice am ms.length capm) ms) := hm
  have BE : Hid (Below w0.heap.size w0 we) := below_then BD.out he
  have HLM : Hid (ms.length ≤ tl) := by
    have h1 := HW.out.few
    rw [← HM.out, List.length_map, ← HTLL.out] at h1; exact h1
  clear s0 s1 s2 s3 hm he
  obtain ⟨ml, hml⟩ : ∃ ml, ml = ms.length := ⟨_, rfl⟩
  rw [← hml] at HME HLM ⊢
  have HL : Hid (ml = ms.length) := hml
  clear hml
  have hmb : ml ≤ 32 := by have := HLM.out; omega
  go_wp2_with fail
  go_loopw [16, 17, 18] (fun s l y wr => ∃ (j l' s' : Nat), j ≤ tl ∧ y = .int .i64 (j : Int) ∧ l = .int .i64 (l' : Int) ∧ s = .int .i64 (s' : Int) ∧ Hid (l' = min j ml) ∧ Hid (s' = sm (ct P Q rn) ((tvL P Q rn).take j)) ∧ s' ≤ 32 ∧ l' ≤ 32 ∧ Hid (Below we.heap.size we wr)) (fun _ _ y _ => tl - (intOf y).toNat)
  case atStart => exact ⟨0, 0, 0, Nat.zero_le _, rfl, rfl, rfl, (by show 0 = min 0 ml; simp), rfl, by omega, by omega, Below.refl _ _⟩
  case round =>
    obtain ⟨j, l', s', hj, rfl, rfl, rfl, hl', hs', hs32, hl32, hbw⟩ := hrel
    by_cases hlt : j < tl
    · obtain ⟨g, rfl, _, _⟩ := HTE.out.at_ (by have := HTLL.out; omega)
      obtain ⟨t, htt⟩ : ∃ t, ts[j]? = some t := ⟨_, List.getElem?_eq_getElem (by rw [← HTLL.out]; exact hlt)⟩
      have hv : (tvL P Q rn)[j]? = some t.1 := by rw [← HM.out, List.getElem?_map, htt]; rfl
      have hlen := HTE.out.len htt
      have hcel := HTE.out.cel t (List.mem_of_getElem? htt)
      have c0 : wr.cell? ⟨g, j * 2, none⟩ = some (.int .i64 t.1) := held (HTE.out.c0 htt) hbw.out
      have c1 : wr.cell? ⟨g, j * 2 + 1, none⟩ = some (.slice t.2.1 t.2.2.1 t.2.2.2) := held (HTE.out.c1 htt) hbw.out
      have i1 : (0 : Int) ≤ (j : Int) := by omega
      have i2 : (j : Int) < (tl : Int) := by omega
      obtain ⟨t0, ta, tn, tc⟩ := t
      simp only at c0 c1 hlen hv hcel
      have HV : Hid ((tvL P Q rn)[j]? = some t0) := hv
      have HTT : Hid (ts[j]? = some (t0, ta, tn, tc)) := htt
      have HCEL : Hid (we.ownsInts wa.heap.size 3 .i64 (.slice ta tn tc) (dv P Q rn t0)) := hcel
      have HTN : Hid (tn = ct P Q rn t0) := hlen
      have hbig := HW.out.big t0 (List.mem_of_getElem? hv)
      have htop : t0 ≤ 1073741824 := by
        obtain ⟨_, d, _, h2⟩ := mem_tvL.1 (List.mem_of_getElem? hv)
        rcases h2 with e | e
        · rw [← e]; exact (HB.out.1 d).2
        · rw [← e]; exact (HB.out.2 d).2
      have hpos : 1 ≤ tn := by
        have := (mem_tv.1 (List.mem_of_getElem? hv)).2
        have h2 := List.length_pos_iff.2 this
        rw [HTN.out]; exact h2
      have htn : tn ≤ 16 := by rw [HTN.out]; exact Nat.le_trans (dl_few _ _) hle
      have v1 : ¬ t0 < 1 := by omega
      have n1 : ¬ (tn : Int) < 1 := by omega
      have HEN : Hid (decide (k ≤ (tn : Int)) = enB k P Q rn t0) := by show _ = _; unfold enB; rw [HTN.out]
      obtain ⟨gl, hgl⟩ : ∃ gl, gl = (dl (fun d => !hbv P Q t0 d) rn).length := ⟨_, rfl⟩
      have hg2 : gl + tn = rn := by rw [hgl, HTN.out]; have := dl_both (hbv P Q t0) rn; unfold ct dv; omega
      have hg3 : ((gl : Int) + (tn : Int) != (rn : Int)) = false := by simp; omega
      have hm0 := fun u hu => HMS.out u t0 hu (by trivial) hbig htop
      rw [← hgl] at hm0
      have HM0 : Hid (∀ u, Below w.heap.size w u → Calls Try.prog 16 #[.agg #[.int .i64 k, .int .i64 r, .int .i64 c, .int .i64 q], .slice ro rn rc, .int .i64 t0] u fun e w' => ∃ a cap, e = .returned (.tuple #[.slice a gl cap, .int .i64 0]) ∧ w'.ownsInts u.heap.size 3 .i64 (.slice a gl cap) (dl (fun d => !hbv P Q t0 d) rn) ∧ Below u.heap.size u w') := hm0
      have HAP : Hid (∀ (u : World) (b : Option Addr) (cb : Nat), Below we.heap.size we u → (∃ B, u.ownsInts B 3 .i64 (.slice b gl cb) (dl (fun d => !hbv P Q t0 d) rn)) → Calls Try.prog 21 #[.slice ta tn tc, .slice b gl cb] u fun e w' => e = .returned (.bool true) ∧ Below u.heap.size u w') := fun u b cb hu ⟨B, ho⟩ =>
        apart_any u ta tn tc b gl cb _ _ (ints_rd (ownsInts_below HCEL.out hu)) (ints_rd ho) (by omega) (by omega) (fun i hi => dl_next (by have := HTN.out; unfold ct dv at this; omega)) (fun i j' hi hj' => dl_not (by have := HTN.out; unfold ct dv at this; omega) (by omega))
      have HSUM : Hid (s' + tn = sm (ct P Q rn) ((tvL P Q rn).take (j + 1))) := by show _ = _; rw [sm_take _ HV.out, ← HTN.out, ← hs'.out]
      have hsb : s' + tn ≤ 32 := by rw [HSUM.out]; have := HSM.out (j + 1); omega
      obtain ⟨s0, s1, s2, s3⟩ := HC.out wr (below_then BE.out hbw.out)
      have HEH : Hid (∀ v, Below wr.heap.size wr v → v.cell? ⟨g, j * 2, none⟩ = some (.int .i64 t0) ∧ v.cell? ⟨g, j * 2 + 1, none⟩ = some (.slice ta tn tc)) := fun v hv => ⟨held c0 hv, held c1 hv⟩
      clear hlen hv htt hcel hm0 hgl
      by_cases hz : j = 0
      · have i9 : ¬ (0 : Int) < (j : Int) := by omega
        have i8 : decide ((0 : Int) < (j : Int)) = false := decide_eq_false i9
        have i7 : ¬ 0 < j := by omega
        have i6 : decide (0 < j) = false := decide_eq_false i7
        clear hz
        have hjm : j < ml := by rw [HL.out, hall, ← HM.out, List.length_map, ← HTLL.out]; exact hlt
        obtain ⟨q0, q1, q2, q3⟩ := HW.out.ahead j t0 HV.out (by rw [← HL.out]; exact hjm)
        rw [HY.out.1] at q1
        rw [HY.out.2] at q3
        obtain rfl : j = l' := by have := hl'.out; omega
        have kf : ¬ k ≤ (tn : Int) := of_decide_eq_false (HEN.out.trans q0)
        obtain ⟨gm, offm, rfl, hcm⟩ := ints_rd HME.out (by omega)
        have cm : wr.cell? ⟨gm, offm + j, none⟩ = some (.int .i64 t0) := by
          have this : wr.cell? ⟨gm, offm + j, none⟩ = some (.int .i64 (ms.getD j 0)) := held (hcm j hjm) hbw.out
          rw [show ms.getD j 0 = t0 by rw [List.getD_eq_getElem?_getD, q2]; rfl] at this
          exact this
        have m1 : ¬ (ml : Int) ≤ ((j : Nat) : Int) := by omega
        have m2 : ((j : Nat) : Int) < (ml : Int) := by omega
        have e1 : (t0 == 0) = false := by simp; omega
        have e2 : ¬ t0 < 0 := by omega
        have e3 : (t0 == 0) = false := by simp; omega
        clear hcm q0 q2
        go_wp2_with fail
        refine (HM0.out _ (below_then B0.out (below_then BE.out hbw.out))).mono ?_
        rintro e wf ⟨ag, capg, rfl, hog, hf⟩
        have BF : Hid (Below wr.heap.size wr wf) := hf
        have HX := HAP.out wf ag capg (below_then hbw.out hf) ⟨_, hog⟩
        obtain ⟨d0, d1⟩ := HEH.out wf hf
        clear hf hog s0 s1 s2 s3 c0 c1
        go_wp2_with fail
        refine HX.mono ?_
        rintro e wg ⟨rfl, hg⟩
        have BG : Hid (Below wf.heap.size wf wg) := hg
        clear hg HX d0 d1
        go_wp2_with fail
        go_roundw
        case rel =>
          refine ⟨j + 1, j + 1, s' + tn, by omega, by go_num, by go_num, by go_num, ?_, HSUM.out, hsb, by omega, below_then hbw.out (below_then BF.out BG.out)⟩
          show _ = min _ _
          have := hl'.out
          omega
        case measure => simp [intOf]; omega
      · obtain ⟨j0, rfl⟩ : ∃ j0, j = j0 + 1 := ⟨j - 1, by omega⟩
        obtain ⟨tp, htp⟩ : ∃ tp, ts[j0]? = some tp := ⟨_, List.getElem?_eq_getElem (by rw [← HTLL.out]; omega)⟩
        have hvp : (tvL P Q rn)[j0]? = some tp.1 := by rw [← HM.out, List.getElem?_map, htp]; rfl
        have cp : wr.cell? ⟨g, j0 * 2, none⟩ = some (.int .i64 tp.1) := held (HTE.out.c0 htp) hbw.out
        have hpv : ¬ tp.1 ≤ t0 := by have := HW.out.fall j0 _ _ hvp HV.out; omega
        have i3 : (0 : Int) ≤ (j0 : Int) := by omega
        have i4 : (j0 : Int) < (tl : Int) := by omega
        have i5 : (0 : Int) < ((j0 + 1 : Nat) : Int) := by omega
        obtain ⟨p0, pa⟩ := tp
        simp only at cp hpv
        clear htp hvp hz
        have hjm : (j0 + 1) < ml := by rw [HL.out, hall, ← HM.out, List.length_map, ← HTLL.out]; exact hlt
        obtain ⟨q0, q1, q2, q3⟩ := HW.out.ahead (j0 + 1) t0 HV.out (by rw [← HL.out]; exact hjm)
        rw [HY.out.1] at q1
        rw [HY.out.2] at q3
        obtain rfl : l' = (j0 + 1) := by have := hl'.out; omega
        have kf : ¬ k ≤ (tn : Int) := of_decide_eq_false (HEN.out.trans q0)
        obtain ⟨gm, offm, rfl, hcm⟩ := ints_rd HME.out (by omega)
        have cm : wr.cell? ⟨gm, offm + (j0 + 1), none⟩ = some (.int .i64 t0) := by
          have this : wr.cell? ⟨gm, offm + (j0 + 1), none⟩ = some (.int .i64 (ms.getD (j0 + 1) 0)) := held (hcm (j0 + 1) hjm) hbw.out
          rw [show ms.getD (j0 + 1) 0 = t0 by rw [List.getD_eq_getElem?_getD, q2]; rfl] at this
          exact this
        have m1 : ¬ (ml : Int) ≤ (((j0 + 1) : Nat) : Int) := by omega
        have m2 : (((j0 + 1) : Nat) : Int) < (ml : Int) := by omega
        have e1 : (t0 == 0) = false := by simp; omega
        have e2 : ¬ t0 < 0 := by omega
        have e3 : (t0 == 0) = false := by simp; omega
        clear hcm q0 q2
        go_wp2_with fail
        refine (HM0.out _ (below_then B0.out (below_then BE.out hbw.out))).mono ?_
        rintro e wf ⟨ag, capg, rfl, hog, hf⟩
        have BF : Hid (Below wr.heap.size wr wf) := hf
        have HX := HAP.out wf ag capg (below_then hbw.out hf) ⟨_, hog⟩
        obtain ⟨d0, d1⟩ := HEH.out wf hf
        clear hf hog s0 s1 s2 s3 c0 c1
        go_wp2_with fail
        refine HX.mono ?_
        rintro e wg ⟨rfl, hg⟩
        have BG : Hid (Below wf.heap.size wf wg) := hg
        clear hg HX d0 d1
        go_wp2_with fail
        go_roundw
        case rel =>
          refine ⟨(j0 + 1) + 1, (j0 + 1) + 1, s' + tn, by omega, by go_num, by go_num, by go_num, ?_, HSUM.out, hsb, by omega, below_then hbw.out (below_then BF.out BG.out)⟩
          show _ = min _ _
          have := hl'.out
          omega
        case measure => simp [intOf]; omega
    · have hjt : ¬ (j : Int) < (tl : Int) := by omega
      have hjl : j = tl := by omega
      have hlm : ((l' : Int) == (ml : Int)) = true := by have := hl'.out; have := HLM.out; simp; omega
      have hsr : (s' : Int) ≤ 2 * (rn : Int) := by have := HSM.out j; rw [← hs'.out] at this; omega
      clear hjl
      by_cases hpl : (0 : Int) < (tl : Int)
      · have hp2 : decide ((0 : Int) < (tl : Int)) = true := decide_eq_true hpl
        have hp3 : 0 < tl := by omega
        go_wp2_with fail
        all_goals (
          go_ret
          exact ⟨rfl, below_then B0.out (below_then BE.out hbw.out)⟩)
      · have hp2 : decide ((0 : Int) < (tl : Int)) = false := decide_eq_false hpl
        have hp3 : ¬ 0 < tl := by omega
        go_wp2_with fail
        all_goals (
          go_ret
          exact ⟨rfl, below_then B0.out (below_then BE.out hbw.out)⟩)
end Go.Proofs.Ytmlnbnbgkpbjeaa
