/- The document's answer: tallies, and which versions count. -/
import Derived.Test.YtmlnbnbgkpbjeaaCrD
import Derived.Test.YtmlnbnbgkpbjeaaCnK
namespace Go.Proofs.Ytmlnbnbgkpbjeaa
open Go.RowKit Go.Maps Go.ChangeShapes

theorem sz_few {k r c q : Int} {N W : Nat} (h : Par k r c q N W 0) : sz N c ≤ 1000 := by
  have h1 := h.le
  have h2 := h.cell rfl
  unfold sz; omega
theorem erR_zero2 {x : Int} {N : Nat} {c : Int} {rn : Nat} {L : Nat → Nat} (h : erR x N c rn L = 0) : x = 0 ∧ rn = N ∧ ∀ j, j < 2 * rn → L j = 0 ∨ L j = sz N c := by
  unfold erR at h
  by_cases hx : x = 0
  · rw [if_pos hx] at h
    by_cases g : rn = N ∧ ∀ j, j < 2 * rn → L j = 0 ∨ L j = sz N c
    · exact ⟨hx, g.1, g.2⟩
    · rw [if_neg g] at h; omega
  · rw [if_neg hx] at h; exact absurd h hx
set_option maxHeartbeats 4000000 in
set_option maxRecDepth 100000 in
theorem RTallies_any {k r c q : Int} {N W : Nat} {x : Int} (h : Par k r c q N W x) (w : World) (ro : Option Addr) (rn rc : Nat) (A : Nat → Option Addr) (L C : Nat → Nat) (F : Nat → Nat → UInt8) (hr : Rw w ro rn A L C F) (E : Int) (hE : erR x N c rn L = E) :
    Calls Try.prog 9 #[.agg #[.int .i64 k, .int .i64 r, .int .i64 c, .int .i64 q], .slice ro rn rc] w (AnsTl w E (hP N c L F) (hQ N c L F) N) := by
  obtain ⟨w0, hw0⟩ : ∃ w0, w0 = w.alloc (.cells #[.int .i64 k, .int .i64 r, .int .i64 c, .int .i64 q] 23) := ⟨_, rfl⟩
  have b0 : Below w.heap.size w w0 := by rw [hw0]; exact below_alloc _ _
  have HK := RCheck_any h w0 ro rn rc A L C F (hr.below b0) E hE
  have L0 : Hid (∀ v, Below w0.heap.size w0 v → At w v w.heap.size #[.int .i64 k, .int .i64 r, .int .i64 c, .int .i64 q] 23) := fun v hv => (at_made (Below.refl _ _) hw0).below hv
  unfold AnsTl
  by_cases e0 : E = 0
  · subst e0
    obtain ⟨rfl, rfl, hsz⟩ := erR_zero2 hE
    have HAL : Hid (∀ u, Below w.heap.size w u → Calls Try.prog 26 #[.agg #[.int .i64 k, .int .i64 r, .int .i64 c, .int .i64 q], .slice ro rn rc] u fun e w' => ∃ a cap ts, e = .returned (.slice a (ts.length : Nat) cap) ∧ Tal u.heap.size w' a cap ts (dv (hP rn c L F) (hQ rn c L F) rn) ∧ ts.map (fun t => t.1) = tvL (hP rn c L F) (hQ rn c L F) rn ∧ Below u.heap.size u w') := fun u hu => All_any h u ro rc A L C F (hr.below hu) (fun j hj => by have := sz_few h; rcases hsz j hj with e | e <;> omega)
    rw [if_pos rfl]
    clear hr hE h hsz
    go_enter Try.func9, Try.ntmps9
    go_wp2_with fail
    rw [← hw0]
    refine HK.mono ?_
    rintro e wa ⟨rfl, ha⟩
    have BA : Hid (Below w.heap.size w wa) := below_then b0 ha
    have pq := L0.out wa ha
    have s0 := pq.cell (i := 0) rfl
    have s1 := pq.cell (i := 1) rfl
    have s2 := pq.cell (i := 2) rfl
    have s3 := pq.cell (i := 3) rfl
    clear pq ha hw0 HK b0
    go_wp2_with fail
    refine (HAL.out _ BA.out).mono ?_
    rintro e wb ⟨a, cap, ts, rfl, ht, hm, hb⟩
    have HT : Hid (Tal wa.heap.size wb a cap ts (dv (hP rn c L F) (hQ rn c L F) rn) ∧ ts.map (fun t => t.1) = tvL (hP rn c L F) (hQ rn c L F) rn ∧ Below wa.heap.size wa wb) := ⟨ht, hm, hb⟩
    clear ht hm hb s0 s1 s2 s3
    go_wp2_with fail
    go_ret2
    exact ⟨a, cap, ts, rfl, HT.out.1.mono BA.out.size, HT.out.2.1, below_then BA.out HT.out.2.2⟩
  · have hq : (E != 0) = true := by simpa using e0
    rw [if_neg e0]
    clear hr hE h
    go_enter Try.func9, Try.ntmps9
    go_wp2_with fail
    rw [← hw0]
    refine HK.mono ?_
    rintro e wa ⟨rfl, ha⟩
    have BA : Hid (Below w.heap.size w wa) := below_then b0 ha
    clear ha hw0 HK b0
    go_wp2_with fail
    go_ret2
    exact ⟨none, 0, [], rfl, tal_nil _ _ _, rfl, BA.out⟩
set_option maxHeartbeats 8000000 in
set_option maxRecDepth 100000 in
theorem Counts_any {k r c q : Int} {N W : Nat} (h : Par k r c q N W 0) (w : World) (ro : Option Addr) (rc : Nat) (A : Nat → Option Addr) (L C : Nat → Nat) (F : Nat → Nat → UInt8) (hr : Rw w ro N A L C F) (hL : ∀ j, j < 2 * N → L j ≤ 1000) (y0 y1 : Int) (hy0 : (wins k (hP N c L F) (hQ N c L F) N).getD 0 0 = y0) (hy1 : (wins k (hP N c L F) (hQ N c L F) N).getD 1 0 = y1) :
    Calls Try.prog 28 #[.agg #[.int .i64 k, .int .i64 r, .int .i64 c, .int .i64 q], .slice ro N rc] w fun e w' => e = .returned (.tuple #[.int .i64 y0, .int .i64 y1]) ∧ Below w.heap.size w w' := by
  obtain ⟨w0, hw0⟩ : ∃ w0, w0 = w.alloc (.cells #[.int .i64 k, .int .i64 r, .int .i64 c, .int .i64 q] 23) := ⟨_, rfl⟩
  have b0 : Below w.heap.size w w0 := by rw [hw0]; exact below_alloc _ _
  have HH := All_any h w0 ro rc A L C F (hr.below b0) hL
  have hle := h.le
  have HW : Hid (Who (enB k (hP N c L F) (hQ N c L F) N) (tvL (hP N c L F) (hQ N c L F) N) (wins k (hP N c L F) (hQ N c L F) N) (lost k (hP N c L F) (hQ N c L F) N)) := who_row k _ _ N (fun i => (hP_bd N c L F i).1) (fun i => (hQ_bd N c L F i).1)
  have HY : Hid ((wins k (hP N c L F) (hQ N c L F) N).getD 0 0 = y0 ∧ (wins k (hP N c L F) (hQ N c L F) N).getD 1 0 = y1) := ⟨hy0, hy1⟩
  clear hr h hL hy0 hy1
  generalize hP N c L F = P at *
  generalize hQ N c L F = Q at *
  obtain ⟨ws, hws⟩ : ∃ ws, ws = wins k P Q N := ⟨_, rfl⟩
  rw [← hws] at HW HY
  have HWS : Hid (ws = (tvL P Q N).filter (enB k P Q N)) := hws
  clear hws
  go_enter Try.func28, Try.ntmps28
  go_wp2_with fail
  rw [← hw0]
  refine HH.mono ?_
  rintro e wa ⟨a, cap, ts, rfl, ht, hm, ha⟩
  have HT : Hid (Tal w0.heap.size wa a cap ts (dv P Q N)) := ht
  have HM : Hid (ts.map (fun t => t.1) = tvL P Q N) := hm
  have BA : Hid (Below w.heap.size w wa) := below_then b0 ha
  have L0 : Hid (∀ v, Below wa.heap.size wa v → At w v w.heap.size #[.int .i64 k, .int .i64 r, .int .i64 c, .int .i64 q] 23) := fun v hv => (at_made (Below.refl _ _) hw0).below (below_then ha hv)
  have hln : ts.length ≤ 32 := by
    have h1 := tvL_few P Q N
    rw [← hm, List.length_map] at h1; omega
  clear ht hm ha b0 hw0 HH
  obtain ⟨tl, htl⟩ : ∃ tl, tl = ts.length := ⟨_, rfl⟩
  have HTL : Hid (tl = ts.length) := htl
  rw [← htl] at hln ⊢
  clear htl
  go_wp2_with fail
  go_loopw [7, 8] (fun v y wr => ∃ (i : Nat) (u : Int), i ≤ tl ∧ y = .int .i64 (i : Int) ∧ v = .int .i64 u ∧ 0 ≤ u ∧ Hid ((u = 0 ∧ ((tvL P Q N).take i).filter (enB k P Q N) = []) ∨ (1 ≤ u ∧ ((tvL P Q N).take i).filter (enB k P Q N) = [u])) ∧ Hid (Below wa.heap.size wa wr)) (fun _ y _ => tl - (intOf y).toNat)
  case atStart => exact ⟨0, 0, Nat.zero_le _, rfl, rfl, Int.le_refl _, .inl ⟨rfl, rfl⟩, Below.refl _ _⟩
  case round =>
    obtain ⟨i, u, hi, rfl, rfl, hu0, hu, hbw⟩ := hrel
    by_cases hlt : i < tl
    · obtain ⟨g, rfl, _, _⟩ := HT.out.at_ (by have := HTL.out; omega)
      obtain ⟨t, htt⟩ : ∃ t, ts[i]? = some t := ⟨_, List.getElem?_eq_getElem (by rw [← HTL.out]; exact hlt)⟩
      have hv : (tvL P Q N)[i]? = some t.1 := by rw [← HM.out, List.getElem?_map, htt]; rfl
      have hl := HT.out.len htt
      have c0 : wr.cell? ⟨g, i * 2, none⟩ = some (.int .i64 t.1) := held (HT.out.c0 htt) hbw.out
      have c1 : wr.cell? ⟨g, i * 2 + 1, none⟩ = some (.slice t.2.1 t.2.2.1 t.2.2.2) := held (HT.out.c1 htt) hbw.out
      have i1 : (0 : Int) ≤ (i : Int) := by omega
      have i2 : (i : Int) < (tl : Int) := by omega
      obtain ⟨t0, ta, tn, tc⟩ := t
      simp only at c0 c1 hl hv
      have s0 := (L0.out wr hbw.out).cell (i := 0) rfl
      have hen : decide (k ≤ (tn : Int)) = enB k P Q N t0 := by unfold enB ct; rw [← hl]
      have HV : Hid ((tvL P Q N)[i]? = some t0) := hv
      have hbig := HW.out.big t0 (List.mem_of_getElem? hv)
      have HCC : Hid (∀ v, Below wr.heap.size wr v → v.cell? ⟨g, i * 2, none⟩ = some (.int .i64 t0)) := fun v hv => held c0 hv
      have HTK : Hid (((tvL P Q N).take (i + 1)).filter (enB k P Q N) = ((tvL P Q N).take i).filter (enB k P Q N) ++ (if enB k P Q N t0 = true then [t0] else [])) := by
        show _ = _
        rw [List.take_add_one, HV.out, List.filter_append]
        congr 1
        cases he : enB k P Q N t0 <;> simp [he]
      clear hl hv htt
      cases hb : enB k P Q N t0
      · have kf : (tn : Int) < k := by have := of_decide_eq_false (hen.trans hb); omega
        have kd : decide ((tn : Int) < k) = true := decide_eq_true kf
        clear hen
        go_wp2_with fail
        go_quiet (fail)
        obtain ⟨wq, hwq⟩ : ∃ wq, wq = wr.drewN nq := ⟨_, rfl⟩
        have BQ : Hid (Below wa.heap.size wa wq) := by show Below _ _ _; rw [hwq]; exact below_then hbw.out (below_drewN _ _ _)
        rw [← hwq]
        clear hwq
        go_wp2_with fail
        go_roundw
        case rel =>
          refine ⟨i + 1, u, by omega, by go_num, rfl, hu0, ?_, BQ.out⟩
          show _ ∨ _
          rw [HTK.out, hb, if_neg (by decide), List.append_nil]; exact hu.out
        case measure => simp [intOf]; omega
      · have kf : ¬ (tn : Int) < k := by have := of_decide_eq_true (hen.trans hb); omega
        have kd : decide ((tn : Int) < k) = false := decide_eq_false kf
        clear hen
        by_cases hup : (0 : Int) < u
        · obtain ⟨hu1, hu2⟩ : 1 ≤ u ∧ ((tvL P Q N).take i).filter (enB k P Q N) = [u] := by
            rcases hu.out with ⟨e, _⟩ | e
            · omega
            · exact e
          have hpre : ws = [u] ++ (((tvL P Q N).drop i).filter (enB k P Q N)) := by rw [HWS.out, ← hu2, ← List.filter_append, List.take_append_drop]
          have hw1 : ws[1]? = some t0 := by
            have := win_hit HV.out hb
            rw [hu2] at this
            rw [HWS.out]; exact this
          obtain rfl : y0 = u := by rw [← HY.out.1, hpre]; rfl
          obtain rfl : y1 = t0 := by rw [← HY.out.2, List.getD_eq_getElem?_getD, hw1]; rfl
          clear hpre hw1 hu2 hu1
          go_wp2_with fail
          go_quiet (fail)
          obtain ⟨wq, hwq⟩ : ∃ wq, wq = wr.drewN nq := ⟨_, rfl⟩
          have BQ : Hid (Below wr.heap.size wr wq) := by show Below _ _ _; rw [hwq]; exact below_drewN _ _ _
          rw [← hwq]
          clear hwq c0
          have c0 := HCC.out wq BQ.out
          go_wp2_with fail
          go_quiet (fail)
          obtain ⟨wz, hwz⟩ : ∃ wz, wz = wq.drewN nq := ⟨_, rfl⟩
          have BZ : Hid (Below wq.heap.size wq wz) := by show Below _ _ _; rw [hwz]; exact below_drewN _ _ _
          rw [← hwz]
          clear hwz
          go_wp2_with fail
          go_ret2
          exact ⟨rfl, below_then BA.out (below_then hbw.out (below_then BQ.out BZ.out))⟩
        · have hu2 : ((tvL P Q N).take i).filter (enB k P Q N) = [] := by
            rcases hu.out with ⟨_, e⟩ | ⟨e, _⟩
            · exact e
            · omega
          have HU2 : Hid (((tvL P Q N).take i).filter (enB k P Q N) = []) := hu2
          clear hu2
          go_wp2_with fail
          go_quiet (fail)
          obtain ⟨wq, hwq⟩ : ∃ wq, wq = wr.drewN nq := ⟨_, rfl⟩
          have BQ : Hid (Below wr.heap.size wr wq) := by show Below _ _ _; rw [hwq]; exact below_drewN _ _ _
          rw [← hwq]
          clear hwq c0
          have c0 := HCC.out wq BQ.out
          go_wp2_with fail
          go_roundw
          case rel =>
            refine ⟨i + 1, t0, by omega, by go_num, rfl, by omega, ?_, below_then hbw.out BQ.out⟩
            show _ ∨ _
            rw [HTK.out, hb, if_pos rfl, HU2.out]; exact .inr ⟨hbig, rfl⟩
          case measure => simp [intOf]; omega
    · have i2 : ¬ (i : Int) < (tl : Int) := by omega
      have hall : ws = ((tvL P Q N).take i).filter (enB k P Q N) := by
        rw [HWS.out, List.take_of_length_le]
        rw [← HM.out, List.length_map, ← HTL.out]; omega
      have hyy : y0 = u ∧ y1 = 0 := by
        rcases hu.out with ⟨e1, e2⟩ | ⟨e1, e2⟩
        · rw [e2] at hall; rw [← HY.out.1, ← HY.out.2, hall]; exact ⟨e1.symm, rfl⟩
        · rw [e2] at hall; rw [← HY.out.1, ← HY.out.2, hall]; exact ⟨rfl, rfl⟩
      obtain ⟨rfl, rfl⟩ := hyy
      clear hall
      go_wp2_with fail
      go_ret2
      exact ⟨rfl, below_then BA.out hbw.out⟩
end Go.Proofs.Ytmlnbnbgkpbjeaa
