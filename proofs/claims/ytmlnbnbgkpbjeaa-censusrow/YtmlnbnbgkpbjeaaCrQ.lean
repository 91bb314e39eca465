/- The document's winner, runner, losers, and the drives that miss a version. -/
import Derived.Test.YtmlnbnbgkpbjeaaCrE
namespace Go.Proofs.Ytmlnbnbgkpbjeaa
open Go.RowKit Go.Maps Go.ChangeShapes

theorem win_pos {p : Int → Bool} {l ws ms : List Int} (h : Who p l ws ms) {i : Nat} {y : Int} {z : Bool} (hy : rdv 0 ws i = y) (hz : rdb 0 ws i = z) : decide (0 < y) = z := by
  rw [← hy, ← hz]
  unfold rdv rdb
  rw [if_pos rfl]
  by_cases g : i < ws.length
  · have := h.big _ (h.sub _ (List.getElem_mem g)).1
    rw [List.getD_eq_getElem?_getD, List.getElem?_eq_getElem g]
    simp only [Option.getD_some]
    have h1 : 0 < ws[i] := by omega
    simp [g, h1]
  · rw [List.getD_eq_getElem?_getD, List.getElem?_eq_none (by omega)]
    simp [g]
set_option maxHeartbeats 4000000 in
set_option maxRecDepth 100000 in
theorem RWinner_any {k r c q : Int} {N W : Nat} {x : Int} (h : Par k r c q N W x) (w : World) (ro : Option Addr) (rn rc : Nat) (A : Nat → Option Addr) (L C : Nat → Nat) (F : Nat → Nat → UInt8) (hr : Rw w ro rn A L C F) (E : Int) (hE : erR x N c rn L = E) (y : Int) (hy : rdv E (wins k (hP N c L F) (hQ N c L F) N) 0 = y) (z : Bool) (hz : rdb E (wins k (hP N c L F) (hQ N c L F) N) 0 = z) :
    Calls Try.prog 11 #[.agg #[.int .i64 k, .int .i64 r, .int .i64 c, .int .i64 q], .slice ro rn rc] w fun e w' => e = .returned (.tuple #[.int .i64 y, .bool z, .int .i64 E]) ∧ Below w.heap.size w w' := by
  obtain ⟨w0, hw0⟩ : ∃ w0, w0 = w.alloc (.cells #[.int .i64 k, .int .i64 r, .int .i64 c, .int .i64 q] 23) := ⟨_, rfl⟩
  have b0 : Below w.heap.size w w0 := by rw [hw0]; exact below_alloc _ _
  have HK := RCheck_any h w0 ro rn rc A L C F (hr.below b0) E hE
  have L0 : Hid (∀ v, Below w0.heap.size w0 v → At w v w.heap.size #[.int .i64 k, .int .i64 r, .int .i64 c, .int .i64 q] 23) := fun v hv => (at_made (Below.refl _ _) hw0).below hv
  by_cases e0 : E = 0
  · subst e0
    obtain ⟨rfl, rfl, hsz⟩ := erR_zero2 hE
    have hd : decide (0 < y) = z := win_pos (who_row k _ _ rn (fun i => (hP_bd rn c L F i).1) (fun i => (hQ_bd rn c L F i).1)) hy hz
    have hy' : (wins k (hP rn c L F) (hQ rn c L F) rn).getD 0 0 = y := hy
    obtain ⟨y1, hyo⟩ : ∃ t, (wins k (hP rn c L F) (hQ rn c L F) rn).getD 1 0 = t := ⟨_, rfl⟩
    have HAL : Hid (∀ u, Below w.heap.size w u → Calls Try.prog 28 #[.agg #[.int .i64 k, .int .i64 r, .int .i64 c, .int .i64 q], .slice ro rn rc] u fun e w' => e = .returned (.tuple #[.int .i64 y, .int .i64 y1]) ∧ Below u.heap.size u w') := fun u hu => Counts_any h u ro rc A L C F (hr.below hu) (fun j hj => by have := sz_few h; rcases hsz j hj with e | e <;> omega) _ _ hy' hyo
    clear hr hE h hsz hy hz hy' hyo
    go_enter Try.func11, Try.ntmps11
    go_wp2_with fail
    rw [← hw0]
    refine HK.mono ?_
    rintro e wa ⟨rfl, ha⟩
    have BA : Hid (Below w.heap.size w wa) := below_then b0 ha
    have pq := L0.out wa ha
    have s0 := pq.cell (i := 0) rfl
    have s1 := pq.cell (i := 1) rfl
    have s2 := pq.cell (i := 2) rfl
    have s3 := pq.cell (i := 3) rfl
    clear pq ha hw0 HK b0
    go_wp2_with fail
    refine (HAL.out _ BA.out).mono ?_
    rintro e wb ⟨rfl, hb⟩
    have BB : Hid (Below wa.heap.size wa wb) := hb
    clear hb s0 s1 s2 s3
    go_wp2_with fail
    refine bodyPost_ret (v := .tuple #[.int .i64 y, .bool z, .int .i64 0]) (by simp [results, Try.results11, go_sem]) rfl ?_
    exact ⟨rfl, below_then BA.out BB.out⟩
  · have hq : (E != 0) = true := by simpa using e0
    obtain rfl : y = 0 := by rw [← hy]; unfold rdv; rw [if_neg e0]
    obtain rfl : z = false := by rw [← hz]; exact decide_eq_false (fun g => e0 g.1)
    clear hr hE h hy hz
    go_enter Try.func11, Try.ntmps11
    go_wp2_with fail
    rw [← hw0]
    refine HK.mono ?_
    rintro e wa ⟨rfl, ha⟩
    have BA : Hid (Below w.heap.size w wa) := below_then b0 ha
    clear ha hw0 HK b0
    go_wp2_with fail
    refine bodyPost_ret (v := .tuple #[.int .i64 0, .bool false, .int .i64 E]) (by simp [results, Try.results11, go_sem]) rfl ?_
    exact ⟨rfl, BA.out⟩
set_option maxHeartbeats 4000000 in
set_option maxRecDepth 100000 in
theorem RRunner_any {k r c q : Int} {N W : Nat} {x : Int} (h : Par k r c q N W x) (w : World) (ro : Option Addr) (rn rc : Nat) (A : Nat → Option Addr) (L C : Nat → Nat) (F : Nat → Nat → UInt8) (hr : Rw w ro rn A L C F) (E : Int) (hE : erR x N c rn L = E) (y : Int) (hy : rdv E (wins k (hP N c L F) (hQ N c L F) N) 1 = y) (z : Bool) (hz : rdb E (wins k (hP N c L F) (hQ N c L F) N) 1 = z) :
    Calls Try.prog 13 #[.agg #[.int .i64 k, .int .i64 r, .int .i64 c, .int .i64 q], .slice ro rn rc] w fun e w' => e = .returned (.tuple #[.int .i64 y, .bool z, .int .i64 E]) ∧ Below w.heap.size w w' := by
  obtain ⟨w0, hw0⟩ : ∃ w0, w0 = w.alloc (.cells #[.int .i64 k, .int .i64 r, .int .i64 c, .int .i64 q] 23) := ⟨_, rfl⟩
  have b0 : Below w.heap.size w w0 := by rw [hw0]; exact below_alloc _ _
  have HK := RCheck_any h w0 ro rn rc A L C F (hr.below b0) E hE
  have L0 : Hid (∀ v, Below w0.heap.size w0 v → At w v w.heap.size #[.int .i64 k, .int .i64 r, .int .i64 c, .int .i64 q] 23) := fun v hv => (at_made (Below.refl _ _) hw0).below hv
  by_cases e0 : E = 0
  · subst e0
    obtain ⟨rfl, rfl, hsz⟩ := erR_zero2 hE
    have hd : decide (0 < y) = z := win_pos (who_row k _ _ rn (fun i => (hP_bd rn c L F i).1) (fun i => (hQ_bd rn c L F i).1)) hy hz
    have hy' : (wins k (hP rn c L F) (hQ rn c L F) rn).getD 1 0 = y := hy
    obtain ⟨y0, hyo⟩ : ∃ t, (wins k (hP rn c L F) (hQ rn c L F) rn).getD 0 0 = t := ⟨_, rfl⟩
    have HAL : Hid (∀ u, Below w.heap.size w u → Calls Try.prog 28 #[.agg #[.int .i64 k, .int .i64 r, .int .i64 c, .int .i64 q], .slice ro rn rc] u fun e w' => e = .returned (.tuple #[.int .i64 y0, .int .i64 y]) ∧ Below u.heap.size u w') := fun u hu => Counts_any h u ro rc A L C F (hr.below hu) (fun j hj => by have := sz_few h; rcases hsz j hj with e | e <;> omega) _ _ hyo hy'
    clear hr hE h hsz hy hz hy' hyo
    go_enter Try.func13, Try.ntmps13
    go_wp2_with fail
    rw [← hw0]
    refine HK.mono ?_
    rintro e wa ⟨rfl, ha⟩
    have BA : Hid (Below w.heap.size w wa) := below_then b0 ha
    have pq := L0.out wa ha
    have s0 := pq.cell (i := 0) rfl
    have s1 := pq.cell (i := 1) rfl
    have s2 := pq.cell (i := 2) rfl
    have s3 := pq.cell (i := 3) rfl
    clear pq ha hw0 HK b0
    go_wp2_with fail
    refine (HAL.out _ BA.out).mono ?_
    rintro e wb ⟨rfl, hb⟩
    have BB : Hid (Below wa.heap.size wa wb) := hb
    clear hb s0 s1 s2 s3
    go_wp2_with fail
    refine bodyPost_ret (v := .tuple #[.int .i64 y, .bool z, .int .i64 0]) (by simp [results, Try.results13, go_sem]) rfl ?_
    exact ⟨rfl, below_then BA.out BB.out⟩
  · have hq : (E != 0) = true := by simpa using e0
    obtain rfl : y = 0 := by rw [← hy]; unfold rdv; rw [if_neg e0]
    obtain rfl : z = false := by rw [← hz]; exact decide_eq_false (fun g => e0 g.1)
    clear hr hE h hy hz
    go_enter Try.func13, Try.ntmps13
    go_wp2_with fail
    rw [← hw0]
    refine HK.mono ?_
    rintro e wa ⟨rfl, ha⟩
    have BA : Hid (Below w.heap.size w wa) := below_then b0 ha
    clear ha hw0 HK b0
    go_wp2_with fail
    refine bodyPost_ret (v := .tuple #[.int .i64 0, .bool false, .int .i64 E]) (by simp [results, Try.results13, go_sem]) rfl ?_
    exact ⟨rfl, BA.out⟩
end Go.Proofs.Ytmlnbnbgkpbjeaa
namespace Go.Proofs.Ytmlnbnbgkpbjeaa
open Go.RowKit Go.Maps Go.ChangeShapes

set_option maxHeartbeats 4000000 in
set_option maxRecDepth 100000 in
theorem RLosers_any {k r c q : Int} {N W : Nat} {x : Int} (h : Par k r c q N W x) (w : World) (ro : Option Addr) (rn rc : Nat) (A : Nat → Option Addr) (L C : Nat → Nat) (F : Nat → Nat → UInt8) (hr : Rw w ro rn A L C F) (E : Int) (hE : erR x N c rn L = E) (zs : List Int) (hzs : (if E = 0 then lost k (hP N c L F) (hQ N c L F) N else []) = zs) :
    Calls Try.prog 15 #[.agg #[.int .i64 k, .int .i64 r, .int .i64 c, .int .i64 q], .slice ro rn rc] w (AnsI w E zs) := by
  obtain ⟨w0, hw0⟩ : ∃ w0, w0 = w.alloc (.cells #[.int .i64 k, .int .i64 r, .int .i64 c, .int .i64 q] 23) := ⟨_, rfl⟩
  have b0 : Below w.heap.size w w0 := by rw [hw0]; exact below_alloc _ _
  have HK := RCheck_any h w0 ro rn rc A L C F (hr.below b0) E hE
  have L0 : Hid (∀ v, Below w0.heap.size w0 v → At w v w.heap.size #[.int .i64 k, .int .i64 r, .int .i64 c, .int .i64 q] 23) := fun v hv => (at_made (Below.refl _ _) hw0).below hv
  obtain ⟨i0, hi0, hz0, hz1, hz2⟩ := info_parts info3
  unfold AnsI
  by_cases e0 : E = 0
  · subst e0
    obtain ⟨rfl, rfl, hsz⟩ := erR_zero2 hE
    have hle := h.le
    have HW : Hid (Who (enB k (hP rn c L F) (hQ rn c L F) rn) (tvL (hP rn c L F) (hQ rn c L F) rn) (wins k (hP rn c L F) (hQ rn c L F) rn) (lost k (hP rn c L F) (hQ rn c L F) rn)) := who_row k _ _ rn (fun i => (hP_bd rn c L F i).1) (fun i => (hQ_bd rn c L F i).1)
    have HB : Hid ((∀ i, 0 ≤ hP rn c L F i ∧ hP rn c L F i ≤ 1073741824) ∧ ∀ i, 0 ≤ hQ rn c L F i ∧ hQ rn c L F i ≤ 1073741824) := ⟨hP_bd rn c L F, hQ_bd rn c L F⟩
    obtain ⟨y0, hy0⟩ : ∃ t, (wins k (hP rn c L F) (hQ rn c L F) rn).getD 0 0 = t := ⟨_, rfl⟩
    obtain ⟨y1, hy1⟩ : ∃ t, (wins k (hP rn c L F) (hQ rn c L F) rn).getD 1 0 = t := ⟨_, rfl⟩
    have HY0 : Hid ((wins k (hP rn c L F) (hQ rn c L F) rn).getD 0 0 = y0) := hy0
    have HCO : Hid (∀ u, Below w.heap.size w u → Calls Try.prog 28 #[.agg #[.int .i64 k, .int .i64 r, .int .i64 c, .int .i64 q], .slice ro rn rc] u fun e w' => e = .returned (.tuple #[.int .i64 y0, .int .i64 y1]) ∧ Below u.heap.size u w') := fun u hu => Counts_any h u ro rc A L C F (hr.below hu) (fun j hj => by have := sz_few h; rcases hsz j hj with e | e <;> omega) _ _ hy0 hy1
    have HAL : Hid (∀ u, Below w.heap.size w u → Calls Try.prog 26 #[.agg #[.int .i64 k, .int .i64 r, .int .i64 c, .int .i64 q], .slice ro rn rc] u fun e w' => ∃ a cap ts, e = .returned (.slice a (ts.length : Nat) cap) ∧ Tal u.heap.size w' a cap ts (dv (hP rn c L F) (hQ rn c L F) rn) ∧ ts.map (fun t => t.1) = tvL (hP rn c L F) (hQ rn c L F) rn ∧ Below u.heap.size u w') := fun u hu => All_any h u ro rc A L C F (hr.below hu) (fun j hj => by have := sz_few h; rcases hsz j hj with e | e <;> omega)
    rw [if_pos rfl] at hzs
    clear hr hE h hsz hy0 hy1
    generalize hP rn c L F = P at *
    generalize hQ rn c L F = Q at *
    rw [hzs] at HW
    clear hzs
    obtain ⟨ml, hml⟩ : ∃ ml, ml = zs.length := ⟨_, rfl⟩
    have HML : Hid (ml = zs.length) := hml
    have hmm : ml ≤ 32 := by
      have h1 := tvL_few P Q rn
      have h2 := HW.out.few
      rw [← hml] at h2; omega
    clear hml
    go_enter Try.func15, Try.ntmps15
    go_wp2_with fail
    rw [← hw0]
    refine HK.mono ?_
    rintro e wa ⟨rfl, ha⟩
    have BA : Hid (Below w.heap.size w wa) := below_then b0 ha
    have L1 : Hid (∀ v, Below wa.heap.size wa v → At w v w.heap.size #[.int .i64 k, .int .i64 r, .int .i64 c, .int .i64 q] 23) := fun v hv => L0.out v (below_then ha hv)
    have pq := L0.out wa ha
    have s0 := pq.cell (i := 0) rfl
    have s1 := pq.cell (i := 1) rfl
    have s2 := pq.cell (i := 2) rfl
    have s3 := pq.cell (i := 3) rfl
    clear pq ha hw0 HK b0
    go_wp2_with fail
    refine (HCO.out _ BA.out).mono ?_
    rintro e wb ⟨rfl, hb⟩
    have BB : Hid (Below wa.heap.size wa wb) := hb
    have BB2 : Hid (Below w.heap.size w wb) := below_then BA.out hb
    clear hb s0 s1 s2 s3
    have pq := L1.out wb BB.out
    have s0 := pq.cell (i := 0) rfl
    have s1 := pq.cell (i := 1) rfl
    have s2 := pq.cell (i := 2) rfl
    have s3 := pq.cell (i := 3) rfl
    clear pq
    go_wp2_with fail
    refine (HAL.out _ BB2.out).mono ?_
    rintro e wd ⟨a, cap, ts, rfl, ht, hm, hd⟩
    have HT : Hid (Tal wb.heap.size wd a cap ts (dv P Q rn)) := ht
    have HM : Hid (ts.map (fun t => t.1) = tvL P Q rn) := hm
    have BD : Hid (Below w.heap.size w wd) := below_then BB2.out hd
    have hln : ts.length ≤ 32 := by
      have h1 := tvL_few P Q rn
      rw [← hm, List.length_map] at h1; omega
    obtain ⟨tl, htl⟩ : ∃ tl, tl = ts.length := ⟨_, rfl⟩
    have HTL : Hid (tl = ts.length) := htl
    have HFE : Hid (ml ≤ tl) := by
      show _ ≤ _
      have h2 := HW.out.few
      rw [← hm, List.length_map, ← HML.out, ← htl] at h2; exact h2
    rw [← htl] at hln ⊢
    clear ht hm hd htl s0 s1 s2 s3
    go_wp2_with fail
    go_loopw [10, 11] (fun l y wr => ∃ (i : Nat) (a2 : Option Addr) (n2 cap2 : Nat), i ≤ tl ∧ y = .int .i64 (i : Int) ∧ l = .slice a2 n2 cap2 ∧ n2 ≤ 32 ∧ Hid (wr.ownsInts wd.heap.size 3 .i64 (.slice a2 n2 cap2) (zs.take i)) ∧ Hid (Below wd.heap.size wd wr)) (fun _ y _ => tl - (intOf y).toNat)
    case atStart => exact ⟨0, none, 0, 0, Nat.zero_le _, rfl, rfl, Nat.zero_le _, World.ownsInts_nil _ _ _ _, Below.refl _ _⟩
    case round =>
      obtain ⟨i, a2, n2, cap2, hi, rfl, rfl, hn2, hown, hbw⟩ := hrel
      by_cases hlt : i < tl
      · obtain ⟨g, rfl, _, _⟩ := HT.out.at_ (by have := HTL.out; omega)
        obtain ⟨t, htt⟩ : ∃ t, ts[i]? = some t := ⟨_, List.getElem?_eq_getElem (by rw [← HTL.out]; exact hlt)⟩
        have hv : (tvL P Q rn)[i]? = some t.1 := by rw [← HM.out, List.getElem?_map, htt]; rfl
        have c0 : wr.cell? ⟨g, i * 2, none⟩ = some (.int .i64 t.1) := held (HT.out.c0 htt) hbw.out
        have i1 : (0 : Int) ≤ (i : Int) := by omega
        have i2 : (i : Int) < (tl : Int) := by omega
        obtain ⟨t0, ta, tn, tc⟩ := t
        simp only at c0 hv
        have HV : Hid ((tvL P Q rn)[i]? = some t0) := hv
        have hwf : 0 ≤ t0 ∧ t0 ≤ 1073741824 := by
          obtain ⟨_, d, _, h2⟩ := mem_tvL.1 (List.mem_of_getElem? hv)
          rcases h2 with e | e
          · rw [← e]; exact HB.out.1 d
          · rw [← e]; exact HB.out.2 d
        clear hv htt
        by_cases hil : i < ml
        · have hA := HW.out.ahead i t0 HV.out (by rw [← HML.out]; exact hil)
          have hgt : y0 < t0 := by have := hA.2.1; rw [HY0.out] at this; exact this
          have HTK : Hid (zs.take (i + 1) = zs.take i ++ [t0]) := by
            show _ = _
            rw [List.take_add_one, hA.2.2.1]; rfl
          clear hA
          have OE := hown.out
          have HLL : Hid (n2 = (zs.take i).length) := ints_len OE
          have hl2 : (zs.take i).length ≤ 32 := by rw [← HLL.out]; omega
          have hnl : (zs.take i).length = i := by rw [List.length_take, ← HML.out]; omega
          have HNL : Hid ((zs.take i).length = i) := hnl
          clear hnl
          go_wp2_with (first
            | (at_builtin; refine wpList_append_own_at _ rfl _ _ 33 rfl wd.heap.size 3 i0 (.int .i64 0) 1 8 Try.underlying33 hi0 hz0 hz1 hz2 rfl (by decide) _ _ _ rfl (OE.1.alloc _) ⟨wr.heap.size, 0, none⟩ 1 1 [.int .i64 t0] rfl rfl (cell_one_new _ _ _) (ints_oneCell .i64 [t0]) (by unfold maxLen; omega) (by omega) (by have := hbw.out.size; simp; omega) ?_; intro v' w2 hown2 hgrow hnil hloc)
            | go_in)
          obtain ⟨a3, cap3, rfl⟩ := own_form hown2
          have hap := OE.appended hown2 (WalkArith.wf_i64 (by omega))
          have hll := HLL.out
          rw [← hll] at hap
          go_roundw
          case rel =>
            refine ⟨i + 1, a3, n2 + 1, cap3, by omega, by go_num, by rw [← hll], by have := HNL.out; omega, ?_, ?_⟩
            · show World.ownsInts _ _ _ _ _ _
              rw [HTK.out]; exact hap
            · exact (b_alloc hbw.out _).grown hgrow (by have := hbw.out.size; simp; omega) (fun j hj => (OE.1.lt j hj).1)
          case measure => simp [intOf]; omega
        · have hgt : ¬ y0 < t0 := by
            rw [← HY0.out]
            by_cases g2 : i = ml
            · have := (HW.out.here t0 (by rw [← HML.out, ← g2]; exact HV.out)).2.1
              omega
            · have := (HW.out.behind i t0 HV.out (by rw [← HML.out]; omega)).1
              omega
          have HTK : Hid (zs.take (i + 1) = zs.take i) := by
            show _ = _
            rw [List.take_of_length_le (by rw [← HML.out]; omega), List.take_of_length_le (by rw [← HML.out]; omega)]
          go_wp2_with fail
          go_roundw
          case rel =>
            refine ⟨i + 1, a2, n2, cap2, by omega, by go_num, rfl, hn2, ?_, hbw.out⟩
            show World.ownsInts _ _ _ _ _ _
            rw [HTK.out]; exact hown.out
          case measure => simp [intOf]; omega
      · have i2 : ¬ (i : Int) < (tl : Int) := by omega
        go_wp2_with fail
        go_ret2
        have htk : zs.take i = zs := List.take_of_length_le (by rw [← HML.out]; have := HFE.out; omega)
        have hll := ints_len hown.out
        rw [htk] at hll
        have hoo := hown.out
        rw [htk] at hoo
        refine ⟨a2, cap2, by rw [← hll]; rfl, ?_, below_step BD.out hbw.out BD.out.size⟩
        rw [← hll]; exact ints_mono hoo BD.out.size
  · have hq : (E != 0) = true := by simpa using e0
    rw [if_neg e0] at hzs
    subst hzs
    clear hr hE h
    go_enter Try.func15, Try.ntmps15
    go_wp2_with fail
    rw [← hw0]
    refine HK.mono ?_
    rintro e wa ⟨rfl, ha⟩
    have BA : Hid (Below w.heap.size w wa) := below_then b0 ha
    clear ha hw0 HK b0
    go_wp2_with fail
    go_ret2
    exact ⟨none, 0, rfl, World.ownsInts_nil _ _ _ _, BA.out⟩
end Go.Proofs.Ytmlnbnbgkpbjeaa
namespace Go.Proofs.Ytmlnbnbgkpbjeaa
open Go.RowKit Go.Maps Go.ChangeShapes

set_option maxHeartbeats 4000000 in
set_option maxRecDepth 100000 in
theorem RMissing_any {k r c q : Int} {N W : Nat} {x : Int} (h : Par k r c q N W x) (w : World) (ro : Option Addr) (rn rc : Nat) (A : Nat → Option Addr) (L C : Nat → Nat) (F : Nat → Nat → UInt8) (hr : Rw w ro rn A L C F) (E : Int) (hE : erR x N c rn L = E) (v : Int) (M : Int) (hM : erF E v = M) (zs : List Int) (hzs : (if M = 0 then dl (fun d => !hbv (hP N c L F) (hQ N c L F) v d) N else []) = zs) :
    Calls Try.prog 17 #[.agg #[.int .i64 k, .int .i64 r, .int .i64 c, .int .i64 q], .slice ro rn rc, .int .i64 v] w (AnsI w M zs) := by
  obtain ⟨w0, hw0⟩ : ∃ w0, w0 = w.alloc (.cells #[.int .i64 k, .int .i64 r, .int .i64 c, .int .i64 q] 23) := ⟨_, rfl⟩
  have b0 : Below w.heap.size w w0 := by rw [hw0]; exact below_alloc _ _
  have HK := RCheck_any h w0 ro rn rc A L C F (hr.below b0) E hE
  have L0 : Hid (∀ v, Below w0.heap.size w0 v → At w v w.heap.size #[.int .i64 k, .int .i64 r, .int .i64 c, .int .i64 q] 23) := fun v hv => (at_made (Below.refl _ _) hw0).below hv
  obtain ⟨i0, hi0, hz0, hz1, hz2⟩ := info_parts info3
  unfold AnsI
  by_cases e0 : E = 0
  · subst e0
    obtain ⟨rfl, rfl, hsz⟩ := erR_zero2 hE
    have hle := h.le
    have hNp : 1 ≤ rn := h.some rfl
    have hL : ∀ j, j < 2 * rn → L j ≤ 1000 := fun j hj => by have := sz_few h; rcases hsz j hj with e | e <;> omega
    have HVE := fun u => Version_any v u
    by_cases hv : 1 ≤ v ∧ v ≤ 1073741824
    · obtain rfl : M = 0 := by rw [← hM]; unfold erF; rw [if_pos rfl, if_pos hv]
      rw [if_pos rfl] at hzs
      have HVE := fun u => Version_any v u
      rw [show verB v = true from decide_eq_true hv] at HVE
      have HHO : Hid (∀ u b off d, Below w.heap.size w u → ro = some ⟨b, off, none⟩ → d < rn → Calls Try.prog 32 #[.agg #[.int .i64 k, .int .i64 r, .int .i64 c, .int .i64 q], .slice (some ⟨b, off, none⟩) rn rc, .int .i64 (d : Int), .int .i64 v] u fun e w' => e = .returned (.bool (hbv (hP rn c L F) (hQ rn c L F) v d)) ∧ Below u.heap.size u w') := fun u b off d hu hro hd => by
        obtain ⟨b', off', e, hcc⟩ := hr.at_ (by omega)
        rw [hro] at e
        simp only [Option.some.injEq, Addr.mk.injEq, and_true] at e
        obtain ⟨rfl, rfl⟩ := e
        have := holds_two h u b off rn rc d hd _ _ _ (F (2 * d)) _ _ _ (F (2 * d + 1)) (held (hcc d hd).1 hu) (held (hcc d hd).2 hu) ((hr.bec (2 * d) (by omega)).below hu) ((hr.bec (2 * d + 1) (by omega)).below hu) (hL _ (by omega)) (hL _ (by omega)) v _ _ rfl rfl
        rw [show hbv (hP rn c L F) (hQ rn c L F) v d = decide (hs rn c d (L (2 * d)) (F (2 * d)) = v ∨ hs rn c d (L (2 * d + 1)) (F (2 * d + 1)) = v) from decide_eq_decide.2 (hQ_or rn c L F d (by omega))]
        exact this
      obtain ⟨b, off, rfl, _⟩ := hr.at_ (by omega)
      clear hr hE h hsz hL hM hv
      generalize hP rn c L F = P at *
      generalize hQ rn c L F = Q at *
      have HZ : Hid (dl (fun d => !hbv P Q v d) rn = zs) := hzs
      clear hzs
      go_enter Try.func17, Try.ntmps17
      go_wp2_with fail
      rw [← hw0]
      refine HK.mono ?_
      rintro e wa ⟨rfl, ha⟩
      have BA : Hid (Below w.heap.size w wa) := below_then b0 ha
      have L1 : Hid (∀ v, Below wa.heap.size wa v → At w v w.heap.size #[.int .i64 k, .int .i64 r, .int .i64 c, .int .i64 q] 23) := fun v hv => L0.out v (below_then ha hv)
      clear ha hw0 HK b0
      go_wp2_with fail
      refine (HVE _).mono ?_
      rintro e wa' ⟨rfl, rfl⟩
      go_wp2_with fail
      go_loopw [9, 10] (fun l y wr => ∃ (i : Nat) (a2 : Option Addr) (n2 cap2 : Nat), i ≤ rn ∧ y = .int .i64 (i : Int) ∧ l = .slice a2 n2 cap2 ∧ n2 ≤ i ∧ Hid (wr.ownsInts wa'.heap.size 3 .i64 (.slice a2 n2 cap2) (dl (fun d => !hbv P Q v d) i)) ∧ Hid (Below wa'.heap.size wa' wr)) (fun _ y _ => rn - (intOf y).toNat)
      case atStart => exact ⟨0, none, 0, 0, Nat.zero_le _, rfl, rfl, Nat.le_refl _, World.ownsInts_nil _ _ _ _, Below.refl _ _⟩
      case round =>
        obtain ⟨i, a2, n2, cap2, hi, rfl, rfl, hn2, hown, hbw⟩ := hrel
        by_cases hlt : i < rn
        · have i1 : (0 : Int) ≤ (i : Int) := by omega
          have i2 : (i : Int) < (rn : Int) := by omega
          have pq := L1.out wr hbw.out
          have s0 := pq.cell (i := 0) rfl
          have s1 := pq.cell (i := 1) rfl
          have s2 := pq.cell (i := 2) rfl
          have s3 := pq.cell (i := 3) rfl
          clear pq
          have HX := HHO.out wr b off i (below_then BA.out hbw.out) (by trivial) hlt
          cases hb : hbv P Q v i
          · rw [hb] at HX
            go_wp2_with fail
            refine HX.mono ?_
            rintro e we ⟨rfl, hwe⟩
            have BE2 : Hid (Below wa'.heap.size wa' we) := below_step hbw.out hwe hbw.out.size
            have OE := ownsInts_below hown.out hwe
            clear hwe HX s0 s1 s2 s3
            have HLL : Hid (n2 = (dl (fun d => !hbv P Q v d) i).length) := ints_len OE
            have hl2 : (dl (fun d => !hbv P Q v d) i).length ≤ 32 := by rw [← HLL.out]; omega
            go_wp2_with (first
              | (at_builtin; refine wpList_append_own_at _ rfl _ _ 33 rfl wa'.heap.size 3 i0 (.int .i64 0) 1 8 Try.underlying33 hi0 hz0 hz1 hz2 rfl (by decide) _ _ _ rfl (OE.1.alloc _) ⟨we.heap.size, 0, none⟩ 1 1 [.int .i64 (i : Int)] rfl rfl (cell_one_new _ _ _) (ints_oneCell .i64 [(i : Int)]) (by unfold maxLen; omega) (by omega) (by have := BE2.out.size; simp; omega) ?_; intro v' w2 hown2 hgrow hnil hloc)
              | go_in)
            obtain ⟨a3, cap3, rfl⟩ := own_form hown2
            have hap := OE.appended hown2 (WalkArith.wf_i64 (by omega))
            have hll := HLL.out
            rw [← hll] at hap
            go_roundw
            case rel =>
              refine ⟨i + 1, a3, n2 + 1, cap3, by omega, by go_num, by rw [← hll], by omega, ?_, ?_⟩
              · show World.ownsInts _ _ _ _ _ _
                rw [dl, hb, if_pos (by rfl)]; exact hap
              · exact (b_alloc BE2.out _).grown hgrow (by have := BE2.out.size; simp; omega) (fun j hj => (OE.1.lt j hj).1)
            case measure => simp [intOf]; omega
          · rw [hb] at HX
            go_wp2_with fail
            refine HX.mono ?_
            rintro e we ⟨rfl, hwe⟩
            have BE2 : Hid (Below wa'.heap.size wa' we) := below_step hbw.out hwe hbw.out.size
            have OE : Hid (we.ownsInts wa'.heap.size 3 .i64 (.slice a2 n2 cap2) (dl (fun d => !hbv P Q v d) i)) := ownsInts_below hown.out hwe
            clear hwe HX s0 s1 s2 s3
            go_wp2_with fail
            go_roundw
            case rel =>
              refine ⟨i + 1, a2, n2, cap2, by omega, by go_num, rfl, by omega, ?_, BE2.out⟩
              show World.ownsInts _ _ _ _ _ _
              rw [dl, hb, if_neg (by decide)]; exact OE.out
            case measure => simp [intOf]; omega
        · have i2 : ¬ (i : Int) < (rn : Int) := by omega
          have HIN : Hid (i = rn) := by show _ = _; omega
          go_wp2_with fail
          go_ret2
          obtain rfl : i = rn := HIN.out
          obtain rfl : zs = dl (fun d => !hbv P Q v d) i := HZ.out.symm
          have hll := ints_len hown.out
          refine ⟨a2, cap2, by rw [← hll]; rfl, ?_, below_step BA.out hbw.out BA.out.size⟩
          rw [← hll]; exact ints_mono hown.out BA.out.size
    · obtain rfl : M = 2 := by rw [← hM]; unfold erF; rw [if_pos rfl, if_neg hv]
      rw [if_neg (by decide)] at hzs
      subst hzs
      rw [show verB v = false from decide_eq_false hv] at HVE
      clear hM hr hE h hv hsz hL
      go_enter Try.func17, Try.ntmps17
      go_wp2_with fail
      rw [← hw0]
      refine HK.mono ?_
      rintro e wa ⟨rfl, ha⟩
      have BA : Hid (Below w.heap.size w wa) := below_then b0 ha
      clear ha b0 hw0 HK
      go_wp2_with fail
      refine (HVE _).mono ?_
      rintro e wa' ⟨rfl, rfl⟩
      go_wp2_with fail
      go_ret2
      exact ⟨none, 0, rfl, World.ownsInts_nil _ _ _ _, BA.out⟩
  · have hq : (E != 0) = true := by simpa using e0
    obtain rfl : E = M := by rw [← hM]; unfold erF; rw [if_neg e0]
    rw [if_neg e0] at hzs
    subst hzs
    clear hM hr hE h
    go_enter Try.func17, Try.ntmps17
    go_wp2_with fail
    rw [← hw0]
    refine HK.mono ?_
    rintro e wa ⟨rfl, ha⟩
    have BA : Hid (Below w.heap.size w wa) := below_then b0 ha
    clear ha b0 hw0 HK
    go_wp2_with fail
    go_ret2
    exact ⟨none, 0, rfl, World.ownsInts_nil _ _ _ _, BA.out⟩
end Go.Proofs.Ytmlnbnbgkpbjeaa
