/- The winner, the runner, the losers, the drives that miss a version: the program's answers. -/
import Derived.Test.YtmlnbnbgkpbjeaaCnG
namespace Go.Proofs.Ytmlnbnbgkpbjeaa
open Go.RowKit Go.Maps Go.ChangeShapes

/-- A place among those that count. -/
def rdv (E : Int) (ws : List Int) (p : Nat) : Int := if E = 0 then ws.getD p 0 else 0
def rdb (E : Int) (ws : List Int) (p : Nat) : Bool := decide (E = 0 ∧ p < ws.length)
set_option maxHeartbeats 4000000 in
set_option maxRecDepth 100000 in
theorem readable_any {k r c q : Int} {N W : Nat} {x : Int} (h : Par k r c q N W x) (w : World) (ro : Option Addr) (rn rc : Nat) (A : Nat → Option Addr) (L C : Nat → Nat) (F : Nat → Nat → UInt8) (hr : Rw w ro rn A L C F) (E : Int) (hE : erR x N c rn L = E) (pl : Nat) (hpl : pl ≤ 1) (y : Int) (hy : rdv E (wins k (hP N c L F) (hQ N c L F) N) pl = y) (z : Bool) (hz : rdb E (wins k (hP N c L F) (hQ N c L F) N) pl = z) :
    Calls Try.prog 27 #[.agg #[.int .i64 k, .int .i64 r, .int .i64 c, .int .i64 q], .slice ro rn rc, .int .i64 (pl : Int)] w fun e w' => e = .returned (.tuple #[.int .i64 y, .bool z, .int .i64 E]) ∧ Below w.heap.size w w' := by
  obtain ⟨w0, hw0⟩ : ∃ w0, w0 = w.alloc (.cells #[.int .i64 k, .int .i64 r, .int .i64 c, .int .i64 q] 23) := ⟨_, rfl⟩
  have b0 : Below w.heap.size w w0 := by rw [hw0]; exact below_alloc _ _
  have HH := Tallies_any h w0 ro rn rc A L C F (hr.below b0) E hE
  unfold AnsTl at HH
  have hle := h.le
  clear hr hE h
  generalize hP N c L F = P at *
  generalize hQ N c L F = Q at *
  have HEN := fun v t1 t2 t3 t4 => enough_any v k r c q t1 t2 t3 t4
  by_cases e0 : E = 0
  · subst e0
    rw [if_pos rfl] at HH
    have HY : Hid (rdv 0 (wins k P Q N) pl = y ∧ rdb 0 (wins k P Q N) pl = z) := ⟨hy, hz⟩
    clear hy hz
    go_enter Try.func27, Try.ntmps27
    go_wp2_with fail
    rw [← hw0]
    refine HH.mono ?_
    rintro e wa ⟨a, cap, ts, rfl, ht, hm, ha⟩
    have HT : Hid (Tal w0.heap.size wa a cap ts (dv P Q N)) := ht
    have HM : Hid (ts.map (fun t => t.1) = tvL P Q N) := hm
    have BA : Hid (Below w.heap.size w wa) := below_then b0 ha
    have L0 : Hid (∀ v, Below wa.heap.size wa v → At w v w.heap.size #[.int .i64 k, .int .i64 r, .int .i64 c, .int .i64 q] 23) := fun v hv => (at_made (Below.refl _ _) hw0).below (below_then ha hv)
    have hln : ts.length ≤ 32 := by
      have h1 := tvL_few P Q N
      rw [← hm, List.length_map] at h1; omega
    clear ht hm ha b0 hw0 HH
    go_wp2_with fail
    go_loopw [2, 24] (fun p y wr => ∃ i q : Nat, i ≤ ts.length ∧ y = .int .i64 (i : Int) ∧ p = .int .i64 (q : Int) ∧ q ≤ 1 ∧ Hid (q + (((tvL P Q N).take i).filter (enB k P Q N)).length = pl) ∧ Hid (Below wa.heap.size wa wr)) (fun _ y _ => ts.length - (intOf y).toNat)
    case atStart => exact ⟨0, pl, Nat.zero_le _, rfl, rfl, hpl, (by show pl + _ = pl; simp), Below.refl _ _⟩
    case round =>
      obtain ⟨i, q, hi, rfl, rfl, hq1, hq, hbw⟩ := hrel
      by_cases hlt : i < ts.length
      · obtain ⟨g, rfl, _, _⟩ := HT.out.at_ (by omega)
        obtain ⟨t, htt⟩ : ∃ t, ts[i]? = some t := ⟨_, List.getElem?_eq_getElem hlt⟩
        have hv : (tvL P Q N)[i]? = some t.1 := by rw [← HM.out, List.getElem?_map, htt]; rfl
        have hl := HT.out.len htt
        have c0 : wr.cell? ⟨g, i * 2, none⟩ = some (.int .i64 t.1) := held (HT.out.c0 htt) hbw.out
        have c1 : wr.cell? ⟨g, i * 2 + 1, none⟩ = some (.slice t.2.1 t.2.2.1 t.2.2.2) := held (HT.out.c1 htt) hbw.out
        have i1 : (0 : Int) ≤ (i : Int) := by omega
        have i2 : (i : Int) < (ts.length : Int) := by omega
        obtain ⟨t0, ta, tn, tc⟩ := t
        simp only at c0 c1 hl hv
        obtain ⟨wd, hwd⟩ : ∃ wd, wd = wr.alloc (.cells #[.int .i64 t0, .slice ta tn tc] 40) := ⟨_, rfl⟩
        have BD : Hid (Below wa.heap.size wa wd) := by show Below _ _ _; rw [hwd]; exact b_alloc hbw.out _
        have LD : Hid (∀ v, Below wd.heap.size wd v → At w v wr.heap.size #[.int .i64 t0, .slice ta tn tc] 40) := fun v hv => (at_made (below_then BA.out hbw.out) hwd).below hv
        have pq := L0.out wr hbw.out
        have s0 := fun o => (pq.alloc o).cell (i := 0) rfl
        have s1 := fun o => (pq.alloc o).cell (i := 1) rfl
        have s2 := fun o => (pq.alloc o).cell (i := 2) rfl
        have s3 := fun o => (pq.alloc o).cell (i := 3) rfl
        clear pq
        have hen : decide (k ≤ (tn : Int)) = enB k P Q N t0 := by unfold enB ct; rw [← hl]
        have HV : Hid ((tvL P Q N)[i]? = some t0) := hv
        have HI : Hid (ts[i]? = some (t0, ta, tn, tc)) := htt
        clear hl hv htt
        cases hb : enB k P Q N t0
        · rw [hb] at hen
          have HX := HEN wd t0 ta tn tc
          rw [hen] at HX
          clear hen
          go_wp2_with fail
          rw [← hwd]
          clear hwd c0 c1
          refine HX.mono ?_
          rintro e we ⟨rfl, hwe⟩
          have BE : Hid (Below wd.heap.size wd we) := hwe
          clear hwe s0 s1 s2 s3 HX
          go_wp2_with fail
          go_roundw
          case rel =>
            refine ⟨i + 1, q, by omega, by go_num, rfl, hq1, ?_, below_then BD.out BE.out⟩
            show q + _ = pl
            rw [take_step HV.out, hb, if_neg (by decide)]; exact hq.out
          case measure => simp [intOf]; omega
        · rw [hb] at hen
          have HX := HEN wd t0 ta tn tc
          rw [hen] at HX
          clear hen
          by_cases q0 : q = 0
          · subst q0
            go_wp2_with fail
            rw [← hwd]
            clear hwd c0 c1
            refine HX.mono ?_
            rintro e we ⟨rfl, hwe⟩
            have BE : Hid (Below wd.heap.size wd we) := hwe
            clear hwe s0 s1 s2 s3 HX
            have pq := LD.out we BE.out
            have d0 := pq.cell (i := 0) rfl
            clear pq
            go_wp2_with fail
            refine bodyPost_ret (v := .tuple #[.int .i64 t0, .bool true, .int .i64 0]) (by simp [results, Try.results27, go_sem]) rfl ?_
            have hw : (wins k P Q N)[pl]? = some t0 := by
              rw [← hq.out, Nat.zero_add]; exact win_hit HV.out hb
            have e1 : y = t0 := by
              rw [← HY.out.1]; unfold rdv; rw [if_pos rfl, List.getD_eq_getElem?_getD, hw]; rfl
            have e2 : z = true := by
              rw [← HY.out.2]; exact decide_eq_true ⟨rfl, (List.getElem?_eq_some_iff.1 hw).1⟩
            rw [e1, e2]
            exact ⟨rfl, below_then (below_then BA.out BD.out) BE.out⟩
          · obtain rfl : q = 1 := by omega
            go_wp2_with fail
            rw [← hwd]
            clear hwd c0 c1
            refine HX.mono ?_
            rintro e we ⟨rfl, hwe⟩
            have BE : Hid (Below wd.heap.size wd we) := hwe
            clear hwe s0 s1 s2 s3 HX
            go_wp2_with fail
            go_roundw
            case rel =>
              refine ⟨i + 1, 0, by omega, by go_num, rfl, by omega, ?_, below_then BD.out BE.out⟩
              show 0 + _ = pl
              rw [take_step HV.out, hb, if_pos rfl, ← hq.out]; omega
            case measure => simp [intOf]; omega
      · obtain rfl : i = ts.length := by omega
        go_wp2_with fail
        refine bodyPost_ret (v := .tuple #[.int .i64 0, .bool false, .int .i64 0]) (by simp [results, Try.results27, go_sem]) rfl ?_
        have hw : (wins k P Q N).length ≤ pl := by
          have := hq.out
          rw [← HM.out, show ts.length = (ts.map (fun t => t.1)).length by simp, List.take_length, HM.out] at this
          show ((tvL P Q N).filter _).length ≤ pl
          omega
        have e1 : y = 0 := by
          rw [← HY.out.1]; unfold rdv; rw [if_pos rfl, List.getD_eq_getElem?_getD, List.getElem?_eq_none hw]; rfl
        have e2 : z = false := by
          rw [← HY.out.2]; exact decide_eq_false fun a => by have := a.2; omega
        rw [e1, e2]
        exact ⟨rfl, below_then BA.out hbw.out⟩
  · have hq : (E != 0) = true := by simpa using e0
    rw [if_neg e0] at HH
    have e1 : y = 0 := by rw [← hy]; exact if_neg e0
    have e2 : z = false := by rw [← hz]; exact decide_eq_false fun a => e0 a.1
    subst e1 e2
    clear hy hz
    go_enter Try.func27, Try.ntmps27
    go_wp2_with fail
    rw [← hw0]
    refine HH.mono ?_
    rintro e wa ⟨a, cap, ts, rfl, ht, hm, ha⟩
    have BA : Hid (Below w.heap.size w wa) := below_then b0 ha
    clear ht hm ha b0 hw0 HH
    go_wp2_with fail
    refine bodyPost_ret (v := .tuple #[.int .i64 0, .bool false, .int .i64 E]) (by simp [results, Try.results27, go_sem]) rfl ?_
    exact ⟨rfl, BA.out⟩
end Go.Proofs.Ytmlnbnbgkpbjeaa
