/- The winner, the runner, the losers, the drives that miss a version: the program's calls. -/
import Derived.Test.YtmlnbnbgkpbjeaaCnH
namespace Go.Proofs.Ytmlnbnbgkpbjeaa
open Go.RowKit Go.Maps Go.ChangeShapes

set_option maxHeartbeats 1000000 in
theorem Winner_any {k r c q : Int} {N W : Nat} {x : Int} (h : Par k r c q N W x) (w : World) (ro : Option Addr) (rn rc : Nat) (A : Nat → Option Addr) (L C : Nat → Nat) (F : Nat → Nat → UInt8) (hr : Rw w ro rn A L C F) (E : Int) (hE : erR x N c rn L = E) (y : Int) (hy : rdv E (wins k (hP N c L F) (hQ N c L F) N) 0 = y) (z : Bool) (hz : rdb E (wins k (hP N c L F) (hQ N c L F) N) 0 = z) :
    Calls Try.prog 10 #[.agg #[.int .i64 k, .int .i64 r, .int .i64 c, .int .i64 q], .slice ro rn rc] w fun e w' => e = .returned (.tuple #[.int .i64 y, .bool z, .int .i64 E]) ∧ Below w.heap.size w w' := by
  obtain ⟨w0, hw0⟩ : ∃ w0, w0 = w.alloc (.cells #[.int .i64 k, .int .i64 r, .int .i64 c, .int .i64 q] 23) := ⟨_, rfl⟩
  have b0 : Below w.heap.size w w0 := by rw [hw0]; exact below_alloc _ _
  have HH := readable_any h w0 ro rn rc A L C F (hr.below b0) E hE 0 (by omega) y hy z hz
  clear hr hE h hy hz
  go_enter Try.func10, Try.ntmps10
  go_wp2_with fail
  rw [← hw0]
  refine HH.mono ?_
  rintro e wa ⟨rfl, ha⟩
  have BA : Hid (Below w.heap.size w wa) := below_then b0 ha
  clear ha b0 hw0 HH
  go_wp2_with fail
  refine bodyPost_ret (v := .tuple #[.int .i64 y, .bool z, .int .i64 E]) (by simp [results, Try.results10, go_sem]) rfl ?_
  exact ⟨rfl, BA.out⟩
set_option maxHeartbeats 1000000 in
theorem Runner_any {k r c q : Int} {N W : Nat} {x : Int} (h : Par k r c q N W x) (w : World) (ro : Option Addr) (rn rc : Nat) (A : Nat → Option Addr) (L C : Nat → Nat) (F : Nat → Nat → UInt8) (hr : Rw w ro rn A L C F) (E : Int) (hE : erR x N c rn L = E) (y : Int) (hy : rdv E (wins k (hP N c L F) (hQ N c L F) N) 1 = y) (z : Bool) (hz : rdb E (wins k (hP N c L F) (hQ N c L F) N) 1 = z) :
    Calls Try.prog 12 #[.agg #[.int .i64 k, .int .i64 r, .int .i64 c, .int .i64 q], .slice ro rn rc] w fun e w' => e = .returned (.tuple #[.int .i64 y, .bool z, .int .i64 E]) ∧ Below w.heap.size w w' := by
  obtain ⟨w0, hw0⟩ : ∃ w0, w0 = w.alloc (.cells #[.int .i64 k, .int .i64 r, .int .i64 c, .int .i64 q] 23) := ⟨_, rfl⟩
  have b0 : Below w.heap.size w w0 := by rw [hw0]; exact below_alloc _ _
  have HH := readable_any h w0 ro rn rc A L C F (hr.below b0) E hE 1 (by omega) y hy z hz
  clear hr hE h hy hz
  go_enter Try.func12, Try.ntmps12
  go_wp2_with fail
  rw [← hw0]
  refine HH.mono ?_
  rintro e wa ⟨rfl, ha⟩
  have BA : Hid (Below w.heap.size w wa) := below_then b0 ha
  clear ha b0 hw0 HH
  go_wp2_with fail
  refine bodyPost_ret (v := .tuple #[.int .i64 y, .bool z, .int .i64 E]) (by simp [results, Try.results12, go_sem]) rfl ?_
  exact ⟨rfl, BA.out⟩
/-- A list of numbers of the call's own, and an error. -/
def AnsI (w : World) (E : Int) (zs : List Int) (e : Ending) (w' : World) : Prop :=
  ∃ a cap, e = .returned (.tuple #[.slice a (zs.length : Nat) cap, .int .i64 E]) ∧ w'.ownsInts w.heap.size 3 .i64 (.slice a zs.length cap) zs ∧ Below w.heap.size w w'
theorem ints_mono {w : World} {B B' : Nat} {v : Value} {zs : List Int} (h : w.ownsInts B 3 .i64 v zs) (hb : B' ≤ B) : w.ownsInts B' 3 .i64 v zs := ⟨row_mono h.1 hb, h.2⟩
theorem while_stop {p : Int → Bool} {l : List Int} : ∀ {i : Nat}, (∀ v, v ∈ l.take i → p v = true) → (∀ v, l[i]? = some v → p v = false) → l.takeWhile p = l.take i := by
  induction l with
  | nil => intro i _ _; simp
  | cons a l ih =>
    intro i h1 h2
    cases i with
    | zero =>
      have := h2 a rfl
      rw [List.takeWhile_cons, this]; rfl
    | succ i =>
      have := h1 a (by simp)
      rw [List.takeWhile_cons, this, List.take_succ_cons, ih (i := i) (fun v hv => h1 v (by simp [hv])) (fun v hv => h2 v (by simpa using hv))]; rfl
set_option maxHeartbeats 4000000 in
set_option maxRecDepth 100000 in
theorem Losers_any {k r c q : Int} {N W : Nat} {x : Int} (h : Par k r c q N W x) (w : World) (ro : Option Addr) (rn rc : Nat) (A : Nat → Option Addr) (L C : Nat → Nat) (F : Nat → Nat → UInt8) (hr : Rw w ro rn A L C F) (E : Int) (hE : erR x N c rn L = E) (zs : List Int) (hzs : (if E = 0 then lost k (hP N c L F) (hQ N c L F) N else []) = zs) :
    Calls Try.prog 14 #[.agg #[.int .i64 k, .int .i64 r, .int .i64 c, .int .i64 q], .slice ro rn rc] w (AnsI w E zs) := by
  obtain ⟨w0, hw0⟩ : ∃ w0, w0 = w.alloc (.cells #[.int .i64 k, .int .i64 r, .int .i64 c, .int .i64 q] 23) := ⟨_, rfl⟩
  have b0 : Below w.heap.size w w0 := by rw [hw0]; exact below_alloc _ _
  have HH := Tallies_any h w0 ro rn rc A L C F (hr.below b0) E hE
  unfold AnsTl at HH
  have hle := h.le
  have HB : Hid ((∀ i, 0 ≤ hP N c L F i ∧ hP N c L F i ≤ 1073741824) ∧ ∀ i, 0 ≤ hQ N c L F i ∧ hQ N c L F i ≤ 1073741824) := ⟨hP_bd N c L F, hQ_bd N c L F⟩
  clear hr hE h
  generalize hP N c L F = P at *
  generalize hQ N c L F = Q at *
  have HEN := fun v t1 t2 t3 t4 => enough_any v k r c q t1 t2 t3 t4
  obtain ⟨i0, hi0, hz0, hz1, hz2⟩ := info_parts info3
  unfold AnsI
  by_cases e0 : E = 0
  · subst e0
    rw [if_pos rfl] at HH hzs
    have HZ : Hid (lost k P Q N = zs) := hzs
    clear hzs
    go_enter Try.func14, Try.ntmps14
    go_wp2_with fail
    rw [← hw0]
    refine HH.mono ?_
    rintro e wa ⟨a, cap, ts, rfl, ht, hm, ha⟩
    have HT : Hid (Tal w0.heap.size wa a cap ts (dv P Q N)) := ht
    have HM : Hid (ts.map (fun t => t.1) = tvL P Q N) := hm
    have BA : Hid (Below w.heap.size w wa) := below_then b0 ha
    have L0 : Hid (∀ v, Below wa.heap.size wa v → At w v w.heap.size #[.int .i64 k, .int .i64 r, .int .i64 c, .int .i64 q] 23) := fun v hv => (at_made (Below.refl _ _) hw0).below (below_then ha hv)
    have hln : ts.length ≤ 32 := by
      have h1 := tvL_few P Q N
      rw [← hm, List.length_map] at h1; omega
    clear ht hm ha b0 hw0 HH
    go_wp2_with fail
    go_loopw [8, 22] (fun l y wr => ∃ (i : Nat) (a2 : Option Addr) (cap2 : Nat), i ≤ ts.length ∧ y = .int .i64 (i : Int) ∧ l = .slice a2 i cap2 ∧ Hid (wr.ownsInts wa.heap.size 3 .i64 (.slice a2 i cap2) ((tvL P Q N).take i)) ∧ Hid (∀ v, v ∈ (tvL P Q N).take i → (!enB k P Q N v) = true) ∧ Hid (Below wa.heap.size wa wr)) (fun _ y _ => ts.length - (intOf y).toNat)
    case atStart => exact ⟨0, none, 0, Nat.zero_le _, rfl, rfl, World.ownsInts_nil _ _ _ _, (fun v hv => absurd hv (by simp)), Below.refl _ _⟩
    case round =>
      obtain ⟨i, a2, cap2, hi, rfl, rfl, hown, hno, hbw⟩ := hrel
      by_cases hlt : i < ts.length
      · obtain ⟨g, rfl, _, _⟩ := HT.out.at_ (by omega)
        obtain ⟨t, htt⟩ : ∃ t, ts[i]? = some t := ⟨_, List.getElem?_eq_getElem hlt⟩
        have hv : (tvL P Q N)[i]? = some t.1 := by rw [← HM.out, List.getElem?_map, htt]; rfl
        have hl := HT.out.len htt
        have c0 : wr.cell? ⟨g, i * 2, none⟩ = some (.int .i64 t.1) := (hbw.out.cell (World.block_lt_of_cell? _ _ (HT.out.c0 htt))).trans (HT.out.c0 htt)
        have c1 : wr.cell? ⟨g, i * 2 + 1, none⟩ = some (.slice t.2.1 t.2.2.1 t.2.2.2) := (hbw.out.cell (World.block_lt_of_cell? _ _ (HT.out.c1 htt))).trans (HT.out.c1 htt)
        have i1 : (0 : Int) ≤ (i : Int) := by omega
        have i2 : (i : Int) < (ts.length : Int) := by omega
        obtain ⟨t0, ta, tn, tc⟩ := t
        simp only at c0 c1 hl hv
        obtain ⟨wd, hwd⟩ : ∃ wd, wd = wr.alloc (.cells #[.int .i64 t0, .slice ta tn tc] 40) := ⟨_, rfl⟩
        have BD : Hid (Below wa.heap.size wa wd) := by show Below _ _ _; rw [hwd]; exact b_alloc hbw.out _
        have LD : Hid (∀ v, Below wd.heap.size wd v → At w v wr.heap.size #[.int .i64 t0, .slice ta tn tc] 40) := fun v hv => (at_made (below_step BA.out hbw.out BA.out.size) hwd).below hv
        have OD : Hid (wd.ownsInts wa.heap.size 3 .i64 (.slice a2 i cap2) ((tvL P Q N).take i)) := by show World.ownsInts _ _ _ _ _ _; rw [hwd]; exact hown.out.alloc _
        have pq := L0.out wr hbw.out
        have s0 := fun o => (pq.alloc o).cell (i := 0) rfl
        have s1 := fun o => (pq.alloc o).cell (i := 1) rfl
        have s2 := fun o => (pq.alloc o).cell (i := 2) rfl
        have s3 := fun o => (pq.alloc o).cell (i := 3) rfl
        clear pq
        have hen : decide (k ≤ (tn : Int)) = enB k P Q N t0 := by unfold enB ct; rw [← hl]
        have HV : Hid ((tvL P Q N)[i]? = some t0) := hv
        have hwf : 0 ≤ t0 ∧ t0 ≤ 1073741824 := by
          obtain ⟨_, d, _, h2⟩ := mem_tvL.1 (List.mem_of_getElem? hv)
          rcases h2 with e | e
          · rw [← e]; exact HB.out.1 d
          · rw [← e]; exact HB.out.2 d
        clear hl hv htt
        cases hb : enB k P Q N t0
        · rw [hb] at hen
          have HX := HEN wd t0 ta tn tc
          rw [hen] at HX
          clear hen
          go_wp2_with fail
          rw [← hwd]
          clear hwd c0 c1
          refine HX.mono ?_
          rintro e we ⟨rfl, hwe⟩
          have BE : Hid (Below wd.heap.size wd we) := hwe
          have BE2 : Hid (Below wa.heap.size wa we) := below_step BD.out hwe BD.out.size
          have OE := ownsInts_below OD.out hwe
          clear hwe s0 s1 s2 s3 HX
          have pq := LD.out we BE.out
          have d0 := pq.cell (i := 0) rfl
          clear pq
          have HLL : Hid (i = ((tvL P Q N).take i).length) := ints_len OE
          have hl2 : ((tvL P Q N).take i).length ≤ 32 := by rw [← HLL.out]; omega
          go_wp2_with (first
            | (at_builtin; refine wpList_append_own_at _ rfl _ _ 33 rfl wa.heap.size 3 i0 (.int .i64 0) 1 8 Try.underlying33 hi0 hz0 hz1 hz2 rfl (by decide) _ _ _ rfl (OE.1.alloc _) ⟨we.heap.size, 0, none⟩ 1 1 [.int .i64 t0] rfl rfl (cell_one_new _ _ _) (ints_oneCell .i64 [t0]) (by unfold maxLen; omega) (by omega) (by have := BE2.out.size; simp; omega) ?_; intro v' w2 hown2 hgrow hnil hloc)
            | go_in)
          obtain ⟨a3, cap3, rfl⟩ := own_form hown2
          have hap := OE.appended hown2 (WalkArith.wf_i64 (by omega))
          have hll := HLL.out
          rw [← hll] at hap
          go_roundw
          case rel =>
            refine ⟨i + 1, a3, cap3, by omega, by go_num, by rw [← hll], ?_, fun v hv => ?_, ?_⟩
            · show World.ownsInts _ _ _ _ _ _
              rw [List.take_add_one, HV.out]; exact hap
            · rw [List.take_add_one, HV.out] at hv
              rcases List.mem_append.1 hv with hv | hv
              · exact hno.out v hv
              · obtain rfl : v = t0 := by simpa using hv
                rw [hb]; rfl
            · exact (b_alloc BE2.out _).grown hgrow (by have := BE2.out.size; simp; omega) (fun j hj => (OE.1.lt j hj).1)
          case measure => simp [intOf]; omega
        · rw [hb] at hen
          have HX := HEN wd t0 ta tn tc
          rw [hen] at HX
          clear hen
          obtain rfl : zs = (tvL P Q N).take i := by
            rw [← HZ.out]; exact while_stop hno.out fun v hv => by
              rw [HV.out] at hv; cases hv; rw [hb]; rfl
          go_wp2_with fail
          rw [← hwd]
          clear hwd c0 c1
          refine HX.mono ?_
          rintro e we ⟨rfl, hwe⟩
          have BE2 : Hid (Below wa.heap.size wa we) := below_step BD.out hwe BD.out.size
          have OE : Hid (we.ownsInts wa.heap.size 3 .i64 (.slice a2 i cap2) ((tvL P Q N).take i)) := ownsInts_below OD.out hwe
          clear hwe s0 s1 s2 s3 HX
          go_wp2_with fail
          go_ret2
          have hll := ints_len OE.out
          refine ⟨a2, cap2, by rw [← hll]; rfl, ?_, below_step BA.out BE2.out BA.out.size⟩
          rw [← hll]; exact ints_mono OE.out BA.out.size
      · obtain rfl : i = ts.length := by omega
        have htk : (tvL P Q N).take ts.length = tvL P Q N := by
          rw [show ts.length = (tvL P Q N).length by rw [← HM.out]; simp, List.take_length]
        obtain rfl : zs = (tvL P Q N).take ts.length := by
          rw [← HZ.out]; exact while_stop hno.out fun v hv => by
            rw [List.getElem?_eq_none (by rw [← HM.out]; simp)] at hv; cases hv
        go_wp2_with fail
        go_ret2
        have hll := ints_len hown.out
        refine ⟨a2, cap2, by rw [← hll]; rfl, ?_, below_step BA.out hbw.out BA.out.size⟩
        rw [← hll]; exact ints_mono hown.out BA.out.size
  · have hq : (E != 0) = true := by simpa using e0
    rw [if_neg e0] at HH hzs
    subst hzs
    go_enter Try.func14, Try.ntmps14
    go_wp2_with fail
    rw [← hw0]
    refine HH.mono ?_
    rintro e wa ⟨a, cap, ts, rfl, ht, hm, ha⟩
    have BA : Hid (Below w.heap.size w wa) := below_then b0 ha
    clear ht hm ha b0 hw0 HH
    go_wp2_with fail
    go_ret2
    exact ⟨none, 0, rfl, World.ownsInts_nil _ _ _ _, BA.out⟩
end Go.Proofs.Ytmlnbnbgkpbjeaa
