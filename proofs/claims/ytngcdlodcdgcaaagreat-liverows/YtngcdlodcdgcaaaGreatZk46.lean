import Derived.Test.YtngcdlodcdgcaaaGreatZk45
namespace Go.Proofs.YtngcdlodcdgcaaaGreat.Cn
open Go.RowKit Go.Maps Go.ChangeShapes
theorem Tal.mono {B B' : Nat} {w : World} {a : Option Addr} {cap : Nat} {ts : List Tly} {f : Int -> List Int} (h : Tal B w a cap ts f) (hb : B' <= B) : Tal B' w a cap ts f := ⟨row_mono h.row hb, fun t ht => ⟨row_mono (h.cel t ht).1 hb, (h.cel t ht).2⟩, h.far⟩
theorem tal_nil (B : Nat) (w : World) (f : Int -> List Int) : Tal B w none 0 [] f := ⟨World.ownsRow_nil _ _ _ _, fun t ht => absurd ht (by simp), List.Pairwise.nil⟩
theorem Tal.at_ {B : Nat} {w : World} {a : Option Addr} {cap : Nat} {ts : List Tly} {f : Int -> List Int} (h : Tal B w a cap ts f) (hn : 0 < ts.length) : ∃ g, a = some ⟨g, 0, none⟩ /\ B <= g /\ g < w.heap.size := by
  rcases h.row.2 with ⟨_, h2⟩ | ⟨g, cp, cur, h2, h3, h4, _⟩
  · omega
  · simp only [Value.slice.injEq] at h2
    exact ⟨g, h2.1, h3, (Array.getElem?_eq_some_iff.1 h4).1⟩
theorem Tal.c0 {B : Nat} {w : World} {g cap : Nat} {ts : List Tly} {f : Int -> List Int} (h : Tal B w (some ⟨g, 0, none⟩) cap ts f) {i : Nat} {t : Tly} (hi : ts[i]? = some t) : w.cell? ⟨g, i * 2, none⟩ = some (.int .i64 t.1) := by
  have hl := (List.getElem?_eq_some_iff.1 hi).1
  rw [World.ownsRow.cellAt h.row (i * 2) (by omega), tF_0 hi]
theorem Tal.c1 {B : Nat} {w : World} {g cap : Nat} {ts : List Tly} {f : Int -> List Int} (h : Tal B w (some ⟨g, 0, none⟩) cap ts f) {i : Nat} {t : Tly} (hi : ts[i]? = some t) : w.cell? ⟨g, i * 2 + 1, none⟩ = some (.slice t.2.1 t.2.2.1 t.2.2.2) := by
  have hl := (List.getElem?_eq_some_iff.1 hi).1
  rw [World.ownsRow.cellAt h.row (i * 2 + 1) (by omega), tF_1 hi]
theorem ints_len {w : World} {B : Nat} {e : TypeId} {q : IntKind} {a : Option Addr} {n cap : Nat} {zs : List Int} (h : w.ownsInts B e q (.slice a n cap) zs) : n = zs.length := by
  rcases h.1.2 with ⟨h2, h3⟩ | ⟨g, cp, cur, h2, _⟩
  · simp only [Value.slice.injEq] at h2; omega
  · simp only [Value.slice.injEq] at h2; exact h2.2.1
theorem Tal.len {B : Nat} {w : World} {a : Option Addr} {cap : Nat} {ts : List Tly} {f : Int -> List Int} (h : Tal B w a cap ts f) {i : Nat} {t : Tly} (hi : ts[i]? = some t) : t.2.2.1 = (f t.1).length := ints_len (h.cel t (List.mem_of_getElem? hi))
def AnsTl (w : World) (E : Int) (P Q : Nat -> Int) (n : Nat) (e : Ending) (w' : World) : Prop :=
  ∃ a cap ts, e = .returned (.tuple #[.slice a (ts.length : Nat) cap, .int .i64 E]) /\ Tal w.heap.size w' a cap ts (dv P Q n) /\ ts.map (fun t => t.1) = (if E = 0 then tvL P Q n else []) /\ Below w.heap.size w w'
set_option maxHeartbeats 4000000 in
set_option maxRecDepth 100000 in
theorem Tallies_any {k r c q : Int} {N W : Nat} {x : Int} (h : Par k r c q N W x) (w : World) (ro : Option Addr) (rn rc : Nat) (A : Nat -> Option Addr) (L C : Nat -> Nat) (F : Nat -> Nat -> UInt8) (hr : Rw w ro rn A L C F) (E : Int) (hE : erR x N c rn L = E) :
    Calls Tryz.prog 127 #[.agg #[.int .i64 k, .int .i64 r, .int .i64 c, .int .i64 q], .slice ro rn rc] w (AnsTl w E (hP N c L F) (hQ N c L F) N) := by
  obtain ⟨w0, hw0⟩ : ∃ w0, w0 = w.alloc (.cells #[.int .i64 k, .int .i64 r, .int .i64 c, .int .i64 q] 23) := ⟨_, rfl⟩
  have b0 : Below w.heap.size w w0 := by rw [hw0]; exact below_alloc _ _
  have HH := holdings_any h w0 ro rn rc A L C F (hr.below b0) E hE
  have hle := h.le
  have HB : Hid ((∀ i, 0 <= hP N c L F i /\ hP N c L F i <= 1073741824) /\ (∀ i, 0 <= hQ N c L F i /\ hQ N c L F i <= 1073741824) /\ ∀ i, hQ N c L F i = 0 \/ hQ N c L F i ≠ hP N c L F i) := ⟨hP_bd N c L F, hQ_bd N c L F, hPQ N c L F⟩
  unfold AnsH at HH
  unfold AnsTl
  clear hr hE h
  generalize hP N c L F = P at *
  generalize hQ N c L F = Q at *
  by_cases e0 : E = 0
  · subst e0
    rw [show lenE 0 N = N from rfl] at HH
    rw [if_pos rfl]
    go_enter Tryz.func127, Tryz.ntmps127
    go_wp2_with fail
    rw [<- hw0]
    refine HH.mono ?_
    rintro e wa ⟨a, cap, rfl, hh, ha⟩
    have BA : Hid (Below w.heap.size w wa) := below_then b0 ha
    have HO := holders_any wa a N cap P Q hh hle (fun i _ => HB.out.1 i) (fun i _ => HB.out.2.1 i) (fun i _ => HB.out.2.2 i)
    clear hh ha b0 hw0 HH
    go_wp2_with fail
    refine HO.mono ?_
    rintro e wb ⟨D, m, rfl, hg, hm, hgd, hb⟩
    have BB : Hid (Below wa.heap.size wa wb) := hb
    have hlt : wa.heap.size < wb.heap.size := by
      obtain ⟨es, clock, h1, _⟩ := hg
      exact (Array.getElem?_eq_some_iff.1 h1).1
    have hfb : ∀ x, dv P Q N x ≠ [] -> 0 <= x /\ x <= 1073741824 := fun x hx => by
      obtain ⟨y, hy⟩ := List.exists_mem_of_ne_nil _ hx
      obtain ⟨d, h1, h2, _⟩ := mem_dl.1 hy
      rcases of_decide_eq_true h2 with e | e
      · rw [<- e]; exact HB.out.1 d
      · rw [<- e]; exact HB.out.2.1 d
    have HS := sorted_any wb (wa.heap.size + 1) wa.heap.size m D _ hg hgd hfb hm (by omega)
    clear hg hgd hfb hm hb HO
    go_wp2_with fail
    refine HS.mono ?_
    rintro e wc ⟨a2, cap2, ts, rfl, ht, hfall, hmem, hc⟩
    have HT : Hid (Tal (wa.heap.size + 1) wc a2 cap2 ts (dv P Q N) /\ ts.map (fun t => t.1) = tvL P Q N /\ Below wb.heap.size wb wc) := ⟨ht, fall_eq hfall (tvL_fall P Q N) (fun v => (hmem v).trans mem_tv.symm), hc⟩
    clear ht hfall hmem hc HS
    go_wp2_with fail
    go_ret2
    exact ⟨a2, cap2, ts, rfl, HT.out.1.mono (by have := BA.out.size; omega), HT.out.2.1, below_then (below_then BA.out BB.out) HT.out.2.2⟩
  · have hq : (E != 0) = true := by simpa using e0
    rw [show lenE E N = 0 from if_neg e0] at HH
    rw [if_neg e0]
    go_enter Tryz.func127, Tryz.ntmps127
    go_wp2_with fail
    rw [<- hw0]
    refine HH.mono ?_
    rintro e wa ⟨a, cap, rfl, hh, ha⟩
    have BA : Hid (Below w.heap.size w wa) := below_then b0 ha
    clear hh ha b0 hw0 HH
    go_wp2_with fail
    go_ret2
    exact ⟨none, 0, [], rfl, tal_nil _ _ _, rfl, BA.out⟩
set_option maxHeartbeats 400000 in
theorem enough_any (w : World) (k r c q v : Int) (a : Option Addr) (n cp : Nat) :
    Calls Tryz.prog 128 #[.agg #[.int .i64 k, .int .i64 r, .int .i64 c, .int .i64 q], .agg #[.int .i64 v, .slice a n cp]] w fun e w' => e = .returned (.bool (decide (k <= (n : Int)))) /\ Below w.heap.size w w' := by
  go_enter Tryz.func128, Tryz.ntmps128
  go_wp2
  go_ret
  exact ⟨rfl, b_alloc (below_alloc _ _) _⟩
theorem win_hit {p : Int -> Bool} {l : List Int} {i : Nat} {v : Int} (h : l[i]? = some v) (hp : p v = true) : (l.filter p)[((l.take i).filter p).length]? = some v := by
  have hi := (List.getElem?_eq_some_iff.1 h).1
  have hv := (List.getElem?_eq_some_iff.1 h).2
  have e : l.take i ++ v :: l.drop (i + 1) = l := by
    have e1 := List.take_append_drop i l
    rw [List.drop_eq_getElem_cons hi, hv] at e1
    exact e1
  have e2 : l.filter p = (l.take i).filter p ++ v :: (l.drop (i + 1)).filter p := by
    rw [<- List.filter_cons_of_pos hp, <- List.filter_append, e]
  rw [e2, List.getElem?_append_right (Nat.le_refl _)]
  simp
theorem take_step {p : Int -> Bool} {l : List Int} {i : Nat} {v : Int} (h : l[i]? = some v) : ((l.take (i + 1)).filter p).length = ((l.take i).filter p).length + (if p v = true then 1 else 0) := by
  rw [List.take_add_one, h, List.filter_append, List.length_append]
  congr 1
  cases hp : p v <;> simp [hp]
end Go.Proofs.YtngcdlodcdgcaaaGreat.Cn
namespace Go.Proofs.YtngcdlodcdgcaaaGreat.Cn
open Go.RowKit Go.Maps Go.ChangeShapes
def rdv (E : Int) (ws : List Int) (p : Nat) : Int := if E = 0 then ws.getD p 0 else 0
def rdb (E : Int) (ws : List Int) (p : Nat) : Bool := decide (E = 0 /\ p < ws.length)
set_option maxHeartbeats 4000000 in
set_option maxRecDepth 100000 in
theorem readable_any {k r c q : Int} {N W : Nat} {x : Int} (h : Par k r c q N W x) (w : World) (ro : Option Addr) (rn rc : Nat) (A : Nat -> Option Addr) (L C : Nat -> Nat) (F : Nat -> Nat -> UInt8) (hr : Rw w ro rn A L C F) (E : Int) (hE : erR x N c rn L = E) (pl : Nat) (hpl : pl <= 1) (y : Int) (hy : rdv E (wins k (hP N c L F) (hQ N c L F) N) pl = y) (z : Bool) (hz : rdb E (wins k (hP N c L F) (hQ N c L F) N) pl = z) :
    Calls Tryz.prog 113 #[.agg #[.int .i64 k, .int .i64 r, .int .i64 c, .int .i64 q], .slice ro rn rc, .int .i64 (pl : Int)] w fun e w' => e = .returned (.tuple #[.int .i64 y, .bool z, .int .i64 E]) /\ Below w.heap.size w w' := by
  obtain ⟨w0, hw0⟩ : ∃ w0, w0 = w.alloc (.cells #[.int .i64 k, .int .i64 r, .int .i64 c, .int .i64 q] 23) := ⟨_, rfl⟩
  have b0 : Below w.heap.size w w0 := by rw [hw0]; exact below_alloc _ _
  have HH := Tallies_any h w0 ro rn rc A L C F (hr.below b0) E hE
  unfold AnsTl at HH
  have hle := h.le
  clear hr hE h
  generalize hP N c L F = P at *
  generalize hQ N c L F = Q at *
  have HEN := fun v t1 t2 t3 t4 => enough_any v k r c q t1 t2 t3 t4
  by_cases e0 : E = 0
  · subst e0
    rw [if_pos rfl] at HH
    have HY : Hid (rdv 0 (wins k P Q N) pl = y /\ rdb 0 (wins k P Q N) pl = z) := ⟨hy, hz⟩
    clear hy hz
    go_enter Tryz.func113, Tryz.ntmps113
    go_wp2_with fail
    rw [<- hw0]
    refine HH.mono ?_
    rintro e wa ⟨a, cap, ts, rfl, ht, hm, ha⟩
    have HT : Hid (Tal w0.heap.size wa a cap ts (dv P Q N)) := ht
    have HM : Hid (ts.map (fun t => t.1) = tvL P Q N) := hm
    have BA : Hid (Below w.heap.size w wa) := below_then b0 ha
    have L0 : Hid (∀ v, Below wa.heap.size wa v -> At w v w.heap.size #[.int .i64 k, .int .i64 r, .int .i64 c, .int .i64 q] 23) := fun v hv => (at_made (Below.refl _ _) hw0).below (below_then ha hv)
    have hln : ts.length <= 32 := by
      have h1 := tvL_few P Q N
      rw [<- hm, List.length_map] at h1; omega
    clear ht hm ha b0 hw0 HH
    go_wp2_with fail
    go_loopw [2, 24] (fun p y wr => ∃ i q : Nat, i <= ts.length /\ y = .int .i64 (i : Int) /\ p = .int .i64 (q : Int) /\ q <= 1 /\ Hid (q + (((tvL P Q N).take i).filter (enB k P Q N)).length = pl) /\ Hid (Below wa.heap.size wa wr)) (fun _ y _ => ts.length - (intOf y).toNat)
    case atStart => exact ⟨0, pl, Nat.zero_le _, rfl, rfl, hpl, (by show pl + _ = pl; simp), Below.refl _ _⟩
    case round =>
      obtain ⟨i, q, hi, rfl, rfl, hq1, hq, hbw⟩ := hrel
      by_cases hlt : i < ts.length
      · obtain ⟨g, rfl, _, _⟩ := HT.out.at_ (by omega)
        obtain ⟨t, htt⟩ : ∃ t, ts[i]? = some t := ⟨_, List.getElem?_eq_getElem hlt⟩
        have hv : (tvL P Q N)[i]? = some t.1 := by rw [<- HM.out, List.getElem?_map, htt]; rfl
        have hl := HT.out.len htt
        have c0 : wr.cell? ⟨g, i * 2, none⟩ = some (.int .i64 t.1) := held (HT.out.c0 htt) hbw.out
        have c1 : wr.cell? ⟨g, i * 2 + 1, none⟩ = some (.slice t.2.1 t.2.2.1 t.2.2.2) := held (HT.out.c1 htt) hbw.out
        have i1 : (0 : Int) <= (i : Int) := by omega
        have i2 : (i : Int) < (ts.length : Int) := by omega
        obtain ⟨t0, ta, tn, tc⟩ := t
        simp only at c0 c1 hl hv
        obtain ⟨wd, hwd⟩ : ∃ wd, wd = wr.alloc (.cells #[.int .i64 t0, .slice ta tn tc] 206) := ⟨_, rfl⟩
        have BD : Hid (Below wa.heap.size wa wd) := by show Below _ _ _; rw [hwd]; exact b_alloc hbw.out _
        have LD : Hid (∀ v, Below wd.heap.size wd v -> At w v wr.heap.size #[.int .i64 t0, .slice ta tn tc] 206) := fun v hv => (at_made (below_then BA.out hbw.out) hwd).below hv
        have pq := L0.out wr hbw.out
        have s0 := fun o => (pq.alloc o).cell (i := 0) rfl
        have s1 := fun o => (pq.alloc o).cell (i := 1) rfl
        have s2 := fun o => (pq.alloc o).cell (i := 2) rfl
        have s3 := fun o => (pq.alloc o).cell (i := 3) rfl
        clear pq
        have hen : decide (k <= (tn : Int)) = enB k P Q N t0 := by unfold enB ct; rw [<- hl]
        have HV : Hid ((tvL P Q N)[i]? = some t0) := hv
        have HI : Hid (ts[i]? = some (t0, ta, tn, tc)) := htt
        clear hl hv htt
        cases hb : enB k P Q N t0
        · rw [hb] at hen
          have HX := HEN wd t0 ta tn tc
          rw [hen] at HX
          clear hen
          go_wp2_with fail
          rw [<- hwd]
          clear hwd c0 c1
          refine HX.mono ?_
          rintro e we ⟨rfl, hwe⟩
          have BE : Hid (Below wd.heap.size wd we) := hwe
          clear hwe s0 s1 s2 s3 HX
          go_wp2_with fail
          go_roundw
          case rel =>
            refine ⟨i + 1, q, by omega, by go_num, rfl, hq1, ?_, below_then BD.out BE.out⟩
            show q + _ = pl
            rw [take_step HV.out, hb, if_neg (by decide)]; exact hq.out
          case measure => simp [intOf]; omega
        · rw [hb] at hen
          have HX := HEN wd t0 ta tn tc
          rw [hen] at HX
          clear hen
          by_cases q0 : q = 0
          · subst q0
            go_wp2_with fail
            rw [<- hwd]
            clear hwd c0 c1
            refine HX.mono ?_
            rintro e we ⟨rfl, hwe⟩
            have BE : Hid (Below wd.heap.size wd we) := hwe
            clear hwe s0 s1 s2 s3 HX
            have pq := LD.out we BE.out
            have d0 := pq.cell (i := 0) rfl
            clear pq
            go_wp2_with fail
            refine bodyPost_ret (v := .tuple #[.int .i64 t0, .bool true, .int .i64 0]) (by simp [results, Tryz.results113, go_sem]) rfl ?_
            have hw : (wins k P Q N)[pl]? = some t0 := by
              rw [<- hq.out, Nat.zero_add]; exact win_hit HV.out hb
            have e1 : y = t0 := by
              rw [<- HY.out.1]; unfold rdv; rw [if_pos rfl, List.getD_eq_getElem?_getD, hw]; rfl
            have e2 : z = true := by
              rw [<- HY.out.2]; exact decide_eq_true ⟨rfl, (List.getElem?_eq_some_iff.1 hw).1⟩
            rw [e1, e2]
            exact ⟨rfl, below_then (below_then BA.out BD.out) BE.out⟩
          · obtain rfl : q = 1 := by omega
            go_wp2_with fail
            rw [<- hwd]
            clear hwd c0 c1
            refine HX.mono ?_
            rintro e we ⟨rfl, hwe⟩
            have BE : Hid (Below wd.heap.size wd we) := hwe
            clear hwe s0 s1 s2 s3 HX
            go_wp2_with fail
            go_roundw
            case rel =>
              refine ⟨i + 1, 0, by omega, by go_num, rfl, by omega, ?_, below_then BD.out BE.out⟩
              show 0 + _ = pl
              rw [take_step HV.out, hb, if_pos rfl, <- hq.out]; omega
            case measure => simp [intOf]; omega
      · obtain rfl : i = ts.length := by omega
        go_wp2_with fail
        refine bodyPost_ret (v := .tuple #[.int .i64 0, .bool false, .int .i64 0]) (by simp [results, Tryz.results113, go_sem]) rfl ?_
        have hw : (wins k P Q N).length <= pl := by
          have := hq.out
          rw [<- HM.out, show ts.length = (ts.map (fun t => t.1)).length by simp, List.take_length, HM.out] at this
          show ((tvL P Q N).filter _).length <= pl
          omega
        have e1 : y = 0 := by
          rw [<- HY.out.1]; unfold rdv; rw [if_pos rfl, List.getD_eq_getElem?_getD, List.getElem?_eq_none hw]; rfl
        have e2 : z = false := by
          rw [<- HY.out.2]; exact decide_eq_false fun a => by have := a.2; omega
        rw [e1, e2]
        exact ⟨rfl, below_then BA.out hbw.out⟩
  · have hq : (E != 0) = true := by simpa using e0
    rw [if_neg e0] at HH
    have e1 : y = 0 := by rw [<- hy]; exact if_neg e0
    have e2 : z = false := by rw [<- hz]; exact decide_eq_false fun a => e0 a.1
    subst e1 e2
    clear hy hz
    go_enter Tryz.func113, Tryz.ntmps113
    go_wp2_with fail
    rw [<- hw0]
    refine HH.mono ?_
    rintro e wa ⟨a, cap, ts, rfl, ht, hm, ha⟩
    have BA : Hid (Below w.heap.size w wa) := below_then b0 ha
    clear ht hm ha b0 hw0 HH
    go_wp2_with fail
    refine bodyPost_ret (v := .tuple #[.int .i64 0, .bool false, .int .i64 E]) (by simp [results, Tryz.results113, go_sem]) rfl ?_
    exact ⟨rfl, BA.out⟩
end Go.Proofs.YtngcdlodcdgcaaaGreat.Cn
namespace Go.Proofs.YtngcdlodcdgcaaaGreat.Cn
open Go.RowKit Go.Maps Go.ChangeShapes
set_option maxHeartbeats 1000000 in
theorem Winner_any {k r c q : Int} {N W : Nat} {x : Int} (h : Par k r c q N W x) (w : World) (ro : Option Addr) (rn rc : Nat) (A : Nat -> Option Addr) (L C : Nat -> Nat) (F : Nat -> Nat -> UInt8) (hr : Rw w ro rn A L C F) (E : Int) (hE : erR x N c rn L = E) (y : Int) (hy : rdv E (wins k (hP N c L F) (hQ N c L F) N) 0 = y) (z : Bool) (hz : rdb E (wins k (hP N c L F) (hQ N c L F) N) 0 = z) :
    Calls Tryz.prog 100 #[.agg #[.int .i64 k, .int .i64 r, .int .i64 c, .int .i64 q], .slice ro rn rc] w fun e w' => e = .returned (.tuple #[.int .i64 y, .bool z, .int .i64 E]) /\ Below w.heap.size w w' := by
  obtain ⟨w0, hw0⟩ : ∃ w0, w0 = w.alloc (.cells #[.int .i64 k, .int .i64 r, .int .i64 c, .int .i64 q] 23) := ⟨_, rfl⟩
  have b0 : Below w.heap.size w w0 := by rw [hw0]; exact below_alloc _ _
  have HH := readable_any h w0 ro rn rc A L C F (hr.below b0) E hE 0 (by omega) y hy z hz
  clear hr hE h hy hz
  go_enter Tryz.func100, Tryz.ntmps100
  go_wp2_with fail
  rw [<- hw0]
  refine HH.mono ?_
  rintro e wa ⟨rfl, ha⟩
  have BA : Hid (Below w.heap.size w wa) := below_then b0 ha
  clear ha b0 hw0 HH
  go_wp2_with fail
  refine bodyPost_ret (v := .tuple #[.int .i64 y, .bool z, .int .i64 E]) (by simp [results, Tryz.results100, go_sem]) rfl ?_
  exact ⟨rfl, BA.out⟩
end Go.Proofs.YtngcdlodcdgcaaaGreat.Cn
namespace Go.Proofs.YtngcdlodcdgcaaaGreat
open Go.RowKit
def Askd (w : World) (fn : Nat) (k r c q : Int) (ro : Option Addr) (rn rc : Nat) (y : Int) (z : Bool) (E : Int) : Prop := ∀ u, Below w.heap.size w u -> Calls Tryz.prog fn #[.agg #[.int .i64 k, .int .i64 r, .int .i64 c, .int .i64 q, .slice ro rn rc]] u fun e w' => e = .returned (.tuple #[.int .i64 y, .bool z, .int .i64 E]) /\ Below u.heap.size u w'
theorem Askd.below {w w' : World} {fn : Nat} {k r c q : Int} {ro : Option Addr} {rn rc : Nat} {y : Int} {z : Bool} {E : Int} (h : Askd w fn k r c q ro rn rc y z E) (hb : Below w.heap.size w w') : Askd w' fn k r c q ro rn rc y z E := fun u hu => h u (below_then hb hu)
set_option maxHeartbeats 1000000 in
set_option maxRecDepth 100000 in
theorem cwin_any {k r c q : Int} {N W : Nat} {x : Int} (h : Par k r c q N W x) (w : World) (ro : Option Addr) (rn rc : Nat) (A : Nat -> Option Addr) (L C : Nat -> Nat) (F : Nat -> Nat -> UInt8) (hr : Rw w ro rn A L C F) (E : Int) (hE : erR x N c rn L = E) (y : Int) (hy : Cn.rdv E (Cn.wins k (Cn.hP N c L F) (Cn.hQ N c L F) N) 0 = y) (z : Bool) (hz : Cn.rdb E (Cn.wins k (Cn.hP N c L F) (Cn.hQ N c L F) N) 0 = z) : Askd w 74 k r c q ro rn rc y z E := fun u hu => by
  obtain ⟨w0, hw0⟩ : ∃ w0, w0 = u.alloc (.cells #[.int .i64 k, .int .i64 r, .int .i64 c, .int .i64 q, .slice ro rn rc] 134) := ⟨_, rfl⟩
  have b0 : Below u.heap.size u w0 := by rw [hw0]; exact below_alloc _ _
  have HH := Cn.Winner_any h w0 ro rn rc A L C F (hr.below (below_then hu b0)) E hE y hy z hz
  clear hr hE h hy hz
  go_enter Tryz.func74, Tryz.ntmps74
  go_wp2_with fail
  rw [<- hw0]
  refine HH.mono ?_
  rintro e wa ⟨rfl, ha⟩
  have BA : Hid (Below u.heap.size u wa) := below_then b0 ha
  clear ha b0 hw0 HH
  go_wp2_with fail
  refine bodyPost_ret (v := .tuple #[.int .i64 y, .bool z, .int .i64 E]) (by simp [results, Tryz.results74, go_sem]) rfl ?_
  exact ⟨rfl, BA.out⟩
def erOL (E : Int) (z : Bool) : Int := if E = 0 then (if z = true then 0 else 5) else E
def lenO (E : Int) (z : Bool) (y : Int) : Int := if E = 0 /\ z = false then 0 else y
set_option maxHeartbeats 1000000 in
set_option maxRecDepth 100000 in
theorem orLost_any (fn : Nat) (hfn : ∀ xs w, (callFunc fn xs).run Tryz.prog w = .ok (.enter fn xs) w) {k r c q : Int} (w : World) (ro : Option Addr) (rn rc : Nat) (y : Int) (z : Bool) (E : Int) (h : Askd w fn k r c q ro rn rc y z E) :
    Calls Tryz.prog 73 #[.agg #[.int .i64 k, .int .i64 r, .int .i64 c, .int .i64 q], .slice ro rn rc, .func (.func fn) #[] #[]] w fun e w' => e = .returned (.tuple #[.int .i64 (lenO E z y), .int .i64 (erOL E z)]) /\ Below w.heap.size w w' := by
  obtain ⟨w0, hw0⟩ : ∃ w0, w0 = w.alloc (.cells #[.int .i64 k, .int .i64 r, .int .i64 c, .int .i64 q] 23) := ⟨_, rfl⟩
  have b0 : Below w.heap.size w w0 := by rw [hw0]; exact below_alloc _ _
  have HH := h w0 b0
  clear h
  unfold lenO erOL
  by_cases hE : E = 0
  · subst hE
    cases z
    · rw [if_pos ⟨rfl, rfl⟩, if_pos rfl, if_neg (by decide)]
      go_enter Tryz.func73, Tryz.ntmps73
      go_wp2_with fail
      rw [<- hw0]
      refine HH.mono ?_
      rintro e wa ⟨rfl, ha⟩
      have BA : Hid (Below w.heap.size w wa) := below_then b0 ha
      clear ha b0 hw0 HH
      go_wp2_with fail
      refine bodyPost_ret (v := .tuple #[.int .i64 0, .int .i64 5]) (by simp [results, Tryz.results73, go_sem]) rfl ?_
      exact ⟨rfl, BA.out⟩
    · rw [if_neg (fun e => by cases e.2), if_pos rfl, if_pos rfl]
      go_enter Tryz.func73, Tryz.ntmps73
      go_wp2_with fail
      rw [<- hw0]
      refine HH.mono ?_
      rintro e wa ⟨rfl, ha⟩
      have BA : Hid (Below w.heap.size w wa) := below_then b0 ha
      clear ha b0 hw0 HH
      go_wp2_with fail
      refine bodyPost_ret (v := .tuple #[.int .i64 y, .int .i64 0]) (by simp [results, Tryz.results73, go_sem]) rfl ?_
      exact ⟨rfl, BA.out⟩
  · have hz : (E == 0) = false := by simpa using hE
    rw [if_neg (fun e => hE e.1), if_neg hE]
    clear hE
    go_enter Tryz.func73, Tryz.ntmps73
    go_wp2_with fail
    rw [<- hw0]
    refine HH.mono ?_
    rintro e wa ⟨rfl, ha⟩
    have BA : Hid (Below w.heap.size w wa) := below_then b0 ha
    clear ha b0 hw0 HH
    go_wp2_with fail
    refine bodyPost_ret (v := .tuple #[.int .i64 y, .int .i64 E]) (by simp [results, Tryz.results73, go_sem]) rfl ?_
    exact ⟨rfl, BA.out⟩
end Go.Proofs.YtngcdlodcdgcaaaGreat
