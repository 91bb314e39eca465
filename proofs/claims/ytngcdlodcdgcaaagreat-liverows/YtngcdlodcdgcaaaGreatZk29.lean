import Derived.Test.YtngcdlodcdgcaaaGreatZk28
namespace Go.Proofs.YtngcdlodcdgcaaaGreat
open Go.RowKit
def hB (y : Sl) (kd : UInt8) (v : Int) : Bool := decide (v ≠ 0 /\ y.kd = kd /\ y.ce = v)
def fN (y0 y1 : Sl) (kd : UInt8) (v : Int) : Nat := if hB y0 kd v = true then 0 else if hB y1 kd v = true then 1 else 0
def fZ (y0 y1 : Sl) (kd : UInt8) (v : Int) : Sl := if hB y0 kd v = true then y0 else if hB y1 kd v = true then y1 else zSl
def fB (y0 y1 : Sl) (kd : UInt8) (v : Int) : Bool := hB y0 kd v || hB y1 kd v
def gN (y0 y1 : Sl) (kd : UInt8) : Nat := if (ofK kd y0).ce < (ofK kd y1).ce then 1 else 0
def gZ (y0 y1 : Sl) (kd : UInt8) : Sl := if (ofK kd y0).ce < (ofK kd y1).ce then ofK kd y1 else ofK kd y0
def gB (y0 y1 : Sl) (kd : UInt8) : Bool := decide (¬ (gZ y0 y1 kd).ce = 0)
def erF (C v : Int) : Int := if C = 0 then (if 1 <= v /\ v <= 1073741824 then 0 else 2) else C
def AnsF (w : World) (E : Int) (n : Nat) (z : Sl) (i : Bool) (e : Ending) (w' : World) : Prop :=
  ∃ ao ca bo cb, e = .returned (.tuple #[.int .i64 (n : Int), slv z ao ca bo cb, .bool i, .int .i64 E]) /\ Got w.heap.size w' z ao ca bo cb /\ Below w.heap.size w w'
theorem hB_z (kd : UInt8) (v : Int) : hB zSl kd v = false := decide_eq_false fun h => h.1 h.2.2.symm
theorem ofK_ce {kd : UInt8} {y : Sl} {v : Int} (hv : v ≠ 0) : decide ((ofK kd y).ce = v) = hB y kd v := by
  unfold hB ofK
  by_cases e : y.kd = kd
  · rw [if_pos e]
    exact decide_eq_decide.2 ⟨fun h => ⟨hv, e, h⟩, fun h => h.2.2⟩
  · rw [if_neg e, decide_eq_false (p := v ≠ 0 /\ y.kd = kd /\ y.ce = v) (fun h => e h.2.1)]
    exact decide_eq_false fun h => hv h.symm
theorem fin_z (kd : UInt8) (v : Int) : fN zSl zSl kd v = 0 /\ fZ zSl zSl kd v = zSl /\ fB zSl zSl kd v = false := by
  unfold fN fZ fB; rw [hB_z]; exact ⟨rfl, rfl, rfl⟩
set_option maxHeartbeats 16000000 in
set_option maxRecDepth 100000 in
theorem Find_any {k r c q : Int} {N W : Nat} {x : Int} (h : Par k r c q N W x) (w : World) (a0 : Option Addr) (n0 c0 : Nat) (F0 : Nat -> UInt8) (a1 : Option Addr) (n1 c1 : Nat) (F1 : Nat -> UInt8) (h0 : Bec w a0 n0 c0 F0) (h1 : Bec w a1 n1 c1 F1) (kd : UInt8) (ix v : Int) (E : Int) (hE : erF (erC x N c n0 n1 ((kd.toNat : Nat) : Int) ix) v = E) (y0 y1 : Sl) (hy0 : he E N c ix n0 F0 = y0) (hy1 : he E N c ix n1 F1 = y1) :
    Calls Tryz.prog 145 #[.agg #[.int .i64 k, .int .i64 r, .int .i64 c, .int .i64 q], .agg #[.slice a0 n0 c0, .slice a1 n1 c1], .int .u8 ((kd.toNat : Nat) : Int), .int .i64 ix, .int .i64 v] w (AnsF w E (fN y0 y1 kd v) (fZ y0 y1 kd v) (fB y0 y1 kd v)) := by
  obtain ⟨w0, hw0⟩ : ∃ w0, w0 = w.alloc (.cells #[.int .i64 k, .int .i64 r, .int .i64 c, .int .i64 q] 23) := ⟨_, rfl⟩
  have bw0 : Below w.heap.size w w0 := by rw [hw0]; exact below_alloc _ _
  have zw0 : w0.heap.size = w.heap.size + 1 := by rw [hw0]; simp
  obtain ⟨w1, hw1⟩ : ∃ w1, w1 = w0.alloc (.cells #[.slice a0 n0 c0, .slice a1 n1 c1] 127) := ⟨_, rfl⟩
  have bw1 : Below w0.heap.size w0 w1 := by rw [hw1]; exact below_alloc _ _
  have zw1 : w1.heap.size = w.heap.size + 1 + 1 := by rw [hw1]; simp [zw0]
  obtain ⟨w2, hw2⟩ : ∃ w2, w2 = w1.alloc (.cells #[.int .u8 0, .int .i64 0, .int .i64 0, .int .i64 0, .slice none 0 0, .slice none 0 0] 83) := ⟨_, rfl⟩
  have bw2 : Below w1.heap.size w1 w2 := by rw [hw2]; exact below_alloc _ _
  have zw2 : w2.heap.size = w.heap.size + 1 + 1 + 1 := by rw [hw2]; simp [zw1]
  have Bw : Hid (Below w.heap.size w w2) := (below_then (below_then bw0 bw1) bw2)
  have Lw0 : Hid (∀ v, Below w2.heap.size w2 v -> At w v (w.heap.size) #[.int .i64 k, .int .i64 r, .int .i64 c, .int .i64 q] 23) := fun v hv => by exact (at_made (Below.refl _ _) hw0).below (below_then (below_then bw1 bw2) hv)
  have Lw1 : Hid (∀ v, Below w2.heap.size w2 v -> At w v (w.heap.size + 1) #[.slice a0 n0 c0, .slice a1 n1 c1] 127) := fun v hv => by rw [<- zw0]; exact (at_made bw0 hw1).below (below_then bw2 hv)
  have Lw2 : Hid (∀ v, Below w2.heap.size w2 v -> At w v (w.heap.size + 1 + 1) #[.int .u8 0, .int .i64 0, .int .i64 0, .int .i64 0, .slice none 0 0, .slice none 0 0] 83) := fun v hv => by rw [<- zw1]; exact (at_made (below_then bw0 bw1) hw2).below (below_then (Below.refl _ _) hv)
  obtain ⟨C, hC⟩ : ∃ C, erC x N c n0 n1 ((kd.toNat : Nat) : Int) ix = C := ⟨_, rfl⟩
  obtain ⟨s, hs⟩ : ∃ s, he C N c ix n0 F0 = s := ⟨_, rfl⟩
  obtain ⟨t, ht⟩ : ∃ t, he C N c ix n1 F1 = t := ⟨_, rfl⟩
  have HR : Hid (∀ v, Below w.heap.size w v -> Calls Tryz.prog 157 #[.agg #[.int .i64 k, .int .i64 r, .int .i64 c, .int .i64 q], .agg #[.slice a0 n0 c0, .slice a1 n1 c1], .int .u8 ((kd.toNat : Nat) : Int), .int .i64 ix] v (AnsT v C s t)) := fun v hv => checked_any h v a0 n0 c0 F0 a1 n1 c1 F1 (h0.below hv) (h1.below hv) ((kd.toNat : Nat) : Int) ix C hC s t hs ht
  have HS2 : Hid (w2.heap.size = w.heap.size + 1 + 1 + 1) := zw2
  have HZ2 : Hid (¬ E = 0 -> y0 = zSl /\ y1 = zSl) := fun e => by
    rw [<- hy0, <- hy1]; unfold he; rw [if_neg e, if_neg e]; exact ⟨rfl, rfl⟩
  have HZ0 : Hid (E = 0 -> C = 0 -> s = y0 /\ t = y1) := fun e e2 => by
    rw [<- hy0, <- hy1, <- hs, <- ht, e, e2]; exact ⟨rfl, rfl⟩
  have HEE : E = if C = 0 then (if 1 <= v /\ v <= 1073741824 then 0 else 2) else C := by rw [<- hE, hC]; rfl
  clear hE hy0 hy1 hs ht hC h h0 h1
  unfold AnsT bov at HR
  unfold AnsF slv
  by_cases eC : C = 0
  · subst eC
    rw [if_pos rfl] at HEE
    by_cases vv : 1 <= v /\ v <= 1073741824
    · rw [if_pos vv] at HEE
      subst HEE
      obtain ⟨v1, v2⟩ := vv
      obtain ⟨rfl, rfl⟩ := HZ0.out rfl rfl
      have v3 : ¬ v < 1 := by omega
      have v4 : ¬ 1073741824 < v := by omega
      have v5 : v ≠ 0 := by omega
      have HON : Hid (∀ v (ao : Option Addr) (ca : Nat) (bo : Option Addr) (cb : Nat) (ao' : Option Addr) (ca' : Nat) (bo' : Option Addr) (cb' : Nat), Calls Tryz.prog 158 #[bov s ao ca bo cb t ao' ca' bo' cb', .int .u8 ((kd.toNat : Nat) : Int)] v fun e w' => e = .returned (bov (ofK kd s) (keA (s.kd == kd) ao) (keN (s.kd == kd) ca) (keA (s.kd == kd) bo) (keN (s.kd == kd) cb) (ofK kd t) (keA (t.kd == kd) ao') (keN (t.kd == kd) ca') (keA (t.kd == kd) bo') (keN (t.kd == kd) cb')) /\ Below v.heap.size v w') := fun v ao ca bo cb ao' ca' bo' cb' => only_any v s t ao ca bo cb ao' ca' bo' cb' kd
      have HFI0 : Hid (∀ u (ao : Option Addr) (ca : Nat) (bo : Option Addr) (cb : Nat) (ao' : Option Addr) (ca' : Nat) (bo' : Option Addr) (cb' : Nat), Calls Tryz.prog 159 #[bov (ofK kd s) ao ca bo cb (ofK kd t) ao' ca' bo' cb', .int .i64 v] u fun e w' => e = .returned (.tuple #[.int .i64 (if hB s kd v = true then 0 else if hB t kd v = true then 1 else 0), .bool (hB s kd v || hB t kd v)]) /\ Below u.heap.size u w') := fun u ao ca bo cb ao' ca' bo' cb' => by
        have hf := find_any u (ofK kd s) (ofK kd t) ao ca bo cb ao' ca' bo' cb' v
        rw [ofK_ce v5, ofK_ce v5] at hf
        refine hf.mono ?_
        rintro e w' ⟨rfl, hb⟩
        refine ⟨?_, hb⟩
        rw [<- ofK_ce (y := s) v5, <- ofK_ce (y := t) v5]
        simp only [decide_eq_true_eq]
      clear v1 v2 v5 HZ2 HZ0
      unfold bov at HON HFI0
      have hrs : fN s t kd v = (if hB s kd v = true then 0 else if hB t kd v = true then 1 else 0) /\ fZ s t kd v = (if hB s kd v = true then s else if hB t kd v = true then t else zSl) /\ fB s t kd v = (hB s kd v || hB t kd v) := ⟨rfl, rfl, rfl⟩
      obtain ⟨u, hu⟩ : ∃ u, u = ofK kd s := ⟨_, rfl⟩
      obtain ⟨u2, hu2⟩ : ∃ u2, u2 = ofK kd t := ⟨_, rfl⟩
      rw [<- hu, <- hu2] at HON HFI0
      clear hu hu2
      cases hs0 : hB s kd v
      · rw [hs0] at HFI0 hrs
        cases ht0 : hB t kd v
        · rw [ht0] at HFI0 hrs
          simp only [Bool.false_eq_true, if_false, Bool.or_self] at HFI0 hrs
          have HFI := HFI0
          have HRES : Hid _ := hrs
          clear HFI0 hrs hs0 ht0
          go_enter Tryz.func145, Tryz.ntmps145
          go_wp2_with fail
          rw [<- hw0, <- hw1, <- hw2]
          clear hw0 bw0 zw0 hw1 bw1 zw1 hw2 bw2 zw2
          refine (HR.out _ Bw.out).mono ?_
          rintro e wa ⟨ao, ca, bo, cb, ao', ca', bo', cb', rfl, hga, hgb, ha⟩
          have HGA : Hid (Got w2.heap.size wa s ao ca bo cb) := hga
          have HGB : Hid (Got w2.heap.size wa t ao' ca' bo' cb') := hgb
          have HA : Hid (Below w2.heap.size w2 wa) := ha
          clear hga hgb ha
          obtain ⟨wb, hwb⟩ : ∃ wb, wb = wa.alloc (.cells #[.int .u8 ((s.kd.toNat : Nat) : Int), .int .i64 s.ix, .int .i64 s.ce, .int .i64 s.st, .slice ao s.vn ca, .slice bo s.dn cb, .int .u8 ((t.kd.toNat : Nat) : Int), .int .i64 t.ix, .int .i64 t.ce, .int .i64 t.st, .slice ao' t.vn ca', .slice bo' t.dn cb'] 240) := ⟨_, rfl⟩
          have HB : Hid (Below wa.heap.size wa wb) := by show Below _ _ _; rw [hwb]; exact below_alloc _ _
          have HBK : Hid (At w wb wa.heap.size #[.int .u8 ((s.kd.toNat : Nat) : Int), .int .i64 s.ix, .int .i64 s.ce, .int .i64 s.st, .slice ao s.vn ca, .slice bo s.dn cb, .int .u8 ((t.kd.toNat : Nat) : Int), .int .i64 t.ix, .int .i64 t.ce, .int .i64 t.st, .slice ao' t.vn ca', .slice bo' t.dn cb'] 240) := at_made (below_then Bw.out HA.out) hwb
          go_wp2_with fail
          rw [<- hwb]
          clear hwb
          refine (HON.out _ ao ca bo cb ao' ca' bo' cb').mono ?_
          rintro e wc ⟨rfl, hc⟩
          have HC : Hid (Below wb.heap.size wb wc) := hc
          clear hc
          obtain ⟨fo, fa, go, gb, fo', fa', go', gb', hf⟩ : ∃ fo fa go gb fo' fa' go' gb', fo = keA (s.kd == kd) ao /\ fa = keN (s.kd == kd) ca /\ go = keA (s.kd == kd) bo /\ gb = keN (s.kd == kd) cb /\ fo' = keA (t.kd == kd) ao' /\ fa' = keN (t.kd == kd) ca' /\ go' = keA (t.kd == kd) bo' /\ gb' = keN (t.kd == kd) cb' := ⟨_, _, _, _, _, _, _, _, rfl, rfl, rfl, rfl, rfl, rfl, rfl, rfl⟩
          obtain ⟨f1, f2, f3, f4, f5, f6, f7, f8⟩ := hf
          rw [<- f1, <- f2, <- f3, <- f4, <- f5, <- f6, <- f7, <- f8]
          clear f1 f2 f3 f4 f5 f6 f7 f8
          go_wp2_with fail
          refine (HFI.out _ fo fa go gb fo' fa' go' gb').mono ?_
          rintro e wd ⟨rfl, hd⟩
          have HD : Hid (Below wb.heap.size wb wd) := below_then HC.out hd
          clear hd HC
          have q2 := Lw2.out wd (below_then (below_then HA.out HB.out) HD.out)
          have r0 := q2.cell (i := 0) rfl
          have r1 := q2.cell (i := 1) rfl
          have r2 := q2.cell (i := 2) rfl
          have r3 := q2.cell (i := 3) rfl
          have r4 := q2.cell (i := 4) rfl
          have r5 := q2.cell (i := 5) rfl
          have rf := q2.free
          clear q2
          go_wp2_with fail
          refine bodyPost_ret (v := .tuple #[.int .i64 0, .agg #[.int .u8 0, .int .i64 0, .int .i64 0, .int .i64 0, .slice none 0 0, .slice none 0 0], .bool false, .int .i64 0]) (by simp [results, Tryz.results145, go_sem, r0, r1, r2, r3, r4, r5]) rfl ?_
          obtain ⟨g1, g2, g3⟩ := HRES.out
          rw [g1, g2, g3]
          refine ⟨none, 0, none, 0, rfl, got_z _ _, ?_⟩
          have hal := below_then (below_then Bw.out HA.out) (below_then HB.out HD.out)
          exact hal.trans ((only_lo wd (w.heap.size + 1 + 1) (.int .u8 0) (.int .i64 0) (.int .i64 0) (.int .i64 0) (.slice none 0 0) (.slice none 0 0)).below (fun i hi => by omega) hal.size)
        · rw [ht0] at HFI0 hrs
          simp only [Bool.false_eq_true, if_false, if_true, Bool.or_true] at HFI0 hrs
          have HFI := HFI0
          have HRES : Hid _ := hrs
          clear HFI0 hrs hs0 ht0
          go_enter Tryz.func145, Tryz.ntmps145
          go_wp2_with fail
          rw [<- hw0, <- hw1, <- hw2]
          clear hw0 bw0 zw0 hw1 bw1 zw1 hw2 bw2 zw2
          refine (HR.out _ Bw.out).mono ?_
          rintro e wa ⟨ao, ca, bo, cb, ao', ca', bo', cb', rfl, hga, hgb, ha⟩
          have HGA : Hid (Got w2.heap.size wa s ao ca bo cb) := hga
          have HGB : Hid (Got w2.heap.size wa t ao' ca' bo' cb') := hgb
          have HA : Hid (Below w2.heap.size w2 wa) := ha
          clear hga hgb ha
          obtain ⟨wb, hwb⟩ : ∃ wb, wb = wa.alloc (.cells #[.int .u8 ((s.kd.toNat : Nat) : Int), .int .i64 s.ix, .int .i64 s.ce, .int .i64 s.st, .slice ao s.vn ca, .slice bo s.dn cb, .int .u8 ((t.kd.toNat : Nat) : Int), .int .i64 t.ix, .int .i64 t.ce, .int .i64 t.st, .slice ao' t.vn ca', .slice bo' t.dn cb'] 240) := ⟨_, rfl⟩
          have HB : Hid (Below wa.heap.size wa wb) := by show Below _ _ _; rw [hwb]; exact below_alloc _ _
          have HBK : Hid (At w wb wa.heap.size #[.int .u8 ((s.kd.toNat : Nat) : Int), .int .i64 s.ix, .int .i64 s.ce, .int .i64 s.st, .slice ao s.vn ca, .slice bo s.dn cb, .int .u8 ((t.kd.toNat : Nat) : Int), .int .i64 t.ix, .int .i64 t.ce, .int .i64 t.st, .slice ao' t.vn ca', .slice bo' t.dn cb'] 240) := at_made (below_then Bw.out HA.out) hwb
          go_wp2_with fail
          rw [<- hwb]
          clear hwb
          refine (HON.out _ ao ca bo cb ao' ca' bo' cb').mono ?_
          rintro e wc ⟨rfl, hc⟩
          have HC : Hid (Below wb.heap.size wb wc) := hc
          clear hc
          obtain ⟨fo, fa, go, gb, fo', fa', go', gb', hf⟩ : ∃ fo fa go gb fo' fa' go' gb', fo = keA (s.kd == kd) ao /\ fa = keN (s.kd == kd) ca /\ go = keA (s.kd == kd) bo /\ gb = keN (s.kd == kd) cb /\ fo' = keA (t.kd == kd) ao' /\ fa' = keN (t.kd == kd) ca' /\ go' = keA (t.kd == kd) bo' /\ gb' = keN (t.kd == kd) cb' := ⟨_, _, _, _, _, _, _, _, rfl, rfl, rfl, rfl, rfl, rfl, rfl, rfl⟩
          obtain ⟨f1, f2, f3, f4, f5, f6, f7, f8⟩ := hf
          rw [<- f1, <- f2, <- f3, <- f4, <- f5, <- f6, <- f7, <- f8]
          clear f1 f2 f3 f4 f5 f6 f7 f8
          go_wp2_with fail
          refine (HFI.out _ fo fa go gb fo' fa' go' gb').mono ?_
          rintro e wd ⟨rfl, hd⟩
          have HD : Hid (Below wb.heap.size wb wd) := below_then HC.out hd
          clear hd HC
          have q2 := Lw2.out wd (below_then (below_then HA.out HB.out) HD.out)
          have r0 := q2.cell (i := 0) rfl
          have r1 := q2.cell (i := 1) rfl
          have r2 := q2.cell (i := 2) rfl
          have r3 := q2.cell (i := 3) rfl
          have r4 := q2.cell (i := 4) rfl
          have r5 := q2.cell (i := 5) rfl
          have rf := q2.free
          have q3 := HBK.out.below HD.out
          have s6 := q3.cell (i := 6) rfl
          have s7 := q3.cell (i := 7) rfl
          have s8 := q3.cell (i := 8) rfl
          have s9 := q3.cell (i := 9) rfl
          have s10 := q3.cell (i := 10) rfl
          have s11 := q3.cell (i := 11) rfl
          clear q2 q3
          go_wp2_with fail
          refine wp_region_still_tail 5 (by kernel_rfl) (by kernel_rfl) ?_
          simp only [List.take_succ_cons, List.take_zero, List.drop_succ_cons, List.drop_zero]
          repeat (refine wpStill_step (fun K hK => ?_); go_simp; refine hK _ ?_; clear hK K)
          refine wpStill_nil ?_
          go_wp2_with fail
          refine bodyPost_ret (v := .tuple #[.int .i64 1, .agg #[.int .u8 ((t.kd.toNat : Nat) : Int), .int .i64 t.ix, .int .i64 t.ce, .int .i64 t.st, .slice ao' t.vn ca', .slice bo' t.dn cb'], .bool true, .int .i64 0]) (by simp [results, Tryz.results145, go_sem, r0, r1, r2, r3, r4, r5]) rfl ?_
          obtain ⟨g1, g2, g3⟩ := HRES.out
          rw [g1, g2, g3]
          have hal := below_then (below_then Bw.out HA.out) (below_then HB.out HD.out)
          have ho := (only_lo wd (w.heap.size + 1 + 1) (.int .u8 ((t.kd.toNat : Nat) : Int)) (.int .i64 t.ix) (.int .i64 t.ce) (.int .i64 t.st) (.slice ao' t.vn ca') (.slice bo' t.dn cb')).drew
          exact ⟨ao', ca', bo', cb', rfl, ((HGB.out.below (below_then HB.out HD.out)).stay ho (by have := HS2.out; omega)).mono (by have := HS2.out; omega), hal.trans (ho.below (fun i hi => by omega) hal.size)⟩
      · rw [hs0] at HFI0 hrs
        simp only [if_true, Bool.true_or] at HFI0 hrs
        have HFI := HFI0
        have HRES : Hid _ := hrs
        clear HFI0 hrs hs0
        go_enter Tryz.func145, Tryz.ntmps145
        go_wp2_with fail
        rw [<- hw0, <- hw1, <- hw2]
        clear hw0 bw0 zw0 hw1 bw1 zw1 hw2 bw2 zw2
        refine (HR.out _ Bw.out).mono ?_
        rintro e wa ⟨ao, ca, bo, cb, ao', ca', bo', cb', rfl, hga, hgb, ha⟩
        have HGA : Hid (Got w2.heap.size wa s ao ca bo cb) := hga
        have HGB : Hid (Got w2.heap.size wa t ao' ca' bo' cb') := hgb
        have HA : Hid (Below w2.heap.size w2 wa) := ha
        clear hga hgb ha
        obtain ⟨wb, hwb⟩ : ∃ wb, wb = wa.alloc (.cells #[.int .u8 ((s.kd.toNat : Nat) : Int), .int .i64 s.ix, .int .i64 s.ce, .int .i64 s.st, .slice ao s.vn ca, .slice bo s.dn cb, .int .u8 ((t.kd.toNat : Nat) : Int), .int .i64 t.ix, .int .i64 t.ce, .int .i64 t.st, .slice ao' t.vn ca', .slice bo' t.dn cb'] 240) := ⟨_, rfl⟩
        have HB : Hid (Below wa.heap.size wa wb) := by show Below _ _ _; rw [hwb]; exact below_alloc _ _
        have HBK : Hid (At w wb wa.heap.size #[.int .u8 ((s.kd.toNat : Nat) : Int), .int .i64 s.ix, .int .i64 s.ce, .int .i64 s.st, .slice ao s.vn ca, .slice bo s.dn cb, .int .u8 ((t.kd.toNat : Nat) : Int), .int .i64 t.ix, .int .i64 t.ce, .int .i64 t.st, .slice ao' t.vn ca', .slice bo' t.dn cb'] 240) := at_made (below_then Bw.out HA.out) hwb
        go_wp2_with fail
        rw [<- hwb]
        clear hwb
        refine (HON.out _ ao ca bo cb ao' ca' bo' cb').mono ?_
        rintro e wc ⟨rfl, hc⟩
        have HC : Hid (Below wb.heap.size wb wc) := hc
        clear hc
        obtain ⟨fo, fa, go, gb, fo', fa', go', gb', hf⟩ : ∃ fo fa go gb fo' fa' go' gb', fo = keA (s.kd == kd) ao /\ fa = keN (s.kd == kd) ca /\ go = keA (s.kd == kd) bo /\ gb = keN (s.kd == kd) cb /\ fo' = keA (t.kd == kd) ao' /\ fa' = keN (t.kd == kd) ca' /\ go' = keA (t.kd == kd) bo' /\ gb' = keN (t.kd == kd) cb' := ⟨_, _, _, _, _, _, _, _, rfl, rfl, rfl, rfl, rfl, rfl, rfl, rfl⟩
        obtain ⟨f1, f2, f3, f4, f5, f6, f7, f8⟩ := hf
        rw [<- f1, <- f2, <- f3, <- f4, <- f5, <- f6, <- f7, <- f8]
        clear f1 f2 f3 f4 f5 f6 f7 f8
        go_wp2_with fail
        refine (HFI.out _ fo fa go gb fo' fa' go' gb').mono ?_
        rintro e wd ⟨rfl, hd⟩
        have HD : Hid (Below wb.heap.size wb wd) := below_then HC.out hd
        clear hd HC
        have q2 := Lw2.out wd (below_then (below_then HA.out HB.out) HD.out)
        have r0 := q2.cell (i := 0) rfl
        have r1 := q2.cell (i := 1) rfl
        have r2 := q2.cell (i := 2) rfl
        have r3 := q2.cell (i := 3) rfl
        have r4 := q2.cell (i := 4) rfl
        have r5 := q2.cell (i := 5) rfl
        have rf := q2.free
        have q3 := HBK.out.below HD.out
        have s0 := q3.cell (i := 0) rfl
        have s1 := q3.cell (i := 1) rfl
        have s2 := q3.cell (i := 2) rfl
        have s3 := q3.cell (i := 3) rfl
        have s4 := q3.cell (i := 4) rfl
        have s5 := q3.cell (i := 5) rfl
        clear q2 q3
        go_wp2_with fail
        refine wp_region_still_tail 5 (by kernel_rfl) (by kernel_rfl) ?_
        simp only [List.take_succ_cons, List.take_zero, List.drop_succ_cons, List.drop_zero]
        repeat (refine wpStill_step (fun K hK => ?_); go_simp; refine hK _ ?_; clear hK K)
        refine wpStill_nil ?_
        go_wp2_with fail
        refine bodyPost_ret (v := .tuple #[.int .i64 0, .agg #[.int .u8 ((s.kd.toNat : Nat) : Int), .int .i64 s.ix, .int .i64 s.ce, .int .i64 s.st, .slice ao s.vn ca, .slice bo s.dn cb], .bool true, .int .i64 0]) (by simp [results, Tryz.results145, go_sem, r0, r1, r2, r3, r4, r5]) rfl ?_
        obtain ⟨g1, g2, g3⟩ := HRES.out
        rw [g1, g2, g3]
        have hal := below_then (below_then Bw.out HA.out) (below_then HB.out HD.out)
        have ho := (only_lo wd (w.heap.size + 1 + 1) (.int .u8 ((s.kd.toNat : Nat) : Int)) (.int .i64 s.ix) (.int .i64 s.ce) (.int .i64 s.st) (.slice ao s.vn ca) (.slice bo s.dn cb)).drew
        exact ⟨ao, ca, bo, cb, rfl, ((HGA.out.below (below_then HB.out HD.out)).stay ho (by have := HS2.out; omega)).mono (by have := HS2.out; omega), hal.trans (ho.below (fun i hi => by omega) hal.size)⟩
    · rw [if_neg vv] at HEE
      subst HEE
      by_cases v1 : v < 1
      · clear vv
        go_enter Tryz.func145, Tryz.ntmps145
        go_wp2_with fail
        rw [<- hw0, <- hw1, <- hw2]
        clear hw0 bw0 zw0 hw1 bw1 zw1 hw2 bw2 zw2
        refine (HR.out _ Bw.out).mono ?_
        rintro e wa ⟨ao, ca, bo, cb, ao', ca', bo', cb', rfl, hga, hgb, ha⟩
        have HGA : Hid (Got w2.heap.size wa s ao ca bo cb) := hga
        have HGB : Hid (Got w2.heap.size wa t ao' ca' bo' cb') := hgb
        have HA : Hid (Below w2.heap.size w2 wa) := ha
        clear hga hgb ha
        have q2 := Lw2.out wa HA.out
        have r0 := fun o => (q2.alloc o).cell (i := 0) rfl
        have r1 := fun o => (q2.alloc o).cell (i := 1) rfl
        have r2 := fun o => (q2.alloc o).cell (i := 2) rfl
        have r3 := fun o => (q2.alloc o).cell (i := 3) rfl
        have r4 := fun o => (q2.alloc o).cell (i := 4) rfl
        have r5 := fun o => (q2.alloc o).cell (i := 5) rfl
        have rf := fun o => (q2.alloc o).free
        clear q2
        go_wp2_with fail
        refine bodyPost_ret (v := .tuple #[.int .i64 0, .agg #[.int .u8 0, .int .i64 0, .int .i64 0, .int .i64 0, .slice none 0 0, .slice none 0 0], .bool false, .int .i64 2]) (by simp [results, Tryz.results145, go_sem, r0, r1, r2, r3, r4, r5]) rfl ?_
        obtain ⟨rfl, rfl⟩ := HZ2.out (by first | assumption | decide | trivial)
        rw [(fin_z kd v).1, (fin_z kd v).2.1, (fin_z kd v).2.2]
        refine ⟨none, 0, none, 0, rfl, got_z _ _, ?_⟩
        have hal := b_alloc (below_then Bw.out HA.out) (.cells #[.int .u8 ((s.kd.toNat : Nat) : Int), .int .i64 s.ix, .int .i64 s.ce, .int .i64 s.st, .slice ao s.vn ca, .slice bo s.dn cb, .int .u8 ((t.kd.toNat : Nat) : Int), .int .i64 t.ix, .int .i64 t.ce, .int .i64 t.st, .slice ao' t.vn ca', .slice bo' t.dn cb'] 240)
        exact hal.trans ((only_lo (wa.alloc (.cells #[.int .u8 ((s.kd.toNat : Nat) : Int), .int .i64 s.ix, .int .i64 s.ce, .int .i64 s.st, .slice ao s.vn ca, .slice bo s.dn cb, .int .u8 ((t.kd.toNat : Nat) : Int), .int .i64 t.ix, .int .i64 t.ce, .int .i64 t.st, .slice ao' t.vn ca', .slice bo' t.dn cb'] 240)) (w.heap.size + 1 + 1) (.int .u8 0) (.int .i64 0) (.int .i64 0) (.int .i64 0) (.slice none 0 0) (.slice none 0 0)).below (fun i hi => by omega) hal.size)
      · have v2 : 1073741824 < v := by omega
        clear vv
        go_enter Tryz.func145, Tryz.ntmps145
        go_wp2_with fail
        rw [<- hw0, <- hw1, <- hw2]
        clear hw0 bw0 zw0 hw1 bw1 zw1 hw2 bw2 zw2
        refine (HR.out _ Bw.out).mono ?_
        rintro e wa ⟨ao, ca, bo, cb, ao', ca', bo', cb', rfl, hga, hgb, ha⟩
        have HGA : Hid (Got w2.heap.size wa s ao ca bo cb) := hga
        have HGB : Hid (Got w2.heap.size wa t ao' ca' bo' cb') := hgb
        have HA : Hid (Below w2.heap.size w2 wa) := ha
        clear hga hgb ha
        have q2 := Lw2.out wa HA.out
        have r0 := fun o => (q2.alloc o).cell (i := 0) rfl
        have r1 := fun o => (q2.alloc o).cell (i := 1) rfl
        have r2 := fun o => (q2.alloc o).cell (i := 2) rfl
        have r3 := fun o => (q2.alloc o).cell (i := 3) rfl
        have r4 := fun o => (q2.alloc o).cell (i := 4) rfl
        have r5 := fun o => (q2.alloc o).cell (i := 5) rfl
        have rf := fun o => (q2.alloc o).free
        clear q2
        go_wp2_with fail
        refine bodyPost_ret (v := .tuple #[.int .i64 0, .agg #[.int .u8 0, .int .i64 0, .int .i64 0, .int .i64 0, .slice none 0 0, .slice none 0 0], .bool false, .int .i64 2]) (by simp [results, Tryz.results145, go_sem, r0, r1, r2, r3, r4, r5]) rfl ?_
        obtain ⟨rfl, rfl⟩ := HZ2.out (by first | assumption | decide | trivial)
        rw [(fin_z kd v).1, (fin_z kd v).2.1, (fin_z kd v).2.2]
        refine ⟨none, 0, none, 0, rfl, got_z _ _, ?_⟩
        have hal := b_alloc (below_then Bw.out HA.out) (.cells #[.int .u8 ((s.kd.toNat : Nat) : Int), .int .i64 s.ix, .int .i64 s.ce, .int .i64 s.st, .slice ao s.vn ca, .slice bo s.dn cb, .int .u8 ((t.kd.toNat : Nat) : Int), .int .i64 t.ix, .int .i64 t.ce, .int .i64 t.st, .slice ao' t.vn ca', .slice bo' t.dn cb'] 240)
        exact hal.trans ((only_lo (wa.alloc (.cells #[.int .u8 ((s.kd.toNat : Nat) : Int), .int .i64 s.ix, .int .i64 s.ce, .int .i64 s.st, .slice ao s.vn ca, .slice bo s.dn cb, .int .u8 ((t.kd.toNat : Nat) : Int), .int .i64 t.ix, .int .i64 t.ce, .int .i64 t.st, .slice ao' t.vn ca', .slice bo' t.dn cb'] 240)) (w.heap.size + 1 + 1) (.int .u8 0) (.int .i64 0) (.int .i64 0) (.int .i64 0) (.slice none 0 0) (.slice none 0 0)).below (fun i hi => by omega) hal.size)
  · rw [if_neg eC] at HEE
    subst HEE
    have hq : (E != 0) = true := by simpa using eC
    go_enter Tryz.func145, Tryz.ntmps145
    go_wp2_with fail
    rw [<- hw0, <- hw1, <- hw2]
    clear hw0 bw0 zw0 hw1 bw1 zw1 hw2 bw2 zw2
    refine (HR.out _ Bw.out).mono ?_
    rintro e wa ⟨ao, ca, bo, cb, ao', ca', bo', cb', rfl, hga, hgb, ha⟩
    have HGA : Hid (Got w2.heap.size wa s ao ca bo cb) := hga
    have HGB : Hid (Got w2.heap.size wa t ao' ca' bo' cb') := hgb
    have HA : Hid (Below w2.heap.size w2 wa) := ha
    clear hga hgb ha
    have q2 := Lw2.out wa HA.out
    have r0 := fun o => (q2.alloc o).cell (i := 0) rfl
    have r1 := fun o => (q2.alloc o).cell (i := 1) rfl
    have r2 := fun o => (q2.alloc o).cell (i := 2) rfl
    have r3 := fun o => (q2.alloc o).cell (i := 3) rfl
    have r4 := fun o => (q2.alloc o).cell (i := 4) rfl
    have r5 := fun o => (q2.alloc o).cell (i := 5) rfl
    have rf := fun o => (q2.alloc o).free
    clear q2
    go_wp2_with fail
    refine bodyPost_ret (v := .tuple #[.int .i64 0, .agg #[.int .u8 0, .int .i64 0, .int .i64 0, .int .i64 0, .slice none 0 0, .slice none 0 0], .bool false, .int .i64 E]) (by simp [results, Tryz.results145, go_sem, r0, r1, r2, r3, r4, r5]) rfl ?_
    obtain ⟨rfl, rfl⟩ := HZ2.out (by first | assumption | decide | trivial)
    rw [(fin_z kd v).1, (fin_z kd v).2.1, (fin_z kd v).2.2]
    refine ⟨none, 0, none, 0, rfl, got_z _ _, ?_⟩
    have hal := b_alloc (below_then Bw.out HA.out) (.cells #[.int .u8 ((s.kd.toNat : Nat) : Int), .int .i64 s.ix, .int .i64 s.ce, .int .i64 s.st, .slice ao s.vn ca, .slice bo s.dn cb, .int .u8 ((t.kd.toNat : Nat) : Int), .int .i64 t.ix, .int .i64 t.ce, .int .i64 t.st, .slice ao' t.vn ca', .slice bo' t.dn cb'] 240)
    exact hal.trans ((only_lo (wa.alloc (.cells #[.int .u8 ((s.kd.toNat : Nat) : Int), .int .i64 s.ix, .int .i64 s.ce, .int .i64 s.st, .slice ao s.vn ca, .slice bo s.dn cb, .int .u8 ((t.kd.toNat : Nat) : Int), .int .i64 t.ix, .int .i64 t.ce, .int .i64 t.st, .slice ao' t.vn ca', .slice bo' t.dn cb'] 240)) (w.heap.size + 1 + 1) (.int .u8 0) (.int .i64 0) (.int .i64 0) (.int .i64 0) (.slice none 0 0) (.slice none 0 0)).below (fun i hi => by omega) hal.size)
end Go.Proofs.YtngcdlodcdgcaaaGreat
