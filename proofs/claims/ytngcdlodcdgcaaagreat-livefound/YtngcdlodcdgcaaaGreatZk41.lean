import Derived.Test.YtngcdlodcdgcaaaGreatZk29
namespace Go.Proofs.YtngcdlodcdgcaaaGreat
open Go.RowKit
set_option maxHeartbeats 400000 in
set_option maxRecDepth 100000 in
theorem greatest_any (w : World) (s t : Sl) (ao : Option Addr) (ca : Nat) (bo : Option Addr) (cb : Nat) (ao' : Option Addr) (ca' : Nat) (bo' : Option Addr) (cb' : Nat) :
    Calls Tryz.prog 164 #[bov s ao ca bo cb t ao' ca' bo' cb'] w fun e w' => e = .returned (.int .i64 (if s.ce < t.ce then 1 else 0)) /\ Below w.heap.size w w' := by
  unfold bov
  by_cases h : s.ce < t.ce
  · rw [if_pos h]
    go_enter Tryz.func164, Tryz.ntmps164
    go_wp2
    go_ret
    exact ⟨rfl, below_alloc _ _⟩
  · rw [if_neg h]
    go_enter Tryz.func164, Tryz.ntmps164
    go_wp2
    go_ret
    exact ⟨rfl, below_alloc _ _⟩
theorem ofK_z (kd : UInt8) : ofK kd zSl = zSl := by unfold ofK; split <;> rfl
theorem gin_z (kd : UInt8) : gN zSl zSl kd = 0 /\ gZ zSl zSl kd = zSl /\ gB zSl zSl kd = false := by
  unfold gB gN gZ; rw [ofK_z]; exact ⟨rfl, rfl, rfl⟩
set_option maxHeartbeats 16000000 in
set_option maxRecDepth 100000 in
theorem Newest_any {k r c q : Int} {N W : Nat} {x : Int} (h : Par k r c q N W x) (w : World) (a0 : Option Addr) (n0 c0 : Nat) (F0 : Nat -> UInt8) (a1 : Option Addr) (n1 c1 : Nat) (F1 : Nat -> UInt8) (h0 : Bec w a0 n0 c0 F0) (h1 : Bec w a1 n1 c1 F1) (kd : UInt8) (ix : Int) (E : Int) (hE : erC x N c n0 n1 ((kd.toNat : Nat) : Int) ix = E) (y0 y1 : Sl) (hy0 : he E N c ix n0 F0 = y0) (hy1 : he E N c ix n1 F1 = y1) :
    Calls Tryz.prog 150 #[.agg #[.int .i64 k, .int .i64 r, .int .i64 c, .int .i64 q], .agg #[.slice a0 n0 c0, .slice a1 n1 c1], .int .u8 ((kd.toNat : Nat) : Int), .int .i64 ix] w (AnsF w E (gN y0 y1 kd) (gZ y0 y1 kd) (gB y0 y1 kd)) := by
  obtain ⟨w0, hw0⟩ : ∃ w0, w0 = w.alloc (.cells #[.int .i64 k, .int .i64 r, .int .i64 c, .int .i64 q] 23) := ⟨_, rfl⟩
  have bw0 : Below w.heap.size w w0 := by rw [hw0]; exact below_alloc _ _
  have zw0 : w0.heap.size = w.heap.size + 1 := by rw [hw0]; simp
  obtain ⟨w1, hw1⟩ : ∃ w1, w1 = w0.alloc (.cells #[.slice a0 n0 c0, .slice a1 n1 c1] 127) := ⟨_, rfl⟩
  have bw1 : Below w0.heap.size w0 w1 := by rw [hw1]; exact below_alloc _ _
  have zw1 : w1.heap.size = w.heap.size + 1 + 1 := by rw [hw1]; simp [zw0]
  obtain ⟨w2, hw2⟩ : ∃ w2, w2 = w1.alloc (.cells #[.int .u8 0, .int .i64 0, .int .i64 0, .int .i64 0, .slice none 0 0, .slice none 0 0] 83) := ⟨_, rfl⟩
  have bw2 : Below w1.heap.size w1 w2 := by rw [hw2]; exact below_alloc _ _
  have zw2 : w2.heap.size = w.heap.size + 1 + 1 + 1 := by rw [hw2]; simp [zw1]
  have Bw : Hid (Below w.heap.size w w2) := (below_then (below_then bw0 bw1) bw2)
  have Lw0 : Hid (∀ v, Below w2.heap.size w2 v -> At w v (w.heap.size) #[.int .i64 k, .int .i64 r, .int .i64 c, .int .i64 q] 23) := fun v hv => by exact (at_made (Below.refl _ _) hw0).below (below_then (below_then bw1 bw2) hv)
  have Lw1 : Hid (∀ v, Below w2.heap.size w2 v -> At w v (w.heap.size + 1) #[.slice a0 n0 c0, .slice a1 n1 c1] 127) := fun v hv => by rw [<- zw0]; exact (at_made bw0 hw1).below (below_then bw2 hv)
  have Lw2 : Hid (∀ v, Below w2.heap.size w2 v -> At w v (w.heap.size + 1 + 1) #[.int .u8 0, .int .i64 0, .int .i64 0, .int .i64 0, .slice none 0 0, .slice none 0 0] 83) := fun v hv => by rw [<- zw1]; exact (at_made (below_then bw0 bw1) hw2).below (below_then (Below.refl _ _) hv)
  obtain ⟨C, hC⟩ : ∃ C, erC x N c n0 n1 ((kd.toNat : Nat) : Int) ix = C := ⟨_, rfl⟩
  obtain ⟨s, hs⟩ : ∃ s, he C N c ix n0 F0 = s := ⟨_, rfl⟩
  obtain ⟨t, ht⟩ : ∃ t, he C N c ix n1 F1 = t := ⟨_, rfl⟩
  have HR : Hid (∀ v, Below w.heap.size w v -> Calls Tryz.prog 157 #[.agg #[.int .i64 k, .int .i64 r, .int .i64 c, .int .i64 q], .agg #[.slice a0 n0 c0, .slice a1 n1 c1], .int .u8 ((kd.toNat : Nat) : Int), .int .i64 ix] v (AnsT v C s t)) := fun v hv => checked_any h v a0 n0 c0 F0 a1 n1 c1 F1 (h0.below hv) (h1.below hv) ((kd.toNat : Nat) : Int) ix C hC s t hs ht
  have HS2 : Hid (w2.heap.size = w.heap.size + 1 + 1 + 1) := zw2
  have HZ2 : Hid (¬ E = 0 -> y0 = zSl /\ y1 = zSl) := fun e => by
    rw [<- hy0, <- hy1]; unfold he; rw [if_neg e, if_neg e]; exact ⟨rfl, rfl⟩
  have HZ0 : Hid (E = 0 -> C = 0 -> s = y0 /\ t = y1) := fun e e2 => by
    rw [<- hy0, <- hy1, <- hs, <- ht, e, e2]; exact ⟨rfl, rfl⟩
  have HEE : E = C := by rw [<- hE, hC]
  clear hE hy0 hy1 hs ht hC h h0 h1
  unfold AnsT bov at HR
  unfold AnsF slv
  by_cases eC : C = 0
  · subst eC
    subst HEE
    obtain ⟨rfl, rfl⟩ := HZ0.out rfl rfl
    have HON : Hid (∀ v (ao : Option Addr) (ca : Nat) (bo : Option Addr) (cb : Nat) (ao' : Option Addr) (ca' : Nat) (bo' : Option Addr) (cb' : Nat), Calls Tryz.prog 158 #[bov s ao ca bo cb t ao' ca' bo' cb', .int .u8 ((kd.toNat : Nat) : Int)] v fun e w' => e = .returned (bov (ofK kd s) (keA (s.kd == kd) ao) (keN (s.kd == kd) ca) (keA (s.kd == kd) bo) (keN (s.kd == kd) cb) (ofK kd t) (keA (t.kd == kd) ao') (keN (t.kd == kd) ca') (keA (t.kd == kd) bo') (keN (t.kd == kd) cb')) /\ Below v.heap.size v w') := fun v ao ca bo cb ao' ca' bo' cb' => only_any v s t ao ca bo cb ao' ca' bo' cb' kd
    have HGR : Hid (∀ u (ao : Option Addr) (ca : Nat) (bo : Option Addr) (cb : Nat) (ao' : Option Addr) (ca' : Nat) (bo' : Option Addr) (cb' : Nat), Calls Tryz.prog 164 #[bov (ofK kd s) ao ca bo cb (ofK kd t) ao' ca' bo' cb'] u fun e w' => e = .returned (.int .i64 (if (ofK kd s).ce < (ofK kd t).ce then 1 else 0)) /\ Below u.heap.size u w') := fun u ao ca bo cb ao' ca' bo' cb' => greatest_any u (ofK kd s) (ofK kd t) ao ca bo cb ao' ca' bo' cb'
    unfold bov at HON HGR
    have hrs : gN s t kd = (if (ofK kd s).ce < (ofK kd t).ce then 1 else 0) /\ gZ s t kd = (if (ofK kd s).ce < (ofK kd t).ce then ofK kd t else ofK kd s) /\ gB s t kd = decide (¬ (if (ofK kd s).ce < (ofK kd t).ce then ofK kd t else ofK kd s).ce = 0) := ⟨rfl, rfl, rfl⟩
    obtain ⟨u, hu⟩ : ∃ u, u = ofK kd s := ⟨_, rfl⟩
    obtain ⟨u2, hu2⟩ : ∃ u2, u2 = ofK kd t := ⟨_, rfl⟩
    rw [<- hu, <- hu2] at HON HGR hrs
    clear HZ2 HZ0
    by_cases hlt : u.ce < u2.ce
    · rw [if_pos hlt, if_pos hlt] at hrs
      simp only [if_pos hlt] at HGR
      clear hlt
      by_cases hz : u2.ce = 0
      · have hzb : (u2.ce != 0) = false := by simp [hz]
        rw [decide_eq_false (p := ¬ u2.ce = 0) (fun h => h hz)] at hrs
        have HRES : Hid _ := hrs
        clear hrs hz
        go_enter Tryz.func150, Tryz.ntmps150
        go_wp2_with fail
        rw [<- hw0, <- hw1, <- hw2]
        clear hw0 bw0 zw0 hw1 bw1 zw1 hw2 bw2 zw2
        refine (HR.out _ Bw.out).mono ?_
        rintro e wa ⟨ao, ca, bo, cb, ao', ca', bo', cb', rfl, hga, hgb, ha⟩
        have HGA : Hid (Got w2.heap.size wa s ao ca bo cb) := hga
        have HGB : Hid (Got w2.heap.size wa t ao' ca' bo' cb') := hgb
        have HA : Hid (Below w2.heap.size w2 wa) := ha
        clear hga hgb ha
        obtain ⟨wb, hwb⟩ : ∃ wb, wb = wa.alloc (.cells #[.int .u8 ((s.kd.toNat : Nat) : Int), .int .i64 s.ix, .int .i64 s.ce, .int .i64 s.st, .slice ao s.vn ca, .slice bo s.dn cb, .int .u8 ((t.kd.toNat : Nat) : Int), .int .i64 t.ix, .int .i64 t.ce, .int .i64 t.st, .slice ao' t.vn ca', .slice bo' t.dn cb'] 240) := ⟨_, rfl⟩
        have HB : Hid (Below wa.heap.size wa wb) := by show Below _ _ _; rw [hwb]; exact below_alloc _ _
        have HBK : Hid (At w wb wa.heap.size #[.int .u8 ((s.kd.toNat : Nat) : Int), .int .i64 s.ix, .int .i64 s.ce, .int .i64 s.st, .slice ao s.vn ca, .slice bo s.dn cb, .int .u8 ((t.kd.toNat : Nat) : Int), .int .i64 t.ix, .int .i64 t.ce, .int .i64 t.st, .slice ao' t.vn ca', .slice bo' t.dn cb'] 240) := at_made (below_then Bw.out HA.out) hwb
        go_wp2_with fail
        rw [<- hwb]
        clear hwb
        refine (HON.out _ ao ca bo cb ao' ca' bo' cb').mono ?_
        rintro e wc ⟨rfl, hc⟩
        have HC : Hid (Below wb.heap.size wb wc) := hc
        clear hc
        obtain ⟨fo, fa, go, gb, fo', fa', go', gb', hf⟩ : ∃ fo fa go gb fo' fa' go' gb', fo = keA (s.kd == kd) ao /\ fa = keN (s.kd == kd) ca /\ go = keA (s.kd == kd) bo /\ gb = keN (s.kd == kd) cb /\ fo' = keA (t.kd == kd) ao' /\ fa' = keN (t.kd == kd) ca' /\ go' = keA (t.kd == kd) bo' /\ gb' = keN (t.kd == kd) cb' := ⟨_, _, _, _, _, _, _, _, rfl, rfl, rfl, rfl, rfl, rfl, rfl, rfl⟩
        obtain ⟨f1, f2, f3, f4, f5, f6, f7, f8⟩ := hf
        rw [<- f1, <- f2, <- f3, <- f4, <- f5, <- f6, <- f7, <- f8]
        obtain ⟨wd, hwd⟩ : ∃ wd, wd = ((((((((((((wc.setCell ⟨wa.heap.size, 0, none⟩ (.int .u8 ((u.kd.toNat : Nat) : Int))).setCell ⟨wa.heap.size, 1, none⟩ (.int .i64 u.ix)).setCell ⟨wa.heap.size, 2, none⟩ (.int .i64 u.ce)).setCell ⟨wa.heap.size, 3, none⟩ (.int .i64 u.st)).setCell ⟨wa.heap.size, 4, none⟩ (.slice fo u.vn fa)).setCell ⟨wa.heap.size, 5, none⟩ (.slice go u.dn gb)).setCell ⟨wa.heap.size, 6, none⟩ (.int .u8 ((u2.kd.toNat : Nat) : Int))).setCell ⟨wa.heap.size, 7, none⟩ (.int .i64 u2.ix)).setCell ⟨wa.heap.size, 8, none⟩ (.int .i64 u2.ce)).setCell ⟨wa.heap.size, 9, none⟩ (.int .i64 u2.st)).setCell ⟨wa.heap.size, 10, none⟩ (.slice fo' u2.vn fa')).setCell ⟨wa.heap.size, 11, none⟩ (.slice go' u2.dn gb')) := ⟨_, rfl⟩
        have HWD : Hid (Below wa.heap.size wa wd) := by show Below _ _ _; rw [hwd]; have hbc := below_then HB.out HC.out; exact hbc.trans ((only_all wc (wa.heap.size) (.int .u8 ((u.kd.toNat : Nat) : Int)) (.int .i64 u.ix) (.int .i64 u.ce) (.int .i64 u.st) (.slice fo u.vn fa) (.slice go u.dn gb) (.int .u8 ((u2.kd.toNat : Nat) : Int)) (.int .i64 u2.ix) (.int .i64 u2.ce) (.int .i64 u2.st) (.slice fo' u2.vn fa') (.slice go' u2.dn gb')).below (fun i hi => by omega) hbc.size)
        have HD3 : Hid (At w wd (wa.heap.size) #[.int .u8 ((u.kd.toNat : Nat) : Int), .int .i64 u.ix, .int .i64 u.ce, .int .i64 u.st, .slice fo u.vn fa, .slice go u.dn gb, .int .u8 ((u2.kd.toNat : Nat) : Int), .int .i64 u2.ix, .int .i64 u2.ce, .int .i64 u2.st, .slice fo' u2.vn fa', .slice go' u2.dn gb'] 240) := by show At _ _ _ _ _; rw [hwd]; exact at_all (HBK.out.below HC.out) (.int .u8 ((u.kd.toNat : Nat) : Int)) (.int .i64 u.ix) (.int .i64 u.ce) (.int .i64 u.st) (.slice fo u.vn fa) (.slice go u.dn gb) (.int .u8 ((u2.kd.toNat : Nat) : Int)) (.int .i64 u2.ix) (.int .i64 u2.ce) (.int .i64 u2.st) (.slice fo' u2.vn fa') (.slice go' u2.dn gb')
        have HG : Hid (Got w2.heap.size wd u2 fo' fa' go' gb') := by show Got _ _ _ _ _ _ _; rw [f5, f6, f7, f8, hu2]; exact (HGB.out.only kd).below HWD.out
        have HD2 : Hid (At w wd (w.heap.size + 1 + 1) #[.int .u8 0, .int .i64 0, .int .i64 0, .int .i64 0, .slice none 0 0, .slice none 0 0] 83) := (Lw2.out wa HA.out).below HWD.out
        have HD : Hid (Below w.heap.size w wd) := below_then (below_then Bw.out HA.out) HWD.out
        clear f1 f2 f3 f4 f5 f6 f7 f8 HGA HGB hu hu2 HWD
        have q3 := HBK.out.below HC.out
        have s0 := q3.cell (i := 0) rfl
        have s1 := q3.cell (i := 1) rfl
        have s2 := q3.cell (i := 2) rfl
        have s3 := q3.cell (i := 3) rfl
        have s4 := q3.cell (i := 4) rfl
        have s5 := q3.cell (i := 5) rfl
        have s6 := q3.cell (i := 6) rfl
        have s7 := q3.cell (i := 7) rfl
        have s8 := q3.cell (i := 8) rfl
        have s9 := q3.cell (i := 9) rfl
        have s10 := q3.cell (i := 10) rfl
        have s11 := q3.cell (i := 11) rfl
        have sf := q3.free
        clear q3
        go_wp2_with fail
        rw [<- hwd]
        clear hwd s0 s1 s2 s3 s4 s5 s6 s7 s8 s9 s10 s11 sf
        refine (HGR.out _ fo fa go gb fo' fa' go' gb').mono ?_
        rintro e we ⟨rfl, he⟩
        have HE : Hid (Below wd.heap.size wd we) := he
        clear he
        have q2 := HD2.out.below HE.out
        have q3 := HD3.out.below HE.out
        have r0 := q2.cell (i := 0) rfl
        have r1 := q2.cell (i := 1) rfl
        have r2 := q2.cell (i := 2) rfl
        have r3 := q2.cell (i := 3) rfl
        have r4 := q2.cell (i := 4) rfl
        have r5 := q2.cell (i := 5) rfl
        have rf := q2.free
        have s6 := q3.cell (i := 6) rfl
        have s7 := q3.cell (i := 7) rfl
        have s8 := q3.cell (i := 8) rfl
        have s9 := q3.cell (i := 9) rfl
        have s10 := q3.cell (i := 10) rfl
        have s11 := q3.cell (i := 11) rfl
        have nq : ¬ wa.heap.size = w.heap.size + 1 + 1 := by have := HA.out.size; have := HS2.out; omega
        have nq2 : ¬ w.heap.size + 1 + 1 = wa.heap.size := by omega
        clear q2 q3
        go_wp2_with fail
        go_region_held3 (fun v => v.cell? ⟨wa.heap.size, 6, none⟩ = some (.int .u8 ((u2.kd.toNat : Nat) : Int)) /\ v.cell? ⟨wa.heap.size, 7, none⟩ = some (.int .i64 u2.ix) /\ v.cell? ⟨wa.heap.size, 8, none⟩ = some (.int .i64 u2.ce) /\ v.cell? ⟨wa.heap.size, 9, none⟩ = some (.int .i64 u2.st) /\ v.cell? ⟨wa.heap.size, 10, none⟩ = some (.slice fo' u2.vn fa') /\ v.cell? ⟨wa.heap.size, 11, none⟩ = some (.slice go' u2.dn gb')) (go_keep) (fail)
        go_wp2_with fail
        refine bodyPost_ret (v := .tuple #[.int .i64 1, .agg #[.int .u8 ((u2.kd.toNat : Nat) : Int), .int .i64 u2.ix, .int .i64 u2.ce, .int .i64 u2.st, .slice fo' u2.vn fa', .slice go' u2.dn gb'], .bool false, .int .i64 0]) (by simp [results, Tryz.results150, go_sem, r0, r1, r2, r3, r4, r5]) rfl ?_
        obtain ⟨g1, g2, g3⟩ := HRES.out
        rw [g1, g2, g3]
        have hal := below_then HD.out HE.out
        have ho := (only_lo we (w.heap.size + 1 + 1) (.int .u8 ((u2.kd.toNat : Nat) : Int)) (.int .i64 u2.ix) (.int .i64 u2.ce) (.int .i64 u2.st) (.slice fo' u2.vn fa') (.slice go' u2.dn gb')).drew
        exact ⟨fo', fa', go', gb', rfl, ((HG.out.below HE.out).stay ho (by have := HS2.out; omega)).mono (by have := HS2.out; omega), hal.trans (ho.below (fun i hi => by omega) hal.size)⟩
      · have hzb : (u2.ce != 0) = true := by simpa using hz
        rw [decide_eq_true (p := ¬ u2.ce = 0) hz] at hrs
        have HRES : Hid _ := hrs
        clear hrs hz
        go_enter Tryz.func150, Tryz.ntmps150
        go_wp2_with fail
        rw [<- hw0, <- hw1, <- hw2]
        clear hw0 bw0 zw0 hw1 bw1 zw1 hw2 bw2 zw2
        refine (HR.out _ Bw.out).mono ?_
        rintro e wa ⟨ao, ca, bo, cb, ao', ca', bo', cb', rfl, hga, hgb, ha⟩
        have HGA : Hid (Got w2.heap.size wa s ao ca bo cb) := hga
        have HGB : Hid (Got w2.heap.size wa t ao' ca' bo' cb') := hgb
        have HA : Hid (Below w2.heap.size w2 wa) := ha
        clear hga hgb ha
        obtain ⟨wb, hwb⟩ : ∃ wb, wb = wa.alloc (.cells #[.int .u8 ((s.kd.toNat : Nat) : Int), .int .i64 s.ix, .int .i64 s.ce, .int .i64 s.st, .slice ao s.vn ca, .slice bo s.dn cb, .int .u8 ((t.kd.toNat : Nat) : Int), .int .i64 t.ix, .int .i64 t.ce, .int .i64 t.st, .slice ao' t.vn ca', .slice bo' t.dn cb'] 240) := ⟨_, rfl⟩
        have HB : Hid (Below wa.heap.size wa wb) := by show Below _ _ _; rw [hwb]; exact below_alloc _ _
        have HBK : Hid (At w wb wa.heap.size #[.int .u8 ((s.kd.toNat : Nat) : Int), .int .i64 s.ix, .int .i64 s.ce, .int .i64 s.st, .slice ao s.vn ca, .slice bo s.dn cb, .int .u8 ((t.kd.toNat : Nat) : Int), .int .i64 t.ix, .int .i64 t.ce, .int .i64 t.st, .slice ao' t.vn ca', .slice bo' t.dn cb'] 240) := at_made (below_then Bw.out HA.out) hwb
        go_wp2_with fail
        rw [<- hwb]
        clear hwb
        refine (HON.out _ ao ca bo cb ao' ca' bo' cb').mono ?_
        rintro e wc ⟨rfl, hc⟩
        have HC : Hid (Below wb.heap.size wb wc) := hc
        clear hc
        obtain ⟨fo, fa, go, gb, fo', fa', go', gb', hf⟩ : ∃ fo fa go gb fo' fa' go' gb', fo = keA (s.kd == kd) ao /\ fa = keN (s.kd == kd) ca /\ go = keA (s.kd == kd) bo /\ gb = keN (s.kd == kd) cb /\ fo' = keA (t.kd == kd) ao' /\ fa' = keN (t.kd == kd) ca' /\ go' = keA (t.kd == kd) bo' /\ gb' = keN (t.kd == kd) cb' := ⟨_, _, _, _, _, _, _, _, rfl, rfl, rfl, rfl, rfl, rfl, rfl, rfl⟩
        obtain ⟨f1, f2, f3, f4, f5, f6, f7, f8⟩ := hf
        rw [<- f1, <- f2, <- f3, <- f4, <- f5, <- f6, <- f7, <- f8]
        obtain ⟨wd, hwd⟩ : ∃ wd, wd = ((((((((((((wc.setCell ⟨wa.heap.size, 0, none⟩ (.int .u8 ((u.kd.toNat : Nat) : Int))).setCell ⟨wa.heap.size, 1, none⟩ (.int .i64 u.ix)).setCell ⟨wa.heap.size, 2, none⟩ (.int .i64 u.ce)).setCell ⟨wa.heap.size, 3, none⟩ (.int .i64 u.st)).setCell ⟨wa.heap.size, 4, none⟩ (.slice fo u.vn fa)).setCell ⟨wa.heap.size, 5, none⟩ (.slice go u.dn gb)).setCell ⟨wa.heap.size, 6, none⟩ (.int .u8 ((u2.kd.toNat : Nat) : Int))).setCell ⟨wa.heap.size, 7, none⟩ (.int .i64 u2.ix)).setCell ⟨wa.heap.size, 8, none⟩ (.int .i64 u2.ce)).setCell ⟨wa.heap.size, 9, none⟩ (.int .i64 u2.st)).setCell ⟨wa.heap.size, 10, none⟩ (.slice fo' u2.vn fa')).setCell ⟨wa.heap.size, 11, none⟩ (.slice go' u2.dn gb')) := ⟨_, rfl⟩
        have HWD : Hid (Below wa.heap.size wa wd) := by show Below _ _ _; rw [hwd]; have hbc := below_then HB.out HC.out; exact hbc.trans ((only_all wc (wa.heap.size) (.int .u8 ((u.kd.toNat : Nat) : Int)) (.int .i64 u.ix) (.int .i64 u.ce) (.int .i64 u.st) (.slice fo u.vn fa) (.slice go u.dn gb) (.int .u8 ((u2.kd.toNat : Nat) : Int)) (.int .i64 u2.ix) (.int .i64 u2.ce) (.int .i64 u2.st) (.slice fo' u2.vn fa') (.slice go' u2.dn gb')).below (fun i hi => by omega) hbc.size)
        have HD3 : Hid (At w wd (wa.heap.size) #[.int .u8 ((u.kd.toNat : Nat) : Int), .int .i64 u.ix, .int .i64 u.ce, .int .i64 u.st, .slice fo u.vn fa, .slice go u.dn gb, .int .u8 ((u2.kd.toNat : Nat) : Int), .int .i64 u2.ix, .int .i64 u2.ce, .int .i64 u2.st, .slice fo' u2.vn fa', .slice go' u2.dn gb'] 240) := by show At _ _ _ _ _; rw [hwd]; exact at_all (HBK.out.below HC.out) (.int .u8 ((u.kd.toNat : Nat) : Int)) (.int .i64 u.ix) (.int .i64 u.ce) (.int .i64 u.st) (.slice fo u.vn fa) (.slice go u.dn gb) (.int .u8 ((u2.kd.toNat : Nat) : Int)) (.int .i64 u2.ix) (.int .i64 u2.ce) (.int .i64 u2.st) (.slice fo' u2.vn fa') (.slice go' u2.dn gb')
        have HG : Hid (Got w2.heap.size wd u2 fo' fa' go' gb') := by show Got _ _ _ _ _ _ _; rw [f5, f6, f7, f8, hu2]; exact (HGB.out.only kd).below HWD.out
        have HD2 : Hid (At w wd (w.heap.size + 1 + 1) #[.int .u8 0, .int .i64 0, .int .i64 0, .int .i64 0, .slice none 0 0, .slice none 0 0] 83) := (Lw2.out wa HA.out).below HWD.out
        have HD : Hid (Below w.heap.size w wd) := below_then (below_then Bw.out HA.out) HWD.out
        clear f1 f2 f3 f4 f5 f6 f7 f8 HGA HGB hu hu2 HWD
        have q3 := HBK.out.below HC.out
        have s0 := q3.cell (i := 0) rfl
        have s1 := q3.cell (i := 1) rfl
        have s2 := q3.cell (i := 2) rfl
        have s3 := q3.cell (i := 3) rfl
        have s4 := q3.cell (i := 4) rfl
        have s5 := q3.cell (i := 5) rfl
        have s6 := q3.cell (i := 6) rfl
        have s7 := q3.cell (i := 7) rfl
        have s8 := q3.cell (i := 8) rfl
        have s9 := q3.cell (i := 9) rfl
        have s10 := q3.cell (i := 10) rfl
        have s11 := q3.cell (i := 11) rfl
        have sf := q3.free
        clear q3
        go_wp2_with fail
        rw [<- hwd]
        clear hwd s0 s1 s2 s3 s4 s5 s6 s7 s8 s9 s10 s11 sf
        refine (HGR.out _ fo fa go gb fo' fa' go' gb').mono ?_
        rintro e we ⟨rfl, he⟩
        have HE : Hid (Below wd.heap.size wd we) := he
        clear he
        have q2 := HD2.out.below HE.out
        have q3 := HD3.out.below HE.out
        have r0 := q2.cell (i := 0) rfl
        have r1 := q2.cell (i := 1) rfl
        have r2 := q2.cell (i := 2) rfl
        have r3 := q2.cell (i := 3) rfl
        have r4 := q2.cell (i := 4) rfl
        have r5 := q2.cell (i := 5) rfl
        have rf := q2.free
        have s6 := q3.cell (i := 6) rfl
        have s7 := q3.cell (i := 7) rfl
        have s8 := q3.cell (i := 8) rfl
        have s9 := q3.cell (i := 9) rfl
        have s10 := q3.cell (i := 10) rfl
        have s11 := q3.cell (i := 11) rfl
        have nq : ¬ wa.heap.size = w.heap.size + 1 + 1 := by have := HA.out.size; have := HS2.out; omega
        have nq2 : ¬ w.heap.size + 1 + 1 = wa.heap.size := by omega
        clear q2 q3
        go_wp2_with fail
        go_region_held3 (fun v => v.cell? ⟨wa.heap.size, 6, none⟩ = some (.int .u8 ((u2.kd.toNat : Nat) : Int)) /\ v.cell? ⟨wa.heap.size, 7, none⟩ = some (.int .i64 u2.ix) /\ v.cell? ⟨wa.heap.size, 8, none⟩ = some (.int .i64 u2.ce) /\ v.cell? ⟨wa.heap.size, 9, none⟩ = some (.int .i64 u2.st) /\ v.cell? ⟨wa.heap.size, 10, none⟩ = some (.slice fo' u2.vn fa') /\ v.cell? ⟨wa.heap.size, 11, none⟩ = some (.slice go' u2.dn gb')) (go_keep) (fail)
        go_wp2_with fail
        refine bodyPost_ret (v := .tuple #[.int .i64 1, .agg #[.int .u8 ((u2.kd.toNat : Nat) : Int), .int .i64 u2.ix, .int .i64 u2.ce, .int .i64 u2.st, .slice fo' u2.vn fa', .slice go' u2.dn gb'], .bool true, .int .i64 0]) (by simp [results, Tryz.results150, go_sem, r0, r1, r2, r3, r4, r5]) rfl ?_
        obtain ⟨g1, g2, g3⟩ := HRES.out
        rw [g1, g2, g3]
        have hal := below_then HD.out HE.out
        have ho := (only_lo we (w.heap.size + 1 + 1) (.int .u8 ((u2.kd.toNat : Nat) : Int)) (.int .i64 u2.ix) (.int .i64 u2.ce) (.int .i64 u2.st) (.slice fo' u2.vn fa') (.slice go' u2.dn gb')).drew
        exact ⟨fo', fa', go', gb', rfl, ((HG.out.below HE.out).stay ho (by have := HS2.out; omega)).mono (by have := HS2.out; omega), hal.trans (ho.below (fun i hi => by omega) hal.size)⟩
    · rw [if_neg hlt, if_neg hlt] at hrs
      simp only [if_neg hlt] at HGR
      clear hlt
      by_cases hz : u.ce = 0
      · have hzb : (u.ce != 0) = false := by simp [hz]
        rw [decide_eq_false (p := ¬ u.ce = 0) (fun h => h hz)] at hrs
        have HRES : Hid _ := hrs
        clear hrs hz
        go_enter Tryz.func150, Tryz.ntmps150
        go_wp2_with fail
        rw [<- hw0, <- hw1, <- hw2]
        clear hw0 bw0 zw0 hw1 bw1 zw1 hw2 bw2 zw2
        refine (HR.out _ Bw.out).mono ?_
        rintro e wa ⟨ao, ca, bo, cb, ao', ca', bo', cb', rfl, hga, hgb, ha⟩
        have HGA : Hid (Got w2.heap.size wa s ao ca bo cb) := hga
        have HGB : Hid (Got w2.heap.size wa t ao' ca' bo' cb') := hgb
        have HA : Hid (Below w2.heap.size w2 wa) := ha
        clear hga hgb ha
        obtain ⟨wb, hwb⟩ : ∃ wb, wb = wa.alloc (.cells #[.int .u8 ((s.kd.toNat : Nat) : Int), .int .i64 s.ix, .int .i64 s.ce, .int .i64 s.st, .slice ao s.vn ca, .slice bo s.dn cb, .int .u8 ((t.kd.toNat : Nat) : Int), .int .i64 t.ix, .int .i64 t.ce, .int .i64 t.st, .slice ao' t.vn ca', .slice bo' t.dn cb'] 240) := ⟨_, rfl⟩
        have HB : Hid (Below wa.heap.size wa wb) := by show Below _ _ _; rw [hwb]; exact below_alloc _ _
        have HBK : Hid (At w wb wa.heap.size #[.int .u8 ((s.kd.toNat : Nat) : Int), .int .i64 s.ix, .int .i64 s.ce, .int .i64 s.st, .slice ao s.vn ca, .slice bo s.dn cb, .int .u8 ((t.kd.toNat : Nat) : Int), .int .i64 t.ix, .int .i64 t.ce, .int .i64 t.st, .slice ao' t.vn ca', .slice bo' t.dn cb'] 240) := at_made (below_then Bw.out HA.out) hwb
        go_wp2_with fail
        rw [<- hwb]
        clear hwb
        refine (HON.out _ ao ca bo cb ao' ca' bo' cb').mono ?_
        rintro e wc ⟨rfl, hc⟩
        have HC : Hid (Below wb.heap.size wb wc) := hc
        clear hc
        obtain ⟨fo, fa, go, gb, fo', fa', go', gb', hf⟩ : ∃ fo fa go gb fo' fa' go' gb', fo = keA (s.kd == kd) ao /\ fa = keN (s.kd == kd) ca /\ go = keA (s.kd == kd) bo /\ gb = keN (s.kd == kd) cb /\ fo' = keA (t.kd == kd) ao' /\ fa' = keN (t.kd == kd) ca' /\ go' = keA (t.kd == kd) bo' /\ gb' = keN (t.kd == kd) cb' := ⟨_, _, _, _, _, _, _, _, rfl, rfl, rfl, rfl, rfl, rfl, rfl, rfl⟩
        obtain ⟨f1, f2, f3, f4, f5, f6, f7, f8⟩ := hf
        rw [<- f1, <- f2, <- f3, <- f4, <- f5, <- f6, <- f7, <- f8]
        obtain ⟨wd, hwd⟩ : ∃ wd, wd = ((((((((((((wc.setCell ⟨wa.heap.size, 0, none⟩ (.int .u8 ((u.kd.toNat : Nat) : Int))).setCell ⟨wa.heap.size, 1, none⟩ (.int .i64 u.ix)).setCell ⟨wa.heap.size, 2, none⟩ (.int .i64 u.ce)).setCell ⟨wa.heap.size, 3, none⟩ (.int .i64 u.st)).setCell ⟨wa.heap.size, 4, none⟩ (.slice fo u.vn fa)).setCell ⟨wa.heap.size, 5, none⟩ (.slice go u.dn gb)).setCell ⟨wa.heap.size, 6, none⟩ (.int .u8 ((u2.kd.toNat : Nat) : Int))).setCell ⟨wa.heap.size, 7, none⟩ (.int .i64 u2.ix)).setCell ⟨wa.heap.size, 8, none⟩ (.int .i64 u2.ce)).setCell ⟨wa.heap.size, 9, none⟩ (.int .i64 u2.st)).setCell ⟨wa.heap.size, 10, none⟩ (.slice fo' u2.vn fa')).setCell ⟨wa.heap.size, 11, none⟩ (.slice go' u2.dn gb')) := ⟨_, rfl⟩
        have HWD : Hid (Below wa.heap.size wa wd) := by show Below _ _ _; rw [hwd]; have hbc := below_then HB.out HC.out; exact hbc.trans ((only_all wc (wa.heap.size) (.int .u8 ((u.kd.toNat : Nat) : Int)) (.int .i64 u.ix) (.int .i64 u.ce) (.int .i64 u.st) (.slice fo u.vn fa) (.slice go u.dn gb) (.int .u8 ((u2.kd.toNat : Nat) : Int)) (.int .i64 u2.ix) (.int .i64 u2.ce) (.int .i64 u2.st) (.slice fo' u2.vn fa') (.slice go' u2.dn gb')).below (fun i hi => by omega) hbc.size)
        have HD3 : Hid (At w wd (wa.heap.size) #[.int .u8 ((u.kd.toNat : Nat) : Int), .int .i64 u.ix, .int .i64 u.ce, .int .i64 u.st, .slice fo u.vn fa, .slice go u.dn gb, .int .u8 ((u2.kd.toNat : Nat) : Int), .int .i64 u2.ix, .int .i64 u2.ce, .int .i64 u2.st, .slice fo' u2.vn fa', .slice go' u2.dn gb'] 240) := by show At _ _ _ _ _; rw [hwd]; exact at_all (HBK.out.below HC.out) (.int .u8 ((u.kd.toNat : Nat) : Int)) (.int .i64 u.ix) (.int .i64 u.ce) (.int .i64 u.st) (.slice fo u.vn fa) (.slice go u.dn gb) (.int .u8 ((u2.kd.toNat : Nat) : Int)) (.int .i64 u2.ix) (.int .i64 u2.ce) (.int .i64 u2.st) (.slice fo' u2.vn fa') (.slice go' u2.dn gb')
        have HG : Hid (Got w2.heap.size wd u fo fa go gb) := by show Got _ _ _ _ _ _ _; rw [f1, f2, f3, f4, hu]; exact (HGA.out.only kd).below HWD.out
        have HD2 : Hid (At w wd (w.heap.size + 1 + 1) #[.int .u8 0, .int .i64 0, .int .i64 0, .int .i64 0, .slice none 0 0, .slice none 0 0] 83) := (Lw2.out wa HA.out).below HWD.out
        have HD : Hid (Below w.heap.size w wd) := below_then (below_then Bw.out HA.out) HWD.out
        clear f1 f2 f3 f4 f5 f6 f7 f8 HGA HGB hu hu2 HWD
        have q3 := HBK.out.below HC.out
        have s0 := q3.cell (i := 0) rfl
        have s1 := q3.cell (i := 1) rfl
        have s2 := q3.cell (i := 2) rfl
        have s3 := q3.cell (i := 3) rfl
        have s4 := q3.cell (i := 4) rfl
        have s5 := q3.cell (i := 5) rfl
        have s6 := q3.cell (i := 6) rfl
        have s7 := q3.cell (i := 7) rfl
        have s8 := q3.cell (i := 8) rfl
        have s9 := q3.cell (i := 9) rfl
        have s10 := q3.cell (i := 10) rfl
        have s11 := q3.cell (i := 11) rfl
        have sf := q3.free
        clear q3
        go_wp2_with fail
        rw [<- hwd]
        clear hwd s0 s1 s2 s3 s4 s5 s6 s7 s8 s9 s10 s11 sf
        refine (HGR.out _ fo fa go gb fo' fa' go' gb').mono ?_
        rintro e we ⟨rfl, he⟩
        have HE : Hid (Below wd.heap.size wd we) := he
        clear he
        have q2 := HD2.out.below HE.out
        have q3 := HD3.out.below HE.out
        have r0 := q2.cell (i := 0) rfl
        have r1 := q2.cell (i := 1) rfl
        have r2 := q2.cell (i := 2) rfl
        have r3 := q2.cell (i := 3) rfl
        have r4 := q2.cell (i := 4) rfl
        have r5 := q2.cell (i := 5) rfl
        have rf := q2.free
        have s0 := q3.cell (i := 0) rfl
        have s1 := q3.cell (i := 1) rfl
        have s2 := q3.cell (i := 2) rfl
        have s3 := q3.cell (i := 3) rfl
        have s4 := q3.cell (i := 4) rfl
        have s5 := q3.cell (i := 5) rfl
        have nq : ¬ wa.heap.size = w.heap.size + 1 + 1 := by have := HA.out.size; have := HS2.out; omega
        have nq2 : ¬ w.heap.size + 1 + 1 = wa.heap.size := by omega
        clear q2 q3
        go_wp2_with fail
        go_region_held3 (fun v => v.cell? ⟨wa.heap.size, 0, none⟩ = some (.int .u8 ((u.kd.toNat : Nat) : Int)) /\ v.cell? ⟨wa.heap.size, 1, none⟩ = some (.int .i64 u.ix) /\ v.cell? ⟨wa.heap.size, 2, none⟩ = some (.int .i64 u.ce) /\ v.cell? ⟨wa.heap.size, 3, none⟩ = some (.int .i64 u.st) /\ v.cell? ⟨wa.heap.size, 4, none⟩ = some (.slice fo u.vn fa) /\ v.cell? ⟨wa.heap.size, 5, none⟩ = some (.slice go u.dn gb)) (go_keep) (fail)
        go_wp2_with fail
        refine bodyPost_ret (v := .tuple #[.int .i64 0, .agg #[.int .u8 ((u.kd.toNat : Nat) : Int), .int .i64 u.ix, .int .i64 u.ce, .int .i64 u.st, .slice fo u.vn fa, .slice go u.dn gb], .bool false, .int .i64 0]) (by simp [results, Tryz.results150, go_sem, r0, r1, r2, r3, r4, r5]) rfl ?_
        obtain ⟨g1, g2, g3⟩ := HRES.out
        rw [g1, g2, g3]
        have hal := below_then HD.out HE.out
        have ho := (only_lo we (w.heap.size + 1 + 1) (.int .u8 ((u.kd.toNat : Nat) : Int)) (.int .i64 u.ix) (.int .i64 u.ce) (.int .i64 u.st) (.slice fo u.vn fa) (.slice go u.dn gb)).drew
        exact ⟨fo, fa, go, gb, rfl, ((HG.out.below HE.out).stay ho (by have := HS2.out; omega)).mono (by have := HS2.out; omega), hal.trans (ho.below (fun i hi => by omega) hal.size)⟩
      · have hzb : (u.ce != 0) = true := by simpa using hz
        rw [decide_eq_true (p := ¬ u.ce = 0) hz] at hrs
        have HRES : Hid _ := hrs
        clear hrs hz
        go_enter Tryz.func150, Tryz.ntmps150
        go_wp2_with fail
        rw [<- hw0, <- hw1, <- hw2]
        clear hw0 bw0 zw0 hw1 bw1 zw1 hw2 bw2 zw2
        refine (HR.out _ Bw.out).mono ?_
        rintro e wa ⟨ao, ca, bo, cb, ao', ca', bo', cb', rfl, hga, hgb, ha⟩
        have HGA : Hid (Got w2.heap.size wa s ao ca bo cb) := hga
        have HGB : Hid (Got w2.heap.size wa t ao' ca' bo' cb') := hgb
        have HA : Hid (Below w2.heap.size w2 wa) := ha
        clear hga hgb ha
        obtain ⟨wb, hwb⟩ : ∃ wb, wb = wa.alloc (.cells #[.int .u8 ((s.kd.toNat : Nat) : Int), .int .i64 s.ix, .int .i64 s.ce, .int .i64 s.st, .slice ao s.vn ca, .slice bo s.dn cb, .int .u8 ((t.kd.toNat : Nat) : Int), .int .i64 t.ix, .int .i64 t.ce, .int .i64 t.st, .slice ao' t.vn ca', .slice bo' t.dn cb'] 240) := ⟨_, rfl⟩
        have HB : Hid (Below wa.heap.size wa wb) := by show Below _ _ _; rw [hwb]; exact below_alloc _ _
        have HBK : Hid (At w wb wa.heap.size #[.int .u8 ((s.kd.toNat : Nat) : Int), .int .i64 s.ix, .int .i64 s.ce, .int .i64 s.st, .slice ao s.vn ca, .slice bo s.dn cb, .int .u8 ((t.kd.toNat : Nat) : Int), .int .i64 t.ix, .int .i64 t.ce, .int .i64 t.st, .slice ao' t.vn ca', .slice bo' t.dn cb'] 240) := at_made (below_then Bw.out HA.out) hwb
        go_wp2_with fail
        rw [<- hwb]
        clear hwb
        refine (HON.out _ ao ca bo cb ao' ca' bo' cb').mono ?_
        rintro e wc ⟨rfl, hc⟩
        have HC : Hid (Below wb.heap.size wb wc) := hc
        clear hc
        obtain ⟨fo, fa, go, gb, fo', fa', go', gb', hf⟩ : ∃ fo fa go gb fo' fa' go' gb', fo = keA (s.kd == kd) ao /\ fa = keN (s.kd == kd) ca /\ go = keA (s.kd == kd) bo /\ gb = keN (s.kd == kd) cb /\ fo' = keA (t.kd == kd) ao' /\ fa' = keN (t.kd == kd) ca' /\ go' = keA (t.kd == kd) bo' /\ gb' = keN (t.kd == kd) cb' := ⟨_, _, _, _, _, _, _, _, rfl, rfl, rfl, rfl, rfl, rfl, rfl, rfl⟩
        obtain ⟨f1, f2, f3, f4, f5, f6, f7, f8⟩ := hf
        rw [<- f1, <- f2, <- f3, <- f4, <- f5, <- f6, <- f7, <- f8]
        obtain ⟨wd, hwd⟩ : ∃ wd, wd = ((((((((((((wc.setCell ⟨wa.heap.size, 0, none⟩ (.int .u8 ((u.kd.toNat : Nat) : Int))).setCell ⟨wa.heap.size, 1, none⟩ (.int .i64 u.ix)).setCell ⟨wa.heap.size, 2, none⟩ (.int .i64 u.ce)).setCell ⟨wa.heap.size, 3, none⟩ (.int .i64 u.st)).setCell ⟨wa.heap.size, 4, none⟩ (.slice fo u.vn fa)).setCell ⟨wa.heap.size, 5, none⟩ (.slice go u.dn gb)).setCell ⟨wa.heap.size, 6, none⟩ (.int .u8 ((u2.kd.toNat : Nat) : Int))).setCell ⟨wa.heap.size, 7, none⟩ (.int .i64 u2.ix)).setCell ⟨wa.heap.size, 8, none⟩ (.int .i64 u2.ce)).setCell ⟨wa.heap.size, 9, none⟩ (.int .i64 u2.st)).setCell ⟨wa.heap.size, 10, none⟩ (.slice fo' u2.vn fa')).setCell ⟨wa.heap.size, 11, none⟩ (.slice go' u2.dn gb')) := ⟨_, rfl⟩
        have HWD : Hid (Below wa.heap.size wa wd) := by show Below _ _ _; rw [hwd]; have hbc := below_then HB.out HC.out; exact hbc.trans ((only_all wc (wa.heap.size) (.int .u8 ((u.kd.toNat : Nat) : Int)) (.int .i64 u.ix) (.int .i64 u.ce) (.int .i64 u.st) (.slice fo u.vn fa) (.slice go u.dn gb) (.int .u8 ((u2.kd.toNat : Nat) : Int)) (.int .i64 u2.ix) (.int .i64 u2.ce) (.int .i64 u2.st) (.slice fo' u2.vn fa') (.slice go' u2.dn gb')).below (fun i hi => by omega) hbc.size)
        have HD3 : Hid (At w wd (wa.heap.size) #[.int .u8 ((u.kd.toNat : Nat) : Int), .int .i64 u.ix, .int .i64 u.ce, .int .i64 u.st, .slice fo u.vn fa, .slice go u.dn gb, .int .u8 ((u2.kd.toNat : Nat) : Int), .int .i64 u2.ix, .int .i64 u2.ce, .int .i64 u2.st, .slice fo' u2.vn fa', .slice go' u2.dn gb'] 240) := by show At _ _ _ _ _; rw [hwd]; exact at_all (HBK.out.below HC.out) (.int .u8 ((u.kd.toNat : Nat) : Int)) (.int .i64 u.ix) (.int .i64 u.ce) (.int .i64 u.st) (.slice fo u.vn fa) (.slice go u.dn gb) (.int .u8 ((u2.kd.toNat : Nat) : Int)) (.int .i64 u2.ix) (.int .i64 u2.ce) (.int .i64 u2.st) (.slice fo' u2.vn fa') (.slice go' u2.dn gb')
        have HG : Hid (Got w2.heap.size wd u fo fa go gb) := by show Got _ _ _ _ _ _ _; rw [f1, f2, f3, f4, hu]; exact (HGA.out.only kd).below HWD.out
        have HD2 : Hid (At w wd (w.heap.size + 1 + 1) #[.int .u8 0, .int .i64 0, .int .i64 0, .int .i64 0, .slice none 0 0, .slice none 0 0] 83) := (Lw2.out wa HA.out).below HWD.out
        have HD : Hid (Below w.heap.size w wd) := below_then (below_then Bw.out HA.out) HWD.out
        clear f1 f2 f3 f4 f5 f6 f7 f8 HGA HGB hu hu2 HWD
        have q3 := HBK.out.below HC.out
        have s0 := q3.cell (i := 0) rfl
        have s1 := q3.cell (i := 1) rfl
        have s2 := q3.cell (i := 2) rfl
        have s3 := q3.cell (i := 3) rfl
        have s4 := q3.cell (i := 4) rfl
        have s5 := q3.cell (i := 5) rfl
        have s6 := q3.cell (i := 6) rfl
        have s7 := q3.cell (i := 7) rfl
        have s8 := q3.cell (i := 8) rfl
        have s9 := q3.cell (i := 9) rfl
        have s10 := q3.cell (i := 10) rfl
        have s11 := q3.cell (i := 11) rfl
        have sf := q3.free
        clear q3
        go_wp2_with fail
        rw [<- hwd]
        clear hwd s0 s1 s2 s3 s4 s5 s6 s7 s8 s9 s10 s11 sf
        refine (HGR.out _ fo fa go gb fo' fa' go' gb').mono ?_
        rintro e we ⟨rfl, he⟩
        have HE : Hid (Below wd.heap.size wd we) := he
        clear he
        have q2 := HD2.out.below HE.out
        have q3 := HD3.out.below HE.out
        have r0 := q2.cell (i := 0) rfl
        have r1 := q2.cell (i := 1) rfl
        have r2 := q2.cell (i := 2) rfl
        have r3 := q2.cell (i := 3) rfl
        have r4 := q2.cell (i := 4) rfl
        have r5 := q2.cell (i := 5) rfl
        have rf := q2.free
        have s0 := q3.cell (i := 0) rfl
        have s1 := q3.cell (i := 1) rfl
        have s2 := q3.cell (i := 2) rfl
        have s3 := q3.cell (i := 3) rfl
        have s4 := q3.cell (i := 4) rfl
        have s5 := q3.cell (i := 5) rfl
        have nq : ¬ wa.heap.size = w.heap.size + 1 + 1 := by have := HA.out.size; have := HS2.out; omega
        have nq2 : ¬ w.heap.size + 1 + 1 = wa.heap.size := by omega
        clear q2 q3
        go_wp2_with fail
        go_region_held3 (fun v => v.cell? ⟨wa.heap.size, 0, none⟩ = some (.int .u8 ((u.kd.toNat : Nat) : Int)) /\ v.cell? ⟨wa.heap.size, 1, none⟩ = some (.int .i64 u.ix) /\ v.cell? ⟨wa.heap.size, 2, none⟩ = some (.int .i64 u.ce) /\ v.cell? ⟨wa.heap.size, 3, none⟩ = some (.int .i64 u.st) /\ v.cell? ⟨wa.heap.size, 4, none⟩ = some (.slice fo u.vn fa) /\ v.cell? ⟨wa.heap.size, 5, none⟩ = some (.slice go u.dn gb)) (go_keep) (fail)
        go_wp2_with fail
        refine bodyPost_ret (v := .tuple #[.int .i64 0, .agg #[.int .u8 ((u.kd.toNat : Nat) : Int), .int .i64 u.ix, .int .i64 u.ce, .int .i64 u.st, .slice fo u.vn fa, .slice go u.dn gb], .bool true, .int .i64 0]) (by simp [results, Tryz.results150, go_sem, r0, r1, r2, r3, r4, r5]) rfl ?_
        obtain ⟨g1, g2, g3⟩ := HRES.out
        rw [g1, g2, g3]
        have hal := below_then HD.out HE.out
        have ho := (only_lo we (w.heap.size + 1 + 1) (.int .u8 ((u.kd.toNat : Nat) : Int)) (.int .i64 u.ix) (.int .i64 u.ce) (.int .i64 u.st) (.slice fo u.vn fa) (.slice go u.dn gb)).drew
        exact ⟨fo, fa, go, gb, rfl, ((HG.out.below HE.out).stay ho (by have := HS2.out; omega)).mono (by have := HS2.out; omega), hal.trans (ho.below (fun i hi => by omega) hal.size)⟩
  · have hne : ¬ E = 0 := by rw [HEE]; exact eC
    subst HEE
    have hq : (E != 0) = true := by simpa using eC
    go_enter Tryz.func150, Tryz.ntmps150
    go_wp2_with fail
    rw [<- hw0, <- hw1, <- hw2]
    clear hw0 bw0 zw0 hw1 bw1 zw1 hw2 bw2 zw2
    refine (HR.out _ Bw.out).mono ?_
    rintro e wa ⟨ao, ca, bo, cb, ao', ca', bo', cb', rfl, hga, hgb, ha⟩
    have HGA : Hid (Got w2.heap.size wa s ao ca bo cb) := hga
    have HGB : Hid (Got w2.heap.size wa t ao' ca' bo' cb') := hgb
    have HA : Hid (Below w2.heap.size w2 wa) := ha
    clear hga hgb ha
    have q2 := Lw2.out wa HA.out
    have r0 := fun o => (q2.alloc o).cell (i := 0) rfl
    have r1 := fun o => (q2.alloc o).cell (i := 1) rfl
    have r2 := fun o => (q2.alloc o).cell (i := 2) rfl
    have r3 := fun o => (q2.alloc o).cell (i := 3) rfl
    have r4 := fun o => (q2.alloc o).cell (i := 4) rfl
    have r5 := fun o => (q2.alloc o).cell (i := 5) rfl
    have rf := fun o => (q2.alloc o).free
    clear q2
    go_wp2_with fail
    refine bodyPost_ret (v := .tuple #[.int .i64 0, .agg #[.int .u8 0, .int .i64 0, .int .i64 0, .int .i64 0, .slice none 0 0, .slice none 0 0], .bool false, .int .i64 E]) (by simp [results, Tryz.results150, go_sem, r0, r1, r2, r3, r4, r5]) rfl ?_
    obtain ⟨rfl, rfl⟩ := HZ2.out (by first | assumption | decide | trivial)
    rw [(gin_z kd).1, (gin_z kd).2.1, (gin_z kd).2.2]
    refine ⟨none, 0, none, 0, rfl, got_z _ _, ?_⟩
    have hal := b_alloc (below_then Bw.out HA.out) (.cells #[.int .u8 ((s.kd.toNat : Nat) : Int), .int .i64 s.ix, .int .i64 s.ce, .int .i64 s.st, .slice ao s.vn ca, .slice bo s.dn cb, .int .u8 ((t.kd.toNat : Nat) : Int), .int .i64 t.ix, .int .i64 t.ce, .int .i64 t.st, .slice ao' t.vn ca', .slice bo' t.dn cb'] 240)
    exact hal.trans ((only_lo (wa.alloc (.cells #[.int .u8 ((s.kd.toNat : Nat) : Int), .int .i64 s.ix, .int .i64 s.ce, .int .i64 s.st, .slice ao s.vn ca, .slice bo s.dn cb, .int .u8 ((t.kd.toNat : Nat) : Int), .int .i64 t.ix, .int .i64 t.ce, .int .i64 t.st, .slice ao' t.vn ca', .slice bo' t.dn cb'] 240)) (w.heap.size + 1 + 1) (.int .u8 0) (.int .i64 0) (.int .i64 0) (.int .i64 0) (.slice none 0 0) (.slice none 0 0)).below (fun i hi => by omega) hal.size)
end Go.Proofs.YtngcdlodcdgcaaaGreat
