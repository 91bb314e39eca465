import Derived.Test.YtngcdlodcdgcaaaGreatZk27
namespace Go.Proofs.YtngcdlodcdgcaaaGreat
open Go.RowKit
def erC (x : Int) (N : Nat) (c : Int) (n0 n1 : Nat) (kv ix : Int) : Int := if erT x N c n0 n1 = 0 then (if (kv = 1 \/ kv = 2) /\ 0 <= ix /\ ix < (N : Int) then 0 else 2) else erT x N c n0 n1
def he (E : Int) (N : Nat) (c ix : Int) (n : Nat) (F : Nat -> UInt8) : Sl := if E = 0 then ofI ix (slQ (isS N c n F) N c F) else zSl
set_option maxHeartbeats 16000000 in
set_option maxRecDepth 100000 in
theorem checked_any {k r c q : Int} {N W : Nat} {x : Int} (h : Par k r c q N W x) (w : World) (a0 : Option Addr) (n0 c0 : Nat) (F0 : Nat -> UInt8) (a1 : Option Addr) (n1 c1 : Nat) (F1 : Nat -> UInt8) (h0 : Bec w a0 n0 c0 F0) (h1 : Bec w a1 n1 c1 F1) (kv ix : Int) (E : Int) (hE : erC x N c n0 n1 kv ix = E) (z0 z1 : Sl) (hz0 : he E N c ix n0 F0 = z0) (hz1 : he E N c ix n1 F1 = z1) :
    Calls Tryz.prog 157 #[.agg #[.int .i64 k, .int .i64 r, .int .i64 c, .int .i64 q], .agg #[.slice a0 n0 c0, .slice a1 n1 c1], .int .u8 kv, .int .i64 ix] w (AnsT w E z0 z1) := by
  obtain ⟨w0, hw0⟩ : ∃ w0, w0 = w.alloc (.cells #[.int .i64 k, .int .i64 r, .int .i64 c, .int .i64 q] 23) := ⟨_, rfl⟩
  have bw0 : Below w.heap.size w w0 := by rw [hw0]; exact below_alloc _ _
  have zw0 : w0.heap.size = w.heap.size + 1 := by rw [hw0]; simp
  obtain ⟨w1, hw1⟩ : ∃ w1, w1 = w0.alloc (.cells #[.slice a0 n0 c0, .slice a1 n1 c1] 127) := ⟨_, rfl⟩
  have bw1 : Below w0.heap.size w0 w1 := by rw [hw1]; exact below_alloc _ _
  have zw1 : w1.heap.size = w.heap.size + 1 + 1 := by rw [hw1]; simp [zw0]
  obtain ⟨w2, hw2⟩ : ∃ w2, w2 = w1.alloc (.cells #[.int .u8 0, .int .i64 0, .int .i64 0, .int .i64 0, .slice none 0 0, .slice none 0 0, .int .u8 0, .int .i64 0, .int .i64 0, .int .i64 0, .slice none 0 0, .slice none 0 0] 240) := ⟨_, rfl⟩
  have bw2 : Below w1.heap.size w1 w2 := by rw [hw2]; exact below_alloc _ _
  have zw2 : w2.heap.size = w.heap.size + 1 + 1 + 1 := by rw [hw2]; simp [zw1]
  have Bw : Hid (Below w.heap.size w w2) := (below_then (below_then bw0 bw1) bw2)
  have Lw0 : Hid (∀ v, Below w2.heap.size w2 v -> At w v (w.heap.size) #[.int .i64 k, .int .i64 r, .int .i64 c, .int .i64 q] 23) := fun v hv => by exact (at_made (Below.refl _ _) hw0).below (below_then (below_then bw1 bw2) hv)
  have Lw1 : Hid (∀ v, Below w2.heap.size w2 v -> At w v (w.heap.size + 1) #[.slice a0 n0 c0, .slice a1 n1 c1] 127) := fun v hv => by rw [<- zw0]; exact (at_made bw0 hw1).below (below_then bw2 hv)
  have Lw2 : Hid (∀ v, Below w2.heap.size w2 v -> At w v (w.heap.size + 1 + 1) #[.int .u8 0, .int .i64 0, .int .i64 0, .int .i64 0, .slice none 0 0, .slice none 0 0, .int .u8 0, .int .i64 0, .int .i64 0, .int .i64 0, .slice none 0 0, .slice none 0 0] 240) := fun v hv => by rw [<- zw1]; exact (at_made (below_then bw0 bw1) hw2).below (below_then (Below.refl _ _) hv)
  obtain ⟨T, hT⟩ : ∃ T, erT x N c n0 n1 = T := ⟨_, rfl⟩
  obtain ⟨s, hs⟩ : ∃ s, rd2 T N c n0 F0 = s := ⟨_, rfl⟩
  obtain ⟨t, ht⟩ : ∃ t, rd2 T N c n1 F1 = t := ⟨_, rfl⟩
  have HR : Hid (∀ v, Below w.heap.size w v -> Calls Tryz.prog 167 #[.agg #[.int .i64 k, .int .i64 r, .int .i64 c, .int .i64 q], .agg #[.slice a0 n0 c0, .slice a1 n1 c1]] v (AnsT v T s t)) := fun v hv => read2_any h v a0 n0 c0 F0 a1 n1 c1 F1 (h0.below hv) (h1.below hv) T hT s t hs ht
  have HS2 : Hid (w2.heap.size = w.heap.size + 1 + 1 + 1) := zw2
  have HZ2 : Hid (¬ E = 0 -> z0 = zSl /\ z1 = zSl) := fun e => by
    rw [<- hz0, <- hz1]; unfold he; rw [if_neg e, if_neg e]; exact ⟨rfl, rfl⟩
  have HZ0 : Hid (E = 0 -> T = 0 -> ofI ix s = z0 /\ ofI ix t = z1) := fun e e2 => by
    rw [<- hz0, <- hz1, <- hs, <- ht]; unfold he rd2; rw [if_pos e, if_pos e, if_pos e2, if_pos e2]; exact ⟨rfl, rfl⟩
  have HOF : Hid (∀ v (ao : Option Addr) (ca : Nat) (bo : Option Addr) (cb : Nat) (ao' : Option Addr) (ca' : Nat) (bo' : Option Addr) (cb' : Nat), Calls Tryz.prog 168 #[bov s ao ca bo cb t ao' ca' bo' cb', .int .i64 ix] v fun e w' => e = .returned (bov (ofI ix s) (keA (s.ix == ix) ao) (keN (s.ix == ix) ca) (keA (s.ix == ix) bo) (keN (s.ix == ix) cb) (ofI ix t) (keA (t.ix == ix) ao') (keN (t.ix == ix) ca') (keA (t.ix == ix) bo') (keN (t.ix == ix) cb')) /\ Below v.heap.size v w') := fun v ao ca bo cb ao' ca' bo' cb' => of_any v s t ao ca bo cb ao' ca' bo' cb' ix
  have hN := h.few
  have hNs : T = 0 -> (N : Int) = k + r := fun e => by
    have hx : x = 0 := erQ_zero (erT_zero (hT.trans e)).1
    subst hx; exact h.sum
  have HEE : E = if T = 0 then (if (kv = 1 \/ kv = 2) /\ 0 <= ix /\ ix < (N : Int) then 0 else 2) else T := by rw [<- hE, <- hT]; rfl
  clear hE hz0 hz1 hs ht hT h h0 h1
  unfold AnsT bov at HR
  unfold bov at HOF
  unfold AnsT bov
  by_cases eT : T = 0
  · subst eT
    rw [if_pos rfl] at HEE
    have hNs := hNs rfl
    by_cases kk : kv = 1 \/ kv = 2
    · by_cases ii : 0 <= ix /\ ix < (N : Int)
      · rw [if_pos ⟨kk, ii⟩] at HEE
        subst HEE
        obtain ⟨i1, i2⟩ := ii
        have i3 : ¬ ix < 0 := by omega
        have i4 : ¬ k + r <= ix := by omega
        clear i1 i2
        rcases kk with rfl | rfl
        · skip
          skip
          go_enter Tryz.func157, Tryz.ntmps157
          go_wp2_with fail
          rw [<- hw0, <- hw1, <- hw2]
          clear hw0 bw0 zw0 hw1 bw1 zw1 hw2 bw2 zw2
          refine (HR.out _ Bw.out).mono ?_
          rintro e wa ⟨ao, ca, bo, cb, ao', ca', bo', cb', rfl, hga, hgb, ha⟩
          have HGA : Hid (Got w2.heap.size wa s ao ca bo cb) := hga
          have HGB : Hid (Got w2.heap.size wa t ao' ca' bo' cb') := hgb
          have HA : Hid (Below w2.heap.size w2 wa) := ha
          clear hga hgb ha
          have q0 := Lw0.out wa HA.out
          have p0 := fun o => (q0.alloc o).cell (i := 0) rfl
          have p1 := fun o => (q0.alloc o).cell (i := 1) rfl
          have p2 := fun o => (q0.alloc o).cell (i := 2) rfl
          have p3 := fun o => (q0.alloc o).cell (i := 3) rfl
          clear q0
          obtain ⟨wb, hwb⟩ : ∃ wb, wb = wa.alloc (.cells #[.int .u8 ((s.kd.toNat : Nat) : Int), .int .i64 s.ix, .int .i64 s.ce, .int .i64 s.st, .slice ao s.vn ca, .slice bo s.dn cb, .int .u8 ((t.kd.toNat : Nat) : Int), .int .i64 t.ix, .int .i64 t.ce, .int .i64 t.st, .slice ao' t.vn ca', .slice bo' t.dn cb'] 240) := ⟨_, rfl⟩
          have HB : Hid (Below wa.heap.size wa wb) := by show Below _ _ _; rw [hwb]; exact below_alloc _ _
          go_wp2_with fail
          rw [<- hwb]
          clear hwb p0 p1 p2 p3
          refine (HOF.out _ ao ca bo cb ao' ca' bo' cb').mono ?_
          rintro e wc ⟨rfl, hc⟩
          have HC : Hid (Below w2.heap.size w2 wc) := below_then (below_then HA.out HB.out) hc
          have HGC := (HGA.out.below (below_then HB.out hc)).of ix
          have HGD := (HGB.out.below (below_then HB.out hc)).of ix
          clear hc HA HB HGA HGB
          obtain ⟨u, hu⟩ : ∃ u, u = ofI ix s := ⟨_, rfl⟩
          obtain ⟨v, hv⟩ : ∃ v, v = ofI ix t := ⟨_, rfl⟩
          rw [<- hu] at HGC
          rw [<- hv] at HGD
          have HZ3 : Hid (u = z0 /\ v = z1) := by show _ /\ _; rw [hu, hv]; exact HZ0.out (by trivial) (by trivial)
          rw [<- hu, <- hv]
          clear hu hv HZ0
          obtain ⟨fo, fa, go, gb, fo', fa', go', gb', hf⟩ : ∃ fo fa go gb fo' fa' go' gb', fo = keA (s.ix == ix) ao /\ fa = keN (s.ix == ix) ca /\ go = keA (s.ix == ix) bo /\ gb = keN (s.ix == ix) cb /\ fo' = keA (t.ix == ix) ao' /\ fa' = keN (t.ix == ix) ca' /\ go' = keA (t.ix == ix) bo' /\ gb' = keN (t.ix == ix) cb' := ⟨_, _, _, _, _, _, _, _, rfl, rfl, rfl, rfl, rfl, rfl, rfl, rfl⟩
          obtain ⟨f1, f2, f3, f4, f5, f6, f7, f8⟩ := hf
          rw [<- f1, <- f2, <- f3, <- f4] at HGC
          rw [<- f5, <- f6, <- f7, <- f8] at HGD
          rw [<- f1, <- f2, <- f3, <- f4, <- f5, <- f6, <- f7, <- f8]
          clear f1 f2 f3 f4 f5 f6 f7 f8
          have HGE : Hid (Got w2.heap.size wc u fo fa go gb) := HGC
          have HGF : Hid (Got w2.heap.size wc v fo' fa' go' gb') := HGD
          clear HGC HGD
          have q2 := Lw2.out wc HC.out
          have r0 := q2.cell (i := 0) rfl
          have r1 := q2.cell (i := 1) rfl
          have r2 := q2.cell (i := 2) rfl
          have r3 := q2.cell (i := 3) rfl
          have r4 := q2.cell (i := 4) rfl
          have r5 := q2.cell (i := 5) rfl
          have r6 := q2.cell (i := 6) rfl
          have r7 := q2.cell (i := 7) rfl
          have r8 := q2.cell (i := 8) rfl
          have r9 := q2.cell (i := 9) rfl
          have r10 := q2.cell (i := 10) rfl
          have r11 := q2.cell (i := 11) rfl
          have rf := q2.free
          clear q2
          go_wp2_with fail
          refine bodyPost_ret (v := .tuple #[.agg #[.int .u8 ((u.kd.toNat : Nat) : Int), .int .i64 u.ix, .int .i64 u.ce, .int .i64 u.st, .slice fo u.vn fa, .slice go u.dn gb, .int .u8 ((v.kd.toNat : Nat) : Int), .int .i64 v.ix, .int .i64 v.ce, .int .i64 v.st, .slice fo' v.vn fa', .slice go' v.dn gb'], .int .i64 0]) (by simp [results, Tryz.results157, go_sem, r0, r1, r2, r3, r4, r5, r6, r7, r8, r9, r10, r11]) rfl ?_
          obtain ⟨rfl, rfl⟩ := HZ3.out
          have ho := only_all wc (w.heap.size + 1 + 1) (.int .u8 ((u.kd.toNat : Nat) : Int)) (.int .i64 u.ix) (.int .i64 u.ce) (.int .i64 u.st) (.slice fo u.vn fa) (.slice go u.dn gb) (.int .u8 ((v.kd.toNat : Nat) : Int)) (.int .i64 v.ix) (.int .i64 v.ce) (.int .i64 v.st) (.slice fo' v.vn fa') (.slice go' v.dn gb')
          have hbc := below_then Bw.out HC.out
          exact ⟨fo, fa, go, gb, fo', fa', go', gb', rfl, (HGE.out.stay ho (by have := HS2.out; omega)).mono (by have := HS2.out; omega), (HGF.out.stay ho (by have := HS2.out; omega)).mono (by have := HS2.out; omega), hbc.trans (ho.below (fun i hi => by omega) hbc.size)⟩
        · skip
          skip
          go_enter Tryz.func157, Tryz.ntmps157
          go_wp2_with fail
          rw [<- hw0, <- hw1, <- hw2]
          clear hw0 bw0 zw0 hw1 bw1 zw1 hw2 bw2 zw2
          refine (HR.out _ Bw.out).mono ?_
          rintro e wa ⟨ao, ca, bo, cb, ao', ca', bo', cb', rfl, hga, hgb, ha⟩
          have HGA : Hid (Got w2.heap.size wa s ao ca bo cb) := hga
          have HGB : Hid (Got w2.heap.size wa t ao' ca' bo' cb') := hgb
          have HA : Hid (Below w2.heap.size w2 wa) := ha
          clear hga hgb ha
          have q0 := Lw0.out wa HA.out
          have p0 := fun o => (q0.alloc o).cell (i := 0) rfl
          have p1 := fun o => (q0.alloc o).cell (i := 1) rfl
          have p2 := fun o => (q0.alloc o).cell (i := 2) rfl
          have p3 := fun o => (q0.alloc o).cell (i := 3) rfl
          clear q0
          obtain ⟨wb, hwb⟩ : ∃ wb, wb = wa.alloc (.cells #[.int .u8 ((s.kd.toNat : Nat) : Int), .int .i64 s.ix, .int .i64 s.ce, .int .i64 s.st, .slice ao s.vn ca, .slice bo s.dn cb, .int .u8 ((t.kd.toNat : Nat) : Int), .int .i64 t.ix, .int .i64 t.ce, .int .i64 t.st, .slice ao' t.vn ca', .slice bo' t.dn cb'] 240) := ⟨_, rfl⟩
          have HB : Hid (Below wa.heap.size wa wb) := by show Below _ _ _; rw [hwb]; exact below_alloc _ _
          go_wp2_with fail
          rw [<- hwb]
          clear hwb p0 p1 p2 p3
          refine (HOF.out _ ao ca bo cb ao' ca' bo' cb').mono ?_
          rintro e wc ⟨rfl, hc⟩
          have HC : Hid (Below w2.heap.size w2 wc) := below_then (below_then HA.out HB.out) hc
          have HGC := (HGA.out.below (below_then HB.out hc)).of ix
          have HGD := (HGB.out.below (below_then HB.out hc)).of ix
          clear hc HA HB HGA HGB
          obtain ⟨u, hu⟩ : ∃ u, u = ofI ix s := ⟨_, rfl⟩
          obtain ⟨v, hv⟩ : ∃ v, v = ofI ix t := ⟨_, rfl⟩
          rw [<- hu] at HGC
          rw [<- hv] at HGD
          have HZ3 : Hid (u = z0 /\ v = z1) := by show _ /\ _; rw [hu, hv]; exact HZ0.out (by trivial) (by trivial)
          rw [<- hu, <- hv]
          clear hu hv HZ0
          obtain ⟨fo, fa, go, gb, fo', fa', go', gb', hf⟩ : ∃ fo fa go gb fo' fa' go' gb', fo = keA (s.ix == ix) ao /\ fa = keN (s.ix == ix) ca /\ go = keA (s.ix == ix) bo /\ gb = keN (s.ix == ix) cb /\ fo' = keA (t.ix == ix) ao' /\ fa' = keN (t.ix == ix) ca' /\ go' = keA (t.ix == ix) bo' /\ gb' = keN (t.ix == ix) cb' := ⟨_, _, _, _, _, _, _, _, rfl, rfl, rfl, rfl, rfl, rfl, rfl, rfl⟩
          obtain ⟨f1, f2, f3, f4, f5, f6, f7, f8⟩ := hf
          rw [<- f1, <- f2, <- f3, <- f4] at HGC
          rw [<- f5, <- f6, <- f7, <- f8] at HGD
          rw [<- f1, <- f2, <- f3, <- f4, <- f5, <- f6, <- f7, <- f8]
          clear f1 f2 f3 f4 f5 f6 f7 f8
          have HGE : Hid (Got w2.heap.size wc u fo fa go gb) := HGC
          have HGF : Hid (Got w2.heap.size wc v fo' fa' go' gb') := HGD
          clear HGC HGD
          have q2 := Lw2.out wc HC.out
          have r0 := q2.cell (i := 0) rfl
          have r1 := q2.cell (i := 1) rfl
          have r2 := q2.cell (i := 2) rfl
          have r3 := q2.cell (i := 3) rfl
          have r4 := q2.cell (i := 4) rfl
          have r5 := q2.cell (i := 5) rfl
          have r6 := q2.cell (i := 6) rfl
          have r7 := q2.cell (i := 7) rfl
          have r8 := q2.cell (i := 8) rfl
          have r9 := q2.cell (i := 9) rfl
          have r10 := q2.cell (i := 10) rfl
          have r11 := q2.cell (i := 11) rfl
          have rf := q2.free
          clear q2
          go_wp2_with fail
          refine bodyPost_ret (v := .tuple #[.agg #[.int .u8 ((u.kd.toNat : Nat) : Int), .int .i64 u.ix, .int .i64 u.ce, .int .i64 u.st, .slice fo u.vn fa, .slice go u.dn gb, .int .u8 ((v.kd.toNat : Nat) : Int), .int .i64 v.ix, .int .i64 v.ce, .int .i64 v.st, .slice fo' v.vn fa', .slice go' v.dn gb'], .int .i64 0]) (by simp [results, Tryz.results157, go_sem, r0, r1, r2, r3, r4, r5, r6, r7, r8, r9, r10, r11]) rfl ?_
          obtain ⟨rfl, rfl⟩ := HZ3.out
          have ho := only_all wc (w.heap.size + 1 + 1) (.int .u8 ((u.kd.toNat : Nat) : Int)) (.int .i64 u.ix) (.int .i64 u.ce) (.int .i64 u.st) (.slice fo u.vn fa) (.slice go u.dn gb) (.int .u8 ((v.kd.toNat : Nat) : Int)) (.int .i64 v.ix) (.int .i64 v.ce) (.int .i64 v.st) (.slice fo' v.vn fa') (.slice go' v.dn gb')
          have hbc := below_then Bw.out HC.out
          exact ⟨fo, fa, go, gb, fo', fa', go', gb', rfl, (HGE.out.stay ho (by have := HS2.out; omega)).mono (by have := HS2.out; omega), (HGF.out.stay ho (by have := HS2.out; omega)).mono (by have := HS2.out; omega), hbc.trans (ho.below (fun i hi => by omega) hbc.size)⟩
      · rw [if_neg (fun h => ii h.2)] at HEE
        subst HEE
        by_cases i1 : ix < 0
        · clear ii
          rcases kk with rfl | rfl
          · skip
            go_enter Tryz.func157, Tryz.ntmps157
            go_wp2_with fail
            rw [<- hw0, <- hw1, <- hw2]
            clear hw0 bw0 zw0 hw1 bw1 zw1 hw2 bw2 zw2
            refine (HR.out _ Bw.out).mono ?_
            rintro e wa ⟨ao, ca, bo, cb, ao', ca', bo', cb', rfl, hga, hgb, ha⟩
            have HGA : Hid (Got w2.heap.size wa s ao ca bo cb) := hga
            have HGB : Hid (Got w2.heap.size wa t ao' ca' bo' cb') := hgb
            have HA : Hid (Below w2.heap.size w2 wa) := ha
            clear hga hgb ha
            have q2 := Lw2.out wa HA.out
            have r0 := fun o => (q2.alloc o).cell (i := 0) rfl
            have r1 := fun o => (q2.alloc o).cell (i := 1) rfl
            have r2 := fun o => (q2.alloc o).cell (i := 2) rfl
            have r3 := fun o => (q2.alloc o).cell (i := 3) rfl
            have r4 := fun o => (q2.alloc o).cell (i := 4) rfl
            have r5 := fun o => (q2.alloc o).cell (i := 5) rfl
            have r6 := fun o => (q2.alloc o).cell (i := 6) rfl
            have r7 := fun o => (q2.alloc o).cell (i := 7) rfl
            have r8 := fun o => (q2.alloc o).cell (i := 8) rfl
            have r9 := fun o => (q2.alloc o).cell (i := 9) rfl
            have r10 := fun o => (q2.alloc o).cell (i := 10) rfl
            have r11 := fun o => (q2.alloc o).cell (i := 11) rfl
            have rf := fun o => (q2.alloc o).free
            clear q2
            have q0 := Lw0.out wa HA.out
            have p0 := fun o => (q0.alloc o).cell (i := 0) rfl
            have p1 := fun o => (q0.alloc o).cell (i := 1) rfl
            have p2 := fun o => (q0.alloc o).cell (i := 2) rfl
            have p3 := fun o => (q0.alloc o).cell (i := 3) rfl
            clear q0
            go_wp2_with fail
            refine bodyPost_ret (v := .tuple #[.agg #[.int .u8 0, .int .i64 0, .int .i64 0, .int .i64 0, .slice none 0 0, .slice none 0 0, .int .u8 0, .int .i64 0, .int .i64 0, .int .i64 0, .slice none 0 0, .slice none 0 0], .int .i64 2]) (by simp [results, Tryz.results157, go_sem, r0, r1, r2, r3, r4, r5, r6, r7, r8, r9, r10, r11]) rfl ?_
            obtain ⟨rfl, rfl⟩ := HZ2.out (by first | assumption | decide | trivial)
            refine ⟨none, 0, none, 0, none, 0, none, 0, rfl, got_z _ _, got_z _ _, ?_⟩
            have hal := b_alloc (below_then Bw.out HA.out) (.cells #[.int .u8 ((s.kd.toNat : Nat) : Int), .int .i64 s.ix, .int .i64 s.ce, .int .i64 s.st, .slice ao s.vn ca, .slice bo s.dn cb, .int .u8 ((t.kd.toNat : Nat) : Int), .int .i64 t.ix, .int .i64 t.ce, .int .i64 t.st, .slice ao' t.vn ca', .slice bo' t.dn cb'] 240)
            exact hal.trans ((only_all (wa.alloc (.cells #[.int .u8 ((s.kd.toNat : Nat) : Int), .int .i64 s.ix, .int .i64 s.ce, .int .i64 s.st, .slice ao s.vn ca, .slice bo s.dn cb, .int .u8 ((t.kd.toNat : Nat) : Int), .int .i64 t.ix, .int .i64 t.ce, .int .i64 t.st, .slice ao' t.vn ca', .slice bo' t.dn cb'] 240)) (w.heap.size + 1 + 1) (.int .u8 0) (.int .i64 0) (.int .i64 0) (.int .i64 0) (.slice none 0 0) (.slice none 0 0) (.int .u8 0) (.int .i64 0) (.int .i64 0) (.int .i64 0) (.slice none 0 0) (.slice none 0 0)).below (fun i hi => by omega) hal.size)
          · skip
            go_enter Tryz.func157, Tryz.ntmps157
            go_wp2_with fail
            rw [<- hw0, <- hw1, <- hw2]
            clear hw0 bw0 zw0 hw1 bw1 zw1 hw2 bw2 zw2
            refine (HR.out _ Bw.out).mono ?_
            rintro e wa ⟨ao, ca, bo, cb, ao', ca', bo', cb', rfl, hga, hgb, ha⟩
            have HGA : Hid (Got w2.heap.size wa s ao ca bo cb) := hga
            have HGB : Hid (Got w2.heap.size wa t ao' ca' bo' cb') := hgb
            have HA : Hid (Below w2.heap.size w2 wa) := ha
            clear hga hgb ha
            have q2 := Lw2.out wa HA.out
            have r0 := fun o => (q2.alloc o).cell (i := 0) rfl
            have r1 := fun o => (q2.alloc o).cell (i := 1) rfl
            have r2 := fun o => (q2.alloc o).cell (i := 2) rfl
            have r3 := fun o => (q2.alloc o).cell (i := 3) rfl
            have r4 := fun o => (q2.alloc o).cell (i := 4) rfl
            have r5 := fun o => (q2.alloc o).cell (i := 5) rfl
            have r6 := fun o => (q2.alloc o).cell (i := 6) rfl
            have r7 := fun o => (q2.alloc o).cell (i := 7) rfl
            have r8 := fun o => (q2.alloc o).cell (i := 8) rfl
            have r9 := fun o => (q2.alloc o).cell (i := 9) rfl
            have r10 := fun o => (q2.alloc o).cell (i := 10) rfl
            have r11 := fun o => (q2.alloc o).cell (i := 11) rfl
            have rf := fun o => (q2.alloc o).free
            clear q2
            have q0 := Lw0.out wa HA.out
            have p0 := fun o => (q0.alloc o).cell (i := 0) rfl
            have p1 := fun o => (q0.alloc o).cell (i := 1) rfl
            have p2 := fun o => (q0.alloc o).cell (i := 2) rfl
            have p3 := fun o => (q0.alloc o).cell (i := 3) rfl
            clear q0
            go_wp2_with fail
            refine bodyPost_ret (v := .tuple #[.agg #[.int .u8 0, .int .i64 0, .int .i64 0, .int .i64 0, .slice none 0 0, .slice none 0 0, .int .u8 0, .int .i64 0, .int .i64 0, .int .i64 0, .slice none 0 0, .slice none 0 0], .int .i64 2]) (by simp [results, Tryz.results157, go_sem, r0, r1, r2, r3, r4, r5, r6, r7, r8, r9, r10, r11]) rfl ?_
            obtain ⟨rfl, rfl⟩ := HZ2.out (by first | assumption | decide | trivial)
            refine ⟨none, 0, none, 0, none, 0, none, 0, rfl, got_z _ _, got_z _ _, ?_⟩
            have hal := b_alloc (below_then Bw.out HA.out) (.cells #[.int .u8 ((s.kd.toNat : Nat) : Int), .int .i64 s.ix, .int .i64 s.ce, .int .i64 s.st, .slice ao s.vn ca, .slice bo s.dn cb, .int .u8 ((t.kd.toNat : Nat) : Int), .int .i64 t.ix, .int .i64 t.ce, .int .i64 t.st, .slice ao' t.vn ca', .slice bo' t.dn cb'] 240)
            exact hal.trans ((only_all (wa.alloc (.cells #[.int .u8 ((s.kd.toNat : Nat) : Int), .int .i64 s.ix, .int .i64 s.ce, .int .i64 s.st, .slice ao s.vn ca, .slice bo s.dn cb, .int .u8 ((t.kd.toNat : Nat) : Int), .int .i64 t.ix, .int .i64 t.ce, .int .i64 t.st, .slice ao' t.vn ca', .slice bo' t.dn cb'] 240)) (w.heap.size + 1 + 1) (.int .u8 0) (.int .i64 0) (.int .i64 0) (.int .i64 0) (.slice none 0 0) (.slice none 0 0) (.int .u8 0) (.int .i64 0) (.int .i64 0) (.int .i64 0) (.slice none 0 0) (.slice none 0 0)).below (fun i hi => by omega) hal.size)
        · have i4 : k + r <= ix := by omega
          clear ii
          rcases kk with rfl | rfl
          · skip
            go_enter Tryz.func157, Tryz.ntmps157
            go_wp2_with fail
            rw [<- hw0, <- hw1, <- hw2]
            clear hw0 bw0 zw0 hw1 bw1 zw1 hw2 bw2 zw2
            refine (HR.out _ Bw.out).mono ?_
            rintro e wa ⟨ao, ca, bo, cb, ao', ca', bo', cb', rfl, hga, hgb, ha⟩
            have HGA : Hid (Got w2.heap.size wa s ao ca bo cb) := hga
            have HGB : Hid (Got w2.heap.size wa t ao' ca' bo' cb') := hgb
            have HA : Hid (Below w2.heap.size w2 wa) := ha
            clear hga hgb ha
            have q2 := Lw2.out wa HA.out
            have r0 := fun o => (q2.alloc o).cell (i := 0) rfl
            have r1 := fun o => (q2.alloc o).cell (i := 1) rfl
            have r2 := fun o => (q2.alloc o).cell (i := 2) rfl
            have r3 := fun o => (q2.alloc o).cell (i := 3) rfl
            have r4 := fun o => (q2.alloc o).cell (i := 4) rfl
            have r5 := fun o => (q2.alloc o).cell (i := 5) rfl
            have r6 := fun o => (q2.alloc o).cell (i := 6) rfl
            have r7 := fun o => (q2.alloc o).cell (i := 7) rfl
            have r8 := fun o => (q2.alloc o).cell (i := 8) rfl
            have r9 := fun o => (q2.alloc o).cell (i := 9) rfl
            have r10 := fun o => (q2.alloc o).cell (i := 10) rfl
            have r11 := fun o => (q2.alloc o).cell (i := 11) rfl
            have rf := fun o => (q2.alloc o).free
            clear q2
            have q0 := Lw0.out wa HA.out
            have p0 := fun o => (q0.alloc o).cell (i := 0) rfl
            have p1 := fun o => (q0.alloc o).cell (i := 1) rfl
            have p2 := fun o => (q0.alloc o).cell (i := 2) rfl
            have p3 := fun o => (q0.alloc o).cell (i := 3) rfl
            clear q0
            go_wp2_with fail
            refine bodyPost_ret (v := .tuple #[.agg #[.int .u8 0, .int .i64 0, .int .i64 0, .int .i64 0, .slice none 0 0, .slice none 0 0, .int .u8 0, .int .i64 0, .int .i64 0, .int .i64 0, .slice none 0 0, .slice none 0 0], .int .i64 2]) (by simp [results, Tryz.results157, go_sem, r0, r1, r2, r3, r4, r5, r6, r7, r8, r9, r10, r11]) rfl ?_
            obtain ⟨rfl, rfl⟩ := HZ2.out (by first | assumption | decide | trivial)
            refine ⟨none, 0, none, 0, none, 0, none, 0, rfl, got_z _ _, got_z _ _, ?_⟩
            have hal := b_alloc (below_then Bw.out HA.out) (.cells #[.int .u8 ((s.kd.toNat : Nat) : Int), .int .i64 s.ix, .int .i64 s.ce, .int .i64 s.st, .slice ao s.vn ca, .slice bo s.dn cb, .int .u8 ((t.kd.toNat : Nat) : Int), .int .i64 t.ix, .int .i64 t.ce, .int .i64 t.st, .slice ao' t.vn ca', .slice bo' t.dn cb'] 240)
            exact hal.trans ((only_all (wa.alloc (.cells #[.int .u8 ((s.kd.toNat : Nat) : Int), .int .i64 s.ix, .int .i64 s.ce, .int .i64 s.st, .slice ao s.vn ca, .slice bo s.dn cb, .int .u8 ((t.kd.toNat : Nat) : Int), .int .i64 t.ix, .int .i64 t.ce, .int .i64 t.st, .slice ao' t.vn ca', .slice bo' t.dn cb'] 240)) (w.heap.size + 1 + 1) (.int .u8 0) (.int .i64 0) (.int .i64 0) (.int .i64 0) (.slice none 0 0) (.slice none 0 0) (.int .u8 0) (.int .i64 0) (.int .i64 0) (.int .i64 0) (.slice none 0 0) (.slice none 0 0)).below (fun i hi => by omega) hal.size)
          · skip
            go_enter Tryz.func157, Tryz.ntmps157
            go_wp2_with fail
            rw [<- hw0, <- hw1, <- hw2]
            clear hw0 bw0 zw0 hw1 bw1 zw1 hw2 bw2 zw2
            refine (HR.out _ Bw.out).mono ?_
            rintro e wa ⟨ao, ca, bo, cb, ao', ca', bo', cb', rfl, hga, hgb, ha⟩
            have HGA : Hid (Got w2.heap.size wa s ao ca bo cb) := hga
            have HGB : Hid (Got w2.heap.size wa t ao' ca' bo' cb') := hgb
            have HA : Hid (Below w2.heap.size w2 wa) := ha
            clear hga hgb ha
            have q2 := Lw2.out wa HA.out
            have r0 := fun o => (q2.alloc o).cell (i := 0) rfl
            have r1 := fun o => (q2.alloc o).cell (i := 1) rfl
            have r2 := fun o => (q2.alloc o).cell (i := 2) rfl
            have r3 := fun o => (q2.alloc o).cell (i := 3) rfl
            have r4 := fun o => (q2.alloc o).cell (i := 4) rfl
            have r5 := fun o => (q2.alloc o).cell (i := 5) rfl
            have r6 := fun o => (q2.alloc o).cell (i := 6) rfl
            have r7 := fun o => (q2.alloc o).cell (i := 7) rfl
            have r8 := fun o => (q2.alloc o).cell (i := 8) rfl
            have r9 := fun o => (q2.alloc o).cell (i := 9) rfl
            have r10 := fun o => (q2.alloc o).cell (i := 10) rfl
            have r11 := fun o => (q2.alloc o).cell (i := 11) rfl
            have rf := fun o => (q2.alloc o).free
            clear q2
            have q0 := Lw0.out wa HA.out
            have p0 := fun o => (q0.alloc o).cell (i := 0) rfl
            have p1 := fun o => (q0.alloc o).cell (i := 1) rfl
            have p2 := fun o => (q0.alloc o).cell (i := 2) rfl
            have p3 := fun o => (q0.alloc o).cell (i := 3) rfl
            clear q0
            go_wp2_with fail
            refine bodyPost_ret (v := .tuple #[.agg #[.int .u8 0, .int .i64 0, .int .i64 0, .int .i64 0, .slice none 0 0, .slice none 0 0, .int .u8 0, .int .i64 0, .int .i64 0, .int .i64 0, .slice none 0 0, .slice none 0 0], .int .i64 2]) (by simp [results, Tryz.results157, go_sem, r0, r1, r2, r3, r4, r5, r6, r7, r8, r9, r10, r11]) rfl ?_
            obtain ⟨rfl, rfl⟩ := HZ2.out (by first | assumption | decide | trivial)
            refine ⟨none, 0, none, 0, none, 0, none, 0, rfl, got_z _ _, got_z _ _, ?_⟩
            have hal := b_alloc (below_then Bw.out HA.out) (.cells #[.int .u8 ((s.kd.toNat : Nat) : Int), .int .i64 s.ix, .int .i64 s.ce, .int .i64 s.st, .slice ao s.vn ca, .slice bo s.dn cb, .int .u8 ((t.kd.toNat : Nat) : Int), .int .i64 t.ix, .int .i64 t.ce, .int .i64 t.st, .slice ao' t.vn ca', .slice bo' t.dn cb'] 240)
            exact hal.trans ((only_all (wa.alloc (.cells #[.int .u8 ((s.kd.toNat : Nat) : Int), .int .i64 s.ix, .int .i64 s.ce, .int .i64 s.st, .slice ao s.vn ca, .slice bo s.dn cb, .int .u8 ((t.kd.toNat : Nat) : Int), .int .i64 t.ix, .int .i64 t.ce, .int .i64 t.st, .slice ao' t.vn ca', .slice bo' t.dn cb'] 240)) (w.heap.size + 1 + 1) (.int .u8 0) (.int .i64 0) (.int .i64 0) (.int .i64 0) (.slice none 0 0) (.slice none 0 0) (.int .u8 0) (.int .i64 0) (.int .i64 0) (.int .i64 0) (.slice none 0 0) (.slice none 0 0)).below (fun i hi => by omega) hal.size)
    · rw [if_neg (fun h => kk h.1)] at HEE
      subst HEE
      have k1 : (kv != 1) = true := by simp only [bne_iff_ne, ne_eq]; omega
      have k2 : (kv != 2) = true := by simp only [bne_iff_ne, ne_eq]; omega
      clear kk
      go_enter Tryz.func157, Tryz.ntmps157
      go_wp2_with fail
      rw [<- hw0, <- hw1, <- hw2]
      clear hw0 bw0 zw0 hw1 bw1 zw1 hw2 bw2 zw2
      refine (HR.out _ Bw.out).mono ?_
      rintro e wa ⟨ao, ca, bo, cb, ao', ca', bo', cb', rfl, hga, hgb, ha⟩
      have HGA : Hid (Got w2.heap.size wa s ao ca bo cb) := hga
      have HGB : Hid (Got w2.heap.size wa t ao' ca' bo' cb') := hgb
      have HA : Hid (Below w2.heap.size w2 wa) := ha
      clear hga hgb ha
      have q2 := Lw2.out wa HA.out
      have r0 := fun o => (q2.alloc o).cell (i := 0) rfl
      have r1 := fun o => (q2.alloc o).cell (i := 1) rfl
      have r2 := fun o => (q2.alloc o).cell (i := 2) rfl
      have r3 := fun o => (q2.alloc o).cell (i := 3) rfl
      have r4 := fun o => (q2.alloc o).cell (i := 4) rfl
      have r5 := fun o => (q2.alloc o).cell (i := 5) rfl
      have r6 := fun o => (q2.alloc o).cell (i := 6) rfl
      have r7 := fun o => (q2.alloc o).cell (i := 7) rfl
      have r8 := fun o => (q2.alloc o).cell (i := 8) rfl
      have r9 := fun o => (q2.alloc o).cell (i := 9) rfl
      have r10 := fun o => (q2.alloc o).cell (i := 10) rfl
      have r11 := fun o => (q2.alloc o).cell (i := 11) rfl
      have rf := fun o => (q2.alloc o).free
      clear q2
      have q0 := Lw0.out wa HA.out
      have p0 := fun o => (q0.alloc o).cell (i := 0) rfl
      have p1 := fun o => (q0.alloc o).cell (i := 1) rfl
      have p2 := fun o => (q0.alloc o).cell (i := 2) rfl
      have p3 := fun o => (q0.alloc o).cell (i := 3) rfl
      clear q0
      go_wp2_with fail
      refine bodyPost_ret (v := .tuple #[.agg #[.int .u8 0, .int .i64 0, .int .i64 0, .int .i64 0, .slice none 0 0, .slice none 0 0, .int .u8 0, .int .i64 0, .int .i64 0, .int .i64 0, .slice none 0 0, .slice none 0 0], .int .i64 2]) (by simp [results, Tryz.results157, go_sem, r0, r1, r2, r3, r4, r5, r6, r7, r8, r9, r10, r11]) rfl ?_
      obtain ⟨rfl, rfl⟩ := HZ2.out (by first | assumption | decide | trivial)
      refine ⟨none, 0, none, 0, none, 0, none, 0, rfl, got_z _ _, got_z _ _, ?_⟩
      have hal := b_alloc (below_then Bw.out HA.out) (.cells #[.int .u8 ((s.kd.toNat : Nat) : Int), .int .i64 s.ix, .int .i64 s.ce, .int .i64 s.st, .slice ao s.vn ca, .slice bo s.dn cb, .int .u8 ((t.kd.toNat : Nat) : Int), .int .i64 t.ix, .int .i64 t.ce, .int .i64 t.st, .slice ao' t.vn ca', .slice bo' t.dn cb'] 240)
      exact hal.trans ((only_all (wa.alloc (.cells #[.int .u8 ((s.kd.toNat : Nat) : Int), .int .i64 s.ix, .int .i64 s.ce, .int .i64 s.st, .slice ao s.vn ca, .slice bo s.dn cb, .int .u8 ((t.kd.toNat : Nat) : Int), .int .i64 t.ix, .int .i64 t.ce, .int .i64 t.st, .slice ao' t.vn ca', .slice bo' t.dn cb'] 240)) (w.heap.size + 1 + 1) (.int .u8 0) (.int .i64 0) (.int .i64 0) (.int .i64 0) (.slice none 0 0) (.slice none 0 0) (.int .u8 0) (.int .i64 0) (.int .i64 0) (.int .i64 0) (.slice none 0 0) (.slice none 0 0)).below (fun i hi => by omega) hal.size)
  · rw [if_neg eT] at HEE
    subst HEE
    have hq : (E != 0) = true := by simpa using eT
    go_enter Tryz.func157, Tryz.ntmps157
    go_wp2_with fail
    rw [<- hw0, <- hw1, <- hw2]
    clear hw0 bw0 zw0 hw1 bw1 zw1 hw2 bw2 zw2
    refine (HR.out _ Bw.out).mono ?_
    rintro e wa ⟨ao, ca, bo, cb, ao', ca', bo', cb', rfl, hga, hgb, ha⟩
    have HGA : Hid (Got w2.heap.size wa s ao ca bo cb) := hga
    have HGB : Hid (Got w2.heap.size wa t ao' ca' bo' cb') := hgb
    have HA : Hid (Below w2.heap.size w2 wa) := ha
    clear hga hgb ha
    have q2 := Lw2.out wa HA.out
    have r0 := fun o => (q2.alloc o).cell (i := 0) rfl
    have r1 := fun o => (q2.alloc o).cell (i := 1) rfl
    have r2 := fun o => (q2.alloc o).cell (i := 2) rfl
    have r3 := fun o => (q2.alloc o).cell (i := 3) rfl
    have r4 := fun o => (q2.alloc o).cell (i := 4) rfl
    have r5 := fun o => (q2.alloc o).cell (i := 5) rfl
    have r6 := fun o => (q2.alloc o).cell (i := 6) rfl
    have r7 := fun o => (q2.alloc o).cell (i := 7) rfl
    have r8 := fun o => (q2.alloc o).cell (i := 8) rfl
    have r9 := fun o => (q2.alloc o).cell (i := 9) rfl
    have r10 := fun o => (q2.alloc o).cell (i := 10) rfl
    have r11 := fun o => (q2.alloc o).cell (i := 11) rfl
    have rf := fun o => (q2.alloc o).free
    clear q2
    go_wp2_with fail
    refine bodyPost_ret (v := .tuple #[.agg #[.int .u8 0, .int .i64 0, .int .i64 0, .int .i64 0, .slice none 0 0, .slice none 0 0, .int .u8 0, .int .i64 0, .int .i64 0, .int .i64 0, .slice none 0 0, .slice none 0 0], .int .i64 E]) (by simp [results, Tryz.results157, go_sem, r0, r1, r2, r3, r4, r5, r6, r7, r8, r9, r10, r11]) rfl ?_
    obtain ⟨rfl, rfl⟩ := HZ2.out (by first | assumption | decide | trivial)
    refine ⟨none, 0, none, 0, none, 0, none, 0, rfl, got_z _ _, got_z _ _, ?_⟩
    have hal := b_alloc (below_then Bw.out HA.out) (.cells #[.int .u8 ((s.kd.toNat : Nat) : Int), .int .i64 s.ix, .int .i64 s.ce, .int .i64 s.st, .slice ao s.vn ca, .slice bo s.dn cb, .int .u8 ((t.kd.toNat : Nat) : Int), .int .i64 t.ix, .int .i64 t.ce, .int .i64 t.st, .slice ao' t.vn ca', .slice bo' t.dn cb'] 240)
    exact hal.trans ((only_all (wa.alloc (.cells #[.int .u8 ((s.kd.toNat : Nat) : Int), .int .i64 s.ix, .int .i64 s.ce, .int .i64 s.st, .slice ao s.vn ca, .slice bo s.dn cb, .int .u8 ((t.kd.toNat : Nat) : Int), .int .i64 t.ix, .int .i64 t.ce, .int .i64 t.st, .slice ao' t.vn ca', .slice bo' t.dn cb'] 240)) (w.heap.size + 1 + 1) (.int .u8 0) (.int .i64 0) (.int .i64 0) (.int .i64 0) (.slice none 0 0) (.slice none 0 0) (.int .u8 0) (.int .i64 0) (.int .i64 0) (.int .i64 0) (.slice none 0 0) (.slice none 0 0)).below (fun i hi => by omega) hal.size)
end Go.Proofs.YtngcdlodcdgcaaaGreat
