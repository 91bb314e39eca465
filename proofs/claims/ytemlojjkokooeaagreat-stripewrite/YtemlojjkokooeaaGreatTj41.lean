import Derived.Test.YtemlojjkokooeaaGreatTj40
set_option maxHeartbeats 4000000
set_option maxRecDepth 100000
namespace Go.Proofs.YtemlojjkokooeaaGreat
open Go.RowKit
theorem osl_eq {N : Nat} {c : Int} {L : Nat -> Nat} {F : Nat -> Nat -> UInt8} {kd : UInt8} (hk : kd = 1 \/ kd = 2) {ke : Int} {d : Nat} (hd : d < N) {t : Sl} (ht : tS (yy N c L F) kd ke (2 * N) = t) : oN (yy N c L F (2 * d)) (yy N c L F (2 * d + 1)) kd (if t.vn = 0 then 0 else t.V d) = osl N c L F kd ke d := by
 unfold osl zv
 rw [ht]
 unfold zz
 rcases tS_is (v := ke) hk (yy_ok N c L F) (2 * N) (Nat.le_refl _) with ⟨a, _⟩ | ⟨j, _, a2, _, a4, _⟩
 ·rw [ht] at a
  rw [a, if_pos (show zSl.vn = 0 from rfl), if_pos (show zSl.ce = 0 from rfl)]; rfl
 ·rw [ht] at a2
  have hv : t.vn = N := by rw [a2]; exact (ok_of a4.1).vn
  have hc : t.ce ≠ 0 := by rw [a2]; exact (ok_of a4.1).ne
  rw [if_neg (by omega), if_neg hc]
  generalize yy N c L F (2 * d) = y0
  generalize yy N c L F (2 * d + 1) = y1
  generalize t.V d = v
  have z0 : ∀ y : Sl, hB y kd 0 = false := fun y => decide_eq_false fun e => e.1 rfl
  unfold fZ
  cases e0 : hB y0 kd v
  ·rw [if_neg Bool.false_ne_true]
   cases e1 : hB y1 kd v
   ·rw [if_neg Bool.false_ne_true]
    unfold oN
    rw [e0, e1, show zSl.ce = 0 from rfl, z0, z0]
   ·rw [if_pos rfl, (hB_true e1).2.2]
  ·rw [if_pos rfl, (hB_true e0).2.2]
theorem RPut_any {k r c q : Int} {N W : Nat} (h : Par k r c q N W 0) (w : World) (ro : Option Addr) (rc : Nat) (A : Nat -> Option Addr) (L C : Nat -> Nat) (F : Nat -> Nat -> UInt8) (hr : Rw w ro N A L C F) (hL : ∀ j, j < 2 * N -> L j = 0 \/ L j = sz N c) (nu ke : Int) (s : Sl) (vo : Option Addr) (vc : Nat) (bo : Option Addr) (cb : Nat) (hs : Has w s vo vc bo cb) (hok : okS N c s = true) (d : Nat) (hd : d < N) (hix : s.ix = (d : Int)) (t : Sl) (ht : tS (yy N c L F) s.kd ke (2 * N) = t) (hk0 : ke <= 0 -> t.vn = 0) :
  Calls Tryz.prog 154 #[.agg #[.int .i64 k, .int .i64 r, .int .i64 c, .int .i64 q], .slice ro N rc, .int .i64 nu, .int .i64 ke, .agg #[.int .u8 ((s.kd.toNat : Nat) : Int), .int .i64 (d : Int), .int .i64 s.ce, .int .i64 s.st, .slice vo s.vn vc, .slice bo s.dn cb]] w fun e w' => ∃ uo uc, e = .returned (.agg #[.int .i64 (d : Int), .int .i64 nu, .int .i64 ((osl N c L F s.kd ke d : Nat) : Int), .slice uo (sz N c) uc]) /\ OwU w.heap.size w' uo (sz N c) uc (enc s) /\ Below w.heap.size w w' := by
 have hle := h.le
 obtain ⟨hc1, hc2⟩ := h.cell rfl
 have hk : s.kd = 1 \/ s.kd = 2 := (ok_of hok).kd
 have hsz : sz N c <= 1000 := by unfold sz; omega
 have htv : t.vn = 0 \/ t.vn = N := by
  rcases tS_is (v := ke) hk (yy_ok N c L F) (2 * N) (Nat.le_refl _) with ⟨a, _⟩ | ⟨j, _, a2, _, a4, _⟩
  ·rw [ht] at a; exact .inl (by rw [a]; rfl)
  ·rw [ht] at a2; exact .inr (by rw [a2]; exact (ok_of a4.1).vn)
 have HT : Hid (∀ u, Below w.heap.size w u -> Calls Tryz.prog 70 #[.agg #[.int .i64 k, .int .i64 r, .int .i64 c, .int .i64 q], .slice ro N rc, .int .u8 ((s.kd.toNat : Nat) : Int), .int .i64 ke] u (AnsW u t)) := fun u hu => Told_any h u ro rc A L C F (hr.below hu) hL s.kd hk ke t ht
 have HNX : Hid (∀ u, Below w.heap.size w u -> Calls Tryz.prog 223 #[.agg #[.int .i64 k, .int .i64 r, .int .i64 c, .int .i64 q], .agg #[.slice (A (2 * d)) (L (2 * d)) (C (2 * d)), .slice (A (2 * d + 1)) (L (2 * d + 1)) (C (2 * d + 1))], .int .u8 ((s.kd.toNat : Nat) : Int), .int .i64 (d : Int), .int .i64 (if t.vn = 0 then 0 else t.V d)] u fun e w' => e = .returned (.int .i64 ((osl N c L F s.kd ke d : Nat) : Int)) /\ Below u.heap.size u w') := fun u hu => by
  have g0 := hL (2 * d) (by omega)
  have g1 := hL (2 * d + 1) (by omega)
  rw [<- osl_eq hk hd ht]
  exact Next_any h u _ _ _ _ _ _ _ _ ((hr.bec _ (by omega)).below hu) ((hr.bec _ (by omega)).below hu) (by omega) (by omega) s.kd (d : Int) _ _ _ (by unfold yy; rw [show 2 * d / 2 = d by omega]) (by unfold yy; rw [show (2 * d + 1) / 2 = d by omega])
 have HMD : Hid (∀ u, Below w.heap.size w u -> Calls Tryz.prog 224 #[.agg #[.int .u8 ((s.kd.toNat : Nat) : Int), .int .i64 (d : Int), .int .i64 s.ce, .int .i64 s.st, .slice vo s.vn vc, .slice bo s.dn cb]] u fun e w' => ∃ uo uc, e = .returned (.slice uo (sz N c) uc) /\ OwU u.heap.size w' uo (sz N c) uc (enc s) /\ Below u.heap.size u w') := fun u hu => by
  have := Made_any u s vo vc bo cb hle hc1 hc2 (hs.below hu) hok
  unfold slv at this
  rw [hix] at this
  exact this
 obtain ⟨b, off, rfl, hcc⟩ := hr.at_ (by omega)
 obtain ⟨w0, hw0⟩ : ∃ w0, w0 = w.alloc (.cells #[.int .i64 k, .int .i64 r, .int .i64 c, .int .i64 q] 23) := ⟨_, rfl⟩
 obtain ⟨w1, hw1⟩ : ∃ w1, w1 = w0.alloc (.cells #[.int .u8 ((s.kd.toNat : Nat) : Int), .int .i64 (d : Int), .int .i64 s.ce, .int .i64 s.st, .slice vo s.vn vc, .slice bo s.dn cb] 107) := ⟨_, rfl⟩
 obtain ⟨w2, hw2⟩ : ∃ w2, w2 = w1.alloc (.cells #[.int .i64 0, .int .i64 0, .int .i64 0, .slice none 0 0] 56) := ⟨_, rfl⟩
 have b0 : Below w.heap.size w w0 := by rw [hw0]; exact bal _ _
 have b1 : Below w0.heap.size w0 w1 := by rw [hw1]; exact bal _ _
 have b2 : Below w1.heap.size w1 w2 := by rw [hw2]; exact bal _ _
 have z0 : w0.heap.size = w.heap.size + 1 := by rw [hw0]; simp
 have z1 : w1.heap.size = w.heap.size + 2 := by rw [hw1]; simp [z0]
 have B1 : Hid (Below w.heap.size w w1) := bth b0 b1
 have HKK : Hid (∀ u, Below w1.heap.size w1 u -> (u.cell? ⟨w.heap.size, 0, none⟩ = some (.int .i64 k) /\ u.cell? ⟨w.heap.size, 1, none⟩ = some (.int .i64 r) /\ u.cell? ⟨w.heap.size, 2, none⟩ = some (.int .i64 c) /\ u.cell? ⟨w.heap.size, 3, none⟩ = some (.int .i64 q)) /\ (u.cell? ⟨w.heap.size + 1, 0, none⟩ = some (.int .u8 ((s.kd.toNat : Nat) : Int)) /\ u.cell? ⟨w.heap.size + 1, 1, none⟩ = some (.int .i64 (d : Int)) /\ u.cell? ⟨w.heap.size + 1, 2, none⟩ = some (.int .i64 s.ce) /\ u.cell? ⟨w.heap.size + 1, 3, none⟩ = some (.int .i64 s.st) /\ u.cell? ⟨w.heap.size + 1, 4, none⟩ = some (.slice vo s.vn vc) /\ u.cell? ⟨w.heap.size + 1, 5, none⟩ = some (.slice bo s.dn cb)) /\ (u.cell? ⟨b, off + d * 2, none⟩ = some (.slice (A (2 * d)) (L (2 * d)) (C (2 * d))) /\ u.cell? ⟨b, off + d * 2 + 1, none⟩ = some (.slice (A (2 * d + 1)) (L (2 * d + 1)) (C (2 * d + 1))))) := fun u hu => by
  have p := (at_made (Below.refl _ _) hw0).below (bth b1 hu)
  have q := (at_made b0 hw1).below hu
  rw [z0] at q
  obtain ⟨m0, m1⟩ := hcc d hd
  exact ⟨⟨p.cell (i := 0) rfl, p.cell (i := 1) rfl, p.cell (i := 2) rfl, p.cell (i := 3) rfl⟩, ⟨q.cell (i := 0) rfl, q.cell (i := 1) rfl, q.cell (i := 2) rfl, q.cell (i := 3) rfl, q.cell (i := 4) rfl, q.cell (i := 5) rfl⟩, held m0 (bth B1.out hu), held m1 (bth B1.out hu)⟩
 have HZw2 : Hid (w2.heap.size <= w2.heap.size /\ ∀ u, Below w2.heap.size w2 u -> At w u (w.heap.size + 2) #[.int .i64 0, .int .i64 0, .int .i64 0, .slice none 0 0] 56) := ⟨Nat.le_refl _, fun u hu => by rw [<- z1]; exact (at_made (bth b0 b1) hw2).below hu⟩
 have HB2 : Hid (Below w1.heap.size w1 w2) := b2
 have HZ3 : Hid (w1.heap.size = w.heap.size + 2 /\ w2.heap.size = w.heap.size + 3) := ⟨z1, by rw [hw2]; simp [z1]⟩
 have i1 : (0 : Int) <= (d : Int) := by omega
 have i2 : (d : Int) < (N : Int) := by omega
 clear h hr hL hs hok hix ht hcc b0 b1 b2 z0 z1
 generalize osl N c L F s.kd ke d = sl at *
 by_cases hke : 0 < ke
 ·clear hk0
  go_enter Tryz.func154, Tryz.ntmps154
  go_wp2_with fail
  rw [<- hw0, <- hw1, <- hw2]
  clear hw0 hw1 hw2
  refine (HT.out w2 (bth B1.out HB2.out)).mono ?_
  rintro e wt ⟨xo, xc, rfl, hown, hwt⟩
  have HBT : Hid (Below w1.heap.size w1 wt) := bth HB2.out hwt
  have HZwt : Hid (w2.heap.size <= wt.heap.size /\ ∀ u, Below wt.heap.size wt u -> At w u (w.heap.size + 2) #[.int .i64 0, .int .i64 0, .int .i64 0, .slice none 0 0] 56) := ⟨hwt.size, fun u hu => HZw2.out.2 u (bth hwt hu)⟩
  have HV : Hid (Vec wt xo t.vn xc t.V) := hown.vec
  clear hown hwt HT
  rcases htv with h0 | h0
  ·rw [if_pos h0] at HNX
   rw [h0]
   clear h0
   go_wp2_with fail
   obtain ⟨⟨a0, a1, a2, a3⟩, ⟨s0, s1, s2, s3, s4, s5⟩, r0, r1⟩ := HKK.out wt HBT.out
   go_region_held3 (fun u => (u.cell? ⟨w.heap.size, 0, none⟩ = some (.int .i64 k) /\ u.cell? ⟨w.heap.size, 1, none⟩ = some (.int .i64 r) /\ u.cell? ⟨w.heap.size, 2, none⟩ = some (.int .i64 c) /\ u.cell? ⟨w.heap.size, 3, none⟩ = some (.int .i64 q)) /\ (u.cell? ⟨w.heap.size + 1, 0, none⟩ = some (.int .u8 ((s.kd.toNat : Nat) : Int)) /\ u.cell? ⟨w.heap.size + 1, 1, none⟩ = some (.int .i64 (d : Int)) /\ u.cell? ⟨w.heap.size + 1, 2, none⟩ = some (.int .i64 s.ce) /\ u.cell? ⟨w.heap.size + 1, 3, none⟩ = some (.int .i64 s.st) /\ u.cell? ⟨w.heap.size + 1, 4, none⟩ = some (.slice vo s.vn vc) /\ u.cell? ⟨w.heap.size + 1, 5, none⟩ = some (.slice bo s.dn cb)) /\ (u.cell? ⟨b, off + d * 2, none⟩ = some (.slice (A (2 * d)) (L (2 * d)) (C (2 * d))) /\ u.cell? ⟨b, off + d * 2 + 1, none⟩ = some (.slice (A (2 * d + 1)) (L (2 * d + 1)) (C (2 * d + 1))))) (go_keep) ((go_at_call 223; refine (HNX.out _ (bth (bth B1.out HBT.out) (bdw _ _))).mono ?_; rintro e wa ⟨rfl, ha⟩; have BA : Hid (Below w1.heap.size w1 wa) := bth HBT.out (of_drew' ha); obtain ⟨⟨d0, d1, d2, d3⟩, ⟨t0, t1, t2, t3, t4, t5⟩, x0, x1⟩ := HKK.out wa BA.out; have SZ : Hid (w2.heap.size <= wa.heap.size /\ ∀ u, Below wa.heap.size wa u -> At w u (w.heap.size + 2) #[.int .i64 0, .int .i64 0, .int .i64 0, .slice none 0 0] 56) := ⟨Nat.le_trans HZwt.out.1 (of_drew' ha).size, fun u hu => HZwt.out.2 u (bth (of_drew' ha) hu)⟩; clear ha))
   clear a0 a1 a2 a3 s0 s1 s2 s3 s4 s5 r0 r1
   try clear d0 d1 d2 d3 x0 x1
   go_wp2_with fail
   go_region_held3 (fun u => u.cell? ⟨w.heap.size + 1, 0, none⟩ = some (.int .u8 ((s.kd.toNat : Nat) : Int)) /\ u.cell? ⟨w.heap.size + 1, 1, none⟩ = some (.int .i64 (d : Int)) /\ u.cell? ⟨w.heap.size + 1, 2, none⟩ = some (.int .i64 s.ce) /\ u.cell? ⟨w.heap.size + 1, 3, none⟩ = some (.int .i64 s.st) /\ u.cell? ⟨w.heap.size + 1, 4, none⟩ = some (.slice vo s.vn vc) /\ u.cell? ⟨w.heap.size + 1, 5, none⟩ = some (.slice bo s.dn cb)) (go_keep) ((go_at_call 224; refine (HMD.out _ (bth (bth B1.out BA.out) (bdw _ _))).mono ?_; rintro e wb ⟨uo, uc, rfl, hou, hb⟩; have BB : Hid (Below w1.heap.size w1 wb) := bth BA.out (of_drew' hb); obtain ⟨_, ⟨g0, g1, g2, g3, g4, g5⟩, _, _⟩ := HKK.out wb BB.out; have pt := SZ.out.2 wb (of_drew' hb); have h0 := pt.cell (i := 0) rfl; have h1 := pt.cell (i := 1) rfl; have h2 := pt.cell (i := 2) rfl; have h3 := pt.cell (i := 3) rfl; have hf := pt.free; have HOU : Hid (OwU wa.heap.size wb uo (sz N c) uc (enc s)) := hou.mono (by simp); clear hou hb pt))
   go_wp2_with fail
   refine bodyPost_ret (v := .agg #[.int .i64 (d : Int), .int .i64 nu, .int .i64 ((sl : Nat) : Int), .slice uo (sz N c) uc]) (by simp [results, Tryz.results154, go_sem, h0, h1, h2, h3]) rfl ?_
   have hsz2 := SZ.out.1
   have hz3 := HZ3.out
   have hwa := (bth B1.out BA.out).size
   refine ⟨uo, uc, rfl, (HOU.out.stay fun g hg _ => ?_).mono hwa, bth B1.out ((((BB.out.setCell (by show w1.heap.size <= w.heap.size + 2; omega) _).setCell (by show w1.heap.size <= w.heap.size + 2; omega) _).setCell (by show w1.heap.size <= w.heap.size + 2; omega) _).setCell (by show w1.heap.size <= w.heap.size + 2; omega) _)⟩
   have hne : g ≠ w.heap.size + 2 := by omega
   rw [heap_setCell_other _ _ _ _ hne, heap_setCell_other _ _ _ _ hne, heap_setCell_other _ _ _ _ hne, heap_setCell_other _ _ _ _ hne]
  ·rw [if_neg (by omega)] at HNX
   rw [h0] at HV ⊢
   obtain ⟨vb, vf, rfl, hvc⟩ := HV.out.rd (by omega)
   have cv := hvc d hd
   have sx := (HKK.out wt HBT.out).2.1.2.1
   have hN0 : (0 : Int) < (N : Int) := by omega
   clear h0 hvc
   generalize t.V d = tv at *
   go_wp2_with fail
   clear cv sx
   obtain ⟨⟨a0, a1, a2, a3⟩, ⟨s0, s1, s2, s3, s4, s5⟩, r0, r1⟩ := HKK.out wt HBT.out
   go_region_held3 (fun u => (u.cell? ⟨w.heap.size, 0, none⟩ = some (.int .i64 k) /\ u.cell? ⟨w.heap.size, 1, none⟩ = some (.int .i64 r) /\ u.cell? ⟨w.heap.size, 2, none⟩ = some (.int .i64 c) /\ u.cell? ⟨w.heap.size, 3, none⟩ = some (.int .i64 q)) /\ (u.cell? ⟨w.heap.size + 1, 0, none⟩ = some (.int .u8 ((s.kd.toNat : Nat) : Int)) /\ u.cell? ⟨w.heap.size + 1, 1, none⟩ = some (.int .i64 (d : Int)) /\ u.cell? ⟨w.heap.size + 1, 2, none⟩ = some (.int .i64 s.ce) /\ u.cell? ⟨w.heap.size + 1, 3, none⟩ = some (.int .i64 s.st) /\ u.cell? ⟨w.heap.size + 1, 4, none⟩ = some (.slice vo s.vn vc) /\ u.cell? ⟨w.heap.size + 1, 5, none⟩ = some (.slice bo s.dn cb)) /\ (u.cell? ⟨b, off + d * 2, none⟩ = some (.slice (A (2 * d)) (L (2 * d)) (C (2 * d))) /\ u.cell? ⟨b, off + d * 2 + 1, none⟩ = some (.slice (A (2 * d + 1)) (L (2 * d + 1)) (C (2 * d + 1))))) (go_keep) ((go_at_call 223; refine (HNX.out _ (bth (bth B1.out HBT.out) (bdw _ _))).mono ?_; rintro e wa ⟨rfl, ha⟩; have BA : Hid (Below w1.heap.size w1 wa) := bth HBT.out (of_drew' ha); obtain ⟨⟨d0, d1, d2, d3⟩, ⟨t0, t1, t2, t3, t4, t5⟩, x0, x1⟩ := HKK.out wa BA.out; have SZ : Hid (w2.heap.size <= wa.heap.size /\ ∀ u, Below wa.heap.size wa u -> At w u (w.heap.size + 2) #[.int .i64 0, .int .i64 0, .int .i64 0, .slice none 0 0] 56) := ⟨Nat.le_trans HZwt.out.1 (of_drew' ha).size, fun u hu => HZwt.out.2 u (bth (of_drew' ha) hu)⟩; clear ha))
   clear a0 a1 a2 a3 s0 s1 s2 s3 s4 s5 r0 r1
   try clear d0 d1 d2 d3 x0 x1
   go_wp2_with fail
   go_region_held3 (fun u => u.cell? ⟨w.heap.size + 1, 0, none⟩ = some (.int .u8 ((s.kd.toNat : Nat) : Int)) /\ u.cell? ⟨w.heap.size + 1, 1, none⟩ = some (.int .i64 (d : Int)) /\ u.cell? ⟨w.heap.size + 1, 2, none⟩ = some (.int .i64 s.ce) /\ u.cell? ⟨w.heap.size + 1, 3, none⟩ = some (.int .i64 s.st) /\ u.cell? ⟨w.heap.size + 1, 4, none⟩ = some (.slice vo s.vn vc) /\ u.cell? ⟨w.heap.size + 1, 5, none⟩ = some (.slice bo s.dn cb)) (go_keep) ((go_at_call 224; refine (HMD.out _ (bth (bth B1.out BA.out) (bdw _ _))).mono ?_; rintro e wb ⟨uo, uc, rfl, hou, hb⟩; have BB : Hid (Below w1.heap.size w1 wb) := bth BA.out (of_drew' hb); obtain ⟨_, ⟨g0, g1, g2, g3, g4, g5⟩, _, _⟩ := HKK.out wb BB.out; have pt := SZ.out.2 wb (of_drew' hb); have h0 := pt.cell (i := 0) rfl; have h1 := pt.cell (i := 1) rfl; have h2 := pt.cell (i := 2) rfl; have h3 := pt.cell (i := 3) rfl; have hf := pt.free; have HOU : Hid (OwU wa.heap.size wb uo (sz N c) uc (enc s)) := hou.mono (by simp); clear hou hb pt))
   go_wp2_with fail
   refine bodyPost_ret (v := .agg #[.int .i64 (d : Int), .int .i64 nu, .int .i64 ((sl : Nat) : Int), .slice uo (sz N c) uc]) (by simp [results, Tryz.results154, go_sem, h0, h1, h2, h3]) rfl ?_
   have hsz2 := SZ.out.1
   have hz3 := HZ3.out
   have hwa := (bth B1.out BA.out).size
   refine ⟨uo, uc, rfl, (HOU.out.stay fun g hg _ => ?_).mono hwa, bth B1.out ((((BB.out.setCell (by show w1.heap.size <= w.heap.size + 2; omega) _).setCell (by show w1.heap.size <= w.heap.size + 2; omega) _).setCell (by show w1.heap.size <= w.heap.size + 2; omega) _).setCell (by show w1.heap.size <= w.heap.size + 2; omega) _)⟩
   have hne : g ≠ w.heap.size + 2 := by omega
   rw [heap_setCell_other _ _ _ _ hne, heap_setCell_other _ _ _ _ hne, heap_setCell_other _ _ _ _ hne, heap_setCell_other _ _ _ _ hne]
 ·have hv0 := hk0 (by omega)
  rw [if_pos hv0] at HNX
  clear hk0 htv hv0
  go_enter Tryz.func154, Tryz.ntmps154
  go_wp2_with fail
  rw [<- hw0, <- hw1, <- hw2]
  clear hw0 hw1 hw2
  go_wp2_with fail
  obtain ⟨⟨a0, a1, a2, a3⟩, ⟨s0, s1, s2, s3, s4, s5⟩, r0, r1⟩ := HKK.out w2 HB2.out
  go_region_held3 (fun u => (u.cell? ⟨w.heap.size, 0, none⟩ = some (.int .i64 k) /\ u.cell? ⟨w.heap.size, 1, none⟩ = some (.int .i64 r) /\ u.cell? ⟨w.heap.size, 2, none⟩ = some (.int .i64 c) /\ u.cell? ⟨w.heap.size, 3, none⟩ = some (.int .i64 q)) /\ (u.cell? ⟨w.heap.size + 1, 0, none⟩ = some (.int .u8 ((s.kd.toNat : Nat) : Int)) /\ u.cell? ⟨w.heap.size + 1, 1, none⟩ = some (.int .i64 (d : Int)) /\ u.cell? ⟨w.heap.size + 1, 2, none⟩ = some (.int .i64 s.ce) /\ u.cell? ⟨w.heap.size + 1, 3, none⟩ = some (.int .i64 s.st) /\ u.cell? ⟨w.heap.size + 1, 4, none⟩ = some (.slice vo s.vn vc) /\ u.cell? ⟨w.heap.size + 1, 5, none⟩ = some (.slice bo s.dn cb)) /\ (u.cell? ⟨b, off + d * 2, none⟩ = some (.slice (A (2 * d)) (L (2 * d)) (C (2 * d))) /\ u.cell? ⟨b, off + d * 2 + 1, none⟩ = some (.slice (A (2 * d + 1)) (L (2 * d + 1)) (C (2 * d + 1))))) (go_keep) ((go_at_call 223; refine (HNX.out _ (bth (bth B1.out HB2.out) (bdw _ _))).mono ?_; rintro e wa ⟨rfl, ha⟩; have BA : Hid (Below w1.heap.size w1 wa) := bth HB2.out (of_drew' ha); obtain ⟨⟨d0, d1, d2, d3⟩, ⟨t0, t1, t2, t3, t4, t5⟩, x0, x1⟩ := HKK.out wa BA.out; have SZ : Hid (w2.heap.size <= wa.heap.size /\ ∀ u, Below wa.heap.size wa u -> At w u (w.heap.size + 2) #[.int .i64 0, .int .i64 0, .int .i64 0, .slice none 0 0] 56) := ⟨Nat.le_trans HZw2.out.1 (of_drew' ha).size, fun u hu => HZw2.out.2 u (bth (of_drew' ha) hu)⟩; clear ha))
  clear a0 a1 a2 a3 s0 s1 s2 s3 s4 s5 r0 r1
  try clear d0 d1 d2 d3 x0 x1
  go_wp2_with fail
  go_region_held3 (fun u => u.cell? ⟨w.heap.size + 1, 0, none⟩ = some (.int .u8 ((s.kd.toNat : Nat) : Int)) /\ u.cell? ⟨w.heap.size + 1, 1, none⟩ = some (.int .i64 (d : Int)) /\ u.cell? ⟨w.heap.size + 1, 2, none⟩ = some (.int .i64 s.ce) /\ u.cell? ⟨w.heap.size + 1, 3, none⟩ = some (.int .i64 s.st) /\ u.cell? ⟨w.heap.size + 1, 4, none⟩ = some (.slice vo s.vn vc) /\ u.cell? ⟨w.heap.size + 1, 5, none⟩ = some (.slice bo s.dn cb)) (go_keep) ((go_at_call 224; refine (HMD.out _ (bth (bth B1.out BA.out) (bdw _ _))).mono ?_; rintro e wb ⟨uo, uc, rfl, hou, hb⟩; have BB : Hid (Below w1.heap.size w1 wb) := bth BA.out (of_drew' hb); obtain ⟨_, ⟨g0, g1, g2, g3, g4, g5⟩, _, _⟩ := HKK.out wb BB.out; have pt := SZ.out.2 wb (of_drew' hb); have h0 := pt.cell (i := 0) rfl; have h1 := pt.cell (i := 1) rfl; have h2 := pt.cell (i := 2) rfl; have h3 := pt.cell (i := 3) rfl; have hf := pt.free; have HOU : Hid (OwU wa.heap.size wb uo (sz N c) uc (enc s)) := hou.mono (by simp); clear hou hb pt))
  go_wp2_with fail
  refine bodyPost_ret (v := .agg #[.int .i64 (d : Int), .int .i64 nu, .int .i64 ((sl : Nat) : Int), .slice uo (sz N c) uc]) (by simp [results, Tryz.results154, go_sem, h0, h1, h2, h3]) rfl ?_
  have hsz2 := SZ.out.1
  have hz3 := HZ3.out
  have hwa := (bth B1.out BA.out).size
  refine ⟨uo, uc, rfl, (HOU.out.stay fun g hg _ => ?_).mono hwa, bth B1.out ((((BB.out.setCell (by show w1.heap.size <= w.heap.size + 2; omega) _).setCell (by show w1.heap.size <= w.heap.size + 2; omega) _).setCell (by show w1.heap.size <= w.heap.size + 2; omega) _).setCell (by show w1.heap.size <= w.heap.size + 2; omega) _)⟩
  have hne : g ≠ w.heap.size + 2 := by omega
  rw [heap_setCell_other _ _ _ _ hne, heap_setCell_other _ _ _ _ hne, heap_setCell_other _ _ _ _ hne, heap_setCell_other _ _ _ _ hne]
end Go.Proofs.YtemlojjkokooeaaGreat
