import Derived.Test.YtdmpiipllmjloaaGreatPj51
namespace Go.Proofs.YtdmpiipllmjloaaGreat
open Go.RowKit
theorem cell_far {v : World} {g b i j : Nat} {u : Value} (h : b ≠ g) : (v.setCell ⟨g, i, none⟩ u).cell? ⟨b, j, none⟩ = v.cell? ⟨b, j, none⟩ := by
  unfold World.cell?
  rw [show (v.setCell ⟨g, i, none⟩ u).heap[(⟨b, j, none⟩ : Addr).block]? = v.heap[(⟨b, j, none⟩ : Addr).block]? from heap_setCell_other _ _ _ _ h]
theorem at_three {a v : World} {g : Nat} {t : TypeId} {x0 x1 x2 : Value} (h : At a v g #[x0, x1, x2] t) (u0 u1 u2 : Value) : At a (((v.setCell ⟨g, 0, none⟩ u0).setCell ⟨g, 1, none⟩ u1).setCell ⟨g, 2, none⟩ u2) g #[u0, u1, u2] t := ((h.set 0 u0).set 1 u1).set 2 u2
set_option maxHeartbeats 16000000 in
set_option maxRecDepth 100000 in
theorem point_good {K m Z : Nat} {r c q : Int} (w : World) (ro : Option Addr) (rn rc : Nat) (v len dep : Int) (so : Option Addr) (sn sc : Nat) (tob : Option Addr) (tn tc : Nat) (R V : Nat -> Int) (hD : De.Rec w so sn sc R V) (hsn : sn <= 1000) (TV : Nat -> Bool) (hT : RdT w tob tn TV) (P : Nat -> Bool) (hP : ∀ i, P i = !(decide (i < tn) && TV i)) (hrn : 0 < rn) (hrn2 : rn <= 16) (os : Nat -> Nat) (G : Nat -> Nat -> UInt8) (hm : m ≠ 0) (hos : ∀ i, os i < 2) (A : Nat -> Option Addr) (L C : Nat -> Nat) (F : Nat -> Nat -> UInt8) (hr : Rw w ro rn A L C F)
    (v0 Ao Do : Int) (no : Nat) (Ro Vo : Nat -> Int) (hno : no <= 1000) (hv0 : v0 ≠ v) (Fi Pu' Co : Prop) (gl : Nat)
    (HPU : Hid (∀ u, Below w.heap.size w u -> Calls Tryz.prog 6 #[.agg #[.int .i64 (K : Int), .int .i64 r, .int .i64 c, .int .i64 q], .slice ro rn rc, .int .i64 0, .int .i64 v, .agg #[.int .i64 len, .int .i64 dep, .slice so sn sc]] u fun e w' => ∃ lo lc T U, e = .returned (.tuple #[.slice lo rn lc, .int .i64 0]) /\ PL u.heap.size w' lo rn lc rn (fun _ => m) os 0 Z T U G /\ Below u.heap.size u w'))
    (HRO : Hid (∀ u, Below w.heap.size w u -> Calls Tryz.prog 7 #[.agg #[.int .i64 (K : Int), .int .i64 r, .int .i64 c, .int .i64 q], .slice ro rn rc] u (AnsRd u 0 v0 Ao Do no Ro Vo)))
    (HFI : Hid (∀ u, Below w.heap.size w u -> Calls Tryz.prog 8 #[.agg #[.int .i64 (K : Int), .int .i64 r, .int .i64 c, .int .i64 q], .slice ro rn rc, .int .i64 v] u fun e w' => ∃ y : Bool, e = .returned (.bool y) /\ (y = true -> Fi) /\ Below u.heap.size u w'))
    (HPR : Hid (∀ u, Below w.heap.size w u -> Calls Tryz.prog 9 #[.agg #[.int .i64 (K : Int), .int .i64 r, .int .i64 c, .int .i64 q], .slice ro rn rc] u fun e w' => ∃ y : Bool, e = .returned (.bool y) /\ (y = true -> Pu') /\ Below u.heap.size u w'))
    (HMI : Hid (Fi -> Pu' -> ∀ u, Below w.heap.size w u -> Calls Tryz.prog 10 #[.agg #[.int .i64 (K : Int), .int .i64 r, .int .i64 c, .int .i64 q], .slice ro rn rc, .int .i64 v0] u fun e w' => ∃ mo mc, e = .returned (.tuple #[.slice mo gl mc, .int .i64 0]) /\ Below u.heap.size u w'))
    (HPO : Hid (∀ u, Calls Tryz.prog 11 #[.agg #[.int .i64 (K : Int), .int .i64 r, .int .i64 c, .int .i64 q]] u fun e w' => e = .returned (.tuple #[.int .i64 (K : Int), .int .i64 0]) /\ Below u.heap.size u w'))
    (HCO : Hid (∀ u, Below w.heap.size w u -> Calls Tryz.prog 12 #[.agg #[.int .i64 (K : Int), .int .i64 r, .int .i64 c, .int .i64 q], .slice ro rn rc, .int .i64 v0] u fun e w' => ∃ y : Bool, e = .returned (.bool y) /\ (y = true -> Co) /\ Below u.heap.size u w'))
    (HNW : Hid (Fi -> Pu' -> gl = 0 -> ∀ n, n <= rn -> ∀ u g cp A' C', Rw u (some ⟨g, 0, none⟩) rn A' (wp (fun _ => true) 0 (bP (fun _ => m) os rn L (fun _ => Z) n) rn) C' (bP (fun _ => m) os rn F G n) -> Calls Tryz.prog 7 #[.agg #[.int .i64 (K : Int), .int .i64 r, .int .i64 c, .int .i64 q], .slice (some ⟨g, 0, none⟩) rn cp] u (AnsRd u 0 (if K <= n then v else v0) (if K <= n then len else Ao) (if K <= n then dep else Do) (if K <= n then sn else no) (if K <= n then R else Ro) (if K <= n then V else Vo))))
    (HNX : Hid (Fi -> Pu' -> gl = 0 -> Co -> (((Cn.dl (fun i => !P i) rn).length : Nat) : Int) <= r -> ∀ n, n <= rn -> ∀ u g cp A' C', Rw u (some ⟨g, 0, none⟩) rn A' (wp P 0 (bP (fun _ => m) os rn L (fun _ => Z) n) rn) C' (bP (fun _ => m) os rn F G n) -> Calls Tryz.prog 7 #[.agg #[.int .i64 (K : Int), .int .i64 r, .int .i64 c, .int .i64 q], .slice (some ⟨g, 0, none⟩) rn cp] u (AnsRd u 0 (if K <= (Cn.dl P n).length then v else v0) (if K <= (Cn.dl P n).length then len else Ao) (if K <= (Cn.dl P n).length then dep else Do) (if K <= (Cn.dl P n).length then sn else no) (if K <= (Cn.dl P n).length then R else Ro) (if K <= (Cn.dl P n).length then V else Vo))))
    (HNY : Hid (∀ n, n <= rn -> ∃ E y A D nn R V, ∀ u g cp A' C', Rw u (some ⟨g, 0, none⟩) rn A' (wp P 0 (bP (fun _ => m) os rn L (fun _ => Z) n) rn) C' (bP (fun _ => m) os rn F G n) -> Calls Tryz.prog 7 #[.agg #[.int .i64 (K : Int), .int .i64 r, .int .i64 c, .int .i64 q], .slice (some ⟨g, 0, none⟩) rn cp] u (AnsRd u E y A D nn R V))) :
    Calls Tryz.prog 3 #[.agg #[.int .i64 (K : Int), .int .i64 r, .int .i64 c, .int .i64 q], .slice ro rn rc, .int .i64 v, .agg #[.int .i64 len, .int .i64 dep, .slice so sn sc], .slice tob tn tc] w fun e w' => e = .returned (.bool true) /\ Below w.heap.size w w' := by
  obtain ⟨w0, hw0⟩ : ∃ w0, w0 = w.alloc (.cells #[.int .i64 (K : Int), .int .i64 r, .int .i64 c, .int .i64 q] 23) := ⟨_, rfl⟩
  obtain ⟨w1, hw1⟩ : ∃ w1, w1 = w0.alloc (.cells #[.int .i64 len, .int .i64 dep, .slice so sn sc] 27) := ⟨_, rfl⟩
  have b0 : Below w.heap.size w w0 := by rw [hw0]; exact below_alloc _ _
  have b1 : Below w0.heap.size w0 w1 := by rw [hw1]; exact below_alloc _ _
  have z0 : w0.heap.size = w.heap.size + 1 := by rw [hw0]; simp
  have HQ : Hid (∀ u, Below w1.heap.size w1 u -> (u.cell? ⟨w.heap.size, 0, none⟩ = some (.int .i64 (K : Int)) /\ u.cell? ⟨w.heap.size, 1, none⟩ = some (.int .i64 r) /\ u.cell? ⟨w.heap.size, 2, none⟩ = some (.int .i64 c) /\ u.cell? ⟨w.heap.size, 3, none⟩ = some (.int .i64 q)) /\ (u.cell? ⟨w.heap.size + 1, 0, none⟩ = some (.int .i64 len) /\ u.cell? ⟨w.heap.size + 1, 1, none⟩ = some (.int .i64 dep) /\ u.cell? ⟨w.heap.size + 1, 2, none⟩ = some (.slice so sn sc))) := fun u hu => ⟨par_held hw0 (below_then b1 hu), by rw [<- z0]; exact ⟨blk_held hw1 hu 0 rfl, blk_held hw1 hu 1 rfl, blk_held hw1 hu 2 rfl⟩⟩
  have B1 : Hid (Below w.heap.size w w1) := below_then b0 b1
  have HDR : Hid (De.Rec w so sn sc R V) := hD
  have HTT : Hid (RdT w tob tn TV) := hT
  have HPP : Hid (∀ i, P i = !(decide (i < tn) && TV i)) := hP
  have HWL1 : w.heap.size + 2 <= w1.heap.size := by rw [hw1]; simp [z0]
  have q1 : (v0 == v) = false := by simp [hv0]
  have q2 : (v == v0) = false := by simp [Ne.symm hv0]
  have q3 : (v0 != v) = true := by simp [hv0]
  have q4 : (v != v0) = true := by simp [Ne.symm hv0]
  have HBE : Hid (∀ u tob tn tc TV P lo lc T U B, Below w.heap.size w u -> PL B u lo rn lc rn (fun _ => m) os 0 Z T U G -> RdT u tob tn TV -> (∀ i, P i = !(decide (i < tn) && TV i)) -> ∀ n, n <= rn -> Calls Tryz.prog 13 #[.slice ro rn rc, .slice lo rn lc, .int .i64 (n : Int), .slice tob tn tc] u fun e w' => ∃ g c' A' C', e = .returned (.tuple #[.slice (some ⟨g, 0, none⟩) rn c', .int .i64 (((Cn.dl (fun i => !P i) rn).length : Nat) : Int)]) /\ Rw w' (some ⟨g, 0, none⟩) rn A' (wp P 0 (bP (fun _ => m) os rn L (fun _ => Z) n) rn) C' (bP (fun _ => m) os rn F G n) /\ Below u.heap.size u w') := fun u tob tn tc TV P lo lc T U B hu hp ht hP n hn => by
    have hcf := Cod.cnt_full (L := fun _ => m) (n := rn) (fun _ _ => hm)
    have hb := behind_any u ro rn rc A L C F (hr.below hu) hrn hrn2 B lo lc (fun _ => m) os 0 Z T U G (by rw [hcf]; exact hp) hos n (by rw [hcf]; exact hn) tob tn tc TV ht P hP
    rw [hcf] at hb
    refine hb.mono ?_
    rintro e w' ⟨g, c', rfl, hrn', hb'⟩
    exact ⟨g, c', _, _, rfl, hrn'.rw, hb'⟩
  clear hD hr hT hP
  go_enter Tryz.func3, Tryz.ntmps3
  go_wp2_with fail
  rw [<- hw0, <- hw1]
  clear hw0 hw1 b0 b1 z0
  refine (awake_any _).mono ?_
  rintro e wa ⟨rfl, ha⟩
  have BA : Hid (Below w1.heap.size w1 wa) := ha
  clear ha
  obtain ⟨⟨s0, s1, s2, s3⟩, t0, t1, t2⟩ := HQ.out wa BA.out
  go_wp2_with fail
  refine (HPU.out wa (below_then B1.out BA.out)).mono ?_
  rintro e wf ⟨lo, lc, T, U, rfl, hpl, hf⟩
  have BF : Hid (Below w1.heap.size w1 wf) := below_then BA.out hf
  have HPL : Hid (PL wa.heap.size wf lo rn lc rn (fun _ => m) os 0 Z T U G) := hpl
  clear hpl hf
  clear s0 s1 s2 s3 t0 t1 t2
  obtain ⟨⟨s0, s1, s2, s3⟩, t0, t1, t2⟩ := HQ.out wf BF.out
  go_wp2_with fail
  refine (HRO.out wf (below_then B1.out BF.out)).mono ?_
  rintro e wg ⟨oo, oc, rfl, how, hg⟩
  rw [De.lenI_zero, De.lenI_zero, De.lenI_zero, lenE_zero]
  rw [lenE_zero] at how
  have BG : Hid (Below w1.heap.size w1 wg) := below_then BF.out hg
  obtain ⟨wh, hwh⟩ : ∃ wh, wh = wg.alloc (.cells #[.int .i64 Ao, .int .i64 Do, .slice oo no oc] 27) := ⟨_, rfl⟩
  have bh : Below wg.heap.size wg wh := by rw [hwh]; exact below_alloc _ _
  have BH : Hid (Below w1.heap.size w1 wh) := below_then BG.out bh
  have HQ2 : Hid (∀ u, Below wh.heap.size wh u -> (u.cell? ⟨w.heap.size, 0, none⟩ = some (.int .i64 (K : Int)) /\ u.cell? ⟨w.heap.size, 1, none⟩ = some (.int .i64 r) /\ u.cell? ⟨w.heap.size, 2, none⟩ = some (.int .i64 c) /\ u.cell? ⟨w.heap.size, 3, none⟩ = some (.int .i64 q)) /\ (u.cell? ⟨w.heap.size + 1, 0, none⟩ = some (.int .i64 len) /\ u.cell? ⟨w.heap.size + 1, 1, none⟩ = some (.int .i64 dep) /\ u.cell? ⟨w.heap.size + 1, 2, none⟩ = some (.slice so sn sc)) /\ (u.cell? ⟨wg.heap.size, 0, none⟩ = some (.int .i64 Ao) /\ u.cell? ⟨wg.heap.size, 1, none⟩ = some (.int .i64 Do) /\ u.cell? ⟨wg.heap.size, 2, none⟩ = some (.slice oo no oc))) := fun u hu => ⟨(HQ.out u (below_then BH.out hu)).1, (HQ.out u (below_then BH.out hu)).2, blk_held hwh hu 0 rfl, blk_held hwh hu 1 rfl, blk_held hwh hu 2 rfl⟩
  have HOR : Hid (De.RdR wh oo no Ro Vo) := (how.below bh).rec.rd
  have HPL2 : Hid (PL wa.heap.size wh lo rn lc rn (fun _ => m) os 0 Z T U G) := HPL.out.below (below_then hg bh)
  have BHW : Hid (Below w.heap.size w wh) := below_then B1.out BH.out
  clear hg bh how HPL
  clear s0 s1 s2 s3 t0 t1 t2
  obtain ⟨⟨s0, s1, s2, s3⟩, t0, t1, t2⟩ := HQ.out (wg.alloc (.cells #[.int .i64 Ao, .int .i64 Do, .slice oo no oc] 27)) (by rw [<- hwh]; exact BH.out)
  go_wp2_with fail
  rw [<- hwh]
  clear hwh
  clear s0 s1 s2 s3 t0 t1 t2
  refine (HFI.out wh BHW.out).mono ?_
  rintro e wi ⟨y1, rfl, hy1, hi⟩
  have BI : Hid (Below wh.heap.size wh wi) := hi
  clear hi
  obtain ⟨⟨s0, s1, s2, s3⟩, ⟨t0, t1, t2⟩, o0, o1, o2⟩ := HQ2.out wi BI.out
  cases y1
  · go_wp2_with fail
    go_ret
    exact ⟨rfl, below_then BHW.out BI.out⟩
  have hFi := hy1 rfl
  clear hy1
  go_wp2_with fail
  refine (HPR.out wi (below_then BHW.out BI.out)).mono ?_
  rintro e wj ⟨y2, rfl, hy2, hj⟩
  have BJ : Hid (Below wh.heap.size wh wj) := below_then BI.out hj
  clear hj
  clear s0 s1 s2 s3 t0 t1 t2 o0 o1 o2
  obtain ⟨⟨s0, s1, s2, s3⟩, ⟨t0, t1, t2⟩, o0, o1, o2⟩ := HQ2.out wj BJ.out
  cases y2
  · go_wp2_with fail
    go_ret
    exact ⟨rfl, below_then BHW.out BJ.out⟩
  have hPu := hy2 rfl
  clear hy2
  go_wp2_with fail
  refine (HMI.out hFi hPu wj (below_then BHW.out BJ.out)).mono ?_
  rintro e wk ⟨mo, mc, rfl, hk⟩
  have BK : Hid (Below wh.heap.size wh wk) := below_then BJ.out hk
  clear hk
  clear s0 s1 s2 s3 t0 t1 t2 o0 o1 o2
  obtain ⟨⟨s0, s1, s2, s3⟩, ⟨t0, t1, t2⟩, o0, o1, o2⟩ := HQ2.out wk BK.out
  go_wp2_with fail
  refine (HPO.out wk).mono ?_
  rintro e wl ⟨rfl, hl⟩
  have BL : Hid (Below wh.heap.size wh wl) := below_then BK.out hl
  clear hl
  clear s0 s1 s2 s3 t0 t1 t2 o0 o1 o2
  obtain ⟨⟨s0, s1, s2, s3⟩, ⟨t0, t1, t2⟩, o0, o1, o2⟩ := HQ2.out wl BL.out
  have HWL : Hid (w.heap.size + 2 <= wh.heap.size) := Nat.le_trans HWL1 BH.out.size
  clear HWL1
  by_cases hgl : 0 < gl
  · have g1 : decide ((0 : Int) < (gl : Int)) = true := decide_eq_true (by omega)
    go_wp2_with fail
    go_ret
    exact ⟨rfl, below_then BHW.out BL.out⟩
  obtain rfl : gl = 0 := by omega
  have hNW := HNW.out hFi hPu rfl
  have hNX := HNX.out hFi hPu rfl
  have HFP : Hid (True) := trivial
  clear hgl hFi hPu HNW HNX HMI HFI HPR
  go_wp2_with fail
  refine (HCO.out wl (below_then BHW.out BL.out)).mono ?_
  rintro e wm ⟨yc, rfl, hyc, hm⟩
  have BM : Hid (Below wh.heap.size wh wm) := below_then BL.out hm
  have hNX2 : yc = true -> _ := fun a => hNX (hyc a)
  clear hm hyc hNX HCO
  clear s0 s1 s2 s3 t0 t1 t2 o0 o1 o2
  go_wp2_with fail
  go_loopw [22] (fun y wr => ∃ n : Nat, n <= rn + 1 /\ y = .int .i64 (n : Int) /\ Hid (Below wh.heap.size wh wr)) (fun y _ => rn + 1 - (intOf y).toNat)
  case atStart => exact ⟨0, Nat.zero_le _, rfl, BM.out⟩
  case round =>
    obtain ⟨n, hn, rfl, hbw⟩ := hrel
    by_cases hlt : n <= rn
    · have l1 : (n : Int) <= (rn : Int) := by omega
      obtain ⟨⟨s0, s1, s2, s3⟩, ⟨t0, t1, t2⟩, o0, o1, o2⟩ := HQ2.out wr hbw.out
      go_wp2_with fail
      refine (HBE.out wr none 0 0 (fun _ => false) (fun _ => true) lo lc T U _ (below_then BHW.out hbw.out) (HPL2.out.below hbw.out) (fun h => absurd h (Nat.lt_irrefl 0)) (fun i => by rw [decide_eq_false (Nat.not_lt_zero i)]; rfl) n hlt).mono ?_
      rintro e wn ⟨g, gc, A', C', rfl, hrw, hwn⟩
      have BN : Hid (Below wh.heap.size wh wn) := below_then hbw.out hwn
      clear hwn
      clear s0 s1 s2 s3 t0 t1 t2 o0 o1 o2
      obtain ⟨⟨s0, s1, s2, s3⟩, ⟨t0, t1, t2⟩, o0, o1, o2⟩ := HQ2.out wn BN.out
      have HN := hNW n hlt wn g gc A' C' hrw
      clear hrw
      by_cases hk : K <= n
      · rw [if_pos hk, if_pos hk, if_pos hk, if_pos hk, if_pos hk, if_pos hk] at HN
        unfold AnsRd at HN
        rw [De.lenI_zero, De.lenI_zero, De.lenI_zero, lenE_zero] at HN
        have k1 : decide ((K : Int) <= (n : Int)) = true := decide_eq_true (by omega)
        go_wp2_with fail
        refine HN.mono ?_
        rintro e wo ⟨xo, xc, rfl, hxo, hwo⟩
        have BO : Hid (Below wh.heap.size wh wo) := below_then BN.out hwo
        obtain ⟨wp1, hwp⟩ : ∃ wp1, wp1 = wo.alloc (.cells #[.int .i64 len, .int .i64 dep, .slice xo sn xc] 27) := ⟨_, rfl⟩
        have bp : Below wo.heap.size wo wp1 := by rw [hwp]; exact below_alloc _ _
        have BP : Hid (Below wh.heap.size wh wp1) := below_then BO.out bp
        have HXA : Hid (∀ u, Below wp1.heap.size wp1 u -> At wh u wo.heap.size #[.int .i64 len, .int .i64 dep, .slice xo sn xc] 27) := fun u hu => (at_made BO.out hwp).below hu
        have hsm := same_any wp1 len dep xo sn xc so sc R V (hxo.below bp).rec.rd (HDR.out.below (below_then BHW.out BP.out)).rd (by omega)
        clear hwo bp hxo HN
        clear s0 s1 s2 s3 t0 t1 t2 o0 o1 o2
        obtain ⟨⟨s0, s1, s2, s3⟩, ⟨t0, t1, t2⟩, o0, o1, o2⟩ := HQ2.out (wo.alloc (.cells #[.int .i64 len, .int .i64 dep, .slice xo sn xc] 27)) (by rw [<- hwp]; exact BP.out)
        go_wp2_with fail
        rw [<- hwp]
        clear hwp
        refine hsm.mono ?_
        rintro e wq ⟨rfl, hq⟩
        have HXB : Hid (∀ u, Below wq.heap.size wq u -> At wh u wo.heap.size #[.int .i64 len, .int .i64 dep, .slice xo sn xc] 27) := fun u hu => HXA.out u (below_then hq hu)
        have BQ : Hid (Below wh.heap.size wh wq) := below_then BP.out hq
        clear hq hsm HXA
        clear s0 s1 s2 s3 t0 t1 t2 o0 o1 o2
        obtain ⟨xa, xd, xs, HXB1⟩ : ∃ xa xd xs, Hid (∀ u, Below wq.heap.size wq u -> At wh u wo.heap.size #[xa, xd, xs] 27) := ⟨_, _, _, HXB⟩
        clear HXB
        have HXB := HXB1
        clear HXB1
        obtain ⟨⟨s0, s1, s2, s3⟩, ⟨t0, t1, t2⟩, o0, o1, o2⟩ := HQ2.out wq BQ.out
        go_wp2_with fail
        refine (HBE.out wq tob tn tc TV P lo lc T U _ (below_then BHW.out BQ.out) (HPL2.out.below BQ.out) (HTT.out.below (below_then BHW.out BQ.out)) HPP.out n hlt).mono ?_
        rintro e wr2 ⟨g2, gc2, A2, C2, rfl, hrw2, hw2⟩
        have BR : Hid (Below wh.heap.size wh wr2) := below_then BQ.out hw2
        have HXC : Hid (∀ u, Below wr2.heap.size wr2 u -> At wh u wo.heap.size #[xa, xd, xs] 27) := fun u hu => HXB.out u (below_then hw2 hu)
        have HXL : Hid (wo.heap.size < wr2.heap.size) := (Array.getElem?_eq_some_iff.1 (HXC.out wr2 (Below.refl _ _)).2).1
        have n2 : w.heap.size ≠ wo.heap.size := by have h1 := BO.out.size; have h2 := HWL.out; omega
        have cfar : ∀ (v' : World) (i j : Nat) (u : Value), (v'.setCell ⟨wo.heap.size, i, none⟩ u).cell? ⟨w.heap.size, j, none⟩ = v'.cell? ⟨w.heap.size, j, none⟩ := fun v' i j u => cell_far n2
        clear n2
        clear hw2 HXB
        clear s0 s1 s2 s3 t0 t1 t2 o0 o1 o2
        obtain ⟨⟨s0, s1, s2, s3⟩, ⟨t0, t1, t2⟩, o0, o1, o2⟩ := HQ2.out wr2 BR.out
        by_cases hgo : (((Cn.dl (fun i => !P i) rn).length : Nat) : Int) <= r
        · have k2 : decide (r < (((Cn.dl (fun i => !P i) rn).length : Nat) : Int)) = false := decide_eq_false (by omega)
          cases hyc : yc
          · subst hyc
            obtain ⟨eE, ey, eA, eD, en, eR, eV, HY⟩ := HNY.out n hlt
            have HM := HY wr2 g2 gc2 A2 C2 hrw2
            unfold AnsRd at HM
            clear hrw2 HY
            go_wp2_with fail
            refine HM.mono ?_
            rintro e ws ⟨yo, yc2, rfl, _, hws⟩
            have BS : Hid (Below wh.heap.size wh ws) := below_then BR.out hws
            have hxa := HXC.out ws hws
            have x0 := hxa.cell (i := 0) rfl
            have x1 := hxa.cell (i := 1) rfl
            have x2 := hxa.cell (i := 2) rfl
            have xf := hxa.free
            have hxg := hxa.1
            have BZ : Hid (Below wh.heap.size wh (((ws.setCell ⟨wo.heap.size, 0, none⟩ (.int .i64 (De.lenI eE eA))).setCell ⟨wo.heap.size, 1, none⟩ (.int .i64 (De.lenI eE eD))).setCell ⟨wo.heap.size, 2, none⟩ (.slice yo (lenE eE en) yc2))) := below_two BS.out hxg _ _ _
            clear hws hxa HM HXC hxg
            clear s0 s1 s2 s3 t0 t1 t2 o0 o1 o2
            obtain ⟨⟨s0, s1, s2, s3⟩, ⟨t0, t1, t2⟩, o0, o1, o2⟩ := HQ2.out ws BS.out
            go_wp2_with fail
            go_roundw
            case rel => exact ⟨n + 1, by omega, by go_num, BZ.out⟩
            case measure => simp [intOf]; omega
          · have HM := hNX2 hyc hgo n hlt wr2 g2 gc2 A2 C2 hrw2
            subst hyc
            clear hrw2
            obtain ⟨lf, hlf⟩ : ∃ lf, lf = (Cn.dl P n).length := ⟨_, rfl⟩
            have hlf2 := Cn.dl_few P n
            rw [<- hlf] at HM hlf2
            have HLF : Hid (lf = (Cn.dl P n).length) := hlf
            clear hlf
            by_cases hk3 : K <= lf
            · rw [if_pos hk3, if_pos hk3, if_pos hk3, if_pos hk3, if_pos hk3, if_pos hk3] at HM
              unfold AnsRd at HM
              rw [De.lenI_zero, De.lenI_zero, De.lenI_zero, lenE_zero] at HM
              have k3 : decide ((K : Int) <= (lf : Int)) = true := decide_eq_true (by omega)
              go_wp2_with fail
              refine HM.mono ?_
              rintro e ws ⟨yo, yc2, rfl, hyo, hws⟩
              have BS : Hid (Below wh.heap.size wh ws) := below_then BR.out hws
              have hxa := HXC.out ws hws
              have x0 := hxa.cell (i := 0) rfl
              have x1 := hxa.cell (i := 1) rfl
              have x2 := hxa.cell (i := 2) rfl
              have xf := hxa.free
              have hxg := hxa.1
              obtain ⟨wz, hwz⟩ : ∃ wz, wz = (((ws.setCell ⟨wo.heap.size, 0, none⟩ (.int .i64 len)).setCell ⟨wo.heap.size, 1, none⟩ (.int .i64 dep)).setCell ⟨wo.heap.size, 2, none⟩ (.slice yo sn yc2)) := ⟨_, rfl⟩
              have HXN : Hid (At wh wz wo.heap.size #[.int .i64 len, .int .i64 dep, .slice yo sn yc2] 27) := by show At _ _ _ _ _; rw [hwz]; exact at_three hxa _ _ _
              have HOY2 : Hid (De.RdR wz yo sn R V) := by
                show De.RdR _ _ _ _ _
                rw [hwz]
                refine (hyo.stay fun t ht _ => ?_).rec.rd
                have hne : t ≠ wo.heap.size := by have h2 := HXL.out; omega
                rw [heap_setCell_other _ _ _ _ hne, heap_setCell_other _ _ _ _ hne, heap_setCell_other _ _ _ _ hne]
              have BZ : Hid (Below wh.heap.size wh wz) := by show Below _ _ _; rw [hwz]; exact below_two BS.out hxg _ _ _
              clear hws hyo hxa HM HXC hxg
              clear s0 s1 s2 s3 t0 t1 t2 o0 o1 o2
              obtain ⟨⟨s0, s1, s2, s3⟩, ⟨t0, t1, t2⟩, o0, o1, o2⟩ := HQ2.out ws BS.out
              go_wp2_with fail
              rw [<- hwz]
              clear hwz x0 x1 x2 xf
              clear s0 s1 s2 s3 t0 t1 t2 o0 o1 o2
              go_loopw [30, 31] (fun z y wr => ∃ i : Nat, i <= n /\ y = .int .i64 (i : Int) /\ z = .int .i64 (((Cn.dl P i).length : Nat) : Int) /\ wr = wz) (fun _ y _ => n - (intOf y).toNat)
              case atStart => exact ⟨0, Nat.zero_le _, rfl, rfl, rfl⟩
              case round =>
                obtain ⟨i, hi, rfl, rfl, hwz⟩ := hrel
                obtain rfl := hwz.symm
                obtain ⟨ct, hct⟩ : ∃ ct, ct = (Cn.dl P i).length := ⟨_, rfl⟩
                have hctb := Cn.dl_few P i
                rw [<- hct] at hctb ⊢
                have HCT : Hid (ct = (Cn.dl P i).length) := hct
                clear hct
                have j0 : (0 : Int) <= (i : Int) := by omega
                by_cases hin : i < n
                · have j1 : (i : Int) < (n : Int) := by omega
                  by_cases hit : i < tn
                  · have j2 : (i : Int) < (tn : Int) := by omega
                    have j3 : decide ((tn : Int) <= (i : Int)) = false := decide_eq_false (by omega)
                    obtain ⟨tb, tf, rfl, hc⟩ := HTT.out (by omega)
                    have cw : wz.cell? ⟨tb, tf + i, none⟩ = some (.bool (TV i)) := held (hc i hit) (below_then BHW.out BZ.out)
                    clear hc
                    cases hTV : TV i
                    · rw [hTV] at cw
                      have HS : Hid (ct + 1 = (Cn.dl P (i + 1)).length) := by
                        show _ = _
                        rw [Cn.dl, if_pos (by rw [HPP.out, hTV]; simp), HCT.out]; simp
                      go_wp2_with fail
                      go_roundw
                      case rel => exact ⟨i + 1, by omega, by go_num, by rw [<- HS.out]; go_num, by first | rfl | trivial⟩
                      case measure => simp [intOf]; omega
                    · rw [hTV] at cw
                      have HS : Hid (ct = (Cn.dl P (i + 1)).length) := by
                        show _ = _
                        rw [Cn.dl, if_neg (by rw [HPP.out, hTV, decide_eq_true hit]; decide)]; exact HCT.out
                      go_wp2_with fail
                      go_roundw
                      case rel => exact ⟨i + 1, by omega, by go_num, by rw [<- HS.out], by first | rfl | trivial⟩
                      case measure => simp [intOf]; omega
                  · have j3 : decide ((tn : Int) <= (i : Int)) = true := decide_eq_true (by omega)
                    have HS : Hid (ct + 1 = (Cn.dl P (i + 1)).length) := by
                      show _ = _
                      rw [Cn.dl, if_pos (by rw [HPP.out, decide_eq_false hit]; rfl), HCT.out]; simp
                    go_wp2_with fail
                    go_roundw
                    case rel => exact ⟨i + 1, by omega, by go_num, by rw [<- HS.out]; go_num, by first | rfl | trivial⟩
                    case measure => simp [intOf]; omega
                · obtain rfl : i = n := by omega
                  obtain rfl : ct = lf := by rw [HCT.out, HLF.out]
                  have hxa := HXN.out
                  have x0 := hxa.cell (i := 0) rfl
                  have x1 := hxa.cell (i := 1) rfl
                  have x2 := hxa.cell (i := 2) rfl
                  have hsm := same_any wz len dep yo sn yc2 so sc R V HOY2.out (HDR.out.below (below_then BHW.out BZ.out)).rd (by omega)
                  clear hxa
                  obtain ⟨⟨s0, s1, s2, s3⟩, ⟨t0, t1, t2⟩, o0, o1, o2⟩ := HQ2.out wz BZ.out
                  go_wp2_with fail
                  refine hsm.mono ?_
                  rintro e wy ⟨rfl, hy⟩
                  have BY : Hid (Below wh.heap.size wh wy) := below_then BZ.out hy
                  clear hy hsm x0 x1 x2
                  clear s0 s1 s2 s3 t0 t1 t2 o0 o1 o2
                  go_wp2_with fail
                  go_roundw
                  case rel => exact ⟨i + 1, by omega, by go_num, BY.out⟩
                  case measure => simp [intOf]; omega
            · rw [if_neg hk3, if_neg hk3, if_neg hk3, if_neg hk3, if_neg hk3, if_neg hk3] at HM
              unfold AnsRd at HM
              rw [De.lenI_zero, De.lenI_zero, De.lenI_zero, lenE_zero] at HM
              have k3 : decide ((K : Int) <= (lf : Int)) = false := decide_eq_false (by omega)
              go_wp2_with fail
              refine HM.mono ?_
              rintro e ws ⟨yo, yc2, rfl, hyo, hws⟩
              have BS : Hid (Below wh.heap.size wh ws) := below_then BR.out hws
              have hxa := HXC.out ws hws
              have x0 := hxa.cell (i := 0) rfl
              have x1 := hxa.cell (i := 1) rfl
              have x2 := hxa.cell (i := 2) rfl
              have xf := hxa.free
              have hxg := hxa.1
              obtain ⟨wz, hwz⟩ : ∃ wz, wz = (((ws.setCell ⟨wo.heap.size, 0, none⟩ (.int .i64 Ao)).setCell ⟨wo.heap.size, 1, none⟩ (.int .i64 Do)).setCell ⟨wo.heap.size, 2, none⟩ (.slice yo no yc2)) := ⟨_, rfl⟩
              have HXN : Hid (At wh wz wo.heap.size #[.int .i64 Ao, .int .i64 Do, .slice yo no yc2] 27) := by show At _ _ _ _ _; rw [hwz]; exact at_three hxa _ _ _
              have HOY2 : Hid (De.RdR wz yo no Ro Vo) := by
                show De.RdR _ _ _ _ _
                rw [hwz]
                refine (hyo.stay fun t ht _ => ?_).rec.rd
                have hne : t ≠ wo.heap.size := by have h2 := HXL.out; omega
                rw [heap_setCell_other _ _ _ _ hne, heap_setCell_other _ _ _ _ hne, heap_setCell_other _ _ _ _ hne]
              have BZ : Hid (Below wh.heap.size wh wz) := by show Below _ _ _; rw [hwz]; exact below_two BS.out hxg _ _ _
              clear hws hyo hxa HM HXC hxg
              clear s0 s1 s2 s3 t0 t1 t2 o0 o1 o2
              obtain ⟨⟨s0, s1, s2, s3⟩, ⟨t0, t1, t2⟩, o0, o1, o2⟩ := HQ2.out ws BS.out
              go_wp2_with fail
              rw [<- hwz]
              clear hwz x0 x1 x2 xf
              clear s0 s1 s2 s3 t0 t1 t2 o0 o1 o2
              go_loopw [30, 31] (fun z y wr => ∃ i : Nat, i <= n /\ y = .int .i64 (i : Int) /\ z = .int .i64 (((Cn.dl P i).length : Nat) : Int) /\ wr = wz) (fun _ y _ => n - (intOf y).toNat)
              case atStart => exact ⟨0, Nat.zero_le _, rfl, rfl, rfl⟩
              case round =>
                obtain ⟨i, hi, rfl, rfl, hwz⟩ := hrel
                obtain rfl := hwz.symm
                obtain ⟨ct, hct⟩ : ∃ ct, ct = (Cn.dl P i).length := ⟨_, rfl⟩
                have hctb := Cn.dl_few P i
                rw [<- hct] at hctb ⊢
                have HCT : Hid (ct = (Cn.dl P i).length) := hct
                clear hct
                have j0 : (0 : Int) <= (i : Int) := by omega
                by_cases hin : i < n
                · have j1 : (i : Int) < (n : Int) := by omega
                  by_cases hit : i < tn
                  · have j2 : (i : Int) < (tn : Int) := by omega
                    have j3 : decide ((tn : Int) <= (i : Int)) = false := decide_eq_false (by omega)
                    obtain ⟨tb, tf, rfl, hc⟩ := HTT.out (by omega)
                    have cw : wz.cell? ⟨tb, tf + i, none⟩ = some (.bool (TV i)) := held (hc i hit) (below_then BHW.out BZ.out)
                    clear hc
                    cases hTV : TV i
                    · rw [hTV] at cw
                      have HS : Hid (ct + 1 = (Cn.dl P (i + 1)).length) := by
                        show _ = _
                        rw [Cn.dl, if_pos (by rw [HPP.out, hTV]; simp), HCT.out]; simp
                      go_wp2_with fail
                      go_roundw
                      case rel => exact ⟨i + 1, by omega, by go_num, by rw [<- HS.out]; go_num, by first | rfl | trivial⟩
                      case measure => simp [intOf]; omega
                    · rw [hTV] at cw
                      have HS : Hid (ct = (Cn.dl P (i + 1)).length) := by
                        show _ = _
                        rw [Cn.dl, if_neg (by rw [HPP.out, hTV, decide_eq_true hit]; decide)]; exact HCT.out
                      go_wp2_with fail
                      go_roundw
                      case rel => exact ⟨i + 1, by omega, by go_num, by rw [<- HS.out], by first | rfl | trivial⟩
                      case measure => simp [intOf]; omega
                  · have j3 : decide ((tn : Int) <= (i : Int)) = true := decide_eq_true (by omega)
                    have HS : Hid (ct + 1 = (Cn.dl P (i + 1)).length) := by
                      show _ = _
                      rw [Cn.dl, if_pos (by rw [HPP.out, decide_eq_false hit]; rfl), HCT.out]; simp
                    go_wp2_with fail
                    go_roundw
                    case rel => exact ⟨i + 1, by omega, by go_num, by rw [<- HS.out]; go_num, by first | rfl | trivial⟩
                    case measure => simp [intOf]; omega
                · obtain rfl : i = n := by omega
                  obtain rfl : ct = lf := by rw [HCT.out, HLF.out]
                  have hxa := HXN.out
                  have x0 := hxa.cell (i := 0) rfl
                  have x1 := hxa.cell (i := 1) rfl
                  have x2 := hxa.cell (i := 2) rfl
                  have hsm := same_any wz Ao Do yo no yc2 oo oc Ro Vo HOY2.out (HOR.out.below BZ.out) hno
                  clear hxa
                  obtain ⟨⟨s0, s1, s2, s3⟩, ⟨t0, t1, t2⟩, o0, o1, o2⟩ := HQ2.out wz BZ.out
                  go_wp2_with fail
                  refine hsm.mono ?_
                  rintro e wy ⟨rfl, hy⟩
                  have BY : Hid (Below wh.heap.size wh wy) := below_then BZ.out hy
                  clear hy hsm x0 x1 x2
                  clear s0 s1 s2 s3 t0 t1 t2 o0 o1 o2
                  go_wp2_with fail
                  go_roundw
                  case rel => exact ⟨i + 1, by omega, by go_num, BY.out⟩
                  case measure => simp [intOf]; omega
        · have k2 : decide (r < (((Cn.dl (fun i => !P i) rn).length : Nat) : Int)) = true := decide_eq_true (by omega)
          obtain ⟨eE, ey, eA, eD, en, eR, eV, HY⟩ := HNY.out n hlt
          have HM := HY wr2 g2 gc2 A2 C2 hrw2
          unfold AnsRd at HM
          clear hrw2 HY
          go_wp2_with fail
          refine HM.mono ?_
          rintro e ws ⟨yo, yc2, rfl, _, hws⟩
          have BS : Hid (Below wh.heap.size wh ws) := below_then BR.out hws
          have hxa := HXC.out ws hws
          have x0 := hxa.cell (i := 0) rfl
          have x1 := hxa.cell (i := 1) rfl
          have x2 := hxa.cell (i := 2) rfl
          have xf := hxa.free
          have hxg := hxa.1
          have BZ : Hid (Below wh.heap.size wh (((ws.setCell ⟨wo.heap.size, 0, none⟩ (.int .i64 (De.lenI eE eA))).setCell ⟨wo.heap.size, 1, none⟩ (.int .i64 (De.lenI eE eD))).setCell ⟨wo.heap.size, 2, none⟩ (.slice yo (lenE eE en) yc2))) := below_two BS.out hxg _ _ _
          clear hws hxa HM HXC hxg
          clear s0 s1 s2 s3 t0 t1 t2 o0 o1 o2
          obtain ⟨⟨s0, s1, s2, s3⟩, ⟨t0, t1, t2⟩, o0, o1, o2⟩ := HQ2.out ws BS.out
          go_wp2_with fail
          go_roundw
          case rel => exact ⟨n + 1, by omega, by go_num, BZ.out⟩
          case measure => simp [intOf]; omega
      · rw [if_neg hk, if_neg hk, if_neg hk, if_neg hk, if_neg hk, if_neg hk] at HN
        unfold AnsRd at HN
        rw [De.lenI_zero, De.lenI_zero, De.lenI_zero, lenE_zero] at HN
        have k1 : decide ((K : Int) <= (n : Int)) = false := decide_eq_false (by omega)
        go_wp2_with fail
        refine HN.mono ?_
        rintro e wo ⟨xo, xc, rfl, hxo, hwo⟩
        have BO : Hid (Below wh.heap.size wh wo) := below_then BN.out hwo
        obtain ⟨wp1, hwp⟩ : ∃ wp1, wp1 = wo.alloc (.cells #[.int .i64 Ao, .int .i64 Do, .slice xo no xc] 27) := ⟨_, rfl⟩
        have bp : Below wo.heap.size wo wp1 := by rw [hwp]; exact below_alloc _ _
        have BP : Hid (Below wh.heap.size wh wp1) := below_then BO.out bp
        have HXA : Hid (∀ u, Below wp1.heap.size wp1 u -> At wh u wo.heap.size #[.int .i64 Ao, .int .i64 Do, .slice xo no xc] 27) := fun u hu => (at_made BO.out hwp).below hu
        have hsm := same_any wp1 Ao Do xo no xc oo oc Ro Vo (hxo.below bp).rec.rd (HOR.out.below BP.out) hno
        clear hwo bp hxo HN
        clear s0 s1 s2 s3 t0 t1 t2 o0 o1 o2
        obtain ⟨⟨s0, s1, s2, s3⟩, ⟨t0, t1, t2⟩, o0, o1, o2⟩ := HQ2.out (wo.alloc (.cells #[.int .i64 Ao, .int .i64 Do, .slice xo no xc] 27)) (by rw [<- hwp]; exact BP.out)
        go_wp2_with fail
        rw [<- hwp]
        clear hwp
        refine hsm.mono ?_
        rintro e wq ⟨rfl, hq⟩
        have HXB : Hid (∀ u, Below wq.heap.size wq u -> At wh u wo.heap.size #[.int .i64 Ao, .int .i64 Do, .slice xo no xc] 27) := fun u hu => HXA.out u (below_then hq hu)
        have BQ : Hid (Below wh.heap.size wh wq) := below_then BP.out hq
        clear hq hsm HXA
        clear s0 s1 s2 s3 t0 t1 t2 o0 o1 o2
        obtain ⟨xa, xd, xs, HXB1⟩ : ∃ xa xd xs, Hid (∀ u, Below wq.heap.size wq u -> At wh u wo.heap.size #[xa, xd, xs] 27) := ⟨_, _, _, HXB⟩
        clear HXB
        have HXB := HXB1
        clear HXB1
        obtain ⟨⟨s0, s1, s2, s3⟩, ⟨t0, t1, t2⟩, o0, o1, o2⟩ := HQ2.out wq BQ.out
        go_wp2_with fail
        refine (HBE.out wq tob tn tc TV P lo lc T U _ (below_then BHW.out BQ.out) (HPL2.out.below BQ.out) (HTT.out.below (below_then BHW.out BQ.out)) HPP.out n hlt).mono ?_
        rintro e wr2 ⟨g2, gc2, A2, C2, rfl, hrw2, hw2⟩
        have BR : Hid (Below wh.heap.size wh wr2) := below_then BQ.out hw2
        have HXC : Hid (∀ u, Below wr2.heap.size wr2 u -> At wh u wo.heap.size #[xa, xd, xs] 27) := fun u hu => HXB.out u (below_then hw2 hu)
        have HXL : Hid (wo.heap.size < wr2.heap.size) := (Array.getElem?_eq_some_iff.1 (HXC.out wr2 (Below.refl _ _)).2).1
        have n2 : w.heap.size ≠ wo.heap.size := by have h1 := BO.out.size; have h2 := HWL.out; omega
        have cfar : ∀ (v' : World) (i j : Nat) (u : Value), (v'.setCell ⟨wo.heap.size, i, none⟩ u).cell? ⟨w.heap.size, j, none⟩ = v'.cell? ⟨w.heap.size, j, none⟩ := fun v' i j u => cell_far n2
        clear n2
        clear hw2 HXB
        clear s0 s1 s2 s3 t0 t1 t2 o0 o1 o2
        obtain ⟨⟨s0, s1, s2, s3⟩, ⟨t0, t1, t2⟩, o0, o1, o2⟩ := HQ2.out wr2 BR.out
        by_cases hgo : (((Cn.dl (fun i => !P i) rn).length : Nat) : Int) <= r
        · have k2 : decide (r < (((Cn.dl (fun i => !P i) rn).length : Nat) : Int)) = false := decide_eq_false (by omega)
          cases hyc : yc
          · subst hyc
            obtain ⟨eE, ey, eA, eD, en, eR, eV, HY⟩ := HNY.out n hlt
            have HM := HY wr2 g2 gc2 A2 C2 hrw2
            unfold AnsRd at HM
            clear hrw2 HY
            go_wp2_with fail
            refine HM.mono ?_
            rintro e ws ⟨yo, yc2, rfl, _, hws⟩
            have BS : Hid (Below wh.heap.size wh ws) := below_then BR.out hws
            have hxa := HXC.out ws hws
            have x0 := hxa.cell (i := 0) rfl
            have x1 := hxa.cell (i := 1) rfl
            have x2 := hxa.cell (i := 2) rfl
            have xf := hxa.free
            have hxg := hxa.1
            have BZ : Hid (Below wh.heap.size wh (((ws.setCell ⟨wo.heap.size, 0, none⟩ (.int .i64 (De.lenI eE eA))).setCell ⟨wo.heap.size, 1, none⟩ (.int .i64 (De.lenI eE eD))).setCell ⟨wo.heap.size, 2, none⟩ (.slice yo (lenE eE en) yc2))) := below_two BS.out hxg _ _ _
            clear hws hxa HM HXC hxg
            clear s0 s1 s2 s3 t0 t1 t2 o0 o1 o2
            obtain ⟨⟨s0, s1, s2, s3⟩, ⟨t0, t1, t2⟩, o0, o1, o2⟩ := HQ2.out ws BS.out
            go_wp2_with fail
            go_roundw
            case rel => exact ⟨n + 1, by omega, by go_num, BZ.out⟩
            case measure => simp [intOf]; omega
          · have HM := hNX2 hyc hgo n hlt wr2 g2 gc2 A2 C2 hrw2
            subst hyc
            clear hrw2
            obtain ⟨lf, hlf⟩ : ∃ lf, lf = (Cn.dl P n).length := ⟨_, rfl⟩
            have hlf2 := Cn.dl_few P n
            rw [<- hlf] at HM hlf2
            have HLF : Hid (lf = (Cn.dl P n).length) := hlf
            clear hlf
            by_cases hk3 : K <= lf
            · exact absurd hk3 (by omega)
            · rw [if_neg hk3, if_neg hk3, if_neg hk3, if_neg hk3, if_neg hk3, if_neg hk3] at HM
              unfold AnsRd at HM
              rw [De.lenI_zero, De.lenI_zero, De.lenI_zero, lenE_zero] at HM
              have k3 : decide ((K : Int) <= (lf : Int)) = false := decide_eq_false (by omega)
              go_wp2_with fail
              refine HM.mono ?_
              rintro e ws ⟨yo, yc2, rfl, hyo, hws⟩
              have BS : Hid (Below wh.heap.size wh ws) := below_then BR.out hws
              have hxa := HXC.out ws hws
              have x0 := hxa.cell (i := 0) rfl
              have x1 := hxa.cell (i := 1) rfl
              have x2 := hxa.cell (i := 2) rfl
              have xf := hxa.free
              have hxg := hxa.1
              obtain ⟨wz, hwz⟩ : ∃ wz, wz = (((ws.setCell ⟨wo.heap.size, 0, none⟩ (.int .i64 Ao)).setCell ⟨wo.heap.size, 1, none⟩ (.int .i64 Do)).setCell ⟨wo.heap.size, 2, none⟩ (.slice yo no yc2)) := ⟨_, rfl⟩
              have HXN : Hid (At wh wz wo.heap.size #[.int .i64 Ao, .int .i64 Do, .slice yo no yc2] 27) := by show At _ _ _ _ _; rw [hwz]; exact at_three hxa _ _ _
              have HOY2 : Hid (De.RdR wz yo no Ro Vo) := by
                show De.RdR _ _ _ _ _
                rw [hwz]
                refine (hyo.stay fun t ht _ => ?_).rec.rd
                have hne : t ≠ wo.heap.size := by have h2 := HXL.out; omega
                rw [heap_setCell_other _ _ _ _ hne, heap_setCell_other _ _ _ _ hne, heap_setCell_other _ _ _ _ hne]
              have BZ : Hid (Below wh.heap.size wh wz) := by show Below _ _ _; rw [hwz]; exact below_two BS.out hxg _ _ _
              clear hws hyo hxa HM HXC hxg
              clear s0 s1 s2 s3 t0 t1 t2 o0 o1 o2
              obtain ⟨⟨s0, s1, s2, s3⟩, ⟨t0, t1, t2⟩, o0, o1, o2⟩ := HQ2.out ws BS.out
              go_wp2_with fail
              rw [<- hwz]
              clear hwz x0 x1 x2 xf
              clear s0 s1 s2 s3 t0 t1 t2 o0 o1 o2
              go_loopw [30, 31] (fun z y wr => ∃ i : Nat, i <= n /\ y = .int .i64 (i : Int) /\ z = .int .i64 (((Cn.dl P i).length : Nat) : Int) /\ wr = wz) (fun _ y _ => n - (intOf y).toNat)
              case atStart => exact ⟨0, Nat.zero_le _, rfl, rfl, rfl⟩
              case round =>
                obtain ⟨i, hi, rfl, rfl, hwz⟩ := hrel
                obtain rfl := hwz.symm
                obtain ⟨ct, hct⟩ : ∃ ct, ct = (Cn.dl P i).length := ⟨_, rfl⟩
                have hctb := Cn.dl_few P i
                rw [<- hct] at hctb ⊢
                have HCT : Hid (ct = (Cn.dl P i).length) := hct
                clear hct
                have j0 : (0 : Int) <= (i : Int) := by omega
                by_cases hin : i < n
                · have j1 : (i : Int) < (n : Int) := by omega
                  by_cases hit : i < tn
                  · have j2 : (i : Int) < (tn : Int) := by omega
                    have j3 : decide ((tn : Int) <= (i : Int)) = false := decide_eq_false (by omega)
                    obtain ⟨tb, tf, rfl, hc⟩ := HTT.out (by omega)
                    have cw : wz.cell? ⟨tb, tf + i, none⟩ = some (.bool (TV i)) := held (hc i hit) (below_then BHW.out BZ.out)
                    clear hc
                    cases hTV : TV i
                    · rw [hTV] at cw
                      have HS : Hid (ct + 1 = (Cn.dl P (i + 1)).length) := by
                        show _ = _
                        rw [Cn.dl, if_pos (by rw [HPP.out, hTV]; simp), HCT.out]; simp
                      go_wp2_with fail
                      go_roundw
                      case rel => exact ⟨i + 1, by omega, by go_num, by rw [<- HS.out]; go_num, by first | rfl | trivial⟩
                      case measure => simp [intOf]; omega
                    · rw [hTV] at cw
                      have HS : Hid (ct = (Cn.dl P (i + 1)).length) := by
                        show _ = _
                        rw [Cn.dl, if_neg (by rw [HPP.out, hTV, decide_eq_true hit]; decide)]; exact HCT.out
                      go_wp2_with fail
                      go_roundw
                      case rel => exact ⟨i + 1, by omega, by go_num, by rw [<- HS.out], by first | rfl | trivial⟩
                      case measure => simp [intOf]; omega
                  · have j3 : decide ((tn : Int) <= (i : Int)) = true := decide_eq_true (by omega)
                    have HS : Hid (ct + 1 = (Cn.dl P (i + 1)).length) := by
                      show _ = _
                      rw [Cn.dl, if_pos (by rw [HPP.out, decide_eq_false hit]; rfl), HCT.out]; simp
                    go_wp2_with fail
                    go_roundw
                    case rel => exact ⟨i + 1, by omega, by go_num, by rw [<- HS.out]; go_num, by first | rfl | trivial⟩
                    case measure => simp [intOf]; omega
                · obtain rfl : i = n := by omega
                  obtain rfl : ct = lf := by rw [HCT.out, HLF.out]
                  have hxa := HXN.out
                  have x0 := hxa.cell (i := 0) rfl
                  have x1 := hxa.cell (i := 1) rfl
                  have x2 := hxa.cell (i := 2) rfl
                  have hsm := same_any wz Ao Do yo no yc2 oo oc Ro Vo HOY2.out (HOR.out.below BZ.out) hno
                  clear hxa
                  obtain ⟨⟨s0, s1, s2, s3⟩, ⟨t0, t1, t2⟩, o0, o1, o2⟩ := HQ2.out wz BZ.out
                  go_wp2_with fail
                  refine hsm.mono ?_
                  rintro e wy ⟨rfl, hy⟩
                  have BY : Hid (Below wh.heap.size wh wy) := below_then BZ.out hy
                  clear hy hsm x0 x1 x2
                  clear s0 s1 s2 s3 t0 t1 t2 o0 o1 o2
                  go_wp2_with fail
                  go_roundw
                  case rel => exact ⟨i + 1, by omega, by go_num, BY.out⟩
                  case measure => simp [intOf]; omega
        · have k2 : decide (r < (((Cn.dl (fun i => !P i) rn).length : Nat) : Int)) = true := decide_eq_true (by omega)
          obtain ⟨eE, ey, eA, eD, en, eR, eV, HY⟩ := HNY.out n hlt
          have HM := HY wr2 g2 gc2 A2 C2 hrw2
          unfold AnsRd at HM
          clear hrw2 HY
          go_wp2_with fail
          refine HM.mono ?_
          rintro e ws ⟨yo, yc2, rfl, _, hws⟩
          have BS : Hid (Below wh.heap.size wh ws) := below_then BR.out hws
          have hxa := HXC.out ws hws
          have x0 := hxa.cell (i := 0) rfl
          have x1 := hxa.cell (i := 1) rfl
          have x2 := hxa.cell (i := 2) rfl
          have xf := hxa.free
          have hxg := hxa.1
          have BZ : Hid (Below wh.heap.size wh (((ws.setCell ⟨wo.heap.size, 0, none⟩ (.int .i64 (De.lenI eE eA))).setCell ⟨wo.heap.size, 1, none⟩ (.int .i64 (De.lenI eE eD))).setCell ⟨wo.heap.size, 2, none⟩ (.slice yo (lenE eE en) yc2))) := below_two BS.out hxg _ _ _
          clear hws hxa HM HXC hxg
          clear s0 s1 s2 s3 t0 t1 t2 o0 o1 o2
          obtain ⟨⟨s0, s1, s2, s3⟩, ⟨t0, t1, t2⟩, o0, o1, o2⟩ := HQ2.out ws BS.out
          go_wp2_with fail
          go_roundw
          case rel => exact ⟨n + 1, by omega, by go_num, BZ.out⟩
          case measure => simp [intOf]; omega
    · obtain rfl : n = rn + 1 := by omega
      have l1 : ¬ ((rn + 1 : Nat) : Int) <= (rn : Int) := by omega
      go_wp2_with fail
      go_ret
      exact ⟨rfl, below_then BHW.out hbw.out⟩
end Go.Proofs.YtdmpiipllmjloaaGreat
