/- FnA: what is needed of them. -/
import Derived.Test.YtdmpiipllmjloaaGreatFj38
import Derived.Test.YtdmpiipllmjloaaGreatFj41
import Derived.Test.YtdmpiipllmjloaaGreatFj45
import Derived.Test.YtdmpiipllmjloaaGreatFj52
namespace Go.Proofs.YtdmpiipllmjloaaGreat
open Go.RowKit
set_option maxHeartbeats 4000000 in
set_option maxRecDepth 100000 in
theorem finish_bad {k r c q : Int} (w : World) (ro : Option Addr) (rn rc : Nat) (tob : Option Addr) (tn tc : Nat) (E f y A D : Int) (n : Nat) (R V : Nat → Int) (hE : ¬ E = 0)
    (HPU : Hid (∀ u, Below w.heap.size w u → Calls Tryz.prog 15 #[.agg #[.int .i64 k, .int .i64 r, .int .i64 c, .int .i64 q], .slice ro rn rc, .int .i64 0] u fun e w' => ∃ lo lc, e = .returned (.tuple #[.slice lo 0 lc, .int .i64 E]) ∧ Below u.heap.size u w'))
    (HRO : Hid (∀ u, Below w.heap.size w u → Calls Tryz.prog 7 #[.agg #[.int .i64 k, .int .i64 r, .int .i64 c, .int .i64 q], .slice ro rn rc] u (AnsRd u f y A D n R V))) :
    Calls Tryz.prog 4 #[.agg #[.int .i64 k, .int .i64 r, .int .i64 c, .int .i64 q], .slice ro rn rc, .slice tob tn tc] w fun e w' => e = .returned (.bool true) ∧ Below w.heap.size w w' := by
  obtain ⟨w0, hw0⟩ : ∃ w0, w0 = w.alloc (.cells #[.int .i64 k, .int .i64 r, .int .i64 c, .int .i64 q] 23) := ⟨_, rfl⟩
  have b0 : Below w.heap.size w w0 := by rw [hw0]; exact below_alloc _ _
  have HQ : Hid (∀ u, Below w0.heap.size w0 u → (u.cell? ⟨w.heap.size, 0, none⟩ = some (.int .i64 k) ∧ u.cell? ⟨w.heap.size, 1, none⟩ = some (.int .i64 r) ∧ u.cell? ⟨w.heap.size, 2, none⟩ = some (.int .i64 c) ∧ u.cell? ⟨w.heap.size, 3, none⟩ = some (.int .i64 q))) := fun u hu => par_held hw0 hu
  have B1 : Hid (Below w.heap.size w w0) := b0
  have e1 : (E != 0) = true := by simp [hE]
  have e2 : (E == 0) = false := by simp [hE]
  go_enter Tryz.func4, Tryz.ntmps4
  go_wp2_with fail
  rw [← hw0]
  clear hw0 b0
  refine (awake_any _).mono ?_
  rintro e wa ⟨rfl, ha⟩
  have BA : Hid (Below w0.heap.size w0 wa) := ha
  clear ha
  obtain ⟨s0, s1, s2, s3⟩ := HQ.out wa BA.out
  go_wp2_with fail
  refine (HPU.out wa (below_then B1.out BA.out)).mono ?_
  rintro e wf ⟨lo, lc, rfl, hf⟩
  have BF : Hid (Below w0.heap.size w0 wf) := below_then BA.out hf
  clear hf
  clear s0 s1 s2 s3
  obtain ⟨s0, s1, s2, s3⟩ := HQ.out wf BF.out
  go_wp2_with fail
  refine (HRO.out wf (below_then B1.out BF.out)).mono ?_
  rintro e wg ⟨oo, oc, rfl, _, hg⟩
  have BG : Hid (Below w.heap.size w wg) := below_then (below_then B1.out BF.out) hg
  clear hg
  clear s0 s1 s2 s3
  go_wp2_with fail
  go_ret
  exact ⟨rfl, BG.out.alloc BG.out.size _⟩
set_option maxHeartbeats 4000000 in
set_option maxRecDepth 100000 in
theorem finish_rbad {K cm Z : Nat} {r c q : Int} (w : World) (ro : Option Addr) (rn rc : Nat) (tob : Option Addr) (tn tc : Nat) (Lc os : Nat → Nat) (G : Nat → Nat → UInt8) (f y A D : Int) (n : Nat) (R V : Nat → Int) (hf : ¬ f = 0)
    (HPU : Hid (∀ u, Below w.heap.size w u → Calls Tryz.prog 15 #[.agg #[.int .i64 (K : Int), .int .i64 r, .int .i64 c, .int .i64 q], .slice ro rn rc, .int .i64 0] u fun e w' => ∃ lo lc T U, e = .returned (.tuple #[.slice lo cm lc, .int .i64 0]) ∧ PL u.heap.size w' lo cm lc rn Lc os 0 Z T U G ∧ Below u.heap.size u w'))
    (HRO : Hid (∀ u, Below w.heap.size w u → Calls Tryz.prog 7 #[.agg #[.int .i64 (K : Int), .int .i64 r, .int .i64 c, .int .i64 q], .slice ro rn rc] u (AnsRd u f y A D n R V))) :
    Calls Tryz.prog 4 #[.agg #[.int .i64 (K : Int), .int .i64 r, .int .i64 c, .int .i64 q], .slice ro rn rc, .slice tob tn tc] w fun e w' => e = .returned (.bool true) ∧ Below w.heap.size w w' := by
  obtain ⟨w0, hw0⟩ : ∃ w0, w0 = w.alloc (.cells #[.int .i64 (K : Int), .int .i64 r, .int .i64 c, .int .i64 q] 23) := ⟨_, rfl⟩
  have b0 : Below w.heap.size w w0 := by rw [hw0]; exact below_alloc _ _
  have HQ : Hid (∀ u, Below w0.heap.size w0 u → (u.cell? ⟨w.heap.size, 0, none⟩ = some (.int .i64 (K : Int)) ∧ u.cell? ⟨w.heap.size, 1, none⟩ = some (.int .i64 r) ∧ u.cell? ⟨w.heap.size, 2, none⟩ = some (.int .i64 c) ∧ u.cell? ⟨w.heap.size, 3, none⟩ = some (.int .i64 q))) := fun u hu => par_held hw0 hu
  have B1 : Hid (Below w.heap.size w w0) := b0
  have e1 : (f != 0) = true := by simp [hf]
  go_enter Tryz.func4, Tryz.ntmps4
  go_wp2_with fail
  rw [← hw0]
  clear hw0 b0
  refine (awake_any _).mono ?_
  rintro e wa ⟨rfl, ha⟩
  have BA : Hid (Below w0.heap.size w0 wa) := ha
  clear ha
  obtain ⟨s0, s1, s2, s3⟩ := HQ.out wa BA.out
  go_wp2_with fail
  refine (HPU.out wa (below_then B1.out BA.out)).mono ?_
  rintro e wf ⟨lo, lc, T, U, rfl, hpl, hf⟩
  have BF : Hid (Below w0.heap.size w0 wf) := below_then BA.out hf
  have HPL : Hid (PL wa.heap.size wf lo cm lc rn Lc os 0 Z T U G) := hpl
  clear hpl hf
  clear s0 s1 s2 s3
  obtain ⟨s0, s1, s2, s3⟩ := HQ.out wf BF.out
  go_wp2_with fail
  refine (HRO.out wf (below_then B1.out BF.out)).mono ?_
  rintro e wg ⟨oo, oc, rfl, _, hg⟩
  have BG : Hid (Below w.heap.size w wg) := below_then (below_then B1.out BF.out) hg
  clear hg
  clear s0 s1 s2 s3
  go_wp2_with fail
  go_ret
  exact ⟨rfl, BG.out.alloc BG.out.size _⟩
set_option maxHeartbeats 16000000 in
set_option maxRecDepth 100000 in
theorem finish_good {K cm Z : Nat} {r c q : Int} (w : World) (ro : Option Addr) (rn rc : Nat) (tob : Option Addr) (tn tc : Nat) (TV : Nat → Bool) (hT : RdT w tob tn TV) (P : Nat → Bool) (hP : ∀ i, P i = !(decide (i < tn) && TV i)) (hrn : 0 < rn) (hrn2 : rn ≤ 16) (Lc os : Nat → Nat) (G : Nat → Nat → UInt8) (hcm : cm = Cod.cnt Lc rn) (hos : ∀ i, os i < 2) (A : Nat → Option Addr) (L C : Nat → Nat) (F : Nat → Nat → UInt8) (hr : Rw w ro rn A L C F)
    (v0 Ao Do : Int) (no : Nat) (Ro Vo : Nat → Int) (hno : no ≤ 1000) (Fi Pu' Co : Prop)
    (HPU : Hid (∀ u, Below w.heap.size w u → Calls Tryz.prog 15 #[.agg #[.int .i64 (K : Int), .int .i64 r, .int .i64 c, .int .i64 q], .slice ro rn rc, .int .i64 0] u fun e w' => ∃ lo lc T U, e = .returned (.tuple #[.slice lo cm lc, .int .i64 0]) ∧ PL u.heap.size w' lo cm lc rn Lc os 0 Z T U G ∧ Below u.heap.size u w'))
    (HRO : Hid (∀ u, Below w.heap.size w u → Calls Tryz.prog 7 #[.agg #[.int .i64 (K : Int), .int .i64 r, .int .i64 c, .int .i64 q], .slice ro rn rc] u (AnsRd u 0 v0 Ao Do no Ro Vo)))
    (HFI : Hid (∀ u, Below w.heap.size w u → Calls Tryz.prog 8 #[.agg #[.int .i64 (K : Int), .int .i64 r, .int .i64 c, .int .i64 q], .slice ro rn rc, .int .i64 1073741825] u fun e w' => ∃ y : Bool, e = .returned (.bool y) ∧ (y = true → Fi) ∧ Below u.heap.size u w'))
    (HPR : Hid (∀ u, Below w.heap.size w u → Calls Tryz.prog 9 #[.agg #[.int .i64 (K : Int), .int .i64 r, .int .i64 c, .int .i64 q], .slice ro rn rc] u fun e w' => ∃ y : Bool, e = .returned (.bool y) ∧ (y = true → Pu') ∧ Below u.heap.size u w'))
    (HNW : Hid (Fi → Pu' → ∀ n, n ≤ cm → ∀ u g cp A' C', Rw u (some ⟨g, 0, none⟩) rn A' (wp (fun _ => true) 0 (bP Lc os rn L (fun _ => Z) n) rn) C' (bP Lc os rn F G n) → Calls Tryz.prog 7 #[.agg #[.int .i64 (K : Int), .int .i64 r, .int .i64 c, .int .i64 q], .slice (some ⟨g, 0, none⟩) rn cp] u (AnsRd u 0 v0 Ao Do no Ro Vo)))
    (HNG : Hid (Fi → Pu' → ∀ u g cp A' C', Rw u (some ⟨g, 0, none⟩) rn A' (wp (fun _ => true) 0 (bP Lc os rn L (fun _ => Z) cm) rn) C' (bP Lc os rn F G cm) → Calls Tryz.prog 10 #[.agg #[.int .i64 (K : Int), .int .i64 r, .int .i64 c, .int .i64 q], .slice (some ⟨g, 0, none⟩) rn cp, .int .i64 v0] u fun e w' => ∃ mo mc, e = .returned (.tuple #[.slice mo 0 mc, .int .i64 0]) ∧ Below u.heap.size u w'))
    (HCO : Hid (∀ u g cp A' C', Rw u (some ⟨g, 0, none⟩) rn A' (wp (fun _ => true) 0 (bP Lc os rn L (fun _ => Z) cm) rn) C' (bP Lc os rn F G cm) → Calls Tryz.prog 12 #[.agg #[.int .i64 (K : Int), .int .i64 r, .int .i64 c, .int .i64 q], .slice (some ⟨g, 0, none⟩) rn cp, .int .i64 v0] u fun e w' => ∃ y : Bool, e = .returned (.bool y) ∧ (y = true → Co) ∧ Below u.heap.size u w'))
    (HNX : Hid (Fi → Pu' → Co → (((Cn.dl (fun i => !P i) rn).length : Nat) : Int) ≤ r → ∀ u g cp A' C', Rw u (some ⟨g, 0, none⟩) rn A' (wp P 0 (bP Lc os rn L (fun _ => Z) cm) rn) C' (bP Lc os rn F G cm) → Calls Tryz.prog 7 #[.agg #[.int .i64 (K : Int), .int .i64 r, .int .i64 c, .int .i64 q], .slice (some ⟨g, 0, none⟩) rn cp] u (AnsRd u 0 v0 Ao Do no Ro Vo)))
    (HNY : Hid (∃ E y A D nn R V, ∀ u g cp A' C', Rw u (some ⟨g, 0, none⟩) rn A' (wp P 0 (bP Lc os rn L (fun _ => Z) cm) rn) C' (bP Lc os rn F G cm) → Calls Tryz.prog 7 #[.agg #[.int .i64 (K : Int), .int .i64 r, .int .i64 c, .int .i64 q], .slice (some ⟨g, 0, none⟩) rn cp] u (AnsRd u E y A D nn R V))) :
    Calls Tryz.prog 4 #[.agg #[.int .i64 (K : Int), .int .i64 r, .int .i64 c, .int .i64 q], .slice ro rn rc, .slice tob tn tc] w fun e w' => e = .returned (.bool true) ∧ Below w.heap.size w w' := by
  obtain ⟨w0, hw0⟩ : ∃ w0, w0 = w.alloc (.cells #[.int .i64 (K : Int), .int .i64 r, .int .i64 c, .int .i64 q] 23) := ⟨_, rfl⟩
  have b0 : Below w.heap.size w w0 := by rw [hw0]; exact below_alloc _ _
  have HQ : Hid (∀ u, Below w0.heap.size w0 u → (u.cell? ⟨w.heap.size, 0, none⟩ = some (.int .i64 (K : Int)) ∧ u.cell? ⟨w.heap.size, 1, none⟩ = some (.int .i64 r) ∧ u.cell? ⟨w.heap.size, 2, none⟩ = some (.int .i64 c) ∧ u.cell? ⟨w.heap.size, 3, none⟩ = some (.int .i64 q))) := fun u hu => par_held hw0 hu
  have B1 : Hid (Below w.heap.size w w0) := b0
  have HTT : Hid (RdT w tob tn TV) := hT
  have HPP : Hid (∀ i, P i = !(decide (i < tn) && TV i)) := hP
  have q1 : (v0 == v0) = true := by simp
  have q3 : (v0 != v0) = false := by simp
  have HBE : Hid (∀ u tob tn tc TV P lo lc T U B, Below w.heap.size w u → PL B u lo cm lc rn Lc os 0 Z T U G → RdT u tob tn TV → (∀ i, P i = !(decide (i < tn) && TV i)) → ∀ n, n ≤ cm → Calls Tryz.prog 13 #[.slice ro rn rc, .slice lo cm lc, .int .i64 (n : Int), .slice tob tn tc] u fun e w' => ∃ g c' A' C', e = .returned (.tuple #[.slice (some ⟨g, 0, none⟩) rn c', .int .i64 (((Cn.dl (fun i => !P i) rn).length : Nat) : Int)]) ∧ Rw w' (some ⟨g, 0, none⟩) rn A' (wp P 0 (bP Lc os rn L (fun _ => Z) n) rn) C' (bP Lc os rn F G n) ∧ Below u.heap.size u w') := fun u tob tn tc TV P lo lc T U B hu hp ht hP n hn => by
    rw [hcm] at hp hn ⊢
    refine (behind_any u ro rn rc A L C F (hr.below hu) hrn hrn2 B lo lc Lc os 0 Z T U G hp hos n hn tob tn tc TV ht P hP).mono ?_
    rintro e w' ⟨g, c', rfl, hrn', hb'⟩
    exact ⟨g, c', _, _, rfl, hrn'.rw, hb'⟩
  have hcb : cm ≤ 16 := by rw [hcm]; exact Nat.le_trans (Cod.cnt_le Lc rn) hrn2
  clear hr hT hP hcm
  go_enter Tryz.func4, Tryz.ntmps4
  go_wp2_with fail
  rw [← hw0]
  clear hw0 b0
  refine (awake_any _).mono ?_
  rintro e wa ⟨rfl, ha⟩
  have BA : Hid (Below w0.heap.size w0 wa) := ha
  clear ha
  obtain ⟨s0, s1, s2, s3⟩ := HQ.out wa BA.out
  go_wp2_with fail
  refine (HPU.out wa (below_then B1.out BA.out)).mono ?_
  rintro e wf ⟨lo, lc, T, U, rfl, hpl, hf⟩
  have BF : Hid (Below w0.heap.size w0 wf) := below_then BA.out hf
  have HPL : Hid (PL wa.heap.size wf lo cm lc rn Lc os 0 Z T U G) := hpl
  clear hpl hf
  clear s0 s1 s2 s3
  obtain ⟨s0, s1, s2, s3⟩ := HQ.out wf BF.out
  go_wp2_with fail
  refine (HRO.out wf (below_then B1.out BF.out)).mono ?_
  rintro e wg ⟨oo, oc, rfl, how, hg⟩
  rw [De.lenI_zero, De.lenI_zero, De.lenI_zero, lenE_zero]
  rw [lenE_zero] at how
  have BG : Hid (Below w0.heap.size w0 wg) := below_then BF.out hg
  obtain ⟨wh, hwh⟩ : ∃ wh, wh = wg.alloc (.cells #[.int .i64 Ao, .int .i64 Do, .slice oo no oc] 27) := ⟨_, rfl⟩
  have bh : Below wg.heap.size wg wh := by rw [hwh]; exact below_alloc _ _
  have BH : Hid (Below w0.heap.size w0 wh) := below_then BG.out bh
  have HQ2 : Hid (∀ u, Below wh.heap.size wh u → (u.cell? ⟨w.heap.size, 0, none⟩ = some (.int .i64 (K : Int)) ∧ u.cell? ⟨w.heap.size, 1, none⟩ = some (.int .i64 r) ∧ u.cell? ⟨w.heap.size, 2, none⟩ = some (.int .i64 c) ∧ u.cell? ⟨w.heap.size, 3, none⟩ = some (.int .i64 q)) ∧ (u.cell? ⟨wg.heap.size, 0, none⟩ = some (.int .i64 Ao) ∧ u.cell? ⟨wg.heap.size, 1, none⟩ = some (.int .i64 Do) ∧ u.cell? ⟨wg.heap.size, 2, none⟩ = some (.slice oo no oc))) := fun u hu => ⟨HQ.out u (below_then BH.out hu), blk_held hwh hu 0 rfl, blk_held hwh hu 1 rfl, blk_held hwh hu 2 rfl⟩
  have HOR : Hid (De.RdR wh oo no Ro Vo) := (how.below bh).rec.rd
  have HPL2 : Hid (PL wa.heap.size wh lo cm lc rn Lc os 0 Z T U G) := HPL.out.below (below_then hg bh)
  have BHW : Hid (Below w.heap.size w wh) := below_then B1.out BH.out
  clear hg bh how HPL
  clear s0 s1 s2 s3
  obtain ⟨s0, s1, s2, s3⟩ := HQ.out (wg.alloc (.cells #[.int .i64 Ao, .int .i64 Do, .slice oo no oc] 27)) (by rw [← hwh]; exact BH.out)
  go_wp2_with fail
  rw [← hwh]
  clear hwh
  clear s0 s1 s2 s3
  refine (HPR.out wh BHW.out).mono ?_
  rintro e wi ⟨y1, rfl, hy1, hi⟩
  have BI : Hid (Below wh.heap.size wh wi) := hi
  clear hi
  obtain ⟨⟨s0, s1, s2, s3⟩, o0, o1, o2⟩ := HQ2.out wi BI.out
  cases y1
  · go_wp2_with fail
    go_ret
    exact ⟨rfl, below_then BHW.out BI.out⟩
  have hPu := hy1 rfl
  clear hy1
  go_wp2_with fail
  refine (HFI.out wi (below_then BHW.out BI.out)).mono ?_
  rintro e wj ⟨y2, rfl, hy2, hj⟩
  have BJ : Hid (Below wh.heap.size wh wj) := below_then BI.out hj
  clear hj
  clear s0 s1 s2 s3 o0 o1 o2
  obtain ⟨⟨s0, s1, s2, s3⟩, o0, o1, o2⟩ := HQ2.out wj BJ.out
  cases y2
  · go_wp2_with fail
    go_ret
    exact ⟨rfl, below_then BHW.out BJ.out⟩
  have hFi := hy2 rfl
  clear hy2
  have hNW := HNW.out hFi hPu
  have hNG := HNG.out hFi hPu
  have hNX := HNX.out hFi hPu
  clear hFi hPu HNW HNX HNG HFI HPR
  clear s0 s1 s2 s3 o0 o1 o2
  go_wp2_with fail
  go_loopw [13] (fun y wr => ∃ n : Nat, n ≤ cm + 1 ∧ y = .int .i64 (n : Int) ∧ Hid (Below wh.heap.size wh wr)) (fun y _ => cm + 1 - (intOf y).toNat)
  case atStart => exact ⟨0, Nat.zero_le _, rfl, BJ.out⟩
  case round =>
    obtain ⟨n, hn, rfl, hbw⟩ := hrel
    by_cases hlt : n ≤ cm
    · have l1 : (n : Int) ≤ (cm : Int) := by omega
      obtain ⟨⟨s0, s1, s2, s3⟩, o0, o1, o2⟩ := HQ2.out wr hbw.out
      go_wp2_with fail
      refine (HBE.out wr none 0 0 (fun _ => false) (fun _ => true) lo lc T U _ (below_then BHW.out hbw.out) (HPL2.out.below hbw.out) (fun h => absurd h (Nat.lt_irrefl 0)) (fun i => by rw [decide_eq_false (Nat.not_lt_zero i)]; rfl) n hlt).mono ?_
      rintro e wn ⟨g, gc, A', C', rfl, hrw, hwn⟩
      have BN : Hid (Below wh.heap.size wh wn) := below_then hbw.out hwn
      clear hwn
      clear s0 s1 s2 s3 o0 o1 o2
      obtain ⟨⟨s0, s1, s2, s3⟩, o0, o1, o2⟩ := HQ2.out wn BN.out
      have HN := hNW n hlt wn g gc A' C' hrw
      clear hrw
      unfold AnsRd at HN
      rw [De.lenI_zero, De.lenI_zero, De.lenI_zero, lenE_zero] at HN
      go_wp2_with fail
      refine HN.mono ?_
      rintro e wo ⟨xo, xc, rfl, hxo, hwo⟩
      have BO : Hid (Below wh.heap.size wh wo) := below_then BN.out hwo
      obtain ⟨wp1, hwp⟩ : ∃ wp1, wp1 = wo.alloc (.cells #[.int .i64 Ao, .int .i64 Do, .slice xo no xc] 27) := ⟨_, rfl⟩
      have bp : Below wo.heap.size wo wp1 := by rw [hwp]; exact below_alloc _ _
      have BP : Hid (Below wh.heap.size wh wp1) := below_then BO.out bp
      have hsm := same_any wp1 Ao Do xo no xc oo oc Ro Vo (hxo.below bp).rec.rd (HOR.out.below BP.out) hno
      clear hwo bp hxo HN
      clear s0 s1 s2 s3 o0 o1 o2
      obtain ⟨⟨s0, s1, s2, s3⟩, o0, o1, o2⟩ := HQ2.out (wo.alloc (.cells #[.int .i64 Ao, .int .i64 Do, .slice xo no xc] 27)) (by rw [← hwp]; exact BP.out)
      go_wp2_with fail
      rw [← hwp]
      clear hwp
      refine hsm.mono ?_
      rintro e wq ⟨rfl, hq⟩
      have BQ : Hid (Below wh.heap.size wh wq) := below_then BP.out hq
      clear hq hsm
      clear s0 s1 s2 s3 o0 o1 o2
      go_wp2_with fail
      go_roundw
      case rel => exact ⟨n + 1, by omega, by go_num, BQ.out⟩
      case measure => simp [intOf]; omega
    · obtain rfl : n = cm + 1 := by omega
      have l1 : ¬ ((cm + 1 : Nat) : Int) ≤ (cm : Int) := by omega
      obtain ⟨⟨s0, s1, s2, s3⟩, o0, o1, o2⟩ := HQ2.out wr hbw.out
      go_wp2_with fail
      refine (HBE.out wr none 0 0 (fun _ => false) (fun _ => true) lo lc T U _ (below_then BHW.out hbw.out) (HPL2.out.below hbw.out) (fun h => absurd h (Nat.lt_irrefl 0)) (fun i => by rw [decide_eq_false (Nat.not_lt_zero i)]; rfl) cm (Nat.le_refl _)).mono ?_
      rintro e wn ⟨g, gc, A', C', rfl, hrw, hwn⟩
      have BN : Hid (Below wh.heap.size wh wn) := below_then hbw.out hwn
      have HRW : Hid (Rw wn (some ⟨g, 0, none⟩) rn A' (wp (fun _ => true) 0 (bP Lc os rn L (fun _ => Z) cm) rn) C' (bP Lc os rn F G cm)) := hrw
      clear hwn hrw
      clear s0 s1 s2 s3 o0 o1 o2
      obtain ⟨⟨s0, s1, s2, s3⟩, o0, o1, o2⟩ := HQ2.out wn BN.out
      go_wp2_with fail
      refine (hNG wn g gc A' C' HRW.out).mono ?_
      rintro e wo ⟨mo, mc, rfl, hwo⟩
      have BO : Hid (Below wh.heap.size wh wo) := below_then BN.out hwo
      have BNO : Hid (Below wn.heap.size wn wo) := hwo
      clear hwo hNG
      clear s0 s1 s2 s3 o0 o1 o2
      obtain ⟨⟨s0, s1, s2, s3⟩, o0, o1, o2⟩ := HQ2.out wo BO.out
      go_wp2_with fail
      refine (HBE.out wo tob tn tc TV P lo lc T U _ (below_then BHW.out BO.out) (HPL2.out.below BO.out) (HTT.out.below (below_then BHW.out BO.out)) HPP.out cm (Nat.le_refl _)).mono ?_
      rintro e wp1 ⟨g2, gc2, A2, C2, rfl, hrw2, hw2⟩
      have BP : Hid (Below wh.heap.size wh wp1) := below_then BO.out hw2
      have BNP : Hid (Below wn.heap.size wn wp1) := below_then BNO.out hw2
      clear hw2
      clear s0 s1 s2 s3 o0 o1 o2
      obtain ⟨⟨s0, s1, s2, s3⟩, o0, o1, o2⟩ := HQ2.out wp1 BP.out
      by_cases hgo : (((Cn.dl (fun i => !P i) rn).length : Nat) : Int) ≤ r
      · have k2 : decide (r < (((Cn.dl (fun i => !P i) rn).length : Nat) : Int)) = false := decide_eq_false (by omega)
        obtain ⟨eE, ey, eA, eD, en, eR, eV, HY⟩ := HNY.out
        have HM := HY wp1 g2 gc2 A2 C2 hrw2
        have HRW2 : Hid (Rw wp1 (some ⟨g2, 0, none⟩) rn A2 (wp P 0 (bP Lc os rn L (fun _ => Z) cm) rn) C2 (bP Lc os rn F G cm)) := hrw2
        clear hrw2
        by_cases hCo : Co
        · have HM2 := hNX hCo hgo wp1 g2 gc2 A2 C2 HRW2.out
          unfold AnsRd at HM2
          rw [De.lenI_zero, De.lenI_zero, De.lenI_zero, lenE_zero] at HM2
          clear HM HY
          go_wp2_with fail
          refine HM2.mono ?_
          rintro e wq ⟨xo, xc, rfl, hxo, hwq⟩
          have BQ : Hid (Below wh.heap.size wh wq) := below_then BP.out hwq
          have BNQ : Hid (Below wn.heap.size wn wq) := below_then BNP.out hwq
          obtain ⟨ws, hws⟩ : ∃ ws, ws = wq.alloc (.cells #[.int .i64 Ao, .int .i64 Do, .slice xo no xc] 27) := ⟨_, rfl⟩
          have bs : Below wq.heap.size wq ws := by rw [hws]; exact below_alloc _ _
          have BS : Hid (Below wh.heap.size wh ws) := below_then BQ.out bs
          have BNS : Hid (Below wn.heap.size wn ws) := below_then BNQ.out bs
          have HXA : Hid (∀ u, Below ws.heap.size ws u → At wh u wq.heap.size #[.int .i64 Ao, .int .i64 Do, .slice xo no xc] 27) := fun u hu => (at_made BQ.out hws).below hu
          have HXO : Hid (De.RdR ws xo no Ro Vo) := (hxo.below bs).rec.rd
          clear hwq bs hxo HM2
          clear s0 s1 s2 s3 o0 o1 o2
          obtain ⟨⟨s0, s1, s2, s3⟩, o0, o1, o2⟩ := HQ2.out (wq.alloc (.cells #[.int .i64 Ao, .int .i64 Do, .slice xo no xc] 27)) (by rw [← hws]; exact BS.out)
          go_wp2_with fail
          rw [← hws]
          clear hws
          refine (HCO.out ws g gc A' C' (HRW.out.below BNS.out)).mono ?_
          rintro e wt ⟨yc, rfl, hyc, ht⟩
          have BT : Hid (Below wh.heap.size wh wt) := below_then BS.out ht
          have pq := HXA.out wt ht
          have x0 := pq.cell (i := 0) rfl
          have x1 := pq.cell (i := 1) rfl
          have x2 := pq.cell (i := 2) rfl
          have hsm := same_any wt Ao Do xo no xc oo oc Ro Vo (HXO.out.below ht) (HOR.out.below BT.out) hno
          clear ht pq
          clear s0 s1 s2 s3 o0 o1 o2
          obtain ⟨⟨s0, s1, s2, s3⟩, o0, o1, o2⟩ := HQ2.out wt BT.out
          cases yc
          · go_wp2_with fail
            go_ret
            exact ⟨rfl, below_then BHW.out BT.out⟩
          · go_wp2_with fail
            refine hsm.mono ?_
            rintro e wu ⟨rfl, hu⟩
            have BU : Hid (Below wh.heap.size wh wu) := below_then BT.out hu
            clear hu hsm
            go_wp2_with fail
            go_ret
            exact ⟨rfl, below_then BHW.out BU.out⟩
        · unfold AnsRd at HM
          go_wp2_with fail
          refine HM.mono ?_
          rintro e wq ⟨xo, xc, rfl, _, hwq⟩
          have BQ : Hid (Below wh.heap.size wh wq) := below_then BP.out hwq
          have BNQ : Hid (Below wn.heap.size wn wq) := below_then BNP.out hwq
          obtain ⟨ws, hws⟩ : ∃ ws, ws = wq.alloc (.cells #[.int .i64 (De.lenI eE eA), .int .i64 (De.lenI eE eD), .slice xo (lenE eE en) xc] 27) := ⟨_, rfl⟩
          have bs : Below wq.heap.size wq ws := by rw [hws]; exact below_alloc _ _
          have BS : Hid (Below wh.heap.size wh ws) := below_then BQ.out bs
          have BNS : Hid (Below wn.heap.size wn ws) := below_then BNQ.out bs
          clear hwq bs HM HY
          clear s0 s1 s2 s3 o0 o1 o2
          obtain ⟨⟨s0, s1, s2, s3⟩, o0, o1, o2⟩ := HQ2.out (wq.alloc (.cells #[.int .i64 (De.lenI eE eA), .int .i64 (De.lenI eE eD), .slice xo (lenE eE en) xc] 27)) (by rw [← hws]; exact BS.out)
          go_wp2_with fail
          rw [← hws]
          clear hws
          refine (HCO.out ws g gc A' C' (HRW.out.below BNS.out)).mono ?_
          rintro e wt ⟨yc, rfl, hyc, ht⟩
          have BT : Hid (Below wh.heap.size wh wt) := below_then BS.out ht
          clear ht
          clear s0 s1 s2 s3 o0 o1 o2
          cases yc
          · go_wp2_with fail
            go_ret
            exact ⟨rfl, below_then BHW.out BT.out⟩
          · exact absurd (hyc rfl) hCo
      · have k2 : decide (r < (((Cn.dl (fun i => !P i) rn).length : Nat) : Int)) = true := decide_eq_true (by omega)
        obtain ⟨eE, ey, eA, eD, en, eR, eV, HY⟩ := HNY.out
        have HM := HY wp1 g2 gc2 A2 C2 hrw2
        unfold AnsRd at HM
        clear HY hrw2
        go_wp2_with fail
        refine HM.mono ?_
        rintro e wq ⟨xo, xc, rfl, _, hwq⟩
        have BQ : Hid (Below wh.heap.size wh wq) := below_then BP.out hwq
        clear hwq HM
        clear s0 s1 s2 s3 o0 o1 o2
        obtain ⟨⟨s0, s1, s2, s3⟩, o0, o1, o2⟩ := HQ2.out (wq.alloc (.cells #[.int .i64 (De.lenI eE eA), .int .i64 (De.lenI eE eD), .slice xo (lenE eE en) xc] 27)) (below_then BQ.out (below_alloc _ _))
        go_wp2_with fail
        go_ret
        exact ⟨rfl, below_then BHW.out (below_then BQ.out (below_alloc _ _))⟩
end Go.Proofs.YtdmpiipllmjloaaGreat
