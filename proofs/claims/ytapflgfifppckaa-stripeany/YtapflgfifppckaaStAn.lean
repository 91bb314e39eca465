/- The walk of StripeAny. -/
import Derived.Test.YtapflgfifppckaaStAa
import Derived.Test.YtapflgfifppckaaRoO
namespace Go.Proofs.Ytapflgfifppckaa
open Go.RowKit

set_option maxHeartbeats 4000000 in
set_option maxRecDepth 100000 in
theorem any_bad {k r c q : Int} {N : Nat} (w : World) (ro : Option Addr) (rn rc : Nat) (kd : UInt8) (v : Int) (dob : Option Addr) (dn dc : Nat) (tob : Option Addr) (tn tc : Nat) (E : Int) (hE : ¬ E = 0)
    (HFU : Hid (∀ u, Below w.heap.size w u → Calls Try.prog 7 #[.agg #[.int .i64 k, .int .i64 r, .int .i64 c, .int .i64 q], .slice ro rn rc, .int .i64 0, .int .u8 ((kd.toNat : Nat) : Int), .int .i64 0, .int .i64 v, .slice dob dn dc] u fun e w' => ∃ lo lc, e = .returned (.tuple #[.slice lo (lenE E N) lc, .int .i64 E]) ∧ Below u.heap.size u w')) :
    Calls Try.prog 3 #[.agg #[.int .i64 k, .int .i64 r, .int .i64 c, .int .i64 q], .slice ro rn rc, .int .u8 ((kd.toNat : Nat) : Int), .int .i64 v, .slice dob dn dc, .slice tob tn tc] w fun e w' => e = .returned (.bool true) ∧ Below w.heap.size w w' := by
  obtain ⟨w0, hw0⟩ : ∃ w0, w0 = w.alloc (.cells #[.int .i64 k, .int .i64 r, .int .i64 c, .int .i64 q] 23) := ⟨_, rfl⟩
  have B0 : Hid (Below w.heap.size w w0) := by show Below _ _ _; rw [hw0]; exact below_alloc _ _
  have L0 : Hid (∀ v, Below w0.heap.size w0 v → At w v w.heap.size #[.int .i64 k, .int .i64 r, .int .i64 c, .int .i64 q] 23) := fun v hv => (at_made (Below.refl _ _) hw0).below hv
  have e1 : (E != 0) = true := by simp [hE]
  have e2 : (E == 0) = false := by simp [hE]
  rw [show lenE E N = 0 from if_neg hE] at HFU
  go_enter Try.func3, Try.ntmps3
  go_wp2_with fail
  rw [← hw0]
  clear hw0
  refine (awake_any _).mono ?_
  rintro e wa ⟨rfl, ha⟩
  have BA : Hid (Below w0.heap.size w0 wa) := ha
  clear ha
  have pq := L0.out wa BA.out
  have s0 := pq.cell (i := 0) rfl
  have s1 := pq.cell (i := 1) rfl
  have s2 := pq.cell (i := 2) rfl
  have s3 := pq.cell (i := 3) rfl
  clear pq
  go_wp2_with fail
  refine (HFU.out wa (below_then B0.out BA.out)).mono ?_
  rintro e wf ⟨lo, lc, rfl, hf⟩
  have BF : Hid (Below w0.heap.size w0 wf) := below_then BA.out hf
  clear hf s0 s1 s2 s3
  go_wp2_with fail
  go_ret
  exact ⟨rfl, below_then B0.out BF.out⟩
set_option maxHeartbeats 8000000 in
set_option maxRecDepth 100000 in
theorem any_good {r c q : Int} {K m Z : Nat} (w : World) (ro : Option Addr) (rn rc : Nat) (kd : UInt8) (v : Int) (dob : Option Addr) (dn dc : Nat) (D : Nat → UInt8) (hD : Bec w dob dn dc D) (hrn : rn ≤ 16) (hrn0 : 0 < rn) (G : Nat → Nat → UInt8) (os L C : Nat → Nat) (A : Nat → Option Addr) (F : Nat → Nat → UInt8) (hm : m ≠ 0) (hos : ∀ i, os i < 2) (hr : Rw w ro rn A L C F)
    (tob : Option Addr) (tn tc : Nat) (V : Nat → Bool) (hT : RdT w tob tn V) (P : Nat → Bool) (hP : ∀ i, P i = !(decide (i < tn) && V i)) (ab : Bool)
    (HFU : Hid (∀ u, Below w.heap.size w u → Calls Try.prog 7 #[.agg #[.int .i64 (K : Int), .int .i64 r, .int .i64 c, .int .i64 q], .slice ro rn rc, .int .i64 0, .int .u8 ((kd.toNat : Nat) : Int), .int .i64 0, .int .i64 v, .slice dob dn dc] u fun e w' => ∃ lo lc T U, e = .returned (.tuple #[.slice lo rn lc, .int .i64 0]) ∧ PL u.heap.size w' lo rn lc rn (fun _ => m) os 0 Z T U G ∧ Below u.heap.size u w'))
    (HAB : Hid (∀ u, Below w.heap.size w u → Calls Try.prog 8 #[.agg #[.int .i64 (K : Int), .int .i64 r, .int .i64 c, .int .i64 q], .slice ro rn rc, .int .i64 v] u fun e w' => e = .returned (.bool ab) ∧ Below u.heap.size u w'))
    (HNW : Hid (ab = true → ∀ u g cp A' C', Rw u (some ⟨g, 0, none⟩) rn A' (wp P 0 (bP (fun _ => m) os rn L (fun _ => Z) rn) rn) C' (bP (fun _ => m) os rn F G rn) →
      (Calls Try.prog 10 #[.agg #[.int .i64 (K : Int), .int .i64 r, .int .i64 c, .int .i64 q], .slice (some ⟨g, 0, none⟩) rn cp, .int .u8 ((kd.toNat : Nat) : Int), .int .i64 v] u fun e w' => ∃ ao cap, e = .returned (.tuple #[.slice ao (Cod.cnt (pL P) rn) cap, .int .i64 0]) ∧ Below u.heap.size u w') ∧
      (K ≤ Cod.cnt (pL P) rn → Calls Try.prog 11 #[.agg #[.int .i64 (K : Int), .int .i64 r, .int .i64 c, .int .i64 q], .slice (some ⟨g, 0, none⟩) rn cp, .int .u8 ((kd.toNat : Nat) : Int), .int .i64 v] u fun e w' => ∃ ao cap, e = .returned (.tuple #[.slice ao dn cap, .int .i64 0]) ∧ Bec w' ao dn cap D ∧ Below u.heap.size u w') ∧
      (¬ K ≤ Cod.cnt (pL P) rn → Calls Try.prog 11 #[.agg #[.int .i64 (K : Int), .int .i64 r, .int .i64 c, .int .i64 q], .slice (some ⟨g, 0, none⟩) rn cp, .int .u8 ((kd.toNat : Nat) : Int), .int .i64 v] u fun e w' => ∃ ao cap, e = .returned (.tuple #[.slice ao 0 cap, .int .i64 5]) ∧ Below u.heap.size u w'))) :
    Calls Try.prog 3 #[.agg #[.int .i64 (K : Int), .int .i64 r, .int .i64 c, .int .i64 q], .slice ro rn rc, .int .u8 ((kd.toNat : Nat) : Int), .int .i64 v, .slice dob dn dc, .slice tob tn tc] w fun e w' => e = .returned (.bool true) ∧ Below w.heap.size w w' := by
  obtain ⟨w0, hw0⟩ : ∃ w0, w0 = w.alloc (.cells #[.int .i64 (K : Int), .int .i64 r, .int .i64 c, .int .i64 q] 23) := ⟨_, rfl⟩
  have B0 : Hid (Below w.heap.size w w0) := by show Below _ _ _; rw [hw0]; exact below_alloc _ _
  have L0 : Hid (∀ v, Below w0.heap.size w0 v → At w v w.heap.size #[.int .i64 (K : Int), .int .i64 r, .int .i64 c, .int .i64 q] 23) := fun v hv => (at_made (Below.refl _ _) hw0).below hv
  have HD : Hid (Bec w dob dn dc D) := hD
  have HT : Hid (RdT w tob tn V) := hT
  have HP : Hid (∀ i, P i = !(decide (i < tn) && V i)) := hP
  have HBE : Hid (∀ u lo lc T U B, Below w.heap.size w u → PL B u lo rn lc rn (fun _ => m) os 0 Z T U G → Calls Try.prog 9 #[.slice ro rn rc, .slice lo rn lc, .int .i64 (rn : Int)] u fun e w' => ∃ g c' A' C', e = .returned (.slice (some ⟨g, 0, none⟩) rn c') ∧ Rn u.heap.size w' g rn c' A' (bP (fun _ => m) os rn L (fun _ => Z) rn) C' (bP (fun _ => m) os rn F G rn) ∧ (∀ j, j < 2 * rn → Bec u (A' j) ((bP (fun _ => m) os rn L (fun _ => Z) rn) j) (C' j) ((bP (fun _ => m) os rn F G rn) j)) ∧ Below u.heap.size u w') := fun u lo lc T U B hu hp => by
    have hcf := Cod.cnt_full (L := fun _ => m) (n := rn) (fun _ _ => hm)
    have hb := behind_any u ro rn rc A L C F (hr.below hu) hrn0 hrn B lo lc (fun _ => m) os 0 Z T U G (by rw [hcf]; exact hp) hos rn (by rw [hcf]; exact Nat.le_refl _)
    have hbc := bP_bec (hr.below hu) (cap := lc) (lo := lo) (B := B) (Lc := fun _ => m) (os := os) (nu := 0) (nn := Z) (T := T) (U := U) (G := G) (by rw [hcf]; exact hp) rn (by rw [hcf]; exact Nat.le_refl _)
    rw [hcf] at hb
    refine hb.mono ?_
    rintro e w' ⟨g, c', rfl, hrn', hb'⟩
    exact ⟨g, c', _, _, rfl, hrn', hbc, hb'⟩
  obtain ⟨LX, hLX⟩ : ∃ LX, LX = (bP (fun _ => m) os rn L (fun _ => Z) rn) := ⟨_, rfl⟩
  obtain ⟨FX, hFX⟩ : ∃ FX, FX = (bP (fun _ => m) os rn F G rn) := ⟨_, rfl⟩
  simp only [← hLX, ← hFX] at HBE HNW
  clear hD hr hT hP hLX hFX
  have hs2 : ((rn : Int) == (rn : Int)) = true := by simp
  have hs3 : ((rn : Int) != (rn : Int)) = false := by simp
  cases ab
  · clear HNW HBE
    go_enter Try.func3, Try.ntmps3
    go_wp2_with fail
    rw [← hw0]
    clear hw0
    refine (awake_any _).mono ?_
    rintro e wa ⟨rfl, ha⟩
    have BA : Hid (Below w0.heap.size w0 wa) := ha
    clear ha
    have pq := L0.out wa BA.out
    have s0 := pq.cell (i := 0) rfl
    have s1 := pq.cell (i := 1) rfl
    have s2 := pq.cell (i := 2) rfl
    have s3 := pq.cell (i := 3) rfl
    clear pq
    go_wp2_with fail
    refine (HFU.out wa (below_then B0.out BA.out)).mono ?_
    rintro e wf ⟨lo, lc, T, U, rfl, hpl, hf⟩
    have BF : Hid (Below w0.heap.size w0 wf) := below_then BA.out hf
    clear hf hpl s0 s1 s2 s3
    have pq := L0.out wf BF.out
    have s0 := pq.cell (i := 0) rfl
    have s1 := pq.cell (i := 1) rfl
    have s2 := pq.cell (i := 2) rfl
    have s3 := pq.cell (i := 3) rfl
    clear pq
    go_wp2_with (go_at_call 8; refine (HAB.out _ (below_then B0.out BF.out)).mono ?_; rintro e wg ⟨rfl, hg⟩; have BG : Hid (Below w0.heap.size w0 wg) := below_then BF.out hg; clear hg)
    go_ret
    exact ⟨rfl, below_then B0.out BG.out⟩
  · have HN1 := HNW.out rfl
    have HN : Hid _ := And.intro trivial HN1
    clear HN1 HNW
    go_enter Try.func3, Try.ntmps3
    go_wp2_with fail
    rw [← hw0]
    clear hw0
    refine (awake_any _).mono ?_
    rintro e wa ⟨rfl, ha⟩
    have BA : Hid (Below w0.heap.size w0 wa) := ha
    clear ha
    have pq := L0.out wa BA.out
    have s0 := pq.cell (i := 0) rfl
    have s1 := pq.cell (i := 1) rfl
    have s2 := pq.cell (i := 2) rfl
    have s3 := pq.cell (i := 3) rfl
    clear pq
    go_wp2_with fail
    refine (HFU.out wa (below_then B0.out BA.out)).mono ?_
    rintro e wf ⟨lo, lc, T, U, rfl, hpl, hf⟩
    have BF : Hid (Below w0.heap.size w0 wf) := below_then BA.out hf
    have HPL : Hid (PL wa.heap.size wf lo rn lc rn (fun _ => m) os 0 Z T U G) := hpl
    clear hf hpl s0 s1 s2 s3
    have pq := L0.out wf BF.out
    have s0 := pq.cell (i := 0) rfl
    have s1 := pq.cell (i := 1) rfl
    have s2 := pq.cell (i := 2) rfl
    have s3 := pq.cell (i := 3) rfl
    clear pq
    go_wp2_with (go_at_call 8; refine (HAB.out _ (below_then B0.out BF.out)).mono ?_; rintro e wg ⟨rfl, hg⟩; have BG : Hid (Below w0.heap.size w0 wg) := below_then BF.out hg; have HPG : Hid (PL wa.heap.size wg lo rn lc rn (fun _ => m) os 0 Z T U G) := HPL.out.below hg; clear hg)
    clear s0 s1 s2 s3
    refine (HBE.out wg lo lc T U _ (below_then B0.out BG.out) HPG.out).mono ?_
    rintro e w1 ⟨g, cp, A', C', rfl, hrw, hbc, h1⟩
    have HBC : Hid (∀ j, j < 2 * rn → Bec wg (A' j) (LX j) (C' j) (FX j)) := hbc
    have B1 : Hid (Below wg.heap.size wg w1) := h1
    have R1 : Hid (Rn wg.heap.size w1 g rn cp A' LX C' FX) := hrw
    clear hrw hbc h1
    go_wp2_with fail
    go_loopw [17, 18] (fun y x wr => ∃ t : Nat, t ≤ rn ∧ x = .int .i64 (t : Int) ∧ y = .int .i64 ((Cod.cnt (pL P) t : Nat) : Int) ∧ Hid (Rn wg.heap.size wr g rn cp (wp P none A' t) (wp P 0 LX t) (wp P 0 C' t) FX) ∧ Hid (Below wg.heap.size wg wr)) (fun _ x _ => rn - (intOf x).toNat)
    case atStart => exact ⟨0, Nat.zero_le _, rfl, rfl, by show Rn _ _ _ _ _ _ _ _ _; rw [wp_zero, wp_zero, wp_zero]; exact R1.out, B1.out⟩
    case round =>
      obtain ⟨t, ht, rfl, rfl, hR, hb⟩ := hrel
      have hct := Cod.cnt_le (pL P) t
      by_cases hlt : t < rn
      · have j1 : (t : Int) < (rn : Int) := by omega
        have j0 : (0 : Int) ≤ (t : Int) := by omega
        obtain ⟨ct, hcte⟩ : ∃ ct, ct = Cod.cnt (pL P) t := ⟨_, rfl⟩
        rw [← hcte] at hct ⊢
        have HCT : Hid (ct = Cod.cnt (pL P) t) := hcte
        clear hcte
        have stay : P t = true → Hid (ct + 1 = Cod.cnt (pL P) (t + 1) ∧ Rn wg.heap.size wr g rn cp (wp P none A' (t + 1)) (wp P 0 LX (t + 1)) (wp P 0 C' (t + 1)) FX) := fun e => by
          refine ⟨?_, ?_⟩
          · rw [Cod.cnt_take (show pL P t ≠ 0 by unfold pL; rw [if_pos e]; decide), ← HCT.out]
          · rw [wp_skip e, wp_skip e, wp_skip e]; exact hR.out
        by_cases hw : t < tn
        · have j2 : (t : Int) < (tn : Int) := by omega
          obtain ⟨b, off, rfl, hc⟩ := HT.out (by omega)
          have cw : wr.cell? ⟨b, off + t, none⟩ = some (.bool (V t)) := held (hc t hw) (below_then (below_then B0.out BG.out) hb.out)
          clear hc
          cases hV : V t
          · have S := stay (by rw [HP.out, hV]; simp)
            rw [hV] at cw
            clear stay
            go_wp2_with fail
            go_roundw
            case rel => exact ⟨t + 1, by omega, by go_num, by rw [← S.out.1]; go_num, S.out.2, hb.out⟩
            case measure => simp [intOf]; omega
          · rw [hV] at cw
            clear stay
            have hPt : P t = false := by rw [HP.out, hV, decide_eq_true hw]; rfl
            have hst := World.ownsRow.stored hR.out.out (t * 2) (.slice none 0 0)
            rw [rows_set] at hst
            have hst2 := World.ownsRow.stored hst.1 (t * 2 + 1) (.slice none 0 0)
            rw [rows_set] at hst2
            have hgg : wg.heap.size ≤ g := (owns_at hR.out.out (a := ⟨g, 0, none⟩) rfl).1
            have HNB : Hid (Below wg.heap.size wg ((wr.setCell ⟨g, t * 2, none⟩ (.slice none 0 0)).setCell ⟨g, t * 2 + 1, none⟩ (.slice none 0 0))) := (hb.out.setCell hgg _).setCell hgg _
            have HNX : Hid (ct = Cod.cnt (pL P) (t + 1) ∧ Rn wg.heap.size ((wr.setCell ⟨g, t * 2, none⟩ (.slice none 0 0)).setCell ⟨g, t * 2 + 1, none⟩ (.slice none 0 0)) g rn cp (wp P none A' (t + 1)) (wp P 0 LX (t + 1)) (wp P 0 C' (t + 1)) FX) := by
              refine ⟨by rw [Cod.cnt_skip (show pL P t = 0 by unfold pL; rw [if_neg (by rw [hPt]; decide)])]; exact HCT.out, ?_, wp_bec HBC.out HNB.out (t + 1)⟩
              rw [wp_take hPt, wp_take hPt, wp_take hPt]; exact hst2.1
            have k0 := hR.out.cell (j := t * 2) (by omega)
            have k1 := hR.out.cell (j := t * 2 + 1) (by omega)
            have kf0 : wr.frozen? ⟨g, t * 2, none⟩ = false := World.ownsRow.frozenAt hR.out.out _
            have kf1 : wr.frozen? ⟨g, t * 2 + 1, none⟩ = false := World.ownsRow.frozenAt hR.out.out _
            clear hst hst2
            go_wp2_with fail
            go_roundw
            case rel => exact ⟨t + 1, by omega, by go_num, by rw [← HNX.out.1], HNX.out.2, HNB.out⟩
            case measure => simp [intOf]; omega
        · have j2 : ¬ (t : Int) < (tn : Int) := by omega
          have S := stay (by rw [HP.out, decide_eq_false hw]; rfl)
          clear stay
          go_wp2_with fail
          go_roundw
          case rel => exact ⟨t + 1, by omega, by go_num, by rw [← S.out.1]; go_num, S.out.2, hb.out⟩
          case measure => simp [intOf]; omega
      · obtain rfl : t = rn := by omega
        have B2 : Hid (Below w0.heap.size w0 wr) := below_then BG.out hb.out
        have R2 : Hid _ := And.intro trivial hR.out.rw
        obtain ⟨ct, hcte⟩ : ∃ ct, ct = Cod.cnt (pL P) t := ⟨_, rfl⟩
        rw [← hcte] at HN hct ⊢
        clear hcte hR
        have t1 : ((ct : Int) != (ct : Int)) = false := by simp
        have t2 : ((ct : Int) == (ct : Int)) = true := by simp
        have pq := L0.out wr B2.out
        have s0 := pq.cell (i := 0) rfl
        have s1 := pq.cell (i := 1) rfl
        have s2 := pq.cell (i := 2) rfl
        have s3 := pq.cell (i := 3) rfl
        clear pq
        go_wp2_with fail
        refine (HN.out.2 wr g cp _ _ R2.out.2).1.mono ?_
        rintro e w2 ⟨a1, p1, rfl, h2⟩
        have B3 : Hid (Below w0.heap.size w0 w2) := below_then B2.out h2
        have R3 : Hid _ := And.intro trivial (R2.out.2.below h2)
        clear h2 s0 s1 s2 s3
        have pq := L0.out w2 B3.out
        have s0 := pq.cell (i := 0) rfl
        have s1 := pq.cell (i := 1) rfl
        have s2 := pq.cell (i := 2) rfl
        have s3 := pq.cell (i := 3) rfl
        clear pq
        by_cases hK : K ≤ ct
        · have j3 : ¬ (ct : Int) < (K : Int) := by omega
          go_wp2_with fail
          refine ((HN.out.2 w2 g cp _ _ R3.out.2).2.1 hK).mono ?_
          rintro e w3 ⟨a2, p2, rfl, hb3, h3⟩
          have B4 : Hid (Below w0.heap.size w0 w3) := below_then B3.out h3
          clear s0 s1 s2 s3
          have pq := L0.out w3 B4.out
          have s0 := pq.cell (i := 0) rfl
          have s1 := pq.cell (i := 1) rfl
          have s2 := pq.cell (i := 2) rfl
          have s3 := pq.cell (i := 3) rfl
          clear pq
          have v1 := conv_any hb3
          have v2 := conv_any (HD.out.below (below_then B0.out B4.out))
          have v3 := str_eq (lsF dn D) (lsF dn D)
          rw [decide_eq_true rfl] at v3
          clear h3 hb3
          go_wp2_with fail
          go_ret
          exact ⟨rfl, below_then B0.out B4.out⟩
        · have j3 : (ct : Int) < (K : Int) := by omega
          go_wp2_with fail
          refine ((HN.out.2 w2 g cp _ _ R3.out.2).2.2 hK).mono ?_
          rintro e w3 ⟨a2, p2, rfl, h3⟩
          have B4 : Hid (Below w0.heap.size w0 w3) := below_then B3.out h3
          clear h3 s0 s1 s2 s3
          have pq := L0.out w3 B4.out
          have s0 := pq.cell (i := 0) rfl
          have s1 := pq.cell (i := 1) rfl
          have s2 := pq.cell (i := 2) rfl
          have s3 := pq.cell (i := 3) rfl
          clear pq
          go_wp2_with fail
          go_ret
          exact ⟨rfl, below_then B0.out B4.out⟩
set_option maxHeartbeats 4000000 in
theorem any_walk {k r c q : Int} {N W : Nat} {x : Int} (h : Par k r c q N W x) (w : World) (ro : Option Addr) (rn rc : Nat) (A : Nat → Option Addr) (L C : Nat → Nat) (F : Nat → Nat → UInt8) (hr : Rw w ro rn A L C F) (kd : UInt8) (v : Int) (dob : Option Addr) (dn dc : Nat) (D : Nat → UInt8) (hD : Bec w dob dn dc D) (tob : Option Addr) (tn tc : Nat) (V : Nat → Bool) (hT : RdT w tob tn V) :
    Calls Try.prog 3 #[.agg #[.int .i64 k, .int .i64 r, .int .i64 c, .int .i64 q], .slice ro rn rc, .int .u8 ((kd.toNat : Nat) : Int), .int .i64 v, .slice dob dn dc, .slice tob tn tc] w fun e w' => e = .returned (.bool true) ∧ Below w.heap.size w w' := by
  obtain ⟨E, hE⟩ : ∃ E, erD (erW (erK x N c rn L kd v) q 0 0) dn W = E := ⟨_, rfl⟩
  have HF := fun u hu => Full_any h u ro rn rc A L C F (hr.below hu) 0 kd 0 v dob dn dc D (hD.below hu) E hE
  by_cases he : E = 0
  · subst he
    obtain ⟨hW, hdw⟩ := erD_zero hE
    obtain ⟨hK, _, _⟩ := erW_zero hW
    obtain ⟨hR, hk, hv⟩ := erK_zero hK
    obtain ⟨rfl, hrN, hL⟩ := erR_zero hR
    subst hrN hdw
    obtain ⟨K, m, rfl, rfl, k1, k2, k3, hN, m1, m2, hdn⟩ := h.nums
    have hm8 : (8 : Int) ≤ (m : Int) := by omega
    obtain ⟨P, hP⟩ : ∃ P : Nat → Bool, P = fun i => !(decide (i < tn) && V i) := ⟨_, rfl⟩
    refine any_good (K := K) (m := m) (Z := sz rn (m : Int)) w ro rn rc kd v dob dn dc D hD hN (by omega) (fun i => enc (slC kd rn (fun _ => v) m (dH K m D i) i)) (osl rn (m : Int) L F kd 0) L C A F (by omega) osl_lt hr tob tn tc V hT P (fun i => by rw [hP]) (abB rn (m : Int) L F v) ?_ ?_ ?_
    · intro u hu
      refine (HF u hu).mono ?_
      rintro e w' ⟨lo, lc, T, U, rfl, hp, hb⟩
      exact ⟨lo, lc, T, U, rfl, hp rfl, hb⟩
    · exact fun u hu => above_any h u ro rc A L C F (hr.below hu) hL v
    · intro hab u g cp A' C' hrw
      have q2 := any_n (k := (K : Int)) (D := D) (P := P) (os := osl rn (m : Int) L F kd 0) hN hm8 hk hv osl_lt hab
      have hL1 := row_n (n := rn) (os := osl rn (m : Int) L F kd 0) (fun _ => m) hL rn
      have hL' : ∀ j, j < 2 * rn → wp P 0 (bP (fun _ => m) (osl rn (m : Int) L F kd 0) rn L (fun _ => sz rn (m : Int)) rn) rn j = 0 ∨ wp P 0 (bP (fun _ => m) (osl rn (m : Int) L F kd 0) rn L (fun _ => sz rn (m : Int)) rn) rn j = sz rn (m : Int) := fun j hj => by
        by_cases g : j / 2 < rn ∧ P (j / 2) = false
        · exact .inl (if_pos g)
        · unfold wp; rw [if_neg g]; exact hL1 j hj
      simp only [Int.toNat_natCast] at q2
      have hZk : Zok rn (m : Int) (zv rn (m : Int) (wp P 0 (bP (fun _ => m) (osl rn (m : Int) L F kd 0) rn L (fun _ => sz rn (m : Int)) rn) rn) (bP (fun _ => m) (osl rn (m : Int) L F kd 0) rn F (fun i => enc (slC kd rn (fun _ => v) m (dH K m D i) i)) rn) kd v) := zok_of
      have c1 : ct (zv rn (m : Int) (wp P 0 (bP (fun _ => m) (osl rn (m : Int) L F kd 0) rn L (fun _ => sz rn (m : Int)) rn) rn) (bP (fun _ => m) (osl rn (m : Int) L F kd 0) rn F (fun i => enc (slC kd rn (fun _ => v) m (dH K m D i) i)) rn) kd v) rn = Cod.cnt (pL P) rn := by
        rw [ct_of (P := P) (fun i hi => ?_)]
        · rfl
        · constructor
          · intro e
            cases g : P i
            · rfl
            · exact absurd e (new_ne ((q2 i hi).1 g))
          · intro e
            rw [(q2 i hi).2 e]; rfl
      have c2 := erL_ct (K := K) hZk hm8
      rw [c1] at c2
      have hK' := erK_ok hL' hk hv
      refine ⟨?_, fun hKn => ?_, fun hKn => ?_⟩
      · refine (Present_any h u _ rn cp A' _ C' _ hrw kd v 0 hK').mono ?_
        rintro e w' ⟨ao, cap, rfl, _, hb⟩
        rw [c1]
        exact ⟨ao, cap, rfl, hb⟩
      · rw [if_pos hKn] at c2
        refine (Read_any h u _ rn cp A' _ C' _ hrw kd v 0 (by unfold erV2; rw [hK', if_pos rfl]; exact c2)).mono ?_
        rintro e w' ⟨ao, cap, rfl, hown, hb⟩
        rw [Int.toNat_natCast, Int.toNat_natCast, ← hdn] at hown ⊢
        refine ⟨ao, cap, rfl, hown.bec.congr fun b hb => ?_, hb⟩
        obtain ⟨_, hbd⟩ := lenE_z hb rfl
        refine rd_new (c := (m : Int)) (kd := kd) (v := v) (X := fun _ => v) k2 hN rfl (by omega) (fun i hi => ?_) c2 b (show b < K * m by rw [← hdn]; exact hbd)
        cases g : P i
        · exact .inl ((q2 i hi).2 g)
        · exact .inr ((q2 i hi).1 g)
      · rw [if_neg hKn] at c2
        refine (Read_any h u _ rn cp A' _ C' _ hrw kd v 5 (by unfold erV2; rw [hK', if_pos rfl]; exact c2)).mono ?_
        rintro e w' ⟨ao, cap, rfl, _, hb⟩
        exact ⟨ao, cap, rfl, hb⟩
  · refine any_bad (N := N) w ro rn rc kd v dob dn dc tob tn tc E he ?_
    intro u hu
    refine (HF u hu).mono ?_
    rintro e w' ⟨lo, lc, T, U, rfl, _, hb⟩
    exact ⟨lo, lc, rfl, hb⟩
end Go.Proofs.Ytapflgfifppckaa
