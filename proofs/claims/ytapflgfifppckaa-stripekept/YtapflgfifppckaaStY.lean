/- The walk of StripeKept. -/
import Derived.Test.YtapflgfifppckaaStX
namespace Go.Proofs.Ytapflgfifppckaa
open Go.RowKit

set_option maxHeartbeats 4000000 in
set_option maxRecDepth 100000 in
theorem kept_bad {k r c q : Int} {N : Nat} (w : World) (ro : Option Addr) (rn rc : Nat) (kd : UInt8) (ke v : Int) (dob : Option Addr) (dn dc : Nat) (E : Int) (hE : ¬ E = 0)
    (HFU : Hid (∀ u, Below w.heap.size w u → Calls Try.prog 7 #[.agg #[.int .i64 k, .int .i64 r, .int .i64 c, .int .i64 q], .slice ro rn rc, .int .i64 0, .int .u8 ((kd.toNat : Nat) : Int), .int .i64 ke, .int .i64 v, .slice dob dn dc] u fun e w' => ∃ lo lc, e = .returned (.tuple #[.slice lo (lenE E N) lc, .int .i64 E]) ∧ Below u.heap.size u w')) :
    Calls Try.prog 4 #[.agg #[.int .i64 k, .int .i64 r, .int .i64 c, .int .i64 q], .slice ro rn rc, .int .u8 ((kd.toNat : Nat) : Int), .int .i64 ke, .int .i64 v, .slice dob dn dc] w fun e w' => e = .returned (.bool true) ∧ Below w.heap.size w w' := by
  obtain ⟨w0, hw0⟩ : ∃ w0, w0 = w.alloc (.cells #[.int .i64 k, .int .i64 r, .int .i64 c, .int .i64 q] 23) := ⟨_, rfl⟩
  have B0 : Hid (Below w.heap.size w w0) := by show Below _ _ _; rw [hw0]; exact below_alloc _ _
  have L0 : Hid (∀ v, Below w0.heap.size w0 v → At w v w.heap.size #[.int .i64 k, .int .i64 r, .int .i64 c, .int .i64 q] 23) := fun v hv => (at_made (Below.refl _ _) hw0).below hv
  have e1 : (E != 0) = true := by simp [hE]
  have e2 : (E == 0) = false := by simp [hE]
  rw [show lenE E N = 0 from if_neg hE] at HFU
  go_enter Try.func4, Try.ntmps4
  go_wp2_with fail
  rw [← hw0]
  clear hw0
  refine (awake_any _).mono ?_
  rintro e wa ⟨rfl, ha⟩
  have BA : Hid (Below w0.heap.size w0 wa) := ha
  clear ha
  have pq := L0.out wa BA.out
  have s0 := pq.cell (i := 0) rfl
  have s1 := pq.cell (i := 1) rfl
  have s2 := pq.cell (i := 2) rfl
  have s3 := pq.cell (i := 3) rfl
  clear pq
  go_wp2_with fail
  refine (HFU.out wa (below_then B0.out BA.out)).mono ?_
  rintro e wf ⟨lo, lc, rfl, hf⟩
  have BF : Hid (Below w0.heap.size w0 wf) := below_then BA.out hf
  clear hf
  go_wp2_with fail
  go_ret
  exact ⟨rfl, below_then B0.out BF.out⟩
set_option maxHeartbeats 16000000 in
set_option maxRecDepth 100000 in
theorem kept_good {r c q : Int} {K m Z : Nat} (w : World) (ro : Option Addr) (rn rc : Nat) (kd : UInt8) (ke v : Int) (dob : Option Addr) (dn dc : Nat) (D : Nat → UInt8) (hD : Bec w dob dn dc D) (hrn : rn ≤ 16) (hrn0 : 0 < rn) (G : Nat → Nat → UInt8) (os L C : Nat → Nat) (A : Nat → Option Addr) (F : Nat → Nat → UInt8) (hm : m ≠ 0) (hos : ∀ i, os i < 2) (hr : Rw w ro rn A L C F)
    (ct0 : Nat) (Gk : Int) (BK : Nat → UInt8) (hGk : Gk = 0 ∨ Gk = 5) (ab : Bool) (Tw : Nat → Prop)
    (HFU : Hid (∀ u, Below w.heap.size w u → Calls Try.prog 7 #[.agg #[.int .i64 (K : Int), .int .i64 r, .int .i64 c, .int .i64 q], .slice ro rn rc, .int .i64 0, .int .u8 ((kd.toNat : Nat) : Int), .int .i64 ke, .int .i64 v, .slice dob dn dc] u fun e w' => ∃ lo lc T U, e = .returned (.tuple #[.slice lo rn lc, .int .i64 0]) ∧ PL u.heap.size w' lo rn lc rn (fun _ => m) os 0 Z T U G ∧ Below u.heap.size u w'))
    (HAB : Hid (∀ u, Below w.heap.size w u → Calls Try.prog 8 #[.agg #[.int .i64 (K : Int), .int .i64 r, .int .i64 c, .int .i64 q], .slice ro rn rc, .int .i64 v] u fun e w' => e = .returned (.bool ab) ∧ Below u.heap.size u w'))
    (HON : Hid (∀ u, Below w.heap.size w u → Calls Try.prog 12 #[.agg #[.int .i64 (K : Int), .int .i64 r, .int .i64 c, .int .i64 q], .slice ro rn rc, .int .u8 ((kd.toNat : Nat) : Int)] u fun e w' => ∃ y : UInt8, e = .returned (.bool (decide (y = 1))) ∧ (y = 1 → ∀ i, i < rn → ¬ Tw i) ∧ Below u.heap.size u w'))
    (HPO0 : Hid (ke ≠ 0 → ∀ u, Below w.heap.size w u → Calls Try.prog 10 #[.agg #[.int .i64 (K : Int), .int .i64 r, .int .i64 c, .int .i64 q], .slice ro rn rc, .int .u8 ((kd.toNat : Nat) : Int), .int .i64 ke] u fun e w' => ∃ ao cap, e = .returned (.tuple #[.slice ao ct0 cap, .int .i64 0]) ∧ Below u.heap.size u w'))
    (HRO0 : Hid (ke ≠ 0 → ∀ u, Below w.heap.size w u → Calls Try.prog 11 #[.agg #[.int .i64 (K : Int), .int .i64 r, .int .i64 c, .int .i64 q], .slice ro rn rc, .int .u8 ((kd.toNat : Nat) : Int), .int .i64 ke] u fun e w' => ∃ ao cap, e = .returned (.tuple #[.slice ao (lenE Gk dn) cap, .int .i64 Gk]) ∧ Bec w' ao (lenE Gk dn) cap BK ∧ Below u.heap.size u w'))
    (HNW : Hid (ab = true → (∀ i, i < rn → ¬ Tw i) → ke ≠ 0 → ke ≠ v → ∀ n, n ≤ rn → ∀ u g cp A' C', Rw u (some ⟨g, 0, none⟩) rn A' (bP (fun _ => m) os rn L (fun _ => Z) n) C' (bP (fun _ => m) os rn F G n) →
      (Calls Try.prog 10 #[.agg #[.int .i64 (K : Int), .int .i64 r, .int .i64 c, .int .i64 q], .slice (some ⟨g, 0, none⟩) rn cp, .int .u8 ((kd.toNat : Nat) : Int), .int .i64 ke] u fun e w' => ∃ ao cap, e = .returned (.tuple #[.slice ao ct0 cap, .int .i64 0]) ∧ Below u.heap.size u w') ∧
      (Calls Try.prog 11 #[.agg #[.int .i64 (K : Int), .int .i64 r, .int .i64 c, .int .i64 q], .slice (some ⟨g, 0, none⟩) rn cp, .int .u8 ((kd.toNat : Nat) : Int), .int .i64 ke] u fun e w' => ∃ ao cap, e = .returned (.tuple #[.slice ao (lenE Gk dn) cap, .int .i64 Gk]) ∧ Bec w' ao (lenE Gk dn) cap BK ∧ Below u.heap.size u w') ∧
      (Calls Try.prog 10 #[.agg #[.int .i64 (K : Int), .int .i64 r, .int .i64 c, .int .i64 q], .slice (some ⟨g, 0, none⟩) rn cp, .int .u8 ((kd.toNat : Nat) : Int), .int .i64 v] u fun e w' => ∃ ao cap, e = .returned (.tuple #[.slice ao n cap, .int .i64 0]) ∧ Below u.heap.size u w') ∧
      (K ≤ n → Calls Try.prog 11 #[.agg #[.int .i64 (K : Int), .int .i64 r, .int .i64 c, .int .i64 q], .slice (some ⟨g, 0, none⟩) rn cp, .int .u8 ((kd.toNat : Nat) : Int), .int .i64 v] u fun e w' => ∃ ao cap, e = .returned (.tuple #[.slice ao dn cap, .int .i64 0]) ∧ Bec w' ao dn cap D ∧ Below u.heap.size u w') ∧
      (¬ K ≤ n → Calls Try.prog 11 #[.agg #[.int .i64 (K : Int), .int .i64 r, .int .i64 c, .int .i64 q], .slice (some ⟨g, 0, none⟩) rn cp, .int .u8 ((kd.toNat : Nat) : Int), .int .i64 v] u fun e w' => ∃ ao cap, e = .returned (.tuple #[.slice ao 0 cap, .int .i64 5]) ∧ Below u.heap.size u w'))) :
    Calls Try.prog 4 #[.agg #[.int .i64 (K : Int), .int .i64 r, .int .i64 c, .int .i64 q], .slice ro rn rc, .int .u8 ((kd.toNat : Nat) : Int), .int .i64 ke, .int .i64 v, .slice dob dn dc] w fun e w' => e = .returned (.bool true) ∧ Below w.heap.size w w' := by
  obtain ⟨w0, hw0⟩ : ∃ w0, w0 = w.alloc (.cells #[.int .i64 (K : Int), .int .i64 r, .int .i64 c, .int .i64 q] 23) := ⟨_, rfl⟩
  have B0 : Hid (Below w.heap.size w w0) := by show Below _ _ _; rw [hw0]; exact below_alloc _ _
  have L0 : Hid (∀ v, Below w0.heap.size w0 v → At w v w.heap.size #[.int .i64 (K : Int), .int .i64 r, .int .i64 c, .int .i64 q] 23) := fun v hv => (at_made (Below.refl _ _) hw0).below hv
  have HD : Hid (Bec w dob dn dc D) := hD
  have HBE : Hid (∀ u lo lc T U B, Below w.heap.size w u → PL B u lo rn lc rn (fun _ => m) os 0 Z T U G → ∀ n, n ≤ rn → Calls Try.prog 9 #[.slice ro rn rc, .slice lo rn lc, .int .i64 (n : Int)] u fun e w' => ∃ g c' A' C', e = .returned (.slice (some ⟨g, 0, none⟩) rn c') ∧ Rw w' (some ⟨g, 0, none⟩) rn A' (bP (fun _ => m) os rn L (fun _ => Z) n) C' (bP (fun _ => m) os rn F G n) ∧ Below u.heap.size u w') := fun u lo lc T U B hu hp n hn => by
    have hcf := Cod.cnt_full (L := fun _ => m) (n := rn) (fun _ _ => hm)
    have hb := behind_any u ro rn rc A L C F (hr.below hu) hrn0 hrn B lo lc (fun _ => m) os 0 Z T U G (by rw [hcf]; exact hp) hos n (by rw [hcf]; exact hn)
    rw [hcf] at hb
    refine hb.mono ?_
    rintro e w' ⟨g, c', rfl, hrn', hb'⟩
    exact ⟨g, c', _, _, rfl, hrn'.rw, hb'⟩
  clear hD hr
  by_cases h0 : ke = 0
  · subst h0
    go_enter Try.func4, Try.ntmps4
    go_wp2_with fail
    rw [← hw0]
    clear hw0
    refine (awake_any _).mono ?_
    rintro e wa ⟨rfl, ha⟩
    have BA : Hid (Below w0.heap.size w0 wa) := ha
    clear ha
    have pq := L0.out wa BA.out
    have s0 := pq.cell (i := 0) rfl
    have s1 := pq.cell (i := 1) rfl
    have s2 := pq.cell (i := 2) rfl
    have s3 := pq.cell (i := 3) rfl
    clear pq
    go_wp2_with fail
    refine (HFU.out wa (below_then B0.out BA.out)).mono ?_
    rintro e wf ⟨lo, lc, T, U, rfl, hpl, hf⟩
    have BF : Hid (Below w0.heap.size w0 wf) := below_then BA.out hf
    clear s0 s1 s2 s3
    have pq := L0.out wf BF.out
    have s0 := pq.cell (i := 0) rfl
    have s1 := pq.cell (i := 1) rfl
    have s2 := pq.cell (i := 2) rfl
    have s3 := pq.cell (i := 3) rfl
    clear pq
    clear hpl
    go_wp2_with fail
    go_ret
    exact ⟨rfl, below_then B0.out BF.out⟩
  · have g0 : (ke == 0) = false := by simp [h0]
    by_cases h1 : ke = v
    · subst h1
      have g1 : (ke == ke) = true := by simp
      go_enter Try.func4, Try.ntmps4
      go_wp2_with fail
      rw [← hw0]
      clear hw0
      refine (awake_any _).mono ?_
      rintro e wa ⟨rfl, ha⟩
      have BA : Hid (Below w0.heap.size w0 wa) := ha
      clear ha
      have pq := L0.out wa BA.out
      have s0 := pq.cell (i := 0) rfl
      have s1 := pq.cell (i := 1) rfl
      have s2 := pq.cell (i := 2) rfl
      have s3 := pq.cell (i := 3) rfl
      clear pq
      go_wp2_with fail
      refine (HFU.out wa (below_then B0.out BA.out)).mono ?_
      rintro e wf ⟨lo, lc, T, U, rfl, hpl, hf⟩
      have BF : Hid (Below w0.heap.size w0 wf) := below_then BA.out hf
      clear s0 s1 s2 s3
      have pq := L0.out wf BF.out
      have s0 := pq.cell (i := 0) rfl
      have s1 := pq.cell (i := 1) rfl
      have s2 := pq.cell (i := 2) rfl
      have s3 := pq.cell (i := 3) rfl
      clear pq
      clear hpl
      go_wp2_with fail
      go_ret
      exact ⟨rfl, below_then B0.out BF.out⟩
    · have g1 : (ke == v) = false := by simp [h1]
      cases ab
      · clear HNW
        go_enter Try.func4, Try.ntmps4
        go_wp2_with fail
        rw [← hw0]
        clear hw0
        refine (awake_any _).mono ?_
        rintro e wa ⟨rfl, ha⟩
        have BA : Hid (Below w0.heap.size w0 wa) := ha
        clear ha
        have pq := L0.out wa BA.out
        have s0 := pq.cell (i := 0) rfl
        have s1 := pq.cell (i := 1) rfl
        have s2 := pq.cell (i := 2) rfl
        have s3 := pq.cell (i := 3) rfl
        clear pq
        go_wp2_with fail
        refine (HFU.out wa (below_then B0.out BA.out)).mono ?_
        rintro e wf ⟨lo, lc, T, U, rfl, hpl, hf⟩
        have BF : Hid (Below w0.heap.size w0 wf) := below_then BA.out hf
        clear s0 s1 s2 s3
        have pq := L0.out wf BF.out
        have s0 := pq.cell (i := 0) rfl
        have s1 := pq.cell (i := 1) rfl
        have s2 := pq.cell (i := 2) rfl
        have s3 := pq.cell (i := 3) rfl
        clear pq
        clear hpl
        go_wp2_with (go_at_call 8; refine (HAB.out _ (below_then B0.out BF.out)).mono ?_; rintro e wg ⟨rfl, hg⟩; have BG : Hid (Below w0.heap.size w0 wg) := below_then BF.out hg; clear hg)
        go_ret
        exact ⟨rfl, below_then B0.out BG.out⟩
      · have HN1 : Hid ((∀ i, i < rn → ¬ Tw i) → _) := fun a => HNW.out rfl a h0 h1
        have HPO : Hid _ := And.intro trivial (HPO0.out h0)
        have HRO : Hid _ := And.intro trivial (HRO0.out h0)
        clear HNW h0 h1 HPO0 HRO0
        rcases hGk with rfl | rfl
        · rw [show lenE 0 dn = dn from rfl] at HRO HN1
          go_enter Try.func4, Try.ntmps4
          go_wp2_with fail
          rw [← hw0]
          clear hw0
          refine (awake_any _).mono ?_
          rintro e wa ⟨rfl, ha⟩
          have BA : Hid (Below w0.heap.size w0 wa) := ha
          clear ha
          have pq := L0.out wa BA.out
          have s0 := pq.cell (i := 0) rfl
          have s1 := pq.cell (i := 1) rfl
          have s2 := pq.cell (i := 2) rfl
          have s3 := pq.cell (i := 3) rfl
          clear pq
          go_wp2_with fail
          refine (HFU.out wa (below_then B0.out BA.out)).mono ?_
          rintro e wf ⟨lo, lc, T, U, rfl, hpl, hf⟩
          have BF : Hid (Below w0.heap.size w0 wf) := below_then BA.out hf
          clear s0 s1 s2 s3
          have pq := L0.out wf BF.out
          have s0 := pq.cell (i := 0) rfl
          have s1 := pq.cell (i := 1) rfl
          have s2 := pq.cell (i := 2) rfl
          have s3 := pq.cell (i := 3) rfl
          clear pq
          have HPL : Hid (PL wa.heap.size wf lo rn lc rn (fun _ => m) os 0 Z T U G) := hpl
          clear hpl hf
          go_wp2_with (go_at_call 8; refine (HAB.out _ (below_then B0.out BF.out)).mono ?_; rintro e wg ⟨rfl, hg⟩; have BG : Hid (Below w0.heap.size w0 wg) := below_then BF.out hg; have BFG : Hid (Below wf.heap.size wf wg) := hg; clear hg; clear s0 s1 s2 s3; have pq := L0.out wg BG.out; have s0 := pq.cell (i := 0) rfl; have s1 := pq.cell (i := 1) rfl; have s2 := pq.cell (i := 2) rfl; have s3 := pq.cell (i := 3) rfl; clear pq)
          refine (HON.out _ (below_then B0.out BG.out)).mono ?_
          rintro e wh ⟨y, rfl, hy, hh⟩
          have BH : Hid (Below w0.heap.size w0 wh) := below_then BG.out hh
          have BFH : Hid (Below wf.heap.size wf wh) := below_then BFG.out hh
          clear hh
          clear s0 s1 s2 s3
          have pq := L0.out wh BH.out
          have s0 := pq.cell (i := 0) rfl
          have s1 := pq.cell (i := 1) rfl
          have s2 := pq.cell (i := 2) rfl
          have s3 := pq.cell (i := 3) rfl
          clear pq
          by_cases hy1 : y = 1
          · rw [decide_eq_true hy1]
            have HN2 := HN1.out (hy hy1)
            have HNW : Hid _ := And.intro trivial HN2
            clear HN2 HN1 hy hy1
            go_wp2_with fail
            refine (HPO.out.2 _ (below_then B0.out BH.out)).mono ?_
            rintro e wi ⟨oo, oc, rfl, hi⟩
            clear s0 s1 s2 s3
            have BI : Hid (Below w0.heap.size w0 wi) := below_then BH.out hi
            have pq := L0.out wi BI.out
            have s0 := pq.cell (i := 0) rfl
            have s1 := pq.cell (i := 1) rfl
            have s2 := pq.cell (i := 2) rfl
            have s3 := pq.cell (i := 3) rfl
            clear pq
            have BFI : Hid (Below wf.heap.size wf wi) := below_then BFH.out hi
            clear hi
            go_wp2_with fail
            refine (HRO.out.2 _ (below_then B0.out BI.out)).mono ?_
            rintro e wj ⟨bo, bc, rfl, hbw, hj⟩
            clear s0 s1 s2 s3
            have BJ : Hid (Below w0.heap.size w0 wj) := below_then BI.out hj
            have HPJ : Hid (PL wa.heap.size wj lo rn lc rn (fun _ => m) os 0 Z T U G) := HPL.out.below (below_then BFI.out hj)
            have HWAS : Hid (Bec wj bo dn bc BK) := hbw
            clear hj hbw
            go_wp2_with fail
            go_loopw [20] (fun y wr => ∃ n : Nat, n ≤ rn + 1 ∧ y = .int .i64 (n : Int) ∧ Hid (Below wj.heap.size wj wr)) (fun y _ => rn + 1 - (intOf y).toNat)
            case atStart => exact ⟨0, Nat.zero_le _, rfl, Below.refl _ _⟩
            case round =>
              obtain ⟨n, hn, rfl, hb⟩ := hrel
              by_cases hlt : n ≤ rn
              · have hN := HNW.out.2 n hlt
                have HN : Hid _ := And.intro trivial hN
                clear hN
                have hBE := HBE.out wr lo lc T U _ (below_then (below_then B0.out BJ.out) hb.out) (HPJ.out.below hb.out) n hlt
                have j1 : (n : Int) ≤ (rn : Int) := by omega
                go_wp2_with fail
                refine hBE.mono ?_
                clear hBE
                rintro e w1 ⟨g, cp, A', C', rfl, hrw, h1⟩
                have B1 : Hid (Below wj.heap.size wj w1) := below_then hb.out h1
                have R1 : Hid _ := And.intro trivial hrw
                clear hrw h1
                have pq := L0.out w1 (below_then BJ.out B1.out)
                have s0 := pq.cell (i := 0) rfl
                have s1 := pq.cell (i := 1) rfl
                have s2 := pq.cell (i := 2) rfl
                have s3 := pq.cell (i := 3) rfl
                clear pq
                go_wp2_with fail
                refine (HN.out.2 w1 g cp A' C' R1.out.2).1.mono ?_
                rintro e w2 ⟨a1, p1, rfl, h2⟩
                clear s0 s1 s2 s3
                have B2 : Hid (Below wj.heap.size wj w2) := below_then B1.out h2
                have R2 : Hid _ := And.intro trivial (R1.out.2.below h2)
                clear h2
                have pq := L0.out w2 (below_then BJ.out B2.out)
                have s0 := pq.cell (i := 0) rfl
                have s1 := pq.cell (i := 1) rfl
                have s2 := pq.cell (i := 2) rfl
                have s3 := pq.cell (i := 3) rfl
                clear pq
                go_wp2_with fail
                refine (HN.out.2 w2 g cp A' C' R2.out.2).2.1.mono ?_
                rintro e w3 ⟨a2, p2, rfl, hb2, h3⟩
                clear s0 s1 s2 s3
                have B3 : Hid (Below wj.heap.size wj w3) := below_then B2.out h3
                have R3 : Hid _ := And.intro trivial (R2.out.2.below h3)
                have HB2 : Hid (Bec w3 a2 dn p2 BK) := hb2
                clear h3 hb2
                have pq := L0.out w3 (below_then BJ.out B3.out)
                have s0 := pq.cell (i := 0) rfl
                have s1 := pq.cell (i := 1) rfl
                have s2 := pq.cell (i := 2) rfl
                have s3 := pq.cell (i := 3) rfl
                clear pq
                go_wp2_with fail
                refine (HN.out.2 w3 g cp A' C' R3.out.2).2.2.1.mono ?_
                rintro e w4 ⟨a3, p3, rfl, h4⟩
                clear s0 s1 s2 s3
                have B4 : Hid (Below wj.heap.size wj w4) := below_then B3.out h4
                have R4 : Hid _ := And.intro trivial (R3.out.2.below h4)
                have HB4 : Hid (Bec w4 a2 dn p2 BK) := HB2.out.below h4
                clear h4
                have pq := L0.out w4 (below_then BJ.out B4.out)
                have s0 := pq.cell (i := 0) rfl
                have s1 := pq.cell (i := 1) rfl
                have s2 := pq.cell (i := 2) rfl
                have s3 := pq.cell (i := 3) rfl
                clear pq
                have t1 : ((ct0 : Int) != (ct0 : Int)) = false := by simp
                have t2 : ((n : Int) != (n : Int)) = false := by simp
                have t3 := str_ne (lsF dn BK)
                have t4 := str_ne (lsF dn D)
                by_cases hKn : K ≤ n
                · have j2 : (K : Int) ≤ (n : Int) := by omega
                  go_wp2_with fail
                  refine ((HN.out.2 w4 g cp A' C' R4.out.2).2.2.2.1 hKn).mono ?_
                  rintro e w5 ⟨a4, p4, rfl, hb4, h5⟩
                  clear s0 s1 s2 s3
                  have B5 : Hid (Below wj.heap.size wj w5) := below_then B4.out h5
                  have pq := L0.out w5 (below_then BJ.out B5.out)
                  have s0 := pq.cell (i := 0) rfl
                  have s1 := pq.cell (i := 1) rfl
                  have s2 := pq.cell (i := 2) rfl
                  have s3 := pq.cell (i := 3) rfl
                  clear pq
                  have v1 := conv_any (HB4.out.below h5)
                  have v2 := conv_any (HWAS.out.below B5.out)
                  have v3 := conv_any hb4
                  have v4 := conv_any (HD.out.below (below_then (below_then B0.out BJ.out) B5.out))
                  clear h5 hb4
                  go_wp2_with fail
                  go_roundw
                  case rel => exact ⟨n + 1, by omega, by go_num, B5.out⟩
                  case measure => simp [intOf]; omega
                · have j2 : ¬ (K : Int) ≤ (n : Int) := by omega
                  go_wp2_with fail
                  refine ((HN.out.2 w4 g cp A' C' R4.out.2).2.2.2.2 hKn).mono ?_
                  rintro e w5 ⟨a4, p4, rfl, h5⟩
                  clear s0 s1 s2 s3
                  have B5 : Hid (Below wj.heap.size wj w5) := below_then B4.out h5
                  have pq := L0.out w5 (below_then BJ.out B5.out)
                  have s0 := pq.cell (i := 0) rfl
                  have s1 := pq.cell (i := 1) rfl
                  have s2 := pq.cell (i := 2) rfl
                  have s3 := pq.cell (i := 3) rfl
                  clear pq
                  have v1 := conv_any (HB4.out.below h5)
                  have v2 := conv_any (HWAS.out.below B5.out)
                  clear h5
                  go_wp2_with fail
                  go_roundw
                  case rel => exact ⟨n + 1, by omega, by go_num, B5.out⟩
                  case measure => simp [intOf]; omega
              · have j1 : ¬ (n : Int) ≤ (rn : Int) := by omega
                go_wp2_with fail
                go_ret
                exact ⟨rfl, below_then (below_then B0.out BJ.out) hb.out⟩
          · rw [decide_eq_false hy1]
            go_wp2_with fail
            go_ret
            exact ⟨rfl, below_then B0.out BH.out⟩
        · rw [show lenE 5 dn = 0 from rfl] at HRO HN1
          go_enter Try.func4, Try.ntmps4
          go_wp2_with fail
          rw [← hw0]
          clear hw0
          refine (awake_any _).mono ?_
          rintro e wa ⟨rfl, ha⟩
          have BA : Hid (Below w0.heap.size w0 wa) := ha
          clear ha
          have pq := L0.out wa BA.out
          have s0 := pq.cell (i := 0) rfl
          have s1 := pq.cell (i := 1) rfl
          have s2 := pq.cell (i := 2) rfl
          have s3 := pq.cell (i := 3) rfl
          clear pq
          go_wp2_with fail
          refine (HFU.out wa (below_then B0.out BA.out)).mono ?_
          rintro e wf ⟨lo, lc, T, U, rfl, hpl, hf⟩
          have BF : Hid (Below w0.heap.size w0 wf) := below_then BA.out hf
          clear s0 s1 s2 s3
          have pq := L0.out wf BF.out
          have s0 := pq.cell (i := 0) rfl
          have s1 := pq.cell (i := 1) rfl
          have s2 := pq.cell (i := 2) rfl
          have s3 := pq.cell (i := 3) rfl
          clear pq
          have HPL : Hid (PL wa.heap.size wf lo rn lc rn (fun _ => m) os 0 Z T U G) := hpl
          clear hpl hf
          go_wp2_with (go_at_call 8; refine (HAB.out _ (below_then B0.out BF.out)).mono ?_; rintro e wg ⟨rfl, hg⟩; have BG : Hid (Below w0.heap.size w0 wg) := below_then BF.out hg; have BFG : Hid (Below wf.heap.size wf wg) := hg; clear hg; clear s0 s1 s2 s3; have pq := L0.out wg BG.out; have s0 := pq.cell (i := 0) rfl; have s1 := pq.cell (i := 1) rfl; have s2 := pq.cell (i := 2) rfl; have s3 := pq.cell (i := 3) rfl; clear pq)
          refine (HON.out _ (below_then B0.out BG.out)).mono ?_
          rintro e wh ⟨y, rfl, hy, hh⟩
          have BH : Hid (Below w0.heap.size w0 wh) := below_then BG.out hh
          have BFH : Hid (Below wf.heap.size wf wh) := below_then BFG.out hh
          clear hh
          clear s0 s1 s2 s3
          have pq := L0.out wh BH.out
          have s0 := pq.cell (i := 0) rfl
          have s1 := pq.cell (i := 1) rfl
          have s2 := pq.cell (i := 2) rfl
          have s3 := pq.cell (i := 3) rfl
          clear pq
          by_cases hy1 : y = 1
          · rw [decide_eq_true hy1]
            have HN2 := HN1.out (hy hy1)
            have HNW : Hid _ := And.intro trivial HN2
            clear HN2 HN1 hy hy1
            go_wp2_with fail
            refine (HPO.out.2 _ (below_then B0.out BH.out)).mono ?_
            rintro e wi ⟨oo, oc, rfl, hi⟩
            clear s0 s1 s2 s3
            have BI : Hid (Below w0.heap.size w0 wi) := below_then BH.out hi
            have pq := L0.out wi BI.out
            have s0 := pq.cell (i := 0) rfl
            have s1 := pq.cell (i := 1) rfl
            have s2 := pq.cell (i := 2) rfl
            have s3 := pq.cell (i := 3) rfl
            clear pq
            have BFI : Hid (Below wf.heap.size wf wi) := below_then BFH.out hi
            clear hi
            go_wp2_with fail
            refine (HRO.out.2 _ (below_then B0.out BI.out)).mono ?_
            rintro e wj ⟨bo, bc, rfl, hbw, hj⟩
            clear s0 s1 s2 s3
            have BJ : Hid (Below w0.heap.size w0 wj) := below_then BI.out hj
            have HPJ : Hid (PL wa.heap.size wj lo rn lc rn (fun _ => m) os 0 Z T U G) := HPL.out.below (below_then BFI.out hj)
            have HWAS : Hid (Bec wj bo 0 bc BK) := hbw
            clear hj hbw
            go_wp2_with fail
            go_loopw [20] (fun y wr => ∃ n : Nat, n ≤ rn + 1 ∧ y = .int .i64 (n : Int) ∧ Hid (Below wj.heap.size wj wr)) (fun y _ => rn + 1 - (intOf y).toNat)
            case atStart => exact ⟨0, Nat.zero_le _, rfl, Below.refl _ _⟩
            case round =>
              obtain ⟨n, hn, rfl, hb⟩ := hrel
              by_cases hlt : n ≤ rn
              · have hN := HNW.out.2 n hlt
                have HN : Hid _ := And.intro trivial hN
                clear hN
                have hBE := HBE.out wr lo lc T U _ (below_then (below_then B0.out BJ.out) hb.out) (HPJ.out.below hb.out) n hlt
                have j1 : (n : Int) ≤ (rn : Int) := by omega
                go_wp2_with fail
                refine hBE.mono ?_
                clear hBE
                rintro e w1 ⟨g, cp, A', C', rfl, hrw, h1⟩
                have B1 : Hid (Below wj.heap.size wj w1) := below_then hb.out h1
                have R1 : Hid _ := And.intro trivial hrw
                clear hrw h1
                have pq := L0.out w1 (below_then BJ.out B1.out)
                have s0 := pq.cell (i := 0) rfl
                have s1 := pq.cell (i := 1) rfl
                have s2 := pq.cell (i := 2) rfl
                have s3 := pq.cell (i := 3) rfl
                clear pq
                go_wp2_with fail
                refine (HN.out.2 w1 g cp A' C' R1.out.2).1.mono ?_
                rintro e w2 ⟨a1, p1, rfl, h2⟩
                clear s0 s1 s2 s3
                have B2 : Hid (Below wj.heap.size wj w2) := below_then B1.out h2
                have R2 : Hid _ := And.intro trivial (R1.out.2.below h2)
                clear h2
                have pq := L0.out w2 (below_then BJ.out B2.out)
                have s0 := pq.cell (i := 0) rfl
                have s1 := pq.cell (i := 1) rfl
                have s2 := pq.cell (i := 2) rfl
                have s3 := pq.cell (i := 3) rfl
                clear pq
                go_wp2_with fail
                refine (HN.out.2 w2 g cp A' C' R2.out.2).2.1.mono ?_
                rintro e w3 ⟨a2, p2, rfl, hb2, h3⟩
                clear s0 s1 s2 s3
                have B3 : Hid (Below wj.heap.size wj w3) := below_then B2.out h3
                have R3 : Hid _ := And.intro trivial (R2.out.2.below h3)
                have HB2 : Hid (Bec w3 a2 0 p2 BK) := hb2
                clear h3 hb2
                have pq := L0.out w3 (below_then BJ.out B3.out)
                have s0 := pq.cell (i := 0) rfl
                have s1 := pq.cell (i := 1) rfl
                have s2 := pq.cell (i := 2) rfl
                have s3 := pq.cell (i := 3) rfl
                clear pq
                go_wp2_with fail
                refine (HN.out.2 w3 g cp A' C' R3.out.2).2.2.1.mono ?_
                rintro e w4 ⟨a3, p3, rfl, h4⟩
                clear s0 s1 s2 s3
                have B4 : Hid (Below wj.heap.size wj w4) := below_then B3.out h4
                have R4 : Hid _ := And.intro trivial (R3.out.2.below h4)
                have HB4 : Hid (Bec w4 a2 0 p2 BK) := HB2.out.below h4
                clear h4
                have pq := L0.out w4 (below_then BJ.out B4.out)
                have s0 := pq.cell (i := 0) rfl
                have s1 := pq.cell (i := 1) rfl
                have s2 := pq.cell (i := 2) rfl
                have s3 := pq.cell (i := 3) rfl
                clear pq
                have t1 : ((ct0 : Int) != (ct0 : Int)) = false := by simp
                have t2 : ((n : Int) != (n : Int)) = false := by simp
                have t3 := str_ne (lsF 0 BK)
                have t4 := str_ne (lsF dn D)
                by_cases hKn : K ≤ n
                · have j2 : (K : Int) ≤ (n : Int) := by omega
                  go_wp2_with fail
                  refine ((HN.out.2 w4 g cp A' C' R4.out.2).2.2.2.1 hKn).mono ?_
                  rintro e w5 ⟨a4, p4, rfl, hb4, h5⟩
                  clear s0 s1 s2 s3
                  have B5 : Hid (Below wj.heap.size wj w5) := below_then B4.out h5
                  have pq := L0.out w5 (below_then BJ.out B5.out)
                  have s0 := pq.cell (i := 0) rfl
                  have s1 := pq.cell (i := 1) rfl
                  have s2 := pq.cell (i := 2) rfl
                  have s3 := pq.cell (i := 3) rfl
                  clear pq
                  have v1 := conv_any (HB4.out.below h5)
                  have v2 := conv_any (HWAS.out.below B5.out)
                  have v3 := conv_any hb4
                  have v4 := conv_any (HD.out.below (below_then (below_then B0.out BJ.out) B5.out))
                  clear h5 hb4
                  go_wp2_with fail
                  go_roundw
                  case rel => exact ⟨n + 1, by omega, by go_num, B5.out⟩
                  case measure => simp [intOf]; omega
                · have j2 : ¬ (K : Int) ≤ (n : Int) := by omega
                  go_wp2_with fail
                  refine ((HN.out.2 w4 g cp A' C' R4.out.2).2.2.2.2 hKn).mono ?_
                  rintro e w5 ⟨a4, p4, rfl, h5⟩
                  clear s0 s1 s2 s3
                  have B5 : Hid (Below wj.heap.size wj w5) := below_then B4.out h5
                  have pq := L0.out w5 (below_then BJ.out B5.out)
                  have s0 := pq.cell (i := 0) rfl
                  have s1 := pq.cell (i := 1) rfl
                  have s2 := pq.cell (i := 2) rfl
                  have s3 := pq.cell (i := 3) rfl
                  clear pq
                  have v1 := conv_any (HB4.out.below h5)
                  have v2 := conv_any (HWAS.out.below B5.out)
                  clear h5
                  go_wp2_with fail
                  go_roundw
                  case rel => exact ⟨n + 1, by omega, by go_num, B5.out⟩
                  case measure => simp [intOf]; omega
              · have j1 : ¬ (n : Int) ≤ (rn : Int) := by omega
                go_wp2_with fail
                go_ret
                exact ⟨rfl, below_then (below_then B0.out BJ.out) hb.out⟩
          · rw [decide_eq_false hy1]
            go_wp2_with fail
            go_ret
            exact ⟨rfl, below_then B0.out BH.out⟩
end Go.Proofs.Ytapflgfifppckaa
