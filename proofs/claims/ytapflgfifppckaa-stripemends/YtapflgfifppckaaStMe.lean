/- The walk of StripeMends. -/
import Derived.Test.YtapflgfifppckaaStMa
namespace Go.Proofs.Ytapflgfifppckaa
open Go.RowKit

set_option maxHeartbeats 4000000 in
set_option maxRecDepth 100000 in
theorem mends_bad {k r c q : Int} {cn dn : Nat} (w : World) (ro : Option Addr) (rn rc : Nat) (kd : UInt8) (v : Int) (E : Int) (hE : ¬ E = 0)
    (HME : Hid (∀ u, Below w.heap.size w u → Calls Try.prog 13 #[.agg #[.int .i64 k, .int .i64 r, .int .i64 c, .int .i64 q], .slice ro rn rc, .int .i64 0, .int .u8 ((kd.toNat : Nat) : Int), .int .i64 0, .int .i64 v] u fun e w' => ∃ lo lc, e = .returned (.tuple #[.slice lo (lenE E cn) lc, .int .i64 E]) ∧ Below u.heap.size u w'))
    (HRD : Hid (∀ u, Below w.heap.size w u → Calls Try.prog 11 #[.agg #[.int .i64 k, .int .i64 r, .int .i64 c, .int .i64 q], .slice ro rn rc, .int .u8 ((kd.toNat : Nat) : Int), .int .i64 v] u fun e w' => ∃ lo lc, e = .returned (.tuple #[.slice lo (lenE E dn) lc, .int .i64 E]) ∧ Below u.heap.size u w')) :
    Calls Try.prog 5 #[.agg #[.int .i64 k, .int .i64 r, .int .i64 c, .int .i64 q], .slice ro rn rc, .int .u8 ((kd.toNat : Nat) : Int), .int .i64 v] w fun e w' => e = .returned (.bool true) ∧ Below w.heap.size w w' := by
  obtain ⟨w0, hw0⟩ : ∃ w0, w0 = w.alloc (.cells #[.int .i64 k, .int .i64 r, .int .i64 c, .int .i64 q] 23) := ⟨_, rfl⟩
  have B0 : Hid (Below w.heap.size w w0) := by show Below _ _ _; rw [hw0]; exact below_alloc _ _
  have L0 : Hid (∀ v, Below w0.heap.size w0 v → At w v w.heap.size #[.int .i64 k, .int .i64 r, .int .i64 c, .int .i64 q] 23) := fun v hv => (at_made (Below.refl _ _) hw0).below hv
  have e1 : (E != 0) = true := by simp [hE]
  have e2 : (E == E) = true := by simp
  rw [show lenE E cn = 0 from if_neg hE] at HME
  rw [show lenE E dn = 0 from if_neg hE] at HRD
  go_enter Try.func5, Try.ntmps5
  go_wp2_with fail
  rw [← hw0]
  clear hw0
  refine (awake_any _).mono ?_
  rintro e wa ⟨rfl, ha⟩
  have BA : Hid (Below w0.heap.size w0 wa) := ha
  clear ha
  have pq := L0.out wa BA.out
  have s0 := pq.cell (i := 0) rfl
  have s1 := pq.cell (i := 1) rfl
  have s2 := pq.cell (i := 2) rfl
  have s3 := pq.cell (i := 3) rfl
  clear pq
  go_wp2_with fail
  refine (HME.out wa (below_then B0.out BA.out)).mono ?_
  rintro e wf ⟨lo, lc, rfl, hf⟩
  have BF : Hid (Below w0.heap.size w0 wf) := below_then BA.out hf
  clear hf s0 s1 s2 s3
  have pq := L0.out wf BF.out
  have s0 := pq.cell (i := 0) rfl
  have s1 := pq.cell (i := 1) rfl
  have s2 := pq.cell (i := 2) rfl
  have s3 := pq.cell (i := 3) rfl
  clear pq
  go_wp2_with fail
  refine (HRD.out wf (below_then B0.out BF.out)).mono ?_
  rintro e wg ⟨bo, bc, rfl, hg⟩
  have BG : Hid (Below w0.heap.size w0 wg) := below_then BF.out hg
  clear hg s0 s1 s2 s3
  go_wp2_with fail
  go_ret
  exact ⟨rfl, below_then B0.out BG.out⟩
set_option maxHeartbeats 8000000 in
set_option maxRecDepth 100000 in
theorem mends_good {k r c q : Int} {Z cn dn ct0 : Nat} (w : World) (ro : Option Addr) (rn rc : Nat) (kd : UInt8) (v : Int) (hrn : rn ≤ 16) (hrn0 : 0 < rn) (G : Nat → Nat → UInt8) (Lc os L C : Nat → Nat) (A : Nat → Option Addr) (F : Nat → Nat → UInt8) (hcn : Cod.cnt Lc rn = cn) (hos : ∀ i, os i < 2) (hr : Rw w ro rn A L C F) (BK : Nat → UInt8) (hsum : cn + ct0 = rn)
    (HME : Hid (∀ u, Below w.heap.size w u → Calls Try.prog 13 #[.agg #[.int .i64 k, .int .i64 r, .int .i64 c, .int .i64 q], .slice ro rn rc, .int .i64 0, .int .u8 ((kd.toNat : Nat) : Int), .int .i64 0, .int .i64 v] u fun e w' => ∃ lo lc T U, e = .returned (.tuple #[.slice lo cn lc, .int .i64 0]) ∧ PL u.heap.size w' lo cn lc rn Lc os 0 Z T U G ∧ Below u.heap.size u w'))
    (HRD : Hid (∀ u, Below w.heap.size w u → Calls Try.prog 11 #[.agg #[.int .i64 k, .int .i64 r, .int .i64 c, .int .i64 q], .slice ro rn rc, .int .u8 ((kd.toNat : Nat) : Int), .int .i64 v] u fun e w' => ∃ lo lc, e = .returned (.tuple #[.slice lo dn lc, .int .i64 0]) ∧ Bec w' lo dn lc BK ∧ Below u.heap.size u w'))
    (HPO : Hid (∀ u, Below w.heap.size w u → Calls Try.prog 10 #[.agg #[.int .i64 k, .int .i64 r, .int .i64 c, .int .i64 q], .slice ro rn rc, .int .u8 ((kd.toNat : Nat) : Int), .int .i64 v] u fun e w' => ∃ ao cap, e = .returned (.tuple #[.slice ao ct0 cap, .int .i64 0]) ∧ Below u.heap.size u w'))
    (HNW : Hid (∀ u g cp A' C', Rw u (some ⟨g, 0, none⟩) rn A' (bP Lc os rn L (fun _ => Z) cn) C' (bP Lc os rn F G cn) →
      (Calls Try.prog 10 #[.agg #[.int .i64 k, .int .i64 r, .int .i64 c, .int .i64 q], .slice (some ⟨g, 0, none⟩) rn cp, .int .u8 ((kd.toNat : Nat) : Int), .int .i64 v] u fun e w' => ∃ ao cap, e = .returned (.tuple #[.slice ao rn cap, .int .i64 0]) ∧ Below u.heap.size u w') ∧
      (Calls Try.prog 11 #[.agg #[.int .i64 k, .int .i64 r, .int .i64 c, .int .i64 q], .slice (some ⟨g, 0, none⟩) rn cp, .int .u8 ((kd.toNat : Nat) : Int), .int .i64 v] u fun e w' => ∃ ao cap, e = .returned (.tuple #[.slice ao dn cap, .int .i64 0]) ∧ Bec w' ao dn cap BK ∧ Below u.heap.size u w') ∧
      (Calls Try.prog 13 #[.agg #[.int .i64 k, .int .i64 r, .int .i64 c, .int .i64 q], .slice (some ⟨g, 0, none⟩) rn cp, .int .i64 0, .int .u8 ((kd.toNat : Nat) : Int), .int .i64 0, .int .i64 v] u fun e w' => ∃ ao cap, e = .returned (.tuple #[.slice ao 0 cap, .int .i64 0]) ∧ Below u.heap.size u w'))) :
    Calls Try.prog 5 #[.agg #[.int .i64 k, .int .i64 r, .int .i64 c, .int .i64 q], .slice ro rn rc, .int .u8 ((kd.toNat : Nat) : Int), .int .i64 v] w fun e w' => e = .returned (.bool true) ∧ Below w.heap.size w w' := by
  obtain ⟨w0, hw0⟩ : ∃ w0, w0 = w.alloc (.cells #[.int .i64 k, .int .i64 r, .int .i64 c, .int .i64 q] 23) := ⟨_, rfl⟩
  have B0 : Hid (Below w.heap.size w w0) := by show Below _ _ _; rw [hw0]; exact below_alloc _ _
  have L0 : Hid (∀ v, Below w0.heap.size w0 v → At w v w.heap.size #[.int .i64 k, .int .i64 r, .int .i64 c, .int .i64 q] 23) := fun v hv => (at_made (Below.refl _ _) hw0).below hv
  have HBE : Hid (∀ u lo lc T U B, Below w.heap.size w u → PL B u lo cn lc rn Lc os 0 Z T U G → Calls Try.prog 9 #[.slice ro rn rc, .slice lo cn lc, .int .i64 (cn : Int)] u fun e w' => ∃ g c' A' C', e = .returned (.slice (some ⟨g, 0, none⟩) rn c') ∧ Rw w' (some ⟨g, 0, none⟩) rn A' (bP Lc os rn L (fun _ => Z) cn) C' (bP Lc os rn F G cn) ∧ Below u.heap.size u w') := fun u lo lc T U B hu hp => by
    have hb := behind_any u ro rn rc A L C F (hr.below hu) hrn0 hrn B lo lc Lc os 0 Z T U G (by rw [hcn]; exact hp) hos cn (by rw [hcn]; exact Nat.le_refl _)
    rw [hcn] at hb
    refine hb.mono ?_
    rintro e w' ⟨g, c', rfl, hrn', hb'⟩
    exact ⟨g, c', _, _, rfl, hrn'.rw, hb'⟩
  have hs1 : (((cn : Int) + (ct0 : Int)) == (rn : Int)) = true := by simp; omega
  have hs2 : ((rn : Int) == (rn : Int)) = true := by simp
  have hb1 : cn ≤ 16 := by omega
  have hb2 : ct0 ≤ 16 := by omega
  clear hr hcn hsum
  go_enter Try.func5, Try.ntmps5
  go_wp2_with fail
  rw [← hw0]
  clear hw0
  refine (awake_any _).mono ?_
  rintro e wa ⟨rfl, ha⟩
  have BA : Hid (Below w0.heap.size w0 wa) := ha
  clear ha
  have pq := L0.out wa BA.out
  have s0 := pq.cell (i := 0) rfl
  have s1 := pq.cell (i := 1) rfl
  have s2 := pq.cell (i := 2) rfl
  have s3 := pq.cell (i := 3) rfl
  clear pq
  go_wp2_with fail
  refine (HME.out wa (below_then B0.out BA.out)).mono ?_
  rintro e wf ⟨lo, lc, T, U, rfl, hpl, hf⟩
  have BF : Hid (Below w0.heap.size w0 wf) := below_then BA.out hf
  have HPL : Hid (PL wa.heap.size wf lo cn lc rn Lc os 0 Z T U G) := hpl
  clear hf hpl s0 s1 s2 s3
  have pq := L0.out wf BF.out
  have s0 := pq.cell (i := 0) rfl
  have s1 := pq.cell (i := 1) rfl
  have s2 := pq.cell (i := 2) rfl
  have s3 := pq.cell (i := 3) rfl
  clear pq
  go_wp2_with fail
  refine (HRD.out wf (below_then B0.out BF.out)).mono ?_
  rintro e wg ⟨bo, bc, rfl, hbb, hg⟩
  have BG : Hid (Below w0.heap.size w0 wg) := below_then BF.out hg
  have BFG : Hid (Below wf.heap.size wf wg) := hg
  have HB : Hid (Bec wg bo dn bc BK) := hbb
  clear hg hbb s0 s1 s2 s3
  have pq := L0.out wg BG.out
  have s0 := pq.cell (i := 0) rfl
  have s1 := pq.cell (i := 1) rfl
  have s2 := pq.cell (i := 2) rfl
  have s3 := pq.cell (i := 3) rfl
  clear pq
  go_wp2_with fail
  refine (HPO.out wg (below_then B0.out BG.out)).mono ?_
  rintro e wh ⟨oo, oc, rfl, hh⟩
  have BH : Hid (Below w0.heap.size w0 wh) := below_then BG.out hh
  have HB2 : Hid (Bec wh bo dn bc BK) := HB.out.below hh
  have HPH : Hid (PL wa.heap.size wh lo cn lc rn Lc os 0 Z T U G) := HPL.out.below (below_then BFG.out hh)
  clear hh s0 s1 s2 s3
  go_wp2_with fail
  refine (HBE.out wh lo lc T U _ (below_then B0.out BH.out) HPH.out).mono ?_
  rintro e w1 ⟨g, cp, A', C', rfl, hrw, h1⟩
  have B1 : Hid (Below w0.heap.size w0 w1) := below_then BH.out h1
  have R1 : Hid _ := And.intro trivial hrw
  have HB3 : Hid (Bec w1 bo dn bc BK) := HB2.out.below h1
  clear hrw h1
  have pq := L0.out w1 B1.out
  have s0 := pq.cell (i := 0) rfl
  have s1 := pq.cell (i := 1) rfl
  have s2 := pq.cell (i := 2) rfl
  have s3 := pq.cell (i := 3) rfl
  clear pq
  go_wp2_with fail
  refine (HNW.out w1 g cp A' C' R1.out.2).1.mono ?_
  rintro e w2 ⟨a1, p1, rfl, h2⟩
  clear s0 s1 s2 s3
  have B2 : Hid (Below w0.heap.size w0 w2) := below_then B1.out h2
  have R2 : Hid _ := And.intro trivial (R1.out.2.below h2)
  have HB4 : Hid (Bec w2 bo dn bc BK) := HB3.out.below h2
  clear h2
  have pq := L0.out w2 B2.out
  have s0 := pq.cell (i := 0) rfl
  have s1 := pq.cell (i := 1) rfl
  have s2 := pq.cell (i := 2) rfl
  have s3 := pq.cell (i := 3) rfl
  clear pq
  go_wp2_with fail
  refine (HNW.out w2 g cp A' C' R2.out.2).2.1.mono ?_
  rintro e w3 ⟨a2, p2, rfl, hb3, h3⟩
  clear s0 s1 s2 s3
  have B3 : Hid (Below w0.heap.size w0 w3) := below_then B2.out h3
  have R3 : Hid _ := And.intro trivial (R2.out.2.below h3)
  have HB5 : Hid (Bec w3 bo dn bc BK) := HB4.out.below h3
  have HB6 : Hid (Bec w3 a2 dn p2 BK) := hb3
  clear h3 hb3
  have pq := L0.out w3 B3.out
  have s0 := pq.cell (i := 0) rfl
  have s1 := pq.cell (i := 1) rfl
  have s2 := pq.cell (i := 2) rfl
  have s3 := pq.cell (i := 3) rfl
  clear pq
  go_wp2_with fail
  refine (HNW.out w3 g cp A' C' R3.out.2).2.2.mono ?_
  rintro e w4 ⟨a3, p3, rfl, h4⟩
  clear s0 s1 s2 s3
  have v1 := conv_any (HB5.out.below h4)
  have v2 := conv_any (HB6.out.below h4)
  have v3 := str_eq (lsF dn BK) (lsF dn BK)
  rw [decide_eq_true rfl] at v3
  have B4 : Hid (Below w0.heap.size w0 w4) := below_then B3.out h4
  clear h4
  go_wp2_with fail
  go_ret
  exact ⟨rfl, below_then B0.out B4.out⟩
set_option maxHeartbeats 4000000 in
theorem mends_walk {k r c q : Int} {N W : Nat} {x : Int} (h : Par k r c q N W x) (w : World) (ro : Option Addr) (rn rc : Nat) (A : Nat → Option Addr) (L C : Nat → Nat) (F : Nat → Nat → UInt8) (hr : Rw w ro rn A L C F) (kd : UInt8) (v : Int) :
    Calls Try.prog 5 #[.agg #[.int .i64 k, .int .i64 r, .int .i64 c, .int .i64 q], .slice ro rn rc, .int .u8 ((kd.toNat : Nat) : Int), .int .i64 v] w fun e w' => e = .returned (.bool true) ∧ Below w.heap.size w w' := by
  have hw : erW (erK x N c rn L kd v) q 0 0 = erK x N c rn L kd v := by
    unfold erW
    by_cases e : erK x N c rn L kd v = 0
    · obtain ⟨hR, _⟩ := erK_zero e
      obtain ⟨rfl, _⟩ := erR_zero hR
      have := h.rows
      rw [if_pos e, if_pos ⟨⟨by omega, by omega⟩, by omega, by omega⟩, e]
    · rw [if_neg e]
  obtain ⟨E, hE⟩ : ∃ E, erV2 (erK x N c rn L kd v) (erL k.toNat (zv N c L F kd v) N) = E := ⟨_, rfl⟩
  have HM := fun u hu => Mend_any h u ro rn rc A L C F (hr.below hu) 0 kd 0 v E (by rw [hw]; exact hE)
  have HR := fun u hu => Read_any h u ro rn rc A L C F (hr.below hu) kd v E hE
  by_cases he : E = 0
  · subst he
    have hK : erK x N c rn L kd v = 0 := by
      unfold erV2 at hE
      by_cases g : erK x N c rn L kd v = 0
      · exact g
      · rw [if_neg g] at hE; exact absurd hE g
    have hEL : erL k.toNat (zv N c L F kd v) N = 0 := by unfold erV2 at hE; rw [if_pos hK] at hE; exact hE
    obtain ⟨hR, hk, hv⟩ := erK_zero hK
    obtain ⟨rfl, hrN, hL⟩ := erR_zero hR
    subst hrN
    obtain ⟨K, m, rfl, rfl, k1, k2, k3, hN, m1, m2, hdn⟩ := h.nums
    have hm8 : (8 : Int) ≤ (m : Int) := by omega
    obtain ⟨z, hz⟩ : ∃ z, z = zv rn (m : Int) L F kd v := ⟨_, rfl⟩
    obtain ⟨t, ht⟩ : ∃ t, t = tS (yy rn (m : Int) L F) kd v (2 * rn) := ⟨_, rfl⟩
    have hZk : Zok rn (m : Int) z := by rw [hz]; exact zok_of
    rw [← hz, Int.toNat_natCast] at hEL
    have h0 : t.ce ≠ 0 := fun e => by
      have hc : 0 < Cod.cnt (Lz z) rn := by
        unfold erL at hEL
        by_cases g : K ≤ Cod.cnt (Lz z) rn
        · omega
        · rw [if_neg g] at hEL; exact absurd hEL (by decide)
      obtain ⟨i, hi, hne⟩ := cnt_ex hc
      apply hne
      unfold Lz
      rw [hz]
      unfold zv zz
      rw [← ht, if_pos e]
      rfl
    simp only [← hz, ← ht, Int.toNat_natCast] at HM HR
    have hn := mend_n (K := K) (os := osl rn (m : Int) L F kd 0) hN hm8 hk osl_lt hz ht h0
    simp only [Int.toNat_natCast] at hn
    obtain ⟨r1, r2, r3, r4⟩ := mend_rd k2 k3 hN (show m = ((m : Nat) : Int).toNat from rfl) (by omega) hZk hEL hn
    have hL' := row_n (n := rn) (os := osl rn (m : Int) L F kd 0) (mis z m) hL (Cod.cnt (mis z m) rn)
    refine mends_good (Z := sz rn (m : Int)) (cn := Cod.cnt (mis z m) rn) (dn := K * m) (ct0 := ct z rn) w ro rn rc kd v hN (by omega) (fun i => enc (slC kd rn t.V m (cH K z rn i) i)) (mis z m) (osl rn (m : Int) L F kd 0) L C A F rfl osl_lt hr (cat2 m (cH K z rn)) (cnt_mis (by omega) rn) ?_ ?_ ?_ ?_
    · intro u hu
      refine (HM u hu).mono ?_
      rintro e w' ⟨lo, lc, T, U, rfl, hp, hb⟩
      exact ⟨lo, lc, T, U, rfl, hp rfl, hb⟩
    · intro u hu
      refine (HR u hu).mono ?_
      rintro e w' ⟨ao, cap, rfl, hown, hb⟩
      exact ⟨ao, cap, rfl, hown.bec, hb⟩
    · intro u hu
      refine (Present_any h u ro rn rc A L C F (hr.below hu) kd v 0 hK).mono ?_
      rintro e w' ⟨ao, cap, rfl, _, hb⟩
      rw [← hz]
      exact ⟨ao, cap, rfl, hb⟩
    · intro u g cp A' C' hrw
      have hK' := erK_ok hL' hk hv
      refine ⟨?_, ?_, ?_⟩
      · refine (Present_any h u _ rn cp A' _ C' _ hrw kd v 0 hK').mono ?_
        rintro e w' ⟨ao, cap, rfl, _, hb⟩
        rw [r1]
        exact ⟨ao, cap, rfl, hb⟩
      · refine (Read_any h u _ rn cp A' _ C' _ hrw kd v 0 (by unfold erV2; rw [hK', if_pos rfl]; exact r3)).mono ?_
        rintro e w' ⟨ao, cap, rfl, hown, hb⟩
        rw [Int.toNat_natCast, Int.toNat_natCast] at hown ⊢
        exact ⟨ao, cap, rfl, hown.bec.congr fun b hb => r4 b hb, hb⟩
      · refine (Mend_any h u _ rn cp A' _ C' _ hrw 0 kd 0 v 0 (by
          have hw' : ∀ E0 : Int, E0 = 0 → erW E0 q 0 0 = 0 := fun E0 e0 => by
            have := h.rows
            unfold erW; rw [if_pos e0, if_pos ⟨⟨by omega, by omega⟩, by omega, by omega⟩]
          unfold erV2; rw [hw' _ hK', if_pos rfl]; exact r3)).mono ?_
        rintro e w' ⟨lo, lc, T, U, rfl, _, hb⟩
        have hc0 : ∀ n, n ≤ rn → Cod.cnt (mis (zv rn (m : Int) (bP (mis z m) (osl rn (m : Int) L F kd 0) rn L (fun _ => sz rn (m : Int)) (Cod.cnt (mis z m) rn)) (bP (mis z m) (osl rn (m : Int) L F kd 0) rn F (fun i => enc (slC kd rn t.V m (cH K z rn i) i)) (Cod.cnt (mis z m) rn)) kd v) ((m : Nat) : Int).toNat) n = 0 := fun n => by
          induction n with
          | zero => exact fun _ => rfl
          | succ n ih =>
            intro hn'
            rw [Cod.cnt_skip (show mis _ _ n = 0 from if_neg (r2 n (by omega)))]; exact ih (by omega)
        rw [hc0 rn (Nat.le_refl _)]
        exact ⟨lo, lc, rfl, hb⟩
  · refine mends_bad (cn := Cod.cnt (mis (zv N c L F kd v) c.toNat) N) (dn := k.toNat * c.toNat) w ro rn rc kd v E he ?_ ?_
    · intro u hu
      refine (HM u hu).mono ?_
      rintro e w' ⟨lo, lc, T, U, rfl, _, hb⟩
      exact ⟨lo, lc, rfl, hb⟩
    · intro u hu
      refine (HR u hu).mono ?_
      rintro e w' ⟨lo, lc, rfl, _, hb⟩
      exact ⟨lo, lc, rfl, hb⟩
end Go.Proofs.Ytapflgfifppckaa
