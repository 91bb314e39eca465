/- Whether two slots are the same, by the document's Same. -/
import Derived.Test.YtmdeadakbohpeaaSlB
namespace Go.Proofs.Ytmdeadakbohpeaa
open Go.RowKit

set_option maxHeartbeats 8000000 in
set_option maxRecDepth 100000 in
theorem RSame_any (w : World) (s t : Sl) (ao : Option Addr) (ca : Nat) (bo : Option Addr) (cb : Nat) (ao' : Option Addr) (ca' : Nat) (bo' : Option Addr) (cb' : Nat) (hs : Has w s ao ca bo cb) (ht : Has w t ao' ca' bo' cb') (hv : s.vn ≤ 9223372036854775807) (y : Bool) (hy : sameS s t = y) :
    Calls Try.prog 10 #[slv s ao ca bo cb, slv t ao' ca' bo' cb'] w fun e w' => e = .returned (.bool y) ∧ Below w.heap.size w w' := by
  obtain ⟨kd, ix, ce, st, vn, V, dn, D⟩ := s
  obtain ⟨kd', ix', ce', st', vn', V', dn', D'⟩ := t
  simp only [slv] at *
  have HV : Hid (Vec w ao vn ca V) := hs.vec
  have HV' : Hid (Vec w ao' vn' ca' V') := ht.vec
  have HD : Hid (Bec w bo dn cb D) := hs.bec
  have HD' : Hid (Bec w bo' dn' cb' D') := ht.bec
  have HY : Hid (y = decide (kd = kd' ∧ ix = ix' ∧ ce = ce' ∧ st = st' ∧ vn = vn' ∧ dn = dn' ∧ (∀ i, i < vn → V i = V' i) ∧ ∀ j, j < dn → D j = D' j)) := hy.symm
  obtain ⟨kn, hkn⟩ : ∃ kn : Int, kn = ((kd.toNat : Nat) : Int) := ⟨_, rfl⟩
  obtain ⟨kn', hkn'⟩ : ∃ kn' : Int, kn' = ((kd'.toNat : Nat) : Int) := ⟨_, rfl⟩
  have HK : Hid (kd = kd' ↔ kn = kn') := by
    constructor
    · rintro rfl; rw [hkn, hkn']
    · intro h; exact UInt8.toNat_inj.1 (by omega)
  rw [← hkn, ← hkn']
  clear hkn hkn' hs ht hy
  obtain ⟨w0, hw0⟩ : ∃ w0, w0 = w.alloc (.cells #[.int .u8 kn, .int .i64 ix, .int .i64 ce, .int .i64 st, .slice ao vn ca, .slice bo dn cb] 31) := ⟨_, rfl⟩
  obtain ⟨w1, hw1⟩ : ∃ w1, w1 = w0.alloc (.cells #[.int .u8 kn', .int .i64 ix', .int .i64 ce', .int .i64 st', .slice ao' vn' ca', .slice bo' dn' cb'] 31) := ⟨_, rfl⟩
  have b0 : Below w.heap.size w w0 := by rw [hw0]; exact below_alloc _ _
  have b1 : Below w0.heap.size w0 w1 := by rw [hw1]; exact below_alloc _ _
  have z0 : w0.heap.size = w.heap.size + 1 := by rw [hw0]; simp
  have HB1 : Hid (Below w.heap.size w w1) := below_then b0 b1
  have HA4 : Hid (w1.cell? ⟨w.heap.size, 4, none⟩ = some (.slice ao vn ca)) := blk_held hw0 b1 4 rfl
  have HA5 : Hid (w1.cell? ⟨w.heap.size, 5, none⟩ = some (.slice bo dn cb)) := blk_held hw0 b1 5 rfl
  have HC4 : Hid (w1.cell? ⟨w.heap.size + 1, 4, none⟩ = some (.slice ao' vn' ca')) := by show _ = _; rw [← z0]; exact blk_held hw1 (Below.refl _ _) 4 rfl
  have HC5 : Hid (w1.cell? ⟨w.heap.size + 1, 5, none⟩ = some (.slice bo' dn' cb')) := by show _ = _; rw [← z0]; exact blk_held hw1 (Below.refl _ _) 5 rfl
  have HV1 : Hid (RdI w1 ao vn V) := HV.out.rd.below HB1.out
  have HV1' : Hid (RdI w1 ao' vn' V') := HV'.out.rd.below HB1.out
  have HD1 : Hid (RdU w1 bo dn D) := HD.out.rd.below HB1.out
  have HD1' : Hid (RdU w1 bo' dn' D') := HD'.out.rd.below HB1.out
  have v1 : ∀ o o', (convert 24 9 (.slice bo dn cb)).run Try.prog ((w.alloc o).alloc o') = .ok (.string (sOf (lsF dn D))) ((w.alloc o).alloc o') := fun o o' => conv_any (HD.out.below (below_then (below_alloc _ _) (below_alloc _ _)))
  have v2 : ∀ o o', (convert 24 9 (.slice bo' dn' cb')).run Try.prog ((w.alloc o).alloc o') = .ok (.string (sOf (lsF dn' D'))) ((w.alloc o).alloc o') := fun o o' => conv_any (HD'.out.below (below_then (below_alloc _ _) (below_alloc _ _)))
  clear b0 b1 z0
  by_cases h0 : kn = kn'
  · skip
    by_cases h1 : ix = ix'
    · skip
      by_cases h2 : ce = ce'
      · skip
        by_cases h3 : st = st'
        · skip
          by_cases h4 : vn = vn'
          · skip
            have g0 : (kn != kn') = false := by simp [h0]
            have g1 : (ix != ix') = false := by simp [h1]
            have g2 : (ce != ce') = false := by simp [h2]
            have g3 : (st != st') = false := by simp [h3]
            have HH : Hid (kn = kn' ∧ ix = ix' ∧ ce = ce' ∧ st = st') := ⟨h0, h1, h2, h3⟩
            subst h4
            clear h0 h1 h2 h3
            have HSE := str_eq (lsF dn D) (lsF dn' D')
            by_cases hD : lsF dn D = lsF dn' D'
            · rw [decide_eq_true hD] at HSE
              have HDQ : Hid (dn = dn' ∧ ∀ j, j < dn → D j = D' j) := lsF_eq.1 hD
              clear hD
              by_cases hall : ∀ i, i < vn → V i = V' i
              · have HA : Hid (∀ i, i < vn → V i = V' i) := hall
                clear hall
                have HF : Hid (y = true) := by show _ = _; rw [HY.out]; exact decide_eq_true ⟨HK.out.2 HH.out.1, HH.out.2.1, HH.out.2.2.1, HH.out.2.2.2, rfl, HDQ.out.1, HA.out, HDQ.out.2⟩
                go_enter Try.func10, Try.ntmps10
                go_wp2_with fail
                rw [← hw0, ← hw1]
                clear hw0 hw1
                go_loopw [5] (fun x wr => ∃ i : Nat, i ≤ vn ∧ x = .int .i64 (i : Int) ∧ Hid (Below w1.heap.size w1 wr)) (fun x _ => vn - (intOf x).toNat)
                case atStart => exact ⟨0, Nat.zero_le _, rfl, Below.refl _ _⟩
                case round =>
                  obtain ⟨i, hi, rfl, hW⟩ := hrel
                  have x4 := held HA4.out hW.out
                  have x5 := held HC4.out hW.out
                  by_cases hlt : i < vn
                  · obtain ⟨b, off, rfl, hc⟩ := (HV1.out.below hW.out) (by omega)
                    obtain ⟨b', off', rfl, hc'⟩ := (HV1'.out.below hW.out) (by omega)
                    have ck := hc i (by omega)
                    have ck' := hc' i (by omega)
                    rw [← HA.out i hlt] at ck'
                    have i1 : (0 : Int) ≤ (i : Int) := by omega
                    have i2 : (i : Int) < (vn : Int) := by omega
                    have i3 : i < vn := by omega
                    clear hc hc'
                    go_wp2_with fail
                    go_quiet (fail)
                    go_wp2
                    go_roundw
                    case rel => exact ⟨i + 1, by omega, by go_num, hW.out.trans (below_drewN _ _ _)⟩
                    case measure => simp [intOf]; omega
                  · obtain rfl : i = vn := by omega
                    go_wp2
                    go_ret
                    exact ⟨ret_bool HF.out.symm, below_then HB1.out hW.out⟩
              · obtain ⟨p, hp, hne, heq⟩ := first_not hall
                have HA : Hid (∀ j, j < p → V j = V' j) := heq
                have HN : Hid (¬ V p = V' p) := hne
                have HF : Hid (y = false) := by show _ = _; rw [HY.out]; exact decide_eq_false fun ⟨_, _, _, _, _, _, p7, _⟩ => hne (p7 p hp)
                clear hall hne heq
                go_enter Try.func10, Try.ntmps10
                go_wp2_with fail
                rw [← hw0, ← hw1]
                clear hw0 hw1
                go_loopw [5] (fun x wr => ∃ i : Nat, i ≤ p ∧ x = .int .i64 (i : Int) ∧ Hid (Below w1.heap.size w1 wr)) (fun x _ => vn - (intOf x).toNat)
                case atStart => exact ⟨0, Nat.zero_le _, rfl, Below.refl _ _⟩
                case round =>
                  obtain ⟨i, hi, rfl, hW⟩ := hrel
                  have x4 := held HA4.out hW.out
                  have x5 := held HC4.out hW.out
                  by_cases hlt : i < p
                  · obtain ⟨b, off, rfl, hc⟩ := (HV1.out.below hW.out) (by omega)
                    obtain ⟨b', off', rfl, hc'⟩ := (HV1'.out.below hW.out) (by omega)
                    have ck := hc i (by omega)
                    have ck' := hc' i (by omega)
                    rw [← HA.out i hlt] at ck'
                    have i1 : (0 : Int) ≤ (i : Int) := by omega
                    have i2 : (i : Int) < (vn : Int) := by omega
                    have i3 : i < vn := by omega
                    clear hc hc'
                    go_wp2_with fail
                    go_quiet (fail)
                    go_wp2
                    go_roundw
                    case rel => exact ⟨i + 1, by omega, by go_num, hW.out.trans (below_drewN _ _ _)⟩
                    case measure => simp [intOf]; omega
                  · obtain rfl : i = p := by omega
                    obtain ⟨b, off, rfl, hc⟩ := (HV1.out.below hW.out) (by omega)
                    obtain ⟨b', off', rfl, hc'⟩ := (HV1'.out.below hW.out) (by omega)
                    have ck := hc i (by omega)
                    have ck' := hc' i (by omega)
                    obtain ⟨v1, hv1⟩ : ∃ v1 : Int, V i = v1 := ⟨_, rfl⟩
                    obtain ⟨v2, hv2⟩ : ∃ v2 : Int, V' i = v2 := ⟨_, rfl⟩
                    have hn := HN.out
                    rw [hv1, hv2] at hn
                    rw [hv1] at ck
                    rw [hv2] at ck'
                    have hn2 : (v1 != v2) = true := by simpa using hn
                    have i1 : (0 : Int) ≤ (i : Int) := by omega
                    have i2 : (i : Int) < (vn : Int) := by omega
                    clear hc hc' hv1 hv2
                    go_wp2_with fail
                    go_quiet (fail)
                    go_wp2
                    go_ret
                    exact ⟨ret_bool HF.out.symm, below_then HB1.out (hW.out.trans (below_drewN _ _ _))⟩
            · rw [decide_eq_false hD] at HSE
              have HF : Hid (y = false) := by show _ = _; rw [HY.out]; exact decide_eq_false fun ⟨_, _, _, _, _, p6, _, p8⟩ => hD (lsF_eq.2 ⟨p6, p8⟩)
              clear hD
              go_enter Try.func10, Try.ntmps10
              go_wp2_with fail
              go_ret
              exact ⟨ret_bool HF.out.symm, below_then (below_alloc _ _) (below_alloc _ _)⟩
          · skip
            have HF : Hid (y = false) := by show _ = _; rw [HY.out]; exact decide_eq_false fun ⟨p1, p2, p3, p4, p5, p6, p7, p8⟩ => h4 (p5)
            have hb4 : ((vn : Nat) : Int) ≠ ((vn' : Nat) : Int) := by omega
            have hc4 : (((vn : Nat) : Int) != ((vn' : Nat) : Int)) = true := by simp only [bne_iff_ne]; exact hb4
            go_enter Try.func10, Try.ntmps10
            go_wp2_with fail
            go_ret
            exact ⟨ret_bool HF.out.symm, below_then (below_alloc _ _) (below_alloc _ _)⟩
        · skip
          have HF : Hid (y = false) := by show _ = _; rw [HY.out]; exact decide_eq_false fun ⟨p1, p2, p3, p4, p5, p6, p7, p8⟩ => h3 (p4)
          have hb3 : (st != st') = true := by simpa using h3
          go_enter Try.func10, Try.ntmps10
          go_wp2_with fail
          go_ret
          exact ⟨ret_bool HF.out.symm, below_then (below_alloc _ _) (below_alloc _ _)⟩
      · skip
        have HF : Hid (y = false) := by show _ = _; rw [HY.out]; exact decide_eq_false fun ⟨p1, p2, p3, p4, p5, p6, p7, p8⟩ => h2 (p3)
        have hb2 : (ce != ce') = true := by simpa using h2
        go_enter Try.func10, Try.ntmps10
        go_wp2_with fail
        go_ret
        exact ⟨ret_bool HF.out.symm, below_then (below_alloc _ _) (below_alloc _ _)⟩
    · skip
      have HF : Hid (y = false) := by show _ = _; rw [HY.out]; exact decide_eq_false fun ⟨p1, p2, p3, p4, p5, p6, p7, p8⟩ => h1 (p2)
      have hb1 : (ix != ix') = true := by simpa using h1
      go_enter Try.func10, Try.ntmps10
      go_wp2_with fail
      go_ret
      exact ⟨ret_bool HF.out.symm, below_then (below_alloc _ _) (below_alloc _ _)⟩
  · skip
    have HF : Hid (y = false) := by show _ = _; rw [HY.out]; exact decide_eq_false fun ⟨p1, p2, p3, p4, p5, p6, p7, p8⟩ => h0 (HK.out.1 p1)
    have hb0 : (kn != kn') = true := by simpa using h0
    go_enter Try.func10, Try.ntmps10
    go_wp2_with fail
    go_ret
    exact ⟨ret_bool HF.out.symm, below_then (below_alloc _ _) (below_alloc _ _)⟩
end Go.Proofs.Ytmdeadakbohpeaa
