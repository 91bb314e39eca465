/- NameTexts' and NameBack's walks. -/
import Derived.Test.YtdiecjkmbmgbkaaDoorNmN
namespace Go.Proofs.YtdiecjkmbmgbkaaDoor
open Go.RowKit

set_option maxHeartbeats 4000000 in
set_option maxRecDepth 100000 in
theorem texts_law (w : World) (hsy : Syn w) (s t : Nm) : Calls Tryd.prog 4 #[.string ⟨s.toArray⟩, .string ⟨t.toArray⟩] w fun e w' => e = .returned (.bool true) ∧ Below w.heap.size w w' := by
  have hss := str_size s
  have hst := str_size t
  have HA := alive_any w hsy
  by_cases hbig : s.length ≤ 5000 ∧ t.length ≤ 5000
  · obtain ⟨ls, lt⟩ := hbig
    have ls' : (s.length : Int) ≤ 5000 := by omega
    have lt' : (t.length : Int) ≤ 5000 := by omega
    go_enter Tryd.func4, Tryd.ntmps4
    go_wp2_with (fail)
    refine HA.mono ?_
    rintro _ w1 ⟨rfl, b1⟩
    clear HA
    go_wp2_with (fail)
    refine (Bucket_any s w1).mono ?_
    rintro _ w2 ⟨rfl, rfl⟩
    go_wp2_with (fail)
    refine (Quote_any s w2).mono ?_
    rintro _ w3 ⟨rfl, b3⟩
    have B3 := below_then b1 b3
    go_wp2_with (fail)
    refine (Plain_any t (by omega) w3 (hsy.below B3)).mono ?_
    rintro _ w4 ⟨rfl, b4⟩
    have B4 := below_then B3 b4
    go_wp2_with (fail)
    refine (RBucket_any s w4).mono ?_
    rintro _ w5 ⟨rfl, rfl⟩
    go_wp2_with (fail)
    refine (RQuote_any s w5).mono ?_
    rintro _ w6 ⟨rfl, b6⟩
    have B6 := below_then B4 b6
    go_wp2_with (fail)
    refine (RPlain_any t (by omega) w6).mono ?_
    rintro _ w7 ⟨rfl, b7⟩
    have HB : Hid (Below w.heap.size w w7) := below_then B6 b7
    clear b1 b3 b4 b6 b7 B3 B4 B6
    go_wp2_with (fail)
    refine (Check_any s w7).mono ?_
    rintro _ w8 ⟨rfl, rfl⟩
    go_wp2_with (fail)
    refine (RCheck_any s w8).mono ?_
    rintro _ w9 ⟨rfl, rfl⟩
    go_wp2_with (fail)
    refine (Less_any s t w9).mono ?_
    rintro _ w10 ⟨rfl, rfl⟩
    go_wp2_with (fail)
    refine (RLess_any s t w10 (by omega)).mono ?_
    rintro _ w11 ⟨rfl, q, rfl⟩
    go_wp2_with (fail)
    all_goals (
      go_ret
      exact ⟨rfl, HB.out.trans (below_drewN _ _ _)⟩)
  · have hbig' : 5000 < (s.length : Int) ∨ 5000 < (t.length : Int) := by omega
    go_enter Tryd.func4, Tryd.ntmps4
    go_wp2_with (fail)
    refine HA.mono ?_
    rintro _ w1 ⟨rfl, hb1⟩
    go_wp2_with (fail)
    all_goals (
      go_ret
      exact ⟨rfl, hb1⟩)
theorem pl_quo {s : Nm} (h : may s = true) : plS (quo s) = s ∧ plP (quo s) = 0 ∧ plE (quo s) = 0 := pl_yes (unq_quo s) h
/-- What Plain reads, quoted, is the text. -/
theorem quo_pl {t : Nm} (h : plE t = 0) : may (plS t) = true ∧ quo (plS t) = t ∧ plP t = 0 := by
  unfold plE at h
  split at h
  · rename_i hh
    obtain ⟨h1, h2⟩ := hh
    obtain ⟨b, n, p, hu⟩ : ∃ b n p, unq t = (b, n, p) := ⟨_, _, _, rfl⟩
    rw [hu] at h1 h2
    simp only at h1 h2
    subst h1
    obtain ⟨g1, g2, _⟩ := pl_yes hu h2
    rw [g1]
    exact ⟨h2, (quo_unq t n p hu).1.symm, g2⟩
  · exact absurd h (by decide)
theorem pl_err {t : Nm} (h : plE t ≠ 0) : plS t = [] ∧ plE t = 6 ∧ plP t ≤ t.length := by
  have hp := unq_place t
  unfold plE at h ⊢
  unfold plS plP
  by_cases hh : (unq t).1 = true ∧ may (unq t).2.1 = true
  · rw [if_pos hh] at h; exact absurd rfl h
  · rw [if_neg hh, if_neg hh]
    refine ⟨rfl, rfl, ?_⟩
    split
    · exact Nat.zero_le _
    · exact hp
set_option maxHeartbeats 4000000 in
set_option maxRecDepth 100000 in
theorem back_law (w : World) (hsy : Syn w) (s t : Nm) : Calls Tryd.prog 6 #[.string ⟨s.toArray⟩, .string ⟨t.toArray⟩] w fun e w' => e = .returned (.bool true) ∧ Below w.heap.size w w' := by
  have hss := str_size s
  have hst := str_size t
  have HA := alive_any w hsy
  by_cases hbig : s.length ≤ 5000 ∧ t.length ≤ 5000
  · obtain ⟨ls, lt⟩ := hbig
    have ls' : (s.length : Int) ≤ 5000 := by omega
    have lt' : (t.length : Int) ≤ 5000 := by omega
    have HQ := Quote_any s
    go_enter Tryd.func6, Tryd.ntmps6
    go_wp2_with (fail)
    refine HA.mono ?_
    rintro _ w1 ⟨rfl, b1⟩
    clear HA
    cases hm : may s
    · rw [erN_bad hm, show quoA s = [] from if_neg (by rw [hm]; decide)] at HQ
      have HC := Check_any s
      rw [erN_bad hm] at HC
      go_wp2_with (fail)
      refine (HQ _).mono ?_
      rintro _ w2 ⟨rfl, b2⟩
      have B2 := below_then b1 b2
      go_wp2_with (fail)
      refine (HC _).mono ?_
      rintro _ w3 ⟨rfl, rfl⟩
      go_wp2_with (fail)
      refine (Plain_any t (by omega) w3 (hsy.below B2)).mono ?_
      rintro _ v4 ⟨rfl, b4⟩
      have HB : Hid (Below w.heap.size w v4) := below_then B2 b4
      clear b4
      by_cases he : plE t = 0
      · obtain ⟨g1, g2, g3⟩ := quo_pl he
        have HQ2 := Quote_any (plS t)
        rw [erN_good g1, show quoA (plS t) = quo (plS t) from if_pos g1, g2] at HQ2
        rw [he, g3]
        clear he g3 g1 g2 HQ
        go_wp2_with (fail)
        refine (HQ2 _).mono ?_
        rintro _ v5 ⟨rfl, b5⟩
        have HB5 : Hid (Below w.heap.size w v5) := below_then HB.out b5
        clear b5 HQ2
        go_wp2_with (fail)
        go_ret
        exact ⟨rfl, HB5.out⟩
      · obtain ⟨g1, g2, g3⟩ := pl_err he
        rw [g1, g2]
        obtain ⟨pl, hpl⟩ : ∃ pl, pl = plP t := ⟨_, rfl⟩
        rw [← hpl] at g3 ⊢
        have p0 : (0 : Int) ≤ (pl : Int) := by omega
        have p1 : (pl : Int) ≤ (t.length : Int) := by omega
        clear he hpl g1 g2 HQ
        go_wp2_with (fail)
        go_ret
        exact ⟨rfl, HB.out⟩
    · rw [erN_good hm, show quoA s = quo s from if_pos hm] at HQ
      have hql : (quo s).length ≤ 100000 := by have := quo_length s; omega
      obtain ⟨e1, e2, e3⟩ := pl_quo hm
      have HPQ : ∀ u, Syn u → Calls Tryd.prog 11 #[.string ⟨(quo s).toArray⟩] u fun r w' => AnsL u (quo s) r w' := fun u hu => Plain_any (quo s) hql u hu
      unfold AnsL at HPQ
      rw [e1, e2, e3] at HPQ
      have HRG : Hid (∀ c, c ∈ quo s → 33 ≤ c ∧ c ≤ 126) := quo_range s
      obtain ⟨Q, hQ⟩ : ∃ Q, Q = quo s := ⟨_, rfl⟩
      rw [← hQ] at HQ HPQ HRG hql
      have hsQ := str_size Q
      clear hQ e1 e2 e3
      go_wp2_with (fail)
      refine (HQ _).mono ?_
      rintro _ w2 ⟨rfl, b2⟩
      have B2 := below_then b1 b2
      go_wp2_with (fail)
      refine (HPQ _ (hsy.below B2)).mono ?_
      rintro _ w3 ⟨rfl, b3⟩
      have B3 := below_then B2 b3
      have HB3 : Hid (Below w.heap.size w w3) := B3
      clear b1 b2 b3 B2 B3 HPQ
      go_wp2_with (fail)
      go_loopw [11] (fun x wr => ∃ i : Nat, i ≤ Q.length ∧ x = .int .i64 (i : Int) ∧ wr = w3) (fun x _ => Q.length - (intOf x).toNat)
      case atStart => exact ⟨0, Nat.zero_le _, rfl, rfl⟩
      case round =>
        obtain ⟨i, hi, rfl, rfl⟩ := hrel
        have i0 : (0 : Int) ≤ (i : Int) := by omega
        by_cases hlt : i < Q.length
        · have i1 : (i : Int) < ((ByteArray.mk Q.toArray).size : Int) := by omega
          have k0 : i < (ByteArray.mk Q.toArray).size := by omega
          obtain ⟨c1, c2⟩ := HRG.out (Q[i]'hlt) (List.getElem_mem hlt)
          have q1 : (33 : Int) ≤ (((ByteArray.mk Q.toArray)[i]'k0).toNat : Int) := u8_le c1
          have q2 : (((ByteArray.mk Q.toArray)[i]'k0).toNat : Int) ≤ 126 := u8_le c2
          clear c1 c2
          go_wp2_with (fail)
          go_roundw
          case rel => exact ⟨i + 1, by omega, by go_num, trivial⟩
          case measure => simp [intOf]; omega
        · obtain rfl : i = Q.length := by omega
          have BX := HB3.out
          go_wp2_with (fail)
          refine (Plain_any t (by omega) wr (hsy.below BX)).mono ?_
          rintro _ v4 ⟨rfl, b4⟩
          have HB : Hid (Below w.heap.size w v4) := below_then BX b4
          clear b4
          by_cases he : plE t = 0
          · obtain ⟨g1, g2, g3⟩ := quo_pl he
            have HQ2 := Quote_any (plS t)
            rw [erN_good g1, show quoA (plS t) = quo (plS t) from if_pos g1, g2] at HQ2
            rw [he, g3]
            clear he g3 g1 g2 HQ
            go_wp2_with (fail)
            refine (HQ2 _).mono ?_
            rintro _ v5 ⟨rfl, b5⟩
            have HB5 : Hid (Below w.heap.size w v5) := below_then HB.out b5
            clear b5 HQ2
            go_wp2_with (fail)
            go_ret
            exact ⟨rfl, HB5.out⟩
          · obtain ⟨g1, g2, g3⟩ := pl_err he
            rw [g1, g2]
            obtain ⟨pl, hpl⟩ : ∃ pl, pl = plP t := ⟨_, rfl⟩
            rw [← hpl] at g3 ⊢
            have p0 : (0 : Int) ≤ (pl : Int) := by omega
            have p1 : (pl : Int) ≤ (t.length : Int) := by omega
            clear he hpl g1 g2 HQ
            go_wp2_with (fail)
            go_ret
            exact ⟨rfl, HB.out⟩
  · have hbig' : 5000 < (s.length : Int) ∨ 5000 < (t.length : Int) := by omega
    go_enter Tryd.func6, Tryd.ntmps6
    go_wp2_with (fail)
    refine HA.mono ?_
    rintro _ w1 ⟨rfl, hb1⟩
    go_wp2_with (fail)
    all_goals (
      go_ret
      exact ⟨rfl, hb1⟩)
end Go.Proofs.YtdiecjkmbmgbkaaDoor
