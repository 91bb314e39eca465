/- The walk of the statement that products go by rows and columns, do not hang on brackets, and turn round when turned. -/
import Derived.Test.YtpfpldmmdbgnnaaMatL
namespace Go.Proofs.Ytpfpldmmdbgnnaa
open Go.RowKit

theorem okMul_comm {n m q lc : Nat} {Lc : Nat → Nat} (h1 : 1 ≤ n) (h2 : n ≤ 32) (h3 : 1 ≤ m) (h4 : m ≤ 32) : okMul n (fun _ => q) lc Lc = okMul m (fun _ => q) lc Lc := by
  by_cases h : 1 ≤ q ∧ q ≤ 32
  · unfold okMul; rw [okM_sq h1 h2 h.1 h.2, okM_sq h3 h4 h.1 h.2]
  · have a : okM n (fun _ => q) = false := decide_eq_false fun g => h ⟨g.2.2.1, g.2.2.2.1⟩
    have b : okM m (fun _ => q) = false := decide_eq_false fun g => h ⟨g.2.2.1, g.2.2.2.1⟩
    unfold okMul; rw [a, b]
theorem rankV_ok {n m : Nat} {H : M} (h1 : 1 ≤ n) (h2 : n ≤ 32) (h3 : 1 ≤ m) (h4 : m ≤ 32) : rankV n (fun _ => m) H = rankOf n m H := by unfold rankV; rw [okM_sq h1 h2 h3 h4]; rfl

set_option maxHeartbeats 8000000 in
set_option maxRecDepth 100000 in
theorem products_walk (w : World) (ao bo co : Option Addr) (la ca lb cb lc cc : Nat) (A B E : Nat → Option Addr) (C La D Lb F Lc : Nat → Nat) (H H' H'' : M) (ha : Lst w ao la A C La H) (hb : Lst w bo lb B D Lb H') (hc : Lst w co lc E F Lc H'') :
    Calls Try.prog 7 #[.slice ao la ca, .slice bo lb cb, .slice co lc cc] w fun e w' => e = .returned (.bool true) ∧ Below w.heap.size w w' := by
  have HA : Hid (Lst w ao la A C La H) := ha
  have HB : Hid (Lst w bo lb B D Lb H') := hb
  have HC : Hid (Lst w co lc E F Lc H'') := hc
  clear ha hb hc
  go_enter Try.func7, Try.ntmps7
  go_wp2_with fail
  refine (alive_any w).mono ?_
  rintro e w1 ⟨rfl, b1⟩
  replace HA : Hid (Lst w1 ao la A C La H) := HA.out.below b1
  replace HB : Hid (Lst w1 bo lb B D Lb H') := HB.out.below b1
  replace HC : Hid (Lst w1 co lc E F Lc H'') := HC.out.below b1
  have MA := much_any w1 ao la ca A C La H HA.out
  have MB := much_any w1 bo lb cb B D Lb H' HB.out
  have MC := much_any w1 co lc cc E F Lc H'' HC.out
  cases hf1 : fewB la La
  · rw [hf1] at MA
    go_wp2_with fail
    refine MA.mono ?_
    rintro e w' ⟨rfl, hw'⟩
    obtain rfl := hw'.symm
    go_wp2_with fail
    go_ret
    exact ⟨rfl, b1⟩
  rw [hf1] at MA
  cases hf2 : fewB lb Lb
  · rw [hf2] at MB
    go_wp2_with fail
    refine MA.mono ?_
    rintro e w' ⟨rfl, hw'⟩
    obtain rfl := hw'.symm
    go_wp2_with fail
    refine MB.mono ?_
    rintro e w' ⟨rfl, hw'⟩
    obtain rfl := hw'.symm
    go_wp2_with fail
    go_ret
    exact ⟨rfl, b1⟩
  rw [hf2] at MB
  go_wp2_with fail
  refine MA.mono ?_
  rintro e w' ⟨rfl, hw'⟩
  obtain rfl := hw'.symm
  go_wp2_with fail
  refine MB.mono ?_
  rintro e w' ⟨rfl, hw'⟩
  obtain rfl := hw'.symm
  go_wp2_with fail
  refine MC.mono ?_
  rintro e w' ⟨rfl, hw'⟩
  obtain rfl := hw'.symm
  clear MA MB MC hf1 hf2
  cases hf3 : fewB lc Lc
  · go_wp2_with fail
    go_ret
    exact ⟨rfl, b1⟩
  clear hf3
  go_wp2_with fail
  refine (mulm_any w1 ao bo la ca lb cb A B C La D Lb H H' HA.out HB.out).mono ?_
  rintro e w2 ⟨mo, mc, rfl, hm, bn⟩
  have CA := check_any w2 ao la ca A C La H (HA.out.below bn)
  have CB := check_any w2 bo lb cb B D Lb H' (HB.out.below bn)
  replace HA : Hid (Lst w2 ao la A C La H) := HA.out.below bn
  replace HB : Hid (Lst w2 bo lb B D Lb H') := HB.out.below bn
  replace HC : Hid (Lst w2 co lc E F Lc H'') := HC.out.below bn
  replace b1 := below_step b1 bn b1.size
  have HM0 : Hid (∃ A C, Lst w2 mo (lenB (okMul la La lb Lb) la) A C (fun _ => Lb 0) (mm lb H H')) := hm.lst
  clear hm bn
  have e1 : errB false 30 = 30 := rfl
  have e2 : errB true 30 = 0 := rfl
  have e3 : lenB false la = 0 := rfl
  cases hok : okM la La
  · rw [hok] at CA
    rw [show okMul la La lb Lb = false by unfold okMul; rw [hok]; rfl]
    clear HM0 CB
    go_wp2_with fail
    refine CA.mono ?_
    rintro e w' ⟨rfl, hw'⟩
    obtain rfl := hw'.symm
    go_wp2_with fail
    go_ret
    exact ⟨rfl, b1⟩
  rw [hok] at CA
  cases hok2 : okM lb Lb
  · rw [hok2] at CB
    rw [show okMul la La lb Lb = false by unfold okMul; rw [hok, hok2]; rfl]
    clear HM0
    go_wp2_with fail
    refine CA.mono ?_
    rintro e w' ⟨rfl, hw'⟩
    obtain rfl := hw'.symm
    go_wp2_with fail
    refine CB.mono ?_
    rintro e w' ⟨rfl, hw'⟩
    obtain rfl := hw'.symm
    go_wp2_with fail
    go_ret
    exact ⟨rfl, b1⟩
  rw [hok2] at CB
  obtain ⟨h1, h2, h3, h4, h5⟩ := okM_true hok
  obtain ⟨g1, g2, g3, g4, g5⟩ := okM_true hok2
  obtain ⟨pa, fa, rfl, hca⟩ := HA.out.at_ (by omega)
  have c0 := hca 0 (by omega)
  rw [Nat.add_zero] at c0
  obtain ⟨pb, fb, rfl, hcb⟩ := HB.out.at_ (by omega)
  clear hca hcb
  have i0 : 0 < la := by omega
  have i1 : (0 : Int) < (la : Int) := by omega
  by_cases hfit : ¬ La 0 = lb
  · rw [show okMul la La lb Lb = false by unfold okMul; rw [hok, hok2]; simp [hfit]]
    have hbq : ((La 0 : Int) != (lb : Int)) = true := by simp; omega
    clear HM0 h5 g5
    go_wp2_with fail
    refine CA.mono ?_
    rintro e w' ⟨rfl, hw'⟩
    obtain rfl := hw'.symm
    go_wp2_with fail
    refine CB.mono ?_
    rintro e w' ⟨rfl, hw'⟩
    obtain rfl := hw'.symm
    go_wp2_with fail
    go_ret
    exact ⟨rfl, b1⟩
  replace hfit : La 0 = lb := Classical.not_not.1 hfit
  rw [show okMul la La lb Lb = true by unfold okMul; rw [hok, hok2, hfit]; simp] at HM0 ⊢
  clear CA CB hok hok2 c0
  obtain ⟨q, hq⟩ : ∃ q, q = Lb 0 := ⟨_, rfl⟩
  rw [← hq] at HM0 g3 g4
  have HL1 : Hid (Lst w2 (some ⟨pa, fa, none⟩) la A C (fun _ => lb) H) := HA.out.len fun i hi => by rw [h5 i hi, hfit]
  have HL2 : Hid (Lst w2 (some ⟨pb, fb, none⟩) lb B D (fun _ => q) H') := HB.out.len fun i hi => by rw [g5 i hi, hq]
  clear HA HB h5 g5 hq h3 h4 hfit
  obtain ⟨A9, C9, hm9⟩ := HM0.out
  obtain ⟨n, rfl⟩ : ∃ n, la = n := ⟨_, rfl⟩
  obtain ⟨m, rfl⟩ : ∃ m, lb = m := ⟨_, rfl⟩
  have HA : Hid (Lst w2 (some ⟨pa, fa, none⟩) la A C (fun _ => lb) H) := HL1.out
  have HB : Hid (Lst w2 (some ⟨pb, fb, none⟩) lb B D (fun _ => q) H') := HL2.out
  have e4 : lenB true la = la := rfl
  rw [e4] at hm9
  obtain ⟨X, hX⟩ : ∃ X, X = mm lb H H' := ⟨_, rfl⟩
  have HX : Hid (X = mm lb H H') := hX
  have HM : Hid (Lst w2 mo la A9 C9 (fun _ => q) X) := by rw [hX]; exact hm9
  clear HM0 hm9 HL1 HL2 hX
  obtain ⟨pm, fm, rfl, _⟩ := HM.out.at_ (by omega)
  have r0 := (show 0 < lb by omega)
  have r1 : (0 : Int) < (lb : Int) := by omega
  go_wp2_with fail
  go_loopw [10] (fun i wr => ∃ k : Nat, k ≤ la ∧ i = .int .i64 k ∧ Hid (Below w2.heap.size w2 wr)) (fun i _ => la - (intOf i).toNat)
  case atStart => exact ⟨0, Nat.zero_le _, rfl, Below.refl _ _⟩
  case round =>
    obtain ⟨k, hk, rfl, hbel⟩ := hrel
    by_cases hlt : k < la
    · obtain ⟨w3, rfl⟩ : ∃ x, x = wr := ⟨wr, rfl⟩
      go_wp2_with fail
      go_loopw [11] (fun i wr => ∃ j : Nat, j ≤ q ∧ i = .int .i64 j ∧ Hid (Below w2.heap.size w2 wr)) (fun i _ => q - (intOf i).toNat)
      case atStart => exact ⟨0, Nat.zero_le _, rfl, hbel.out⟩
      case round =>
        obtain ⟨j, hj, rfl, hbel2⟩ := hrel
        obtain ⟨b9, f9, e9, hcb⟩ := (HB.out.below hbel2.out).at_ (by omega)
        cases e9
        have c0 := hcb 0 (by omega)
        rw [Nat.add_zero] at c0
        clear hcb
        by_cases hjq : j < q
        · obtain ⟨w4, rfl⟩ : ∃ x, x = wr := ⟨wr, rfl⟩
          go_wp2_with fail
          go_loopw [12, 13] (fun x i wr => ∃ l : Nat, l ≤ lb ∧ i = .int .i64 l ∧ x = .int .u8 ((sum l (fun p => (K.mul (H k p) (H' p j)))).n : Int) ∧ Hid (Below w2.heap.size w2 wr)) (fun _ i _ => lb - (intOf i).toNat)
          case atStart => exact ⟨0, Nat.zero_le _, rfl, rfl, hbel2.out⟩
          case round =>
            obtain ⟨l, hl, rfl, rfl, hbel3⟩ := hrel
            by_cases hll : l < lb
            · obtain ⟨x1, x2, x3, x4, ex, _, s1, s2⟩ := (HA.out.below hbel3.out).spot hlt (show l < lb from hll)
              cases ex
              obtain ⟨y1, y2, y3, y4, ey, _, s3, s4⟩ := (HB.out.below hbel3.out).spot hll (show j < q from hjq)
              cases ey
              have HAD : Hid (∀ m, Calls Try.prog 31 #[.int .u8 ((sum l (fun p => (K.mul (H k p) (H' p j)))).n : Int), .int .u8 (((K.mul (H k l) (H' l j))).n : Int)] (wr.drewN m) fun e w' => e = .returned (.int .u8 ((sum (l + 1) (fun p => (K.mul (H k p) (H' p j)))).n : Int)) ∧ w' = wr.drewN m) := fun m => add_k _ _ _
              have HMU : Hid (∀ m, Calls Try.prog 32 #[.int .u8 ((H k l).n : Int), .int .u8 ((H' l j).n : Int)] (wr.drewN m) fun e w' => e = .returned (.int .u8 (((K.mul (H k l) (H' l j))).n : Int)) ∧ w' = wr.drewN m) := fun m => mul_k _ _ _
              obtain ⟨S, hS⟩ : ∃ S, S = sum l (fun p => (K.mul (H k p) (H' p j))) := ⟨_, rfl⟩
              obtain ⟨S', hS'⟩ : ∃ S', S' = sum (l + 1) (fun p => (K.mul (H k p) (H' p j))) := ⟨_, rfl⟩
              rw [← hS] at HAD ⊢
              rw [← hS'] at HAD
              have HS' : Hid (S' = sum (l + 1) (fun p => (K.mul (H k p) (H' p j)))) := hS'
              clear hS hS'
              have j1 : (0 : Int) ≤ (k : Int) := by omega
              have j2 : (k : Int) < (la : Int) := by omega
              have j3 : (0 : Int) ≤ (j : Int) := by omega
              have j4 : (j : Int) < (q : Int) := by omega
              have j5 : (0 : Int) ≤ (l : Int) := by omega
              have j6 : (l : Int) < (lb : Int) := by omega
              go_wp2_with fail
              go_quiet (first | (go_at_call 32; exact Calls.quiet_of_same (HMU.out _)) | (go_at_call 31; exact Calls.quiet_of_same (HAD.out _)))
              go_wp2
              go_roundw
              case rel => exact ⟨l + 1, by omega, by go_num, by rw [HS'.out], ⟨hbel3.out.os, hbel3.out.tape, hbel3.out.output, hbel3.out.size, hbel3.out.block⟩⟩
              case measure => simp [intOf]; omega
            · obtain rfl : l = lb := by omega
              obtain ⟨x1, x2, x3, x4, ex, _, s1, s2⟩ := (HM.out.below hbel3.out).spot hlt (show j < q from hjq)
              cases ex
              rw [show X k j = sum l (fun p => (K.mul (H k p) (H' p j))) by rw [HX.out]; rfl] at s2
              have hbn : (((sum l (fun p => (K.mul (H k p) (H' p j)))).n : Int) != ((sum l (fun p => (K.mul (H k p) (H' p j)))).n : Int)) = false := by simp
              generalize sum l (fun p => (K.mul (H k p) (H' p j))) = S at *
              have j1 : (0 : Int) ≤ (k : Int) := by omega
              have j2 : (k : Int) < (la : Int) := by omega
              have j3 : (0 : Int) ≤ (j : Int) := by omega
              have j4 : (j : Int) < (q : Int) := by omega
              go_wp2_with fail
              go_roundw
              case rel => exact ⟨j + 1, by omega, by go_num, hbel3.out⟩
              case measure => simp [intOf]; omega
        · go_wp2_with fail
          go_roundw
          case rel => exact ⟨k + 1, by omega, by go_num, hbel2.out⟩
          case measure => simp [intOf]; omega
    · obtain rfl : k = la := by omega
      have bn := hbel.out

      replace HA : Hid (Lst wr (some ⟨pa, fa, none⟩) k A C (fun _ => lb) H) := HA.out.below bn
      replace HB : Hid (Lst wr (some ⟨pb, fb, none⟩) lb B D (fun _ => q) H') := HB.out.below bn
      replace HC : Hid (Lst wr co lc E F Lc H'') := HC.out.below bn
      replace HM : Hid (Lst wr (some ⟨pm, fm, none⟩) k A9 C9 (fun _ => q) X) := HM.out.below bn
      replace b1 := below_step b1 bn b1.size
      clear bn hbel
      have e5 : lenB true q = q := rfl
      go_wp2_with fail
      refine (turned_any wr _ k ca A C (fun _ => lb) H HA.out).mono ?_
      intro e w5 hh
      rw [okM_sq h1 h2 g1 g2] at hh
      obtain ⟨tto, ttc, A5, C5, rfl, hl, bn⟩ := good_of hh
      have HT : Hid (Lst w5 tto lb A5 C5 (fun _ => k) (turn H)) := hl
      replace HA : Hid (Lst w5 (some ⟨pa, fa, none⟩) k A C (fun _ => lb) H) := HA.out.below bn
      replace HB : Hid (Lst w5 (some ⟨pb, fb, none⟩) lb B D (fun _ => q) H') := HB.out.below bn
      replace HC : Hid (Lst w5 co lc E F Lc H'') := HC.out.below bn
      replace HM : Hid (Lst w5 (some ⟨pm, fm, none⟩) k A9 C9 (fun _ => q) X) := HM.out.below bn
      replace b1 := below_step b1 bn b1.size
      clear hh bn
      clear hl
      go_wp2_with fail
      refine (turned_any w5 _ lb cb B D (fun _ => q) H' HB.out).mono ?_
      intro e w6 hh
      rw [okM_sq g1 g2 g3 g4] at hh
      obtain ⟨uuo, uuc, A6, C6, rfl, hl, bn⟩ := good_of hh
      have HU : Hid (Lst w6 uuo q A6 C6 (fun _ => lb) (turn H')) := hl
      replace HA : Hid (Lst w6 (some ⟨pa, fa, none⟩) k A C (fun _ => lb) H) := HA.out.below bn
      replace HB : Hid (Lst w6 (some ⟨pb, fb, none⟩) lb B D (fun _ => q) H') := HB.out.below bn
      replace HC : Hid (Lst w6 co lc E F Lc H'') := HC.out.below bn
      replace HM : Hid (Lst w6 (some ⟨pm, fm, none⟩) k A9 C9 (fun _ => q) X) := HM.out.below bn
      replace HT : Hid (Lst w6 tto lb A5 C5 (fun _ => k) (turn H)) := HT.out.below bn
      replace b1 := below_step b1 bn b1.size
      clear hh bn
      clear hl
      go_wp2_with fail
      refine (turned_any w6 _ k mc A9 C9 (fun _ => q) X HM.out).mono ?_
      intro e w7 hh
      rw [okM_sq h1 h2 g3 g4] at hh
      obtain ⟨vvo, vvc, A7, C7, rfl, hl, bn⟩ := good_of hh
      have HV : Hid (Lst w7 vvo q A7 C7 (fun _ => k) (turn X)) := hl
      replace HA : Hid (Lst w7 (some ⟨pa, fa, none⟩) k A C (fun _ => lb) H) := HA.out.below bn
      replace HB : Hid (Lst w7 (some ⟨pb, fb, none⟩) lb B D (fun _ => q) H') := HB.out.below bn
      replace HC : Hid (Lst w7 co lc E F Lc H'') := HC.out.below bn
      replace HM : Hid (Lst w7 (some ⟨pm, fm, none⟩) k A9 C9 (fun _ => q) X) := HM.out.below bn
      replace HT : Hid (Lst w7 tto lb A5 C5 (fun _ => k) (turn H)) := HT.out.below bn
      replace HU : Hid (Lst w7 uuo q A6 C6 (fun _ => lb) (turn H')) := HU.out.below bn
      replace b1 := below_step b1 bn b1.size
      clear hh bn
      clear hl
      go_wp2_with fail
      refine (mulm_any w7 uuo tto q uuc lb ttc A6 A5 C6 (fun _ => lb) C5 (fun _ => k) (turn H') (turn H) HU.out HT.out).mono ?_
      intro e w8 hh
      rw [okMul_fit g3 g4 g1 g2 h1 h2] at hh
      obtain ⟨wwo, wwc, A8, C8, rfl, hl, bn⟩ := good_of hh
      have HW : Hid (Lst w8 wwo q A8 C8 (fun _ => k) (mm lb (turn H') (turn H))) := hl
      replace HA : Hid (Lst w8 (some ⟨pa, fa, none⟩) k A C (fun _ => lb) H) := HA.out.below bn
      replace HB : Hid (Lst w8 (some ⟨pb, fb, none⟩) lb B D (fun _ => q) H') := HB.out.below bn
      replace HC : Hid (Lst w8 co lc E F Lc H'') := HC.out.below bn
      replace HM : Hid (Lst w8 (some ⟨pm, fm, none⟩) k A9 C9 (fun _ => q) X) := HM.out.below bn
      replace HT : Hid (Lst w8 tto lb A5 C5 (fun _ => k) (turn H)) := HT.out.below bn
      replace HU : Hid (Lst w8 uuo q A6 C6 (fun _ => lb) (turn H')) := HU.out.below bn
      replace HV : Hid (Lst w8 vvo q A7 C7 (fun _ => k) (turn X)) := HV.out.below bn
      replace b1 := below_step b1 bn b1.size
      clear hh bn
      clear hl
      go_wp2_with fail
      refine (rank_any w8 _ k ca A C (fun _ => lb) H HA.out).mono ?_
      intro e w9 hh
      rw [rankV_ok h1 h2 g1 g2, okM_sq h1 h2 g1 g2] at hh
      obtain ⟨rfl, bn⟩ := hh
      replace HA : Hid (Lst w9 (some ⟨pa, fa, none⟩) k A C (fun _ => lb) H) := HA.out.below bn
      replace HB : Hid (Lst w9 (some ⟨pb, fb, none⟩) lb B D (fun _ => q) H') := HB.out.below bn
      replace HC : Hid (Lst w9 co lc E F Lc H'') := HC.out.below bn
      replace HM : Hid (Lst w9 (some ⟨pm, fm, none⟩) k A9 C9 (fun _ => q) X) := HM.out.below bn
      replace HT : Hid (Lst w9 tto lb A5 C5 (fun _ => k) (turn H)) := HT.out.below bn
      replace HV : Hid (Lst w9 vvo q A7 C7 (fun _ => k) (turn X)) := HV.out.below bn
      replace HW : Hid (Lst w9 wwo q A8 C8 (fun _ => k) (mm lb (turn H') (turn H))) := HW.out.below bn
      replace b1 := below_step b1 bn b1.size
      clear bn
      go_wp2_with fail
      refine (rank_any w9 tto lb ttc A5 C5 (fun _ => k) (turn H) HT.out).mono ?_
      intro e w10 hh
      rw [rankV_ok g1 g2 h1 h2, okM_sq g1 g2 h1 h2, rankOf_turn k lb H] at hh
      obtain ⟨rfl, bn⟩ := hh
      replace HA : Hid (Lst w10 (some ⟨pa, fa, none⟩) k A C (fun _ => lb) H) := HA.out.below bn
      replace HB : Hid (Lst w10 (some ⟨pb, fb, none⟩) lb B D (fun _ => q) H') := HB.out.below bn
      replace HC : Hid (Lst w10 co lc E F Lc H'') := HC.out.below bn
      replace HM : Hid (Lst w10 (some ⟨pm, fm, none⟩) k A9 C9 (fun _ => q) X) := HM.out.below bn
      replace HT : Hid (Lst w10 tto lb A5 C5 (fun _ => k) (turn H)) := HT.out.below bn
      replace HV : Hid (Lst w10 vvo q A7 C7 (fun _ => k) (turn X)) := HV.out.below bn
      replace HW : Hid (Lst w10 wwo q A8 C8 (fun _ => k) (mm lb (turn H') (turn H))) := HW.out.below bn
      replace b1 := below_step b1 bn b1.size
      clear bn
      go_wp2_with fail
      refine (rank_any w10 _ k mc A9 C9 (fun _ => q) X HM.out).mono ?_
      intro e w11 hh
      rw [rankV_ok h1 h2 g3 g4, okM_sq h1 h2 g3 g4] at hh
      obtain ⟨rfl, bn⟩ := hh
      replace HA : Hid (Lst w11 (some ⟨pa, fa, none⟩) k A C (fun _ => lb) H) := HA.out.below bn
      replace HB : Hid (Lst w11 (some ⟨pb, fb, none⟩) lb B D (fun _ => q) H') := HB.out.below bn
      replace HC : Hid (Lst w11 co lc E F Lc H'') := HC.out.below bn
      replace HM : Hid (Lst w11 (some ⟨pm, fm, none⟩) k A9 C9 (fun _ => q) X) := HM.out.below bn
      replace HV : Hid (Lst w11 vvo q A7 C7 (fun _ => k) (turn X)) := HV.out.below bn
      replace HW : Hid (Lst w11 wwo q A8 C8 (fun _ => k) (mm lb (turn H') (turn H))) := HW.out.below bn
      replace b1 := below_step b1 bn b1.size
      clear bn
      have k1 := (rankOf_rk k lb H).le.1
      have k2 := (rankOf_rk k lb H).le.2
      have k3 : rankOf k q X ≤ rankOf k lb H := by rw [HX.out]; exact (rankOf_rk k lb H).mm_le (rankOf_rk k q (mm lb H H'))
      obtain ⟨r, hr⟩ : ∃ r, r = rankOf k lb H := ⟨_, rfl⟩
      obtain ⟨s, hs⟩ : ∃ s, s = rankOf k q X := ⟨_, rfl⟩
      rw [← hr, ← hs] at k3
      rw [← hr] at k1 k2
      rw [← hr, ← hs]
      clear hr hs
      have hbr : ((r : Int) != (r : Int)) = false := by simp
      have d0 : w11.cell? ⟨pa, fa, none⟩ = some (.slice (A 0) lb (C 0)) := by
        obtain ⟨b9, f9, e9, hca⟩ := HA.out.at_ (by omega)
        cases e9
        have := hca 0 (by omega)
        rwa [Nat.add_zero] at this
      go_wp2_with fail
      refine (same_any w11 vvo wwo q vvc wwc A7 A8 C7 C8 (fun _ => k) (fun _ => k) _ _ HV.out HW.out (fun _ _ => rfl) (fun i j _ _ => by rw [turn_mm, HX.out]; rfl) (by omega)).mono ?_
      rintro e w12 ⟨rfl, hq⟩
      have bn := drewN_below hq
      replace HA : Hid (Lst w12 (some ⟨pa, fa, none⟩) k A C (fun _ => lb) H) := HA.out.below bn
      replace HB : Hid (Lst w12 (some ⟨pb, fb, none⟩) lb B D (fun _ => q) H') := HB.out.below bn
      replace HC : Hid (Lst w12 co lc E F Lc H'') := HC.out.below bn
      replace HM : Hid (Lst w12 (some ⟨pm, fm, none⟩) k A9 C9 (fun _ => q) X) := HM.out.below bn
      replace b1 := below_step b1 bn b1.size
      have d1 := held d0 bn
      clear hq bn d0 HV HW
      have HO := okMul_comm (q := q) (lc := lc) (Lc := Lc) h1 h2 g1 g2
      go_wp2_with fail
      refine (mulm_any w12 _ co k mc lc cc A9 E C9 (fun _ => q) F Lc X H'' HM.out HC.out).mono ?_
      rintro e w13 ⟨xo, xc, rfl, hx, bn⟩
      have HXX : Hid (∃ A C, Lst w13 xo (lenB (okMul k (fun _ => q) lc Lc) k) A C (fun _ => Lc 0) (mm lc X H'')) := hx.lst
      replace HA : Hid (Lst w13 (some ⟨pa, fa, none⟩) k A C (fun _ => lb) H) := HA.out.below bn
      replace HB : Hid (Lst w13 (some ⟨pb, fb, none⟩) lb B D (fun _ => q) H') := HB.out.below bn
      replace HC : Hid (Lst w13 co lc E F Lc H'') := HC.out.below bn
      replace HM : Hid (Lst w13 (some ⟨pm, fm, none⟩) k A9 C9 (fun _ => q) X) := HM.out.below bn
      replace b1 := below_step b1 bn b1.size
      clear hx bn d1
      go_wp2_with fail
      refine (mulm_any w13 _ co lb cb lc cc B E D (fun _ => q) F Lc H' H'' HB.out HC.out).mono ?_
      rintro e w14 ⟨yo, yc, rfl, hy, bn⟩
      have HYY : Hid (∃ A C, Lst w14 yo (lenB (okMul lb (fun _ => q) lc Lc) lb) A C (fun _ => Lc 0) (mm lc H' H'')) := hy.lst
      replace HXX : Hid (∃ A C, Lst w14 xo (lenB (okMul k (fun _ => q) lc Lc) k) A C (fun _ => Lc 0) (mm lc X H'')) := (by obtain ⟨A, C, h⟩ := HXX.out; exact ⟨A, C, h.below bn⟩)
      replace HA : Hid (Lst w14 (some ⟨pa, fa, none⟩) k A C (fun _ => lb) H) := HA.out.below bn
      replace HB : Hid (Lst w14 (some ⟨pb, fb, none⟩) lb B D (fun _ => q) H') := HB.out.below bn
      replace HC : Hid (Lst w14 co lc E F Lc H'') := HC.out.below bn
      replace HM : Hid (Lst w14 (some ⟨pm, fm, none⟩) k A9 C9 (fun _ => q) X) := HM.out.below bn
      replace b1 := below_step b1 bn b1.size
      clear hy bn
      rw [HO] at HXX
      cases hok : okMul lb (fun _ => q) lc Lc
      · clear HXX HYY
        go_wp2_with fail
        go_ret
        exact ⟨rfl, b1⟩
      · rw [hok] at HXX HYY
        have hok' := hok
        unfold okMul at hok'
        rw [okM_sq g1 g2 g3 g4] at hok'
        have hc1 : okM lc Lc = true := by cases h : okM lc Lc with | false => rw [h] at hok'; cases hok' | true => rfl
        have hc2 : q = lc := by rw [hc1] at hok'; simpa using hok'
        obtain ⟨t1, t2, t3, t4, _⟩ := okM_true hc1
        obtain ⟨z, hz⟩ : ∃ z, z = Lc 0 := ⟨_, rfl⟩
        rw [← hz] at HXX HYY t3 t4
        subst hc2
        clear hok hok' hc1 hz HO
        obtain ⟨A13, C13, hx⟩ := HXX.out
        obtain ⟨A14, C14, hy⟩ := HYY.out
        have HXL : Hid (Lst w14 xo k A13 C13 (fun _ => z) (mm q X H'')) := hx
        have HYL : Hid (Lst w14 yo lb A14 C14 (fun _ => z) (mm q H' H'')) := hy
        have e6 : lenB true lb = lb := rfl
        have e7 : lenB true k = k := rfl
        rw [e6, e7, e2]
        clear HXX HYY hx hy
        go_wp2_with fail
        refine (mulm_any w14 _ yo k ca lb yc A A14 C (fun _ => lb) C14 (fun _ => z) H (mm q H' H'') HA.out HYL.out).mono ?_
        intro e w15 hh
        rw [okMul_fit h1 h2 g1 g2 t3 t4] at hh
        obtain ⟨zo, zc, A15, C15, rfl, hl, bn⟩ := good_of hh
        have HZL : Hid (Lst w15 zo k A15 C15 (fun _ => z) (mm lb H (mm q H' H''))) := hl
        replace HXL : Hid (Lst w15 xo k A13 C13 (fun _ => z) (mm q X H'')) := HXL.out.below bn
        replace b1 := below_step b1 bn b1.size
        clear hh hl bn
        go_wp2_with fail
        refine (same_any w15 xo zo k xc zc A13 A15 C13 C15 (fun _ => z) (fun _ => z) _ _ HXL.out HZL.out (fun _ _ => rfl) (fun i j _ _ => by rw [HX.out, mm_assoc]) (by omega)).mono ?_
        rintro e w16 ⟨rfl, hq⟩
        replace b1 := below_step b1 (drewN_below hq) b1.size
        go_wp2_with fail
        go_ret
        exact ⟨rfl, b1⟩end Go.Proofs.Ytpfpldmmdbgnnaa
