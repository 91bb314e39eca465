/- What the document's own product comes to; a matrix in new memory. -/
import Derived.Test.YtpfpldmmdbgnnaaMatR
namespace Go.Proofs.Ytpfpldmmdbgnnaa
open Go.RowKit

/-- .. and x in the place that is being reckoned. -/
def part (F : M) (k l : Nat) (x : K) : M := fun i j => if i = k ∧ j = l then x else fill F k l i j
theorem part_zero (F : M) (k l i j : Nat) : fill F k l i j = part F k l 0 i j := by
  unfold part
  by_cases e : i = k ∧ j = l
  · rw [if_pos e, e.1, e.2, fill_at]
  · rw [if_neg e]
theorem part_store (F : M) (k l : Nat) (x y : K) (i j : Nat) : (if i = k ∧ j = l then y else part F k l x i j) = part F k l y i j := by
  unfold part
  by_cases e : i = k ∧ j = l
  · rw [if_pos e, if_pos e]
  · rw [if_neg e, if_neg e, if_neg e]
theorem part_at (F : M) (k l : Nat) (x : K) : part F k l x k l = x := if_pos ⟨rfl, rfl⟩

set_option maxHeartbeats 4000000 in
set_option maxRecDepth 100000 in
theorem rmulm_any (w : World) (ao bo : Option Addr) (la ca lb cb : Nat) (A B : Nat → Option Addr) (C La D Lb : Nat → Nat) (H H' : M) (ha : Lst w ao la A C La H) (hb : Lst w bo lb B D Lb H') :
    Calls Try.prog 28 #[.slice ao la ca, .slice bo lb cb] w (Made w (okMul la La lb Lb) 30 la (Lb 0) (mm lb H H')) := by
  have CA := rcheck_any w ao la ca A C La H ha
  have HB : Hid (Lst w bo lb B D Lb H') := hb
  have HA : Hid (Lst w ao la A C La H) := ha
  clear ha hb
  have e1 : errB false 30 = 30 := rfl
  have e2 : errB true 30 = 0 := rfl
  cases hok : okM la La
  · rw [hok] at CA
    rw [show okMul la La lb Lb = false by unfold okMul; rw [hok]; rfl]
    go_enter Try.func28, Try.ntmps28
    go_wp2_with fail
    refine CA.mono ?_
    rintro e w1 ⟨rfl, hq⟩
    have b1 := drewN_below hq
    clear hq
    go_wp2_with fail
    go_ret2
    exact made_no b1
  rw [hok] at CA
  obtain ⟨h1, h2, h3, h4, h5⟩ := okM_true hok
  cases hok2 : okM lb Lb
  · rw [show okMul la La lb Lb = false by unfold okMul; rw [hok, hok2]; rfl]
    go_enter Try.func28, Try.ntmps28
    go_wp2_with fail
    refine CA.mono ?_
    rintro e w1 ⟨rfl, hq⟩
    have b1 := drewN_below hq
    have CB := rcheck_any w1 bo lb cb B D Lb H' (HB.out.below b1)
    rw [hok2] at CB
    clear hq
    go_wp2_with fail
    refine CB.mono ?_
    rintro e w2 ⟨rfl, hq⟩
    have b2 := below_step b1 (drewN_below hq) b1.size
    clear hq
    go_wp2_with fail
    go_ret2
    exact made_no b2
  obtain ⟨g1, g2, g3, g4, g5⟩ := okM_true hok2
  obtain ⟨pa, fa, rfl, _⟩ := HA.out.at_ (by omega)
  obtain ⟨pb, fb, rfl, _⟩ := HB.out.at_ (by omega)
  have i0 : 0 < la := by omega
  have i1 : (0 : Int) < (la : Int) := by omega
  have r0 : 0 < lb := by omega
  have r1 : (0 : Int) < (lb : Int) := by omega
  by_cases hfit : La 0 = lb
  · rw [show okMul la La lb Lb = true by unfold okMul; rw [hok, hok2, hfit]; simp]
    obtain ⟨q, hq⟩ : ∃ q, q = Lb 0 := ⟨_, rfl⟩
    rw [← hq] at g3 g4 ⊢
    have HOK2 : Hid (okM lb Lb = true) := hok2
    have HL1 : Hid (Lst w (some ⟨pa, fa, none⟩) la A C (fun _ => lb) H) := HA.out.len fun i hi => by rw [h5 i hi, hfit]
    have HL2 : Hid (Lst w (some ⟨pb, fb, none⟩) lb B D (fun _ => q) H') := HB.out.len fun i hi => by rw [g5 i hi, hq]
    clear HA HB h5 g5 hq hok hok2 hfit h3 h4
    go_enter Try.func28, Try.ntmps28
    go_wp2_with fail
    refine CA.mono ?_
    rintro e w1 ⟨rfl, hq⟩
    have b1 := drewN_below hq
    replace HL1 : Hid (Lst w1 (some ⟨pa, fa, none⟩) la A C (fun _ => lb) H) := HL1.out.below b1
    replace HL2 : Hid (Lst w1 (some ⟨pb, fb, none⟩) lb B D (fun _ => q) H') := HL2.out.below b1
    clear hq CA
    have CB := rcheck_any w1 (some ⟨pb, fb, none⟩) lb cb B D (fun _ => q) H' HL2.out
    rw [okM_sq g1 g2 g3 g4] at CB
    go_wp2_with fail
    refine CB.mono ?_
    rintro e w2 ⟨rfl, hq⟩
    have bq := drewN_below hq
    replace HL1 : Hid (Lst w2 (some ⟨pa, fa, none⟩) la A C (fun _ => lb) H) := HL1.out.below bq
    replace HL2 : Hid (Lst w2 (some ⟨pb, fb, none⟩) lb B D (fun _ => q) H') := HL2.out.below bq
    replace b1 := below_step b1 bq b1.size
    clear hq CB bq
    obtain ⟨b', off', e', hca⟩ := HL1.out.at_ (by omega)
    cases e'
    have c0 := hca 0 (by omega)
    rw [Nat.add_zero] at c0
    obtain ⟨b', off', e', hcb⟩ := HL2.out.at_ (by omega)
    cases e'
    have c1 := hcb 0 (by omega)
    rw [Nat.add_zero] at c1
    clear hca hcb
    have hbq : ((lb : Int) != (lb : Int)) = false := by simp
    go_wp2_with fail
    refine (blank_mat w2 la q (by omega) (by omega) (by omega)).mono ?_
    rintro e w3 ⟨l, cap, G, rfl, hm, b3⟩
    have HM : Hid (Mat w3 w2.heap.size w3.heap.size l cap la q G (fun _ => q) (fun _ _ => 0)) := hm
    have HB3 : Hid (Below w2.heap.size w2 w3) := b3
    clear hm b3 c0 c1
    obtain ⟨F, hF⟩ : ∃ F, F = mm lb H H' := ⟨_, rfl⟩
    have HF : Hid (F = mm lb H H') := hF
    clear hF
    go_wp2_with fail
    go_loopw [7] (fun i wr => ∃ p : Nat, p ≤ la ∧ i = .int .i64 p ∧ Hid (Mat wr w2.heap.size w3.heap.size l cap la q G (fun _ => q) (fill F p 0)) ∧ Hid (Below w2.heap.size w2 wr ∧ w3.heap.size ≤ wr.heap.size)) (fun i _ => la - (intOf i).toNat)
    case atStart => exact ⟨0, Nat.zero_le _, rfl, by rw [fill_zero]; exact HM.out, HB3.out, Nat.le_refl _⟩
    case round =>
      obtain ⟨p, hp, rfl, hmat, hbel⟩ := hrel
      by_cases hlt : p < la
      · obtain ⟨w4, rfl⟩ : ∃ x, x = wr := ⟨wr, rfl⟩
        go_wp2
        go_loopw [8] (fun i wr => ∃ s : Nat, s ≤ q ∧ i = .int .i64 s ∧ Hid (Mat wr w2.heap.size w3.heap.size l cap la q G (fun _ => q) (fill F p s)) ∧ Hid (Below w2.heap.size w2 wr ∧ w3.heap.size ≤ wr.heap.size)) (fun i _ => q - (intOf i).toNat)
        case atStart => exact ⟨0, Nat.zero_le _, rfl, hmat.out, hbel.out⟩
        case round =>
          obtain ⟨s, hs, rfl, hmat2, hbel2⟩ := hrel
          obtain ⟨b', off', e', hcb⟩ := (HL2.out.below hbel2.out.1).at_ (by omega)
          cases e'
          have c1 := hcb 0 (by omega)
          rw [Nat.add_zero] at c1
          clear hcb
          by_cases hsq : s < q
          · obtain ⟨w5, rfl⟩ : ∃ x, x = wr := ⟨wr, rfl⟩
            go_wp2
            go_loopw [9] (fun i wr => ∃ t : Nat, t ≤ lb ∧ i = .int .i64 t ∧ Hid (Mat wr w2.heap.size w3.heap.size l cap la q G (fun _ => q) (part F p s (sum t fun x => (K.mul (H p x) (H' x s))))) ∧ Hid (Below w2.heap.size w2 wr ∧ w3.heap.size ≤ wr.heap.size)) (fun i _ => lb - (intOf i).toNat)
            case atStart => exact ⟨0, Nat.zero_le _, rfl, hmat2.out.congr (fun i j _ _ => part_zero F p s i j), hbel2.out⟩
            case round =>
              obtain ⟨t, ht, rfl, hmat3, hbel3⟩ := hrel
              by_cases htl : t < lb
              · have d1 := hmat3.out.cell_l hlt
                have d2 := (hmat3.out.row p hlt).cell hsq
                have z2 := (hmat3.out.row p hlt).frozen s
                rw [part_at] at d2
                obtain ⟨x1, x2, x3, x4, ex, _, s1, s2⟩ := (HL1.out.below hbel3.out.1).spot hlt (show t < lb from htl)
                cases ex
                obtain ⟨y1, y2, y3, y4, ey, _, s3, s4⟩ := (HL2.out.below hbel3.out.1).spot htl (show s < q from hsq)
                cases ey
                have HXO : Hid (bits .xor .u8 ((sum t fun x => (K.mul (H p x) (H' x s))).n : Int) (((K.mul (H p t) (H' t s))).n : Int) = (((sum (t + 1) fun x => (K.mul (H p x) (H' x s))).n : Nat) : Int)) := xor_k _ _
                obtain ⟨S, hS⟩ : ∃ S, S = sum t (fun x => (K.mul (H p x) (H' x s))) := ⟨_, rfl⟩
                obtain ⟨S', hS'⟩ : ∃ S', S' = sum (t + 1) (fun x => (K.mul (H p x) (H' x s))) := ⟨_, rfl⟩
                rw [← hS] at d2 HXO
                rw [← hS'] at HXO
                have HS : Hid (S = sum t (fun x => (K.mul (H p x) (H' x s)))) := hS
                have HS' : Hid (S' = sum (t + 1) (fun x => (K.mul (H p x) (H' x s)))) := hS'
                clear hS hS'
                have j1 : (0 : Int) ≤ (p : Int) := by omega
                have j2 : (p : Int) < (la : Int) := by omega
                have j3 : (0 : Int) ≤ (s : Int) := by omega
                have j4 : (s : Int) < (q : Int) := by omega
                have j5 : (0 : Int) ≤ (t : Int) := by omega
                have j6 : (t : Int) < (lb : Int) := by omega
                go_wp2
                refine wp_region_still_tail 29 (by kernel_rfl) (by kernel_rfl) ?_
                simp only [List.take_succ_cons, List.take_zero, List.drop_succ_cons, List.drop_zero]
                repeat still_step
                still_call (rmul_k (H p t) (H' t s) _)
                repeat still_step
                refine wpStill_nil ?_
                go_wp2
                go_roundw
                case rel => exact ⟨t + 1, by omega, by go_num, by rw [HXO.out]; exact ((hmat3.out.store hlt S').congr (fun i j _ _ => by rw [← HS'.out]; exact part_store F p s _ S' i j)).below (below_drew _ _), below_step (hmat3.out.keep hlt hbel3.out.1 hbel3.out.1.size s _) (below_drew _ _) (by rw [size_set]; exact hbel3.out.1.size), by show _ ≤ (wr.setCell _ _).heap.size; rw [size_set]; exact hbel3.out.2⟩
                case measure => simp [intOf]; omega
              · obtain rfl : t = lb := by omega
                go_wp2
                go_roundw
                case rel => exact ⟨s + 1, by omega, by go_num, hmat3.out.congr (fun i j _ _ => by rw [show (sum t fun x => (K.mul (H p x) (H' x s))) = F p s by rw [HF.out]; rfl]; exact fill_store F p s i j), hbel3.out⟩
                case measure => simp [intOf]; omega
          · obtain rfl : s = q := by omega
            go_wp2
            go_roundw
            case rel => exact ⟨p + 1, by omega, by go_num, hmat2.out.congr (fun i j _ hj => fill_row F p s i j hj), hbel2.out⟩
            case measure => simp [intOf]; omega
      · obtain rfl : p = la := by omega
        go_wp2
        go_ret2
        refine ref_made ((hmat.out.congr fun i j hi _ => ?_).lower b1.size) hbel.out.2 (below_step b1 hbel.out.1 b1.size)
        rw [fill_all F p i j hi, HF.out]
  · rw [show okMul la La lb Lb = false by unfold okMul; rw [hok, hok2]; simp [hfit]]
    have hbq : ((La 0 : Int) != (lb : Int)) = true := by simp; omega
    go_enter Try.func28, Try.ntmps28
    go_wp2_with fail
    refine CA.mono ?_
    rintro e w1 ⟨rfl, hq⟩
    have b1 := drewN_below hq
    have CB := rcheck_any w1 (some ⟨pb, fb, none⟩) lb cb B D Lb H' (HB.out.below b1)
    rw [hok2] at CB
    replace HA : Hid (Lst w1 (some ⟨pa, fa, none⟩) la A C La H) := HA.out.below b1
    clear hq
    go_wp2_with fail
    refine CB.mono ?_
    rintro e w2 ⟨rfl, hq⟩
    have bq := drewN_below hq
    replace HA : Hid (Lst w2 (some ⟨pa, fa, none⟩) la A C La H) := HA.out.below bq
    have b2 := below_step b1 bq b1.size
    clear hq bq
    obtain ⟨b', off', e', hca⟩ := HA.out.at_ (by omega)
    cases e'
    have c0 := hca 0 (by omega)
    rw [Nat.add_zero] at c0
    clear hca h5 g5
    go_wp2_with fail
    go_ret2
    exact made_no b2
end Go.Proofs.Ytpfpldmmdbgnnaa
