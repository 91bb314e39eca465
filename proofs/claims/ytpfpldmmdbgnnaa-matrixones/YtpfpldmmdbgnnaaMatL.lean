/- The walk of the statement that an inverse is one on both sides, and that there is one just if all rows are independent. -/
import Derived.Test.YtpfpldmmdbgnnaaMatK
namespace Go.Proofs.Ytpfpldmmdbgnnaa
open Go.RowKit

theorem okM_sq {n m : Nat} (h1 : 1 ≤ n) (h2 : n ≤ 32) (h3 : 1 ≤ m) (h4 : m ≤ 32) : okM n (fun _ => m) = true := decide_eq_true ⟨h1, h2, h3, h4, fun _ _ => rfl⟩
theorem Lst.len {w : World} {lo : Option Addr} {ll n : Nat} {A : Nat → Option Addr} {C L : Nat → Nat} {H : M} (h : Lst w lo ll A C L H) (e : ∀ i, i < ll → L i = n) : Lst w lo ll A C (fun _ => n) H := by
  refine ⟨fun i hi => by have := h.rd i hi; rwa [e i hi] at this, fun hp => ?_⟩
  obtain ⟨b, off, rfl, hc⟩ := h.at_ hp
  exact ⟨b, off, rfl, fun i hi => by rw [hc i hi, e i hi]⟩
theorem okMul_fit {n m q : Nat} (h1 : 1 ≤ n) (h2 : n ≤ 32) (h3 : 1 ≤ m) (h4 : m ≤ 32) (h5 : 1 ≤ q) (h6 : q ≤ 32) : okMul n (fun _ => m) m (fun _ => q) = true := by
  unfold okMul; rw [okM_sq h1 h2 h3 h4, okM_sq h3 h4 h5 h6]; simp
theorem okInv_of {n : Nat} {A V : M} (h1 : 1 ≤ n) (h2 : n ≤ 32) (h : IsInv n A V) : okInv n (fun _ => n) A = true := by
  unfold okInv okSq; rw [okM_sq h1 h2 h1 h2, invB_of h]; simp
theorem okN_of {n : Nat} {m : Int} (h1 : 1 ≤ n) (h2 : (n : Int) ≤ m) : okN (n : Int) m = true := decide_eq_true ⟨by omega, h2⟩
theorem drewN_below {w w' : World} (h : ∃ q, w' = w.drewN q) : Below w.heap.size w w' := by obtain ⟨q, rfl⟩ := h; exact below_drewN _ _ _

set_option maxHeartbeats 4000000 in
set_option maxRecDepth 100000 in
theorem inverse_walk (w : World) (lo : Option Addr) (ll cl : Nat) (A : Nat → Option Addr) (C L : Nat → Nat) (H : M) (hl : Lst w lo ll A C L H) :
    Calls Try.prog 6 #[.slice lo ll cl] w fun e w' => e = .returned (.bool true) ∧ Below w.heap.size w w' := by
  have HL : Hid (Lst w lo ll A C L H) := hl
  clear hl
  go_enter Try.func6, Try.ntmps6
  go_wp2_with fail
  refine (alive_any w).mono ?_
  rintro e w1 ⟨rfl, b1⟩
  replace HL : Hid (Lst w1 lo ll A C L H) := HL.out.below b1
  have MU := much_any w1 lo ll cl A C L H HL.out
  cases hfew : fewB ll L
  · rw [hfew] at MU
    go_wp2_with fail
    refine MU.mono ?_
    rintro e w' ⟨rfl, hw'⟩
    obtain rfl := hw'.symm
    go_wp2_with fail
    go_ret
    exact ⟨rfl, b1⟩
  · rw [hfew] at MU
    clear hfew
    go_wp2_with fail
    refine MU.mono ?_
    rintro e w' ⟨rfl, hw'⟩
    obtain rfl := hw'.symm
    clear MU
    go_wp2_with fail
    refine (inverse_any w1 lo ll cl A C L H HL.out).mono ?_
    rintro e w2 ⟨vo, vc, rfl, hv, b2⟩
    have HV : Hid (Ans w1 w2 vo (lenB (okInv ll L H) ll) vc ll (invOf ll H)) := hv
    replace HL : Hid (Lst w2 lo ll A C L H) := HL.out.below b2
    replace b1 := below_step b1 b2 b1.size
    clear hv b2
    go_wp2_with fail
    refine (rank_any w2 lo ll cl A C L H HL.out).mono ?_
    rintro e w3 ⟨rfl, b3⟩
    replace HL : Hid (Lst w3 lo ll A C L H) := HL.out.below b3
    have HV3 : Hid (∃ A C, Lst w3 vo (lenB (okInv ll L H) ll) A C (fun _ => ll) (invOf ll H)) := by
      obtain ⟨A, C, h⟩ := HV.out.lst
      exact ⟨A, C, h.below b3⟩
    replace b1 := below_step b1 b3 b1.size
    clear b3 HV
    cases hok : okM ll L
    · rw [show rankV ll L H = 0 by unfold rankV; rw [hok]; rfl, show okInv ll L H = false by unfold okInv okSq; rw [hok]; rfl, show errM (okSq ll L) 5 = 30 by unfold okSq; rw [hok]; rfl]
      have e1 : errB false 30 = 30 := rfl
      have e2 : lenB false ll = 0 := rfl
      clear hok HV3
      go_wp2_with fail
      go_ret
      exact ⟨rfl, b1⟩
    · obtain ⟨h1, h2, h3, h4, h5⟩ := okM_true hok
      obtain ⟨b, off, rfl, hcl⟩ := HL.out.at_ (by omega)
      have c0 := hcl 0 (by omega)
      rw [Nat.add_zero] at c0
      have i0 : 0 < ll := by omega
      have i1 : (0 : Int) < (ll : Int) := by omega
      clear hcl
      by_cases hsq : L 0 = ll
      · rw [hsq] at c0
        have hbq : ((ll : Int) == (ll : Int)) = true := by simp
        rw [show rankV ll L H = rankOf ll ll H by unfold rankV; rw [hok, hsq]; rfl, show okInv ll L H = invB ll H by unfold okInv okSq; rw [hok, hsq]; simp, show errM (okSq ll L) 5 = 5 by unfold okSq; rw [hok, hsq]; simp [errM]]
        rw [show okInv ll L H = invB ll H by unfold okInv okSq; rw [hok, hsq]; simp] at HV3
        have HL5 : Hid (∀ i, i < ll → L i = ll) := fun i hi => by rw [h5 i hi, hsq]
        clear h5 hsq hok
        have hI := invB_rk ll H
        have hle := (rankOf_rk ll ll H).le
        cases hinv : invB ll H
        · have hlt : rankOf ll ll H < ll := by
            rw [hinv] at hI
            have := of_decide_eq_false hI.symm
            omega
          have e1 : errB false 5 = 5 := rfl
          have e2 : lenB false ll = 0 := rfl
          have e3 : errB true 30 = 0 := rfl
          clear hI hinv HV3 hle
          generalize rankOf ll ll H = r at *
          go_wp2_with fail
          go_ret
          exact ⟨rfl, b1⟩
        · have hrk : rankOf ll ll H = ll := by
            rw [hinv] at hI
            exact of_decide_eq_true hI.symm
          have e1 : errB true 5 = 0 := rfl
          have e2 : lenB true ll = ll := rfl
          have e3 : errB true 30 = 0 := rfl
          have e4 : errB true 2 = 0 := rfl
          have IV : Hid (IsInv ll H (invOf ll H)) := invB_is hinv
          rw [hinv] at HV3
          rw [hrk, e2, e1, e3]
          clear hI hle hinv hrk
          obtain ⟨V, hV⟩ : ∃ V, V = invOf ll H := ⟨_, rfl⟩
          rw [← hV] at HV3 IV
          clear hV
          obtain ⟨A', C', hv3⟩ := HV3.out
          have HV : Hid (Lst w3 vo ll A' C' (fun _ => ll) V) := hv3
          clear HV3 hv3
          replace HL : Hid (Lst w3 (some ⟨b, off, none⟩) ll A C (fun _ => ll) H) := HL.out.len HL5.out
          clear HL5 h3 h4
          go_wp2_with fail
          refine (mulm_any w3 _ vo ll cl ll vc A A' C (fun _ => ll) C' (fun _ => ll) H V HL.out HV.out).mono ?_
          intro e w4 h4
          rw [okMul_fit h1 h2 h1 h2 h1 h2] at h4
          obtain ⟨ao, ac, A4, C4, rfl, o4, b4⟩ := good_of h4
          have HA : Hid (Lst w4 ao ll A4 C4 (fun _ => ll) (mm ll H V)) := o4
          replace HL : Hid (Lst w4 (some ⟨b, off, none⟩) ll A C (fun _ => ll) H) := HL.out.below b4
          replace HV : Hid (Lst w4 vo ll A' C' (fun _ => ll) V) := HV.out.below b4
          replace b1 := below_step b1 b4 b1.size
          clear h4 o4 b4
          go_wp2_with fail
          refine (mulm_any w4 vo _ ll vc ll cl A' A C' (fun _ => ll) C (fun _ => ll) V H HV.out HL.out).mono ?_
          intro e w5 h5
          rw [okMul_fit h1 h2 h1 h2 h1 h2] at h5
          obtain ⟨bo, bc, A5, C5, rfl, o5, b5⟩ := good_of h5
          have HB : Hid (Lst w5 bo ll A5 C5 (fun _ => ll) (mm ll V H)) := o5
          replace HL : Hid (Lst w5 (some ⟨b, off, none⟩) ll A C (fun _ => ll) H) := HL.out.below b5
          replace HV : Hid (Lst w5 vo ll A' C' (fun _ => ll) V) := HV.out.below b5
          replace HA : Hid (Lst w5 ao ll A4 C4 (fun _ => ll) (mm ll H V)) := HA.out.below b5
          replace b1 := below_step b1 b5 b1.size
          clear h5 o5 b5
          go_wp2_with fail
          refine (one_any w5 (ll : Int)).mono ?_
          intro e w6 h6
          rw [okN_of h1 (by omega), Int.toNat_natCast] at h6
          obtain ⟨oo, oc, A6, C6, rfl, o6, b6⟩ := good_of h6
          have HO : Hid (Lst w6 oo ll A6 C6 (fun _ => ll) one) := o6
          replace HL : Hid (Lst w6 (some ⟨b, off, none⟩) ll A C (fun _ => ll) H) := HL.out.below b6
          replace HV : Hid (Lst w6 vo ll A' C' (fun _ => ll) V) := HV.out.below b6
          replace HA : Hid (Lst w6 ao ll A4 C4 (fun _ => ll) (mm ll H V)) := HA.out.below b6
          replace HB : Hid (Lst w6 bo ll A5 C5 (fun _ => ll) (mm ll V H)) := HB.out.below b6
          replace b1 := below_step b1 b6 b1.size
          clear h6 o6 b6
          go_wp2_with fail
          refine (inverse_any w6 vo ll vc A' C' (fun _ => ll) V HV.out).mono ?_
          intro e w7 h7
          rw [okInv_of h1 h2 IV.out.symm] at h7
          obtain ⟨wo, wc, A7, C7, rfl, o7, b7⟩ := good_of h7
          have HW : Hid (Lst w7 wo ll A7 C7 (fun _ => ll) (invOf ll V)) := o7
          replace HL : Hid (Lst w7 (some ⟨b, off, none⟩) ll A C (fun _ => ll) H) := HL.out.below b7
          replace HA : Hid (Lst w7 ao ll A4 C4 (fun _ => ll) (mm ll H V)) := HA.out.below b7
          replace HB : Hid (Lst w7 bo ll A5 C5 (fun _ => ll) (mm ll V H)) := HB.out.below b7
          replace HO : Hid (Lst w7 oo ll A6 C6 (fun _ => ll) one) := HO.out.below b7
          replace b1 := below_step b1 b7 b1.size
          clear h7 o7 b7 HV
          go_wp2_with fail
          refine (same_any w7 ao oo ll ac oc A4 A6 C4 C6 (fun _ => ll) (fun _ => ll) _ _ HA.out HO.out (fun _ _ => rfl) (fun i j hi hj => ((IV.out i j hi hj).2).symm) (by omega)).mono ?_
          rintro e w8 ⟨rfl, hq⟩
          have bq := drewN_below hq
          replace HL : Hid (Lst w8 (some ⟨b, off, none⟩) ll A C (fun _ => ll) H) := HL.out.below bq
          replace HB : Hid (Lst w8 bo ll A5 C5 (fun _ => ll) (mm ll V H)) := HB.out.below bq
          replace HO : Hid (Lst w8 oo ll A6 C6 (fun _ => ll) one) := HO.out.below bq
          replace HW : Hid (Lst w8 wo ll A7 C7 (fun _ => ll) (invOf ll V)) := HW.out.below bq
          replace b1 := below_step b1 bq b1.size
          clear hq bq HA
          go_wp2_with fail
          refine (same_any w8 bo oo ll bc oc A5 A6 C5 C6 (fun _ => ll) (fun _ => ll) _ _ HB.out HO.out (fun _ _ => rfl) (fun i j hi hj => ((IV.out i j hi hj).1).symm) (by omega)).mono ?_
          rintro e w9 ⟨rfl, hq⟩
          have bq := drewN_below hq
          replace HL : Hid (Lst w9 (some ⟨b, off, none⟩) ll A C (fun _ => ll) H) := HL.out.below bq
          replace HW : Hid (Lst w9 wo ll A7 C7 (fun _ => ll) (invOf ll V)) := HW.out.below bq
          replace b1 := below_step b1 bq b1.size
          clear hq bq HB HO
          go_wp2_with fail
          refine (same_any w9 wo _ ll wc cl A7 A C7 C (fun _ => ll) (fun _ => ll) _ _ HW.out HL.out (fun _ _ => rfl) (fun i j hi hj => invOf_eq IV.out.symm i j hi hj) (by omega)).mono ?_
          rintro e w10 ⟨rfl, hq⟩
          replace b1 := below_step b1 (drewN_below hq) b1.size
          clear hq HL HW
          go_wp2_with fail
          go_ret
          exact ⟨rfl, b1⟩
      · have hbq : ((ll : Int) != (L 0 : Int)) = true := by simp; omega
        rw [show okInv ll L H = false by unfold okInv okSq; rw [hok]; simp [hsq], show errM (okSq ll L) 5 = 30 by unfold okSq; rw [hok]; simp [hsq, errM]]
        have e1 : errB false 30 = 30 := rfl
        have e2 : lenB false ll = 0 := rfl
        have e3 : errB true 30 = 0 := rfl
        clear hok h5 HV3
        generalize rankV ll L H = r at *
        go_wp2_with fail
        go_ret
        exact ⟨rfl, b1⟩
end Go.Proofs.Ytpfpldmmdbgnnaa
