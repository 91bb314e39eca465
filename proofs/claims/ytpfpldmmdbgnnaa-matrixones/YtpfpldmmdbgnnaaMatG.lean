/- What Mul, Pick, Rank and Inverse of the program answer. -/
import Derived.Test.YtpfpldmmdbgnnaaMatF
namespace Go.Proofs.Ytpfpldmmdbgnnaa
open Go.RowKit

def okMul (la : Nat) (La : Nat → Nat) (lb : Nat) (Lb : Nat → Nat) : Bool := okM la La && (okM lb Lb && decide (La 0 = lb))

theorem below_2 (w : World) (o o' : Obj) : Below w.heap.size w ((w.alloc o).alloc o') := ((Below.refl _ _).alloc (Nat.le_refl _) o).alloc (by simp) o'

set_option maxHeartbeats 1000000 in
set_option maxRecDepth 100000 in
theorem mulm_any (w : World) (ao bo : Option Addr) (la ca lb cb : Nat) (A B : Nat → Option Addr) (C La D Lb : Nat → Nat) (H H' : M) (ha : Lst w ao la A C La H) (hb : Lst w bo lb B D Lb H') :
    Calls Try.prog 27 #[.slice ao la ca, .slice bo lb cb] w (Made w (okMul la La lb Lb) 30 la (Lb 0) (mm lb H H')) := by
  obtain ⟨w1, hw1⟩ : ∃ w1, w1 = (w.alloc (.cells #[.slice ao la ca] 23)).alloc (.cells #[.slice bo lb cb] 23) := ⟨_, rfl⟩
  have hb1 : Below w.heap.size w w1 := by rw [hw1]; exact below_2 w _ _
  have cp : w1.cell? ⟨w.heap.size, 0, none⟩ = some (.slice ao la ca) := by rw [hw1, World.cell?_alloc_past _ _ _ (by simp), World.cell?_alloc_at _ _ _ _ rfl]; rfl
  have cq : w1.cell? ⟨w.heap.size + 1, 0, none⟩ = some (.slice bo lb cb) := by rw [hw1, World.cell?_alloc_at _ _ _ _ (by simp)]; rfl
  have ha1 := ha.below hb1
  have hl1 := hb.below hb1
  have CA := fun m => check_any (w1.drewN m) ao la ca A C La H (ha1.below (below_drewN _ _ m))
  have CB := fun m => check_any (w1.drewN m) bo lb cb B D Lb H' (hl1.below (below_drewN _ _ m))
  have HA1 : Hid (Lst w1 ao la A C La H) := ha1
  have HB1 : Hid (Lst w1 bo lb B D Lb H') := hl1
  have hmf := makes
  clear ha hb ha1 hl1
  cases hok : okM la La
  · rw [hok] at CA
    have HCA : Hid (∀ m, Calls Try.prog 13 #[.slice ao la ca] (w1.drewN m) fun e w' => e = .returned (.int .i64 30) ∧ w' = w1.drewN m) := CA
    rw [show okMul la La lb Lb = false by unfold okMul; rw [hok]; rfl]
    clear CA CB hok
    go_enter Try.func27, Try.ntmps27
    go_wp2_with fail
    rw [← hw1]
    clear hw1
    go_quiet (first | (go_at_call_of 13 (Value.slice ao la ca); exact Calls.quiet_of_same (HCA.out _)))
    go_wp2
    go_ret2
    exact made_no (below_step hb1 (below_drewN _ _ _) hb1.size)
  · rw [hok] at CA
    have HCA : Hid (∀ m, Calls Try.prog 13 #[.slice ao la ca] (w1.drewN m) fun e w' => e = .returned (.int .i64 0) ∧ w' = w1.drewN m) := CA
    cases hok2 : okM lb Lb
    · rw [hok2] at CB
      have HCB : Hid (∀ m, Calls Try.prog 13 #[.slice bo lb cb] (w1.drewN m) fun e w' => e = .returned (.int .i64 30) ∧ w' = w1.drewN m) := CB
      rw [show okMul la La lb Lb = false by unfold okMul; rw [hok, hok2]; rfl]
      clear CA CB hok hok2
      go_enter Try.func27, Try.ntmps27
      go_wp2_with fail
      rw [← hw1]
      clear hw1
      go_quiet (first | (go_at_call_of 13 (Value.slice ao la ca); exact Calls.quiet_of_same (HCA.out _)) | (go_at_call_of 13 (Value.slice bo lb cb); exact Calls.quiet_of_same (HCB.out _)))
      go_wp2
      go_ret2
      exact made_no (below_step hb1 (below_drewN _ _ _) hb1.size)
    · rw [hok2] at CB
      have HCB : Hid (∀ m, Calls Try.prog 13 #[.slice bo lb cb] (w1.drewN m) fun e w' => e = .returned (.int .i64 0) ∧ w' = w1.drewN m) := CB
      obtain ⟨h1, h2, h3, h4, h5⟩ := okM_true hok
      obtain ⟨g1, g2, g3, g4, g5⟩ := okM_true hok2
      obtain ⟨b, off, rfl, hca⟩ := HA1.out.at_ (by omega)
      have c0 := hca 0 (by omega)
      rw [Nat.add_zero] at c0
      obtain ⟨b', off', rfl, hcb⟩ := HB1.out.at_ (by omega)
      have c1 := hcb 0 (by omega)
      rw [Nat.add_zero] at c1
      clear hca hcb CA CB
      obtain ⟨n, hn⟩ : ∃ n, n = La 0 := ⟨_, rfl⟩
      obtain ⟨q, hq⟩ : ∃ q, q = Lb 0 := ⟨_, rfl⟩
      rw [← hn] at c0
      rw [← hq] at c1
      have i0 : 0 < la := by omega
      have i1 : (0 : Int) < (la : Int) := by omega
      have i2 : 0 < lb := by omega
      have i3 : (0 : Int) < (lb : Int) := by omega
      by_cases hf : n = lb
      · subst hf
        rw [show okMul la La n Lb = true by unfold okMul; rw [hok, hok2, ← hn]; simp, ← hq]
        have hbq : ((n : Int) != (n : Int)) = false := by simp
        have HMD : Hid (∀ m, Calls Try.prog 34 #[.int .i64 (la : Int), .int .i64 (q : Int), .func (.func 47) #[] #[.pointer (some ⟨w.heap.size, 0, none⟩), .pointer (some ⟨w.heap.size + 1, 0, none⟩)]] (w1.drewN m).drew fun e w' => ∃ l G U, e = .returned (.slice (some ⟨l, 0, none⟩) la la) ∧ Mat w' (w1.drewN m).drew.heap.size w'.heap.size l la la q G U (mm n H H') ∧ Below (w1.drewN m).drew.heap.size (w1.drewN m).drew w') := fun m =>
          made_any (w1.drewN m).drew la q 47 _ (mm n H H') (by omega) (by omega) (fun _ _ => rfl) (mul_rule (w1.drewN m).drew w.heap.size (w.heap.size + 1) (some ⟨b, off, none⟩) (some ⟨b', off', none⟩) la ca n cb A B C La D Lb H H' cp cq
            (HA1.out.below ⟨rfl, rfl, rfl, Nat.le_refl _, fun _ _ => rfl⟩) (HB1.out.below ⟨rfl, rfl, rfl, Nat.le_refl _, fun _ _ => rfl⟩) q (fun i hi => by rw [hn]; exact h5 i hi) (fun i hi => by rw [hq]; exact g5 i hi) (by omega))
        clear hok hok2 h5 g5 hn hq
        go_enter Try.func27, Try.ntmps27
        go_wp2_with fail
        rw [← hw1]
        clear hw1
        go_quiet (first | (go_at_call_of 13 (Value.slice (some ⟨b, off, none⟩) la ca); exact Calls.quiet_of_same (HCA.out _)) | (go_at_call_of 13 (Value.slice (some ⟨b', off', none⟩) n cb); exact Calls.quiet_of_same (HCB.out _)))
        replace HMD := HMD.out nq
        have hb2 : Below w.heap.size w (w1.drewN nq).drew := ⟨hb1.os, hb1.tape, hb1.output, hb1.size, hb1.block⟩
        have dp : (w1.drewN nq).cell? ⟨w.heap.size, 0, none⟩ = some (.slice (some ⟨b, off, none⟩) la ca) := cp
        have dq : (w1.drewN nq).cell? ⟨w.heap.size + 1, 0, none⟩ = some (.slice (some ⟨b', off', none⟩) n cb) := cq
        have d1 : (w1.drewN nq).cell? ⟨b', off', none⟩ = some (.slice (B 0) q (D 0)) := c1
        clear cp cq c0 c1 hb1 HA1 HB1 HCA HCB
        generalize w1.drewN nq = wq at *
        go_wp2
        refine wp_region_still_tail 7 (by kernel_rfl) (by kernel_rfl) ?_
        simp only [List.take_succ_cons, List.take_zero, List.drop_succ_cons, List.drop_zero]
        repeat still_step
        refine wpStill_nil ?_
        go_wp2_with fail
        refine HMD.mono ?_
        rintro e w2 ⟨l, G, U, rfl, hm, hb⟩
        go_wp2_with fail
        go_ret2
        exact made_of hb2 hm hb
      · rw [show okMul la La lb Lb = false by unfold okMul; rw [hok, hok2, ← hn]; simp [hf]]
        have hbq : ((n : Int) != (lb : Int)) = true := by simp; omega
        clear hok hok2 h5 g5 hn hq
        go_enter Try.func27, Try.ntmps27
        go_wp2_with fail
        rw [← hw1]
        clear hw1
        go_quiet (first | (go_at_call_of 13 (Value.slice (some ⟨b, off, none⟩) la ca); exact Calls.quiet_of_same (HCA.out _)) | (go_at_call_of 13 (Value.slice (some ⟨b', off', none⟩) lb cb); exact Calls.quiet_of_same (HCB.out _)))
        go_wp2
        go_ret2
        exact made_no (below_step hb1 (below_drewN _ _ _) hb1.size)
end Go.Proofs.Ytpfpldmmdbgnnaa
