/- What Inverse of the program answers. -/
import Derived.Test.YthkikocacbbhkaaMatH
namespace Go.Proofs.Ythkikocacbbhkaa
open Go.RowKit

def okSq (ll : Nat) (L : Nat → Nat) : Bool := okM ll L && decide (L 0 = ll)
def okInv (ll : Nat) (L : Nat → Nat) (H : M) : Bool := okSq ll L && invB ll H

set_option maxHeartbeats 400000 in
set_option maxRecDepth 100000 in
theorem beside_rule (w : World) (p p' : Nat) (lo : Option Addr) (n cl : Nat) (A : Nat → Option Addr) (C L : Nat → Nat) (H : M) (hp : w.cell? ⟨p, 0, none⟩ = some (.int .i64 (n : Int))) (hp' : w.cell? ⟨p', 0, none⟩ = some (.slice lo n cl)) (hl : Lst w lo n A C L H) (hL : ∀ i, i < n → L i = n) (hn : n ≤ 1000) :
    Rule w 62 #[.pointer (some ⟨p, 0, none⟩), .pointer (some ⟨p', 0, none⟩)] n (2 * n) (beside n H) := by
  intro w' i j hb hi hj
  show Calls Try.prog 62 #[.int .i64 (i : Int), .int .i64 (j : Int), .pointer (some ⟨p, 0, none⟩), .pointer (some ⟨p', 0, none⟩)] w' _
  have c0 := held hp hb
  have c1 := held hp' hb
  by_cases hjn : j < n
  · rw [show beside n H i j = H i j from if_pos hjn]
    obtain ⟨b1, off1, b2, off2, rfl, _, c3, c4⟩ := (hl.below hb).spot hi (show j < L i by rw [hL i hi]; exact hjn)
    rw [hL i hi] at c3
    clear hp hp' hl hb hL
    have i1 : (0 : Int) ≤ (i : Int) := by omega
    have i2 : (i : Int) < (n : Int) := by omega
    have i3 : (0 : Int) ≤ (j : Int) := by omega
    have i4 : (j : Int) < (n : Int) := by omega
    go_enter Try.func62, Try.ntmps62
    go_wp2
    go_ret
    exact ⟨rfl, 0, rfl⟩
  · rw [show beside n H i j = one i (j - n) from if_neg hjn]
    have HU := unit_any w' i (j - n)
    rw [show ((j - n : Nat) : Int) = (j : Int) - (n : Int) by omega] at HU
    clear hp hp' hl hb hL c1
    go_enter Try.func62, Try.ntmps62
    go_wp2_with fail
    refine HU.mono ?_
    rintro e w'' ⟨rfl, hw'⟩
    obtain rfl := hw'.symm
    go_wp2_with fail
    go_ret
    exact ⟨rfl, 0, rfl⟩

set_option maxHeartbeats 400000 in
set_option maxRecDepth 100000 in
theorem right_rule (w : World) (p p' : Nat) (lo : Option Addr) (n cl m : Nat) (A : Nat → Option Addr) (C L : Nat → Nat) (P : M) (hp : w.cell? ⟨p, 0, none⟩ = some (.slice lo n cl)) (hp' : w.cell? ⟨p', 0, none⟩ = some (.int .i64 (n : Int))) (hl : Lst w lo n A C L P) (hL : ∀ i, i < n → L i = m) (hm : m = 2 * n) (hn : n ≤ 1000) :
    Rule w 64 #[.pointer (some ⟨p, 0, none⟩), .pointer (some ⟨p', 0, none⟩)] n n (fun i j => P i (n + j)) := by
  intro w' i j hb hi hj
  show Calls Try.prog 64 #[.int .i64 (i : Int), .int .i64 (j : Int), .pointer (some ⟨p, 0, none⟩), .pointer (some ⟨p', 0, none⟩)] w' _
  have c0 := held hp hb
  have c1 := held hp' hb
  obtain ⟨b1, off1, b2, off2, rfl, _, c3, c4⟩ := (hl.below hb).spot hi (show n + j < L i by rw [hL i hi]; omega)
  rw [hL i hi] at c3
  clear hp hp' hl hb hL
  have i1 : (0 : Int) ≤ (i : Int) := by omega
  have i2 : (i : Int) < (n : Int) := by omega
  have i3 : (0 : Int) ≤ (n : Int) + (j : Int) := by omega
  have i4 : (n : Int) + (j : Int) < (m : Int) := by omega
  have i5 : ((n : Int) + (j : Int)).toNat = n + j := by omega
  go_enter Try.func64, Try.ntmps64
  go_wp2
  go_quiet (fail)
  go_wp2
  go_ret
  exact ⟨rfl, _, rfl⟩

set_option maxHeartbeats 1000000 in
set_option maxRecDepth 100000 in
theorem inverse_any (w : World) (lo : Option Addr) (ll cl : Nat) (A : Nat → Option Addr) (C L : Nat → Nat) (H : M) (hl : Lst w lo ll A C L H) :
    Calls Try.prog 51 #[.slice lo ll cl] w (Made w (okInv ll L H) (errM (okSq ll L) 5) ll ll (invOf ll H)) := by
  obtain ⟨w1, hw1⟩ : ∃ w1, w1 = w.alloc (.cells #[.slice lo ll cl] 24) := ⟨_, rfl⟩
  have hb1 : Below w.heap.size w w1 := by rw [hw1]; exact (Below.refl _ _).alloc (Nat.le_refl _) _
  have cp : w1.cell? ⟨w.heap.size, 0, none⟩ = some (.slice lo ll cl) := by rw [hw1, World.cell?_alloc_at _ _ _ _ rfl]; rfl
  have HL1 : Hid (Lst w1 lo ll A C L H) := hl.below hb1
  have CA := fun m => check_any (w1.drewN m) lo ll cl A C L H (HL1.out.below (below_drewN _ _ m))
  clear hl
  cases hok : okM ll L
  · rw [show okInv ll L H = false by unfold okInv okSq; rw [hok]; rfl, show errM (okSq ll L) 5 = 30 by unfold okSq; rw [hok]; rfl]
    rw [hok] at CA
    have HCA : Hid (∀ m, Calls Try.prog 61 #[.slice lo ll cl] (w1.drewN m) fun e w' => e = .returned (.int .i64 30) ∧ w' = w1.drewN m) := CA
    clear hok CA
    go_enter Try.func51, Try.ntmps51
    go_wp2_with fail
    rw [← hw1]
    clear hw1
    go_quiet (first | (go_at_call 61; exact Calls.quiet_of_same (HCA.out _)))
    go_wp2
    go_ret2
    exact made_no (below_step hb1 (below_drewN _ _ _) hb1.size)
  · rw [hok] at CA
    have HCA : Hid (∀ m, Calls Try.prog 61 #[.slice lo ll cl] (w1.drewN m) fun e w' => e = .returned (.int .i64 0) ∧ w' = w1.drewN m) := CA
    obtain ⟨h1, h2, h3, h4, h5⟩ := okM_true hok
    obtain ⟨b, off, rfl, hcl⟩ := HL1.out.at_ (by omega)
    have c0 := hcl 0 (by omega)
    rw [Nat.add_zero] at c0
    have i0 : 0 < ll := by omega
    have i1 : (0 : Int) < (ll : Int) := by omega
    clear CA hcl
    by_cases hsq : L 0 = ll
    · rw [show okInv ll L H = invB ll H by unfold okInv okSq; rw [hok, hsq]; simp, show errM (okSq ll L) 5 = 5 by unfold okSq; rw [hok, hsq]; simp [errM]]
      have HL5 : Hid (∀ i, i < ll → L i = ll) := fun i hi => by rw [h5 i hi, hsq]
      rw [hsq] at c0
      have hbq : ((ll : Int) != (ll : Int)) = false := by simp
      have hmf := makes
      clear h5 hsq hok h3 h4
      go_enter Try.func51, Try.ntmps51
      go_wp2_with fail
      rw [← hw1]
      clear hw1
      go_quiet (first | (go_at_call 61; exact Calls.quiet_of_same (HCA.out _)))
      have hb2 : Below w.heap.size w (w1.drewN nq) := ⟨hb1.os, hb1.tape, hb1.output, hb1.size, hb1.block⟩
      have dp : (w1.drewN nq).cell? ⟨w.heap.size, 0, none⟩ = some (.slice (some ⟨b, off, none⟩) ll cl) := cp
      have HL2 : Hid (Lst (w1.drewN nq) (some ⟨b, off, none⟩) ll A C L H) := HL1.out.below (below_drewN _ _ _)
      clear cp c0 hb1 HL1 HCA
      generalize w1.drewN nq = wq at *
      obtain ⟨w2, hw2⟩ : ∃ w2, w2 = wq.alloc (.cells #[.int .i64 (ll : Int)] 3) := ⟨_, rfl⟩
      have bn : Below wq.heap.size wq w2 := by rw [hw2]; exact (Below.refl _ _).alloc (Nat.le_refl _) _
      have cn : w2.cell? ⟨wq.heap.size, 0, none⟩ = some (.int .i64 (ll : Int)) := by rw [hw2, World.cell?_alloc_at _ _ _ _ rfl]; rfl
      have hb3 : Below w.heap.size w w2 := below_step hb2 bn hb2.size
      have HMD := made_any w2 ll (2 * ll) 62 _ (beside ll H) (by omega) (by omega) (fun _ _ => rfl) (beside_rule w2 wq.heap.size w.heap.size (some ⟨b, off, none⟩) ll cl A C L H cn (held dp bn) (HL2.out.below bn) HL5.out (by omega))
      rw [show ((2 * ll : Nat) : Int) = 2 * (ll : Int) by omega] at HMD
      go_wp2_with fail
      rw [← hw2]
      refine HMD.mono ?_
      rintro e w3 ⟨l, G, U, rfl, hm, hbm⟩
      have HM3 : Hid (Mat w3 w2.heap.size w3.heap.size l ll ll (2 * ll) G U (beside ll H)) := hm
      have cn3 : w3.cell? ⟨wq.heap.size, 0, none⟩ = some (.int .i64 (ll : Int)) := held cn hbm
      have ln3 : wq.heap.size < w2.heap.size := World.block_lt_of_cell? w2 _ cn
      have ls3 : w2.heap.size ≤ w3.heap.size := hbm.size
      have hb4 : Below w.heap.size w w3 := below_step hb3 hbm hb3.size
      have hs4 : w.heap.size ≤ w2.heap.size := hb3.size
      clear hm hbm HMD hw2 cn bn HL2 dp hb2 hb3
      obtain ⟨pn, hpn⟩ : ∃ pn, pn = wq.heap.size := ⟨_, rfl⟩
      rw [← hpn] at cn3 ln3 ⊢
      clear hpn
      obtain ⟨w4, hw4⟩ : ∃ w4, w4 = w3.alloc (.cells #[.slice (some ⟨l, 0, none⟩) ll ll] 24) := ⟨_, rfl⟩
      have bn : Below w3.heap.size w3 w4 := by rw [hw4]; exact (Below.refl _ _).alloc (Nat.le_refl _) _
      have cb4 : w4.cell? ⟨w3.heap.size, 0, none⟩ = some (.slice (some ⟨l, 0, none⟩) ll ll) := by rw [hw4, World.cell?_alloc_at _ _ _ _ rfl]; rfl
      have cn4 := held cn3 bn
      have HM4 : Hid (Mat w4.drew w2.heap.size w3.heap.size l ll ll (2 * ll) G U (beside ll H)) := (HM3.out.below bn).below (below_drew _ _)
      have hb5 : Below w.heap.size w w4 := below_step hb4 bn hb4.size
      have HRD : Hid (Calls Try.prog 63 #[.slice (some ⟨l, 0, none⟩) ll ll, .int .i64 (ll : Int)] w4.drew fun e w' => ∃ b P G U, e = .returned (.int .i64 ((b : Nat) : Int)) ∧ Red true ll (beside ll H) ll b P ∧ Mat w' w2.heap.size w3.heap.size l ll ll (2 * ll) G U P ∧ Keeps w2.heap.size w3.heap.size w4.drew w') :=
        reduce_any w4.drew _ _ l ll ll (2 * ll) ll G U (beside ll H) (by omega) (by omega) (by omega) HM4.out
      go_wp2_with fail
      rw [← hw4]
      clear hw4 cn3 HM3 HM4 bn hb4
      obtain ⟨pb, hpb⟩ : ∃ pb, pb = w3.heap.size := ⟨_, rfl⟩
      rw [← hpb] at cb4 ls3 HRD ⊢
      clear hpb
      go_region_held3 (fun w' => w'.cell? ⟨pn, 0, none⟩ = some (.int .i64 (ll : Int)) ∧ w'.cell? ⟨pb, 0, none⟩ = some (.slice (some ⟨l, 0, none⟩) ll ll)) (go_keep)
        ((go_at_call 63; refine HRD.out.mono ?_; rintro e w5 ⟨r, P, G', U', rfl, hred, hm5, hk5⟩; have cn5 : w5.cell? ⟨pn, 0, none⟩ = some (.int .i64 (ll : Int)) := hk5.cell (w := w4.drew) cn4 (.inl ln3); have cb5 : w5.cell? ⟨pb, 0, none⟩ = some (.slice (some ⟨l, 0, none⟩) ll ll) := hk5.cell (w := w4.drew) cb4 (.inr (Nat.le_refl _))))
      have HRed : Hid (Red true ll (beside ll H) ll r P) := hred
      have HM5 : Hid (Mat w5 w2.heap.size pb l ll ll (2 * ll) G' U' P) := hm5
      have hb6 : Below w.heap.size w w5 := hb5.drew.trans (hk5.below hb5.size hs4)
      have hrn : r ≤ ll := hred.rows
      clear hred hm5 hk5 HRD cn4 cb4
      by_cases hr : r < ll
      · have hI : Hid (invB ll H = false) := by rw [invB_rk, rankOf_eq (beside_rk HRed.out.rk)]; exact decide_eq_false (by omega)
        go_wp2_with fail
        go_ret2
        rw [hI.out]
        exact made_no hb6
      · obtain rfl : r = ll := by omega
        have HV : Hid (IsInv r H (fun i j => (K.mul (P i (r + j)) ((P i i).inv)))) := HRed.out.inv
        have HMD := made_any w5 r r 64 _ (fun i j => P i (r + j)) (by omega) (by omega) (fun _ _ => rfl) (right_rule w5 pb pn _ r r (2 * r) _ _ _ P cb5 cn5 HM5.out.lst_ (fun _ _ => rfl) rfl (by omega))
        go_wp2_with fail
        refine HMD.mono ?_
        rintro e w6 ⟨l6, G6, U6, rfl, hm6, hb7⟩
        go_wp2_with fail
        go_ret2
        rw [show invB r H = true from invB_of HV.out]
        refine made_of hb6 (hm6.congr fun i j hi hj => ?_) hb7
        rw [← invOf_eq HV.out i j hi hj, HRed.out.one_diag i hi]
        have : (1 : K).inv = 1 := by have := K.mul_inv K.one_ne_zero; rwa [K.one_mul] at this
        rw [this, K.mul_one]
    · have hbq : ((L 0 : Int) != (ll : Int)) = true := by simp; omega
      rw [show okInv ll L H = false by unfold okInv okSq; rw [hok]; simp [hsq], show errM (okSq ll L) 5 = 30 by unfold okSq; rw [hok]; simp [hsq, errM]]
      clear hok h5
      go_enter Try.func51, Try.ntmps51
      go_wp2_with fail
      rw [← hw1]
      clear hw1
      go_quiet (first | (go_at_call 61; exact Calls.quiet_of_same (HCA.out _)))
      go_wp2
      go_ret2
      exact made_no (below_step hb1 (below_drewN _ _ _) hb1.size)
end Go.Proofs.Ythkikocacbbhkaa
