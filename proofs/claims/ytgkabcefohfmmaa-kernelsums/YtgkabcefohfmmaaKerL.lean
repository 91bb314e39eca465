/- The walk of the statement that sums and multiples of any two slices are what the document says, and that nothing that is handed in changes. -/
import Derived.Test.YtgkabcefohfmmaaKerK
namespace Go.Proofs.Ytgkabcefohfmmaa
open Go.RowKit

/-- Where a slice lies, if anywhere. -/
def Rng (ro : Option Addr) (l u : Nat) : Prop := ∀ a, ro = some a → l ≤ a.block ∧ a.block < u
theorem off_lo {ro : Option Addr} {l u lo g : Nat} (h : Rng ro l u) (h1 : u ≤ lo) (h2 : lo ≤ g) : Off ro g := fun a ha => by have := h a ha; omega
theorem off_hi {ro : Option Addr} {l u hi W g : Nat} (h : Rng ro l u) (h1 : hi ≤ l) (h2 : u ≤ W) (h3 : g < hi ∨ W ≤ g) : Off ro g := fun a ha => by have := h a ha; omega
theorem lenB_le (b : Bool) (n : Nat) : lenB b n ≤ n := by unfold lenB; split; exact Nat.le_refl _; exact Nat.zero_le _
theorem lenD_le (la : Nat) (n : Int) : lenB (okD la n) n.toNat ≤ 65536 := by
  unfold lenB
  split
  · rename_i h; have := okD_true h; omega
  · exact Nat.zero_le _

set_option maxHeartbeats 4000000 in
set_option maxRecDepth 100000 in
theorem sums_walk (w : World) (c : Nat) (ao bo : Option Addr) (la ca lb cb : Nat) (n : Int) (f h : Nat → Nat) (hc : c < 256) (hna : ao = none → la = 0 ∧ ca = 0) (hnb : bo = none → lb = 0 ∧ cb = 0)
    (ha : Rd w ao la f) (hb : Rd w bo lb h) (hla : la ≤ 9223372036854775807) (hlb : lb ≤ 9223372036854775807) :
    Calls Try.prog 4 #[.slice ao la ca, .slice bo lb cb, .int .u8 (c : Int), .int .i64 n] w fun e w' => e = .returned (.bool true) ∧ Below w.heap.size w w' := by
  have HA : Hid (Rd w ao la f) := ha
  have HB : Hid (Rd w bo lb h) := hb
  have HNA : Hid (ao = none → la = 0 ∧ ca = 0) := hna
  have HNB : Hid (bo = none → lb = 0 ∧ cb = 0) := hnb
  have QA : Hid (0 < la → Rng ao 0 w.heap.size) := fun hp a e => ⟨Nat.zero_le _, ha.lt hp a e⟩
  have QB : Hid (0 < lb → Rng bo 0 w.heap.size) := fun hp a e => ⟨Nat.zero_le _, hb.lt hp a e⟩
  clear ha hb hna hnb
  by_cases h1 : la ≤ 200000
  · by_cases h2 : lb ≤ 200000
    · obtain ⟨E1, he1⟩ : ∃ E, E = errB (okP la lb) := ⟨_, rfl⟩
      obtain ⟨E3, he3⟩ : ∃ E, E = errB (okP la la) := ⟨_, rfl⟩
      obtain ⟨E4, he4⟩ : ∃ E, E = errB (okD la n) := ⟨_, rfl⟩
      obtain ⟨L1, hl1⟩ : ∃ L, L = lenB (okP la lb) la := ⟨_, rfl⟩
      obtain ⟨L3, hl3⟩ : ∃ L, L = lenB (okP la la) la := ⟨_, rfl⟩
      obtain ⟨L4, hl4⟩ : ∃ L, L = lenB (okD la n) n.toNat := ⟨_, rfl⟩
      have k1 : L1 ≤ 200000 := by rw [hl1]; exact Nat.le_trans (lenB_le _ _) h1
      have k3 : L3 ≤ 200000 := by rw [hl3]; exact Nat.le_trans (lenB_le _ _) h1
      have k4 : L4 ≤ 200000 := by rw [hl4]; exact Nat.le_trans (lenD_le _ _) (by decide)
      have q1 : (E1 == E1) = true := by simp
      have q3 : (E3 == E3) = true := by simp
      have q4 : (E4 == E4) = true := by simp
      have qz : (zeroB la f == zeroB la f) = true := by simp
      have X1 : Hid (E1 = errB (okP la lb) ∧ L1 = lenB (okP la lb) la) := ⟨he1, hl1⟩
      have X3 : Hid (E3 = errB (okP la la) ∧ L3 = lenB (okP la la) la) := ⟨he3, hl3⟩
      have X4 : Hid (E4 = errB (okD la n) ∧ L4 = lenB (okD la n) n.toNat) := ⟨he4, hl4⟩
      clear he1 he3 he4 hl1 hl3 hl4
      go_enter Try.func4, Try.ntmps4
      go_wp2_with fail
      refine (alive_any w).mono ?_
      rintro e w1 ⟨rfl, b1⟩
      replace HA : Hid (Rd w1 ao la f) := HA.out.below b1
      replace HB : Hid (Rd w1 bo lb h) := HB.out.below b1
      go_wp2_with fail
      refine (lent_any w1 ao la ca f (by omega) HNA.out HA.out).mono ?_
      rintro e w2 ⟨gx, cx, rfl, cx1, cx2, gx1, hx, bn⟩
      replace HA : Hid (Rd w2 ao la f) := HA.out.below bn
      replace HB : Hid (Rd w2 bo lb h) := HB.out.below bn
      have HX : Hid (Rd w2 (some ⟨gx, 0, none⟩) (la + 1) (mark la f)) := hx
      replace b1 := below_step b1 bn b1.size
      clear hx bn gx1
      go_wp2_with fail
      refine (lent_any w2 bo lb cb h (by omega) HNB.out HB.out).mono ?_
      rintro e w3 ⟨gy, cy, rfl, cy1, cy2, gy1, hy, bn⟩
      replace HA : Hid (Rd w3 ao la f) := HA.out.below bn
      replace HB : Hid (Rd w3 bo lb h) := HB.out.below bn
      replace HX : Hid (Rd w3 (some ⟨gx, 0, none⟩) (la + 1) (mark la f)) := HX.out.below bn
      have HY : Hid (Rd w3 (some ⟨gy, 0, none⟩) (lb + 1) (mark lb h)) := hy
      replace b1 := below_step b1 bn b1.size
      have QX : Hid (Rng (some ⟨gx, 0, none⟩) 0 w3.heap.size) := fun a e => ⟨Nat.zero_le _, HX.out.lt (by omega) a e⟩
      have QY : Hid (Rng (some ⟨gy, 0, none⟩) 0 w3.heap.size) := fun a e => ⟨Nat.zero_le _, HY.out.lt (by omega) a e⟩
      replace QA : Hid (0 < la → Rng ao 0 w3.heap.size) := fun hp a e => ⟨Nat.zero_le _, Nat.lt_of_lt_of_le (QA.out hp a e).2 b1.size⟩
      replace QB : Hid (0 < lb → Rng bo 0 w3.heap.size) := fun hp a e => ⟨Nat.zero_le _, Nat.lt_of_lt_of_le (QB.out hp a e).2 b1.size⟩
      have s0 : w.heap.size ≤ w3.heap.size := b1.size
      clear hy bn gy1
      go_wp2_with fail
      refine (xor_any w3 (some ⟨gx, 0, none⟩) (some ⟨gy, 0, none⟩) la cx lb cy f h (mark_rd HA.out.1 HX.out) (mark_rd HB.out.1 HY.out)).mono ?_
      rintro e w4 ⟨rS, rfl, hr, bn⟩
      rw [← X1.out.1, ← X1.out.2]
      rw [← X1.out.2] at hr
      replace HA : Hid (Rd w4 ao la f) := HA.out.below bn
      replace HB : Hid (Rd w4 bo lb h) := HB.out.below bn
      replace HX : Hid (Rd w4 (some ⟨gx, 0, none⟩) (la + 1) (mark la f)) := HX.out.below bn
      replace HY : Hid (Rd w4 (some ⟨gy, 0, none⟩) (lb + 1) (mark lb h)) := HY.out.below bn
      have HS : Hid (Ans w3 w4 rS L1 (plus f 1 h)) := hr
      have QS : Hid (Rng rS w3.heap.size w4.heap.size) := hr.lt
      have s3 : w3.heap.size ≤ w4.heap.size := bn.size
      replace b1 := below_step b1 bn b1.size
      clear hr bn
      go_wp2_with fail
      refine (plus_any w4 c (some ⟨gx, 0, none⟩) (some ⟨gy, 0, none⟩) la cx lb cy f h hc (mark_rd HA.out.1 HX.out) (mark_rd HB.out.1 HY.out)).mono ?_
      rintro e w5 ⟨rP, rfl, hr, bn⟩
      rw [← X1.out.1, ← X1.out.2]
      rw [← X1.out.2] at hr
      replace HA : Hid (Rd w5 ao la f) := HA.out.below bn
      replace HB : Hid (Rd w5 bo lb h) := HB.out.below bn
      replace HX : Hid (Rd w5 (some ⟨gx, 0, none⟩) (la + 1) (mark la f)) := HX.out.below bn
      replace HY : Hid (Rd w5 (some ⟨gy, 0, none⟩) (lb + 1) (mark lb h)) := HY.out.below bn
      replace HS : Hid (Ans w3 w5 rS L1 (plus f 1 h)) := HS.out.below bn
      have HP : Hid (Ans w4 w5 rP L1 (plus f c h)) := hr
      have QP : Hid (Rng rP w4.heap.size w5.heap.size) := hr.lt
      have s4 : w4.heap.size ≤ w5.heap.size := bn.size
      replace b1 := below_step b1 bn b1.size
      clear hr bn
      go_wp2_with fail
      refine (scale_any w5 c (some ⟨gx, 0, none⟩) la cx f hc (mark_rd HA.out.1 HX.out)).mono ?_
      rintro e w6 ⟨rM, rfl, hr, bn⟩
      rw [← X3.out.1, ← X3.out.2]
      rw [← X3.out.2] at hr
      replace HA : Hid (Rd w6 ao la f) := HA.out.below bn
      replace HB : Hid (Rd w6 bo lb h) := HB.out.below bn
      replace HX : Hid (Rd w6 (some ⟨gx, 0, none⟩) (la + 1) (mark la f)) := HX.out.below bn
      replace HY : Hid (Rd w6 (some ⟨gy, 0, none⟩) (lb + 1) (mark lb h)) := HY.out.below bn
      replace HS : Hid (Ans w3 w6 rS L1 (plus f 1 h)) := HS.out.below bn
      replace HP : Hid (Ans w4 w6 rP L1 (plus f c h)) := HP.out.below bn
      have HM : Hid (Ans w5 w6 rM L3 (scl c f)) := hr
      have QM : Hid (Rng rM w5.heap.size w6.heap.size) := hr.lt
      have s5 : w5.heap.size ≤ w6.heap.size := bn.size
      replace b1 := below_step b1 bn b1.size
      clear hr bn
      go_wp2_with fail
      refine (pad_any w6 (some ⟨gx, 0, none⟩) la cx n f (by omega) (mark_rd HA.out.1 HX.out)).mono ?_
      rintro e w7 ⟨rD, rfl, hr, bn⟩
      rw [← X4.out.1, ← X4.out.2]
      rw [← X4.out.2] at hr
      replace HA : Hid (Rd w7 ao la f) := HA.out.below bn
      replace HB : Hid (Rd w7 bo lb h) := HB.out.below bn
      replace HX : Hid (Rd w7 (some ⟨gx, 0, none⟩) (la + 1) (mark la f)) := HX.out.below bn
      replace HY : Hid (Rd w7 (some ⟨gy, 0, none⟩) (lb + 1) (mark lb h)) := HY.out.below bn
      replace HS : Hid (Ans w3 w7 rS L1 (plus f 1 h)) := HS.out.below bn
      replace HP : Hid (Ans w4 w7 rP L1 (plus f c h)) := HP.out.below bn
      replace HM : Hid (Ans w5 w7 rM L3 (scl c f)) := HM.out.below bn
      have HD : Hid (Ans w6 w7 rD L4 (padF la f)) := hr
      have QD : Hid (Rng rD w6.heap.size w7.heap.size) := hr.lt
      have s6 : w6.heap.size ≤ w7.heap.size := bn.size
      replace b1 := below_step b1 bn b1.size
      clear hr bn
      go_wp2_with fail
      refine (rxor_any w7 ao bo la ca lb cb f h (by omega) (by omega) HA.out HB.out).mono ?_
      rintro e w8 ⟨rS2, rfl, hr, bn⟩
      rw [← X1.out.1, ← X1.out.2]
      rw [← X1.out.2] at hr
      replace HA : Hid (Rd w8 ao la f) := HA.out.below bn
      replace HB : Hid (Rd w8 bo lb h) := HB.out.below bn
      replace HX : Hid (Rd w8 (some ⟨gx, 0, none⟩) (la + 1) (mark la f)) := HX.out.below bn
      replace HY : Hid (Rd w8 (some ⟨gy, 0, none⟩) (lb + 1) (mark lb h)) := HY.out.below bn
      replace HS : Hid (Ans w3 w8 rS L1 (plus f 1 h)) := HS.out.below bn
      replace HP : Hid (Ans w4 w8 rP L1 (plus f c h)) := HP.out.below bn
      replace HM : Hid (Ans w5 w8 rM L3 (scl c f)) := HM.out.below bn
      replace HD : Hid (Ans w6 w8 rD L4 (padF la f)) := HD.out.below bn
      have HS2 : Hid (Ans w7 w8 rS2 L1 (plus f 1 h)) := hr
      have QS2 : Hid (Rng rS2 w7.heap.size w8.heap.size) := hr.lt
      have s7 : w7.heap.size ≤ w8.heap.size := bn.size
      replace b1 := below_step b1 bn b1.size
      clear hr bn
      go_wp2_with fail
      refine (rplus_any w8 c ao bo la ca lb cb f h (by omega) (by omega) hc HA.out HB.out).mono ?_
      rintro e w9 ⟨rP2, rfl, hr, bn⟩
      rw [← X1.out.1, ← X1.out.2]
      rw [← X1.out.2] at hr
      replace HA : Hid (Rd w9 ao la f) := HA.out.below bn
      replace HB : Hid (Rd w9 bo lb h) := HB.out.below bn
      replace HX : Hid (Rd w9 (some ⟨gx, 0, none⟩) (la + 1) (mark la f)) := HX.out.below bn
      replace HY : Hid (Rd w9 (some ⟨gy, 0, none⟩) (lb + 1) (mark lb h)) := HY.out.below bn
      replace HS : Hid (Ans w3 w9 rS L1 (plus f 1 h)) := HS.out.below bn
      replace HP : Hid (Ans w4 w9 rP L1 (plus f c h)) := HP.out.below bn
      replace HM : Hid (Ans w5 w9 rM L3 (scl c f)) := HM.out.below bn
      replace HD : Hid (Ans w6 w9 rD L4 (padF la f)) := HD.out.below bn
      replace HS2 : Hid (Ans w7 w9 rS2 L1 (plus f 1 h)) := HS2.out.below bn
      have HP2 : Hid (Ans w8 w9 rP2 L1 (plus f c h)) := hr
      have QP2 : Hid (Rng rP2 w8.heap.size w9.heap.size) := hr.lt
      have s8 : w8.heap.size ≤ w9.heap.size := bn.size
      replace b1 := below_step b1 bn b1.size
      clear hr bn
      go_wp2_with fail
      refine (rscale_any w9 c ao la ca f (by omega) hc HA.out).mono ?_
      rintro e w10 ⟨rM2, rfl, hr, bn⟩
      rw [← X3.out.1, ← X3.out.2]
      rw [← X3.out.2] at hr
      replace HA : Hid (Rd w10 ao la f) := HA.out.below bn
      replace HB : Hid (Rd w10 bo lb h) := HB.out.below bn
      replace HX : Hid (Rd w10 (some ⟨gx, 0, none⟩) (la + 1) (mark la f)) := HX.out.below bn
      replace HY : Hid (Rd w10 (some ⟨gy, 0, none⟩) (lb + 1) (mark lb h)) := HY.out.below bn
      replace HS : Hid (Ans w3 w10 rS L1 (plus f 1 h)) := HS.out.below bn
      replace HP : Hid (Ans w4 w10 rP L1 (plus f c h)) := HP.out.below bn
      replace HM : Hid (Ans w5 w10 rM L3 (scl c f)) := HM.out.below bn
      replace HD : Hid (Ans w6 w10 rD L4 (padF la f)) := HD.out.below bn
      replace HS2 : Hid (Ans w7 w10 rS2 L1 (plus f 1 h)) := HS2.out.below bn
      replace HP2 : Hid (Ans w8 w10 rP2 L1 (plus f c h)) := HP2.out.below bn
      have HM2 : Hid (Ans w9 w10 rM2 L3 (scl c f)) := hr
      have QM2 : Hid (Rng rM2 w9.heap.size w10.heap.size) := hr.lt
      have s9 : w9.heap.size ≤ w10.heap.size := bn.size
      replace b1 := below_step b1 bn b1.size
      clear hr bn
      go_wp2_with fail
      refine (rpad_any w10 ao la ca n f (by omega) HA.out).mono ?_
      rintro e w11 ⟨rD2, rfl, hr, bn⟩
      rw [← X4.out.1, ← X4.out.2]
      rw [← X4.out.2] at hr
      replace HA : Hid (Rd w11 ao la f) := HA.out.below bn
      replace HB : Hid (Rd w11 bo lb h) := HB.out.below bn
      replace HX : Hid (Rd w11 (some ⟨gx, 0, none⟩) (la + 1) (mark la f)) := HX.out.below bn
      replace HY : Hid (Rd w11 (some ⟨gy, 0, none⟩) (lb + 1) (mark lb h)) := HY.out.below bn
      replace HS : Hid (Ans w3 w11 rS L1 (plus f 1 h)) := HS.out.below bn
      replace HP : Hid (Ans w4 w11 rP L1 (plus f c h)) := HP.out.below bn
      replace HM : Hid (Ans w5 w11 rM L3 (scl c f)) := HM.out.below bn
      replace HD : Hid (Ans w6 w11 rD L4 (padF la f)) := HD.out.below bn
      replace HS2 : Hid (Ans w7 w11 rS2 L1 (plus f 1 h)) := HS2.out.below bn
      replace HP2 : Hid (Ans w8 w11 rP2 L1 (plus f c h)) := HP2.out.below bn
      replace HM2 : Hid (Ans w9 w11 rM2 L3 (scl c f)) := HM2.out.below bn
      have HD2 : Hid (Ans w10 w11 rD2 L4 (padF la f)) := hr
      have QD2 : Hid (Rng rD2 w10.heap.size w11.heap.size) := hr.lt
      have s10 : w10.heap.size ≤ w11.heap.size := bn.size
      replace b1 := below_step b1 bn b1.size
      clear hr bn
      go_wp2_with fail
      refine (same_any w11 rS rS2 L1 L1 L1 _ _ HS.out.rd HS2.out.rd (fun _ _ => rfl)).mono ?_
      rintro e w' ⟨rfl, hw'⟩
      obtain rfl := hw'.symm
      go_wp2_with fail
      refine (same_any w11 rP rP2 L1 L1 L1 _ _ HP.out.rd HP2.out.rd (fun _ _ => rfl)).mono ?_
      rintro e w' ⟨rfl, hw'⟩
      obtain rfl := hw'.symm
      go_wp2_with fail
      refine (same_any w11 rM rM2 L3 L3 L3 _ _ HM.out.rd HM2.out.rd (fun _ _ => rfl)).mono ?_
      rintro e w' ⟨rfl, hw'⟩
      obtain rfl := hw'.symm
      go_wp2_with fail
      refine (same_any w11 rD rD2 L4 L4 L4 _ _ HD.out.rd HD2.out.rd (fun _ _ => rfl)).mono ?_
      rintro e w' ⟨rfl, hw'⟩
      obtain rfl := hw'.symm
      go_wp2_with fail
      refine (zero_any w11 (some ⟨gx, 0, none⟩) la cx f (by omega) (mark_rd HA.out.1 HX.out)).mono ?_
      rintro e w' ⟨rfl, hw'⟩
      obtain rfl := hw'.symm
      go_wp2_with fail
      refine (rzero_any w11 ao la ca f (by omega) HA.out).mono ?_
      rintro e w' ⟨rfl, hw'⟩
      obtain rfl := hw'.symm
      clear HS2 HM2 HD2 QS2 QM2 QD2
      go_wp2_with fail
      refine (spoil_any w3 w11 rS L1 L1 w3.heap.size w4.heap.size _ (by omega) HS.out QS.out (by omega)).mono ?_
      rintro e w12 ⟨rfl, g0, u0, v0, on⟩
      clear HS
      replace HA : Hid (Rd w12 ao la f) := HA.out.only on fun hp => off_lo (QA.out hp) (by omega) u0
      replace HB : Hid (Rd w12 bo lb h) := HB.out.only on fun hp => off_lo (QB.out hp) (by omega) u0
      replace HX : Hid (Rd w12 (some ⟨gx, 0, none⟩) (la + 1) (mark la f)) := HX.out.only on fun _ => off_lo QX.out (by omega) u0
      replace HY : Hid (Rd w12 (some ⟨gy, 0, none⟩) (lb + 1) (mark lb h)) := HY.out.only on fun _ => off_lo QY.out (by omega) u0
      replace HP : Hid (Ans w4 w12 rP L1 (plus f c h)) := HP.out.only on (off_hi QP.out (by omega) (by omega) v0)
      replace HM : Hid (Ans w5 w12 rM L3 (scl c f)) := HM.out.only on (off_hi QM.out (by omega) (by omega) v0)
      replace HD : Hid (Ans w6 w12 rD L4 (padF la f)) := HD.out.only on (off_hi QD.out (by omega) (by omega) v0)
      replace HP2 : Hid (Ans w8 w12 rP2 L1 (plus f c h)) := HP2.out.only on (off_hi QP2.out (by omega) (by omega) v0)
      have t0 : w11.heap.size ≤ w12.heap.size := on.size
      replace b1 := b1.trans (on.below (by omega) (by omega))
      clear on u0 v0
      go_wp2_with fail
      refine (spoil_any w4 w12 rP L1 L1 w4.heap.size w5.heap.size _ (by omega) HP.out QP.out (by omega)).mono ?_
      rintro e w13 ⟨rfl, g1, u1, v1, on⟩
      clear HP
      replace HA : Hid (Rd w13 ao la f) := HA.out.only on fun hp => off_lo (QA.out hp) (by omega) u1
      replace HB : Hid (Rd w13 bo lb h) := HB.out.only on fun hp => off_lo (QB.out hp) (by omega) u1
      replace HX : Hid (Rd w13 (some ⟨gx, 0, none⟩) (la + 1) (mark la f)) := HX.out.only on fun _ => off_lo QX.out (by omega) u1
      replace HY : Hid (Rd w13 (some ⟨gy, 0, none⟩) (lb + 1) (mark lb h)) := HY.out.only on fun _ => off_lo QY.out (by omega) u1
      replace HM : Hid (Ans w5 w13 rM L3 (scl c f)) := HM.out.only on (off_hi QM.out (by omega) (by omega) v1)
      replace HD : Hid (Ans w6 w13 rD L4 (padF la f)) := HD.out.only on (off_hi QD.out (by omega) (by omega) v1)
      replace HP2 : Hid (Ans w8 w13 rP2 L1 (plus f c h)) := HP2.out.only on (off_hi QP2.out (by omega) (by omega) v1)
      have t1 : w12.heap.size ≤ w13.heap.size := on.size
      replace b1 := b1.trans (on.below (by omega) (by omega))
      clear on u1 v1
      go_wp2_with fail
      refine (spoil_any w5 w13 rM L3 L3 w5.heap.size w6.heap.size _ (by omega) HM.out QM.out (by omega)).mono ?_
      rintro e w14 ⟨rfl, g2, u2, v2, on⟩
      clear HM
      replace HA : Hid (Rd w14 ao la f) := HA.out.only on fun hp => off_lo (QA.out hp) (by omega) u2
      replace HB : Hid (Rd w14 bo lb h) := HB.out.only on fun hp => off_lo (QB.out hp) (by omega) u2
      replace HX : Hid (Rd w14 (some ⟨gx, 0, none⟩) (la + 1) (mark la f)) := HX.out.only on fun _ => off_lo QX.out (by omega) u2
      replace HY : Hid (Rd w14 (some ⟨gy, 0, none⟩) (lb + 1) (mark lb h)) := HY.out.only on fun _ => off_lo QY.out (by omega) u2
      replace HD : Hid (Ans w6 w14 rD L4 (padF la f)) := HD.out.only on (off_hi QD.out (by omega) (by omega) v2)
      replace HP2 : Hid (Ans w8 w14 rP2 L1 (plus f c h)) := HP2.out.only on (off_hi QP2.out (by omega) (by omega) v2)
      have t2 : w13.heap.size ≤ w14.heap.size := on.size
      replace b1 := b1.trans (on.below (by omega) (by omega))
      clear on u2 v2
      go_wp2_with fail
      refine (spoil_any w6 w14 rD L4 L4 w6.heap.size w7.heap.size _ (by omega) HD.out QD.out (by omega)).mono ?_
      rintro e w15 ⟨rfl, g3, u3, v3, on⟩
      clear HD
      replace HA : Hid (Rd w15 ao la f) := HA.out.only on fun hp => off_lo (QA.out hp) (by omega) u3
      replace HB : Hid (Rd w15 bo lb h) := HB.out.only on fun hp => off_lo (QB.out hp) (by omega) u3
      replace HX : Hid (Rd w15 (some ⟨gx, 0, none⟩) (la + 1) (mark la f)) := HX.out.only on fun _ => off_lo QX.out (by omega) u3
      replace HY : Hid (Rd w15 (some ⟨gy, 0, none⟩) (lb + 1) (mark lb h)) := HY.out.only on fun _ => off_lo QY.out (by omega) u3
      replace HP2 : Hid (Ans w8 w15 rP2 L1 (plus f c h)) := HP2.out.only on (off_hi QP2.out (by omega) (by omega) v3)
      have t3 : w14.heap.size ≤ w15.heap.size := on.size
      replace b1 := b1.trans (on.below (by omega) (by omega))
      clear on u3 v3
      go_wp2_with fail
      refine (plus_any w15 c (some ⟨gx, 0, none⟩) (some ⟨gy, 0, none⟩) la cx lb cy f h hc (mark_rd HA.out.1 HX.out) (mark_rd HB.out.1 HY.out)).mono ?_
      rintro e w16 ⟨rG, rfl, hr, bn⟩
      rw [← X1.out.1, ← X1.out.2]
      rw [← X1.out.2] at hr
      replace HA : Hid (Rd w16 ao la f) := HA.out.below bn
      replace HB : Hid (Rd w16 bo lb h) := HB.out.below bn
      replace HX : Hid (Rd w16 (some ⟨gx, 0, none⟩) (la + 1) (mark la f)) := HX.out.below bn
      replace HY : Hid (Rd w16 (some ⟨gy, 0, none⟩) (lb + 1) (mark lb h)) := HY.out.below bn
      replace HP2 : Hid (Ans w8 w16 rP2 L1 (plus f c h)) := HP2.out.below bn
      have HG : Hid (Ans w15 w16 rG L1 (plus f c h)) := hr
      replace b1 := below_step b1 bn b1.size
      clear hr bn
      go_wp2_with fail
      refine (same_any w16 rG rP2 L1 L1 L1 _ _ HG.out.rd HP2.out.rd (fun _ _ => rfl)).mono ?_
      rintro e w' ⟨rfl, hw'⟩
      obtain rfl := hw'.symm
      go_wp2_with fail
      refine (kept_any w16 gx cx ao la ca f (by omega) cx1 cx2 HX.out HA.out).mono ?_
      rintro e w' ⟨rfl, hw'⟩
      obtain rfl := hw'.symm
      go_wp2_with fail
      refine (kept_any w16 gy cy bo lb cb h (by omega) cy1 cy2 HY.out HB.out).mono ?_
      rintro e w' ⟨rfl, hw'⟩
      obtain rfl := hw'.symm
      go_wp2_with fail
      go_ret
      exact ⟨rfl, b1⟩
    · go_enter Try.func4, Try.ntmps4
      go_wp2_with fail
      refine (alive_any w).mono ?_
      rintro e w1 ⟨rfl, b1⟩
      go_wp2_with fail
      go_ret
      exact ⟨rfl, b1⟩
  · go_enter Try.func4, Try.ntmps4
    go_wp2_with fail
    refine (alive_any w).mono ?_
    rintro e w1 ⟨rfl, b1⟩
    go_wp2_with fail
    go_ret
    exact ⟨rfl, b1⟩
end Go.Proofs.Ytgkabcefohfmmaa
