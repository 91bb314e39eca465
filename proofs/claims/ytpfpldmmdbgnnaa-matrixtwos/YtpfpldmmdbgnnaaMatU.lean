/- The walk of the statement that the product of any two matrices is what the document says. -/
import Derived.Test.YtpfpldmmdbgnnaaMatT
namespace Go.Proofs.Ytpfpldmmdbgnnaa
open Go.RowKit

set_option maxHeartbeats 8000000 in
set_option maxRecDepth 100000 in
theorem twos_walk (w : World) (ao bo : Option Addr) (la ca lb cb : Nat) (k r : Int) (A B : Nat → Option Addr) (C La D Lb : Nat → Nat) (H H' : M) (ha : Lst w ao la A C La H) (hb : Lst w bo lb B D Lb H')
    (na : ∀ i, i < la → A i = none → La i = 0 ∧ C i = 0) (nb : ∀ i, i < lb → B i = none → Lb i = 0 ∧ D i = 0) :
    Calls Try.prog 5 #[.slice ao la ca, .slice bo lb cb, .int .i64 k, .int .i64 r] w fun e w' => e = .returned (.bool true) ∧ Below w.heap.size w w' := by
  have HA : Hid (Lst w ao la A C La H) := ha
  have HB : Hid (Lst w bo lb B D Lb H') := hb
  have NA : Hid (∀ i, i < la → A i = none → La i = 0 ∧ C i = 0) := na
  have NB : Hid (∀ i, i < lb → B i = none → Lb i = 0 ∧ D i = 0) := nb
  clear ha hb na nb
  go_enter Try.func5, Try.ntmps5
  go_wp2_with fail
  refine (alive_any w).mono ?_
  rintro e w1 ⟨rfl, b1⟩
  replace HA : Hid (Lst w1 ao la A C La H) := HA.out.below b1
  replace HB : Hid (Lst w1 bo lb B D Lb H') := HB.out.below b1
  have MA := much_any w1 ao la ca A C La H HA.out
  have MB := much_any w1 bo lb cb B D Lb H' HB.out
  cases hf1 : fewB la La
  · rw [hf1] at MA
    go_wp2_with fail
    refine MA.mono ?_
    rintro e w' ⟨rfl, hw'⟩
    obtain rfl := hw'.symm
    go_wp2_with fail
    go_ret
    exact ⟨rfl, b1⟩
  rw [hf1] at MA
  cases hf2 : fewB lb Lb
  · rw [hf2] at MB
    go_wp2_with fail
    refine MA.mono ?_
    rintro e w' ⟨rfl, hw'⟩
    obtain rfl := hw'.symm
    go_wp2_with fail
    refine MB.mono ?_
    rintro e w' ⟨rfl, hw'⟩
    obtain rfl := hw'.symm
    go_wp2_with fail
    go_ret
    exact ⟨rfl, b1⟩
  rw [hf2] at MB
  obtain ⟨ha1, ha2⟩ := of_decide_eq_true hf1
  obtain ⟨hb1, hb2⟩ := of_decide_eq_true hf2
  have HA2 : Hid (∀ i, i < la → La i ≤ 1000) := ha2
  have HB2 : Hid (∀ i, i < lb → Lb i ≤ 1000) := hb2
  clear hf1 hf2 ha2 hb2
  go_wp2_with fail
  refine MA.mono ?_
  rintro e w' ⟨rfl, hw'⟩
  obtain rfl := hw'.symm
  go_wp2_with fail
  refine MB.mono ?_
  rintro e w' ⟨rfl, hw'⟩
  obtain rfl := hw'.symm
  clear MA MB
  go_wp2_with fail
  refine (twin_any w1 ao la ca A C La H ha1 HA.out NA.out HA2.out).mono ?_
  rintro e w2 ⟨xo, xc, T2, U2, rfl, hs, bn⟩
  have HX : Hid (Lst w2 xo la T2 U2 La H) := hs.lst
  replace HA : Hid (Lst w2 ao la A C La H) := HA.out.below bn
  replace HB : Hid (Lst w2 bo lb B D Lb H') := HB.out.below bn
  replace b1 := below_step b1 bn b1.size
  clear hs bn
  go_wp2_with fail
  refine (twin_any w2 bo lb cb B D Lb H' hb1 HB.out NB.out HB2.out).mono ?_
  rintro e w3 ⟨yo, yc, T3, U3, rfl, hs, bn⟩
  have HY : Hid (Lst w3 yo lb T3 U3 Lb H') := hs.lst
  replace HA : Hid (Lst w3 ao la A C La H) := HA.out.below bn
  replace HB : Hid (Lst w3 bo lb B D Lb H') := HB.out.below bn
  replace HX : Hid (Lst w3 xo la T2 U2 La H) := HX.out.below bn
  replace b1 := below_step b1 bn b1.size
  clear hs bn
  clear NA NB HA2 HB2
  obtain ⟨okm, hokm⟩ : ∃ x, x = okMul la La lb Lb := ⟨_, rfl⟩
  obtain ⟨nm, hnm⟩ : ∃ x, x = lenB okm la := ⟨_, rfl⟩
  obtain ⟨em, hem⟩ : ∃ x, x = errB okm 30 := ⟨_, rfl⟩
  obtain ⟨okn, hokn⟩ : ∃ x, x = okN k 32 := ⟨_, rfl⟩
  obtain ⟨nn, hnn⟩ : ∃ x, x = lenB okn k.toNat := ⟨_, rfl⟩
  obtain ⟨en, hen⟩ : ∃ x, x = errB okn 2 := ⟨_, rfl⟩
  obtain ⟨okc, hokc⟩ : ∃ x, x = (okN k 12 && okN r 4) := ⟨_, rfl⟩
  obtain ⟨nc, hnc⟩ : ∃ x, x = lenB okc r.toNat := ⟨_, rfl⟩
  obtain ⟨ec, hec⟩ : ∃ x, x = errB okc 2 := ⟨_, rfl⟩
  have q1 : nm ≤ 1000 := by rw [hnm]; exact lenB_le _ _ _ (fun _ => ha1)
  have q2 : nn ≤ 32 := by rw [hnn]; exact lenB_le _ _ _ (fun h => by rw [hokn] at h; have := of_decide_eq_true h; omega)
  have q3 : 0 < nn → k.toNat ≤ 1000 := fun h => by cases hx : okn with | false => rw [hnn, hx] at h; exact absurd h (Nat.lt_irrefl 0) | true => rw [hokn] at hx; have := of_decide_eq_true hx; omega
  have q4 : nc ≤ 4 := by rw [hnc]; exact lenB_le _ _ _ (fun h => by rw [hokc] at h; have := of_decide_eq_true (Bool.and_eq_true_iff.1 h).2; omega)
  have q5 : 0 < nc → k.toNat ≤ 1000 := fun h => by cases hx : okc with | false => rw [hnc, hx] at h; exact absurd h (Nat.lt_irrefl 0) | true => rw [hokc] at hx; have := of_decide_eq_true (Bool.and_eq_true_iff.1 hx).1; omega
  have MU : Hid (∀ w ao bo ca cb A B C D, Lst w ao la A C La H → Lst w bo lb B D Lb H' → Calls Try.prog 27 #[.slice ao la ca, .slice bo lb cb] w fun e w' => ∃ mo mc, e = .returned (.tuple #[.slice mo nm mc, .int .i64 em]) ∧ Sol w' w.heap.size w'.heap.size mo nm mc (Lb 0) (mm lb H H') ∧ Below w.heap.size w w') := fun w ao bo ca cb A B C D h1 h2 => by rw [hem, hnm, hokm]; exact mulm_any w ao bo la ca lb cb A B C La D Lb H H' h1 h2
  have MU2 : Hid (∀ w ao bo ca cb A B C D, Lst w ao la A C La H → Lst w bo lb B D Lb H' → Calls Try.prog 28 #[.slice ao la ca, .slice bo lb cb] w fun e w' => ∃ mo mc, e = .returned (.tuple #[.slice mo nm mc, .int .i64 em]) ∧ Sol w' w.heap.size w'.heap.size mo nm mc (Lb 0) (mm lb H H') ∧ Below w.heap.size w w') := fun w ao bo ca cb A B C D h1 h2 => by rw [hem, hnm, hokm]; exact rmulm_any w ao bo la ca lb cb A B C La D Lb H H' h1 h2
  have ON : Hid (∀ w, Calls Try.prog 10 #[.int .i64 k] w fun e w' => ∃ mo mc, e = .returned (.tuple #[.slice mo nn mc, .int .i64 en]) ∧ Sol w' w.heap.size w'.heap.size mo nn mc k.toNat one ∧ Below w.heap.size w w') := fun w => by rw [hen, hnn, hokn]; exact one_any w k
  have ON2 : Hid (∀ w, Calls Try.prog 29 #[.int .i64 k] w fun e w' => ∃ mo mc, e = .returned (.tuple #[.slice mo nn mc, .int .i64 en]) ∧ Sol w' w.heap.size w'.heap.size mo nn mc k.toNat one ∧ Below w.heap.size w w') := fun w => by rw [hen, hnn, hokn]; exact rone_any w k
  have CA : Hid (∀ w, Calls Try.prog 11 #[.int .i64 k, .int .i64 r] w fun e w' => ∃ mo mc, e = .returned (.tuple #[.slice mo nc mc, .int .i64 ec]) ∧ Sol w' w.heap.size w'.heap.size mo nc mc k.toNat (cau k.toNat) ∧ Below w.heap.size w w') := fun w => by rw [hec, hnc, hokc]; exact cauchy_any w k r
  have CA2 : Hid (∀ w, Calls Try.prog 30 #[.int .i64 k, .int .i64 r] w fun e w' => ∃ mo mc, e = .returned (.tuple #[.slice mo nc mc, .int .i64 ec]) ∧ Sol w' w.heap.size w'.heap.size mo nc mc k.toNat (cau k.toNat) ∧ Below w.heap.size w w') := fun w => by rw [hec, hnc, hokc]; exact rcauchy_any w k r
  clear hokm hnm hem hokn hnn hen hokc hnc hec
  have qm : (em == em) = true := by simp
  have qn : (en == en) = true := by simp
  have qc : (ec == ec) = true := by simp
  go_wp2_with fail
  refine (MU.out w3 xo yo xc yc T2 T3 U2 U3 HX.out HY.out).mono ?_
  rintro e w4 ⟨mo, mc, rfl, hs, bn⟩
  have SM : Hid (Sol w4 w3.heap.size w4.heap.size mo nm mc (Lb 0) (mm lb H H')) := hs
  have s4 := bn.size
  replace HA : Hid (Lst w4 ao la A C La H) := HA.out.below bn
  replace HB : Hid (Lst w4 bo lb B D Lb H') := HB.out.below bn
  replace HX : Hid (Lst w4 xo la T2 U2 La H) := HX.out.below bn
  replace HY : Hid (Lst w4 yo lb T3 U3 Lb H') := HY.out.below bn
  replace b1 := below_step b1 bn b1.size
  clear hs bn
  have sw4 := b1.size
  have HA0 := HA
  have HB0 := HB
  have HX0 := HX
  have HY0 := HY
  go_wp2_with fail
  refine (ON.out w4).mono ?_
  rintro e w5 ⟨no, nc_, rfl, hs, bn⟩
  have SN : Hid (Sol w5 w4.heap.size w5.heap.size no nn nc_ k.toNat one) := hs
  have s5 := bn.size
  replace HA : Hid (Lst w5 ao la A C La H) := HA.out.below bn
  replace HB : Hid (Lst w5 bo lb B D Lb H') := HB.out.below bn
  replace HX : Hid (Lst w5 xo la T2 U2 La H) := HX.out.below bn
  replace HY : Hid (Lst w5 yo lb T3 U3 Lb H') := HY.out.below bn
  replace SM : Hid (Sol w5 w3.heap.size w4.heap.size mo nm mc (Lb 0) (mm lb H H')) := SM.out.below bn
  replace b1 := below_step b1 bn b1.size
  clear hs bn
  go_wp2_with fail
  refine (CA.out w5).mono ?_
  rintro e w6 ⟨co, cc_, rfl, hs, bn⟩
  have SC : Hid (Sol w6 w5.heap.size w6.heap.size co nc cc_ k.toNat (cau k.toNat)) := hs
  have s6 := bn.size
  replace HA : Hid (Lst w6 ao la A C La H) := HA.out.below bn
  replace HB : Hid (Lst w6 bo lb B D Lb H') := HB.out.below bn
  replace HX : Hid (Lst w6 xo la T2 U2 La H) := HX.out.below bn
  replace HY : Hid (Lst w6 yo lb T3 U3 Lb H') := HY.out.below bn
  replace SM : Hid (Sol w6 w3.heap.size w4.heap.size mo nm mc (Lb 0) (mm lb H H')) := SM.out.below bn
  replace SN : Hid (Sol w6 w4.heap.size w5.heap.size no nn nc_ k.toNat one) := SN.out.below bn
  replace b1 := below_step b1 bn b1.size
  clear hs bn
  go_wp2_with fail
  refine (MU2.out w6 ao bo ca cb A B C D HA.out HB.out).mono ?_
  rintro e w7 ⟨m2o, m2c, rfl, hs, bn⟩
  have SM2 : Hid (Sol w7 w6.heap.size w7.heap.size m2o nm m2c (Lb 0) (mm lb H H')) := hs
  have s7 := bn.size
  replace HA : Hid (Lst w7 ao la A C La H) := HA.out.below bn
  replace HB : Hid (Lst w7 bo lb B D Lb H') := HB.out.below bn
  replace HX : Hid (Lst w7 xo la T2 U2 La H) := HX.out.below bn
  replace HY : Hid (Lst w7 yo lb T3 U3 Lb H') := HY.out.below bn
  replace SM : Hid (Sol w7 w3.heap.size w4.heap.size mo nm mc (Lb 0) (mm lb H H')) := SM.out.below bn
  replace SN : Hid (Sol w7 w4.heap.size w5.heap.size no nn nc_ k.toNat one) := SN.out.below bn
  replace SC : Hid (Sol w7 w5.heap.size w6.heap.size co nc cc_ k.toNat (cau k.toNat)) := SC.out.below bn
  replace b1 := below_step b1 bn b1.size
  clear hs bn
  go_wp2_with fail
  refine (ON2.out w7).mono ?_
  rintro e w8 ⟨n2o, n2c, rfl, hs, bn⟩
  have SN2 : Hid (Sol w8 w7.heap.size w8.heap.size n2o nn n2c k.toNat one) := hs
  have s8 := bn.size
  replace HA : Hid (Lst w8 ao la A C La H) := HA.out.below bn
  replace HB : Hid (Lst w8 bo lb B D Lb H') := HB.out.below bn
  replace HX : Hid (Lst w8 xo la T2 U2 La H) := HX.out.below bn
  replace HY : Hid (Lst w8 yo lb T3 U3 Lb H') := HY.out.below bn
  replace SM : Hid (Sol w8 w3.heap.size w4.heap.size mo nm mc (Lb 0) (mm lb H H')) := SM.out.below bn
  replace SN : Hid (Sol w8 w4.heap.size w5.heap.size no nn nc_ k.toNat one) := SN.out.below bn
  replace SC : Hid (Sol w8 w5.heap.size w6.heap.size co nc cc_ k.toNat (cau k.toNat)) := SC.out.below bn
  replace SM2 : Hid (Sol w8 w6.heap.size w7.heap.size m2o nm m2c (Lb 0) (mm lb H H')) := SM2.out.below bn
  replace b1 := below_step b1 bn b1.size
  clear hs bn
  go_wp2_with fail
  refine (CA2.out w8).mono ?_
  rintro e w9 ⟨c2o, c2c, rfl, hs, bn⟩
  have SC2 : Hid (Sol w9 w8.heap.size w9.heap.size c2o nc c2c k.toNat (cau k.toNat)) := hs
  have s9 := bn.size
  replace HA : Hid (Lst w9 ao la A C La H) := HA.out.below bn
  replace HB : Hid (Lst w9 bo lb B D Lb H') := HB.out.below bn
  replace HX : Hid (Lst w9 xo la T2 U2 La H) := HX.out.below bn
  replace HY : Hid (Lst w9 yo lb T3 U3 Lb H') := HY.out.below bn
  replace SM : Hid (Sol w9 w3.heap.size w4.heap.size mo nm mc (Lb 0) (mm lb H H')) := SM.out.below bn
  replace SN : Hid (Sol w9 w4.heap.size w5.heap.size no nn nc_ k.toNat one) := SN.out.below bn
  replace SC : Hid (Sol w9 w5.heap.size w6.heap.size co nc cc_ k.toNat (cau k.toNat)) := SC.out.below bn
  replace SM2 : Hid (Sol w9 w6.heap.size w7.heap.size m2o nm m2c (Lb 0) (mm lb H H')) := SM2.out.below bn
  replace SN2 : Hid (Sol w9 w7.heap.size w8.heap.size n2o nn n2c k.toNat one) := SN2.out.below bn
  replace b1 := below_step b1 bn b1.size
  clear hs bn
  go_wp2_with fail
  refine (same_sol w9 _ _ _ _ mo m2o nm mc m2c (Lb 0) _ _ SM.out SM2.out (by omega) (fun _ _ _ _ => rfl)).mono ?_
  rintro e w10 ⟨rfl, hq⟩
  have bn := drewN_below hq
  replace HA : Hid (Lst w10 ao la A C La H) := HA.out.below bn
  replace HB : Hid (Lst w10 bo lb B D Lb H') := HB.out.below bn
  replace HX : Hid (Lst w10 xo la T2 U2 La H) := HX.out.below bn
  replace HY : Hid (Lst w10 yo lb T3 U3 Lb H') := HY.out.below bn
  replace SM : Hid (Sol w10 w3.heap.size w4.heap.size mo nm mc (Lb 0) (mm lb H H')) := SM.out.below bn
  replace SN : Hid (Sol w10 w4.heap.size w5.heap.size no nn nc_ k.toNat one) := SN.out.below bn
  replace SC : Hid (Sol w10 w5.heap.size w6.heap.size co nc cc_ k.toNat (cau k.toNat)) := SC.out.below bn
  replace SM2 : Hid (Sol w10 w6.heap.size w7.heap.size m2o nm m2c (Lb 0) (mm lb H H')) := SM2.out.below bn
  replace SN2 : Hid (Sol w10 w7.heap.size w8.heap.size n2o nn n2c k.toNat one) := SN2.out.below bn
  replace SC2 : Hid (Sol w10 w8.heap.size w9.heap.size c2o nc c2c k.toNat (cau k.toNat)) := SC2.out.below bn
  replace b1 := below_step b1 bn b1.size
  clear hq bn
  go_wp2_with fail
  refine (same_sol w10 _ _ _ _ no n2o nn nc_ n2c k.toNat _ _ SN.out SN2.out (by omega) (fun _ _ _ _ => rfl)).mono ?_
  rintro e w11 ⟨rfl, hq⟩
  have bn := drewN_below hq
  replace HA : Hid (Lst w11 ao la A C La H) := HA.out.below bn
  replace HB : Hid (Lst w11 bo lb B D Lb H') := HB.out.below bn
  replace HX : Hid (Lst w11 xo la T2 U2 La H) := HX.out.below bn
  replace HY : Hid (Lst w11 yo lb T3 U3 Lb H') := HY.out.below bn
  replace SN : Hid (Sol w11 w4.heap.size w5.heap.size no nn nc_ k.toNat one) := SN.out.below bn
  replace SC : Hid (Sol w11 w5.heap.size w6.heap.size co nc cc_ k.toNat (cau k.toNat)) := SC.out.below bn
  replace SN2 : Hid (Sol w11 w7.heap.size w8.heap.size n2o nn n2c k.toNat one) := SN2.out.below bn
  replace SC2 : Hid (Sol w11 w8.heap.size w9.heap.size c2o nc c2c k.toNat (cau k.toNat)) := SC2.out.below bn
  replace b1 := below_step b1 bn b1.size
  clear hq bn
  go_wp2_with fail
  refine (same_sol w11 _ _ _ _ co c2o nc cc_ c2c k.toNat _ _ SC.out SC2.out (by omega) (fun _ _ _ _ => rfl)).mono ?_
  rintro e w12 ⟨rfl, hq⟩
  have bn := drewN_below hq
  replace HA : Hid (Lst w12 ao la A C La H) := HA.out.below bn
  replace HB : Hid (Lst w12 bo lb B D Lb H') := HB.out.below bn
  replace HX : Hid (Lst w12 xo la T2 U2 La H) := HX.out.below bn
  replace HY : Hid (Lst w12 yo lb T3 U3 Lb H') := HY.out.below bn
  replace SN : Hid (Sol w12 w4.heap.size w5.heap.size no nn nc_ k.toNat one) := SN.out.below bn
  replace SC : Hid (Sol w12 w5.heap.size w6.heap.size co nc cc_ k.toNat (cau k.toNat)) := SC.out.below bn
  replace SC2 : Hid (Sol w12 w8.heap.size w9.heap.size c2o nc c2c k.toNat (cau k.toNat)) := SC2.out.below bn
  replace b1 := below_step b1 bn b1.size
  clear hq bn
  have s0 : w.heap.size ≤ w4.heap.size := sw4
  go_wp2_with fail
  refine (spoil_sol w12 _ _ no nn nc_ k.toNat one (by omega) q3 SN.out).mono ?_
  rintro e w13 ⟨rfl, kp⟩
  replace HA : Hid (Lst w13 ao la A C La H) := HA0.out.past HA.out kp (by omega)
  replace HB : Hid (Lst w13 bo lb B D Lb H') := HB0.out.past HB.out kp (by omega)
  replace HX : Hid (Lst w13 xo la T2 U2 La H) := HX0.out.past HX.out kp (by omega)
  replace HY : Hid (Lst w13 yo lb T3 U3 Lb H') := HY0.out.past HY.out kp (by omega)
  replace SC : Hid (Sol w13 w5.heap.size w6.heap.size co nc cc_ k.toNat (cau k.toNat)) := SC.out.keeps kp (.inr (by omega))
  replace SC2 : Hid (Sol w13 w8.heap.size w9.heap.size c2o nc c2c k.toNat (cau k.toNat)) := SC2.out.keeps kp (.inr (by omega))
  replace b1 := b1.trans (kp.below b1.size (by omega))
  clear kp
  go_wp2_with fail
  refine (spoil_sol w13 _ _ co nc cc_ k.toNat (cau k.toNat) (by omega) q5 SC.out).mono ?_
  rintro e w14 ⟨rfl, kp⟩
  replace HA : Hid (Lst w14 ao la A C La H) := HA0.out.past HA.out kp (by omega)
  replace HB : Hid (Lst w14 bo lb B D Lb H') := HB0.out.past HB.out kp (by omega)
  replace HX : Hid (Lst w14 xo la T2 U2 La H) := HX0.out.past HX.out kp (by omega)
  replace HY : Hid (Lst w14 yo lb T3 U3 Lb H') := HY0.out.past HY.out kp (by omega)
  replace SC2 : Hid (Sol w14 w8.heap.size w9.heap.size c2o nc c2c k.toNat (cau k.toNat)) := SC2.out.keeps kp (.inr (by omega))
  replace b1 := b1.trans (kp.below b1.size (by omega))
  clear kp
  go_wp2_with fail
  refine (CA.out w14).mono ?_
  rintro e w15 ⟨go, gc, rfl, hs, bn⟩
  have SG : Hid (Sol w15 w14.heap.size w15.heap.size go nc gc k.toNat (cau k.toNat)) := hs
  have s15 := bn.size
  replace HA : Hid (Lst w15 ao la A C La H) := HA.out.below bn
  replace HB : Hid (Lst w15 bo lb B D Lb H') := HB.out.below bn
  replace HX : Hid (Lst w15 xo la T2 U2 La H) := HX.out.below bn
  replace HY : Hid (Lst w15 yo lb T3 U3 Lb H') := HY.out.below bn
  replace SC2 : Hid (Sol w15 w8.heap.size w9.heap.size c2o nc c2c k.toNat (cau k.toNat)) := SC2.out.below bn
  replace b1 := below_step b1 bn b1.size
  clear hs bn
  go_wp2_with fail
  refine (same_sol w15 _ _ _ _ go c2o nc gc c2c k.toNat _ _ SG.out SC2.out (by omega) (fun _ _ _ _ => rfl)).mono ?_
  rintro e w16 ⟨rfl, hq⟩
  have bn := drewN_below hq
  replace HA : Hid (Lst w16 ao la A C La H) := HA.out.below bn
  replace HB : Hid (Lst w16 bo lb B D Lb H') := HB.out.below bn
  replace HX : Hid (Lst w16 xo la T2 U2 La H) := HX.out.below bn
  replace HY : Hid (Lst w16 yo lb T3 U3 Lb H') := HY.out.below bn
  replace SC2 : Hid (Sol w16 w8.heap.size w9.heap.size c2o nc c2c k.toNat (cau k.toNat)) := SC2.out.below bn
  replace SG : Hid (Sol w16 w14.heap.size w15.heap.size go nc gc k.toNat (cau k.toNat)) := SG.out.below bn
  replace b1 := below_step b1 bn b1.size
  clear hq bn
  go_wp2_with fail
  refine (same_any w16 xo ao la xc ca T2 A U2 C La La H H HX.out HA.out (fun _ _ => rfl) (fun _ _ _ _ => rfl) (by omega)).mono ?_
  rintro e w17 ⟨rfl, hq⟩
  have bn := drewN_below hq
  replace HA : Hid (Lst w17 ao la A C La H) := HA.out.below bn
  replace HB : Hid (Lst w17 bo lb B D Lb H') := HB.out.below bn
  replace HX : Hid (Lst w17 xo la T2 U2 La H) := HX.out.below bn
  replace HY : Hid (Lst w17 yo lb T3 U3 Lb H') := HY.out.below bn
  replace SC2 : Hid (Sol w17 w8.heap.size w9.heap.size c2o nc c2c k.toNat (cau k.toNat)) := SC2.out.below bn
  replace SG : Hid (Sol w17 w14.heap.size w15.heap.size go nc gc k.toNat (cau k.toNat)) := SG.out.below bn
  replace b1 := below_step b1 bn b1.size
  clear hq bn
  go_wp2_with fail
  refine (same_any w17 yo bo lb yc cb T3 B U3 D Lb Lb H' H' HY.out HB.out (fun _ _ => rfl) (fun _ _ _ _ => rfl) (by omega)).mono ?_
  rintro e w18 ⟨rfl, hq⟩
  have bn := drewN_below hq
  replace HA : Hid (Lst w18 ao la A C La H) := HA.out.below bn
  replace HB : Hid (Lst w18 bo lb B D Lb H') := HB.out.below bn
  replace HX : Hid (Lst w18 xo la T2 U2 La H) := HX.out.below bn
  replace HY : Hid (Lst w18 yo lb T3 U3 Lb H') := HY.out.below bn
  replace SC2 : Hid (Sol w18 w8.heap.size w9.heap.size c2o nc c2c k.toNat (cau k.toNat)) := SC2.out.below bn
  replace SG : Hid (Sol w18 w14.heap.size w15.heap.size go nc gc k.toNat (cau k.toNat)) := SG.out.below bn
  replace b1 := below_step b1 bn b1.size
  clear hq bn
  go_wp2_with fail
  go_ret
  exact ⟨rfl, b1⟩
end Go.Proofs.Ytpfpldmmdbgnnaa
