/- The walk of the statement that turning, picking rows, ranks and inverses of any matrix are what the document says. -/
import Derived.Test.YtpfpldmmdbgnnaaMatV
import Derived.Test.YtpfpldmmdbgnnaaMatY
namespace Go.Proofs.Ytpfpldmmdbgnnaa
open Go.RowKit

set_option maxHeartbeats 8000000 in
set_option maxRecDepth 100000 in
theorem ones_walk (w : World) (lo ro : Option Addr) (ll cl lr cr : Nat) (A : Nat → Option Addr) (C L : Nat → Nat) (H : M) (R : Nat → Int) (hl : Lst w lo ll A C L H) (hr : RdI w ro lr R) (hn : ∀ i, i < ll → A i = none → L i = 0 ∧ C i = 0) :
    Calls Try.prog 4 #[.slice lo ll cl, .slice ro lr cr] w fun e w' => e = .returned (.bool true) ∧ Below w.heap.size w w' := by
  have HL : Hid (Lst w lo ll A C L H) := hl
  have HR : Hid (RdI w ro lr R) := hr
  have HN : Hid (∀ i, i < ll → A i = none → L i = 0 ∧ C i = 0) := hn
  clear hl hr hn
  go_enter Try.func4, Try.ntmps4
  go_wp2_with fail
  refine (alive_any w).mono ?_
  rintro e w1 ⟨rfl, b1⟩
  replace HL : Hid (Lst w1 lo ll A C L H) := HL.out.below b1
  replace HR : Hid (RdI w1 ro lr R) := HR.out.below b1
  have MA := much_any w1 lo ll cl A C L H HL.out
  cases hf1 : fewB ll L
  · rw [hf1] at MA
    go_wp2_with fail
    refine MA.mono ?_
    rintro e w' ⟨rfl, hw'⟩
    obtain rfl := hw'.symm
    go_wp2_with fail
    go_ret
    exact ⟨rfl, b1⟩
  rw [hf1] at MA
  obtain ⟨ha1, ha2⟩ := of_decide_eq_true hf1
  have HA2 : Hid (∀ i, i < ll → L i ≤ 1000) := ha2
  clear hf1 ha2
  go_wp2_with fail
  refine MA.mono ?_
  rintro e w' ⟨rfl, hw'⟩
  obtain rfl := hw'.symm
  clear MA
  by_cases hlr : 1000 < lr
  · go_wp2_with fail
    go_ret
    exact ⟨rfl, b1⟩
  go_wp2_with fail
  refine (twin_any w1 lo ll cl A C L H ha1 HL.out HN.out HA2.out).mono ?_
  rintro e w2 ⟨xo, xc, T2, U2, rfl, hs, bn⟩
  have HX : Hid (Lst w2 xo ll T2 U2 L H) := hs.lst
  replace HL : Hid (Lst w2 lo ll A C L H) := HL.out.below bn
  replace HR : Hid (RdI w2 ro lr R) := HR.out.below bn
  replace b1 := below_step b1 bn b1.size
  clear hs bn HA2
  have HL0 := HL
  have HX0 := HX
  have HR0 := HR
  have sw := b1.size
  obtain ⟨nt, hnt⟩ : ∃ x, x = lenB (okM ll L) (L 0) := ⟨_, rfl⟩
  obtain ⟨et, het⟩ : ∃ x, x = errB (okM ll L) 30 := ⟨_, rfl⟩
  obtain ⟨np, hnp⟩ : ∃ x, x = lenB (okPick ll L lr R) lr := ⟨_, rfl⟩
  obtain ⟨ep, hep⟩ : ∃ x, x = errB (okPick ll L lr R) (errM (okM ll L) 2) := ⟨_, rfl⟩
  obtain ⟨rv, hrv⟩ : ∃ x, x = rankV ll L H := ⟨_, rfl⟩
  obtain ⟨nv, hnv⟩ : ∃ x, x = lenB (okInv ll L H) ll := ⟨_, rfl⟩
  obtain ⟨ev, hev⟩ : ∃ x, x = errB (okInv ll L H) (errM (okSq ll L) 5) := ⟨_, rfl⟩
  have q1 : nt ≤ 32 := by rw [hnt]; exact lenB_le _ _ _ (fun h => (okM_true h).2.2.2.1)
  have q2 : np ≤ 1000 := by rw [hnp]; exact lenB_le _ _ _ (fun _ => by omega)
  have q3 : 0 < np → L 0 ≤ 1000 := fun h => by cases hx : okPick ll L lr R with | false => rw [hnp, hx] at h; exact absurd h (Nat.lt_irrefl 0) | true => have := (okM_true (Bool.and_eq_true_iff.1 hx).1).2.2.2.1; omega
  have q4 : nv ≤ 1000 := by rw [hnv]; exact lenB_le _ _ _ (fun _ => ha1)
  have TU : Hid (∀ w xo xc A C, Lst w xo ll A C L H → Calls Try.prog 19 #[.slice xo ll xc] w fun e w' => ∃ mo mc, e = .returned (.tuple #[.slice mo nt mc, .int .i64 et]) ∧ Sol w' w.heap.size w'.heap.size mo nt mc ll (turn H) ∧ Below w.heap.size w w') := fun w xo xc A C h => by rw [het, hnt]; exact turned_any w xo ll xc A C L H h
  have TU2 : Hid (∀ w xo xc A C, Lst w xo ll A C L H → Calls Try.prog 21 #[.slice xo ll xc] w fun e w' => ∃ mo mc, e = .returned (.tuple #[.slice mo nt mc, .int .i64 et]) ∧ Sol w' w.heap.size w'.heap.size mo nt mc ll (turn H) ∧ Below w.heap.size w w') := fun w xo xc A C h => by rw [het, hnt]; exact rturned_any w xo ll xc A C L H h
  have PI : Hid (∀ w xo xc A C, Lst w xo ll A C L H → RdI w ro lr R → Calls Try.prog 12 #[.slice xo ll xc, .slice ro lr cr] w fun e w' => ∃ mo mc, e = .returned (.tuple #[.slice mo np mc, .int .i64 ep]) ∧ Sol w' w.heap.size w'.heap.size mo np mc (L 0) (picked H R) ∧ Below w.heap.size w w') := fun w xo xc A C h h2 => by rw [hep, hnp]; exact pick_any w xo ro ll xc lr cr A C L H R h h2
  have PI2 : Hid (∀ w, Lst w lo ll A C L H → RdI w ro lr R → Calls Try.prog 22 #[.slice lo ll cl, .slice ro lr cr] w fun e w' => ∃ mo mc, e = .returned (.tuple #[.slice mo np mc, .int .i64 ep]) ∧ Sol w' w.heap.size w'.heap.size mo np mc (L 0) (picked H R) ∧ Below w.heap.size w w') := fun w h h2 => by rw [hep, hnp]; exact rpick_any w lo ro ll cl lr cr A C L H R h h2 HN.out
  have RA : Hid (∀ w xo xc A C, Lst w xo ll A C L H → Calls Try.prog 20 #[.slice xo ll xc] w fun e w' => e = .returned (.tuple #[.int .i64 (rv : Int), .int .i64 et]) ∧ Below w.heap.size w w') := fun w xo xc A C h => by rw [het, hrv]; exact rank_any w xo ll xc A C L H h
  have RA2 : Hid (∀ w, Lst w lo ll A C L H → Calls Try.prog 23 #[.slice lo ll cl] w fun e w' => e = .returned (.tuple #[.int .i64 (rv : Int), .int .i64 et]) ∧ Below w.heap.size w w') := fun w h => by rw [het, hrv]; exact rrank_any w lo ll cl A C L H h HN.out
  have IN : Hid (∀ w xo xc A C, Lst w xo ll A C L H → Calls Try.prog 15 #[.slice xo ll xc] w fun e w' => ∃ mo mc, e = .returned (.tuple #[.slice mo nv mc, .int .i64 ev]) ∧ Sol w' w.heap.size w'.heap.size mo nv mc ll (invOf ll H) ∧ Below w.heap.size w w') := fun w xo xc A C h => by rw [hev, hnv]; exact inverse_any w xo ll xc A C L H h
  have IN2 : Hid (∀ w xo xc A C, Lst w xo ll A C L H → Calls Try.prog 24 #[.slice xo ll xc] w fun e w' => ∃ mo mc, e = .returned (.tuple #[.slice mo nv mc, .int .i64 ev]) ∧ Sol w' w.heap.size w'.heap.size mo nv mc ll (invOf ll H) ∧ Below w.heap.size w w') := fun w xo xc A C h => by rw [hev, hnv]; exact rinverse_any w xo ll xc A C L H h
  have CK : Hid (∀ w xo xc A C, Lst w xo ll A C L H → Calls Try.prog 13 #[.slice xo ll xc] w fun e w' => e = .returned (.int .i64 et) ∧ w' = w) := fun w xo xc A C h => by rw [het]; exact check_any w xo ll xc A C L H h
  have CK2 : Hid (∀ w xo xc A C, Lst w xo ll A C L H → Calls Try.prog 25 #[.slice xo ll xc] w fun e w' => e = .returned (.int .i64 et) ∧ ∃ q, w' = w.drewN q) := fun w xo xc A C h => by rw [het]; exact rcheck_any w xo ll xc A C L H h
  clear hnt het hnp hep hrv hnv hev
  have qt : (et == et) = true := by simp
  have qp : (ep == ep) = true := by simp
  have qv : (ev == ev) = true := by simp
  have qr : ((rv : Int) == (rv : Int)) = true := by simp
  go_wp2_with fail
  refine (TU.out w2 xo xc T2 U2 HX.out).mono ?_
  rintro e w3 ⟨to, tc, rfl, hs, bn⟩
  have ST : Hid (Sol w3 w2.heap.size w3.heap.size to nt tc ll (turn H)) := hs
  have s3 := bn.size
  replace HL : Hid (Lst w3 lo ll A C L H) := HL.out.below bn
  replace HR : Hid (RdI w3 ro lr R) := HR.out.below bn
  replace HX : Hid (Lst w3 xo ll T2 U2 L H) := HX.out.below bn
  replace b1 := below_step b1 bn b1.size
  clear hs bn
  go_wp2_with fail
  refine (PI.out w3 xo xc T2 U2 HX.out HR.out).mono ?_
  rintro e w4 ⟨po, pc, rfl, hs, bn⟩
  have SP : Hid (Sol w4 w3.heap.size w4.heap.size po np pc (L 0) (picked H R)) := hs
  have s4 := bn.size
  replace HL : Hid (Lst w4 lo ll A C L H) := HL.out.below bn
  replace HR : Hid (RdI w4 ro lr R) := HR.out.below bn
  replace HX : Hid (Lst w4 xo ll T2 U2 L H) := HX.out.below bn
  replace ST : Hid (Sol w4 w2.heap.size w3.heap.size to nt tc ll (turn H)) := ST.out.below bn
  replace b1 := below_step b1 bn b1.size
  clear hs bn
  go_wp2_with fail
  refine (RA.out w4 xo xc T2 U2 HX.out).mono ?_
  rintro e w5 ⟨rfl, bn⟩
  have s5 := bn.size
  replace HL : Hid (Lst w5 lo ll A C L H) := HL.out.below bn
  replace HR : Hid (RdI w5 ro lr R) := HR.out.below bn
  replace HX : Hid (Lst w5 xo ll T2 U2 L H) := HX.out.below bn
  replace ST : Hid (Sol w5 w2.heap.size w3.heap.size to nt tc ll (turn H)) := ST.out.below bn
  replace SP : Hid (Sol w5 w3.heap.size w4.heap.size po np pc (L 0) (picked H R)) := SP.out.below bn
  replace b1 := below_step b1 bn b1.size
  clear bn
  go_wp2_with fail
  refine (IN.out w5 xo xc T2 U2 HX.out).mono ?_
  rintro e w6 ⟨vo, vc, rfl, hs, bn⟩
  have SV : Hid (Sol w6 w5.heap.size w6.heap.size vo nv vc ll (invOf ll H)) := hs
  have s6 := bn.size
  replace HL : Hid (Lst w6 lo ll A C L H) := HL.out.below bn
  replace HR : Hid (RdI w6 ro lr R) := HR.out.below bn
  replace HX : Hid (Lst w6 xo ll T2 U2 L H) := HX.out.below bn
  replace ST : Hid (Sol w6 w2.heap.size w3.heap.size to nt tc ll (turn H)) := ST.out.below bn
  replace SP : Hid (Sol w6 w3.heap.size w4.heap.size po np pc (L 0) (picked H R)) := SP.out.below bn
  replace b1 := below_step b1 bn b1.size
  clear hs bn
  go_wp2_with fail
  refine (PI.out w6 xo xc T2 U2 HX.out HR.out).mono ?_
  rintro e w7 ⟨qo, qc, rfl, hs, bn⟩
  have SQ : Hid (Sol w7 w6.heap.size w7.heap.size qo np qc (L 0) (picked H R)) := hs
  have s7 := bn.size
  replace HL : Hid (Lst w7 lo ll A C L H) := HL.out.below bn
  replace HR : Hid (RdI w7 ro lr R) := HR.out.below bn
  replace HX : Hid (Lst w7 xo ll T2 U2 L H) := HX.out.below bn
  replace ST : Hid (Sol w7 w2.heap.size w3.heap.size to nt tc ll (turn H)) := ST.out.below bn
  replace SP : Hid (Sol w7 w3.heap.size w4.heap.size po np pc (L 0) (picked H R)) := SP.out.below bn
  replace SV : Hid (Sol w7 w5.heap.size w6.heap.size vo nv vc ll (invOf ll H)) := SV.out.below bn
  replace b1 := below_step b1 bn b1.size
  clear hs bn
  go_wp2_with fail
  refine (TU2.out w7 lo cl A C HL.out).mono ?_
  rintro e w8 ⟨t2o, t2c, rfl, hs, bn⟩
  have ST2 : Hid (Sol w8 w7.heap.size w8.heap.size t2o nt t2c ll (turn H)) := hs
  have s8 := bn.size
  replace HL : Hid (Lst w8 lo ll A C L H) := HL.out.below bn
  replace HR : Hid (RdI w8 ro lr R) := HR.out.below bn
  replace HX : Hid (Lst w8 xo ll T2 U2 L H) := HX.out.below bn
  replace ST : Hid (Sol w8 w2.heap.size w3.heap.size to nt tc ll (turn H)) := ST.out.below bn
  replace SP : Hid (Sol w8 w3.heap.size w4.heap.size po np pc (L 0) (picked H R)) := SP.out.below bn
  replace SV : Hid (Sol w8 w5.heap.size w6.heap.size vo nv vc ll (invOf ll H)) := SV.out.below bn
  replace SQ : Hid (Sol w8 w6.heap.size w7.heap.size qo np qc (L 0) (picked H R)) := SQ.out.below bn
  replace b1 := below_step b1 bn b1.size
  clear hs bn
  go_wp2_with fail
  refine (PI2.out w8 HL.out HR.out).mono ?_
  rintro e w9 ⟨p2o, p2c, rfl, hs, bn⟩
  have SP2 : Hid (Sol w9 w8.heap.size w9.heap.size p2o np p2c (L 0) (picked H R)) := hs
  have s9 := bn.size
  replace HL : Hid (Lst w9 lo ll A C L H) := HL.out.below bn
  replace HR : Hid (RdI w9 ro lr R) := HR.out.below bn
  replace HX : Hid (Lst w9 xo ll T2 U2 L H) := HX.out.below bn
  replace ST : Hid (Sol w9 w2.heap.size w3.heap.size to nt tc ll (turn H)) := ST.out.below bn
  replace SP : Hid (Sol w9 w3.heap.size w4.heap.size po np pc (L 0) (picked H R)) := SP.out.below bn
  replace SV : Hid (Sol w9 w5.heap.size w6.heap.size vo nv vc ll (invOf ll H)) := SV.out.below bn
  replace SQ : Hid (Sol w9 w6.heap.size w7.heap.size qo np qc (L 0) (picked H R)) := SQ.out.below bn
  replace ST2 : Hid (Sol w9 w7.heap.size w8.heap.size t2o nt t2c ll (turn H)) := ST2.out.below bn
  replace b1 := below_step b1 bn b1.size
  clear hs bn
  go_wp2_with fail
  refine (RA2.out w9 HL.out).mono ?_
  rintro e w10 ⟨rfl, bn⟩
  have s10 := bn.size
  replace HL : Hid (Lst w10 lo ll A C L H) := HL.out.below bn
  replace HR : Hid (RdI w10 ro lr R) := HR.out.below bn
  replace HX : Hid (Lst w10 xo ll T2 U2 L H) := HX.out.below bn
  replace ST : Hid (Sol w10 w2.heap.size w3.heap.size to nt tc ll (turn H)) := ST.out.below bn
  replace SP : Hid (Sol w10 w3.heap.size w4.heap.size po np pc (L 0) (picked H R)) := SP.out.below bn
  replace SV : Hid (Sol w10 w5.heap.size w6.heap.size vo nv vc ll (invOf ll H)) := SV.out.below bn
  replace SQ : Hid (Sol w10 w6.heap.size w7.heap.size qo np qc (L 0) (picked H R)) := SQ.out.below bn
  replace ST2 : Hid (Sol w10 w7.heap.size w8.heap.size t2o nt t2c ll (turn H)) := ST2.out.below bn
  replace SP2 : Hid (Sol w10 w8.heap.size w9.heap.size p2o np p2c (L 0) (picked H R)) := SP2.out.below bn
  replace b1 := below_step b1 bn b1.size
  clear bn
  go_wp2_with fail
  refine (IN2.out w10 lo cl A C HL.out).mono ?_
  rintro e w11 ⟨v2o, v2c, rfl, hs, bn⟩
  have SV2 : Hid (Sol w11 w10.heap.size w11.heap.size v2o nv v2c ll (invOf ll H)) := hs
  have s11 := bn.size
  replace HL : Hid (Lst w11 lo ll A C L H) := HL.out.below bn
  replace HR : Hid (RdI w11 ro lr R) := HR.out.below bn
  replace HX : Hid (Lst w11 xo ll T2 U2 L H) := HX.out.below bn
  replace ST : Hid (Sol w11 w2.heap.size w3.heap.size to nt tc ll (turn H)) := ST.out.below bn
  replace SP : Hid (Sol w11 w3.heap.size w4.heap.size po np pc (L 0) (picked H R)) := SP.out.below bn
  replace SV : Hid (Sol w11 w5.heap.size w6.heap.size vo nv vc ll (invOf ll H)) := SV.out.below bn
  replace SQ : Hid (Sol w11 w6.heap.size w7.heap.size qo np qc (L 0) (picked H R)) := SQ.out.below bn
  replace ST2 : Hid (Sol w11 w7.heap.size w8.heap.size t2o nt t2c ll (turn H)) := ST2.out.below bn
  replace SP2 : Hid (Sol w11 w8.heap.size w9.heap.size p2o np p2c (L 0) (picked H R)) := SP2.out.below bn
  replace b1 := below_step b1 bn b1.size
  clear hs bn
  go_wp2_with fail
  refine (same_sol w11 _ _ _ _ to t2o nt tc t2c ll _ _ ST.out ST2.out (by omega) (fun _ _ _ _ => rfl)).mono ?_
  rintro e w12 ⟨rfl, hq⟩
  have bn := drewN_below hq
  replace HL : Hid (Lst w12 lo ll A C L H) := HL.out.below bn
  replace HR : Hid (RdI w12 ro lr R) := HR.out.below bn
  replace HX : Hid (Lst w12 xo ll T2 U2 L H) := HX.out.below bn
  replace ST : Hid (Sol w12 w2.heap.size w3.heap.size to nt tc ll (turn H)) := ST.out.below bn
  replace SP : Hid (Sol w12 w3.heap.size w4.heap.size po np pc (L 0) (picked H R)) := SP.out.below bn
  replace SV : Hid (Sol w12 w5.heap.size w6.heap.size vo nv vc ll (invOf ll H)) := SV.out.below bn
  replace SQ : Hid (Sol w12 w6.heap.size w7.heap.size qo np qc (L 0) (picked H R)) := SQ.out.below bn
  replace ST2 : Hid (Sol w12 w7.heap.size w8.heap.size t2o nt t2c ll (turn H)) := ST2.out.below bn
  replace SP2 : Hid (Sol w12 w8.heap.size w9.heap.size p2o np p2c (L 0) (picked H R)) := SP2.out.below bn
  replace SV2 : Hid (Sol w12 w10.heap.size w11.heap.size v2o nv v2c ll (invOf ll H)) := SV2.out.below bn
  replace b1 := below_step b1 bn b1.size
  clear hq bn
  go_wp2_with fail
  refine (same_sol w12 _ _ _ _ po p2o np pc p2c (L 0) _ _ SP.out SP2.out (by omega) (fun _ _ _ _ => rfl)).mono ?_
  rintro e w13 ⟨rfl, hq⟩
  have bn := drewN_below hq
  replace HL : Hid (Lst w13 lo ll A C L H) := HL.out.below bn
  replace HR : Hid (RdI w13 ro lr R) := HR.out.below bn
  replace HX : Hid (Lst w13 xo ll T2 U2 L H) := HX.out.below bn
  replace ST : Hid (Sol w13 w2.heap.size w3.heap.size to nt tc ll (turn H)) := ST.out.below bn
  replace SP : Hid (Sol w13 w3.heap.size w4.heap.size po np pc (L 0) (picked H R)) := SP.out.below bn
  replace SV : Hid (Sol w13 w5.heap.size w6.heap.size vo nv vc ll (invOf ll H)) := SV.out.below bn
  replace SQ : Hid (Sol w13 w6.heap.size w7.heap.size qo np qc (L 0) (picked H R)) := SQ.out.below bn
  replace SP2 : Hid (Sol w13 w8.heap.size w9.heap.size p2o np p2c (L 0) (picked H R)) := SP2.out.below bn
  replace SV2 : Hid (Sol w13 w10.heap.size w11.heap.size v2o nv v2c ll (invOf ll H)) := SV2.out.below bn
  replace b1 := below_step b1 bn b1.size
  clear hq bn
  go_wp2_with fail
  refine (same_sol w13 _ _ _ _ vo v2o nv vc v2c ll _ _ SV.out SV2.out (by omega) (fun _ _ _ _ => rfl)).mono ?_
  rintro e w14 ⟨rfl, hq⟩
  have bn := drewN_below hq
  replace HL : Hid (Lst w14 lo ll A C L H) := HL.out.below bn
  replace HR : Hid (RdI w14 ro lr R) := HR.out.below bn
  replace HX : Hid (Lst w14 xo ll T2 U2 L H) := HX.out.below bn
  replace ST : Hid (Sol w14 w2.heap.size w3.heap.size to nt tc ll (turn H)) := ST.out.below bn
  replace SP : Hid (Sol w14 w3.heap.size w4.heap.size po np pc (L 0) (picked H R)) := SP.out.below bn
  replace SV : Hid (Sol w14 w5.heap.size w6.heap.size vo nv vc ll (invOf ll H)) := SV.out.below bn
  replace SQ : Hid (Sol w14 w6.heap.size w7.heap.size qo np qc (L 0) (picked H R)) := SQ.out.below bn
  replace SP2 : Hid (Sol w14 w8.heap.size w9.heap.size p2o np p2c (L 0) (picked H R)) := SP2.out.below bn
  replace SV2 : Hid (Sol w14 w10.heap.size w11.heap.size v2o nv v2c ll (invOf ll H)) := SV2.out.below bn
  replace b1 := below_step b1 bn b1.size
  clear hq bn
  go_wp2_with fail
  refine (CK.out w14 xo xc T2 U2 HX.out).mono ?_
  rintro e w' ⟨rfl, hw'⟩
  obtain rfl := hw'.symm
  go_wp2_with fail
  refine (CK2.out w14 lo cl A C HL.out).mono ?_
  rintro e w15 ⟨rfl, hq⟩
  have bn := drewN_below hq
  replace HL : Hid (Lst w15 lo ll A C L H) := HL.out.below bn
  replace HR : Hid (RdI w15 ro lr R) := HR.out.below bn
  replace HX : Hid (Lst w15 xo ll T2 U2 L H) := HX.out.below bn
  replace ST : Hid (Sol w15 w2.heap.size w3.heap.size to nt tc ll (turn H)) := ST.out.below bn
  replace SP : Hid (Sol w15 w3.heap.size w4.heap.size po np pc (L 0) (picked H R)) := SP.out.below bn
  replace SV : Hid (Sol w15 w5.heap.size w6.heap.size vo nv vc ll (invOf ll H)) := SV.out.below bn
  replace SQ : Hid (Sol w15 w6.heap.size w7.heap.size qo np qc (L 0) (picked H R)) := SQ.out.below bn
  replace SP2 : Hid (Sol w15 w8.heap.size w9.heap.size p2o np p2c (L 0) (picked H R)) := SP2.out.below bn
  replace b1 := below_step b1 bn b1.size
  clear hq bn
  go_wp2_with fail
  refine (spoil_sol w15 _ _ to nt tc ll (turn H) (by omega) (fun _ => ha1) ST.out).mono ?_
  rintro e w16 ⟨rfl, kp⟩
  replace HL : Hid (Lst w16 lo ll A C L H) := HL0.out.past HL.out kp (by omega)
  replace HR : Hid (RdI w16 ro lr R) := HR0.out.past HR.out kp (by omega)
  replace HX : Hid (Lst w16 xo ll T2 U2 L H) := HX0.out.past HX.out kp (by omega)
  replace SP : Hid (Sol w16 w3.heap.size w4.heap.size po np pc (L 0) (picked H R)) := SP.out.keeps kp (.inr (by omega))
  replace SV : Hid (Sol w16 w5.heap.size w6.heap.size vo nv vc ll (invOf ll H)) := SV.out.keeps kp (.inr (by omega))
  replace SQ : Hid (Sol w16 w6.heap.size w7.heap.size qo np qc (L 0) (picked H R)) := SQ.out.keeps kp (.inr (by omega))
  replace SP2 : Hid (Sol w16 w8.heap.size w9.heap.size p2o np p2c (L 0) (picked H R)) := SP2.out.keeps kp (.inr (by omega))
  replace b1 := b1.trans (kp.below b1.size (by omega))
  clear kp
  go_wp2_with fail
  refine (spoil_sol w16 _ _ po np pc (L 0) (picked H R) q2 q3 SP.out).mono ?_
  rintro e w17 ⟨rfl, kp⟩
  replace HL : Hid (Lst w17 lo ll A C L H) := HL0.out.past HL.out kp (by omega)
  replace HR : Hid (RdI w17 ro lr R) := HR0.out.past HR.out kp (by omega)
  replace HX : Hid (Lst w17 xo ll T2 U2 L H) := HX0.out.past HX.out kp (by omega)
  replace SV : Hid (Sol w17 w5.heap.size w6.heap.size vo nv vc ll (invOf ll H)) := SV.out.keeps kp (.inr (by omega))
  replace SQ : Hid (Sol w17 w6.heap.size w7.heap.size qo np qc (L 0) (picked H R)) := SQ.out.keeps kp (.inr (by omega))
  replace SP2 : Hid (Sol w17 w8.heap.size w9.heap.size p2o np p2c (L 0) (picked H R)) := SP2.out.keeps kp (.inr (by omega))
  replace b1 := b1.trans (kp.below b1.size (by omega))
  clear kp
  go_wp2_with fail
  refine (spoil_sol w17 _ _ vo nv vc ll (invOf ll H) q4 (fun _ => ha1) SV.out).mono ?_
  rintro e w18 ⟨rfl, kp⟩
  replace HL : Hid (Lst w18 lo ll A C L H) := HL0.out.past HL.out kp (by omega)
  replace HR : Hid (RdI w18 ro lr R) := HR0.out.past HR.out kp (by omega)
  replace HX : Hid (Lst w18 xo ll T2 U2 L H) := HX0.out.past HX.out kp (by omega)
  replace SQ : Hid (Sol w18 w6.heap.size w7.heap.size qo np qc (L 0) (picked H R)) := SQ.out.keeps kp (.inr (by omega))
  replace SP2 : Hid (Sol w18 w8.heap.size w9.heap.size p2o np p2c (L 0) (picked H R)) := SP2.out.keeps kp (.inr (by omega))
  replace b1 := b1.trans (kp.below b1.size (by omega))
  clear kp
  go_wp2_with fail
  refine (same_sol w18 _ _ _ _ qo p2o np qc p2c (L 0) _ _ SQ.out SP2.out (by omega) (fun _ _ _ _ => rfl)).mono ?_
  rintro e w19 ⟨rfl, hq⟩
  have bn := drewN_below hq
  replace HL : Hid (Lst w19 lo ll A C L H) := HL.out.below bn
  replace HR : Hid (RdI w19 ro lr R) := HR.out.below bn
  replace HX : Hid (Lst w19 xo ll T2 U2 L H) := HX.out.below bn
  replace SQ : Hid (Sol w19 w6.heap.size w7.heap.size qo np qc (L 0) (picked H R)) := SQ.out.below bn
  replace SP2 : Hid (Sol w19 w8.heap.size w9.heap.size p2o np p2c (L 0) (picked H R)) := SP2.out.below bn
  replace b1 := below_step b1 bn b1.size
  clear hq bn
  go_wp2_with fail
  refine (same_any w19 xo lo ll xc cl T2 A U2 C L L H H HX.out HL.out (fun _ _ => rfl) (fun _ _ _ _ => rfl) (by omega)).mono ?_
  rintro e w20 ⟨rfl, hq⟩
  have bn := drewN_below hq
  replace HL : Hid (Lst w20 lo ll A C L H) := HL.out.below bn
  replace HR : Hid (RdI w20 ro lr R) := HR.out.below bn
  replace HX : Hid (Lst w20 xo ll T2 U2 L H) := HX.out.below bn
  replace SQ : Hid (Sol w20 w6.heap.size w7.heap.size qo np qc (L 0) (picked H R)) := SQ.out.below bn
  replace SP2 : Hid (Sol w20 w8.heap.size w9.heap.size p2o np p2c (L 0) (picked H R)) := SP2.out.below bn
  replace b1 := below_step b1 bn b1.size
  clear hq bn
  go_wp2_with fail
  go_ret
  exact ⟨rfl, b1⟩
end Go.Proofs.Ytpfpldmmdbgnnaa
