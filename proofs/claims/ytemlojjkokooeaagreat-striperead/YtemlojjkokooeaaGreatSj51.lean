import Derived.Test.YtemlojjkokooeaaGreatSj45
import Derived.Test.YtemlojjkokooeaaGreatSj46
import Derived.Test.YtemlojjkokooeaaGreatSj47
import Derived.Test.YtemlojjkokooeaaGreatSj49
import Derived.Test.YtemlojjkokooeaaGreatSj50
set_option maxHeartbeats 16000000
set_option maxRecDepth 100000
namespace Go.Proofs.YtemlojjkokooeaaGreat
open Go.RowKit Go.Maps Go.ChangeShapes
theorem str_eq' (X : List UInt8) : ((sOf X).toList == (sOf X).toList) = true := by simp
theorem told_few {k r c q : Int} {N W : Nat} {x : Int} (h : Par k r c q N W x) {rn : Nat} {L : Nat -> Nat} {F : Nat -> Nat -> UInt8} {kd : UInt8} {v E : Int} (hE : erK x N c rn L kd v = E) {t : Sl} (ht : tS (yy N c L F) kd v (2 * N) = t) : lenE E t.vn <= 16 := by
 have hle := h.le
 unfold lenE
 by_cases he : E = 0
 ·rw [if_pos he]
  subst he
  obtain ⟨hR, hk, _⟩ := erK_zero hE
  rcases tS_is (v := v) hk (yy_ok N c L F) (2 * N) (Nat.le_refl _) with ⟨a, _⟩ | ⟨j, hj, a2, _, a4, _⟩
  ·rw [ht] at a; rw [a]; exact Nat.zero_le _
  ·rw [ht] at a2; rw [a2, (ok_of a4.1).vn]; exact hle
 ·rw [if_neg he]; omega
theorem sr_law {k r c q : Int} {N W : Nat} {x : Int} (h : Par k r c q N W x) (w : World) (ro : Option Addr) (rn rc : Nat) (A : Nat -> Option Addr) (L C : Nat -> Nat) (F : Nat -> Nat -> UInt8) (hr : Rw w ro rn A L C F) (hn : rn * 48 <= 140737488351232) (kd : UInt8) (ver : Int) :
  Calls Tryz.prog 3 #[.agg #[.int .i64 k, .int .i64 r, .int .i64 c, .int .i64 q], .slice ro rn rc, .int .u8 ((kd.toNat : Nat) : Int), .int .i64 ver] w fun e w' => e = .returned (.bool true) /\ Below w.heap.size w w' := by
 obtain ⟨w0, hw0⟩ : ∃ w0, w0 = w.alloc (.cells #[.int .i64 k, .int .i64 r, .int .i64 c, .int .i64 q] 23) := ⟨_, rfl⟩
 have b0 : Below w.heap.size w w0 := by rw [hw0]; exact below_alloc _ _
 obtain ⟨E, hE⟩ : ∃ E, erK x N c rn L kd ver = E := ⟨_, rfl⟩
 obtain ⟨G, hG⟩ : ∃ G, erV2 (erK x N c rn L kd ver) (erL k.toNat (zv N c L F kd ver) N) = G := ⟨_, rfl⟩
 obtain ⟨t, ht⟩ : ∃ t, tS (yy N c L F) kd ver (2 * N) = t := ⟨_, rfl⟩
 obtain ⟨tn, htn⟩ : ∃ y, y = lenE E t.vn := ⟨_, rfl⟩
 obtain ⟨z0, hz0⟩ : ∃ y, y = decide (E = 0 /\ t.ce ≠ 0) := ⟨_, rfl⟩
 obtain ⟨pn, hpn⟩ : ∃ y, y = lenE E (ct (zv N c L F kd ver) N) := ⟨_, rfl⟩
 obtain ⟨S, hS⟩ : ∃ y, y = se (zv N c L F kd ver) N := ⟨_, rfl⟩
 obtain ⟨cn, hcn⟩ : ∃ y, y = lenE G N := ⟨_, rfl⟩
 obtain ⟨m, hm⟩ : ∃ y, y = c.toNat := ⟨_, rfl⟩
 obtain ⟨H, hH⟩ : ∃ y, y = cH k.toNat (zv N c L F kd ver) N := ⟨_, rfl⟩
 obtain ⟨bn, hbn⟩ : ∃ y, y = lenE G (k.toNat * c.toNat) := ⟨_, rfl⟩
 obtain ⟨D, hD⟩ : ∃ y, y = cat2 c.toNat (cH k.toNat (zv N c L F kd ver) N) := ⟨_, rfl⟩
 have hle := h.le
 have HTN : Hid (tn <= 16) := by show _ <= _; rw [htn]; exact told_few h hE ht
 have HPN : Hid (pn <= 16) := by
  show _ <= _
  rw [hpn]; unfold lenE
  have := ct_le (zv N c L F kd ver) N
  split <;> omega
 have HCN : Hid (cn <= 16 /\ (0 < cn -> m <= 64)) := by
  refine ⟨?_, fun hp => ?_⟩
  ·rw [hcn]; unfold lenE; split <;> omega
  ·have hg : G = 0 := by
    by_cases g : G = 0
    ·exact g
    ·rw [hcn] at hp; unfold lenE at hp; rw [if_neg g] at hp; omega
   have he : erK x N c rn L kd ver = 0 := by
    by_cases g : erK x N c rn L kd ver = 0
    ·exact g
    ·unfold erV2 at hG; rw [if_neg g] at hG; exact absurd (hG.trans hg) g
   obtain ⟨hR, _⟩ := erK_zero he
   obtain ⟨hx, _⟩ := erR_zero hR
   have := h.cell hx
   omega
 have K11 : Hid (∀ v ao cap A2 C2, Rw v ao rn A2 L C2 F -> Calls Tryz.prog 11 #[.agg #[.int .i64 k, .int .i64 r, .int .i64 c, .int .i64 q], .slice ao rn cap, .int .u8 ((kd.toNat : Nat) : Int), .int .i64 ver] v fun e w' => ∃ a b, e = .returned (.tuple #[.slice a tn b, .bool z0, .int .i64 E]) /\ Own v.heap.size w' a tn b t.V /\ Below v.heap.size v w') := fun v ao cap A2 C2 hv => by rw [htn, hz0]; exact Vector_any h v ao rn cap A2 L C2 F hv kd ver E hE t ht
 have K12 : Hid (∀ v ao cap A2 C2, Rw v ao rn A2 L C2 F -> Calls Tryz.prog 12 #[.agg #[.int .i64 k, .int .i64 r, .int .i64 c, .int .i64 q], .slice ao rn cap, .int .u8 ((kd.toNat : Nat) : Int), .int .i64 ver] v fun e w' => ∃ a b, e = .returned (.tuple #[.slice a tn b, .bool z0, .int .i64 E]) /\ Own v.heap.size w' a tn b t.V /\ Below v.heap.size v w') := fun v ao cap A2 C2 hv => by rw [htn, hz0]; exact RVector_any h v ao rn cap A2 L C2 F hv kd ver E hE t ht
 have K13 : Hid (∀ v ao cap A2 C2, Rw v ao rn A2 L C2 F -> Calls Tryz.prog 13 #[.agg #[.int .i64 k, .int .i64 r, .int .i64 c, .int .i64 q], .slice ao rn cap, .int .u8 ((kd.toNat : Nat) : Int), .int .i64 ver] v fun e w' => ∃ a b, e = .returned (.tuple #[.slice a pn b, .int .i64 E]) /\ Own v.heap.size w' a pn b S /\ Below v.heap.size v w') := fun v ao cap A2 C2 hv => by rw [hpn, hS]; exact Present_any h v ao rn cap A2 L C2 F hv kd ver E hE
 have K14 : Hid (∀ v ao cap A2 C2, Rw v ao rn A2 L C2 F -> Calls Tryz.prog 14 #[.agg #[.int .i64 k, .int .i64 r, .int .i64 c, .int .i64 q], .slice ao rn cap, .int .u8 ((kd.toNat : Nat) : Int), .int .i64 ver] v fun e w' => ∃ a b, e = .returned (.tuple #[.slice a pn b, .int .i64 E]) /\ Own v.heap.size w' a pn b S /\ Below v.heap.size v w') := fun v ao cap A2 C2 hv => by rw [hpn, hS]; exact RPresent_any h v ao rn cap A2 L C2 F hv kd ver E hE
 have K15 : Hid (∀ v ao cap A2 C2, Rw v ao rn A2 L C2 F -> Calls Tryz.prog 15 #[.agg #[.int .i64 k, .int .i64 r, .int .i64 c, .int .i64 q], .slice ao rn cap, .int .u8 ((kd.toNat : Nat) : Int), .int .i64 ver] v fun e w' => ∃ a b T U, e = .returned (.tuple #[.slice a cn b, .int .i64 G]) /\ Cls v.heap.size w' a cn b m T U H /\ Below v.heap.size v w') := fun v ao cap A2 C2 hv => by rw [hcn, hm, hH]; exact Cells_any h v ao rn cap A2 L C2 F hv kd ver G hG
 have K16 : Hid (∀ v ao cap A2 C2, Rw v ao rn A2 L C2 F -> Calls Tryz.prog 16 #[.agg #[.int .i64 k, .int .i64 r, .int .i64 c, .int .i64 q], .slice ao rn cap, .int .u8 ((kd.toNat : Nat) : Int), .int .i64 ver] v fun e w' => ∃ a b T U, e = .returned (.tuple #[.slice a cn b, .int .i64 G]) /\ Cls v.heap.size w' a cn b m T U H /\ Below v.heap.size v w') := fun v ao cap A2 C2 hv => by rw [hcn, hm, hH]; exact RCells_any h v ao rn cap A2 L C2 F hv kd ver G hG
 have K17 : Hid (∀ v ao cap A2 C2, Rw v ao rn A2 L C2 F -> Calls Tryz.prog 17 #[.agg #[.int .i64 k, .int .i64 r, .int .i64 c, .int .i64 q], .slice ao rn cap, .int .u8 ((kd.toNat : Nat) : Int), .int .i64 ver] v fun e w' => ∃ a b, e = .returned (.tuple #[.slice a bn b, .int .i64 G]) /\ OwU v.heap.size w' a bn b D /\ Below v.heap.size v w') := fun v ao cap A2 C2 hv => by rw [hbn, hD]; exact Read_any h v ao rn cap A2 L C2 F hv kd ver G hG
 have K18 : Hid (∀ v ao cap A2 C2, Rw v ao rn A2 L C2 F -> Calls Tryz.prog 18 #[.agg #[.int .i64 k, .int .i64 r, .int .i64 c, .int .i64 q], .slice ao rn cap, .int .u8 ((kd.toNat : Nat) : Int), .int .i64 ver] v fun e w' => ∃ a b, e = .returned (.tuple #[.slice a bn b, .int .i64 G]) /\ OwU v.heap.size w' a bn b D /\ Below v.heap.size v w') := fun v ao cap A2 C2 hv => by rw [hbn, hD]; exact RRead_any h v ao rn cap A2 L C2 F hv kd ver G hG
 have HR : Hid (Rw w ro rn A L C F) := hr
 have HN : Hid (rn * 48 <= 140737488351232) := hn
 have L0 : Hid (∀ v, Below w0.heap.size w0 v -> At w v w.heap.size #[.int .i64 k, .int .i64 r, .int .i64 c, .int .i64 q] 23) := fun v hv => (at_made (Below.refl _ _) hw0).below hv
 have B0 : Hid (Below w.heap.size w w0) := b0
 clear hr hn b0 hE hG ht htn hz0 hpn hS hcn hm hH hbn hD hle h
 go_enter Tryz.func3, Tryz.ntmps3
 go_wp2_with fail
 rw [<- hw0]
 clear hw0
 refine (awake_any _).mono ?_
 rintro e wa ⟨rfl, ha⟩
 have SA : Hid (Below w0.heap.size w0 wa) := ha
 clear ha
 have HRA := HR.out.below (below_then B0.out SA.out)
 go_wp2_with fail
 refine (Twin_any wa ro rn rc A L C F HRA HN.out).mono ?_
 rintro e wb ⟨ao, cap, A', C', rfl, htw⟩
 have SB : Hid (Below wa.heap.size wa wb) := htw.bel
 have HRT : Hid (∀ v, Below wb.heap.size wb v -> Rw v ao rn A' L C' F) := fun v hv => htw.rw.below hv
 have HRO : Hid (∀ v, Below wb.heap.size wb v -> Rw v ro rn A L C F) := fun v hv => (HRA.below SB.out).below hv
 have LP : Hid (∀ v, Below wb.heap.size wb v -> At w v w.heap.size #[.int .i64 k, .int .i64 r, .int .i64 c, .int .i64 q] 23) := fun v hv => L0.out v (below_then (below_then SA.out SB.out) hv)
 clear htw HRA
 have pq := LP.out wb (Below.refl _ _)
 have s0 := pq.cell (i := 0) rfl
 have s1 := pq.cell (i := 1) rfl
 have s2 := pq.cell (i := 2) rfl
 have s3 := pq.cell (i := 3) rfl
 clear pq
 go_wp2_with fail
 refine (K11.out wb _ _ _ _ (HRT.out wb (Below.refl _ _))).mono ?_
 rintro e w1 ⟨a1, k1, rfl, hz, hb⟩
 have HZ1 : Hid (Own wb.heap.size w1 a1 tn k1 t.V) := hz
 have S1 : Hid (Below wb.heap.size wb w1) := hb
 clear hz hb s0 s1 s2 s3
 have pq := LP.out w1 S1.out
 have s0 := pq.cell (i := 0) rfl
 have s1 := pq.cell (i := 1) rfl
 have s2 := pq.cell (i := 2) rfl
 have s3 := pq.cell (i := 3) rfl
 clear pq
 go_wp2_with fail
 refine (K12.out w1 _ _ _ _ (HRO.out w1 S1.out)).mono ?_
 rintro e w2 ⟨a2, k2, rfl, hz, hb⟩
 have HZ2 : Hid (Own w1.heap.size w2 a2 tn k2 t.V) := hz
 have S2 : Hid (Below w1.heap.size w1 w2) := hb
 clear hz hb s0 s1 s2 s3
 have pq := LP.out w2 (below_then S1.out S2.out)
 have s0 := pq.cell (i := 0) rfl
 have s1 := pq.cell (i := 1) rfl
 have s2 := pq.cell (i := 2) rfl
 have s3 := pq.cell (i := 3) rfl
 clear pq
 go_wp2_with fail
 refine (K13.out w2 _ _ _ _ (HRT.out w2 (below_then S1.out S2.out))).mono ?_
 rintro e w3 ⟨a3, k3, rfl, hz, hb⟩
 have HZ3 : Hid (Own w2.heap.size w3 a3 pn k3 S) := hz
 have S3 : Hid (Below w2.heap.size w2 w3) := hb
 clear hz hb s0 s1 s2 s3
 have pq := LP.out w3 (below_then (below_then S1.out S2.out) S3.out)
 have s0 := pq.cell (i := 0) rfl
 have s1 := pq.cell (i := 1) rfl
 have s2 := pq.cell (i := 2) rfl
 have s3 := pq.cell (i := 3) rfl
 clear pq
 go_wp2_with fail
 refine (K14.out w3 _ _ _ _ (HRO.out w3 (below_then (below_then S1.out S2.out) S3.out))).mono ?_
 rintro e w4 ⟨a4, k4, rfl, hz, hb⟩
 have HZ4 : Hid (Own w3.heap.size w4 a4 pn k4 S) := hz
 have S4 : Hid (Below w3.heap.size w3 w4) := hb
 clear hz hb s0 s1 s2 s3
 have pq := LP.out w4 (below_then (below_then (below_then S1.out S2.out) S3.out) S4.out)
 have s0 := pq.cell (i := 0) rfl
 have s1 := pq.cell (i := 1) rfl
 have s2 := pq.cell (i := 2) rfl
 have s3 := pq.cell (i := 3) rfl
 clear pq
 go_wp2_with fail
 refine (K15.out w4 _ _ _ _ (HRT.out w4 (below_then (below_then (below_then S1.out S2.out) S3.out) S4.out))).mono ?_
 rintro e w5 ⟨a5, k5, T5, U5, rfl, hz, hb⟩
 have HZ5 : Hid (Cls w4.heap.size w5 a5 cn k5 m T5 U5 H) := hz
 have S5 : Hid (Below w4.heap.size w4 w5) := hb
 clear hz hb s0 s1 s2 s3
 have pq := LP.out w5 (below_then (below_then (below_then (below_then S1.out S2.out) S3.out) S4.out) S5.out)
 have s0 := pq.cell (i := 0) rfl
 have s1 := pq.cell (i := 1) rfl
 have s2 := pq.cell (i := 2) rfl
 have s3 := pq.cell (i := 3) rfl
 clear pq
 go_wp2_with fail
 refine (K16.out w5 _ _ _ _ (HRO.out w5 (below_then (below_then (below_then (below_then S1.out S2.out) S3.out) S4.out) S5.out))).mono ?_
 rintro e w6 ⟨a6, k6, T6, U6, rfl, hz, hb⟩
 have HZ6 : Hid (Cls w5.heap.size w6 a6 cn k6 m T6 U6 H) := hz
 have S6 : Hid (Below w5.heap.size w5 w6) := hb
 clear hz hb s0 s1 s2 s3
 have pq := LP.out w6 (below_then (below_then (below_then (below_then (below_then S1.out S2.out) S3.out) S4.out) S5.out) S6.out)
 have s0 := pq.cell (i := 0) rfl
 have s1 := pq.cell (i := 1) rfl
 have s2 := pq.cell (i := 2) rfl
 have s3 := pq.cell (i := 3) rfl
 clear pq
 go_wp2_with fail
 refine (K17.out w6 _ _ _ _ (HRT.out w6 (below_then (below_then (below_then (below_then (below_then S1.out S2.out) S3.out) S4.out) S5.out) S6.out))).mono ?_
 rintro e w7 ⟨a7, k7, rfl, hz, hb⟩
 have HZ7 : Hid (OwU w6.heap.size w7 a7 bn k7 D) := hz
 have S7 : Hid (Below w6.heap.size w6 w7) := hb
 clear hz hb s0 s1 s2 s3
 have pq := LP.out w7 (below_then (below_then (below_then (below_then (below_then (below_then S1.out S2.out) S3.out) S4.out) S5.out) S6.out) S7.out)
 have s0 := pq.cell (i := 0) rfl
 have s1 := pq.cell (i := 1) rfl
 have s2 := pq.cell (i := 2) rfl
 have s3 := pq.cell (i := 3) rfl
 clear pq
 go_wp2_with fail
 refine (K18.out w7 _ _ _ _ (HRO.out w7 (below_then (below_then (below_then (below_then (below_then (below_then S1.out S2.out) S3.out) S4.out) S5.out) S6.out) S7.out))).mono ?_
 rintro e w8 ⟨a8, k8, rfl, hz, hb⟩
 have HZ8 : Hid (OwU w7.heap.size w8 a8 bn k8 D) := hz
 have S8 : Hid (Below w7.heap.size w7 w8) := hb
 clear hz hb s0 s1 s2 s3
 have HI := SameInts_any w8 a1 a2 tn k1 k2 _ _ (HZ1.out.below (below_then (below_then (below_then (below_then (below_then (below_then S2.out S3.out) S4.out) S5.out) S6.out) S7.out) S8.out)).vec.rd (HZ2.out.below (below_then (below_then (below_then (below_then (below_then S3.out S4.out) S5.out) S6.out) S7.out) S8.out)).vec.rd (by have := HTN.out; omega) (fun _ _ => rfl)
 go_wp2_with fail
 refine HI.mono ?_
 rintro e w9 ⟨rfl, hb⟩
 have S9 : Hid (Below w8.heap.size w8 w9) := hb
 clear hb HI
 have HI := SameInts_any w9 a3 a4 pn k3 k4 _ _ (HZ3.out.below (below_then (below_then (below_then (below_then (below_then S4.out S5.out) S6.out) S7.out) S8.out) S9.out)).vec.rd (HZ4.out.below (below_then (below_then (below_then (below_then S5.out S6.out) S7.out) S8.out) S9.out)).vec.rd (by have := HPN.out; omega) (fun _ _ => rfl)
 go_wp2_with fail
 refine HI.mono ?_
 rintro e w10 ⟨rfl, hb⟩
 have S10 : Hid (Below w9.heap.size w9 w10) := hb
 clear hb HI
 have HI := SameCells_any w10 a5 a6 cn k5 k6 _ _ _ _ _ _ _ (HZ5.out.below (below_then (below_then (below_then (below_then S6.out S7.out) S8.out) S9.out) S10.out)).lsb (HZ6.out.below (below_then (below_then (below_then S7.out S8.out) S9.out) S10.out)).lsb (by have := HCN.out.1; omega) (fun _ _ _ _ => rfl)
 go_wp2_with fail
 refine HI.mono ?_
 rintro e w11 ⟨rfl, hb⟩
 have S11 : Hid (Below w10.heap.size w10 w11) := hb
 clear hb HI
 have v1 : (convert 36 9 (.slice a7 bn k7)).run Tryz.prog w11 = .ok (.string (sOf (lsF bn D))) w11 := conv_any (HZ7.out.below (below_then (below_then (below_then S8.out S9.out) S10.out) S11.out)).bec
 have v2 : (convert 36 9 (.slice a8 bn k8)).run Tryz.prog w11 = .ok (.string (sOf (lsF bn D))) w11 := conv_any (HZ8.out.below (below_then (below_then S9.out S10.out) S11.out)).bec
 have e1 := str_eq' (lsF bn D)
 have HSP : Hid (∀ g, a5 = some ⟨g, 0, none⟩ -> Spc w4.heap.size w5.heap.size 0 cn m w11 w11 g k5 T5 U5) := fun g hg => by
  have ht := HZ5.out
  rw [hg] at ht
  exact spc_0 ht (below_then (below_then (below_then (below_then (below_then S6.out S7.out) S8.out) S9.out) S10.out) S11.out)
 have HHD : Hid (0 < cn -> ∃ g, a5 = some ⟨g, 0, none⟩) := fun hp => HZ5.out.head hp
 have HZ6' : Hid (Cls w5.heap.size w11 a6 cn k6 m T6 U6 H) := HZ6.out.below (below_then (below_then (below_then (below_then S7.out S8.out) S9.out) S10.out) S11.out)
 have HZ1' : Hid (Own wb.heap.size w11 a1 tn k1 t.V) := HZ1.out.below (below_then (below_then (below_then (below_then (below_then (below_then (below_then (below_then (below_then S2.out S3.out) S4.out) S5.out) S6.out) S7.out) S8.out) S9.out) S10.out) S11.out)
 have HB11 : Hid (Below wb.heap.size wb w11) := (below_then (below_then (below_then (below_then (below_then (below_then (below_then (below_then (below_then (below_then S1.out S2.out) S3.out) S4.out) S5.out) S6.out) S7.out) S8.out) S9.out) S10.out) S11.out)
 have HSZ : Hid (wb.heap.size <= w1.heap.size /\ w1.heap.size <= w4.heap.size /\ w4.heap.size <= w5.heap.size /\ w5.heap.size <= w11.heap.size) := ⟨S1.out.size, ((below_then (below_then S2.out S3.out) S4.out) : Below w1.heap.size w1 w4).size, S5.out.size, ((below_then (below_then (below_then (below_then (below_then S6.out S7.out) S8.out) S9.out) S10.out) S11.out) : Below w5.heap.size w5 w11).size⟩
 have HL1 : Hid (∀ a, a1 = some a -> a.block < w1.heap.size) := fun a ha => (owns_at HZ1.out ha).2.1
 clear HZ1 HZ2 HZ3 HZ4 HZ5 HZ6 HZ7 HZ8 K11 K12 K13 K14 K16 K17 K18 S1 S2 S3 S4 S5 S6 S7 S8 S9 S10 S11
 obtain ⟨i0, hi0, hq0, hq1, hq2⟩ := info_parts info5
 go_wp2_with fail
 clear v1 v2 e1
 go_loopw [31] (fun y wr => ∃ i : Nat, i <= cn /\ y = .int .i64 (i : Int) /\ Hid (Only (fun b => w4.heap.size <= b /\ b < w5.heap.size) w11 wr) /\ Hid (∀ g, a5 = some ⟨g, 0, none⟩ -> Spc w4.heap.size w5.heap.size i cn m w11 wr g k5 T5 U5)) (fun y _ => cn - (intOf y).toNat)
 case atStart => exact ⟨0, Nat.zero_le _, rfl, Only.refl _ _, HSP.out⟩
 case round =>
  obtain ⟨i, hi, rfl, hon, hsp⟩ := hrel
  by_cases hlt : i < cn
  ·obtain ⟨g, rfl⟩ := HHD.out (by omega)
   have hm64 : m <= 64 := HCN.out.2 (by omega)
   have hcn16 := HCN.out.1
   have HS0 : Hid (Spc w4.heap.size w5.heap.size i cn m w11 wr g k5 T5 U5) := hsp.out g rfl
   have i1 : (0 : Int) <= (i : Int) := by omega
   have i2 : (i : Int) < (cn : Int) := by omega
   obtain ⟨ta, hta⟩ : ∃ ta, ta = T5 i := ⟨_, rfl⟩
   obtain ⟨tc, htc⟩ : ∃ tc, tc = U5 i := ⟨_, rfl⟩
   have HTA : Hid (ta = T5 i /\ tc = U5 i) := ⟨hta, htc⟩
   clear hta htc
   go_wp2_with fail
   go_loopw [32] (fun y wq => ∃ u : Nat, u <= m /\ y = .int .i64 (u : Int) /\ Hid (Spc w4.heap.size w5.heap.size i cn m w11 wq g k5 T5 U5)) (fun y _ => m - (intOf y).toNat)
   case atStart => exact ⟨0, Nat.zero_le _, rfl, HS0⟩
   case round =>
    obtain ⟨u, hu, rfl, hsq⟩ := hrel
    have c1 : wr.cell? ⟨g, i, none⟩ = some (.slice ta m tc) := by rw [HTA.out.1, HTA.out.2]; exact hsq.out.c1 hlt
    by_cases hut : u < m
    ·obtain ⟨gi, hgi⟩ : ∃ gi, T5 i = some ⟨gi, 0, none⟩ := hsq.out.inner hlt (by omega)
     obtain ⟨⟨xo, x1⟩, x2⟩ := hsq.out.rd hlt (gi := gi) (u := u) hgi hut
     have HPU : Hid (Spc w4.heap.size w5.heap.size i cn m w11 (wr.setCell ⟨gi, u, none⟩ (.int .u8 99)) g k5 T5 U5) := hsq.out.put hlt hgi _
     rw [show ta = some ⟨gi, 0, none⟩ from HTA.out.1.trans hgi] at c1
     have u1 : (0 : Int) <= (u : Int) := by omega
     have u2 : (u : Int) < (m : Int) := by omega
     clear hgi
     go_wp2_with fail
     go_roundw
     case rel => exact ⟨u + 1, by omega, by go_num, HPU⟩
     case measure => simp [intOf]; omega
    ·have u2 : ¬ (u : Int) < (m : Int) := by omega
     obtain ⟨⟨ys, hys⟩, _⟩ := hsq.out.cel i (Nat.le_refl _) hlt
     have OE : wr.ownsRow w4.heap.size 5 1 (.slice ta m tc) m ys := by rw [HTA.out.1, HTA.out.2]; exact hys
     have hwz := hsq.out.onl.size
     have HWZ : Hid (w4.heap.size <= wr.heap.size) := by show _ <= _; have := HSZ.out; omega
     have HOB : Hid ((Value.slice (T5 i) m (U5 i)).ownBlock = (Value.slice ta m tc).ownBlock) := by show _ = _; rw [HTA.out.1, HTA.out.2]
     clear hys hwz
     go_wp2_with (first
      | (at_builtin; refine wpList_append_own_at _ rfl _ _ 36 rfl w4.heap.size 5 i0 (.int .u8 0) 1 1 Tryz.underlying36 hi0 hq0 hq1 hq2 rfl (by decide) _ _ _ rfl (OE.alloc _) ⟨wr.heap.size, 0, none⟩ 1 1 [.int .u8 98] rfl rfl (cell_one_new _ _ _) (by simp [Value.oneCell']) (by unfold maxLen; omega) (by omega) (by have := HWZ.out; simp; omega) ?_; intro v' wn hown2 hgrow hnil hloc; obtain ⟨⟨xo, x1⟩, x2, hnx⟩ := hsq.out.next hlt (by rw [HOB.out]; exact hgrow); have HNX : Hid (∀ v, Spc w4.heap.size w5.heap.size (i + 1) cn m w11 (wn.setCell ⟨g, i, none⟩ v) g k5 T5 U5) := hnx; obtain ⟨an, cn', rfl⟩ := Cod.owns_form hown2; clear hnx hown2 hgrow hnil hloc)
      | go_in)
     go_roundw
     case rel =>
      refine ⟨i + 1, by omega, by go_num, (HNX.out _).onl, fun g' hg' => ?_⟩
      cases hg'
      exact HNX.out _
     case measure => simp [intOf]; omega
  ·have i2 : ¬ (i : Int) < (cn : Int) := by omega
   have HON : Hid (Only (fun b => w4.heap.size <= b /\ b < w5.heap.size) w11 wr) := hon.out
   have HV : Hid (∃ ys, wr.ownsRow wb.heap.size 3 1 (.slice a1 tn k1) tn ys) := ⟨_, owns_blocks HZ1'.out fun a ha => by
    have h1 := HL1.out a ha
    have h2 := HSZ.out
    exact hon.out.block _ (by omega) (by omega)⟩
   obtain ⟨wc, hwc⟩ : ∃ wc, wc = wr := ⟨_, rfl⟩
   have HWC : Hid (wc = wr) := hwc
   rw [<- hwc] at HON
   have HV0 : Hid (∃ ys, wc.ownsRow wb.heap.size 3 1 (.slice a1 tn k1) tn ys) := by rw [hwc]; exact HV.out
   clear hon hsp HSP HV
   subst hwc
   clear HWC
   have htn := HTN.out
   go_wp2_with fail
   go_loopw [33] (fun y wr => ∃ i : Nat, i <= tn /\ y = .int .i64 (i : Int) /\ Hid (Only (fun b => wb.heap.size <= b /\ b < w1.heap.size) wc wr) /\ Hid (∃ ys, wr.ownsRow wb.heap.size 3 1 (.slice a1 tn k1) tn ys)) (fun y _ => tn - (intOf y).toNat)
   case atStart => exact ⟨0, Nat.zero_le _, rfl, Only.refl _ _, HV0.out⟩
   case round =>
    obtain ⟨j, hj, rfl, hov, hve⟩ := hrel
    by_cases hjt : j < tn
    ·obtain ⟨ys, hys⟩ := hve.out
     obtain ⟨g, rfl⟩ : ∃ g, a1 = some ⟨g, 0, none⟩ := by
      rcases hys.2 with ⟨_, h1⟩ | ⟨g, cap', cur, h1, _⟩
      ·omega
      ·cases h1; exact ⟨g, rfl⟩
     have hl := hys.1
     have x1 : wr.cell? ⟨g, j, none⟩ = some (ys[j]'(by omega)) := by rw [World.ownsRow.cellAt hys j (by omega), List.getElem?_eq_getElem (by omega)]
     obtain ⟨xo, hxo⟩ : ∃ xo, xo = ys[j]'(by omega) := ⟨_, rfl⟩
     rw [<- hxo] at x1
     have x2 := World.ownsRow.frozenAt hys j
     have HNX : Hid ((∃ ys, (wr.setCell ⟨g, j, none⟩ (.int .i64 (-9))).ownsRow wb.heap.size 3 1 (.slice (some ⟨g, 0, none⟩) tn k1) tn ys) /\ Only (fun b => wb.heap.size <= b /\ b < w1.heap.size) wc (wr.setCell ⟨g, j, none⟩ (.int .i64 (-9)))) :=
      ⟨⟨_, (World.ownsRow.stored hys j _).1⟩, hov.out.setCell (p := ⟨g, j, none⟩) ⟨(hys.lt g rfl).1, HL1.out ⟨g, 0, none⟩ rfl⟩ _⟩
     have u1 : (0 : Int) <= (j : Int) := by omega
     have u2 : (j : Int) < (tn : Int) := by omega
     clear hxo hys hl
     go_wp2_with fail
     go_roundw
     case rel => exact ⟨j + 1, by omega, by go_num, HNX.out.2, HNX.out.1⟩
     case measure => simp [intOf]; omega
    ·have u2 : ¬ (j : Int) < (tn : Int) := by omega
     have HBB : Hid (Below wb.heap.size wb wr) := by
      have h2 := HSZ.out
      exact (HB11.out.trans (HON.out.below (fun b hb => by omega) HB11.out.size)).trans (hov.out.below (fun b hb => hb.1) (by have := HON.out.size; have := HB11.out.size; omega))
     have HCW : Hid (Cls w5.heap.size wr a6 cn k6 m T6 U6 H) := by
      have h2 := HSZ.out
      have h3 := HON.out.size
      exact (HZ6'.out.stay fun g h4 h5 => HON.out.block g h5 (by omega)).stay fun g h4 h5 => hov.out.block g h5 (by omega)
     have pq := LP.out wr HBB.out
     have s0 := pq.cell (i := 0) rfl
     have s1 := pq.cell (i := 1) rfl
     have s2 := pq.cell (i := 2) rfl
     have s3 := pq.cell (i := 3) rfl
     clear pq hov hve
     go_wp2_with fail
     refine (K15.out wr _ _ _ _ (HRT.out wr HBB.out)).mono ?_
     rintro e wd ⟨a9, k9, T9, U9, rfl, hz, hb⟩
     have HZD : Hid (Cls wr.heap.size wd a9 cn k9 m T9 U9 H) := hz
     have SD : Hid (Below wr.heap.size wr wd) := hb
     clear hz hb s0 s1 s2 s3
     have HSR := SameRow_any wd ao ro rn cap rc A' A L C' C F F (HRT.out _ (below_then HBB.out SD.out)) (HRO.out _ (below_then HBB.out SD.out)) (by have := HN.out; omega) (fun _ _ _ _ => rfl)
     go_wp2_with fail
     refine HSR.mono ?_
     rintro e we ⟨rfl, hb⟩
     have SE : Hid (Below wd.heap.size wd we) := hb
     clear hb HSR
     have HSC := SameCells_any we a9 a6 cn k9 k6 _ _ _ _ _ _ _ (HZD.out.below SE.out).lsb (HCW.out.below (below_then SD.out SE.out)).lsb (by have := HCN.out.1; omega) (fun _ _ _ _ => rfl)
     go_wp2_with fail
     refine HSC.mono ?_
     rintro e wf ⟨rfl, hb⟩
     have SF : Hid (Below we.heap.size we wf) := hb
     clear hb HSC
     go_wp2_with fail
     go_ret
     exact ⟨rfl, below_then (below_then (below_then (below_then (below_then B0.out SA.out) SB.out) HBB.out) (below_then SD.out SE.out)) SF.out⟩
end Go.Proofs.YtemlojjkokooeaaGreat
