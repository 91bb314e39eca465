import Derived.Test.YtemlojjkokooeaaGreatTj45
import Derived.Test.YtemlojjkokooeaaGreatTj47
import Derived.Test.YtemlojjkokooeaaGreatTj49
import Derived.Test.YtemlojjkokooeaaGreatTj50
set_option maxHeartbeats 16000000
set_option maxRecDepth 100000
namespace Go.Proofs.YtemlojjkokooeaaGreat
open Go.RowKit Go.Maps Go.ChangeShapes
theorem str_eqw (X : List UInt8) : ((sOf X).toList == (sOf X).toList) = true := by simp
theorem lenE_pos {E : Int} {m : Nat} (h : 0 < lenE E m) : E = 0 /\ lenE E m = m := by
 unfold lenE at h ⊢
 by_cases e : E = 0
 ·rw [if_pos e]; exact ⟨e, rfl⟩
 ·rw [if_neg e] at h; omega
theorem rpu_none (w : World) (ao : Option Addr) (D S : Nat -> Int) (nu : Int) (n : Nat) (T : Nat -> Option Addr) (U : Nat -> Nat) (G : Nat -> Nat -> UInt8) : Rpu w ao 0 D S nu n T U G := ⟨fun h => absurd h (by omega), fun j h => absurd h (by omega)⟩
def Rpx (w : World) (ao : Option Addr) (E : Int) (N : Nat) (Lc os : Nat -> Nat) (nu : Int) (n : Nat) (G : Nat -> Nat -> UInt8) : Prop := ∃ T U, Rpu w ao (lenE E (Cod.cnt Lc N)) (fun j => ((Cod.sel Lc N j : Nat) : Int)) (fun j => ((os (Cod.sel Lc N j) : Nat) : Int)) nu n T U (fun j => G (Cod.sel Lc N j))
theorem Rpx.below {w w' : World} {ao : Option Addr} {E : Int} {N : Nat} {Lc os : Nat -> Nat} {nu : Int} {n : Nat} {G : Nat -> Nat -> UInt8} (h : Rpx w ao E N Lc os nu n G) (hb : Below w.heap.size w w') : Rpx w' ao E N Lc os nu n G := by
 obtain ⟨T, U, h1⟩ := h
 exact ⟨T, U, h1.below hb⟩
theorem rpx_of {B : Nat} {w : World} {ao : Option Addr} {cap N : Nat} {E : Int} {Lc os : Nat -> Nat} {nu : Int} {n : Nat} {T : Nat -> Option Addr} {U : Nat -> Nat} {G : Nat -> Nat -> UInt8} (h : E = 0 -> PL B w ao (Cod.cnt Lc N) cap N Lc os nu n T U G) : Rpx w ao E N Lc os nu n G := by
 by_cases e : E = 0
 ·have := pl_rpu (h e)
  refine ⟨fun j => T (Cod.sel Lc N j), fun j => U (Cod.sel Lc N j), ?_⟩
  unfold lenE
  rw [if_pos e]
  exact this
 ·refine ⟨T, U, ?_⟩
  unfold lenE
  rw [if_neg e]
  exact rpu_none _ _ _ _ _ _ _ _ _
theorem same_puts (w : World) (ao bo : Option Addr) (ca cb : Nat) (E : Int) (N : Nat) (Lc os : Nat -> Nat) (nu : Int) (n : Nat) (G : Nat -> Nat -> UInt8) (ha : Rpx w ao E N Lc os nu n G) (hb : Rpx w bo E N Lc os nu n G) (hm : lenE E (Cod.cnt Lc N) <= 1000) :
  Calls Tryz.prog 26 #[.slice ao (lenE E (Cod.cnt Lc N)) ca, .slice bo (lenE E (Cod.cnt Lc N)) cb] w fun e w' => e = .returned (.bool true) /\ Below w.heap.size w w' := by
 obtain ⟨T, U, h1⟩ := ha
 obtain ⟨T', U', h2⟩ := hb
 exact SamePuts_any w ao bo _ ca cb _ _ nu n T T' U U' _ h1 h2 hm
theorem spp_of {B : Nat} {w1 w : World} {ao : Option Addr} {cap N : Nat} {E : Int} {Lc os : Nat -> Nat} {nu : Int} {n : Nat} {T : Nat -> Option Addr} {U : Nat -> Nat} {G : Nat -> Nat -> UInt8} (h : E = 0 -> PLf B w1 ao (Cod.cnt Lc N) cap N Lc os nu n T U G) (hb : Below w1.heap.size w1 w) : ∃ A U, 0 < lenE E (Cod.cnt Lc N) -> ∃ g, ao = some ⟨g, 0, none⟩ /\ Spp B w1.heap.size 0 (lenE E (Cod.cnt Lc N)) n w w g cap A U := by
 refine ⟨fun j => T (Cod.sel Lc N j), fun j => U (Cod.sel Lc N j), fun hp => ?_⟩
 obtain ⟨e, e2⟩ := lenE_pos hp
 rw [e2] at hp ⊢
 have h0 := h e
 rcases h0.out.2 with ⟨_, h1⟩ | ⟨g, cap', cur, h1, _⟩
 ·omega
 ·cases h1
  exact ⟨g, rfl, spp_0 h0 hb⟩
theorem PL.stay' {B : Nat} {w w' : World} {ao : Option Addr} {m cap N : Nat} {Lc os : Nat -> Nat} {nu : Int} {n : Nat} {T : Nat -> Option Addr} {U : Nat -> Nat} {G : Nat -> Nat -> UInt8} (h : PL B w ao m cap N Lc os nu n T U G) (M : Nat) (hM : (∀ a, ao = some a -> a.block < M) /\ ∀ i, i < N -> Lc i ≠ 0 -> ∀ a, T i = some a -> a.block < M) (hb : ∀ g, B <= g -> g < M -> w'.heap[g]? = w.heap[g]?) : PL B w' ao m cap N Lc os nu n T U G :=
 ⟨owns_blocks h.out fun a ha => hb _ (owns_at h.out ha).1 (hM.1 a ha), fun i hi hn => owns_blocks (h.row i hi hn) fun a ha => hb _ (owns_at (h.row i hi hn) ha).1 (hM.2 i hi hn a ha)⟩
theorem spoil_any' (w : World) (B T m n cap : Nat) (ao : Option Addr) (A : Nat -> Option Addr) (U : Nat -> Nat) (h : 0 < m -> ∃ g, ao = some ⟨g, 0, none⟩ /\ Spp B T 0 m n w w g cap A U) (hm : m <= 1000) (hn : m = 0 \/ n <= 100000) (hB : B <= w.heap.size) :
  Calls Tryz.prog 27 #[.slice ao m cap] w fun e w' => e = .returned (.tuple #[]) /\ Only (fun b => B <= b /\ b < T) w w' := by
 rcases hn with rfl | hn
 ·exact spoil_any w B T 0 0 cap ao A U (fun h => absurd h (by omega)) hm (by omega) hB
 ·exact spoil_any w B T m n cap ao A U h hm hn hB
theorem sw_law {k r c q : Int} {N W : Nat} {x : Int} (h : Par k r c q N W x) (w : World) (ro : Option Addr) (rn rc : Nat) (A : Nat -> Option Addr) (L C : Nat -> Nat) (F : Nat -> Nat -> UInt8) (hr : Rw w ro rn A L C F) (hn : rn * 48 <= 140737488351232) (nu : Int) (kd : UInt8) (ke ver : Int) (dob : Option Addr) (dn dc : Nat) (DD : Nat -> UInt8) (hD : Bec w dob dn dc DD) :
  Calls Tryz.prog 4 #[.agg #[.int .i64 k, .int .i64 r, .int .i64 c, .int .i64 q], .slice ro rn rc, .int .i64 nu, .int .u8 ((kd.toNat : Nat) : Int), .int .i64 ke, .int .i64 ver, .slice dob dn dc] w fun e w' => e = .returned (.bool true) /\ Below w.heap.size w w' := by
 obtain ⟨w0, hw0⟩ : ∃ w0, w0 = w.alloc (.cells #[.int .i64 k, .int .i64 r, .int .i64 c, .int .i64 q] 23) := ⟨_, rfl⟩
 have b0 : Below w.heap.size w w0 := by rw [hw0]; exact bal _ _
 obtain ⟨E, hE⟩ : ∃ E, erD (erW (erK x N c rn L kd ver) q nu ke) dn W = E := ⟨_, rfl⟩
 obtain ⟨G, hG⟩ : ∃ G, erV2 (erW (erK x N c rn L kd ver) q nu ke) (erL k.toNat (zv N c L F kd ver) N) = G := ⟨_, rfl⟩
 obtain ⟨fl, hfl⟩ : ∃ y : Nat -> Nat, y = fun _ => c.toNat := ⟨_, rfl⟩
 obtain ⟨fm, hfm⟩ : ∃ y, y = mis (zv N c L F kd ver) c.toNat := ⟨_, rfl⟩
 obtain ⟨os, hos⟩ : ∃ y, y = osl N c L F kd ke := ⟨_, rfl⟩
 obtain ⟨zz, hzz⟩ : ∃ y, y = sz N c := ⟨_, rfl⟩
 obtain ⟨ef, hef⟩ : ∃ y : Nat -> Nat -> UInt8, y = fun i => enc (slC kd N (fun _ => ver) c.toNat (dH k.toNat c.toNat DD i) i) := ⟨_, rfl⟩
 obtain ⟨em, hem⟩ : ∃ y : Nat -> Nat -> UInt8, y = fun i => enc (slC kd N (tS (yy N c L F) kd ver (2 * N)).V c.toNat (cH k.toNat (zv N c L F kd ver) N i) i) := ⟨_, rfl⟩
 obtain ⟨fn, hfn⟩ : ∃ y, y = lenE E (Cod.cnt fl N) := ⟨_, rfl⟩
 obtain ⟨mn, hmn⟩ : ∃ y, y = lenE G (Cod.cnt fm N) := ⟨_, rfl⟩
 have hle := h.le
 have HFN : Hid (fn = lenE E (Cod.cnt fl N) /\ fn <= 16) := ⟨hfn, by
  rw [hfn]; unfold lenE
  have := Cod.cnt_le fl N
  split <;> omega⟩
 have HMN : Hid (mn = lenE G (Cod.cnt fm N) /\ mn <= 16) := ⟨hmn, by
  rw [hmn]; unfold lenE
  have := Cod.cnt_le fm N
  split <;> omega⟩
 have HCF : Hid (E = 0 -> Cod.cnt fl N = N) := fun e => by
  have hx : x = 0 := by
   rw [e] at hE
   unfold erD at hE
   by_cases g : erW (erK x N c rn L kd ver) q nu ke = 0
   ·exact (erR_zero (erK_zero (erW_z2 g).1).1).1
   ·rw [if_neg g] at hE; exact absurd hE g
  have hc := h.cell hx
  exact Cod.cnt_full fun i _ => by rw [hfl]; show c.toNat ≠ 0; omega
 have HZN : Hid (zz <= 1000 \/ (fn = 0 /\ mn = 0)) := by
  by_cases hx : x = 0
  ·left
   have hc := h.cell hx
   rw [hzz]; unfold sz; omega
  ·right
   have hk : erK x N c rn L kd ver ≠ 0 := fun g => hx (erR_zero (erK_zero g).1).1
   have hw : erW (erK x N c rn L kd ver) q nu ke ≠ 0 := fun g => hk (erW_z2 g).1
   have he : E ≠ 0 := by rw [<- hE]; unfold erD; rw [if_neg hw]; exact hw
   have hg : G ≠ 0 := by rw [<- hG]; unfold erV2; rw [if_neg hw]; exact hw
   rw [hfn, hmn]; unfold lenE; rw [if_neg he, if_neg hg]; exact ⟨rfl, rfl⟩
 have K22 : Hid (∀ v ao cap A2 C2 bo bc, Rw v ao rn A2 L C2 F -> Bec v bo dn bc DD -> Calls Tryz.prog 22 #[.agg #[.int .i64 k, .int .i64 r, .int .i64 c, .int .i64 q], .slice ao rn cap, .int .i64 nu, .int .u8 ((kd.toNat : Nat) : Int), .int .i64 ke, .int .i64 ver, .slice bo dn bc] v fun e w' => ∃ a b T U, e = .returned (.tuple #[.slice a fn b, .int .i64 E]) /\ (E = 0 -> PLf v.heap.size w' a (Cod.cnt fl N) b N fl os nu zz T U ef) /\ Below v.heap.size v w') := fun v ao cap A2 C2 bo bc hv hb => by
  have hx := Fullf_any h v ao rn cap A2 L C2 F hv nu kd ke ver bo dn bc DD hb E hE
  rw [<- hfl, <- hos, <- hzz, <- hef] at hx
  refine hx.mono ?_
  rintro e w' ⟨a, b, T, U, rfl, hp, hbe⟩
  refine ⟨a, b, T, U, ?_, fun g => ?_, hbe⟩
  ·by_cases g : E = 0
   ·rw [hfn, HCF.out g]
   ·rw [hfn]; unfold lenE; rw [if_neg g, if_neg g]
  ·have := hp g
   rw [HCF.out g]; exact this
 have K23 : Hid (∀ v ao cap A2 C2 bo bc, Rw v ao rn A2 L C2 F -> Bec v bo dn bc DD -> Calls Tryz.prog 23 #[.agg #[.int .i64 k, .int .i64 r, .int .i64 c, .int .i64 q], .slice ao rn cap, .int .i64 nu, .int .u8 ((kd.toNat : Nat) : Int), .int .i64 ke, .int .i64 ver, .slice bo dn bc] v fun e w' => ∃ a b T U, e = .returned (.tuple #[.slice a fn b, .int .i64 E]) /\ (E = 0 -> PL v.heap.size w' a (Cod.cnt fl N) b N fl os nu zz T U ef) /\ Below v.heap.size v w') := fun v ao cap A2 C2 bo bc hv hb => by
  have hx := RFull_any h v ao rn cap A2 L C2 F hv nu kd ke ver bo dn bc DD hb E hE
  rw [<- hfl, <- hos, <- hzz, <- hef] at hx
  refine hx.mono ?_
  rintro e w' ⟨a, b, T, U, rfl, hp, hbe⟩
  refine ⟨a, b, T, U, ?_, fun g => ?_, hbe⟩
  ·by_cases g : E = 0
   ·rw [hfn, HCF.out g]
   ·rw [hfn]; unfold lenE; rw [if_neg g, if_neg g]
  ·have := hp g
   rw [HCF.out g]; exact this
 have K24 : Hid (∀ v ao cap A2 C2, Rw v ao rn A2 L C2 F -> Calls Tryz.prog 24 #[.agg #[.int .i64 k, .int .i64 r, .int .i64 c, .int .i64 q], .slice ao rn cap, .int .i64 nu, .int .u8 ((kd.toNat : Nat) : Int), .int .i64 ke, .int .i64 ver] v fun e w' => ∃ a b T U, e = .returned (.tuple #[.slice a mn b, .int .i64 G]) /\ (G = 0 -> PLf v.heap.size w' a (Cod.cnt fm N) b N fm os nu zz T U em) /\ Below v.heap.size v w') := fun v ao cap A2 C2 hv => by rw [hmn, hfm, hos, hzz, hem]; exact Mendf_any h v ao rn cap A2 L C2 F hv nu kd ke ver G hG
 have K25 : Hid (∀ v ao cap A2 C2, Rw v ao rn A2 L C2 F -> Calls Tryz.prog 25 #[.agg #[.int .i64 k, .int .i64 r, .int .i64 c, .int .i64 q], .slice ao rn cap, .int .i64 nu, .int .u8 ((kd.toNat : Nat) : Int), .int .i64 ke, .int .i64 ver] v fun e w' => ∃ a b T U, e = .returned (.tuple #[.slice a mn b, .int .i64 G]) /\ (G = 0 -> PL v.heap.size w' a (Cod.cnt fm N) b N fm os nu zz T U em) /\ Below v.heap.size v w') := fun v ao cap A2 C2 hv => by rw [hmn, hfm, hos, hzz, hem]; exact RMend_any h v ao rn cap A2 L C2 F hv nu kd ke ver G hG
 have HR : Hid (Rw w ro rn A L C F) := hr
 have HN : Hid (rn * 48 <= 140737488351232) := hn
 have HDD : Hid (Bec w dob dn dc DD) := hD
 have L0 : Hid (∀ v, Below w0.heap.size w0 v -> At w v w.heap.size #[.int .i64 k, .int .i64 r, .int .i64 c, .int .i64 q] 23) := fun v hv => (at_made (Below.refl _ _) hw0).below hv
 have B0 : Hid (Below w.heap.size w w0) := b0
 clear hr hn hD b0 hE hG hfl hfm hos hzz hef hem hfn hmn hle HCF h
 go_enter Tryz.func4, Tryz.ntmps4
 go_wp2_with fail
 rw [<- hw0]
 clear hw0
 refine (awake_any _).mono ?_
 rintro e wa ⟨rfl, ha⟩
 have SA : Hid (Below w0.heap.size w0 wa) := ha
 clear ha
 have HRA := HR.out.below (bth B0.out SA.out)
 go_wp2_with fail
 refine (Twin_any wa ro rn rc A L C F HRA HN.out).mono ?_
 rintro e wt ⟨ao, cap, A', C', rfl, htw⟩
 have ST : Hid (Below wa.heap.size wa wt) := htw.bel
 have HRT0 : Hid (Rw wt ao rn A' L C' F) := htw.rw
 have HRO0 : Hid (Rw wt ro rn A L C F) := HRA.below ST.out
 have HDT : Hid (Bec wt dob dn dc DD) := HDD.out.below (bth (bth B0.out SA.out) ST.out)
 clear htw HRA
 have v1 : (convert 36 9 (.slice dob dn dc)).run Tryz.prog wt = .ok (.string (sOf (lsF dn DD))) wt := conv_any HDT.out
 obtain ⟨wb, bc, hrun, hbc, hlb, _⟩ := conv_newz wt dn DD
 have SB : Hid (Below wt.heap.size wt wb) := hlb
 have HDB : Hid (Bec wb (some ⟨wt.heap.size, 0, none⟩) dn bc DD) := hbc
 obtain ⟨gd, hgd⟩ : ∃ gd, gd = wt.heap.size := ⟨_, rfl⟩
 rw [<- hgd] at hrun HDB
 clear hbc hlb hgd
 have HRT : Hid (∀ v, Below wb.heap.size wb v -> Rw v ao rn A' L C' F) := fun v hv => (HRT0.out.below SB.out).below hv
 have HRO : Hid (∀ v, Below wb.heap.size wb v -> Rw v ro rn A L C F) := fun v hv => (HRO0.out.below SB.out).below hv
 have HDN : Hid (∀ v, Below wb.heap.size wb v -> Bec v (some ⟨gd, 0, none⟩) dn bc DD) := fun v hv => HDB.out.below hv
 have HDO : Hid (∀ v, Below wb.heap.size wb v -> Bec v dob dn dc DD) := fun v hv => (HDT.out.below SB.out).below hv
 have LP : Hid (∀ v, Below wb.heap.size wb v -> At w v w.heap.size #[.int .i64 k, .int .i64 r, .int .i64 c, .int .i64 q] 23) := fun v hv => L0.out v (bth (bth (bth SA.out ST.out) SB.out) hv)
 clear HRT0 HRO0 HDT HDB
 have pq := LP.out wb (Below.refl _ _)
 have s0 := pq.cell (i := 0) rfl
 have s1 := pq.cell (i := 1) rfl
 have s2 := pq.cell (i := 2) rfl
 have s3 := pq.cell (i := 3) rfl
 clear pq
 go_wp2_with fail
 clear v1 hrun
 refine (K22.out wb _ _ _ _ _ _ (HRT.out wb (Below.refl _ _)) (HDN.out wb (Below.refl _ _))).mono ?_
 rintro e w1 ⟨a1, k1, T1, U1, rfl, hz, hb⟩
 have HZ1 : Hid (E = 0 -> PLf wb.heap.size w1 a1 (Cod.cnt fl N) k1 N fl os nu zz T1 U1 ef) := hz
 have S1 : Hid (Below wb.heap.size wb w1) := hb
 clear hz hb s0 s1 s2 s3
 have pq := LP.out w1 S1.out
 have s0 := pq.cell (i := 0) rfl
 have s1 := pq.cell (i := 1) rfl
 have s2 := pq.cell (i := 2) rfl
 have s3 := pq.cell (i := 3) rfl
 clear pq
 go_wp2_with fail
 refine (K23.out w1 _ _ _ _ _ _ (HRO.out w1 S1.out) (HDO.out w1 S1.out)).mono ?_
 rintro e w2 ⟨a2, k2, T2, U2, rfl, hz, hb⟩
 have HZ2 : Hid (E = 0 -> PL w1.heap.size w2 a2 (Cod.cnt fl N) k2 N fl os nu zz T2 U2 ef) := hz
 have S2 : Hid (Below w1.heap.size w1 w2) := hb
 clear hz hb s0 s1 s2 s3
 have pq := LP.out w2 (bth S1.out S2.out)
 have s0 := pq.cell (i := 0) rfl
 have s1 := pq.cell (i := 1) rfl
 have s2 := pq.cell (i := 2) rfl
 have s3 := pq.cell (i := 3) rfl
 clear pq
 go_wp2_with fail
 refine (K24.out w2 _ _ _ _ (HRT.out w2 (bth S1.out S2.out))).mono ?_
 rintro e w3 ⟨a3, k3, T3, U3, rfl, hz, hb⟩
 have HZ3 : Hid (G = 0 -> PLf w2.heap.size w3 a3 (Cod.cnt fm N) k3 N fm os nu zz T3 U3 em) := hz
 have S3 : Hid (Below w2.heap.size w2 w3) := hb
 clear hz hb s0 s1 s2 s3
 have pq := LP.out w3 (bth (bth S1.out S2.out) S3.out)
 have s0 := pq.cell (i := 0) rfl
 have s1 := pq.cell (i := 1) rfl
 have s2 := pq.cell (i := 2) rfl
 have s3 := pq.cell (i := 3) rfl
 clear pq
 go_wp2_with fail
 refine (K25.out w3 _ _ _ _ (HRO.out w3 (bth (bth S1.out S2.out) S3.out))).mono ?_
 rintro e w4 ⟨a4, k4, T4, U4, rfl, hz, hb⟩
 have HZ4 : Hid (G = 0 -> PL w3.heap.size w4 a4 (Cod.cnt fm N) k4 N fm os nu zz T4 U4 em) := hz
 have S4 : Hid (Below w3.heap.size w3 w4) := hb
 clear hz hb s0 s1 s2 s3
 have HI := same_puts w4 a1 a2 k1 k2 E N fl os nu zz ef ((rpx_of fun g => (HZ1.out g).pl).below (bth (bth S2.out S3.out) S4.out)) ((rpx_of HZ2.out).below (bth S3.out S4.out)) (by rw [<- HFN.out.1]; have := HFN.out.2; omega)
 rw [<- HFN.out.1] at HI
 go_wp2_with fail
 refine HI.mono ?_
 rintro e w5 ⟨rfl, hb⟩
 have S5 : Hid (Below w4.heap.size w4 w5) := hb
 clear hb HI
 have HI := same_puts w5 a3 a4 k3 k4 G N fm os nu zz em ((rpx_of fun g => (HZ3.out g).pl).below (bth S4.out S5.out)) ((rpx_of HZ4.out).below S5.out) (by rw [<- HMN.out.1]; have := HMN.out.2; omega)
 rw [<- HMN.out.1] at HI
 go_wp2_with fail
 refine HI.mono ?_
 rintro e w6 ⟨rfl, hb⟩
 have S6 : Hid (Below w5.heap.size w5 w6) := hb
 clear hb HI
 have HSZ : Hid (wb.heap.size <= w1.heap.size /\ w1.heap.size <= w2.heap.size /\ w2.heap.size <= w3.heap.size /\ w3.heap.size <= w6.heap.size) := ⟨S1.out.size, S2.out.size, S3.out.size, ((bth (bth S4.out S5.out) S6.out) : Below w3.heap.size w3 w6).size⟩
 have HB6 : Hid (Below wb.heap.size wb w6) := (bth (bth (bth (bth (bth S1.out S2.out) S3.out) S4.out) S5.out) S6.out)
 have HZ2' : Hid (E = 0 -> PL w1.heap.size w6 a2 (Cod.cnt fl N) k2 N fl os nu zz T2 U2 ef) := fun g => (HZ2.out g).below (bth (bth (bth S3.out S4.out) S5.out) S6.out)
 have H2B : Hid (E = 0 -> (∀ a, a2 = some a -> a.block < w2.heap.size) /\ ∀ i, i < N -> fl i ≠ 0 -> ∀ a, T2 i = some a -> a.block < w2.heap.size) := fun g => ⟨fun a ha => (owns_at (HZ2.out g).out ha).2.1, fun i hi hn a ha => (owns_at ((HZ2.out g).row i hi hn) ha).2.1⟩
 obtain ⟨X1, Y1, hsp1⟩ := spp_of HZ1.out (bth (bth (bth (bth S2.out S3.out) S4.out) S5.out) S6.out)
 rw [<- HFN.out.1] at hsp1
 have HSP1 : Hid (0 < fn -> ∃ g, a1 = some ⟨g, 0, none⟩ /\ Spp wb.heap.size w1.heap.size 0 fn zz w6 w6 g k1 X1 Y1) := hsp1
 have HSP3 : Hid (∀ u, Only (fun b => wb.heap.size <= b /\ b < w1.heap.size) w6 u -> ∃ X Y, 0 < mn -> ∃ g, a3 = some ⟨g, 0, none⟩ /\ Spp w2.heap.size w3.heap.size 0 mn zz u u g k3 X Y) := fun u hu => by
  have h6 : G = 0 -> PLf w2.heap.size w6 a3 (Cod.cnt fm N) k3 N fm os nu zz T3 U3 em := fun g => (HZ3.out g).below (bth (bth S4.out S5.out) S6.out)
  have hs := HSZ.out
  have hu2 : G = 0 -> PLf w2.heap.size u a3 (Cod.cnt fm N) k3 N fm os nu zz T3 U3 em := fun g => ⟨owns_blocks (h6 g).out fun a ha => by obtain ⟨h1, h2, _⟩ := owns_at (h6 g).out ha; exact hu.block _ h2 (by omega), fun i hi hn => ((h6 g).row i hi hn).stay fun b h1 h2 => hu.block b h2 (by omega), (h6 g).far⟩
  rw [HMN.out.1]
  refine ⟨fun j => T3 (Cod.sel fm N j), fun j => U3 (Cod.sel fm N j), fun hp => ?_⟩
  obtain ⟨e, e2⟩ := lenE_pos hp
  rw [e2] at hp ⊢
  have h0 := hu2 e
  have h3 := HZ3.out e
  rcases h3.out.2 with ⟨_, h1⟩ | ⟨g, cap', cur, h1, _⟩
  ·omega
  ·cases h1
   have q := spp_0 h3 (Below.refl _ _)
   refine ⟨g, rfl, ⟨⟨_, h0.out, fun j _ hj => (ptl_full fm os nu zz T3 U3 N j hj).2.2.2⟩, fun j h1 hj => ⟨⟨_, h0.row _ ((Cod.sel_is fm N).lt j hj) ((Cod.sel_is fm N).there j hj)⟩, (q.cel j h1 hj).2⟩, q.far, Only.refl _ _, q.gT⟩⟩
 clear hsp1 HZ1 HZ2 HZ3 HZ4 K23 K24 K25 S1 S2 S3 S4 S5 S6
 have hzl : fn = 0 \/ zz <= 100000 := by rcases HZN.out with a | a; exact .inr (by omega); exact .inl a.1
 have hzm : mn = 0 \/ zz <= 100000 := by rcases HZN.out with a | a; exact .inr (by omega); exact .inl a.2
 have HS1 := spoil_any' w6 wb.heap.size w1.heap.size fn zz k1 a1 X1 Y1 HSP1.out (by have := HFN.out.2; omega) hzl (by have := HSZ.out; have := HB6.out.size; omega)
 clear hzl
 go_wp2_with fail
 refine HS1.mono ?_
 clear HS1
 rintro e w7 ⟨rfl, ho7⟩
 have HO7 : Hid (Only (fun b => wb.heap.size <= b /\ b < w1.heap.size) w6 w7) := ho7
 obtain ⟨X3, Y3, hsp3⟩ := HSP3.out w7 ho7
 have HS3 := spoil_any' w7 w2.heap.size w3.heap.size mn zz k3 a3 X3 Y3 hsp3 (by have := HMN.out.2; omega) hzm (by have := HSZ.out; have := ho7.size; omega)
 clear hzm hsp3 ho7
 go_wp2_with fail
 refine HS3.mono ?_
 clear HS3
 rintro e w8 ⟨rfl, ho8⟩
 have HO8 : Hid (Only (fun b => w2.heap.size <= b /\ b < w3.heap.size) w7 w8) := ho8
 clear ho8
 have HB8 : Hid (Below wb.heap.size wb w8) := by
  have h2 := HSZ.out
  exact (HB6.out.trans (HO7.out.below (fun b hb => hb.1) HB6.out.size)).trans (HO8.out.below (fun b hb => by omega) (by have := HO7.out.size; have := HB6.out.size; omega))
 have HZ28 : Hid (E = 0 -> PL w1.heap.size w8 a2 (Cod.cnt fl N) k2 N fl os nu zz T2 U2 ef) := fun g => by
  have h2 := HSZ.out
  have h3 := HO7.out.size
  exact ((HZ2'.out g).stay' w2.heap.size (H2B.out g) fun b h4 h5 => HO7.out.block b (by omega) (by omega)).stay' w2.heap.size (H2B.out g) fun b h4 h5 => HO8.out.block b (by omega) (by omega)

 have pq := LP.out w8 HB8.out
 have s0 := pq.cell (i := 0) rfl
 have s1 := pq.cell (i := 1) rfl
 have s2 := pq.cell (i := 2) rfl
 have s3 := pq.cell (i := 3) rfl
 clear pq
 go_wp2_with fail
 refine (K22.out w8 _ _ _ _ _ _ (HRT.out w8 HB8.out) (HDN.out w8 HB8.out)).mono ?_
 rintro e w9 ⟨a9, k9, T9, U9, rfl, hz, hb⟩
 have HZ9 : Hid (E = 0 -> PLf w8.heap.size w9 a9 (Cod.cnt fl N) k9 N fl os nu zz T9 U9 ef) := hz
 have S9 : Hid (Below w8.heap.size w8 w9) := hb
 clear hz hb s0 s1 s2 s3
 have HB9 : Hid (Below wb.heap.size wb w9) := bth HB8.out S9.out
 have HSR := SameRow_any w9 ao ro rn cap rc A' A L C' C F F (HRT.out _ HB9.out) (HRO.out _ HB9.out) (by have := HN.out; omega) (fun _ _ _ _ => rfl)
 go_wp2_with fail
 refine HSR.mono ?_
 rintro e we ⟨rfl, hb⟩
 have SE : Hid (Below w9.heap.size w9 we) := hb
 clear hb HSR
 have v1 : (convert 36 9 (.slice (some ⟨gd, 0, none⟩) dn bc)).run Tryz.prog we = .ok (.string (sOf (lsF dn DD))) we := conv_any (HDN.out _ (bth HB9.out SE.out))
 have v2 : (convert 36 9 (.slice dob dn dc)).run Tryz.prog we = .ok (.string (sOf (lsF dn DD))) we := conv_any (HDO.out _ (bth HB9.out SE.out))
 have e1 := str_eqw (lsF dn DD)
 have HI := same_puts we a9 a2 k9 k2 E N fl os nu zz ef ((rpx_of fun g => (HZ9.out g).pl).below SE.out) ((rpx_of HZ28.out).below (bth S9.out SE.out)) (by rw [<- HFN.out.1]; have := HFN.out.2; omega)
 rw [<- HFN.out.1] at HI
 go_wp2_with fail
 refine HI.mono ?_
 rintro e wf ⟨rfl, hb⟩
 have SF : Hid (Below we.heap.size we wf) := hb
 clear hb HI
 go_wp2_with fail
 go_ret
 exact ⟨rfl, bth (bth (bth (bth (bth (bth B0.out SA.out) ST.out) SB.out) HB9.out) SE.out) SF.out⟩
end Go.Proofs.YtemlojjkokooeaaGreat
