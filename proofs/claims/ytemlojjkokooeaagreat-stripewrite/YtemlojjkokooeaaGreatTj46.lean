import Derived.Test.YtemlojjkokooeaaGreatTj43
set_option maxHeartbeats 8000000
set_option maxRecDepth 100000
namespace Go.Proofs.YtemlojjkokooeaaGreat
open Go.RowKit
def Far (d : Nat) (Lc : Nat -> Nat) (T : Nat -> Option Addr) : Prop := ∀ i j a b, i < d -> j < d -> i ≠ j -> Lc i ≠ 0 -> Lc j ≠ 0 -> T i = some a -> T j = some b -> a.block ≠ b.block
structure PLf (B : Nat) (w : World) (ao : Option Addr) (m cap N : Nat) (Lc os : Nat -> Nat) (nu : Int) (n : Nat) (T : Nat -> Option Addr) (U : Nat -> Nat) (G : Nat -> Nat -> UInt8) : Prop where
  out : w.ownsRow B 56 4 (.slice ao m cap) m (ptl Lc os nu n T U N)
  row : ∀ i, i < N -> Lc i ≠ 0 -> OwU B w (T i) n (U i) (G i)
  far : Far N Lc T
theorem PLf.below {B : Nat} {w w' : World} {ao : Option Addr} {m cap N : Nat} {Lc os : Nat -> Nat} {nu : Int} {n : Nat} {T : Nat -> Option Addr} {U : Nat -> Nat} {G : Nat -> Nat -> UInt8} (h : PLf B w ao m cap N Lc os nu n T U G) (hb : Below w.heap.size w w') : PLf B w' ao m cap N Lc os nu n T U G :=
 ⟨owns_below h.out hb, fun i hi hn => (h.row i hi hn).below hb, h.far⟩
theorem PLf.mono {B B' : Nat} {w : World} {ao : Option Addr} {m cap N : Nat} {Lc os : Nat -> Nat} {nu : Int} {n : Nat} {T : Nat -> Option Addr} {U : Nat -> Nat} {G : Nat -> Nat -> UInt8} (h : PLf B w ao m cap N Lc os nu n T U G) (hb : B' <= B) : PLf B' w ao m cap N Lc os nu n T U G :=
 ⟨owns_mono h.out hb, fun i hi hn => (h.row i hi hn).mono hb, h.far⟩
theorem PLf.pl {B : Nat} {w : World} {ao : Option Addr} {m cap N : Nat} {Lc os : Nat -> Nat} {nu : Int} {n : Nat} {T : Nat -> Option Addr} {U : Nat -> Nat} {G : Nat -> Nat -> UInt8} (h : PLf B w ao m cap N Lc os nu n T U G) : PL B w ao m cap N Lc os nu n T U G := ⟨h.out, h.row⟩
def AnsLf (w : World) (E : Int) (m N : Nat) (Lc os : Nat -> Nat) (nu : Int) (n : Nat) (G : Nat -> Nat -> UInt8) (e : Ending) (w' : World) : Prop :=
  ∃ ao cap T U, e = .returned (.tuple #[.slice ao (lenE E m) cap, .int .i64 E]) /\ (E = 0 -> PLf w.heap.size w' ao m cap N Lc os nu n T U G) /\ Below w.heap.size w w'
def Ptf (wz : World) (gp : Nat) (bx : World -> Prop) (Lc os : Nat -> Nat) (nu : Int) (n : Nat) (G : Nat -> Nat -> UInt8) (d : Nat) (v : World) (Y : Nat -> Prop) : Prop :=
  ∃ T U, Cap wz v gp 43 56 4 (Cod.cnt Lc d) (ptl Lc os nu n T U d) Y /\ (∀ i, i < d -> Lc i ≠ 0 -> OwU wz.heap.size v (T i) n (U i) (G i)) /\ bx v /\ Far d Lc T
theorem putf1_any {k r c q : Int} {N W : Nat} (h : Par k r c q N W 0) (wz v : World) (hbz : Below wz.heap.size wz v) (ro : Option Addr) (rc : Nat) (A : Nat -> Option Addr) (L C : Nat -> Nat) (F : Nat -> Nat -> UInt8) (hr : Rw wz ro N A L C F) (hL : ∀ j, j < 2 * N -> L j = 0 \/ L j = sz N c) (kd : UInt8) (hk : kd = 1 \/ kd = 2)
  (gc gi gp gn gv d : Nat) (hd : d < N) (nu : Int) (vo : Option Addr) (vc : Nat) (X : Nat -> Int) (hv : Vec wz vo N vc X) (hX : ∀ j, j < N -> 1 <= X j /\ X j <= 1073741824) (lo : Option Addr) (cc : Nat) (Tc : Nat -> Option Addr) (Lc Uc : Nat -> Nat) (Dc : Nat -> Nat -> UInt8) (hl : RdC wz lo N Tc Lc Uc) (hbc : ∀ i, i < N -> Bec wz (Tc i) (Lc i) (Uc i) (Dc i)) (hLc : Lc d = 0 \/ Lc d = c.toNat)
  (z : Sl) (hz : 0 <= z.ce /\ z.ce <= 1073741824) (os : Nat -> Nat) (hos : os d = oN (yy N c L F (2 * d)) (yy N c L F (2 * d + 1)) kd z.ce) (Y : Nat -> Prop) (ao : Option Addr) (ca : Nat) (bo : Option Addr) (cb : Nat)
  (hI : Ptf wz gp (fun v => Box wz v gc gi gn gv k r c q ro N rc kd nu vo vc lo cc) Lc os nu (sz N c) (fun i => enc (slC kd N X c.toNat (Dc i) i)) d v Y) :
  Calls Tryz.prog 149 #[.int .i64 (d : Int), .agg #[.slice (A (2 * d)) (L (2 * d)) (C (2 * d)), .slice (A (2 * d + 1)) (L (2 * d + 1)) (C (2 * d + 1))], slv z ao ca bo cb, .pointer (some ⟨gc, 0, none⟩), .pointer (some ⟨gi, 0, none⟩), .pointer (some ⟨gp, 0, none⟩), .pointer (some ⟨gn, 0, none⟩), .pointer (some ⟨gv, 0, none⟩)] v fun e v' => e = .returned (.tuple #[]) /\ ∃ Y', Ptf wz gp (fun v => Box wz v gc gi gn gv k r c q ro N rc kd nu vo vc lo cc) Lc os nu (sz N c) (fun i => enc (slC kd N X c.toNat (Dc i) i)) (d + 1) v' Y' /\ Only Y v v' /\ ∀ g, Y' g -> Y g \/ v.heap.size <= g := by
 have hle := h.le
 obtain ⟨T, U, hcap, hT, hbx, hfar⟩ := hI
 have HFR : Hid (Far d Lc T) := hfar
 clear hfar
 obtain ⟨lb, lof, rfl, hlc⟩ := hl (by omega)
 have c0 := hlc d hd
 obtain ⟨v0, hv0⟩ : ∃ v0, v0 = v.alloc (.cells #[.slice (A (2 * d)) (L (2 * d)) (C (2 * d)), .slice (A (2 * d + 1)) (L (2 * d + 1)) (C (2 * d + 1))] 97) := ⟨_, rfl⟩
 obtain ⟨v1, hv1⟩ : ∃ v1, v1 = v0.alloc (.cells #[.int .u8 ((z.kd.toNat : Nat) : Int), .int .i64 z.ix, .int .i64 z.ce, .int .i64 z.st, .slice ao z.vn ca, .slice bo z.dn cb] 107) := ⟨_, rfl⟩
 have b0 : Below v.heap.size v v0 := by rw [hv0]; exact bal _ _
 have b1 : Below v.heap.size v v1 := by rw [hv1]; exact bth b0 (bal _ _)
 have HB1 : Hid (Below v.heap.size v v1) := b1
 have HBZ : Hid (Below wz.heap.size wz v1) := hbz.trans (b1.mono hbz.size)
 have g0 := fun o o' => ((hbx.cells.alloc o).alloc o').cell (i := 0) rfl
 have e0 : ∀ o o', ((v.alloc o).alloc o').cell? ⟨lb, lof + d, none⟩ = some (.slice (Tc d) (Lc d) (Uc d)) := fun o o' => held c0 (hbz.trans ((bth (bal v o) (bal _ o')).mono hbz.size))
 have i1 : (0 : Int) <= (d : Int) := by omega
 have i2 : (d : Int) < (N : Int) := by omega
 unfold slv
 by_cases hz0 : Lc d = 0
 ·have hzi : ((Lc d : Int) == 0) = true := by simp [hz0]
  have HI2 : Hid (Ptf wz gp (fun v => Box wz v gc gi gn gv k r c q ro N rc kd nu vo vc (some ⟨lb, lof, none⟩) cc) Lc os nu (sz N c) (fun i => enc (slC kd N X c.toNat (Dc i) i)) (d + 1) v1 Y) := by
   refine ⟨T, U, ?_, fun i hi hne => ?_, hbx.below b1, fun i j a b hi hj hij ni nj ea eb => HFR.out i j a b (by by_cases e : i = d; (subst e; exact absurd hz0 ni); omega) (by by_cases e : j = d; (subst e; exact absurd hz0 nj); omega) hij ni nj ea eb⟩
   ·rw [Cod.cnt_skip hz0, ptl, if_pos hz0]; exact hcap.below b1
   ·by_cases e : i = d
    ·rw [e] at hne; exact absurd hz0 hne
    ·exact (hT i (by omega) hne).below b1
  clear h hr hL hv hX hl hbc hT hcap hbx hlc c0 hos b0
  go_enter Tryz.func149, Tryz.ntmps149
  go_wp2_with fail
  rw [<- hv0, <- hv1]
  refine bodyPost_ret (results_none rfl _ _ _) rfl ?_
  exact ⟨rfl, Y, HI2.out, .of_below b1, fun g hg => .inl hg⟩
 ·have hzi : ((Lc d : Int) == 0) = false := by simp [hz0]
  have hLm : Lc d = c.toNat := hLc.resolve_left hz0
  have hO := fun u hu => Older_any h u _ _ _ _ _ _ _ _ ((hr.below hu).bec (2 * d) (by omega)) ((hr.below hu).bec (2 * d + 1) (by omega)) kd (d : Int) z.ce 0 (by unfold erO; rw [if_pos (he_err hk (hL _ (by omega)) (hL _ (by omega)) hd), if_pos hz]) (yy N c L F (2 * d)) (yy N c L F (2 * d + 1)) (by unfold yy; rw [show 2 * d / 2 = d by omega]) (by unfold yy; rw [show (2 * d + 1) / 2 = d by omega])
  rw [<- hos] at hO
  have HOL : Hid (∀ u, Below wz.heap.size wz u -> _) := fun u (hu : Below wz.heap.size wz u) => hO u hu
  have HBY : Hid (∀ u, Below wz.heap.size wz u -> Calls Tryz.prog 151 #[stv k r c q ro N rc kd, .int .i64 (d : Int), .slice vo N vc, .slice (Tc d) (Lc d) (Uc d)] u fun e w' => ∃ ao cap, e = .returned (.slice ao (sz N c) cap) /\ OwU u.heap.size w' ao (sz N c) cap (enc (slC kd N X c.toNat (Dc d) d)) /\ Below u.heap.size u w') := fun u hu => by
   have hb2 := (hbc d hd).below hu
   rw [hLm] at hb2 ⊢
   exact bytes_any h u ro N rc kd hk d hd vo vc X (hv.below hu) hX (Tc d) (Uc d) (Dc d) hb2
  have hcnt := Cod.cnt_le Lc d
  obtain ⟨m, hm⟩ : ∃ m, m = Cod.cnt Lc d := ⟨_, rfl⟩
  obtain ⟨xs, hxs⟩ : ∃ xs, xs = ptl Lc os nu (sz N c) T U d := ⟨_, rfl⟩
  rw [<- hm] at hcnt
  have HCP : Hid (Cap wz v1 gp 43 56 4 m xs Y) := by show Cap _ _ _ _ _ _ _ _ _; rw [hm, hxs]; exact hcap.below b1
  have HMX : Hid (m = Cod.cnt Lc d /\ xs = ptl Lc os nu (sz N c) T U d) := ⟨hm, hxs⟩
  have HT : Hid (∀ i, i < d -> Lc i ≠ 0 -> OwU wz.heap.size v1 (T i) (sz N c) (U i) (enc (slC kd N X c.toNat (Dc i) i))) := fun i hi hne => (hT i hi hne).below b1
  have HBX : Hid (Box wz v1 gc gi gn gv k r c q ro N rc kd nu vo vc (some ⟨lb, lof, none⟩) cc) := hbx.below b1
  have HC0 : Hid (∀ u, Below wz.heap.size wz u -> u.cell? ⟨lb, lof + d, none⟩ = some (.slice (Tc d) (Lc d) (Uc d))) := fun u hu => held c0 hu
  have HLB : Hid (lb < wz.heap.size) := World.block_lt_of_cell? wz _ c0
  have k0 := fun o o' => ((hbx.stand.alloc o).alloc o').cell (i := 0) rfl
  have k1 := fun o o' => ((hbx.stand.alloc o).alloc o').cell (i := 1) rfl
  have k2 := fun o o' => ((hbx.stand.alloc o).alloc o').cell (i := 2) rfl
  have k3 := fun o o' => ((hbx.stand.alloc o).alloc o').cell (i := 3) rfl
  have k5 := fun o o' => ((hbx.stand.alloc o).alloc o').cell (i := 5) rfl
  have HNZ : Hid (¬ Lc d = 0) := hz0
  clear h hr hL hv hX hl hbc hT hcap hbx hlc c0 b0 b1 hm hxs hO hLm hz0 hos
  unfold stv at HBY
  go_enter Tryz.func149, Tryz.ntmps149
  go_wp2_with fail
  rw [<- hv0, <- hv1]
  clear hv0 hv1
  refine (HOL.out _ HBZ.out).mono ?_
  rintro e wa ⟨rfl, ha⟩
  have HBA : Hid (Below v1.heap.size v1 wa) := ha
  have HZA : Hid (Below wz.heap.size wz wa) := HBZ.out.trans (ha.mono HBZ.out.size)
  have hcA := HCP.out.below ha
  have hcA2 := hcA
  obtain ⟨oo, oc, hAt, hown, hYY⟩ := hcA2
  have hbA := HBX.out.below ha
  clear ha g0 e0 k0 k1 k2 k3 k5
  go_wp2_with fail
  refine wp_region_noPanic (put_region wz wa k r c q ro N rc kd d (os d) gc gi gp gn gv lb lof N cc N vc (Lc d) (Uc d) (sz N c) m oc nu vo (Tc d) oo (enc (slC kd N X c.toNat (Dc d) d)) xs Y _ _ _ _ _ _ _ _ _ _ _ _ _ _ _ _ _ _ _ _ _ _ _ _ _ _ _ _ _ _ _ _ _ _ _ _ _ _ _ (fun u hu => ?_) hAt hown hYY (by omega) (Nat.le_trans hAt.1 (Nat.le_of_lt hAt.lt)) i1 i2 (fun u hu => HBY.out u (HZA.out.trans (hu.mono HZA.out.size))) _ (fun _ _ _ h => h) (fun v' Y' bo2 cb2 g2 g5 cap5 hC hOn hYn hown2 => NoPanic.normal ?_))
  ·have hb2 := hbA.only hcA hu
   refine ⟨hb2.stand.cell (i := 0) rfl, hb2.stand.cell (i := 1) rfl, hb2.stand.cell (i := 2) rfl, hb2.stand.cell (i := 3) rfl, hb2.stand.cell (i := 4) rfl, hb2.stand.cell (i := 5) rfl, hb2.num.cell (i := 0) rfl, hb2.vec.cell (i := 0) rfl, hb2.cells.cell (i := 0) rfl, ?_⟩
   refine hu.cell (HC0.out wa HZA.out) fun hy => ?_
   have := (hcA.at_ _ hy).1
   have := HLB.out
   simp only at *
   omega
  ·have hb3 := hbA.only hcA hOn
   go_wp2_with fail
   refine bodyPost_end (results_none rfl _ _ _) rfl ?_
   refine ⟨rfl, Y', ⟨Cod.put d bo2 T, Cod.put d cb2 U, ?_, fun i hi hne => ?_, hb3, fun i j a b hi hj hij ni nj ea eb => ?_⟩, (Only.of_below (bth HB1.out HBA.out)).trans hOn, fun g hg => ?_⟩
   ·rw [Cod.cnt_take HNZ.out, <- HMX.out.1, ptl, if_neg HNZ.out, Cod.put_at, Cod.put_at, ptl_congr (T' := T) (U' := U) (fun i hi => ⟨Cod.put_ne _ _ (by omega), Cod.put_ne _ _ (by omega)⟩), <- HMX.out.2]
    exact hC
   ·by_cases e : i = d
    ·subst e; rw [Cod.put_at, Cod.put_at]; exact hown2.mono (Nat.le_trans hAt.1 (Nat.le_of_lt hAt.lt))
    ·rw [Cod.put_ne _ _ e, Cod.put_ne _ _ e]
     exact owu_stay ((HT.out i (by omega) hne).below HBA.out) hcA (by decide) (by decide) hOn
   ·have hsA := HBA.out.size
    by_cases e : i = d
    ·subst e
     have e2 : j ≠ i := fun g => hij g.symm
     rw [Cod.put_at] at ea
     rw [Cod.put_ne _ _ e2] at eb
     have q1 := (owns_at hown2 ea).1
     have q2 := (owns_at (HT.out j (by omega) nj) eb).2.1
     omega
    ·rw [Cod.put_ne _ _ e] at ea
     by_cases e2 : j = d
     ·subst e2
      rw [Cod.put_at] at eb
      have q1 := (owns_at hown2 eb).1
      have q2 := (owns_at (HT.out i (by omega) ni) ea).2.1
      omega
     ·rw [Cod.put_ne _ _ e2] at eb
      exact HFR.out i j a b (by omega) (by omega) hij ni nj ea eb
   ·rcases hYn g hg with a | a
    ·exact .inl ((hYY g).1 a)
    ·exact .inr (Nat.le_trans (bth HB1.out HBA.out).size a)
theorem putsf_any {k r c q : Int} {N W : Nat} (h : Par k r c q N W 0) (w : World) (ro : Option Addr) (rc : Nat) (A : Nat -> Option Addr) (L C : Nat -> Nat) (F : Nat -> Nat -> UInt8) (hr : Rw w ro N A L C F) (hL : ∀ j, j < 2 * N -> L j = 0 \/ L j = sz N c) (kd : UInt8) (hk : kd = 1 \/ kd = 2) (nu ke : Int)
  (vo : Option Addr) (vc : Nat) (X : Nat -> Int) (hv : Vec w vo N vc X) (hX : ∀ j, j < N -> 1 <= X j /\ X j <= 1073741824) (lo : Option Addr) (cc : Nat) (Tc : Nat -> Option Addr) (Lc Uc : Nat -> Nat) (Dc : Nat -> Nat -> UInt8) (hl : RdC w lo N Tc Lc Uc) (hbc : ∀ i, i < N -> Bec w (Tc i) (Lc i) (Uc i) (Dc i)) (hLc : ∀ i, i < N -> Lc i = 0 \/ Lc i = c.toNat) :
  Calls Tryz.prog 83 #[stv k r c q ro N rc kd, .int .i64 nu, .int .i64 ke, .slice vo N vc, .slice lo N cc] w fun e w' => ∃ ao cap T U, e = .returned (.slice ao (Cod.cnt Lc N) cap) /\ PLf w.heap.size w' ao (Cod.cnt Lc N) cap N Lc (osl N c L F kd ke) nu (sz N c) T U (fun i => enc (slC kd N X c.toNat (Dc i) i)) /\ Below w.heap.size w w' := by
 have HEA : Hid (∀ wf gc gi gp gn gv Y, Below w.heap.size w wf -> Cap w wf gp 43 56 4 0 [] Y -> Box w wf gc gi gn gv k r c q ro N rc kd nu vo vc lo cc -> Calls Tryz.prog 71 #[stv k r c q ro N rc kd, .int .i64 ke, .func (.func 149) #[] #[.pointer (some ⟨gc, 0, none⟩), .pointer (some ⟨gi, 0, none⟩), .pointer (some ⟨gp, 0, none⟩), .pointer (some ⟨gn, 0, none⟩), .pointer (some ⟨gv, 0, none⟩)]] wf fun e w' => e = .returned (.tuple #[]) /\ ∃ Y', Ptf w gp (fun v => Box w v gc gi gn gv k r c q ro N rc kd nu vo vc lo cc) Lc (osl N c L F kd ke) nu (sz N c) (fun i => enc (slC kd N X c.toNat (Dc i) i)) N w' Y' /\ Only Y wf w' /\ ∀ g, Y' g -> Y g \/ wf.heap.size <= g) := fun wf gc gi gp gn gv Y hb hc hx => by
  refine each_any h w wf hb ro rc A L C F hr hL kd hk ke _ rfl 149 _ (Ptf w gp (fun v => Box w v gc gi gn gv k r c q ro N rc kd nu vo vc lo cc) Lc (osl N c L F kd ke) nu (sz N c) (fun i => enc (slC kd N X c.toNat (Dc i) i))) ⟨fun _ _ => rfl, fun d a b Y hI hb => ?_, fun d a Y hI g hg => ?_, fun d hd u Y B hI hbu hB ao ca bo cb hg => ?_⟩ _ ⟨fun _ => none, fun _ => 0, hc, fun i hi => absurd hi (by omega), hx, fun i j a b hi => absurd hi (by omega)⟩
  ·obtain ⟨T, U, h1, h2, h3, h4⟩ := hI
   exact ⟨T, U, h1.below hb, fun i hi hn => (h2 i hi hn).below hb, h3.below hb, h4⟩
  ·obtain ⟨T, U, h1, _⟩ := hI
   exact h1.at_ g hg
  ·exact putf1_any h w u hbu ro rc A L C F hr hL kd hk gc gi gp gn gv d hd nu vo vc X hv hX lo cc Tc Lc Uc Dc hl hbc (hLc d hd) (zv N c L F kd ke d) (zv_rng hd) (osl N c L F kd ke) rfl Y ao ca bo cb hI
 obtain ⟨w0, hw0⟩ : ∃ w0, w0 = w.alloc (.cells #[.int .i64 k, .int .i64 r, .int .i64 c, .int .i64 q, .slice ro N rc, .int .u8 ((kd.toNat : Nat) : Int)] 99) := ⟨_, rfl⟩
 obtain ⟨w1, hw1⟩ : ∃ w1, w1 = w0.alloc (.cells #[.int .i64 nu] 3) := ⟨_, rfl⟩
 obtain ⟨w2, hw2⟩ : ∃ w2, w2 = w1.alloc (.cells #[.slice vo N vc] 27) := ⟨_, rfl⟩
 obtain ⟨w3, hw3⟩ : ∃ w3, w3 = w2.alloc (.cells #[.slice lo N cc] 33) := ⟨_, rfl⟩
 obtain ⟨w4, hw4⟩ : ∃ w4, w4 = w3.alloc (.cells #[.slice none 0 0] 43) := ⟨_, rfl⟩
 have b0 : Below w.heap.size w w0 := by rw [hw0]; exact bal _ _
 have b1 : Below w0.heap.size w0 w1 := by rw [hw1]; exact bal _ _
 have b2 : Below w1.heap.size w1 w2 := by rw [hw2]; exact bal _ _
 have b3 : Below w2.heap.size w2 w3 := by rw [hw3]; exact bal _ _
 have b4 : Below w3.heap.size w3 w4 := by rw [hw4]; exact bal _ _
 have z0 : w0.heap.size = w.heap.size + 1 := by rw [hw0]; simp
 have z1 : w1.heap.size = w.heap.size + 1 + 1 := by rw [hw1]; simp [z0]
 have z2 : w2.heap.size = w.heap.size + 1 + 1 + 1 := by rw [hw2]; simp [z1]
 have z3 : w3.heap.size = w.heap.size + 1 + 1 + 1 + 1 := by rw [hw3]; simp [z2]
 have c1 := bth b0 b1
 have c2 := bth c1 b2
 have c3 := bth c2 b3
 have c4 := bth c3 b4
 have hbox : Box w w4 (w.heap.size + 1 + 1 + 1) w.heap.size (w.heap.size + 1) (w.heap.size + 1 + 1) k r c q ro N rc kd nu vo vc lo cc :=
  ⟨by rw [<- z2]; exact (at_made c2 hw3).below b4, (at_made (Below.refl _ _) hw0).below (bth (bth (bth b1 b2) b3) b4), by rw [<- z0]; exact (at_made b0 hw1).below (bth (bth b2 b3) b4), by rw [<- z1]; exact (at_made c1 hw2).below (bth b3 b4)⟩
 have hE2 := HEA.out w4 (w.heap.size + 1 + 1 + 1) w.heap.size (w.heap.size + 1 + 1 + 1 + 1) (w.heap.size + 1) (w.heap.size + 1 + 1) (fun x => x = w.heap.size + 1 + 1 + 1 + 1) c4 (cap_new c3 hw4 z3) hbox
 have HB4 : Hid (Below w.heap.size w w4) := c4
 clear h hr hL hv hX hl hbc hLc HEA hbox c1 c2 c3 c4 b0 b1 b2 b3 b4 z0 z1 z2 z3
 unfold stv at hE2 ⊢
 go_enter Tryz.func83, Tryz.ntmps83
 go_wp2_with fail
 rw [<- hw0, <- hw1, <- hw2, <- hw3, <- hw4]
 clear hw0 hw1 hw2 hw3 hw4
 refine hE2.mono ?_
 rintro e wf ⟨rfl, Y, ⟨T, U, ⟨ao, cap, hAt, hown, _⟩, hT, _, hF⟩, hO, _⟩
 have s0 := hAt.cell (i := 0) rfl
 go_wp2_with fail
 go_ret
 exact ⟨ao, cap, T, U, rfl, ⟨hown, hT, hF⟩, HB4.out.trans (hO.below (fun i hi => by omega) HB4.out.size)⟩
theorem Fullf_any {k r c q : Int} {N W : Nat} {x : Int} (h : Par k r c q N W x) (w : World) (ro : Option Addr) (rn rc : Nat) (A : Nat -> Option Addr) (L C : Nat -> Nat) (F : Nat -> Nat -> UInt8) (hr : Rw w ro rn A L C F) (nu : Int) (kd : UInt8) (ke v : Int) (dob : Option Addr) (dn dc : Nat) (D : Nat -> UInt8) (hD : Bec w dob dn dc D) (E : Int) (hE : erD (erW (erK x N c rn L kd v) q nu ke) dn W = E) :
  Calls Tryz.prog 22 #[.agg #[.int .i64 k, .int .i64 r, .int .i64 c, .int .i64 q], .slice ro rn rc, .int .i64 nu, .int .u8 ((kd.toNat : Nat) : Int), .int .i64 ke, .int .i64 v, .slice dob dn dc] w (AnsLf w E N N (fun _ => c.toNat) (osl N c L F kd ke) nu (sz N c) (fun i => enc (slC kd N (fun _ => v) c.toNat (dH k.toNat c.toNat D i) i))) := by
 obtain ⟨E1, hE1⟩ : ∃ E1, erW (erK x N c rn L kd v) q nu ke = E1 := ⟨_, rfl⟩
 rw [hE1] at hE
 have HA : Hid (∀ u, Below w.heap.size w u -> Calls Tryz.prog 78 #[.agg #[.int .i64 k, .int .i64 r, .int .i64 c, .int .i64 q], .slice ro rn rc, .int .i64 nu, .int .u8 ((kd.toNat : Nat) : Int), .int .i64 ke, .int .i64 v] u fun e w' => e = .returned (.tuple #[if E1 = 0 then stv k r c q ro rn rc kd else stz, .int .i64 E1]) /\ Below u.heap.size u w') := fun u hu => written_any h u ro rn rc A L C F (hr.below hu) nu kd ke v E1 hE1
 have HWI : Hid (∀ u, Calls Tryz.prog 79 #[.agg #[.int .i64 k, .int .i64 r, .int .i64 c, .int .i64 q]] u fun e w' => e = .returned (.tuple #[.int .i64 (W : Int), .int .i64 x]) /\ Below u.heap.size u w') := fun u => Width_any h u
 obtain ⟨w0, hw0⟩ : ∃ w0, w0 = w.alloc (.cells #[.int .i64 k, .int .i64 r, .int .i64 c, .int .i64 q] 23) := ⟨_, rfl⟩
 have B0 : Hid (Below w.heap.size w w0) := by show Below _ _ _; rw [hw0]; exact bal _ _
 have L0 : Hid (∀ v, Below w0.heap.size w0 v -> At w v w.heap.size #[.int .i64 k, .int .i64 r, .int .i64 c, .int .i64 q] 23) := fun v hv => (at_made (Below.refl _ _) hw0).below hv
 unfold erD at hE
 unfold AnsLf
 by_cases he : E1 = 0
 ·subst he
  rw [if_pos rfl] at hE HA
  obtain ⟨hK, _, hke⟩ := erW_zero hE1
  obtain ⟨hR, hk, hvr⟩ := erK_zero hK
  obtain ⟨rfl, rfl, hL⟩ := erR_zero hR
  by_cases hdw : dn = W
  ·subst hdw
   rw [if_pos rfl] at hE
   subst hE
   have hle := h.le
   obtain ⟨c1, c2⟩ := h.cell rfl
   obtain ⟨k1, k2, r1, r2, hKW, hN, h32⟩ : 1 <= k /\ k <= 12 /\ 0 <= r /\ r <= 4 /\ (dn : Int) = k * c /\ (rn : Int) = k + r /\ 32 <= dn := by
    rcases h with ⟨hm, hW, hN, _⟩ | ⟨_, _, _, h0⟩
    ·obtain ⟨h1, h2, h3, h4, h5, h6, h7, h8, h9⟩ := may_true hm; exact ⟨h1, h2, h3, h4, hW, hN, by omega⟩
    ·exact absurd h0 (by decide)
   have HPU : Hid (∀ u, Below w.heap.size w u -> ∀ vo vc lo cc Tc Uc, Vec u vo rn vc (fun _ => v) -> RdC u lo rn Tc (fun _ => c.toNat) Uc -> (∀ i, i < rn -> Bec u (Tc i) c.toNat (Uc i) (dH k.toNat c.toNat D i)) -> Calls Tryz.prog 83 #[stv k r c q ro rn rc kd, .int .i64 nu, .int .i64 ke, .slice vo rn vc, .slice lo rn cc] u fun e w' => ∃ ao cap T U, e = .returned (.slice ao rn cap) /\ PLf u.heap.size w' ao rn cap rn (fun _ => c.toNat) (osl rn c L F kd ke) nu (sz rn c) T U (fun i => enc (slC kd rn (fun _ => v) c.toNat (dH k.toNat c.toNat D i) i)) /\ Below u.heap.size u w') := fun u hu vo vc lo cc Tc Uc hv hl hb => by
    have := putsf_any h u ro rc A L C F (hr.below hu) hL kd hk nu ke vo vc (fun _ => v) hv (fun _ _ => hvr) lo cc Tc (fun _ => c.toNat) Uc (dH k.toNat c.toNat D) hl hb (fun _ _ => .inr rfl)
    rw [Cod.cnt_full (fun i _ => by omega)] at this
    exact this
   have HAL : Hid (∀ u, Calls Tryz.prog 82 #[.agg #[.int .i64 k, .int .i64 r, .int .i64 c, .int .i64 q], .int .i64 v] u (Ans u 0 rn (fun _ => v))) := fun u => All_any h v u 0 (by unfold erA; rw [if_pos rfl, if_pos (show verB v = true from decide_eq_true hvr)])
   obtain ⟨K, rfl⟩ := Int.eq_ofNat_of_zero_le (show 0 <= k by omega)
   obtain ⟨R, rfl⟩ := Int.eq_ofNat_of_zero_le r1
   obtain ⟨m, rfl⟩ := Int.eq_ofNat_of_zero_le (show 0 <= c by omega)
   simp only [Int.toNat_natCast] at HPU ⊢
   have hdn : dn = K * m := by rw [<- Int.natCast_mul] at hKW; omega
   have hNN : rn = K + R := by omega
   obtain ⟨b, off, rfl, hDc⟩ := hD.rd (show 0 < dn by omega)
   have HDD : Hid (Bec w (some ⟨b, off, none⟩) dn dc D) := hD
   have HCU : Hid (∀ u, Calls Tryz.prog 80 #[.agg #[.int .i64 (K : Int), .int .i64 (R : Int), .int .i64 (m : Int), .int .i64 q], .slice (some ⟨b, off, none⟩) dn dc] u fun e w' => ∃ ao cap, e = .returned (.slice ao K cap) /\ w'.ownsRow u.heap.size 36 1 (.slice ao K cap) K (Cod.rowsOf K (fun i => some ⟨b, off + i * m, none⟩) (fun _ => m) (fun _ => m)) /\ Below u.heap.size u w') := fun u => cut2_any (R : Int) q u b off dn dc (by omega) (by omega) (by omega) hdn hD.room
   have HBC : Hid (∀ u, Below w.heap.size w u -> ∀ i, i < K -> Bec u (some ⟨b, off + i * m, none⟩) m m (fun j => D (i * m + j))) := fun u hu i hi => bec_cut (hD.below hu) (by rw [hdn, <- Nat.succ_mul]; exact Nat.mul_le_mul_right m hi) (by omega)
   have HEN : Hid (∀ u lo cl, Below w.heap.size w u -> (∃ B, u.ownsRow B 36 1 (.slice lo K cl) K (Cod.rowsOf K (fun i => some ⟨b, off + i * m, none⟩) (fun _ => m) (fun _ => m))) -> Calls Tryz.prog 81 #[.int .i64 (K : Int), .int .i64 (R : Int), .slice lo K cl] u fun e w' => ∃ ao cap T U, e = .returned (.tuple #[.slice ao R cap, .int .i64 0]) /\ Cod.Copied w' u.heap.size R (.slice ao R cap) T (fun _ => m) U (Cod.par K (dM m D)) /\ Below u.heap.size u w') := fun u lo cl hu ⟨B, hl⟩ => by
    have hlst : Cod.Lst u lo K (fun i => some ⟨b, off + i * m, none⟩) (fun _ => m) (fun _ => m) (dM m D) := Cod.owns_lst hl (fun i hi => rd_toK (HBC.out u hu i hi).rd)
    have hEn := Cod.Encode_any u (K : Int) (R : Int) lo K cl _ _ _ _ hlst
    have e1 : Cod.mayB (K : Int) (R : Int) = true := decide_eq_true (by omega)
    have hc := Cod.cnt_full (L := fun _ => m) (n := K) (fun i _ => by omega)
    obtain ⟨g1, g2⟩ := Cod.okT_of (L := fun _ => m) (n := K) (show m ≠ 0 by omega) (by omega) (fun _ _ => .inr rfl)
    have e2 : Cod.okEnc K (fun _ => m) (K : Int) (R : Int) = true := by unfold Cod.okEnc Cod.okC; rw [e1, g1, hc]; simp
    have e3 : Cod.len0 (fun _ => m) K = m := by
     rcases Cod.len0_sel (fun _ => m) K with ⟨e, _⟩ | ⟨_, e, _⟩
     ·omega
     ·exact e
    rw [e1, e2, e3, Int.toNat_natCast, Int.toNat_natCast] at hEn
    exact hEn
   have HNN : Hid (rn = K + R) := hNN
   have hKb : K <= 12 := by omega
   have hRb : R <= 4 := by omega
   have hmb : 0 < m /\ m <= 64 := by omega
   clear h hr hE1 hK hke hR hL hvr hD hDc hk hKW hdn hNN hN k1 k2 r1 r2 c1 c2
   unfold stv at HA HPU
   unfold Ans at HAL
   rw [show lenE 0 rn = rn from if_pos rfl] at HAL ⊢
   have q1 : ((dn : Int) != (dn : Int)) = false := by simp
   go_enter Tryz.func22, Tryz.ntmps22
   go_wp2_with fail
   rw [<- hw0]
   clear hw0
   refine (HA.out _ B0.out).mono ?_
   rintro e wa ⟨rfl, ha⟩
   obtain ⟨w2, hw2⟩ : ∃ w2, w2 = wa.alloc (.cells #[.int .i64 (K : Int), .int .i64 (R : Int), .int .i64 (m : Int), .int .i64 q, .slice ro rn rc, .int .u8 ((kd.toNat : Nat) : Int)] 99) := ⟨_, rfl⟩
   have b2 : Below w.heap.size w w2 := by rw [hw2]; exact bth (bth B0.out ha) (bal _ _)
   have HB2 : Hid (Below w.heap.size w w2) := b2
   have H02 : Hid (Below w0.heap.size w0 w2) := by show Below _ _ _; rw [hw2]; exact bth ha (bal _ _)
   have L2 : Hid (∀ v, Below w2.heap.size w2 v -> At w v wa.heap.size #[.int .i64 (K : Int), .int .i64 (R : Int), .int .i64 (m : Int), .int .i64 q, .slice ro rn rc, .int .u8 ((kd.toNat : Nat) : Int)] 99) := fun v hv => (at_made (bth B0.out ha) hw2).below hv
   have qq := fun o => ((L0.out wa ha).alloc o)
   have s0 := fun o => (qq o).cell (i := 0) rfl
   have s1 := fun o => (qq o).cell (i := 1) rfl
   have s2 := fun o => (qq o).cell (i := 2) rfl
   have s3 := fun o => (qq o).cell (i := 3) rfl
   clear ha b2 qq
   go_wp2_with fail
   rw [<- hw2]
   clear hw2 s0 s1 s2 s3
   refine (HWI.out _).mono ?_
   rintro e w3 ⟨rfl, h3⟩
   have p := L0.out w3 (bth H02.out h3)
   have s0 := p.cell (i := 0) rfl
   have s1 := p.cell (i := 1) rfl
   have s2 := p.cell (i := 2) rfl
   have s3 := p.cell (i := 3) rfl
   have H23 : Hid (Below w2.heap.size w2 w3) := h3
   clear h3 p
   go_wp2_with fail
   refine (HCU.out _).mono ?_
   rintro e w4 ⟨lo, lc, rfl, hlo, h4⟩
   clear s0 s1 s2 s3
   have p := L0.out w4 (bth (bth H02.out H23.out) h4)
   have s0 := p.cell (i := 0) rfl
   have s1 := p.cell (i := 1) rfl
   have H24 : Hid (Below w2.heap.size w2 w4) := bth H23.out h4
   have HLO : Hid (w4.ownsRow w3.heap.size 36 1 (.slice lo K lc) K (Cod.rowsOf K (fun i => some ⟨b, off + i * m, none⟩) (fun _ => m) (fun _ => m))) := hlo
   have hEN := HEN.out w4 lo lc (bth HB2.out H24.out) ⟨_, hlo⟩
   have HS4 : Hid (w3.heap.size <= w4.heap.size) := h4.size
   clear h4 p hlo
   go_wp2_with fail
   refine hEN.mono ?_
   clear hEN s0 s1
   rintro e w5 ⟨po, pc, T, U, rfl, hcop, h5⟩
   have p := L0.out w5 (bth (bth H02.out H24.out) h5)
   have s0 := p.cell (i := 0) rfl
   have s1 := p.cell (i := 1) rfl
   have s2 := p.cell (i := 2) rfl
   have s3 := p.cell (i := 3) rfl
   have H25 : Hid (Below w2.heap.size w2 w5) := bth H24.out h5
   have HCO : Hid (Cod.Copied w5 w4.heap.size R (.slice po R pc) T (fun _ => m) U (Cod.par K (dM m D))) := hcop
   have HL5 : Hid (w5.ownsRow w3.heap.size 36 1 (.slice lo K lc) K (Cod.rowsOf K (fun i => some ⟨b, off + i * m, none⟩) (fun _ => m) (fun _ => m))) := owns_below HLO.out h5
   have HS34 : Hid (w3.heap.size <= w5.heap.size /\ w2.heap.size <= w3.heap.size) := ⟨Nat.le_trans HS4.out h5.size, H23.out.size⟩
   clear h5 p hcop
   go_wp2_with fail
   refine (HAL.out _).mono ?_
   rintro e w6 ⟨vo, vc, rfl, hvo, h6⟩
   clear s0 s1 s2 s3
   have H26 : Hid (Below w2.heap.size w2 w6) := bth H25.out h6
   have HVO : Hid (Own w5.heap.size w6 vo rn vc (fun _ => v)) := hvo
   have HL6 : Hid (w6.ownsRow w3.heap.size 36 1 (.slice lo K lc) K (Cod.rowsOf K (fun i => some ⟨b, off + i * m, none⟩) (fun _ => m) (fun _ => m))) := owns_below HL5.out h6
   have HC6 : Hid (w6.ownsRow w4.heap.size 36 1 (.slice po R pc) R (Cod.rowsOf R T (fun _ => m) U)) := owns_below HCO.out.out h6
   have HR6 : Hid (∀ i, i < R -> OwU w4.heap.size w6 (T i) m (U i) (fun j => bK (Cod.par K (dM m D) i j))) := fun i hi => by
    have := HCO.out.row i hi; rw [cells_bK] at this; exact owns_below this h6
   have HS6 : Hid (w3.heap.size <= w6.heap.size) := Nat.le_trans HS34.out.1 h6.size
   have CH : Hid (∀ u, Below w2.heap.size w2 u -> (u.cell? ⟨wa.heap.size, 0, none⟩ = some (.int .i64 (K : Int)) /\ u.cell? ⟨wa.heap.size, 1, none⟩ = some (.int .i64 (R : Int)) /\ u.cell? ⟨wa.heap.size, 2, none⟩ = some (.int .i64 (m : Int)) /\ u.cell? ⟨wa.heap.size, 3, none⟩ = some (.int .i64 q) /\ u.cell? ⟨wa.heap.size, 4, none⟩ = some (.slice ro rn rc) /\ u.cell? ⟨wa.heap.size, 5, none⟩ = some (.int .u8 ((kd.toNat : Nat) : Int)))) := fun u hu => by
    have p := L2.out u hu
    exact ⟨p.cell (i := 0) rfl, p.cell (i := 1) rfl, p.cell (i := 2) rfl, p.cell (i := 3) rfl, p.cell (i := 4) rfl, p.cell (i := 5) rfl⟩
   obtain ⟨s0, s1, s2, s3, s4, s5⟩ := CH.out w6 H26.out
   have AP : Hid (∀ ao' c' w7, w7.ownsRow w3.heap.size 36 1 (.slice ao' (K + R) c') (K + R) (Cod.rowsOf K (fun i => some ⟨b, off + i * m, none⟩) (fun _ => m) (fun _ => m) ++ Cod.rowsOf R T (fun _ => m) U) -> w6.drew.grownBy w7 (Value.slice lo K lc).ownBlock -> Below w2.heap.size w2 w7 /\ Calls Tryz.prog 83 #[.agg #[.int .i64 (K : Int), .int .i64 (R : Int), .int .i64 (m : Int), .int .i64 q, .slice ro rn rc, .int .u8 ((kd.toNat : Nat) : Int)], .int .i64 nu, .int .i64 ke, .slice vo rn vc, .slice ao' rn c'] w7 fun e w' => ∃ ao cap T U, e = .returned (.slice ao rn cap) /\ PLf w7.heap.size w' ao rn cap rn (fun _ => m) (osl rn (m : Int) L F kd ke) nu (sz rn (m : Int)) T U (fun i => enc (slC kd rn (fun _ => v) m (dH K m D i) i)) /\ Below w7.heap.size w7 w') := fun ao' c' w7 hown hgrow => by
    have hb7 : Below w2.heap.size w2 w7 := (H26.out.drew).grown hgrow H26.out.size (fun r hr => Nat.le_trans HS34.out.2 (HL6.out.lt r hr).1)
    refine ⟨hb7, ?_⟩
    have hbw := bth HB2.out hb7
    rw [<- Cod.rowsOf_join, <- HNN.out] at hown
    refine HPU.out w7 hbw vo vc ao' c' (Cod.join K (fun i => some ⟨b, off + i * m, none⟩) T) (Cod.join K (fun _ => m) U) ?_ (fun hp => ?_) (fun i hi => ?_)
    ·exact Own.vec (B := w5.heap.size) (owns_grown (w := w6.drew) HVO.out HL6.out (by decide) hgrow)
    ·rcases hown.2 with ⟨_, h1⟩ | ⟨g, cap', cur, h1, _⟩
     ·omega
     ·cases h1
      refine ⟨g, 0, rfl, fun i hi => ?_⟩
      have := hown.cells (g := g) rfl i _ (Cod.rowsOf_get rn _ _ _ i hi)
      rw [Addr.add_lit, Cod.join_const] at this
      exact this
    ·unfold Cod.join
     by_cases e : i < K
     ·rw [if_pos e, if_pos e]
      exact (HBC.out w7 hbw i e).congr fun j _ => (dH_data e).symm
     ·rw [if_neg e, if_neg e]
      have hi2 : i - K < R := by have := HNN.out; omega
      have := (OwU.bec (B := w4.heap.size) (owns_grown (w := w6.drew) (HR6.out (i - K) hi2) HL6.out (by decide) hgrow))
      refine this.congr fun j _ => ?_
      unfold dH Cod.par
      rw [show K + (i - K) = i by omega]
   clear hvo h6
   go_wp2_with fail
   go_region_held3 (fun u => u.cell? ⟨wa.heap.size, 0, none⟩ = some (.int .i64 (K : Int)) /\ u.cell? ⟨wa.heap.size, 1, none⟩ = some (.int .i64 (R : Int)) /\ u.cell? ⟨wa.heap.size, 2, none⟩ = some (.int .i64 (m : Int)) /\ u.cell? ⟨wa.heap.size, 3, none⟩ = some (.int .i64 q) /\ u.cell? ⟨wa.heap.size, 4, none⟩ = some (.slice ro rn rc) /\ u.cell? ⟨wa.heap.size, 5, none⟩ = some (.int .u8 ((kd.toNat : Nat) : Int))) (go_keep) ((first
    | (go_at_call 83; refine HP7.out.2.mono ?_; rintro e w8 ⟨qo, qc, QT, QU, rfl, hpl, h8⟩; have H28 : Hid (Below w2.heap.size w2 w8) := bth HP7.out.1 h8; have HPL : Hid (PLf w7.heap.size w8 qo rn qc rn (fun _ => m) (osl rn (m : Int) L F kd ke) nu (sz rn (m : Int)) QT QU (fun i => enc (slC kd rn (fun _ => v) m (dH K m D i) i))) := hpl; obtain ⟨f0, f1, f2, f3, f4, f5⟩ := CH.out w8 H28.out; clear hpl h8)
    | (refine step_append_row (by rfl) (.tmp 69) (.tmp 70) (by rfl) w3.heap.size K R lc pc lo po (Cod.rowsOf K (fun i => some ⟨b, off + i * m, none⟩) (fun _ => m) (fun _ => m)) T (fun _ => m) U (by rfl) (by rfl) HL6.out ⟨_, HC6.out⟩ (by omega) (by omega) HS6.out ?_; intro ao7 c7 w7 hown7 hgrow7; have hq := AP.out ao7 c7 w7 hown7 hgrow7; have HP7 : Hid _ := hq; obtain ⟨e0, e1, e2, e3, e4, e5⟩ := CH.out w7 hq.1; rw [<- HNN.out]; clear hq hown7 hgrow7)))
   go_wp2_with fail
   go_ret2
   exact ⟨qo, qc, QT, QU, rfl, fun _ => HPL.out.mono (Nat.le_trans HB2.out.size HP7.out.1.size), bth HB2.out H28.out⟩
  ·rw [if_neg hdw] at hE
   subst hE
   have q1 : ((dn : Int) != (W : Int)) = true := by simp; omega
   rw [show lenE 20 rn = 0 from rfl]
   clear h hr hE1 hK hke hR hL hvr hD hk hdw
   unfold stv at HA
   go_enter Tryz.func22, Tryz.ntmps22
   go_wp2_with fail
   rw [<- hw0]
   clear hw0
   refine (HA.out _ B0.out).mono ?_
   rintro e wa ⟨rfl, ha⟩
   have qq := fun o => ((L0.out wa ha).alloc o)
   have s0 := fun o => (qq o).cell (i := 0) rfl
   have s1 := fun o => (qq o).cell (i := 1) rfl
   have s2 := fun o => (qq o).cell (i := 2) rfl
   have s3 := fun o => (qq o).cell (i := 3) rfl
   have HBA : Hid (Below w.heap.size w wa) := bth B0.out ha
   clear ha qq
   go_wp2_with fail
   refine (HWI.out _).mono ?_
   rintro e w3 ⟨rfl, h3⟩
   go_wp2_with fail
   go_ret2
   exact ⟨none, 0, fun _ => none, fun _ => 0, rfl, (fun e => absurd e (by decide)), bth HBA.out (bth (bal _ _) h3)⟩
 ·rw [if_neg he] at hE HA
  subst hE
  have e1 : (E1 != 0) = true := by simp [he]
  rw [show lenE E1 N = 0 from if_neg he]
  have HNE : Hid (¬ E1 = 0) := he
  clear h hr hE1 hD he
  unfold stz at HA
  go_enter Tryz.func22, Tryz.ntmps22
  go_wp2_with fail
  rw [<- hw0]
  clear hw0
  refine (HA.out _ B0.out).mono ?_
  rintro e wa ⟨rfl, ha⟩
  go_wp2_with fail
  go_ret2
  exact ⟨none, 0, fun _ => none, fun _ => 0, rfl, (fun e => absurd e HNE.out), bth (bth B0.out ha) (bal _ _)⟩
theorem Mendf_any {k r c q : Int} {N W : Nat} {x : Int} (h : Par k r c q N W x) (w : World) (ro : Option Addr) (rn rc : Nat) (A : Nat -> Option Addr) (L C : Nat -> Nat) (F : Nat -> Nat -> UInt8) (hr : Rw w ro rn A L C F) (nu : Int) (kd : UInt8) (ke v : Int) (E : Int) (hE : erV2 (erW (erK x N c rn L kd v) q nu ke) (erL k.toNat (zv N c L F kd v) N) = E) :
  Calls Tryz.prog 24 #[.agg #[.int .i64 k, .int .i64 r, .int .i64 c, .int .i64 q], .slice ro rn rc, .int .i64 nu, .int .u8 ((kd.toNat : Nat) : Int), .int .i64 ke, .int .i64 v] w (AnsLf w E (Cod.cnt (mis (zv N c L F kd v) c.toNat) N) N (mis (zv N c L F kd v) c.toNat) (osl N c L F kd ke) nu (sz N c) (fun i => enc (slC kd N (tS (yy N c L F) kd v (2 * N)).V c.toNat (cH k.toNat (zv N c L F kd v) N i) i))) := by
 obtain ⟨E1, hE1⟩ : ∃ E1, erW (erK x N c rn L kd v) q nu ke = E1 := ⟨_, rfl⟩
 rw [hE1] at hE
 have HA : Hid (∀ u, Below w.heap.size w u -> Calls Tryz.prog 78 #[.agg #[.int .i64 k, .int .i64 r, .int .i64 c, .int .i64 q], .slice ro rn rc, .int .i64 nu, .int .u8 ((kd.toNat : Nat) : Int), .int .i64 ke, .int .i64 v] u fun e w' => e = .returned (.tuple #[if E1 = 0 then stv k r c q ro rn rc kd else stz, .int .i64 E1]) /\ Below u.heap.size u w') := fun u hu => written_any h u ro rn rc A L C F (hr.below hu) nu kd ke v E1 hE1
 obtain ⟨w0, hw0⟩ : ∃ w0, w0 = w.alloc (.cells #[.int .i64 k, .int .i64 r, .int .i64 c, .int .i64 q] 23) := ⟨_, rfl⟩
 have B0 : Hid (Below w.heap.size w w0) := by show Below _ _ _; rw [hw0]; exact bal _ _
 unfold erV2 at hE
 unfold AnsLf
 by_cases he : E1 = 0
 ·subst he
  rw [if_pos rfl] at hE HA
  obtain ⟨hK, _, hke⟩ := erW_zero hE1
  obtain ⟨hR, hk, hvr⟩ := erK_zero hK
  obtain ⟨rfl, rfl, hL⟩ := erR_zero hR
  have hle := h.le
  obtain ⟨c1, c2⟩ := h.cell rfl
  have hk1 : 1 <= k := by
   rcases h with ⟨hm, _⟩ | ⟨_, _, _, h0⟩
   ·exact (may_true hm).1
   ·exact absurd h0 (by decide)
  obtain ⟨z, hz⟩ : ∃ z, z = zv rn c L F kd v := ⟨_, rfl⟩
  obtain ⟨t, ht⟩ : ∃ t, t = tS (yy rn c L F) kd v (2 * rn) := ⟨_, rfl⟩
  have HCE : Hid (∀ u, Below w.heap.size w u -> Calls Tryz.prog 74 #[stv k r c q ro rn rc kd, .int .i64 v] u (AnsC u E rn c.toNat (cH k.toNat z rn))) := fun u hu => by rw [<- hE, hz]; exact cells_any h u ro rc A L C F (hr.below hu) hL kd hk v
  have HVE : Hid (∀ u, Below w.heap.size w u -> Calls Tryz.prog 68 #[stv k r c q ro rn rc kd, .int .i64 v] u (AnsV u t)) := fun u hu => vector_any h u ro rc A L C F (hr.below hu) hL kd hk v t ht.symm
  by_cases he2 : E = 0
  ·subst he2
   rw [<- hz] at hE
   obtain ⟨htn, htv⟩ : t.vn = rn /\ ∀ j, j < rn -> 1 <= t.V j /\ t.V j <= 1073741824 := by
    have hc : 0 < Cod.cnt (Lz z) rn := by
     unfold erL at hE
     by_cases g : k.toNat <= Cod.cnt (Lz z) rn
     ·omega
     ·rw [if_neg g] at hE; exact absurd hE (by decide)
    obtain ⟨i, hi, hne⟩ := cnt_ex hc
    rcases tS_is (v := v) hk (yy_ok rn c L F) (2 * rn) (Nat.le_refl _) with ⟨a, _⟩ | ⟨j, _, a2, _, a4, _⟩
    ·exfalso
     apply hne
     unfold Lz
     rw [hz]
     unfold zv zz
     rw [a, if_pos (show zSl.ce = 0 from rfl)]
     rfl
    ·rw [<- ht] at a2
     rw [a2]; exact ⟨(ok_of a4.1).vn, (ok_of a4.1).V⟩
   have HEA : Hid (∀ wf gc gl cap T U Y, Below w.heap.size w wf -> Mnl w gc gl rn cap z T (fun _ => c.toNat) U 0 wf Y -> Calls Tryz.prog 71 #[stv k r c q ro rn rc kd, .int .i64 v, .func (.func 87) #[] #[.pointer (some ⟨gc, 0, none⟩)]] wf fun e w' => e = .returned (.tuple #[]) /\ ∃ Y', Mnl w gc gl rn cap z T (fun _ => c.toNat) U rn w' Y' /\ Only Y wf w' /\ ∀ g, Y' g -> Y g \/ wf.heap.size <= g) := fun wf gc gl cap T U Y hb hc => by
    rw [hz] at hc ⊢
    refine each_any h w wf hb ro rc A L C F hr hL kd hk v _ rfl 87 _ (Mnl w gc gl rn cap (zv rn c L F kd v) T (fun _ => c.toNat) U) ⟨fun _ _ => rfl, fun d a b Y hI hb => ⟨hI.1.below hb, owns_below hI.2.1 hb, hI.2.2⟩, fun d a Y hI g hg => ?_, fun d hd u Y B hI _ _ ao ca bo cb _ => ?_⟩ _ hc
    rotate_left
    ·exact mend1_any w u gc gl rn cap d hd (zv rn c L F kd v) T (fun _ => c.toNat) U Y _ _ ao ca bo cb hI
    obtain rfl := (hI.2.2 g).1 hg
    exact ⟨(owns_at hI.2.1 (a := ⟨g, 0, none⟩) rfl).1, (owns_at hI.2.1 (a := ⟨g, 0, none⟩) rfl).2.1⟩
   have HPU : Hid (∀ u, Below w.heap.size w u -> ∀ vo vc lo cc Tc Uc, Vec u vo rn vc t.V -> RdC u lo rn Tc (mis z c.toNat) Uc -> (∀ i, i < rn -> Bec u (Tc i) (mis z c.toNat i) (Uc i) (cH k.toNat z rn i)) -> Calls Tryz.prog 83 #[stv k r c q ro rn rc kd, .int .i64 nu, .int .i64 ke, .slice vo rn vc, .slice lo rn cc] u fun e w' => ∃ ao cap T U, e = .returned (.slice ao (Cod.cnt (mis z c.toNat) rn) cap) /\ PLf u.heap.size w' ao (Cod.cnt (mis z c.toNat) rn) cap rn (mis z c.toNat) (osl rn c L F kd ke) nu (sz rn c) T U (fun i => enc (slC kd rn t.V c.toNat (cH k.toNat z rn i) i)) /\ Below u.heap.size u w') := fun u hu vo vc lo cc Tc Uc hv hl hb => putsf_any h u ro rc A L C F (hr.below hu) hL kd hk nu ke vo vc t.V hv htv lo cc Tc (mis z c.toNat) Uc (cH k.toNat z rn) hl hb (fun i _ => by
     unfold mis
     by_cases e : (z i).ce = 0
     ·rw [if_pos e]; exact .inr rfl
     ·rw [if_neg e]; exact .inl rfl)
   rw [<- hz, <- ht]
   obtain ⟨m, hm⟩ : ∃ m, m = c.toNat := ⟨_, rfl⟩
   rw [<- hm] at HCE HEA HPU ⊢
   obtain ⟨H, hH⟩ : ∃ H, H = cH k.toNat z rn := ⟨_, rfl⟩
   rw [<- hH] at HCE HPU ⊢
   have hrn : 0 < rn := by
    rcases h with ⟨hmm, _, hN, _⟩ | ⟨_, _, _, h0⟩
    ·obtain ⟨h1, h2, h3, h4, h5, h6, h7, h8, h9⟩ := may_true hmm; omega
    ·exact absurd h0 (by decide)
   have HTN : Hid (t.vn = rn) := htn
   generalize osl rn c L F kd ke = os at *
   generalize sz rn c = Z at *
   clear h hr hE hE1 hK hke hR hL hk hvr hz ht hm hH htn htv
   unfold stv at HA HCE HVE HEA HPU
   unfold AnsC at HCE
   unfold AnsV at HVE
   rw [HTN.out] at HVE
   rw [show lenE 0 rn = rn from if_pos rfl] at HCE
   obtain ⟨cn, hcn⟩ : ∃ cn, cn = Cod.cnt (mis z m) rn := ⟨_, rfl⟩
   rw [<- hcn] at HPU ⊢
   clear hcn
   rw [show lenE 0 cn = cn from if_pos rfl]
   go_enter Tryz.func24, Tryz.ntmps24
   go_wp2_with fail
   rw [<- hw0]
   clear hw0
   refine (HA.out _ B0.out).mono ?_
   rintro e wa ⟨rfl, ha⟩
   obtain ⟨w2, hw2⟩ : ∃ w2, w2 = wa.alloc (.cells #[.int .i64 k, .int .i64 r, .int .i64 c, .int .i64 q, .slice ro rn rc, .int .u8 ((kd.toNat : Nat) : Int)] 99) := ⟨_, rfl⟩
   have ba : Below w.heap.size w wa := bth B0.out ha
   have HB2 : Hid (Below w.heap.size w w2) := by show Below _ _ _; rw [hw2]; exact bth ba (bal _ _)
   have L2 : Hid (∀ v, Below w2.heap.size w2 v -> At w v wa.heap.size #[.int .i64 k, .int .i64 r, .int .i64 c, .int .i64 q, .slice ro rn rc, .int .u8 ((kd.toNat : Nat) : Int)] 99) := fun v hv => (at_made ba hw2).below hv
   clear ha ba
   go_wp2_with fail
   rw [<- hw2]
   clear hw2
   refine (HCE.out _ HB2.out).mono ?_
   rintro e wb ⟨ao, cap, T, U, rfl, hc, hb⟩
   obtain ⟨gl, rfl⟩ : ∃ gl, ao = some ⟨gl, 0, none⟩ := by
    rcases hc.out.2 with ⟨_, h1⟩ | ⟨g, cap', cur, h1, _⟩
    ·omega
    ·cases h1; exact ⟨g, rfl⟩
   obtain ⟨w3, hw3⟩ : ∃ w3, w3 = wb.alloc (.cells #[.slice (some ⟨gl, 0, none⟩) rn cap] 33) := ⟨_, rfl⟩
   have b3 : Below w2.heap.size w2 w3 := by rw [hw3]; exact bth hb (bal _ _)
   have bw3 : Below w.heap.size w w3 := bth HB2.out b3
   have hmn : Mnl w wb.heap.size gl rn cap z T (fun _ => m) U 0 w3 (fun g => g = gl) := by
    refine ⟨at_made (bth HB2.out hb) hw3, ?_, fun g => Iff.rfl⟩
    have e1 : mT z T 0 = T := by funext i; exact if_neg (fun a => by omega)
    have e2 : mL z (fun _ => m) 0 = fun _ => m := by funext i; exact if_neg (fun a => by omega)
    have e3 : mL z U 0 = U := by funext i; exact if_neg (fun a => by omega)
    rw [e1, e2, e3]
    exact owns_mono (owns_below hc.out (by rw [hw3]; exact bal _ _)) HB2.out.size
   have hE2 := HEA.out w3 wb.heap.size gl cap T U (fun g => g = gl) bw3 hmn
   have qs := fun o => ((L2.out wb hb).alloc o)
   have s0 := fun o => (qs o).cell (i := 0) rfl
   have s1 := fun o => (qs o).cell (i := 1) rfl
   have s2 := fun o => (qs o).cell (i := 2) rfl
   have s3 := fun o => (qs o).cell (i := 3) rfl
   have s4 := fun o => (qs o).cell (i := 4) rfl
   have s5 := fun o => (qs o).cell (i := 5) rfl
   have HC3 : Hid (Cls w2.heap.size w3 (some ⟨gl, 0, none⟩) rn cap m T U H) := hc.below (by rw [hw3]; exact bal _ _)
   have HB3 : Hid (Below w2.heap.size w2 w3) := b3
   have HGL : Hid (w2.heap.size <= gl) := (owns_at hc.out (a := ⟨gl, 0, none⟩) rfl).1
   clear hb hc b3 bw3 hmn qs
   go_wp2_with fail
   rw [<- hw3]
   clear hw3 s0 s1 s2 s3 s4 s5
   refine hE2.mono ?_
   clear hE2
   rintro e wf ⟨rfl, Y, ⟨hAf, hof, _⟩, hO, _⟩
   have hbf : Below w2.heap.size w2 wf := HB3.out.trans (hO.below (fun i hi => by have := HGL.out; omega) HB3.out.size)
   have HBF : Hid (Below w2.heap.size w2 wf) := hbf
   have HBW : Hid (Below w.heap.size w wf) := bth HB2.out hbf
   have HAF : Hid (At w wf wb.heap.size #[.slice (some ⟨gl, 0, none⟩) rn cap] 33) := hAf
   have HLF : Hid (wf.ownsRow w.heap.size 36 1 (.slice (some ⟨gl, 0, none⟩) rn cap) rn (Cod.rowsOf rn (mT z T rn) (mL z (fun _ => m) rn) (mL z U rn))) := hof
   have HRF : Hid (∀ i, i < rn -> OwU w2.heap.size wf (T i) m (U i) (H i)) := fun i hi => owns_blocks (HC3.out.row i hi) fun a ha => by
    obtain ⟨_, hl, cur, hcc⟩ := owns_at (HC3.out.row i hi) ha
    refine hO.block _ hl fun e1 => ?_
    obtain ⟨_, _, cur', hcc'⟩ := owns_at HC3.out.out (a := ⟨gl, 0, none⟩) rfl
    rw [e1] at hcc
    simp only at hcc'
    rw [hcc'] at hcc
    cases hcc
   have CH : Hid (∀ u, Below wf.heap.size wf u -> (u.cell? ⟨wa.heap.size, 0, none⟩ = some (.int .i64 k) /\ u.cell? ⟨wa.heap.size, 1, none⟩ = some (.int .i64 r) /\ u.cell? ⟨wa.heap.size, 2, none⟩ = some (.int .i64 c) /\ u.cell? ⟨wa.heap.size, 3, none⟩ = some (.int .i64 q) /\ u.cell? ⟨wa.heap.size, 4, none⟩ = some (.slice ro rn rc) /\ u.cell? ⟨wa.heap.size, 5, none⟩ = some (.int .u8 ((kd.toNat : Nat) : Int)) /\ u.cell? ⟨wb.heap.size, 0, none⟩ = some (.slice (some ⟨gl, 0, none⟩) rn cap))) := fun u hu => by
    have p := L2.out u (bth HBF.out hu)
    exact ⟨p.cell (i := 0) rfl, p.cell (i := 1) rfl, p.cell (i := 2) rfl, p.cell (i := 3) rfl, p.cell (i := 4) rfl, p.cell (i := 5) rfl, (HAF.out.below hu).cell (i := 0) rfl⟩
   obtain ⟨s0, s1, s2, s3, s4, s5, s6⟩ := CH.out wf (Below.refl _ _)
   have hVE := HVE.out wf.drew (HBW.out.trans ((bdw _ _).mono HBW.out.size))
   have PU : Hid (∀ vo vc w8, Own wf.heap.size w8 vo rn vc t.V -> Below wf.heap.size wf w8 -> Calls Tryz.prog 83 #[.agg #[.int .i64 k, .int .i64 r, .int .i64 c, .int .i64 q, .slice ro rn rc, .int .u8 ((kd.toNat : Nat) : Int)], .int .i64 nu, .int .i64 ke, .slice vo rn vc, .slice (some ⟨gl, 0, none⟩) rn cap] w8 fun e w' => ∃ ao cap T U, e = .returned (.slice ao cn cap) /\ PLf w8.heap.size w' ao cn cap rn (mis z m) os nu Z T U (fun i => enc (slC kd rn t.V m (H i) i)) /\ Below w8.heap.size w8 w') := fun vo vc w8 hvo h8 => by
    have ho8 := owns_below HLF.out h8
    refine HPU.out w8 (bth HBW.out h8) vo vc _ cap (mT z T rn) (mL z U rn) hvo.vec (fun hp => ⟨gl, 0, rfl, fun i hi => ?_⟩) (fun i hi => ?_)
    ·have := ho8.cells (g := gl) rfl i _ (Cod.rowsOf_get rn _ _ _ i hi)
     rw [Addr.add_lit, mL_all hi] at this
     exact this
    ·have hrow := ((HRF.out i hi).below h8).bec
     unfold mis mT mL
     by_cases e : (z i).ce = 0
     ·rw [if_pos e, if_neg (fun a => a.2 e), if_neg (fun a => a.2 e)]; exact hrow
     ·rw [if_neg e, if_pos ⟨hi, e⟩, if_pos ⟨hi, e⟩]; exact bec_nil _ _
   clear hAf hof hO hbf
   go_wp2_with fail
   go_region_held3 (fun u => u.cell? ⟨wa.heap.size, 0, none⟩ = some (.int .i64 k) /\ u.cell? ⟨wa.heap.size, 1, none⟩ = some (.int .i64 r) /\ u.cell? ⟨wa.heap.size, 2, none⟩ = some (.int .i64 c) /\ u.cell? ⟨wa.heap.size, 3, none⟩ = some (.int .i64 q) /\ u.cell? ⟨wa.heap.size, 4, none⟩ = some (.slice ro rn rc) /\ u.cell? ⟨wa.heap.size, 5, none⟩ = some (.int .u8 ((kd.toNat : Nat) : Int)) /\ u.cell? ⟨wb.heap.size, 0, none⟩ = some (.slice (some ⟨gl, 0, none⟩) rn cap)) (go_keep) ((first
    | (go_at_call 68; refine hVE.mono ?_; rintro e w8 ⟨vo, vc, rfl, hvo, _, h8⟩; have H8 : Hid (Below wf.heap.size wf w8) := of_drew' h8; have hpu := And.intro trivial (PU.out vo vc w8 hvo H8.out); have HP8 : Hid _ := hpu; obtain ⟨e0, e1, e2, e3, e4, e5, e6⟩ := CH.out w8 H8.out; clear hvo h8 hpu)
    | (go_at_call 83; refine HP8.out.2.mono ?_; rintro e w9 ⟨qo, qc, QT, QU, rfl, hpl, h9⟩; have H9 : Hid (Below wf.heap.size wf w9) := bth H8.out h9; have HPL : Hid (PLf w8.heap.size w9 qo cn qc rn (mis z m) os nu Z QT QU (fun i => enc (slC kd rn t.V m (H i) i))) := hpl; obtain ⟨f0, f1, f2, f3, f4, f5, f6⟩ := CH.out w9 H9.out; clear hpl h9)))
   go_wp2_with fail
   go_ret2
   exact ⟨qo, qc, QT, QU, rfl, fun _ => HPL.out.mono (Nat.le_trans HBW.out.size H8.out.size), bth HBW.out H9.out⟩
  ·have e1 : (E != 0) = true := by simp [he2]
   rw [<- hz, <- ht]
   generalize cH k.toNat z rn = H at *
   generalize Cod.cnt (mis z c.toNat) rn = cn at *
   rw [show lenE E cn = 0 from if_neg he2]
   have HNE : Hid (¬ E = 0) := he2
   clear h hr hE hE1 hK hke hR hL hk hvr hz ht he2 HVE
   unfold stv at HA HCE
   unfold AnsC at HCE
   go_enter Tryz.func24, Tryz.ntmps24
   go_wp2_with fail
   rw [<- hw0]
   clear hw0
   refine (HA.out _ B0.out).mono ?_
   rintro e wa ⟨rfl, ha⟩
   obtain ⟨w2, hw2⟩ : ∃ w2, w2 = wa.alloc (.cells #[.int .i64 k, .int .i64 r, .int .i64 c, .int .i64 q, .slice ro rn rc, .int .u8 ((kd.toNat : Nat) : Int)] 99) := ⟨_, rfl⟩
   have HB2 : Hid (Below w.heap.size w w2) := by show Below _ _ _; rw [hw2]; exact bth (bth B0.out ha) (bal _ _)
   clear ha
   go_wp2_with fail
   rw [<- hw2]
   clear hw2
   refine (HCE.out _ HB2.out).mono ?_
   rintro e wb ⟨ao, cap, T, U, rfl, hc, hb⟩
   go_wp2_with fail
   go_ret2
   exact ⟨none, 0, fun _ => none, fun _ => 0, rfl, (fun e => absurd e HNE.out), bth (bth HB2.out hb) (bal _ _)⟩
 ·rw [if_neg he] at hE HA
  subst hE
  have e1 : (E1 != 0) = true := by simp [he]
  generalize Cod.cnt (mis (zv N c L F kd v) c.toNat) N = cn at *
  rw [show lenE E1 cn = 0 from if_neg he]
  have HNE : Hid (¬ E1 = 0) := he
  clear h hr hE1 he
  unfold stz at HA
  go_enter Tryz.func24, Tryz.ntmps24
  go_wp2_with fail
  rw [<- hw0]
  clear hw0
  refine (HA.out _ B0.out).mono ?_
  rintro e wa ⟨rfl, ha⟩
  go_wp2_with fail
  go_ret2
  exact ⟨none, 0, fun _ => none, fun _ => 0, rfl, (fun e => absurd e HNE.out), bth (bth B0.out ha) (bal _ _)⟩
end Go.Proofs.YtemlojjkokooeaaGreat
