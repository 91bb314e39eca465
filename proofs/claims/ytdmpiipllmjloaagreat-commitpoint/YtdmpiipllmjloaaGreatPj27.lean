import Derived.Test.YtdmpiipllmjloaaGreatPj26
namespace Go.Proofs.YtdmpiipllmjloaaGreat
open Go.RowKit
def ptl (Lc os : Nat -> Nat) (nu : Int) (n : Nat) (T : Nat -> Option Addr) (U : Nat -> Nat) : Nat -> List Value
  | 0 => []
  | d + 1 => if Lc d = 0 then ptl Lc os nu n T U d else ptl Lc os nu n T U d ++ [.int .i64 (d : Int), .int .i64 nu, .int .i64 ((os d : Nat) : Int), .slice (T d) n (U d)]
theorem ptl_congr {Lc os : Nat -> Nat} {nu : Int} {n : Nat} {T T' : Nat -> Option Addr} {U U' : Nat -> Nat} : ∀ {d : Nat}, (∀ i, i < d -> T i = T' i /\ U i = U' i) -> ptl Lc os nu n T U d = ptl Lc os nu n T' U' d
  | 0, _ => rfl
  | d + 1, h => by
    rw [ptl, ptl, ptl_congr (d := d) (fun i hi => h i (by omega)), (h d (by omega)).1, (h d (by omega)).2]
structure Box (wz v : World) (gc gi gn gv : Nat) (k r c q : Int) (ro : Option Addr) (N rc : Nat) (kd : UInt8) (nu : Int) (vo : Option Addr) (vc : Nat) (lo : Option Addr) (cc : Nat) : Prop where
  cells : At wz v gc #[.slice lo N cc] 75
  stand : At wz v gi #[.int .i64 k, .int .i64 r, .int .i64 c, .int .i64 q, .slice ro N rc, .int .u8 ((kd.toNat : Nat) : Int)] 90
  num : At wz v gn #[.int .i64 nu] 3
  vec : At wz v gv #[.slice vo N vc] 38
theorem Box.below {wz v v' : World} {gc gi gn gv : Nat} {k r c q : Int} {ro : Option Addr} {N rc : Nat} {kd : UInt8} {nu : Int} {vo : Option Addr} {vc : Nat} {lo : Option Addr} {cc : Nat} (h : Box wz v gc gi gn gv k r c q ro N rc kd nu vo vc lo cc) (hb : Below v.heap.size v v') : Box wz v' gc gi gn gv k r c q ro N rc kd nu vo vc lo cc :=
  ⟨h.cells.below hb, h.stand.below hb, h.num.below hb, h.vec.below hb⟩
theorem Box.only {wz v v' : World} {gc gi gn gv gp m : Nat} {xs : List Value} {Y : Nat -> Prop} {k r c q : Int} {ro : Option Addr} {N rc : Nat} {kd : UInt8} {nu : Int} {vo : Option Addr} {vc : Nat} {lo : Option Addr} {cc : Nat} (h : Box wz v gc gi gn gv k r c q ro N rc kd nu vo vc lo cc) (hc : Cap wz v gp 30 79 4 m xs Y) (ho : Only Y v v') : Box wz v' gc gi gn gv k r c q ro N rc kd nu vo vc lo cc :=
  ⟨h.cells.only ho (cap_apart hc h.cells.2 (by decide) (by decide)), h.stand.only ho (cap_apart hc h.stand.2 (by decide) (by decide)), h.num.only ho (cap_apart hc h.num.2 (by decide) (by decide)), h.vec.only ho (cap_apart hc h.vec.2 (by decide) (by decide))⟩
def Pts (wz : World) (gp : Nat) (bx : World -> Prop) (Lc os : Nat -> Nat) (nu : Int) (n : Nat) (G : Nat -> Nat -> UInt8) (d : Nat) (v : World) (Y : Nat -> Prop) : Prop :=
  ∃ T U, Cap wz v gp 30 79 4 (Cod.cnt Lc d) (ptl Lc os nu n T U d) Y /\ (∀ i, i < d -> Lc i ≠ 0 -> OwU wz.heap.size v (T i) n (U i) (G i)) /\ bx v
set_option maxHeartbeats 8000000 in
set_option maxRecDepth 100000 in
theorem puts1_any {k r c q : Int} {N W : Nat} (h : Par k r c q N W 0) (wz v : World) (hbz : Below wz.heap.size wz v) (ro : Option Addr) (rc : Nat) (A : Nat -> Option Addr) (L C : Nat -> Nat) (F : Nat -> Nat -> UInt8) (hr : Rw wz ro N A L C F) (hL : ∀ j, j < 2 * N -> L j = 0 \/ L j = sz N c) (kd : UInt8) (hk : kd = 1 \/ kd = 2)
    (gc gi gp gn gv d : Nat) (hd : d < N) (nu : Int) (vo : Option Addr) (vc : Nat) (X : Nat -> Int) (hv : Vec wz vo N vc X) (hX : ∀ j, j < N -> 1 <= X j /\ X j <= 1073741824) (lo : Option Addr) (cc : Nat) (Tc : Nat -> Option Addr) (Lc Uc : Nat -> Nat) (Dc : Nat -> Nat -> UInt8) (hl : RdC wz lo N Tc Lc Uc) (hbc : ∀ i, i < N -> Bec wz (Tc i) (Lc i) (Uc i) (Dc i)) (hLc : Lc d = 0 \/ Lc d = c.toNat)
    (z : Sl) (hz : 0 <= z.ce /\ z.ce <= 1073741824) (os : Nat -> Nat) (hos : os d = oN (yy N c L F (2 * d)) (yy N c L F (2 * d + 1)) kd z.ce) (Y : Nat -> Prop) (ao : Option Addr) (ca : Nat) (bo : Option Addr) (cb : Nat)
    (hI : Pts wz gp (fun v => Box wz v gc gi gn gv k r c q ro N rc kd nu vo vc lo cc) Lc os nu (sz N c) (fun i => enc (slC kd N X c.toNat (Dc i) i)) d v Y) :
    Calls Tryz.prog 73 #[.int .i64 (d : Int), .agg #[.slice (A (2 * d)) (L (2 * d)) (C (2 * d)), .slice (A (2 * d + 1)) (L (2 * d + 1)) (C (2 * d + 1))], slv z ao ca bo cb, .pointer (some ⟨gc, 0, none⟩), .pointer (some ⟨gi, 0, none⟩), .pointer (some ⟨gp, 0, none⟩), .pointer (some ⟨gn, 0, none⟩), .pointer (some ⟨gv, 0, none⟩)] v fun e v' => e = .returned (.tuple #[]) /\ ∃ Y', Pts wz gp (fun v => Box wz v gc gi gn gv k r c q ro N rc kd nu vo vc lo cc) Lc os nu (sz N c) (fun i => enc (slC kd N X c.toNat (Dc i) i)) (d + 1) v' Y' /\ Only Y v v' /\ ∀ g, Y' g -> Y g \/ v.heap.size <= g := by
  have hle := h.le
  obtain ⟨T, U, hcap, hT, hbx⟩ := hI
  obtain ⟨lb, lof, rfl, hlc⟩ := hl (by omega)
  have c0 := hlc d hd
  obtain ⟨v0, hv0⟩ : ∃ v0, v0 = v.alloc (.cells #[.slice (A (2 * d)) (L (2 * d)) (C (2 * d)), .slice (A (2 * d + 1)) (L (2 * d + 1)) (C (2 * d + 1))] 67) := ⟨_, rfl⟩
  obtain ⟨v1, hv1⟩ : ∃ v1, v1 = v0.alloc (.cells #[.int .u8 ((z.kd.toNat : Nat) : Int), .int .i64 z.ix, .int .i64 z.ce, .int .i64 z.st, .slice ao z.vn ca, .slice bo z.dn cb] 63) := ⟨_, rfl⟩
  have b0 : Below v.heap.size v v0 := by rw [hv0]; exact below_alloc _ _
  have b1 : Below v.heap.size v v1 := by rw [hv1]; exact below_then b0 (below_alloc _ _)
  have HB1 : Hid (Below v.heap.size v v1) := b1
  have HBZ : Hid (Below wz.heap.size wz v1) := hbz.trans (b1.mono hbz.size)
  have g0 := fun o o' => ((hbx.cells.alloc o).alloc o').cell (i := 0) rfl
  have e0 : ∀ o o', ((v.alloc o).alloc o').cell? ⟨lb, lof + d, none⟩ = some (.slice (Tc d) (Lc d) (Uc d)) := fun o o' => held c0 (hbz.trans ((below_then (below_alloc v o) (below_alloc _ o')).mono hbz.size))
  have i1 : (0 : Int) <= (d : Int) := by omega
  have i2 : (d : Int) < (N : Int) := by omega
  unfold slv
  by_cases hz0 : Lc d = 0
  · have hzi : ((Lc d : Int) == 0) = true := by simp [hz0]
    have HI2 : Hid (Pts wz gp (fun v => Box wz v gc gi gn gv k r c q ro N rc kd nu vo vc (some ⟨lb, lof, none⟩) cc) Lc os nu (sz N c) (fun i => enc (slC kd N X c.toNat (Dc i) i)) (d + 1) v1 Y) := by
      refine ⟨T, U, ?_, fun i hi hne => ?_, hbx.below b1⟩
      · rw [Cod.cnt_skip hz0, ptl, if_pos hz0]; exact hcap.below b1
      · by_cases e : i = d
        · rw [e] at hne; exact absurd hz0 hne
        · exact (hT i (by omega) hne).below b1
    clear h hr hL hv hX hl hbc hT hcap hbx hlc c0 hos b0
    go_enter Tryz.func73, Tryz.ntmps73
    go_wp2_with fail
    rw [<- hv0, <- hv1]
    refine bodyPost_ret (results_none rfl _ _ _) rfl ?_
    exact ⟨rfl, Y, HI2.out, .of_below b1, fun g hg => .inl hg⟩
  · have hzi : ((Lc d : Int) == 0) = false := by simp [hz0]
    have hLm : Lc d = c.toNat := hLc.resolve_left hz0
    have hO := fun u hu => Older_any h u _ _ _ _ _ _ _ _ ((hr.below hu).bec (2 * d) (by omega)) ((hr.below hu).bec (2 * d + 1) (by omega)) kd (d : Int) z.ce 0 (by unfold erO; rw [if_pos (he_err hk (hL _ (by omega)) (hL _ (by omega)) hd), if_pos hz]) (yy N c L F (2 * d)) (yy N c L F (2 * d + 1)) (by unfold yy; rw [show 2 * d / 2 = d by omega]) (by unfold yy; rw [show (2 * d + 1) / 2 = d by omega])
    rw [<- hos] at hO
    have HOL : Hid (∀ u, Below wz.heap.size wz u -> _) := fun u (hu : Below wz.heap.size wz u) => hO u hu
    have HBY : Hid (∀ u, Below wz.heap.size wz u -> Calls Tryz.prog 75 #[stv k r c q ro N rc kd, .int .i64 (d : Int), .slice vo N vc, .slice (Tc d) (Lc d) (Uc d)] u fun e w' => ∃ ao cap, e = .returned (.slice ao (sz N c) cap) /\ OwU u.heap.size w' ao (sz N c) cap (enc (slC kd N X c.toNat (Dc d) d)) /\ Below u.heap.size u w') := fun u hu => by
      have hb2 := (hbc d hd).below hu
      rw [hLm] at hb2 ⊢
      exact bytes_any h u ro N rc kd hk d hd vo vc X (hv.below hu) hX (Tc d) (Uc d) (Dc d) hb2
    have hcnt := Cod.cnt_le Lc d
    obtain ⟨m, hm⟩ : ∃ m, m = Cod.cnt Lc d := ⟨_, rfl⟩
    obtain ⟨xs, hxs⟩ : ∃ xs, xs = ptl Lc os nu (sz N c) T U d := ⟨_, rfl⟩
    rw [<- hm] at hcnt
    have HCP : Hid (Cap wz v1 gp 30 79 4 m xs Y) := by show Cap _ _ _ _ _ _ _ _ _; rw [hm, hxs]; exact hcap.below b1
    have HMX : Hid (m = Cod.cnt Lc d /\ xs = ptl Lc os nu (sz N c) T U d) := ⟨hm, hxs⟩
    have HT : Hid (∀ i, i < d -> Lc i ≠ 0 -> OwU wz.heap.size v1 (T i) (sz N c) (U i) (enc (slC kd N X c.toNat (Dc i) i))) := fun i hi hne => (hT i hi hne).below b1
    have HBX : Hid (Box wz v1 gc gi gn gv k r c q ro N rc kd nu vo vc (some ⟨lb, lof, none⟩) cc) := hbx.below b1
    have HC0 : Hid (∀ u, Below wz.heap.size wz u -> u.cell? ⟨lb, lof + d, none⟩ = some (.slice (Tc d) (Lc d) (Uc d))) := fun u hu => held c0 hu
    have HLB : Hid (lb < wz.heap.size) := World.block_lt_of_cell? wz _ c0
    have k0 := fun o o' => ((hbx.stand.alloc o).alloc o').cell (i := 0) rfl
    have k1 := fun o o' => ((hbx.stand.alloc o).alloc o').cell (i := 1) rfl
    have k2 := fun o o' => ((hbx.stand.alloc o).alloc o').cell (i := 2) rfl
    have k3 := fun o o' => ((hbx.stand.alloc o).alloc o').cell (i := 3) rfl
    have k5 := fun o o' => ((hbx.stand.alloc o).alloc o').cell (i := 5) rfl
    have HNZ : Hid (¬ Lc d = 0) := hz0
    clear h hr hL hv hX hl hbc hT hcap hbx hlc c0 b0 b1 hm hxs hO hLm hz0 hos
    unfold stv at HBY
    go_enter Tryz.func73, Tryz.ntmps73
    go_wp2_with fail
    rw [<- hv0, <- hv1]
    clear hv0 hv1
    refine (HOL.out _ HBZ.out).mono ?_
    rintro e wa ⟨rfl, ha⟩
    have HBA : Hid (Below v1.heap.size v1 wa) := ha
    have HZA : Hid (Below wz.heap.size wz wa) := HBZ.out.trans (ha.mono HBZ.out.size)
    have hcA := HCP.out.below ha
    have hcA2 := hcA
    obtain ⟨oo, oc, hAt, hown, hYY⟩ := hcA2
    have hbA := HBX.out.below ha
    clear ha g0 e0 k0 k1 k2 k3 k5
    go_wp2_with fail
    refine wp_region_noPanic (put_region wz wa k r c q ro N rc kd d (os d) gc gi gp gn gv lb lof N cc N vc (Lc d) (Uc d) (sz N c) m oc nu vo (Tc d) oo (enc (slC kd N X c.toNat (Dc d) d)) xs Y _ _ _ _ _ _ _ _ _ _ _ _ _ _ _ _ _ _ _ _ _ _ _ _ _ _ _ _ _ _ _ _ _ _ _ _ _ _ _ (fun u hu => ?_) hAt hown hYY (by omega) (Nat.le_trans hAt.1 (Nat.le_of_lt hAt.lt)) i1 i2 (fun u hu => HBY.out u (HZA.out.trans (hu.mono HZA.out.size))) _ (fun _ _ _ h => h) (fun v' Y' bo2 cb2 g2 g5 cap5 hC hOn hYn hown2 => NoPanic.normal ?_))
    · have hb2 := hbA.only hcA hu
      refine ⟨hb2.stand.cell (i := 0) rfl, hb2.stand.cell (i := 1) rfl, hb2.stand.cell (i := 2) rfl, hb2.stand.cell (i := 3) rfl, hb2.stand.cell (i := 4) rfl, hb2.stand.cell (i := 5) rfl, hb2.num.cell (i := 0) rfl, hb2.vec.cell (i := 0) rfl, hb2.cells.cell (i := 0) rfl, ?_⟩
      refine hu.cell (HC0.out wa HZA.out) fun hy => ?_
      have := (hcA.at_ _ hy).1
      have := HLB.out
      simp only at *
      omega
    · have hb3 := hbA.only hcA hOn
      go_wp2_with fail
      refine bodyPost_end (results_none rfl _ _ _) rfl ?_
      refine ⟨rfl, Y', ⟨Cod.put d bo2 T, Cod.put d cb2 U, ?_, fun i hi hne => ?_, hb3⟩, (Only.of_below (below_then HB1.out HBA.out)).trans hOn, fun g hg => ?_⟩
      · rw [Cod.cnt_take HNZ.out, <- HMX.out.1, ptl, if_neg HNZ.out, Cod.put_at, Cod.put_at, ptl_congr (T' := T) (U' := U) (fun i hi => ⟨Cod.put_ne _ _ (by omega), Cod.put_ne _ _ (by omega)⟩), <- HMX.out.2]
        exact hC
      · by_cases e : i = d
        · subst e; rw [Cod.put_at, Cod.put_at]; exact hown2.mono (Nat.le_trans hAt.1 (Nat.le_of_lt hAt.lt))
        · rw [Cod.put_ne _ _ e, Cod.put_ne _ _ e]
          exact owu_stay ((HT.out i (by omega) hne).below HBA.out) hcA (by decide) (by decide) hOn
      · rcases hYn g hg with a | a
        · exact .inl ((hYY g).1 a)
        · exact .inr (Nat.le_trans (below_then HB1.out HBA.out).size a)
end Go.Proofs.YtdmpiipllmjloaaGreat
namespace Go.Proofs.YtdmpiipllmjloaaGreat
open Go.RowKit
structure PL (B : Nat) (w : World) (ao : Option Addr) (m cap N : Nat) (Lc os : Nat -> Nat) (nu : Int) (n : Nat) (T : Nat -> Option Addr) (U : Nat -> Nat) (G : Nat -> Nat -> UInt8) : Prop where
  out : w.ownsRow B 79 4 (.slice ao m cap) m (ptl Lc os nu n T U N)
  row : ∀ i, i < N -> Lc i ≠ 0 -> OwU B w (T i) n (U i) (G i)
theorem PL.below {B : Nat} {w w' : World} {ao : Option Addr} {m cap N : Nat} {Lc os : Nat -> Nat} {nu : Int} {n : Nat} {T : Nat -> Option Addr} {U : Nat -> Nat} {G : Nat -> Nat -> UInt8} (h : PL B w ao m cap N Lc os nu n T U G) (hb : Below w.heap.size w w') : PL B w' ao m cap N Lc os nu n T U G :=
  ⟨owns_below h.out hb, fun i hi hn => (h.row i hi hn).below hb⟩
theorem owns_mono {B B' : Nat} {w : World} {e s n : Nat} {v : Value} {xs : List Value} (h : w.ownsRow B e s v n xs) (hb : B' <= B) : w.ownsRow B' e s v n xs := by
  refine ⟨h.1, ?_⟩
  rcases h.2 with h1 | ⟨g, cap', cur, h1, h2, h3⟩
  · exact .inl h1
  · exact .inr ⟨g, cap', cur, h1, by omega, h3⟩
theorem PL.mono {B B' : Nat} {w : World} {ao : Option Addr} {m cap N : Nat} {Lc os : Nat -> Nat} {nu : Int} {n : Nat} {T : Nat -> Option Addr} {U : Nat -> Nat} {G : Nat -> Nat -> UInt8} (h : PL B w ao m cap N Lc os nu n T U G) (hb : B' <= B) : PL B' w ao m cap N Lc os nu n T U G :=
  ⟨owns_mono h.out hb, fun i hi hn => (h.row i hi hn).mono hb⟩
theorem zv_rng {N : Nat} {c : Int} {L : Nat -> Nat} {F : Nat -> Nat -> UInt8} {kd : UInt8} {v : Int} {i : Nat} (hi : i < N) : 0 <= (zv N c L F kd v i).ce /\ (zv N c L F kd v i).ce <= 1073741824 := by
  unfold zv
  rcases zz_is (kd := kd) (yy_ok N c L F) (tS (yy N c L F) kd v (2 * N)) hi with h | ⟨h, _⟩
  · rw [h]; exact ⟨Int.le_refl 0, by decide⟩
  · have := (ok_of h.1).V i hi
    rw [h.ce]; omega
def osl (N : Nat) (c : Int) (L : Nat -> Nat) (F : Nat -> Nat -> UInt8) (kd : UInt8) (ke : Int) (i : Nat) : Nat := oN (yy N c L F (2 * i)) (yy N c L F (2 * i + 1)) kd (zv N c L F kd ke i).ce
set_option maxHeartbeats 8000000 in
set_option maxRecDepth 100000 in
theorem puts_any {k r c q : Int} {N W : Nat} (h : Par k r c q N W 0) (w : World) (ro : Option Addr) (rc : Nat) (A : Nat -> Option Addr) (L C : Nat -> Nat) (F : Nat -> Nat -> UInt8) (hr : Rw w ro N A L C F) (hL : ∀ j, j < 2 * N -> L j = 0 \/ L j = sz N c) (kd : UInt8) (hk : kd = 1 \/ kd = 2) (nu ke : Int)
    (vo : Option Addr) (vc : Nat) (X : Nat -> Int) (hv : Vec w vo N vc X) (hX : ∀ j, j < N -> 1 <= X j /\ X j <= 1073741824) (lo : Option Addr) (cc : Nat) (Tc : Nat -> Option Addr) (Lc Uc : Nat -> Nat) (Dc : Nat -> Nat -> UInt8) (hl : RdC w lo N Tc Lc Uc) (hbc : ∀ i, i < N -> Bec w (Tc i) (Lc i) (Uc i) (Dc i)) (hLc : ∀ i, i < N -> Lc i = 0 \/ Lc i = c.toNat) :
    Calls Tryz.prog 40 #[stv k r c q ro N rc kd, .int .i64 nu, .int .i64 ke, .slice vo N vc, .slice lo N cc] w fun e w' => ∃ ao cap T U, e = .returned (.slice ao (Cod.cnt Lc N) cap) /\ PL w.heap.size w' ao (Cod.cnt Lc N) cap N Lc (osl N c L F kd ke) nu (sz N c) T U (fun i => enc (slC kd N X c.toNat (Dc i) i)) /\ Below w.heap.size w w' := by
  have HEA : Hid (∀ wf gc gi gp gn gv Y, Below w.heap.size w wf -> Cap w wf gp 30 79 4 0 [] Y -> Box w wf gc gi gn gv k r c q ro N rc kd nu vo vc lo cc -> Calls Tryz.prog 63 #[stv k r c q ro N rc kd, .int .i64 ke, .func (.func 73) #[] #[.pointer (some ⟨gc, 0, none⟩), .pointer (some ⟨gi, 0, none⟩), .pointer (some ⟨gp, 0, none⟩), .pointer (some ⟨gn, 0, none⟩), .pointer (some ⟨gv, 0, none⟩)]] wf fun e w' => e = .returned (.tuple #[]) /\ ∃ Y', Pts w gp (fun v => Box w v gc gi gn gv k r c q ro N rc kd nu vo vc lo cc) Lc (osl N c L F kd ke) nu (sz N c) (fun i => enc (slC kd N X c.toNat (Dc i) i)) N w' Y' /\ Only Y wf w' /\ ∀ g, Y' g -> Y g \/ wf.heap.size <= g) := fun wf gc gi gp gn gv Y hb hc hx => by
    refine each_any h w wf hb ro rc A L C F hr hL kd hk ke _ rfl 73 _ (Pts w gp (fun v => Box w v gc gi gn gv k r c q ro N rc kd nu vo vc lo cc) Lc (osl N c L F kd ke) nu (sz N c) (fun i => enc (slC kd N X c.toNat (Dc i) i))) ⟨fun _ _ => rfl, fun d a b Y hI hb => ?_, fun d a Y hI g hg => ?_, fun d hd u Y B hI hbu hB ao ca bo cb hg => ?_⟩ _ ⟨fun _ => none, fun _ => 0, hc, fun i hi => absurd hi (by omega), hx⟩
    · obtain ⟨T, U, h1, h2, h3⟩ := hI
      exact ⟨T, U, h1.below hb, fun i hi hn => (h2 i hi hn).below hb, h3.below hb⟩
    · obtain ⟨T, U, h1, _⟩ := hI
      exact h1.at_ g hg
    · exact puts1_any h w u hbu ro rc A L C F hr hL kd hk gc gi gp gn gv d hd nu vo vc X hv hX lo cc Tc Lc Uc Dc hl hbc (hLc d hd) (zv N c L F kd ke d) (zv_rng hd) (osl N c L F kd ke) rfl Y ao ca bo cb hI
  obtain ⟨w0, hw0⟩ : ∃ w0, w0 = w.alloc (.cells #[.int .i64 k, .int .i64 r, .int .i64 c, .int .i64 q, .slice ro N rc, .int .u8 ((kd.toNat : Nat) : Int)] 90) := ⟨_, rfl⟩
  obtain ⟨w1, hw1⟩ : ∃ w1, w1 = w0.alloc (.cells #[.int .i64 nu] 3) := ⟨_, rfl⟩
  obtain ⟨w2, hw2⟩ : ∃ w2, w2 = w1.alloc (.cells #[.slice vo N vc] 38) := ⟨_, rfl⟩
  obtain ⟨w3, hw3⟩ : ∃ w3, w3 = w2.alloc (.cells #[.slice lo N cc] 75) := ⟨_, rfl⟩
  obtain ⟨w4, hw4⟩ : ∃ w4, w4 = w3.alloc (.cells #[.slice none 0 0] 30) := ⟨_, rfl⟩
  have b0 : Below w.heap.size w w0 := by rw [hw0]; exact below_alloc _ _
  have b1 : Below w0.heap.size w0 w1 := by rw [hw1]; exact below_alloc _ _
  have b2 : Below w1.heap.size w1 w2 := by rw [hw2]; exact below_alloc _ _
  have b3 : Below w2.heap.size w2 w3 := by rw [hw3]; exact below_alloc _ _
  have b4 : Below w3.heap.size w3 w4 := by rw [hw4]; exact below_alloc _ _
  have z0 : w0.heap.size = w.heap.size + 1 := by rw [hw0]; simp
  have z1 : w1.heap.size = w.heap.size + 1 + 1 := by rw [hw1]; simp [z0]
  have z2 : w2.heap.size = w.heap.size + 1 + 1 + 1 := by rw [hw2]; simp [z1]
  have z3 : w3.heap.size = w.heap.size + 1 + 1 + 1 + 1 := by rw [hw3]; simp [z2]
  have c1 := below_then b0 b1
  have c2 := below_then c1 b2
  have c3 := below_then c2 b3
  have c4 := below_then c3 b4
  have hbox : Box w w4 (w.heap.size + 1 + 1 + 1) w.heap.size (w.heap.size + 1) (w.heap.size + 1 + 1) k r c q ro N rc kd nu vo vc lo cc :=
    ⟨by rw [<- z2]; exact (at_made c2 hw3).below b4, (at_made (Below.refl _ _) hw0).below (below_then (below_then (below_then b1 b2) b3) b4), by rw [<- z0]; exact (at_made b0 hw1).below (below_then (below_then b2 b3) b4), by rw [<- z1]; exact (at_made c1 hw2).below (below_then b3 b4)⟩
  have hE2 := HEA.out w4 (w.heap.size + 1 + 1 + 1) w.heap.size (w.heap.size + 1 + 1 + 1 + 1) (w.heap.size + 1) (w.heap.size + 1 + 1) (fun x => x = w.heap.size + 1 + 1 + 1 + 1) c4 (cap_new c3 hw4 z3) hbox
  have HB4 : Hid (Below w.heap.size w w4) := c4
  clear h hr hL hv hX hl hbc hLc HEA hbox c1 c2 c3 c4 b0 b1 b2 b3 b4 z0 z1 z2 z3
  unfold stv at hE2 ⊢
  go_enter Tryz.func40, Tryz.ntmps40
  go_wp2_with fail
  rw [<- hw0, <- hw1, <- hw2, <- hw3, <- hw4]
  clear hw0 hw1 hw2 hw3 hw4
  refine hE2.mono ?_
  rintro e wf ⟨rfl, Y, ⟨T, U, ⟨ao, cap, hAt, hown, _⟩, hT, _⟩, hO, _⟩
  have s0 := hAt.cell (i := 0) rfl
  go_wp2_with fail
  go_ret
  exact ⟨ao, cap, T, U, rfl, ⟨hown, hT⟩, HB4.out.trans (hO.below (fun i hi => by omega) HB4.out.size)⟩
theorem wrapI {x : Int} (h : -9223372036854775808 <= x /\ x <= 9223372036854775807) : IntKind.i64.wrap x = x := by rw [IntKind.wrap_i64]; omega
theorem val_mul {i m p : Nat} (h : p = i * m) (hp : p <= 100000) : Value.int .i64 (wrap64 ((i : Int) * (m : Int))) = .int .i64 (p : Int) /\ Value.int .i64 (IntKind.i64.wrap ((i : Int) * (m : Int))) = .int .i64 (p : Int) := by
  rw [<- Int.natCast_mul, <- h, w64 _ ⟨by omega, by omega⟩, wrapI ⟨by omega, by omega⟩]
  exact ⟨rfl, rfl⟩
theorem val_mul2 {i m p : Nat} (h : p + m = (i + 1) * m) (hp : p + m <= 100000) : Value.int .i64 (wrap64 (((i : Int) + 1) * (m : Int))) = .int .i64 ((p + m : Nat) : Int) /\ Value.int .i64 (IntKind.i64.wrap (((i : Int) + 1) * (m : Int))) = .int .i64 ((p + m : Nat) : Int) := by
  have e : (i : Int) + 1 = ((i + 1 : Nat) : Int) := by omega
  rw [e, <- Int.natCast_mul, <- h, w64 _ ⟨by omega, by omega⟩, wrapI ⟨by omega, by omega⟩]
  exact ⟨rfl, rfl⟩
set_option maxHeartbeats 4000000 in
set_option maxRecDepth 100000 in
theorem cut2_any {K m : Nat} (r q : Int) (w : World) (b off dn dc : Nat) (hK : K <= 12) (hm0 : 0 < m) (hm : m <= 64) (hdn : dn = K * m) (hdc : dn <= dc) :
    Calls Tryz.prog 37 #[.agg #[.int .i64 (K : Int), .int .i64 r, .int .i64 (m : Int), .int .i64 q], .slice (some ⟨b, off, none⟩) dn dc] w fun e w' => ∃ ao cap, e = .returned (.slice ao K cap) /\ w'.ownsRow w.heap.size 55 1 (.slice ao K cap) K (Cod.rowsOf K (fun i => some ⟨b, off + i * m, none⟩) (fun _ => m) (fun _ => m)) /\ Below w.heap.size w w' := by
  obtain ⟨j0, hj, hj0, hj1, hj2⟩ := info_parts Cod.info23c
  obtain ⟨w0, hw0⟩ : ∃ w0, w0 = w.alloc (.cells #[.int .i64 (K : Int), .int .i64 r, .int .i64 (m : Int), .int .i64 q] 23) := ⟨_, rfl⟩
  have B0 : Hid (Below w.heap.size w w0) := by show Below _ _ _; rw [hw0]; exact below_alloc _ _
  have L0 : Hid (∀ v, Below w0.heap.size w0 v -> At w v w.heap.size #[.int .i64 (K : Int), .int .i64 r, .int .i64 (m : Int), .int .i64 q] 23) := fun v hv => (at_made (Below.refl _ _) hw0).below hv
  have HZ0 : Hid (w0.heap.size = w.heap.size + 1) := by show _ = _; rw [hw0]; simp
  have HDN : Hid (dn = K * m) := hdn
  have HMU : Hid (∀ i, i <= K -> i * m <= 1024) := fun i hi => mul_le16 hi (by omega) hm
  clear hdn
  go_enter Tryz.func37, Tryz.ntmps37
  go_wp2_with fail
  rw [<- hw0]
  have p0 := (L0.out w0 (Below.refl _ _)).cell (i := 0) rfl
  clear hw0
  go_wp2_with fail
  go_loopw [5, 11] (fun s x wr => ∃ i : Nat, i <= K /\ x = .int .i64 (i : Int) /\ ∃ ao c, s = .slice ao i c /\ Hid (wr.ownsRow w0.heap.size 55 1 (.slice ao i c) i (Cod.rowsOf i (fun i => some ⟨b, off + i * m, none⟩) (fun _ => m) (fun _ => m))) /\ Hid (Below w0.heap.size w0 wr)) (fun _ x _ => K - (intOf x).toNat)
  case atStart => exact ⟨0, Nat.zero_le _, rfl, none, 0, rfl, World.ownsRow_nil _ _ _ _, Below.refl _ _⟩
  case round =>
    obtain ⟨i, hi, rfl, ao, cp, rfl, hown, hbel⟩ := hrel
    by_cases hlt : i < K
    · have q2 := (L0.out wr hbel.out).cell (i := 2) rfl
      obtain ⟨p, hp⟩ : ∃ p, p = i * m := ⟨_, rfl⟩
      have hp1 : p + m = (i + 1) * m := by rw [hp, Nat.succ_mul]
      have hp2 : p + m <= dn := by rw [HDN.out, hp1]; exact Nat.mul_le_mul_right m hlt
      have hp3 : p + m <= 1024 := by rw [hp1]; exact HMU.out _ hlt
      obtain ⟨v1, v3⟩ := val_mul hp (by omega)
      obtain ⟨v2, v4⟩ := val_mul2 hp1 (by omega)
      have HP : Hid (p = i * m) := hp
      clear hp hp1
      go_wp2_with fail
      go_quiet (fail)
      obtain ⟨wd, hwd⟩ : ∃ wd, wd = wr.drewN nq := ⟨_, rfl⟩
      have bd : Below wr.heap.size wr wd := by rw [hwd]; exact below_drewN _ _ _
      rw [<- hwd]
      have HOW : Hid (wd.ownsRow w0.heap.size 55 1 (.slice ao i cp) i (Cod.rowsOf i (fun i => some ⟨b, off + i * m, none⟩) (fun _ => m) (fun _ => m))) := owns_below hown.out bd
      have HBD : Hid (Below w0.heap.size w0 wd) := below_then hbel.out bd
      obtain ⟨xs, hxs⟩ : ∃ xs, xs = Cod.rowsOf i (fun i => some (⟨b, off + i * m, none⟩ : Addr)) (fun _ => m) (fun _ => m) := ⟨_, rfl⟩
      rw [<- hxs] at HOW
      have HX : Hid (xs ++ [.slice (some ⟨b, off + p, none⟩) m m] = Cod.rowsOf (i + 1) (fun i => some ⟨b, off + i * m, none⟩) (fun _ => m) (fun _ => m)) := by
        show _ = _
        unfold Cod.rowsOf at hxs ⊢
        rw [List.range_succ, List.map_append, List.map_cons, List.map_nil, hxs, HP.out]
      have i1 : (0 : Int) <= (p : Int) := by omega
      have i2 : (p : Int) <= (p : Int) + (m : Int) := by omega
      have i3 : (p : Int) + (m : Int) <= (dc : Int) := by omega
      have i4 : ¬ (p : Int) + (m : Int) < 0 := by omega
      clear hwd bd hxs hown v1 v2 v3 v4 q2
      go_wp2_with (at_builtin; refine wpList_append_lies _ (by rfl) (.tmp 23) (.tmp 29) 75 (by rfl) w0.heap.size 55 j0 (.slice none 0 0) 1 24 Tryz.underlying75 hj hj0 hj1 hj2 (by rfl) (by decide) (.slice ao i cp) i xs (by rfl) (owns_below HOW.out (below_alloc _ _)) ⟨wd.heap.size, 0, none⟩ 1 1 [.slice (some ⟨b, off + p, none⟩) m m] (by simp [Act.eval]) (by rfl) (World.news_of_block (heap_alloc_new wd _)) (by simp [Value.oneCell']) (by decide) (by unfold maxLen; omega) (by omega) (by have := HBD.out.size; simp; omega) (wd.heap.size + 1) (by simp) ?_; intro g5 cap5 w5 hown5 hgrow5 _ _
                   have HO5 : Hid (w5.ownsRow w0.heap.size 55 1 (.slice (some ⟨g5, 0, none⟩) (i + 1) cap5) (i + 1) (Cod.rowsOf (i + 1) (fun i => some ⟨b, off + i * m, none⟩) (fun _ => m) (fun _ => m))) := by rw [<- HX.out]; exact hown5
                   have HB5 : Hid (Below w0.heap.size w0 w5) := (below_then HBD.out (below_alloc _ _)).grown hgrow5 (by have := HBD.out.size; simp; omega) (fun r hr => (HOW.out.lt r hr).1)
                   clear hown5 hgrow5)
      go_roundw
      case rel => exact ⟨i + 1, by omega, by go_num, _, cap5, rfl, HO5.out, HB5.out⟩
      case measure => simp [intOf]; omega
    · obtain rfl : i = K := by omega
      go_wp2_with fail
      go_ret
      exact ⟨ao, cp, rfl, owns_mono hown.out B0.out.size, below_then B0.out hbel.out⟩
end Go.Proofs.YtdmpiipllmjloaaGreat
