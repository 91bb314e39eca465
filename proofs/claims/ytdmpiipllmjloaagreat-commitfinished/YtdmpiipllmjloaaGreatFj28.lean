/- StN: what is needed of them. -/
import Derived.Test.YtdmpiipllmjloaaGreatFj27
namespace Go.Proofs.YtdmpiipllmjloaaGreat
open Go.RowKit
/-- Raw writes, drive by drive; a drive whose cell has no bytes has none. -/
def ptl (Lc os : Nat → Nat) (nu : Int) (n : Nat) (T : Nat → Option Addr) (U : Nat → Nat) : Nat → List Value
  | 0 => []
  | d + 1 => if Lc d = 0 then ptl Lc os nu n T U d else ptl Lc os nu n T U d ++ [.int .i64 (d : Int), .int .i64 nu, .int .i64 ((os d : Nat) : Int), .slice (T d) n (U d)]
theorem ptl_congr {Lc os : Nat → Nat} {nu : Int} {n : Nat} {T T' : Nat → Option Addr} {U U' : Nat → Nat} : ∀ {d : Nat}, (∀ i, i < d → T i = T' i ∧ U i = U' i) → ptl Lc os nu n T U d = ptl Lc os nu n T' U' d
  | 0, _ => rfl
  | d + 1, h => by
    rw [ptl, ptl, ptl_congr (d := d) (fun i hi => h i (by omega)), (h d (by omega)).1, (h d (by omega)).2]
/-- The variables that the closure has captured, but the list. -/
structure Box (wz v : World) (gc gi gn gv : Nat) (k r c q : Int) (ro : Option Addr) (N rc : Nat) (kd : UInt8) (nu : Int) (vo : Option Addr) (vc : Nat) (lo : Option Addr) (cc : Nat) : Prop where
  cells : At wz v gc #[.slice lo N cc] 75
  stand : At wz v gi #[.int .i64 k, .int .i64 r, .int .i64 c, .int .i64 q, .slice ro N rc, .int .u8 ((kd.toNat : Nat) : Int)] 90
  num : At wz v gn #[.int .i64 nu] 3
  vec : At wz v gv #[.slice vo N vc] 38
theorem Box.below {wz v v' : World} {gc gi gn gv : Nat} {k r c q : Int} {ro : Option Addr} {N rc : Nat} {kd : UInt8} {nu : Int} {vo : Option Addr} {vc : Nat} {lo : Option Addr} {cc : Nat} (h : Box wz v gc gi gn gv k r c q ro N rc kd nu vo vc lo cc) (hb : Below v.heap.size v v') : Box wz v' gc gi gn gv k r c q ro N rc kd nu vo vc lo cc :=
  ⟨h.cells.below hb, h.stand.below hb, h.num.below hb, h.vec.below hb⟩
theorem Box.only {wz v v' : World} {gc gi gn gv gp m : Nat} {xs : List Value} {Y : Nat → Prop} {k r c q : Int} {ro : Option Addr} {N rc : Nat} {kd : UInt8} {nu : Int} {vo : Option Addr} {vc : Nat} {lo : Option Addr} {cc : Nat} (h : Box wz v gc gi gn gv k r c q ro N rc kd nu vo vc lo cc) (hc : Cap wz v gp 30 79 4 m xs Y) (ho : Only Y v v') : Box wz v' gc gi gn gv k r c q ro N rc kd nu vo vc lo cc :=
  ⟨h.cells.only ho (cap_apart hc h.cells.2 (by decide) (by decide)), h.stand.only ho (cap_apart hc h.stand.2 (by decide) (by decide)), h.num.only ho (cap_apart hc h.num.2 (by decide) (by decide)), h.vec.only ho (cap_apart hc h.vec.2 (by decide) (by decide))⟩
/-- What stands behind d drives. -/
def Pts (wz : World) (gp : Nat) (bx : World → Prop) (Lc os : Nat → Nat) (nu : Int) (n : Nat) (G : Nat → Nat → UInt8) (d : Nat) (v : World) (Y : Nat → Prop) : Prop :=
  ∃ T U, Cap wz v gp 30 79 4 (Cod.cnt Lc d) (ptl Lc os nu n T U d) Y ∧ (∀ i, i < d → Lc i ≠ 0 → OwU wz.heap.size v (T i) n (U i) (G i)) ∧ bx v
set_option maxHeartbeats 8000000 in
set_option maxRecDepth 100000 in
theorem puts1_any {k r c q : Int} {N W : Nat} (h : Par k r c q N W 0) (wz v : World) (hbz : Below wz.heap.size wz v) (ro : Option Addr) (rc : Nat) (A : Nat → Option Addr) (L C : Nat → Nat) (F : Nat → Nat → UInt8) (hr : Rw wz ro N A L C F) (hL : ∀ j, j < 2 * N → L j = 0 ∨ L j = sz N c) (kd : UInt8) (hk : kd = 1 ∨ kd = 2)
    (gc gi gp gn gv d : Nat) (hd : d < N) (nu : Int) (vo : Option Addr) (vc : Nat) (X : Nat → Int) (hv : Vec wz vo N vc X) (hX : ∀ j, j < N → 1 ≤ X j ∧ X j ≤ 1073741824) (lo : Option Addr) (cc : Nat) (Tc : Nat → Option Addr) (Lc Uc : Nat → Nat) (Dc : Nat → Nat → UInt8) (hl : RdC wz lo N Tc Lc Uc) (hbc : ∀ i, i < N → Bec wz (Tc i) (Lc i) (Uc i) (Dc i)) (hLc : Lc d = 0 ∨ Lc d = c.toNat)
    (z : Sl) (hz : 0 ≤ z.ce ∧ z.ce ≤ 1073741824) (os : Nat → Nat) (hos : os d = oN (yy N c L F (2 * d)) (yy N c L F (2 * d + 1)) kd z.ce) (Y : Nat → Prop) (ao : Option Addr) (ca : Nat) (bo : Option Addr) (cb : Nat)
    (hI : Pts wz gp (fun v => Box wz v gc gi gn gv k r c q ro N rc kd nu vo vc lo cc) Lc os nu (sz N c) (fun i => enc (slC kd N X c.toNat (Dc i) i)) d v Y) :
    Calls Tryz.prog 73 #[.int .i64 (d : Int), .agg #[.slice (A (2 * d)) (L (2 * d)) (C (2 * d)), .slice (A (2 * d + 1)) (L (2 * d + 1)) (C (2 * d + 1))], slv z ao ca bo cb, .pointer (some ⟨gc, 0, none⟩), .pointer (some ⟨gi, 0, none⟩), .pointer (some ⟨gp, 0, none⟩), .pointer (some ⟨gn, 0, none⟩), .pointer (some ⟨gv, 0, none⟩)] v fun e v' => e = .returned (.tuple #[]) ∧ ∃ Y', Pts wz gp (fun v => Box wz v gc gi gn gv k r c q ro N rc kd nu vo vc lo cc) Lc os nu (sz N c) (fun i => enc (slC kd N X c.toNat (Dc i) i)) (d + 1) v' Y' ∧ Only Y v v' ∧ ∀ g, Y' g → Y g ∨ v.heap.size ≤ g := by
  have hle := h.le
  obtain ⟨T, U, hcap, hT, hbx⟩ := hI
  obtain ⟨lb, lof, rfl, hlc⟩ := hl (by omega)
  have c0 := hlc d hd
  obtain ⟨v0, hv0⟩ : ∃ v0, v0 = v.alloc (.cells #[.slice (A (2 * d)) (L (2 * d)) (C (2 * d)), .slice (A (2 * d + 1)) (L (2 * d + 1)) (C (2 * d + 1))] 67) := ⟨_, rfl⟩
  obtain ⟨v1, hv1⟩ : ∃ v1, v1 = v0.alloc (.cells #[.int .u8 ((z.kd.toNat : Nat) : Int), .int .i64 z.ix, .int .i64 z.ce, .int .i64 z.st, .slice ao z.vn ca, .slice bo z.dn cb] 63) := ⟨_, rfl⟩
  have b0 : Below v.heap.size v v0 := by rw [hv0]; exact below_alloc _ _
  have b1 : Below v.heap.size v v1 := by rw [hv1]; exact below_then b0 (below_alloc _ _)
  have HB1 : Hid (Below v.heap.size v v1) := b1
  have HBZ : Hid (Below wz.heap.size wz v1) := hbz.trans (b1.mono hbz.size)
  have g0 := fun o o' => ((hbx.cells.alloc o).alloc o').cell (i := 0) rfl
  have e0 : ∀ o o', ((v.alloc o).alloc o').cell? ⟨lb, lof + d, none⟩ = some (.slice (Tc d) (Lc d) (Uc d)) := fun o o' => held c0 (hbz.trans ((below_then (below_alloc v o) (below_alloc _ o')).mono hbz.size))
  have i1 : (0 : Int) ≤ (d : Int) := by omega
  have i2 : (d : Int) < (N : Int) := by omega
  unfold slv
  by_cases hz0 : Lc d = 0
  · have hzi : ((Lc d : Int) == 0) = true := by simp [hz0]
    have HI2 : Hid (Pts wz gp (fun v => Box wz v gc gi gn gv k r c q ro N rc kd nu vo vc (some ⟨lb, lof, none⟩) cc) Lc os nu (sz N c) (fun i => enc (slC kd N X c.toNat (Dc i) i)) (d + 1) v1 Y) := by
      refine ⟨T, U, ?_, fun i hi hne => ?_, hbx.below b1⟩
      · rw [Cod.cnt_skip hz0, ptl, if_pos hz0]; exact hcap.below b1
      · by_cases e : i = d
        · rw [e] at hne; exact absurd hz0 hne
        · exact (hT i (by omega) hne).below b1
    clear h hr hL hv hX hl hbc hT hcap hbx hlc c0 hos b0
    go_enter Tryz.func73, Tryz.ntmps73
    go_wp2_with fail
    rw [← hv0, ← hv1]
    refine bodyPost_ret (results_none rfl _ _ _) rfl ?_
    exact ⟨rfl, Y, HI2.out, .of_below b1, fun g hg => .inl hg⟩
  · have hzi : ((Lc d : Int) == 0) = false := by simp [hz0]
    have hLm : Lc d = c.toNat := hLc.resolve_left hz0
    have hO := fun u hu => Older_any h u _ _ _ _ _ _ _ _ ((hr.below hu).bec (2 * d) (by omega)) ((hr.below hu).bec (2 * d + 1) (by omega)) kd (d : Int) z.ce 0 (by unfold erO; rw [if_pos (he_err hk (hL _ (by omega)) (hL _ (by omega)) hd), if_pos hz]) (yy N c L F (2 * d)) (yy N c L F (2 * d + 1)) (by unfold yy; rw [show 2 * d / 2 = d by omega]) (by unfold yy; rw [show (2 * d + 1) / 2 = d by omega])
    rw [← hos] at hO
    have HOL : Hid (∀ u, Below wz.heap.size wz u → _) := fun u (hu : Below wz.heap.size wz u) => hO u hu
    have HBY : Hid (∀ u, Below wz.heap.size wz u → Calls Tryz.prog 75 #[stv k r c q ro N rc kd, .int .i64 (d : Int), .slice vo N vc, .slice (Tc d) (Lc d) (Uc d)] u fun e w' => ∃ ao cap, e = .returned (.slice ao (sz N c) cap) ∧ OwU u.heap.size w' ao (sz N c) cap (enc (slC kd N X c.toNat (Dc d) d)) ∧ Below u.heap.size u w') := fun u hu => by
      have hb2 := (hbc d hd).below hu
      rw [hLm] at hb2 ⊢
      exact bytes_any h u ro N rc kd hk d hd vo vc X (hv.below hu) hX (Tc d) (Uc d) (Dc d) hb2
    have hcnt := Cod.cnt_le Lc d
    obtain ⟨m, hm⟩ : ∃ m, m = Cod.cnt Lc d := ⟨_, rfl⟩
    obtain ⟨xs, hxs⟩ : ∃ xs, xs = ptl Lc os nu (sz N c) T U d := ⟨_, rfl⟩
    rw [← hm] at hcnt
    have HCP : Hid (Cap wz v1 gp 30 79 4 m xs Y) := by show Cap _ _ _ _ _ _ _ _ _; rw [hm, hxs]; exact hcap.below b1
    have HMX : Hid (m = Cod.cnt Lc d ∧ xs = ptl Lc os nu (sz N c) T U d) := ⟨hm, hxs⟩
    have HT : Hid (∀ i, i < d → Lc i ≠ 0 → OwU wz.heap.size v1 (T i) (sz N c) (U i) (enc (slC kd N X c.toNat (Dc i) i))) := fun i hi hne => (hT i hi hne).below b1
    have HBX : Hid (Box wz v1 gc gi gn gv k r c q ro N rc kd nu vo vc (some ⟨lb, lof, none⟩) cc) := hbx.below b1
    have HC0 : Hid (∀ u, Below wz.heap.size wz u → u.cell? ⟨lb, lof + d, none⟩ = some (.slice (Tc d) (Lc d) (Uc d))) := fun u hu => held c0 hu
    have HLB : Hid (lb < wz.heap.size) := World.block_lt_of_cell? wz _ c0
    have k0 := fun o o' => ((hbx.stand.alloc o).alloc o').cell (i := 0) rfl
    have k1 := fun o o' => ((hbx.stand.alloc o).alloc o').cell (i := 1) rfl
    have k2 := fun o o' => ((hbx.stand.alloc o).alloc o').cell (i := 2) rfl
    have k3 := fun o o' => ((hbx.stand.alloc o).alloc o').cell (i := 3) rfl
    have k5 := fun o o' => ((hbx.stand.alloc o).alloc o').cell (i := 5) rfl
    have HNZ : Hid (¬ Lc d = 0) := hz0
    clear h hr hL hv hX hl hbc hT hcap hbx hlc c0 b0 b1 hm hxs hO hLm hz0 hos
    unfold stv at HBY
    go_enter Tryz.func73, Tryz.ntmps73
    go_wp2_with fail
    rw [← hv0, ← hv1]
    clear hv0 hv1
    refine (HOL.out _ HBZ.out).mono ?_
    rintro e wa ⟨rfl, ha⟩
    have HBA : Hid (Below v1.heap.size v1 wa) := ha
    have HZA : Hid (Below wz.heap.size wz wa) := HBZ.out.trans (ha.mono HBZ.out.size)
    have hcA := HCP.out.below ha
    have hcA2 := hcA
    obtain ⟨oo, oc, hAt, hown, hYY⟩ := hcA2
    have hbA := HBX.out.below ha
    clear ha g0 e0 k0 k1 k2 k3 k5
    go_wp2_with fail
    refine wp_region_noPanic (put_region wz wa k r c q ro N rc kd d (os d) gc gi gp gn gv lb lof N cc N vc (Lc d) (Uc d) (sz N c) m oc nu vo (Tc d) oo (enc (slC kd N X c.toNat (Dc d) d)) xs Y _ _ _ _ _ _ _ _ _ _ _ _ _ _ _ _ _ _ _ _ _ _ _ _ _ _ _ _ _ _ _ _ _ _ _ _ _ _ _ (fun u hu => ?_) hAt hown hYY (by omega) (Nat.le_trans hAt.1 (Nat.le_of_lt hAt.lt)) i1 i2 (fun u hu => HBY.out u (HZA.out.trans (hu.mono HZA.out.size))) _ (fun _ _ _ h => h) (fun v' Y' bo2 cb2 g2 g5 cap5 hC hOn hYn hown2 => NoPanic.normal ?_))
    · have hb2 := hbA.only hcA hu
      refine ⟨hb2.stand.cell (i := 0) rfl, hb2.stand.cell (i := 1) rfl, hb2.stand.cell (i := 2) rfl, hb2.stand.cell (i := 3) rfl, hb2.stand.cell (i := 4) rfl, hb2.stand.cell (i := 5) rfl, hb2.num.cell (i := 0) rfl, hb2.vec.cell (i := 0) rfl, hb2.cells.cell (i := 0) rfl, ?_⟩
      refine hu.cell (HC0.out wa HZA.out) fun hy => ?_
      have := (hcA.at_ _ hy).1
      have := HLB.out
      simp only at *
      omega
    · have hb3 := hbA.only hcA hOn
      go_wp2_with fail
      refine bodyPost_end (results_none rfl _ _ _) rfl ?_
      refine ⟨rfl, Y', ⟨Cod.put d bo2 T, Cod.put d cb2 U, ?_, fun i hi hne => ?_, hb3⟩, (Only.of_below (below_then HB1.out HBA.out)).trans hOn, fun g hg => ?_⟩
      · rw [Cod.cnt_take HNZ.out, ← HMX.out.1, ptl, if_neg HNZ.out, Cod.put_at, Cod.put_at, ptl_congr (T' := T) (U' := U) (fun i hi => ⟨Cod.put_ne _ _ (by omega), Cod.put_ne _ _ (by omega)⟩), ← HMX.out.2]
        exact hC
      · by_cases e : i = d
        · subst e; rw [Cod.put_at, Cod.put_at]; exact hown2.mono (Nat.le_trans hAt.1 (Nat.le_of_lt hAt.lt))
        · rw [Cod.put_ne _ _ e, Cod.put_ne _ _ e]
          exact owu_stay ((HT.out i (by omega) hne).below HBA.out) hcA (by decide) (by decide) hOn
      · rcases hYn g hg with a | a
        · exact .inl ((hYY g).1 a)
        · exact .inr (Nat.le_trans (below_then HB1.out HBA.out).size a)
end Go.Proofs.YtdmpiipllmjloaaGreat
