/- The walk of ImageRows. -/
import Derived.Test.YtenlfhdchflnjaaDocS
import Derived.Test.YtenlfhdchflnjaaDocQ
import Derived.Test.YtenlfhdchflnjaaDocJ
namespace Go.Proofs.Ytenlfhdchflnjaa
open Go.RowKit
theorem own_cap {w : World} {V : Nat} {t : TypeId} {s n cap : Nat} {ao : Option Addr} {xs : List Value} (h : w.ownsRow V t s (.slice ao n cap) n xs) : n ≤ cap := by
  rcases h.2 with ⟨e, h0⟩ | ⟨g, cap', cur, e, hB, hb, hc, _⟩
  · omega
  · cases e; exact hc
theorem rww_small {k r c q : Int} {n : Nat} {F : Nat → List UInt8} {o x : Int} {n' : Nat} {G : Nat → List UInt8} (h : Rww k r c q n F o x n' G) : n' ≤ 1000000 ∧ ∀ i, i < 2 * n' → (G i).length ≤ 140 := by
  obtain ⟨y, N, Q, S, hck, hc⟩ := h
  rcases hc with ⟨rfl, h1, h2, rfl, rfl, rfl⟩ | ⟨⟨rfl, rfl⟩, hc⟩
  · obtain ⟨hp, hn, hf⟩ := hck.ok rfl
    have hb := hp.bounds
    refine ⟨by omega, fun i hi => ?_⟩
    unfold rowF
    have h3 : (i / 2 + 1) * Q ≤ n' * Q := Nat.mul_le_mul_right Q (by omega)
    rw [Nat.add_mul, Nat.one_mul] at h3
    rcases hf ((i / 2 * Q + o.toNat) * 2 + i % 2) (by omega) with h | h <;> omega
  · exact ⟨by decide, fun i hi => by simp⟩
theorem dff_small {k1 r1 c1 q1 : Int} {n1 : Nat} {F : Nat → List UInt8} {k2 r2 c2 q2 : Int} {n2 : Nat} {G : Nat → List UInt8} {x : Int} {ln : Nat} {D : Nat → Pt} (h : Dff k1 r1 c1 q1 n1 F k2 r2 c2 q2 n2 G x ln D) : ln ≤ 1000000 ∧ ∀ i, i < ln → (D i).b.length ≤ 140 := by
  obtain ⟨y, N, Q, S, y2, N2, Q2, S2, ha, hb, hc⟩ := h
  rcases hc with ⟨rfl, rfl, ⟨rfl, rfl, rfl, rfl⟩, _, _, rfl, rfl⟩ | ⟨⟨rfl, rfl⟩, hc⟩
  · obtain ⟨hp, hn, hf⟩ := ha.ok rfl
    obtain ⟨hp2, hn2, hf2⟩ := hb.ok rfl
    have hbn := hp.bounds
    have hbn2 := hp2.bounds
    have hq : n1 = n2 := by
      obtain ⟨_, a1, a2, _⟩ := hp
      obtain ⟨_, a3, a4, _⟩ := hp2
      obtain rfl : N = N2 := by omega
      obtain rfl : Q = Q2 := by omega
      rw [hn, hn2]
    have hle := dfs_le Q F G n1
    refine ⟨by omega, fun i hi => ?_⟩
    have key : ∀ m, m ≤ n1 → ∀ y ∈ dfs Q F G m, y.b.length ≤ 140 := by
      intro m
      induction m with
      | zero => intro _ y hy; cases hy
      | succ m ih =>
        intro hm y hy
        unfold dfs at hy
        rcases List.mem_append.1 hy with h | h
        · exact ih (by omega) y h
        · by_cases e : F m = G m
          · rw [if_pos e] at h; cases h
          · rw [if_neg e] at h
            rw [List.mem_singleton.1 h]
            rcases hf2 m (by omega) with g | g <;> (show (G m).length ≤ 140; omega)
    refine key n1 (Nat.le_refl _) _ ?_
    show (dfs Q F G n1).getD i p0 ∈ dfs Q F G n1
    rw [List.getD_eq_getElem?_getD, List.getElem?_eq_getElem hi]
    exact List.getElem_mem hi
  · exact ⟨by decide, fun i hi => absurd hi (Nat.not_lt_zero i)⟩
theorem bln_small {k r c q x k' r' c' q' : Int} {n' : Nat} (h : Bln k r c q x k' r' c' q' n') : n' ≤ 1000000 := by
  rcases h with ⟨_, _, _, _, _, _, rfl⟩ | ⟨_, _, _, _, _, N, Q, S, hp, rfl⟩
  · decide
  · have := hp.bounds; omega
section
variable {k1 r1 c1 q1 k2 r2 c2 q2 : Int} {n1 n2 : Nat} {F1 F2 : Nat → List UInt8}
set_option maxHeartbeats 8000000 in
set_option maxRecDepth 100000 in
theorem Rows_go (o k3 r3 c3 q3 : Int) (hn1 : n1 ≤ 2000) (hn2 : n2 ≤ 2000) (lo1 lo2 : Option Addr) (cl1 cl2 : Nat) (A1 A2 : Nat → Option Addr) (C1 C2 : Nat → Nat) (w : World) (h1 : Lst w lo1 n1 A1 C1 F1) (h2 : Lst w lo2 n2 A2 C2 F2) (hF1 : ∀ i, i < n1 → (F1 i).length ≤ 140737488355328) (hF2 : ∀ i, i < n2 → (F2 i).length ≤ 140737488355328) :
    Calls Try.prog 5 #[.agg #[.int .i64 k1, .int .i64 r1, .int .i64 c1, .int .i64 q1, .slice lo1 n1 cl1], .agg #[.int .i64 k2, .int .i64 r2, .int .i64 c2, .int .i64 q2, .slice lo2 n2 cl2], .int .i64 o, .agg #[.int .i64 k3, .int .i64 r3, .int .i64 c3, .int .i64 q3]] w fun e w' => e = .returned (.bool true) ∧ Below w.heap.size w w' := by
  obtain ⟨xr, nr, Gr, hrw⟩ := rww_ex k1 r1 c1 q1 n1 F1 o
  obtain ⟨xd, ld, Dd, hdf⟩ := dff_ex k1 r1 c1 q1 n1 F1 k2 r2 c2 q2 n2 F2
  obtain ⟨xk, k4, r4, c4, q4, n4, hbn⟩ := bln_ex k3 r3 c3 q3
  obtain ⟨z, hsz⟩ := sme_ex k1 r1 c1 q1 n1 F1 k2 r2 c2 q2 n2 F2
  have HNR : Hid (nr ≤ 1000000 ∧ ∀ i, i < 2 * nr → (Gr i).length ≤ 140) := rww_small hrw
  have HND : Hid (ld ≤ 1000000 ∧ ∀ i, i < ld → (Dd i).b.length ≤ 140) := dff_small hdf
  have HN4 : Hid (n4 ≤ 1000000) := bln_small hbn
  have HRW : Hid (Rww k1 r1 c1 q1 n1 F1 o xr nr Gr) := hrw
  have HDF : Hid (Dff k1 r1 c1 q1 n1 F1 k2 r2 c2 q2 n2 F2 xd ld Dd) := hdf
  have HBN : Hid (Bln k3 r3 c3 q3 xk k4 r4 c4 q4 n4) := hbn
  have HSZ : Hid (Sme k1 r1 c1 q1 n1 F1 k2 r2 c2 q2 n2 F2 z) := hsz
  have bnr := HNR.out.1
  have bnd := HND.out.1
  clear hrw hdf hbn hsz
  have bb_w : Hid (Below w.heap.size w w) := Below.refl _ _
  have HLA : Hid (Lst w lo1 n1 A1 C1 F1) := h1
  have HLB : Hid (Lst w lo2 n2 A2 C2 F2) := h2
  have HFA : Hid (∀ i, i < n1 → (F1 i).length ≤ 140737488355328) := hF1
  have HFB : Hid (∀ i, i < n2 → (F2 i).length ≤ 140737488355328) := hF2
  clear h1 h2 hF1 hF2
  go_enter Try.func5, Try.ntmps5
  go_wp2_with fail
  obtain ⟨wA, hw_wA⟩ : ∃ wA, wA = w.alloc (.cells #[.int .i64 k1, .int .i64 r1, .int .i64 c1, .int .i64 q1, .slice lo1 n1 cl1] 27) := ⟨_, rfl⟩
  rw [← hw_wA]
  have hs_wA : Hid (wA.heap.size = w.heap.size + 1) := by rw [hw_wA]; show _ = _; simp
  have hst_wA : Hid (Below w.heap.size w wA) := by rw [hw_wA]; exact below_alloc _ _
  replace bb_w : Hid (Below w.heap.size w wA) := below_then bb_w.out hst_wA.out
  have hz_wA : w.heap.size < wA.heap.size := by rw [hw_wA]; simp
  have bb_wA : Hid (Below wA.heap.size wA wA) := Below.refl _ _
  have ch_a : Hid (∀ v, Below wA.heap.size wA v → v.cell? ⟨w.heap.size, 0, none⟩ = some (.int .i64 k1) ∧ v.cell? ⟨w.heap.size, 1, none⟩ = some (.int .i64 r1) ∧ v.cell? ⟨w.heap.size, 2, none⟩ = some (.int .i64 c1) ∧ v.cell? ⟨w.heap.size, 3, none⟩ = some (.int .i64 q1) ∧ v.cell? ⟨w.heap.size, 4, none⟩ = some (.slice lo1 n1 cl1)) := fun v hv => ⟨blk_held hw_wA hv 0 rfl, blk_held hw_wA hv 1 rfl, blk_held hw_wA hv 2 rfl, blk_held hw_wA hv 3 rfl, blk_held hw_wA hv 4 rfl⟩
  clear hw_wA
  obtain ⟨wB, hw_wB⟩ : ∃ wB, wB = wA.alloc (.cells #[.int .i64 k2, .int .i64 r2, .int .i64 c2, .int .i64 q2, .slice lo2 n2 cl2] 27) := ⟨_, rfl⟩
  rw [← hw_wB]
  have hs_wB : Hid (wB.heap.size = wA.heap.size + 1) := by rw [hw_wB]; show _ = _; simp
  have hst_wB : Hid (Below wA.heap.size wA wB) := by rw [hw_wB]; exact below_alloc _ _
  replace bb_w : Hid (Below w.heap.size w wB) := below_then bb_w.out hst_wB.out
  replace bb_wA : Hid (Below wA.heap.size wA wB) := below_then bb_wA.out hst_wB.out
  have hz_wB : wA.heap.size < wB.heap.size := by rw [hw_wB]; simp
  have bb_wB : Hid (Below wB.heap.size wB wB) := Below.refl _ _
  have ch_b : Hid (∀ v, Below wB.heap.size wB v → v.cell? ⟨wA.heap.size, 0, none⟩ = some (.int .i64 k2) ∧ v.cell? ⟨wA.heap.size, 1, none⟩ = some (.int .i64 r2) ∧ v.cell? ⟨wA.heap.size, 2, none⟩ = some (.int .i64 c2) ∧ v.cell? ⟨wA.heap.size, 3, none⟩ = some (.int .i64 q2) ∧ v.cell? ⟨wA.heap.size, 4, none⟩ = some (.slice lo2 n2 cl2)) := fun v hv => ⟨blk_held hw_wB hv 0 rfl, blk_held hw_wB hv 1 rfl, blk_held hw_wB hv 2 rfl, blk_held hw_wB hv 3 rfl, blk_held hw_wB hv 4 rfl⟩
  clear hw_wB
  replace ch_b : Hid (∀ v, Below wB.heap.size wB v → v.cell? ⟨w.heap.size + 1, 0, none⟩ = some (.int .i64 k2) ∧ v.cell? ⟨w.heap.size + 1, 1, none⟩ = some (.int .i64 r2) ∧ v.cell? ⟨w.heap.size + 1, 2, none⟩ = some (.int .i64 c2) ∧ v.cell? ⟨w.heap.size + 1, 3, none⟩ = some (.int .i64 q2) ∧ v.cell? ⟨w.heap.size + 1, 4, none⟩ = some (.slice lo2 n2 cl2)) := by have h := ch_b.out; rw [hs_wA.out] at h; exact h
  obtain ⟨wP, hw_wP⟩ : ∃ wP, wP = wB.alloc (.cells #[.int .i64 k3, .int .i64 r3, .int .i64 c3, .int .i64 q3] 24) := ⟨_, rfl⟩
  rw [← hw_wP]
  have hs_wP : Hid (wP.heap.size = wB.heap.size + 1) := by rw [hw_wP]; show _ = _; simp
  have hst_wP : Hid (Below wB.heap.size wB wP) := by rw [hw_wP]; exact below_alloc _ _
  replace bb_w : Hid (Below w.heap.size w wP) := below_then bb_w.out hst_wP.out
  replace bb_wA : Hid (Below wA.heap.size wA wP) := below_then bb_wA.out hst_wP.out
  replace bb_wB : Hid (Below wB.heap.size wB wP) := below_then bb_wB.out hst_wP.out
  have hz_wP : wB.heap.size < wP.heap.size := by rw [hw_wP]; simp
  have bb_wP : Hid (Below wP.heap.size wP wP) := Below.refl _ _
  have ch_p : Hid (∀ v, Below wP.heap.size wP v → v.cell? ⟨wB.heap.size, 0, none⟩ = some (.int .i64 k3) ∧ v.cell? ⟨wB.heap.size, 1, none⟩ = some (.int .i64 r3) ∧ v.cell? ⟨wB.heap.size, 2, none⟩ = some (.int .i64 c3) ∧ v.cell? ⟨wB.heap.size, 3, none⟩ = some (.int .i64 q3)) := fun v hv => ⟨blk_held hw_wP hv 0 rfl, blk_held hw_wP hv 1 rfl, blk_held hw_wP hv 2 rfl, blk_held hw_wP hv 3 rfl⟩
  clear hw_wP
  replace ch_p : Hid (∀ v, Below wP.heap.size wP v → v.cell? ⟨w.heap.size + 2, 0, none⟩ = some (.int .i64 k3) ∧ v.cell? ⟨w.heap.size + 2, 1, none⟩ = some (.int .i64 r3) ∧ v.cell? ⟨w.heap.size + 2, 2, none⟩ = some (.int .i64 c3) ∧ v.cell? ⟨w.heap.size + 2, 3, none⟩ = some (.int .i64 q3)) := by have h := ch_p.out; rw [hs_wB.out, hs_wA.out] at h; exact h
  refine (alive_any wP).mono ?_
  rintro e wa ⟨rfl, ha⟩
  have hst_wa : Hid (Below wP.heap.size wP wa) := ha
  replace bb_w : Hid (Below w.heap.size w wa) := below_then bb_w.out hst_wa.out
  replace bb_wA : Hid (Below wA.heap.size wA wa) := below_then bb_wA.out hst_wa.out
  replace bb_wB : Hid (Below wB.heap.size wB wa) := below_then bb_wB.out hst_wa.out
  replace bb_wP : Hid (Below wP.heap.size wP wa) := below_then bb_wP.out hst_wa.out
  clear ha
  obtain ⟨rd_a0, rd_a1, rd_a2, rd_a3, rd_a4⟩ := ch_a.out wa bb_wA.out
  have ra_a0 := fun o => held rd_a0 (below_alloc wa o)
  have ra_a1 := fun o => held rd_a1 (below_alloc wa o)
  have ra_a2 := fun o => held rd_a2 (below_alloc wa o)
  have ra_a3 := fun o => held rd_a3 (below_alloc wa o)
  have ra_a4 := fun o => held rd_a4 (below_alloc wa o)
  obtain ⟨rd_b0, rd_b1, rd_b2, rd_b3, rd_b4⟩ := ch_b.out wa bb_wB.out
  have ra_b0 := fun o => held rd_b0 (below_alloc wa o)
  have ra_b1 := fun o => held rd_b1 (below_alloc wa o)
  have ra_b2 := fun o => held rd_b2 (below_alloc wa o)
  have ra_b3 := fun o => held rd_b3 (below_alloc wa o)
  have ra_b4 := fun o => held rd_b4 (below_alloc wa o)
  have HM1 := much_any k1 r1 c1 q1 lo1 n1 cl1 wa false (by simp; omega)
  have HM2 : Hid (∀ v, Calls Try.prog 18 #[.agg #[.int .i64 k2, .int .i64 r2, .int .i64 c2, .int .i64 q2, .slice lo2 n2 cl2]] v fun e w' => e = .returned (.bool false) ∧ Below v.heap.size v w') := fun v => much_any k2 r2 c2 q2 lo2 n2 cl2 v false (by simp; omega)
  have tok1 : True := trivial
  go_wp2_with (first
    | (go_at_call 18; have _t := tok1; clear _t tok1; refine HM1.mono ?_; rintro e wb0 ⟨rfl, hb⟩; have HB0 : Hid (Below wa.heap.size wa wb0) := hb; obtain ⟨a0, a1, a2, a3, a4⟩ := ch_a.out wb0 (below_then bb_wA.out hb); obtain ⟨b0, b1, b2, b3, b4⟩ := ch_b.out wb0 (below_then bb_wB.out hb); clear hb)
    | (go_at_call 18; refine (HM2.out _).mono ?_; rintro e wb ⟨rfl, hb⟩; have HB : Hid (Below wa.heap.size wa wb) := below_then HB0.out hb; obtain ⟨c0, c1, c2, c3, c4⟩ := ch_a.out wb (below_then bb_wA.out HB.out); clear hb))
  clear rd_a0 rd_a1 rd_a2 rd_a3 rd_a4 ra_a0 ra_a1 ra_a2 ra_a3 ra_a4 rd_b0 rd_b1 rd_b2 rd_b3 rd_b4 ra_b0 ra_b1 ra_b2 ra_b3 ra_b4
  clear HM1 HM2 a0 a1 a2 a3 a4 b0 b1 b2 b3 b4 c0 c1 c2 c3 c4
  have hst_wb : Hid (Below wa.heap.size wa wb) := HB.out
  replace bb_w : Hid (Below w.heap.size w wb) := below_then bb_w.out hst_wb.out
  replace bb_wA : Hid (Below wA.heap.size wA wb) := below_then bb_wA.out hst_wb.out
  replace bb_wB : Hid (Below wB.heap.size wB wb) := below_then bb_wB.out hst_wb.out
  replace bb_wP : Hid (Below wP.heap.size wP wb) := below_then bb_wP.out hst_wb.out
  refine (Twin_any k1 r1 c1 q1 wb lo1 n1 cl1 A1 C1 F1 (HLA.out.below bb_w.out) (by omega) HFA.out).mono ?_
  rintro e wc ⟨lox, clx, Ax, Cx, rfl, hox, hsx, hc⟩
  have HXL : Hid (Lst wc lox n1 Ax Cx F1) := own_lst hox hsx
  have hxc : n1 ≤ clx := own_cap hox
  have hst_wc : Hid (Below wb.heap.size wb wc) := hc
  replace bb_w : Hid (Below w.heap.size w wc) := below_then bb_w.out hst_wc.out
  replace bb_wA : Hid (Below wA.heap.size wA wc) := below_then bb_wA.out hst_wc.out
  replace bb_wB : Hid (Below wB.heap.size wB wc) := below_then bb_wB.out hst_wc.out
  replace bb_wP : Hid (Below wP.heap.size wP wc) := below_then bb_wP.out hst_wc.out
  have bb_wc : Hid (Below wc.heap.size wc wc) := Below.refl _ _
  clear hc hox hsx
  obtain ⟨rd_b0, rd_b1, rd_b2, rd_b3, rd_b4⟩ := ch_b.out wc bb_wB.out
  have ra_b0 := fun o => held rd_b0 (below_alloc wc o)
  have ra_b1 := fun o => held rd_b1 (below_alloc wc o)
  have ra_b2 := fun o => held rd_b2 (below_alloc wc o)
  have ra_b3 := fun o => held rd_b3 (below_alloc wc o)
  have ra_b4 := fun o => held rd_b4 (below_alloc wc o)
  go_wp2_with fail
  clear rd_b0 rd_b1 rd_b2 rd_b3 rd_b4 ra_b0 ra_b1 ra_b2 ra_b3 ra_b4
  obtain ⟨wd, hw_wd⟩ : ∃ wd, wd = wc.alloc (.cells #[.int .i64 k1, .int .i64 r1, .int .i64 c1, .int .i64 q1, .slice lox n1 clx] 27) := ⟨_, rfl⟩
  rw [← hw_wd]
  have hs_wd : Hid (wd.heap.size = wc.heap.size + 1) := by rw [hw_wd]; show _ = _; simp
  have hst_wd : Hid (Below wc.heap.size wc wd) := by rw [hw_wd]; exact below_alloc _ _
  replace bb_w : Hid (Below w.heap.size w wd) := below_then bb_w.out hst_wd.out
  replace bb_wA : Hid (Below wA.heap.size wA wd) := below_then bb_wA.out hst_wd.out
  replace bb_wB : Hid (Below wB.heap.size wB wd) := below_then bb_wB.out hst_wd.out
  replace bb_wP : Hid (Below wP.heap.size wP wd) := below_then bb_wP.out hst_wd.out
  replace bb_wc : Hid (Below wc.heap.size wc wd) := below_then bb_wc.out hst_wd.out
  have hz_wd : wc.heap.size < wd.heap.size := by rw [hw_wd]; simp
  have bb_wd : Hid (Below wd.heap.size wd wd) := Below.refl _ _
  have ch_x : Hid (∀ v, Below wd.heap.size wd v → v.cell? ⟨wc.heap.size, 0, none⟩ = some (.int .i64 k1) ∧ v.cell? ⟨wc.heap.size, 1, none⟩ = some (.int .i64 r1) ∧ v.cell? ⟨wc.heap.size, 2, none⟩ = some (.int .i64 c1) ∧ v.cell? ⟨wc.heap.size, 3, none⟩ = some (.int .i64 q1) ∧ v.cell? ⟨wc.heap.size, 4, none⟩ = some (.slice lox n1 clx)) := fun v hv => ⟨blk_held hw_wd hv 0 rfl, blk_held hw_wd hv 1 rfl, blk_held hw_wd hv 2 rfl, blk_held hw_wd hv 3 rfl, blk_held hw_wd hv 4 rfl⟩
  clear hw_wd
  refine (Twin_any k2 r2 c2 q2 wd lo2 n2 cl2 A2 C2 F2 (HLB.out.below bb_w.out) (by omega) HFB.out).mono ?_
  rintro e we ⟨loy, cly, Ay, Cy, rfl, hoy, hsy, hc⟩
  have HYL : Hid (Lst we loy n2 Ay Cy F2) := own_lst hoy hsy
  have hst_we : Hid (Below wd.heap.size wd we) := hc
  replace bb_w : Hid (Below w.heap.size w we) := below_then bb_w.out hst_we.out
  replace bb_wA : Hid (Below wA.heap.size wA we) := below_then bb_wA.out hst_we.out
  replace bb_wB : Hid (Below wB.heap.size wB we) := below_then bb_wB.out hst_we.out
  replace bb_wP : Hid (Below wP.heap.size wP we) := below_then bb_wP.out hst_we.out
  replace bb_wc : Hid (Below wc.heap.size wc we) := below_then bb_wc.out hst_we.out
  replace bb_wd : Hid (Below wd.heap.size wd we) := below_then bb_wd.out hst_we.out
  have bb_we : Hid (Below we.heap.size we we) := Below.refl _ _
  clear hc hoy hsy
  obtain ⟨rd_x0, rd_x1, rd_x2, rd_x3, rd_x4⟩ := ch_x.out we bb_wd.out
  have ra_x0 := fun o => held rd_x0 (below_alloc we o)
  have ra_x1 := fun o => held rd_x1 (below_alloc we o)
  have ra_x2 := fun o => held rd_x2 (below_alloc we o)
  have ra_x3 := fun o => held rd_x3 (below_alloc we o)
  have ra_x4 := fun o => held rd_x4 (below_alloc we o)
  go_wp2_with fail
  clear rd_x0 rd_x1 rd_x2 rd_x3 rd_x4 ra_x0 ra_x1 ra_x2 ra_x3 ra_x4
  obtain ⟨wf, hw_wf⟩ : ∃ wf, wf = we.alloc (.cells #[.int .i64 k2, .int .i64 r2, .int .i64 c2, .int .i64 q2, .slice loy n2 cly] 27) := ⟨_, rfl⟩
  rw [← hw_wf]
  have hs_wf : Hid (wf.heap.size = we.heap.size + 1) := by rw [hw_wf]; show _ = _; simp
  have hst_wf : Hid (Below we.heap.size we wf) := by rw [hw_wf]; exact below_alloc _ _
  replace bb_w : Hid (Below w.heap.size w wf) := below_then bb_w.out hst_wf.out
  replace bb_wA : Hid (Below wA.heap.size wA wf) := below_then bb_wA.out hst_wf.out
  replace bb_wB : Hid (Below wB.heap.size wB wf) := below_then bb_wB.out hst_wf.out
  replace bb_wP : Hid (Below wP.heap.size wP wf) := below_then bb_wP.out hst_wf.out
  replace bb_wc : Hid (Below wc.heap.size wc wf) := below_then bb_wc.out hst_wf.out
  replace bb_wd : Hid (Below wd.heap.size wd wf) := below_then bb_wd.out hst_wf.out
  replace bb_we : Hid (Below we.heap.size we wf) := below_then bb_we.out hst_wf.out
  have hz_wf : we.heap.size < wf.heap.size := by rw [hw_wf]; simp
  have bb_wf : Hid (Below wf.heap.size wf wf) := Below.refl _ _
  have ch_y : Hid (∀ v, Below wf.heap.size wf v → v.cell? ⟨we.heap.size, 0, none⟩ = some (.int .i64 k2) ∧ v.cell? ⟨we.heap.size, 1, none⟩ = some (.int .i64 r2) ∧ v.cell? ⟨we.heap.size, 2, none⟩ = some (.int .i64 c2) ∧ v.cell? ⟨we.heap.size, 3, none⟩ = some (.int .i64 q2) ∧ v.cell? ⟨we.heap.size, 4, none⟩ = some (.slice loy n2 cly)) := fun v hv => ⟨blk_held hw_wf hv 0 rfl, blk_held hw_wf hv 1 rfl, blk_held hw_wf hv 2 rfl, blk_held hw_wf hv 3 rfl, blk_held hw_wf hv 4 rfl⟩
  clear hw_wf
  have bb_wf : Hid (Below wf.heap.size wf wf) := Below.refl _ _
  refine (Row_any HRW.out lox clx hxc Ax Cx wf (HXL.out.below bb_wc.out)).mono ?_
  rintro e wg ⟨lor, Ar, Cr, rfl, hir, hc⟩
  have HIR : Hid (Im wf.heap.size wg lor (2 * nr) Ar Cr Gr) := hir
  have hst_wg : Hid (Below wf.heap.size wf wg) := hc
  replace bb_w : Hid (Below w.heap.size w wg) := below_then bb_w.out hst_wg.out
  replace bb_wA : Hid (Below wA.heap.size wA wg) := below_then bb_wA.out hst_wg.out
  replace bb_wB : Hid (Below wB.heap.size wB wg) := below_then bb_wB.out hst_wg.out
  replace bb_wP : Hid (Below wP.heap.size wP wg) := below_then bb_wP.out hst_wg.out
  replace bb_wc : Hid (Below wc.heap.size wc wg) := below_then bb_wc.out hst_wg.out
  replace bb_wd : Hid (Below wd.heap.size wd wg) := below_then bb_wd.out hst_wg.out
  replace bb_we : Hid (Below we.heap.size we wg) := below_then bb_we.out hst_wg.out
  replace bb_wf : Hid (Below wf.heap.size wf wg) := below_then bb_wf.out hst_wg.out
  have bb_wg : Hid (Below wg.heap.size wg wg) := Below.refl _ _
  clear hc hir
  obtain ⟨rd_x0, rd_x1, rd_x2, rd_x3, rd_x4⟩ := ch_x.out wg bb_wd.out
  have ra_x0 := fun o => held rd_x0 (below_alloc wg o)
  have ra_x1 := fun o => held rd_x1 (below_alloc wg o)
  have ra_x2 := fun o => held rd_x2 (below_alloc wg o)
  have ra_x3 := fun o => held rd_x3 (below_alloc wg o)
  have ra_x4 := fun o => held rd_x4 (below_alloc wg o)
  obtain ⟨rd_y0, rd_y1, rd_y2, rd_y3, rd_y4⟩ := ch_y.out wg bb_wf.out
  have ra_y0 := fun o => held rd_y0 (below_alloc wg o)
  have ra_y1 := fun o => held rd_y1 (below_alloc wg o)
  have ra_y2 := fun o => held rd_y2 (below_alloc wg o)
  have ra_y3 := fun o => held rd_y3 (below_alloc wg o)
  have ra_y4 := fun o => held rd_y4 (below_alloc wg o)
  go_wp2_with fail
  clear rd_x0 rd_x1 rd_x2 rd_x3 rd_x4 ra_x0 ra_x1 ra_x2 ra_x3 ra_x4 rd_y0 rd_y1 rd_y2 rd_y3 rd_y4 ra_y0 ra_y1 ra_y2 ra_y3 ra_y4
  refine (Diff_any HDF.out lox loy clx cly Ax Ay Cx Cy wg (HXL.out.below bb_wc.out) (HYL.out.below bb_we.out)).mono ?_
  rintro e wh ⟨pod, pcd, Bd, Kd, rfl, hid, hc⟩
  have HID : Hid (Pus true wh wg.heap.size pod ld pcd Dd Bd Kd) := hid
  have hst_wh : Hid (Below wg.heap.size wg wh) := hc
  replace bb_w : Hid (Below w.heap.size w wh) := below_then bb_w.out hst_wh.out
  replace bb_wA : Hid (Below wA.heap.size wA wh) := below_then bb_wA.out hst_wh.out
  replace bb_wB : Hid (Below wB.heap.size wB wh) := below_then bb_wB.out hst_wh.out
  replace bb_wP : Hid (Below wP.heap.size wP wh) := below_then bb_wP.out hst_wh.out
  replace bb_wc : Hid (Below wc.heap.size wc wh) := below_then bb_wc.out hst_wh.out
  replace bb_wd : Hid (Below wd.heap.size wd wh) := below_then bb_wd.out hst_wh.out
  replace bb_we : Hid (Below we.heap.size we wh) := below_then bb_we.out hst_wh.out
  replace bb_wf : Hid (Below wf.heap.size wf wh) := below_then bb_wf.out hst_wh.out
  replace bb_wg : Hid (Below wg.heap.size wg wh) := below_then bb_wg.out hst_wh.out
  have bb_wh : Hid (Below wh.heap.size wh wh) := Below.refl _ _
  clear hc hid
  obtain ⟨rd_p0, rd_p1, rd_p2, rd_p3⟩ := ch_p.out wh bb_wP.out
  have ra_p0 := fun o => held rd_p0 (below_alloc wh o)
  have ra_p1 := fun o => held rd_p1 (below_alloc wh o)
  have ra_p2 := fun o => held rd_p2 (below_alloc wh o)
  have ra_p3 := fun o => held rd_p3 (below_alloc wh o)
  go_wp2_with fail
  clear rd_p0 rd_p1 rd_p2 rd_p3 ra_p0 ra_p1 ra_p2 ra_p3
  refine (Blank_img HBN.out wh).mono ?_
  rintro e wi ⟨lok, Ak, Ck, rfl, hik, hc⟩
  have HIK : Hid (Lst wi lok n4 Ak Ck (fun _ => [])) := hik.lst
  have hst_wi : Hid (Below wh.heap.size wh wi) := hc
  replace bb_w : Hid (Below w.heap.size w wi) := below_then bb_w.out hst_wi.out
  replace bb_wA : Hid (Below wA.heap.size wA wi) := below_then bb_wA.out hst_wi.out
  replace bb_wB : Hid (Below wB.heap.size wB wi) := below_then bb_wB.out hst_wi.out
  replace bb_wP : Hid (Below wP.heap.size wP wi) := below_then bb_wP.out hst_wi.out
  replace bb_wc : Hid (Below wc.heap.size wc wi) := below_then bb_wc.out hst_wi.out
  replace bb_wd : Hid (Below wd.heap.size wd wi) := below_then bb_wd.out hst_wi.out
  replace bb_we : Hid (Below we.heap.size we wi) := below_then bb_we.out hst_wi.out
  replace bb_wf : Hid (Below wf.heap.size wf wi) := below_then bb_wf.out hst_wi.out
  replace bb_wg : Hid (Below wg.heap.size wg wi) := below_then bb_wg.out hst_wi.out
  replace bb_wh : Hid (Below wh.heap.size wh wi) := below_then bb_wh.out hst_wi.out
  have bb_wi : Hid (Below wi.heap.size wi wi) := Below.refl _ _
  clear hc hik
  obtain ⟨rd_a0, rd_a1, rd_a2, rd_a3, rd_a4⟩ := ch_a.out wi bb_wA.out
  have ra_a0 := fun o => held rd_a0 (below_alloc wi o)
  have ra_a1 := fun o => held rd_a1 (below_alloc wi o)
  have ra_a2 := fun o => held rd_a2 (below_alloc wi o)
  have ra_a3 := fun o => held rd_a3 (below_alloc wi o)
  have ra_a4 := fun o => held rd_a4 (below_alloc wi o)
  go_wp2_with fail
  clear rd_a0 rd_a1 rd_a2 rd_a3 rd_a4 ra_a0 ra_a1 ra_a2 ra_a3 ra_a4
  obtain ⟨wj, hw_wj⟩ : ∃ wj, wj = wi.alloc (.cells #[.int .i64 k4, .int .i64 r4, .int .i64 c4, .int .i64 q4, .slice lok n4 n4] 27) := ⟨_, rfl⟩
  rw [← hw_wj]
  have hs_wj : Hid (wj.heap.size = wi.heap.size + 1) := by rw [hw_wj]; show _ = _; simp
  have hst_wj : Hid (Below wi.heap.size wi wj) := by rw [hw_wj]; exact below_alloc _ _
  replace bb_w : Hid (Below w.heap.size w wj) := below_then bb_w.out hst_wj.out
  replace bb_wA : Hid (Below wA.heap.size wA wj) := below_then bb_wA.out hst_wj.out
  replace bb_wB : Hid (Below wB.heap.size wB wj) := below_then bb_wB.out hst_wj.out
  replace bb_wP : Hid (Below wP.heap.size wP wj) := below_then bb_wP.out hst_wj.out
  replace bb_wc : Hid (Below wc.heap.size wc wj) := below_then bb_wc.out hst_wj.out
  replace bb_wd : Hid (Below wd.heap.size wd wj) := below_then bb_wd.out hst_wj.out
  replace bb_we : Hid (Below we.heap.size we wj) := below_then bb_we.out hst_wj.out
  replace bb_wf : Hid (Below wf.heap.size wf wj) := below_then bb_wf.out hst_wj.out
  replace bb_wg : Hid (Below wg.heap.size wg wj) := below_then bb_wg.out hst_wj.out
  replace bb_wh : Hid (Below wh.heap.size wh wj) := below_then bb_wh.out hst_wj.out
  replace bb_wi : Hid (Below wi.heap.size wi wj) := below_then bb_wi.out hst_wj.out
  have hz_wj : wi.heap.size < wj.heap.size := by rw [hw_wj]; simp
  have bb_wj : Hid (Below wj.heap.size wj wj) := Below.refl _ _
  have ch_kk : Hid (∀ v, Below wj.heap.size wj v → v.cell? ⟨wi.heap.size, 0, none⟩ = some (.int .i64 k4) ∧ v.cell? ⟨wi.heap.size, 1, none⟩ = some (.int .i64 r4) ∧ v.cell? ⟨wi.heap.size, 2, none⟩ = some (.int .i64 c4) ∧ v.cell? ⟨wi.heap.size, 3, none⟩ = some (.int .i64 q4) ∧ v.cell? ⟨wi.heap.size, 4, none⟩ = some (.slice lok n4 n4)) := fun v hv => ⟨blk_held hw_wj hv 0 rfl, blk_held hw_wj hv 1 rfl, blk_held hw_wj hv 2 rfl, blk_held hw_wj hv 3 rfl, blk_held hw_wj hv 4 rfl⟩
  clear hw_wj
  refine (Row_doc HRW.out lo1 cl1 A1 C1 wj (HLA.out.below bb_w.out)).mono ?_
  rintro e wk ⟨lor2, clr2, Ar2, Cr2, rfl, hr2, hc⟩
  have HR2 : Hid (Lst wk lor2 (2 * nr) Ar2 Cr2 Gr) := hr2
  have hst_wk : Hid (Below wj.heap.size wj wk) := hc
  replace bb_w : Hid (Below w.heap.size w wk) := below_then bb_w.out hst_wk.out
  replace bb_wA : Hid (Below wA.heap.size wA wk) := below_then bb_wA.out hst_wk.out
  replace bb_wB : Hid (Below wB.heap.size wB wk) := below_then bb_wB.out hst_wk.out
  replace bb_wP : Hid (Below wP.heap.size wP wk) := below_then bb_wP.out hst_wk.out
  replace bb_wc : Hid (Below wc.heap.size wc wk) := below_then bb_wc.out hst_wk.out
  replace bb_wd : Hid (Below wd.heap.size wd wk) := below_then bb_wd.out hst_wk.out
  replace bb_we : Hid (Below we.heap.size we wk) := below_then bb_we.out hst_wk.out
  replace bb_wf : Hid (Below wf.heap.size wf wk) := below_then bb_wf.out hst_wk.out
  replace bb_wg : Hid (Below wg.heap.size wg wk) := below_then bb_wg.out hst_wk.out
  replace bb_wh : Hid (Below wh.heap.size wh wk) := below_then bb_wh.out hst_wk.out
  replace bb_wi : Hid (Below wi.heap.size wi wk) := below_then bb_wi.out hst_wk.out
  replace bb_wj : Hid (Below wj.heap.size wj wk) := below_then bb_wj.out hst_wk.out
  have bb_wk : Hid (Below wk.heap.size wk wk) := Below.refl _ _
  clear hc hr2
  obtain ⟨rd_a0, rd_a1, rd_a2, rd_a3, rd_a4⟩ := ch_a.out wk bb_wA.out
  have ra_a0 := fun o => held rd_a0 (below_alloc wk o)
  have ra_a1 := fun o => held rd_a1 (below_alloc wk o)
  have ra_a2 := fun o => held rd_a2 (below_alloc wk o)
  have ra_a3 := fun o => held rd_a3 (below_alloc wk o)
  have ra_a4 := fun o => held rd_a4 (below_alloc wk o)
  obtain ⟨rd_b0, rd_b1, rd_b2, rd_b3, rd_b4⟩ := ch_b.out wk bb_wB.out
  have ra_b0 := fun o => held rd_b0 (below_alloc wk o)
  have ra_b1 := fun o => held rd_b1 (below_alloc wk o)
  have ra_b2 := fun o => held rd_b2 (below_alloc wk o)
  have ra_b3 := fun o => held rd_b3 (below_alloc wk o)
  have ra_b4 := fun o => held rd_b4 (below_alloc wk o)
  go_wp2_with fail
  clear rd_a0 rd_a1 rd_a2 rd_a3 rd_a4 ra_a0 ra_a1 ra_a2 ra_a3 ra_a4 rd_b0 rd_b1 rd_b2 rd_b3 rd_b4 ra_b0 ra_b1 ra_b2 ra_b3 ra_b4
  refine (Diff_doc HDF.out lo1 lo2 cl1 cl2 A1 A2 C1 C2 wk (HLA.out.below bb_w.out) (HLB.out.below bb_w.out)).mono ?_
  rintro e wl ⟨pod2, pcd2, Bd2, Kd2, rfl, hd2, hc⟩
  have HD2 : Hid (Pus false wl wk.heap.size pod2 ld pcd2 Dd Bd2 Kd2) := hd2
  have hst_wl : Hid (Below wk.heap.size wk wl) := hc
  replace bb_w : Hid (Below w.heap.size w wl) := below_then bb_w.out hst_wl.out
  replace bb_wA : Hid (Below wA.heap.size wA wl) := below_then bb_wA.out hst_wl.out
  replace bb_wB : Hid (Below wB.heap.size wB wl) := below_then bb_wB.out hst_wl.out
  replace bb_wP : Hid (Below wP.heap.size wP wl) := below_then bb_wP.out hst_wl.out
  replace bb_wc : Hid (Below wc.heap.size wc wl) := below_then bb_wc.out hst_wl.out
  replace bb_wd : Hid (Below wd.heap.size wd wl) := below_then bb_wd.out hst_wl.out
  replace bb_we : Hid (Below we.heap.size we wl) := below_then bb_we.out hst_wl.out
  replace bb_wf : Hid (Below wf.heap.size wf wl) := below_then bb_wf.out hst_wl.out
  replace bb_wg : Hid (Below wg.heap.size wg wl) := below_then bb_wg.out hst_wl.out
  replace bb_wh : Hid (Below wh.heap.size wh wl) := below_then bb_wh.out hst_wl.out
  replace bb_wi : Hid (Below wi.heap.size wi wl) := below_then bb_wi.out hst_wl.out
  replace bb_wj : Hid (Below wj.heap.size wj wl) := below_then bb_wj.out hst_wl.out
  replace bb_wk : Hid (Below wk.heap.size wk wl) := below_then bb_wk.out hst_wl.out
  have bb_wl : Hid (Below wl.heap.size wl wl) := Below.refl _ _
  clear hc hd2
  obtain ⟨rd_p0, rd_p1, rd_p2, rd_p3⟩ := ch_p.out wl bb_wP.out
  have ra_p0 := fun o => held rd_p0 (below_alloc wl o)
  have ra_p1 := fun o => held rd_p1 (below_alloc wl o)
  have ra_p2 := fun o => held rd_p2 (below_alloc wl o)
  have ra_p3 := fun o => held rd_p3 (below_alloc wl o)
  go_wp2_with fail
  clear rd_p0 rd_p1 rd_p2 rd_p3 ra_p0 ra_p1 ra_p2 ra_p3
  refine (Blank_doc HBN.out wl).mono ?_
  rintro e wm ⟨lok2, Ak2, Ck2, rfl, hik, hc⟩
  have HIK2 : Hid (Lst wm lok2 n4 Ak2 Ck2 (fun _ => [])) := hik.lst
  have hst_wm : Hid (Below wl.heap.size wl wm) := hc
  replace bb_w : Hid (Below w.heap.size w wm) := below_then bb_w.out hst_wm.out
  replace bb_wA : Hid (Below wA.heap.size wA wm) := below_then bb_wA.out hst_wm.out
  replace bb_wB : Hid (Below wB.heap.size wB wm) := below_then bb_wB.out hst_wm.out
  replace bb_wP : Hid (Below wP.heap.size wP wm) := below_then bb_wP.out hst_wm.out
  replace bb_wc : Hid (Below wc.heap.size wc wm) := below_then bb_wc.out hst_wm.out
  replace bb_wd : Hid (Below wd.heap.size wd wm) := below_then bb_wd.out hst_wm.out
  replace bb_we : Hid (Below we.heap.size we wm) := below_then bb_we.out hst_wm.out
  replace bb_wf : Hid (Below wf.heap.size wf wm) := below_then bb_wf.out hst_wm.out
  replace bb_wg : Hid (Below wg.heap.size wg wm) := below_then bb_wg.out hst_wm.out
  replace bb_wh : Hid (Below wh.heap.size wh wm) := below_then bb_wh.out hst_wm.out
  replace bb_wi : Hid (Below wi.heap.size wi wm) := below_then bb_wi.out hst_wm.out
  replace bb_wj : Hid (Below wj.heap.size wj wm) := below_then bb_wj.out hst_wm.out
  replace bb_wk : Hid (Below wk.heap.size wk wm) := below_then bb_wk.out hst_wm.out
  replace bb_wl : Hid (Below wl.heap.size wl wm) := below_then bb_wl.out hst_wm.out
  have bb_wm : Hid (Below wm.heap.size wm wm) := Below.refl _ _
  clear hc hik
  go_wp2_with fail
  obtain ⟨ws, hw_ws⟩ : ∃ ws, ws = wm.alloc (.cells #[.int .i64 k4, .int .i64 r4, .int .i64 c4, .int .i64 q4, .slice lok2 n4 n4] 27) := ⟨_, rfl⟩
  rw [← hw_ws]
  have hs_ws : Hid (ws.heap.size = wm.heap.size + 1) := by rw [hw_ws]; show _ = _; simp
  have hst_ws : Hid (Below wm.heap.size wm ws) := by rw [hw_ws]; exact below_alloc _ _
  replace bb_w : Hid (Below w.heap.size w ws) := below_then bb_w.out hst_ws.out
  replace bb_wA : Hid (Below wA.heap.size wA ws) := below_then bb_wA.out hst_ws.out
  replace bb_wB : Hid (Below wB.heap.size wB ws) := below_then bb_wB.out hst_ws.out
  replace bb_wP : Hid (Below wP.heap.size wP ws) := below_then bb_wP.out hst_ws.out
  replace bb_wc : Hid (Below wc.heap.size wc ws) := below_then bb_wc.out hst_ws.out
  replace bb_wd : Hid (Below wd.heap.size wd ws) := below_then bb_wd.out hst_ws.out
  replace bb_we : Hid (Below we.heap.size we ws) := below_then bb_we.out hst_ws.out
  replace bb_wf : Hid (Below wf.heap.size wf ws) := below_then bb_wf.out hst_ws.out
  replace bb_wg : Hid (Below wg.heap.size wg ws) := below_then bb_wg.out hst_ws.out
  replace bb_wh : Hid (Below wh.heap.size wh ws) := below_then bb_wh.out hst_ws.out
  replace bb_wi : Hid (Below wi.heap.size wi ws) := below_then bb_wi.out hst_ws.out
  replace bb_wj : Hid (Below wj.heap.size wj ws) := below_then bb_wj.out hst_ws.out
  replace bb_wk : Hid (Below wk.heap.size wk ws) := below_then bb_wk.out hst_ws.out
  replace bb_wl : Hid (Below wl.heap.size wl ws) := below_then bb_wl.out hst_ws.out
  replace bb_wm : Hid (Below wm.heap.size wm ws) := below_then bb_wm.out hst_ws.out
  have hz_ws : wm.heap.size < ws.heap.size := by rw [hw_ws]; simp
  have bb_ws : Hid (Below ws.heap.size ws ws) := Below.refl _ _
  have ch_k2 : Hid (∀ v, Below ws.heap.size ws v → v.cell? ⟨wm.heap.size, 0, none⟩ = some (.int .i64 k4) ∧ v.cell? ⟨wm.heap.size, 1, none⟩ = some (.int .i64 r4) ∧ v.cell? ⟨wm.heap.size, 2, none⟩ = some (.int .i64 c4) ∧ v.cell? ⟨wm.heap.size, 3, none⟩ = some (.int .i64 q4) ∧ v.cell? ⟨wm.heap.size, 4, none⟩ = some (.slice lok2 n4 n4)) := fun v hv => ⟨blk_held hw_ws hv 0 rfl, blk_held hw_ws hv 1 rfl, blk_held hw_ws hv 2 rfl, blk_held hw_ws hv 3 rfl, blk_held hw_ws hv 4 rfl⟩
  clear hw_ws
  have bb_ws : Hid (Below ws.heap.size ws ws) := Below.refl _ _
  have HS1 : Hid (∀ v, Below ws.heap.size ws v → Calls Try.prog 33 #[.slice lor nr nr, .slice lor2 nr clr2] v fun e w' => e = .returned (.bool true) ∧ Below v.heap.size v w') := fun v hv => SamePairs_any lor lor2 nr nr clr2 Ar Ar2 Cr Cr2 Gr Gr HNR.out.1 v (HIR.out.lst.below (below_then bb_wg.out hv)) (HR2.out.below (below_then bb_wk.out hv)) true (.inl ⟨rfl, fun _ _ => rfl⟩)
  have HS2 : Hid (∀ v, Below ws.heap.size ws v → Calls Try.prog 29 #[.slice pod ld pcd, .slice pod2 ld pcd2] v fun e w' => e = .returned (.bool true) ∧ Below v.heap.size v w') := fun v hv => SamePuts_doc pod pod2 ld pcd pcd2 Dd Bd Bd2 Kd Kd2 HND.out.1 v ((pus_pts HID.out).below (below_then bb_wh.out hv)) ((pus_pts HD2.out).below (below_then bb_wl.out hv))
  have HS3 : Hid (∀ v, Below ws.heap.size ws v → Calls Try.prog 26 #[.agg #[.int .i64 k4, .int .i64 r4, .int .i64 c4, .int .i64 q4, .slice lok n4 n4], .agg #[.int .i64 k4, .int .i64 r4, .int .i64 c4, .int .i64 q4, .slice lok2 n4 n4]] v fun e w' => e = .returned (.bool true) ∧ Below v.heap.size v w') := fun v hv => Same_doc (sme_refl _ _ _ _ _ _) lok lok2 n4 n4 Ak Ak2 Ck Ck2 v HN4.out (HIK.out.below (below_then bb_wi.out hv)) (HIK2.out.below (below_then bb_wm.out hv))
  have HS4 : Hid (∀ v, Below ws.heap.size ws v → Calls Try.prog 34 #[.agg #[.int .i64 k1, .int .i64 r1, .int .i64 c1, .int .i64 q1, .slice lox n1 clx], .agg #[.int .i64 k2, .int .i64 r2, .int .i64 c2, .int .i64 q2, .slice loy n2 cly]] v fun e w' => e = .returned (.bool z) ∧ Below v.heap.size v w') := fun v hv => Same_img HSZ.out lox loy clx cly Ax Ay Cx Cy v (by omega) (HXL.out.below (below_then bb_wc.out hv)) (HYL.out.below (below_then bb_we.out hv))
  have HS5 : Hid (∀ v, Below ws.heap.size ws v → Calls Try.prog 26 #[.agg #[.int .i64 k1, .int .i64 r1, .int .i64 c1, .int .i64 q1, .slice lo1 n1 cl1], .agg #[.int .i64 k2, .int .i64 r2, .int .i64 c2, .int .i64 q2, .slice lo2 n2 cl2]] v fun e w' => e = .returned (.bool z) ∧ Below v.heap.size v w') := fun v hv => Same_doc HSZ.out lo1 lo2 cl1 cl2 A1 A2 C1 C2 v (by omega) (HLA.out.below (below_then bb_w.out hv)) (HLB.out.below (below_then bb_w.out hv))
  have ezz : (z == z) = true := by simp
  refine wp_region_held_drew (S := (fun v => Below ws.heap.size ws v)) (by kernel_rfl) (below_drew _ _) (fun hHeld => ?_)
  refine wpAnyH_take (i := 0) (oi := _) (v := .slice lor nr nr) rfl (by kernel_rfl) (by kernel_rfl) (by kernel_rfl) (fun _ _ _ h => h) (Or.inl ⟨by rfl, ?_⟩) (by assumption) ?_
  · intro w' hSw
    try dsimp only at hSw
    go_simp <;> first | with_reducible rfl | assumption
  simp only [Act.put]
  refine wpAnyH_take (i := 1) (oi := _) (v := .slice lor2 nr clr2) rfl (by kernel_rfl) (by kernel_rfl) (by kernel_rfl) (fun _ _ _ h => h) (Or.inl ⟨by rfl, ?_⟩) (by assumption) ?_
  · intro w' hSw
    try dsimp only at hSw
    go_simp <;> first | with_reducible rfl | assumption
  simp only [Act.put]
  refine wpAnyH_ready (rs := [2]) (by kernel_rfl) (by simp) ?_
  refine AllReadyH.cons (o := _) rfl (fun K hK => ?_) AllReadyH.nil
  go_simp
  refine (HS1.out _ (below_drew _ _)).mono ?_
  rintro e t1 ⟨rfl, h1⟩
  have T_t1 : Hid (Below ws.heap.size ws t1) := of_drew h1
  clear h1
  refine hK.out _ _ T_t1.out (fun hHeld => ?_)
  clear hK K
  try simp only [Act.put]
  refine wpAnyH_take (i := 3) (oi := _) (v := .bool true) rfl (by kernel_rfl) (by kernel_rfl) (by kernel_rfl) (fun _ _ _ h => h) (Or.inl ⟨by rfl, ?_⟩) (by assumption) ?_
  · intro w' hSw
    try dsimp only at hSw
    go_simp <;> first | with_reducible rfl | assumption
  simp only [Act.put]
  refine wpAnyH_take (i := 4) (oi := _) (v := .slice pod ld pcd) rfl (by kernel_rfl) (by kernel_rfl) (by kernel_rfl) (fun _ _ _ h => h) (Or.inl ⟨by rfl, ?_⟩) (by assumption) ?_
  · intro w' hSw
    try dsimp only at hSw
    go_simp <;> first | with_reducible rfl | assumption
  simp only [Act.put]
  refine wpAnyH_take (i := 5) (oi := _) (v := .slice pod2 ld pcd2) rfl (by kernel_rfl) (by kernel_rfl) (by kernel_rfl) (fun _ _ _ h => h) (Or.inl ⟨by rfl, ?_⟩) (by assumption) ?_
  · intro w' hSw
    try dsimp only at hSw
    go_simp <;> first | with_reducible rfl | assumption
  simp only [Act.put]
  refine wpAnyH_ready (rs := [6]) (by kernel_rfl) (by simp) ?_
  refine AllReadyH.cons (o := _) rfl (fun K hK => ?_) AllReadyH.nil
  go_simp
  refine (HS2.out t1 T_t1.out).mono ?_
  rintro e t2 ⟨rfl, h1⟩
  have T_t2 : Hid (Below ws.heap.size ws t2) := below_then T_t1.out h1
  clear h1
  refine hK.out _ _ T_t2.out (fun hHeld => ?_)
  clear hK K
  try simp only [Act.put]
  refine wpAnyH_take (i := 7) (oi := _) (v := .bool true) rfl (by kernel_rfl) (by kernel_rfl) (by kernel_rfl) (fun _ _ _ h => h) (Or.inl ⟨by rfl, ?_⟩) (by assumption) ?_
  · intro w' hSw
    try dsimp only at hSw
    go_simp <;> first | with_reducible rfl | assumption
  simp only [Act.put]
  refine wpAnyH_take (i := 8) (oi := { dst := some 82, op := Op.move (Operand.tmp 81), type := 4, pos := "law.go:94", after := #[{ on := 7, ground := Ground.data }, { on := 6, ground := Ground.chain }], guard := none }) (v := .bool true) rfl (by kernel_rfl) (by kernel_rfl) (by kernel_rfl) (fun _ _ _ h => h) (Or.inl ⟨by rfl, ?_⟩) (by assumption) ?_
  · intro w' hSw
    try dsimp only at hSw
    go_simp <;> first | with_reducible rfl | assumption
  simp only [Act.put]
  refine wpAnyH_take (i := 9) (oi := { dst := some 83, op := Op.load 27 (Operand.tmp 16), type := 27, pos := "law.go:94", after := #[{ on := 8, ground := Ground.guard }], guard := some (8, true) }) (v := .agg #[.int .i64 k4, .int .i64 r4, .int .i64 c4, .int .i64 q4, .slice lok n4 n4]) rfl (by kernel_rfl) (by kernel_rfl) (by kernel_rfl) (fun _ _ _ h => h) (Or.inl ⟨by rfl, ?_⟩) (by assumption) ?_
  · intro w' hSw
    try dsimp only at hSw
    obtain ⟨l0, l1, l2, l3, l4⟩ := ch_kk.out w' (below_then bb_wj.out hSw)
    go_simp <;> first | with_reducible rfl | assumption
  simp only [Act.put]
  refine wpAnyH_take (i := 10) (oi := { dst := some 84, op := Op.load 27 (Operand.tmp 22), type := 27, pos := "law.go:94", after := #[{ on := 8, ground := Ground.guard }], guard := some (8, true) }) (v := .agg #[.int .i64 k4, .int .i64 r4, .int .i64 c4, .int .i64 q4, .slice lok2 n4 n4]) rfl (by kernel_rfl) (by kernel_rfl) (by kernel_rfl) (fun _ _ _ h => h) (Or.inl ⟨by rfl, ?_⟩) (by assumption) ?_
  · intro w' hSw
    try dsimp only at hSw
    obtain ⟨l0, l1, l2, l3, l4⟩ := ch_k2.out w' (below_then bb_ws.out hSw)
    go_simp <;> first | with_reducible rfl | assumption
  simp only [Act.put]
  refine wpAnyH_ready (rs := [11]) (by kernel_rfl) (by simp) ?_
  refine AllReadyH.cons (o := { dst := some 85, op := Op.call { callee := Callee.value (Operand.func 26), args := #[Operand.tmp 83, Operand.tmp 84], argTypes := #[27, 27] }, type := 4, pos := "law.go:94", after := #[{ on := 9, ground := Ground.data }, { on := 10, ground := Ground.data }, { on := 8, ground := Ground.chain }, { on := 8, ground := Ground.guard }], guard := some (8, true) }) rfl (fun K hK => ?_) AllReadyH.nil
  go_simp
  refine (HS3.out t2 T_t2.out).mono ?_
  rintro e t3 ⟨rfl, h1⟩
  have T_t3 : Hid (Below ws.heap.size ws t3) := below_then T_t2.out h1
  clear h1
  refine hK.out _ _ T_t3.out (fun hHeld => ?_)
  clear hK K
  try simp only [Act.put]
  refine wpAnyH_take (i := 12) (oi := { dst := some 86, op := Op.pick (Operand.tmp 82) (Operand.tmp 85) (Operand.const (Value.bool false)), type := 4, pos := "law.go:94", after := #[{ on := 8, ground := Ground.data }, { on := 11, ground := Ground.data }], guard := none }) (v := .bool true) rfl (by kernel_rfl) (by kernel_rfl) (by kernel_rfl) (fun _ _ _ h => h) (Or.inl ⟨by rfl, ?_⟩) (by assumption) ?_
  · intro w' hSw
    try dsimp only at hSw
    go_simp <;> first | with_reducible rfl | assumption
  simp only [Act.put]
  refine wpAnyH_take (i := 13) (oi := { dst := some 87, op := Op.move (Operand.tmp 86), type := 4, pos := "law.go:94", after := #[{ on := 12, ground := Ground.data }, { on := 11, ground := Ground.chain }], guard := none }) (v := .bool true) rfl (by kernel_rfl) (by kernel_rfl) (by kernel_rfl) (fun _ _ _ h => h) (Or.inl ⟨by rfl, ?_⟩) (by assumption) ?_
  · intro w' hSw
    try dsimp only at hSw
    go_simp <;> first | with_reducible rfl | assumption
  simp only [Act.put]
  refine wpAnyH_take (i := 14) (oi := { dst := some 88, op := Op.load 27 (Operand.tmp 10), type := 27, pos := "law.go:94", after := #[{ on := 13, ground := Ground.guard }], guard := some (13, true) }) (v := .agg #[.int .i64 k1, .int .i64 r1, .int .i64 c1, .int .i64 q1, .slice lox n1 clx]) rfl (by kernel_rfl) (by kernel_rfl) (by kernel_rfl) (fun _ _ _ h => h) (Or.inl ⟨by rfl, ?_⟩) (by assumption) ?_
  · intro w' hSw
    try dsimp only at hSw
    obtain ⟨l0, l1, l2, l3, l4⟩ := ch_x.out w' (below_then bb_wd.out hSw)
    go_simp <;> first | with_reducible rfl | assumption
  simp only [Act.put]
  refine wpAnyH_take (i := 15) (oi := { dst := some 89, op := Op.load 27 (Operand.tmp 11), type := 27, pos := "law.go:94", after := #[{ on := 13, ground := Ground.guard }], guard := some (13, true) }) (v := .agg #[.int .i64 k2, .int .i64 r2, .int .i64 c2, .int .i64 q2, .slice loy n2 cly]) rfl (by kernel_rfl) (by kernel_rfl) (by kernel_rfl) (fun _ _ _ h => h) (Or.inl ⟨by rfl, ?_⟩) (by assumption) ?_
  · intro w' hSw
    try dsimp only at hSw
    obtain ⟨l0, l1, l2, l3, l4⟩ := ch_y.out w' (below_then bb_wf.out hSw)
    go_simp <;> first | with_reducible rfl | assumption
  simp only [Act.put]
  refine wpAnyH_take (i := 17) (oi := { dst := some 91, op := Op.load 27 (Operand.tmp 4), type := 27, pos := "law.go:94", after := #[{ on := 13, ground := Ground.guard }], guard := some (13, true) }) (v := .agg #[.int .i64 k1, .int .i64 r1, .int .i64 c1, .int .i64 q1, .slice lo1 n1 cl1]) rfl (by kernel_rfl) (by kernel_rfl) (by kernel_rfl) (fun _ _ _ h => h) (Or.inl ⟨by rfl, ?_⟩) (by assumption) ?_
  · intro w' hSw
    try dsimp only at hSw
    obtain ⟨l0, l1, l2, l3, l4⟩ := ch_a.out w' (below_then bb_wA.out hSw)
    go_simp <;> first | with_reducible rfl | assumption
  simp only [Act.put]
  refine wpAnyH_take (i := 18) (oi := { dst := some 92, op := Op.load 27 (Operand.tmp 5), type := 27, pos := "law.go:94", after := #[{ on := 13, ground := Ground.guard }], guard := some (13, true) }) (v := .agg #[.int .i64 k2, .int .i64 r2, .int .i64 c2, .int .i64 q2, .slice lo2 n2 cl2]) rfl (by kernel_rfl) (by kernel_rfl) (by kernel_rfl) (fun _ _ _ h => h) (Or.inl ⟨by rfl, ?_⟩) (by assumption) ?_
  · intro w' hSw
    try dsimp only at hSw
    obtain ⟨l0, l1, l2, l3, l4⟩ := ch_b.out w' (below_then bb_wB.out hSw)
    go_simp <;> first | with_reducible rfl | assumption
  simp only [Act.put]
  refine wpAnyH_ready (rs := [16]) (by kernel_rfl) (by simp) ?_
  refine AllReadyH.cons (o := { dst := some 90, op := Op.call { callee := Callee.value (Operand.func 34), args := #[Operand.tmp 88, Operand.tmp 89], argTypes := #[27, 27] }, type := 4, pos := "law.go:94", after := #[{ on := 14, ground := Ground.data }, { on := 15, ground := Ground.data }, { on := 13, ground := Ground.chain }, { on := 13, ground := Ground.guard }], guard := some (13, true) }) rfl (fun K hK => ?_) AllReadyH.nil
  go_simp
  refine (HS4.out t3 T_t3.out).mono ?_
  rintro e t4 ⟨rfl, h1⟩
  have T_t4 : Hid (Below ws.heap.size ws t4) := below_then T_t3.out h1
  clear h1
  refine hK.out _ _ T_t4.out (fun hHeld => ?_)
  clear hK K
  try simp only [Act.put]
  refine wpAnyH_ready (rs := [19]) (by kernel_rfl) (by simp) ?_
  refine AllReadyH.cons (o := { dst := some 93, op := Op.call { callee := Callee.value (Operand.func 26), args := #[Operand.tmp 91, Operand.tmp 92], argTypes := #[27, 27] }, type := 4, pos := "law.go:94", after := #[{ on := 17, ground := Ground.data }, { on := 18, ground := Ground.data }, { on := 16, ground := Ground.chain }, { on := 13, ground := Ground.guard }], guard := some (13, true) }) rfl (fun K hK => ?_) AllReadyH.nil
  go_simp
  refine (HS5.out t4 T_t4.out).mono ?_
  rintro e wt ⟨rfl, h1⟩
  have T_wt : Hid (Below ws.heap.size ws wt) := below_then T_t4.out h1
  clear h1
  refine hK.out _ _ T_wt.out (fun hHeld => ?_)
  clear hK K
  try simp only [Act.put]
  refine wpAnyH_take (i := 20) (oi := { dst := some 94, op := Op.binOp BinOp.eql 4 (Operand.tmp 90) (Operand.tmp 93) 4, type := 4, pos := "law.go:94", after := #[{ on := 16, ground := Ground.data }, { on := 19, ground := Ground.data }, { on := 13, ground := Ground.guard }], guard := some (13, true) }) (v := .bool true) rfl (by kernel_rfl) (by kernel_rfl) (by kernel_rfl) (fun _ _ _ h => h) (Or.inl ⟨by rfl, ?_⟩) (by assumption) ?_
  · intro w' hSw
    try dsimp only at hSw
    go_simp <;> first | with_reducible rfl | assumption
  simp only [Act.put]
  refine wpAnyH_take (i := 21) (oi := { dst := some 95, op := Op.pick (Operand.tmp 87) (Operand.tmp 94) (Operand.const (Value.bool false)), type := 4, pos := "law.go:94", after := #[{ on := 13, ground := Ground.data }, { on := 20, ground := Ground.data }], guard := none }) (v := .bool true) rfl (by kernel_rfl) (by kernel_rfl) (by kernel_rfl) (fun _ _ _ h => h) (Or.inl ⟨by rfl, ?_⟩) (by assumption) ?_
  · intro w' hSw
    try dsimp only at hSw
    go_simp <;> first | with_reducible rfl | assumption
  simp only [Act.put]
  refine wpAnyH_take (i := 22) (oi := { dst := some 24, op := Op.assign (Operand.tmp 95), type := 4, pos := "law.go:94", after := #[{ on := 21, ground := Ground.data }, { on := 19, ground := Ground.chain }, { on := 0, ground := Ground.phase }, { on := 1, ground := Ground.phase }, { on := 2, ground := Ground.phase }, { on := 3, ground := Ground.phase }, { on := 4, ground := Ground.phase }, { on := 5, ground := Ground.phase }, { on := 6, ground := Ground.phase }, { on := 7, ground := Ground.phase }, { on := 8, ground := Ground.phase }, { on := 9, ground := Ground.phase }, { on := 10, ground := Ground.phase }, { on := 11, ground := Ground.phase }, { on := 12, ground := Ground.phase }, { on := 13, ground := Ground.phase }, { on := 14, ground := Ground.phase }, { on := 15, ground := Ground.phase }, { on := 16, ground := Ground.phase }, { on := 17, ground := Ground.phase }, { on := 18, ground := Ground.phase }, { on := 19, ground := Ground.phase }, { on := 20, ground := Ground.phase }, { on := 21, ground := Ground.phase }], guard := none }) (v := .bool true) rfl (by kernel_rfl) (by kernel_rfl) (by kernel_rfl) (fun _ _ _ h => h) (Or.inl ⟨by rfl, ?_⟩) (by assumption) ?_
  · intro w' hSw
    try dsimp only at hSw
    go_simp <;> first | with_reducible rfl | assumption
  simp only [Act.put]
  refine wpAnyH_done (by kernel_rfl) ?_ _
  clear T_t1 T_t2 T_t3 T_t4 HS1 HS2 HS3 HS4 HS5 hHeld
  have hst_wt : Hid (Below ws.heap.size ws wt) := T_wt.out
  replace bb_w : Hid (Below w.heap.size w wt) := below_then bb_w.out hst_wt.out
  replace bb_wA : Hid (Below wA.heap.size wA wt) := below_then bb_wA.out hst_wt.out
  replace bb_wB : Hid (Below wB.heap.size wB wt) := below_then bb_wB.out hst_wt.out
  replace bb_wP : Hid (Below wP.heap.size wP wt) := below_then bb_wP.out hst_wt.out
  replace bb_wc : Hid (Below wc.heap.size wc wt) := below_then bb_wc.out hst_wt.out
  replace bb_wd : Hid (Below wd.heap.size wd wt) := below_then bb_wd.out hst_wt.out
  replace bb_we : Hid (Below we.heap.size we wt) := below_then bb_we.out hst_wt.out
  replace bb_wf : Hid (Below wf.heap.size wf wt) := below_then bb_wf.out hst_wt.out
  replace bb_wg : Hid (Below wg.heap.size wg wt) := below_then bb_wg.out hst_wt.out
  replace bb_wh : Hid (Below wh.heap.size wh wt) := below_then bb_wh.out hst_wt.out
  replace bb_wi : Hid (Below wi.heap.size wi wt) := below_then bb_wi.out hst_wt.out
  replace bb_wj : Hid (Below wj.heap.size wj wt) := below_then bb_wj.out hst_wt.out
  replace bb_wk : Hid (Below wk.heap.size wk wt) := below_then bb_wk.out hst_wt.out
  replace bb_wl : Hid (Below wl.heap.size wl wt) := below_then bb_wl.out hst_wt.out
  replace bb_wm : Hid (Below wm.heap.size wm wt) := below_then bb_wm.out hst_wt.out
  replace bb_ws : Hid (Below ws.heap.size ws wt) := below_then bb_ws.out hst_wt.out
  have z_wA := hst_wA.out.size
  have z_wB := hst_wB.out.size
  have z_wP := hst_wP.out.size
  have z_wa := hst_wa.out.size
  have z_wb := hst_wb.out.size
  have z_wc := hst_wc.out.size
  have z_wd := hst_wd.out.size
  have z_we := hst_we.out.size
  have z_wf := hst_wf.out.size
  have z_wg := hst_wg.out.size
  have z_wh := hst_wh.out.size
  have z_wi := hst_wi.out.size
  have z_wj := hst_wj.out.size
  have z_wk := hst_wk.out.size
  have z_wl := hst_wl.out.size
  have z_wm := hst_wm.out.size
  have z_ws := hst_ws.out.size
  have z_wt := hst_wt.out.size
  have HSR : Hid (∀ j, j < 2 * nr → Sc wt (Ar j) (Gr j).length (Cr j)) := fun j hj => by
    rcases HIR.out with ⟨e, _⟩ | ⟨l, _, _, h⟩
    · omega
    · exact (h j hj).sc.kb (.below bb_wg.out)
  have HSD : Hid (∀ j, j < ld → Sc wt (Bd j) (Dd j).b.length (Kd j)) := fun j hj => ((HID.out.2 j hj).2.2.2 rfl).sc.kb (.below bb_wh.out)
  have HGR : Hid (∀ j a, j < 2 * nr → Ar j = some a → wf.heap.size ≤ a.block ∧ a.block < wg.heap.size) := fun j a hj ha => ⟨HIR.out.ge.2 j a hj ha, im_lt HIR.out j a hj ha⟩
  have HGD : Hid (∀ j a, j < ld → Bd j = some a → wg.heap.size ≤ a.block ∧ a.block < wh.heap.size) := fun j a hj ha => by have := (HID.out.2 j hj).2.1 a ha; exact ⟨this.1, this.2.1⟩
  go_wp2_with fail
  go_loopw [25] (fun x wr => ∃ i : Nat, i ≤ nr ∧ x = .int .i64 i ∧ Hid (∀ j, j < 2 * nr → Sc wr (Ar j) (Gr j).length (Cr j)) ∧ Hid (∀ j, j < ld → Sc wr (Bd j) (Dd j).b.length (Kd j)) ∧ Hid (Only (fun b => ∃ j a, j < 2 * nr ∧ Ar j = some a ∧ a.block = b) wt wr)) (fun x _ => nr - (intOf x).toNat)
  case atStart => exact ⟨0, Nat.zero_le _, rfl, HSR.out, HSD.out, Only.refl _ _⟩
  case round =>
    obtain ⟨i, hi, rfl, hs, hd, ho⟩ := hrel
    by_cases hlt : i < nr
    · obtain ⟨l, rfl, hr, hw⟩ : ∃ l, lor = some ⟨l, 0, none⟩ ∧ RSl wg (fun b => wf.heap.size ≤ b) l (2 * nr) Ar Cr Gr ∧ ∀ i, i < 2 * nr → OwC wf.heap.size wg (Ar i) (Cr i) (Gr i) := by
        rcases HIR.out with ⟨e, _⟩ | h
        · omega
        · exact h
      have hcell : Hid (∀ v, Only (fun b => ∃ j a, j < 2 * nr ∧ Ar j = some a ∧ a.block = b) wt v → ∀ j, j < 2 * nr → v.cell? ⟨l, j, none⟩ = some (.slice (Ar j) (Gr j).length (Cr j))) := fun v hv j hj => hv.cell (held (hr.cell j hj) bb_wg.out) (by rintro ⟨j2, a, hj2, ha, e⟩; exact (hr.at_ j2 a hj2 ha).2 e)
      have c0 := hcell.out wr ho.out (2 * i) (by omega)
      rw [Nat.mul_comm 2 i] at c0
      have HSC := scratch_any (Ar (i * 2)) (Gr (i * 2)).length (Cr (i * 2)) (by have := HNR.out.2 (i * 2) (by omega); omega) wr (hs.out (i * 2) (by omega))
      have i1 : (0 : Int) ≤ (i : Int) := by omega
      have i2 : (i : Int) < (nr : Int) := by omega
      clear hr hw
      go_wp2_with fail
      refine HSC.mono ?_
      rintro e v1 ⟨rfl, ho1, hk1⟩
      have HO1 : Hid (Only (fun b => ∃ j a, j < 2 * nr ∧ Ar j = some a ∧ a.block = b) wt v1) := ho.out.trans (ho1.mono fun b _ ⟨a, ha, e⟩ => ⟨i * 2, a, by omega, ha, e⟩)
      have c1 := hcell.out v1 HO1.out (i * 2 + 1) (by omega)
      have HSC2 := scratch_any (Ar (i * 2 + 1)) (Gr (i * 2 + 1)).length (Cr (i * 2 + 1)) (by have := HNR.out.2 (i * 2 + 1) (by omega); omega) v1 ((hs.out (i * 2 + 1) (by omega)).kb hk1)
      have HK1 : Hid (Kb wr v1) := hk1
      clear ho1 hk1 HSC c0
      go_wp2_with fail
      refine HSC2.mono ?_
      rintro e v2 ⟨rfl, ho2, hk2⟩
      go_wp2_with fail
      go_roundw
      case rel => exact ⟨i + 1, by omega, by go_num, fun j hj => ((hs.out j hj).kb HK1.out).kb hk2, fun j hj => ((hd.out j hj).kb HK1.out).kb hk2, HO1.out.trans (ho2.mono fun b _ ⟨a, ha, e⟩ => ⟨i * 2 + 1, a, by omega, ha, e⟩)⟩
      case measure => simp [intOf]; omega
    · obtain ⟨v0, rfl⟩ : ∃ x, x = wr := ⟨wr, rfl⟩
      have HO0 : Hid (Only (fun b => ∃ j a, j < 2 * nr ∧ Ar j = some a ∧ a.block = b) wt v0) := ho.out
      have HD0 : Hid (∀ j, j < ld → Sc v0 (Bd j) (Dd j).b.length (Kd j)) := hd.out
      have z_v0 := ho.out.size
      clear hs hd ho
      go_wp2_with fail
      go_loopw [26] (fun x wr => ∃ i : Nat, i ≤ ld ∧ x = .int .i64 i ∧ Hid (∀ j, j < ld → Sc wr (Bd j) (Dd j).b.length (Kd j)) ∧ Hid (Only (fun b => ∃ j a, j < ld ∧ Bd j = some a ∧ a.block = b) v0 wr)) (fun x _ => ld - (intOf x).toNat)
      case atStart => exact ⟨0, Nat.zero_le _, rfl, HD0.out, Only.refl _ _⟩
      case round =>
        obtain ⟨i2, hi2, rfl, hd, ho⟩ := hrel
        by_cases hlt2 : i2 < ld
        · obtain ⟨g, rfl, g1, g2, _, hcy⟩ := pus_at HID.out (by omega)
          have c0 := (hcy i2 hlt2).2.2.2
          have c0 : wr.cell? ⟨g, i2 * 4 + 3, none⟩ = some (.slice (Bd i2) (Dd i2).b.length (Kd i2)) := ho.out.cell (HO0.out.cell (held c0 bb_wh.out) (by rintro ⟨j, a, hj, ha, e⟩; have := (HGR.out j a hj ha).2; simp only at e; omega)) (by rintro ⟨j, a, hj, ha, e⟩; exact ((HID.out.2 j hj).2.1 a ha).2.2 _ rfl e)
          have HSC := scratch_any (Bd i2) (Dd i2).b.length (Kd i2) (by have := HND.out.2 i2 hlt2; omega) wr (hd.out i2 hlt2)
          have j1 : (0 : Int) ≤ (i2 : Int) := by omega
          have j2 : (i2 : Int) < (ld : Int) := by omega
          clear hcy
          go_wp2_with fail
          refine HSC.mono ?_
          rintro e v1 ⟨rfl, ho1, hk1⟩
          go_wp2_with fail
          go_roundw
          case rel => exact ⟨i2 + 1, by omega, by go_num, fun j hj => (hd.out j hj).kb hk1, ho.out.trans (ho1.mono fun b _ ⟨a, ha, e⟩ => ⟨i2, a, hlt2, ha, e⟩)⟩
          case measure => simp [intOf]; omega
        · have HB3 : Hid (Below wf.heap.size wt wr) := (HO0.out.below (fun b ⟨j, a, hj, ha, e⟩ => by have := (HGR.out j a hj ha).1; omega) (by omega)).trans (ho.out.below (fun b ⟨j, a, hj, ha, e⟩ => by have := (HGD.out j a hj ha).1; omega) (by omega))
          replace bb_w : Hid (Below w.heap.size w wr) := bb_w.out.trans (HB3.out.mono (by omega))
          replace bb_wA : Hid (Below wA.heap.size wA wr) := bb_wA.out.trans (HB3.out.mono (by omega))
          replace bb_wB : Hid (Below wB.heap.size wB wr) := bb_wB.out.trans (HB3.out.mono (by omega))
          replace bb_wc : Hid (Below wc.heap.size wc wr) := bb_wc.out.trans (HB3.out.mono (by omega))
          replace bb_wd : Hid (Below wd.heap.size wd wr) := bb_wd.out.trans (HB3.out.mono (by omega))
          replace bb_we : Hid (Below we.heap.size we wr) := bb_we.out.trans (HB3.out.mono (by omega))
          replace bb_wf : Hid (Below wf.heap.size wf wr) := bb_wf.out.trans (HB3.out.mono (by omega))
          obtain ⟨rd_x0, rd_x1, rd_x2, rd_x3, rd_x4⟩ := ch_x.out wr bb_wd.out
          obtain ⟨rd_a0, rd_a1, rd_a2, rd_a3, rd_a4⟩ := ch_a.out wr bb_wA.out
          obtain ⟨rd_y0, rd_y1, rd_y2, rd_y3, rd_y4⟩ := ch_y.out wr bb_wf.out
          obtain ⟨rd_b0, rd_b1, rd_b2, rd_b3, rd_b4⟩ := ch_b.out wr bb_wB.out
          have HSM : Hid (Calls Try.prog 26 #[.agg #[.int .i64 k1, .int .i64 r1, .int .i64 c1, .int .i64 q1, .slice lox n1 clx], .agg #[.int .i64 k1, .int .i64 r1, .int .i64 c1, .int .i64 q1, .slice lo1 n1 cl1]] wr fun e w' => e = .returned (.bool true) ∧ Below wr.heap.size wr w') := Same_doc (sme_refl _ _ _ _ _ _) lox lo1 clx cl1 Ax A1 Cx C1 wr (by omega) (HXL.out.below bb_wc.out) (HLA.out.below bb_w.out)
          have HSP : Hid (∀ v, Below wr.heap.size wr v → Calls Try.prog 26 #[.agg #[.int .i64 k2, .int .i64 r2, .int .i64 c2, .int .i64 q2, .slice loy n2 cly], .agg #[.int .i64 k2, .int .i64 r2, .int .i64 c2, .int .i64 q2, .slice lo2 n2 cl2]] v fun e w' => e = .returned (.bool true) ∧ Below v.heap.size v w') := fun v hv => Same_doc (sme_refl _ _ _ _ _ _) loy lo2 cly cl2 Ay A2 Cy C2 v (by omega) (HYL.out.below (below_then bb_we.out hv)) (HLB.out.below (below_then bb_w.out hv))
          have e1 : (xr == xr) = true := by simp
          have e2 : (xd == xd) = true := by simp
          have e3 : (xk == xk) = true := by simp
          have tok2 : True := trivial
          go_wp2_with (first
            | (go_at_call 26; have _t := tok2; clear _t tok2; refine HSM.out.mono ?_; rintro e s1 ⟨rfl, hs1⟩; have S1 : Hid (Below wr.heap.size wr s1) := hs1; obtain ⟨y0, y1, y2, y3, y4⟩ := ch_y.out s1 (below_then bb_wf.out hs1); obtain ⟨b0, b1, b2, b3, b4⟩ := ch_b.out s1 (below_then bb_wB.out hs1); clear hs1)
            | (go_at_call 26; refine (HSP.out s1 S1.out).mono ?_; rintro e s2 ⟨rfl, hs2⟩; have S2 : Hid (Below wr.heap.size wr s2) := below_then S1.out hs2; clear hs2))
          go_ret
          exact ⟨rfl, below_then bb_w.out S2.out⟩
end
end Go.Proofs.Ytenlfhdchflnjaa
