import Derived.StillTailTactics
import Derived.Test.YtmoenmpbkockoaaGreatOj3
namespace Go.Proofs.YtmoenmpbkockoaaGreat
open Go.RowKit
set_option maxHeartbeats 4000000 in
set_option maxRecDepth 100000 in
theorem parts_far {k r c q : Int} (w : World) (lo : Option Addr) (n cl : Nat) (o off a b E : Int) (hE : E ≠ 0) (m : Nat) (G : Nat -> UInt8)
    (HB : Hid (∀ u, Below w.heap.size w u -> Calls Tryz.prog 38 #[.agg #[.int .i64 k, .int .i64 r, .int .i64 c, .int .i64 q, .slice lo n cl], .int .i64 o] u (AnsB u E m G)))
    (HL : Hid (∀ u, Below w.heap.size w u -> Calls Tryz.prog 36 #[.agg #[.int .i64 k, .int .i64 r, .int .i64 c, .int .i64 q, .slice lo n cl], .int .i64 o] u fun e w' => (∃ L f, e = .returned (.tuple #[.int .i64 L, .int .i64 f])) /\ Below u.heap.size u w')) :
    Calls Tryz.prog 8 #[.agg #[.int .i64 k, .int .i64 r, .int .i64 c, .int .i64 q, .slice lo n cl], .int .i64 o, .int .i64 off, .int .i64 a, .int .i64 b] w fun e w' => e = .returned (.bool true) /\ Below w.heap.size w w' := by
  have hz : (E != 0) = true := by simpa using hE
  unfold AnsB at HB
  rw [lenE_ne m hE] at HB
  clear hE
  obtain ⟨w0, hw0⟩ : ∃ w0, w0 = w.alloc (.cells #[.int .i64 k, .int .i64 r, .int .i64 c, .int .i64 q, .slice lo n cl] 51) := ⟨_, rfl⟩
  have b0 : Below w.heap.size w w0 := by rw [hw0]; exact below_alloc _ _
  have HQ : Hid (∀ u, Below w0.heap.size w0 u -> u.cell? ⟨w.heap.size, 0, none⟩ = some (.int .i64 k) /\ u.cell? ⟨w.heap.size, 1, none⟩ = some (.int .i64 r) /\ u.cell? ⟨w.heap.size, 2, none⟩ = some (.int .i64 c) /\ u.cell? ⟨w.heap.size, 3, none⟩ = some (.int .i64 q) /\ u.cell? ⟨w.heap.size, 4, none⟩ = some (.slice lo n cl)) := fun u hu => ⟨blk_held hw0 hu 0 rfl, blk_held hw0 hu 1 rfl, blk_held hw0 hu 2 rfl, blk_held hw0 hu 3 rfl, blk_held hw0 hu 4 rfl⟩
  have HBB : Hid (Below w.heap.size w w0) := b0
  have HAW : Hid (∀ w, Calls Tryz.prog 33 #[] w fun e w' => e = .returned (.bool true) /\ Below w.heap.size w w') := awake18_any
  have HBI : Hid (∀ w, Calls Tryz.prog 34 #[.agg #[.int .i64 k, .int .i64 r, .int .i64 c, .int .i64 q, .slice lo n cl]] w fun e w' => (∃ b, e = .returned (.bool b)) /\ Below w.heap.size w w') := fun w => big_any k r c q lo n cl w
  go_enter Tryz.func8, Tryz.ntmps8
  go_wp2_with fail
  rw [<- hw0]
  clear hw0 b0
  refine (HAW.out _).mono ?_
  rintro e wa ⟨rfl, ha⟩
  obtain ⟨s0, s1, s2, s3, s4⟩ := HQ.out wa ha
  clear HAW
  go_wp2_with fail
  refine (HBI.out _).mono ?_
  rintro e wb ⟨⟨bi, rfl⟩, hb⟩
  have HWB : Hid (Below w0.heap.size w0 wb) := below_then ha hb
  clear s0 s1 s2 s3 s4 ha hb HBI
  obtain ⟨s0, s1, s2, s3, s4⟩ := HQ.out wb HWB.out
  cases bi
  case true =>
    go_wp2_with fail
    go_ret
    exact ⟨rfl, below_then HBB.out HWB.out⟩
  go_wp2_with fail
  refine (HB.out _ (below_then HBB.out HWB.out)).mono ?_
  rintro e wc ⟨xo, xc, rfl, _, hc⟩
  have HWC : Hid (Below w0.heap.size w0 wc) := below_then HWB.out hc
  clear s0 s1 s2 s3 s4 hc HB
  obtain ⟨s0, s1, s2, s3, s4⟩ := HQ.out wc HWC.out
  go_wp2_with fail
  refine (HL.out _ (below_then HBB.out HWC.out)).mono ?_
  rintro e wd ⟨⟨L, f, rfl⟩, hd⟩
  have HWD : Hid (Below w0.heap.size w0 wd) := below_then HWC.out hd
  clear s0 s1 s2 s3 s4 hd HL
  go_wp2_with fail
  go_ret
  exact ⟨rfl, below_then HBB.out HWD.out⟩
set_option maxHeartbeats 4000000 in
set_option maxRecDepth 100000 in
theorem parts_err {k r c q : Int} (w : World) (lo : Option Addr) (n cl : Nat) (o off a b e1 : Int) (he : (e1 = 2 /\ (off < 0 \/ a < 0)) \/ (e1 = 3 /\ 0 <= off /\ 0 <= a)) (a0 m : Nat) (G G1 : Nat -> UInt8)
    (HB : Hid (∀ u, Below w.heap.size w u -> Calls Tryz.prog 38 #[.agg #[.int .i64 k, .int .i64 r, .int .i64 c, .int .i64 q, .slice lo n cl], .int .i64 o] u (AnsB u 0 a0 G)))
    (HL : Hid (∀ u, Below w.heap.size w u -> Calls Tryz.prog 36 #[.agg #[.int .i64 k, .int .i64 r, .int .i64 c, .int .i64 q, .slice lo n cl], .int .i64 o] u fun e w' => e = .returned (.tuple #[.int .i64 (a0 : Int), .int .i64 0]) /\ Below u.heap.size u w'))
    (HP : Hid (∀ u, Below w.heap.size w u -> Calls Tryz.prog 40 #[.agg #[.int .i64 k, .int .i64 r, .int .i64 c, .int .i64 q, .slice lo n cl], .int .i64 o, .int .i64 off, .int .i64 a] u (AnsB u e1 m G1))) :
    Calls Tryz.prog 8 #[.agg #[.int .i64 k, .int .i64 r, .int .i64 c, .int .i64 q, .slice lo n cl], .int .i64 o, .int .i64 off, .int .i64 a, .int .i64 b] w fun e w' => e = .returned (.bool true) /\ Below w.heap.size w w' := by
  have hne : e1 ≠ 0 := by omega
  have hz : (e1 != 0) = true := by simpa using hne
  unfold AnsB at HB HP
  rw [lenE_zero] at HB
  rw [lenE_ne m hne] at HP
  have HE : Hid ((e1 = 2 /\ (off < 0 \/ a < 0)) \/ (e1 = 3 /\ 0 <= off /\ 0 <= a)) := he
  clear hne he
  obtain ⟨w0, hw0⟩ : ∃ w0, w0 = w.alloc (.cells #[.int .i64 k, .int .i64 r, .int .i64 c, .int .i64 q, .slice lo n cl] 51) := ⟨_, rfl⟩
  have b0 : Below w.heap.size w w0 := by rw [hw0]; exact below_alloc _ _
  have HQ : Hid (∀ u, Below w0.heap.size w0 u -> u.cell? ⟨w.heap.size, 0, none⟩ = some (.int .i64 k) /\ u.cell? ⟨w.heap.size, 1, none⟩ = some (.int .i64 r) /\ u.cell? ⟨w.heap.size, 2, none⟩ = some (.int .i64 c) /\ u.cell? ⟨w.heap.size, 3, none⟩ = some (.int .i64 q) /\ u.cell? ⟨w.heap.size, 4, none⟩ = some (.slice lo n cl)) := fun u hu => ⟨blk_held hw0 hu 0 rfl, blk_held hw0 hu 1 rfl, blk_held hw0 hu 2 rfl, blk_held hw0 hu 3 rfl, blk_held hw0 hu 4 rfl⟩
  have HBB : Hid (Below w.heap.size w w0) := b0
  have HAW : Hid (∀ w, Calls Tryz.prog 33 #[] w fun e w' => e = .returned (.bool true) /\ Below w.heap.size w w') := awake18_any
  have HBI : Hid (∀ w, Calls Tryz.prog 34 #[.agg #[.int .i64 k, .int .i64 r, .int .i64 c, .int .i64 q, .slice lo n cl]] w fun e w' => (∃ b, e = .returned (.bool b)) /\ Below w.heap.size w w') := fun w => big_any k r c q lo n cl w
  go_enter Tryz.func8, Tryz.ntmps8
  go_wp2_with fail
  rw [<- hw0]
  clear hw0 b0
  refine (HAW.out _).mono ?_
  rintro e wa ⟨rfl, ha⟩
  obtain ⟨s0, s1, s2, s3, s4⟩ := HQ.out wa ha
  clear HAW
  go_wp2_with fail
  refine (HBI.out _).mono ?_
  rintro e wb ⟨⟨bi, rfl⟩, hb⟩
  have HWB : Hid (Below w0.heap.size w0 wb) := below_then ha hb
  clear s0 s1 s2 s3 s4 ha hb HBI
  obtain ⟨s0, s1, s2, s3, s4⟩ := HQ.out wb HWB.out
  cases bi
  case true =>
    go_wp2_with fail
    go_ret
    exact ⟨rfl, below_then HBB.out HWB.out⟩
  go_wp2_with fail
  refine (HB.out _ (below_then HBB.out HWB.out)).mono ?_
  rintro e wc ⟨xo, xc, rfl, _, hc⟩
  have HWC : Hid (Below w0.heap.size w0 wc) := below_then HWB.out hc
  clear s0 s1 s2 s3 s4 hc HB
  obtain ⟨s0, s1, s2, s3, s4⟩ := HQ.out wc HWC.out
  go_wp2_with fail
  refine (HL.out _ (below_then HBB.out HWC.out)).mono ?_
  rintro e wd ⟨rfl, hd⟩
  have HWD : Hid (Below w0.heap.size w0 wd) := below_then HWC.out hd
  clear s0 s1 s2 s3 s4 hd HL
  obtain ⟨s0, s1, s2, s3, s4⟩ := HQ.out wd HWD.out
  go_wp2_with fail
  refine (HP.out _ (below_then HBB.out HWD.out)).mono ?_
  rintro e we ⟨yo, yc, rfl, _, hh⟩
  have HWE : Hid (Below w0.heap.size w0 we) := below_then HWD.out hh
  clear s0 s1 s2 s3 s4 hh HP
  rcases HE.out with ⟨h1, h2 | h2⟩ | ⟨h1, h2, h3⟩
  all_goals (
    clear HE
    subst h1
    go_wp2)
  all_goals (
    go_ret
    exact ⟨ret_bool (by first | rfl | (simp; omega)), below_then HBB.out HWE.out⟩)
end Go.Proofs.YtmoenmpbkockoaaGreat
namespace Go.Proofs.YtmoenmpbkockoaaGreat
open Go.RowKit
theorem lsF_congr {n : Nat} {F G : Nat -> UInt8} (h : ∀ i, i < n -> F i = G i) : lsF n F = lsF n G := by
  unfold lsF
  exact List.map_congr_left fun i hi => h i (List.mem_range.1 hi)
theorem lsF_add (n m : Nat) (F : Nat -> UInt8) : lsF (n + m) F = lsF n F ++ lsF m (fun i => F (n + i)) := by
  unfold lsF
  rw [List.range_add, List.map_append, List.map_map]
  rfl
theorem sOf_append (a b : List UInt8) : sOf a ++ sOf b = sOf (a ++ b) := by
  apply ByteArray.ext
  rw [ByteArray.data_append]
  simp [sOf]
theorem sOf_size (a : List UInt8) : (sOf a).size = a.length := by simp [sOf, ByteArray.size]
theorem bec_cut {w : World} {b o n cp f h : Nat} {G : Nat -> UInt8} (hb : Bec w (some ⟨b, o, none⟩) n cp G) (hfh : f <= h) (hh : h <= n) : Bec w (some ⟨b, o + f, none⟩) (h - f) (cp - f) (fun p => G (f + p)) :=
  ⟨fun hp => by
    obtain ⟨b', o', e, hc⟩ := hb.rd (by omega)
    cases e
    exact ⟨b, o + f, rfl, fun j hj => by rw [Nat.add_assoc]; exact hc (f + j) (by omega)⟩, (fun e => by cases e), by have := hb.room; omega⟩
set_option maxHeartbeats 4000000 in
set_option maxRecDepth 100000 in
theorem parts_near {k r c q : Int} (w : World) (lo : Option Addr) (n cl : Nat) (o b : Int) (of0 m0 a0 f h : Nat) (hf : f = min of0 a0) (hh : h = min (of0 + m0) a0) (hbig : of0 + m0 <= 1000000) (hbig2 : a0 <= 1000000) (G : Nat -> UInt8) (e2 e3 mz : Int) (hmz : mz = wrap64 ((m0 : Int) + b)) (ny nz : Nat) (Gy Gz : Nat -> UInt8)
    (hend : e2 = 0 -> e3 = 0 -> ¬ b < 0 /\ sOf (lsF (h - f) (fun p => G (f + p))) ++ sOf (lsF ny Gy) = sOf (lsF nz Gz) /\ ny <= 1000000)
    (HB : Hid (∀ u, Below w.heap.size w u -> Calls Tryz.prog 38 #[.agg #[.int .i64 k, .int .i64 r, .int .i64 c, .int .i64 q, .slice lo n cl], .int .i64 o] u (AnsB u 0 a0 G)))
    (HL : Hid (∀ u, Below w.heap.size w u -> Calls Tryz.prog 36 #[.agg #[.int .i64 k, .int .i64 r, .int .i64 c, .int .i64 q, .slice lo n cl], .int .i64 o] u fun e w' => e = .returned (.tuple #[.int .i64 (a0 : Int), .int .i64 0]) /\ Below u.heap.size u w'))
    (HP : Hid (∀ u, Below w.heap.size w u -> Calls Tryz.prog 40 #[.agg #[.int .i64 k, .int .i64 r, .int .i64 c, .int .i64 q, .slice lo n cl], .int .i64 o, .int .i64 (of0 : Int), .int .i64 (m0 : Int)] u (AnsB u 0 (h - f) (fun p => G (f + p)))))
    (HY : Hid (∀ u, Below w.heap.size w u -> Calls Tryz.prog 40 #[.agg #[.int .i64 k, .int .i64 r, .int .i64 c, .int .i64 q, .slice lo n cl], .int .i64 o, .int .i64 ((of0 : Int) + (m0 : Int)), .int .i64 b] u (AnsB u e2 ny Gy)))
    (HZ : Hid (∀ u, Below w.heap.size w u -> Calls Tryz.prog 40 #[.agg #[.int .i64 k, .int .i64 r, .int .i64 c, .int .i64 q, .slice lo n cl], .int .i64 o, .int .i64 (of0 : Int), .int .i64 mz] u (AnsB u e3 nz Gz))) :
    Calls Tryz.prog 8 #[.agg #[.int .i64 k, .int .i64 r, .int .i64 c, .int .i64 q, .slice lo n cl], .int .i64 o, .int .i64 (of0 : Int), .int .i64 (m0 : Int), .int .i64 b] w fun e w' => e = .returned (.bool true) /\ Below w.heap.size w w' := by
  unfold AnsB at HB HP HY HZ
  rw [lenE_zero] at HB HP
  have HEND : Hid (e2 = 0 -> e3 = 0 -> ¬ b < 0 /\ sOf (lsF (h - f) (fun p => G (f + p))) ++ sOf (lsF ny Gy) = sOf (lsF nz Gz) /\ ny <= 1000000) := hend
  have hvz : Value.int .i64 (wrap64 ((m0 : Int) + b)) = .int .i64 mz := by rw [hmz]
  have hm1 : min (of0 : Int) (a0 : Int) = (f : Int) := by omega
  have hm2 : min ((of0 : Int) + (m0 : Int)) (a0 : Int) = (h : Int) := by omega
  have hfh : f <= h := by omega
  have hha : h <= a0 := by omega
  have i1 : (f : Int) <= (h : Int) := by omega
  have i2 : (h : Int) <= (a0 : Int) := by omega
  have i3 : (of0 : Int) + (m0 : Int) <= 1000000 := by omega
  have i4 : (a0 : Int) <= 1000000 := by omega
  obtain ⟨nx, hnx⟩ : ∃ nx, nx = h - f := ⟨_, rfl⟩
  have HNX : Hid (nx = h - f) := hnx
  obtain ⟨Gx, hGx⟩ : ∃ Gx, Gx = fun p => G (f + p) := ⟨_, rfl⟩
  have HGX : Hid (Gx = fun p => G (f + p)) := hGx
  rw [<- hnx, <- hGx] at HP HEND
  clear hend hmz hf hh hbig hbig2 hnx hGx
  obtain ⟨w0, hw0⟩ : ∃ w0, w0 = w.alloc (.cells #[.int .i64 k, .int .i64 r, .int .i64 c, .int .i64 q, .slice lo n cl] 51) := ⟨_, rfl⟩
  have b0 : Below w.heap.size w w0 := by rw [hw0]; exact below_alloc _ _
  have HQ : Hid (∀ u, Below w0.heap.size w0 u -> u.cell? ⟨w.heap.size, 0, none⟩ = some (.int .i64 k) /\ u.cell? ⟨w.heap.size, 1, none⟩ = some (.int .i64 r) /\ u.cell? ⟨w.heap.size, 2, none⟩ = some (.int .i64 c) /\ u.cell? ⟨w.heap.size, 3, none⟩ = some (.int .i64 q) /\ u.cell? ⟨w.heap.size, 4, none⟩ = some (.slice lo n cl)) := fun u hu => ⟨blk_held hw0 hu 0 rfl, blk_held hw0 hu 1 rfl, blk_held hw0 hu 2 rfl, blk_held hw0 hu 3 rfl, blk_held hw0 hu 4 rfl⟩
  have HBB : Hid (Below w.heap.size w w0) := b0
  have HAW : Hid (∀ w, Calls Tryz.prog 33 #[] w fun e w' => e = .returned (.bool true) /\ Below w.heap.size w w') := awake18_any
  have HBI : Hid (∀ w, Calls Tryz.prog 34 #[.agg #[.int .i64 k, .int .i64 r, .int .i64 c, .int .i64 q, .slice lo n cl]] w fun e w' => (∃ b, e = .returned (.bool b)) /\ Below w.heap.size w w') := fun w => big_any k r c q lo n cl w
  go_enter Tryz.func8, Tryz.ntmps8
  go_wp2_with fail
  rw [<- hw0]
  clear hw0 b0
  refine (HAW.out _).mono ?_
  rintro e wa ⟨rfl, ha⟩
  obtain ⟨s0, s1, s2, s3, s4⟩ := HQ.out wa ha
  clear HAW
  go_wp2_with fail
  refine (HBI.out _).mono ?_
  rintro e wb ⟨⟨bi, rfl⟩, hb⟩
  have HWB : Hid (Below w0.heap.size w0 wb) := below_then ha hb
  clear s0 s1 s2 s3 s4 ha hb HBI
  obtain ⟨s0, s1, s2, s3, s4⟩ := HQ.out wb HWB.out
  cases bi
  case true =>
    go_wp2_with fail
    go_ret
    exact ⟨rfl, below_then HBB.out HWB.out⟩
  go_wp2_with fail
  refine (HB.out _ (below_then HBB.out HWB.out)).mono ?_
  rintro e wc ⟨xo, xc, rfl, hox, hc⟩
  have HWC : Hid (Below w0.heap.size w0 wc) := below_then HWB.out hc
  have HA1 : Hid (Bec wc xo a0 xc G) := hox.bec
  clear s0 s1 s2 s3 s4 hc HB hox
  obtain ⟨s0, s1, s2, s3, s4⟩ := HQ.out wc HWC.out
  go_wp2_with fail
  refine (HL.out _ (below_then HBB.out HWC.out)).mono ?_
  rintro e wd ⟨rfl, hd⟩
  have HWD : Hid (Below w0.heap.size w0 wd) := below_then HWC.out hd
  have HA2 : Hid (Bec wd xo a0 xc G) := HA1.out.below hd
  clear s0 s1 s2 s3 s4 hd HL HA1
  obtain ⟨s0, s1, s2, s3, s4⟩ := HQ.out wd HWD.out
  go_wp2_with fail
  refine (HP.out _ (below_then HBB.out HWD.out)).mono ?_
  rintro e we ⟨yo, yc, rfl, hoy, hh2⟩
  have HWE : Hid (Below w0.heap.size w0 we) := below_then HWD.out hh2
  have HA3 : Hid (Bec we xo a0 xc G) := HA2.out.below hh2
  have HX3 : Hid (Bec we yo nx yc Gx) := hoy.bec
  clear s0 s1 s2 s3 s4 hh2 HP HA2 hoy
  have cv1 := conv_any (HX3.out.below (below_drew _ _))
  go_wp2_with fail
  have wr1 : IntKind.i64.wrap ((of0 : Int) + (m0 : Int)) = (of0 : Int) + (m0 : Int) := by rw [IntKind.wrap_i64]; omega
  have hxc := HA3.out.room
  have p1 : (0 : Int) <= (h : Int) /\ (h : Int) <= (xc : Int) := by omega
  obtain ⟨vp, hvp⟩ : ∃ vp, vp = if xc = f then xo else Option.map (fun x => x.add f) xo := ⟨_, rfl⟩
  have cv2 : (convert 75 9 (.slice vp nx (xc - f))).run Tryz.prog we.drew = .ok (.string (sOf (lsF nx Gx))) we.drew := by
    have hb3 := HA3.out.below (below_drew we.heap.size we)
    rw [HNX.out, HGX.out]
    by_cases g0 : xo = none
    · subst g0
      obtain ⟨g1, g2⟩ := hb3.nil rfl
      have e1 : vp = none := by rw [hvp]; split <;> rfl
      have e2 : h - f = 0 := by omega
      have e3 : xc - f = 0 := by omega
      rw [e1, e2, e3]
      exact conv_any (bec_nil _ _)
    · obtain ⟨⟨bb, oo, pp⟩, rfl⟩ := Option.ne_none_iff_exists'.1 g0
      by_cases g1 : xc = f
      · have e1 : vp = some ⟨bb, oo, pp⟩ := by rw [hvp, if_pos g1]
        have e2 : h - f = 0 := by omega
        rw [e1, e2]
        exact conv_any ⟨fun hp => by omega, (fun e => by cases e), Nat.zero_le _⟩
      · have e1 : vp = some ((⟨bb, oo, pp⟩ : Addr).add f) := by rw [hvp, if_neg g1]; rfl
        rw [e1]
        by_cases g2 : h - f = 0
        · rw [g2]; exact conv_any ⟨fun hp => by omega, (fun e => by cases e), Nat.zero_le _⟩
        · obtain ⟨b', o', e, _⟩ := hb3.rd (by omega)
          cases e
          rw [Addr.add_lit]
          exact conv_any (bec_cut hb3 hfh hha)
  have hnx3 : h - f = nx := HNX.out.symm
  have hvp3 : (if xc = f then xo else Option.map (fun x => x.add f) xo) = vp := hvp.symm
  clear hvp
  refine wp_region_still_tail 11 (by kernel_rfl) (by kernel_rfl) ?_
  simp only [List.take_succ_cons, List.take_zero, List.drop_succ_cons, List.drop_zero]
  repeat (refine wpStill_step (fun K hK => ?_); go_simp; (try simp only [cv1]); refine hK _ ?_; clear hK K)
  refine wpStill_nil ?_
  clear cv1 cv2 hvp3 p1 hxc
  obtain ⟨wf, hwf⟩ : ∃ wf : World, ({ heap := we.heap, tape := we.tape, drawn := we.drawn + 1, os := we.os, output := we.output } : World) = wf := ⟨_, rfl⟩
  have hwf2 : wf = we.drew := hwf.symm
  have HWF : Hid (Below w0.heap.size w0 wf) := by rw [hwf2]; exact HWE.out.trans (below_drew _ _)
  have HX4 : Hid (Bec wf yo nx yc Gx) := by rw [hwf2]; exact HX3.out.below (below_drew _ _)
  rw [hwf]
  clear hwf hwf2 HX3 HA3 HWE
  obtain ⟨s0, s1, s2, s3, s4⟩ := HQ.out wf HWF.out
  go_wp2_with fail
  refine (HY.out _ (below_then HBB.out HWF.out)).mono ?_
  rintro e wg ⟨uo, uc, rfl, hou, hg⟩
  have HWG : Hid (Below w0.heap.size w0 wg) := below_then HWF.out hg
  have HX5 : Hid (Bec wg yo nx yc Gx) := HX4.out.below hg
  have HU5 : Hid (Bec wg uo (lenE e2 ny) uc Gy) := hou.bec
  clear s0 s1 s2 s3 s4 hg HY HX4 hou HWF
  obtain ⟨s0, s1, s2, s3, s4⟩ := HQ.out wg HWG.out
  go_wp2_with fail
  refine (HZ.out _ (below_then HBB.out HWG.out)).mono ?_
  rintro e wh ⟨vo, vc, rfl, hov, hh3⟩
  have HWH : Hid (Below w0.heap.size w0 wh) := below_then HWG.out hh3
  have HX6 : Hid (Bec wh yo nx yc Gx) := HX5.out.below hh3
  have HU6 : Hid (Bec wh uo (lenE e2 ny) uc Gy) := HU5.out.below hh3
  have HV6 : Hid (Bec wh vo (lenE e3 nz) vc Gz) := hov.bec
  clear s0 s1 s2 s3 s4 hh3 HZ HX5 HU5 hov HWG
  by_cases g2 : e2 = 0
  · subst g2
    by_cases g3 : e3 = 0
    · subst g3
      rw [lenE_zero] at HU6 HV6 ⊢
      rw [lenE_zero]
      obtain ⟨hb0, hst, hny⟩ := HEND.out rfl rfl
      have hsz : ¬ 9223372036854775807 < (sOf (lsF nx Gx)).size + (sOf (lsF ny Gy)).size := by rw [sOf_size, sOf_size, lsF_length, lsF_length]; omega
      have cx := conv_any HX6.out
      have cu := conv_any HU6.out
      have cz := conv_any HV6.out
      obtain ⟨X1, hX1⟩ : ∃ X, X = sOf (lsF nx Gx) := ⟨_, rfl⟩
      obtain ⟨X2, hX2⟩ : ∃ X, X = sOf (lsF ny Gy) := ⟨_, rfl⟩
      obtain ⟨X3, hX3⟩ : ∃ X, X = sOf (lsF nz Gz) := ⟨_, rfl⟩
      rw [<- hX1] at cx hst hsz
      rw [<- hX2] at cu hst hsz
      rw [<- hX3] at cz hst
      clear hX1 hX2 hX3 HEND
      go_wp2
      all_goals (
        go_ret
        exact ⟨rfl, below_then HBB.out HWH.out⟩)
    · have hz3 : (e3 != 0) = true := by simpa using g3
      go_wp2
      go_ret
      exact ⟨rfl, below_then HBB.out HWH.out⟩
  · have hz2 : (e2 != 0) = true := by simpa using g2
    go_wp2
    go_ret
    exact ⟨rfl, below_then HBB.out HWH.out⟩
end Go.Proofs.YtmoenmpbkockoaaGreat
