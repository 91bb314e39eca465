/- VectorOnes: checking, filling and bumping, by the program beside the document; answers that are written over. -/
import Derived.Test.YtkoblkkigmnocaaVecL
namespace Go.Proofs.Ytkoblkkigmnocaa
open Go.RowKit

set_option maxHeartbeats 4000000 in
set_option maxRecDepth 100000 in
theorem ones_good (k r c q : Int) (w : World) (ao bo : Option Addr) (n ca m cb : Nat) (A C : Nat → Int) (v : Int) (ha : Vec w ao n ca A) (hb : Vec w bo m cb C) (hn : n ≤ 200) (hm : m ≤ 200) :
    Calls Try.prog 4 #[.agg #[.int .i64 k, .int .i64 r, .int .i64 c, .int .i64 q], .slice ao n ca, .slice bo m cb, .int .i64 v] w fun e w' => e = .returned (.bool true) ∧ Below w.heap.size w w' := by
  obtain ⟨N, W, x, h⟩ := par_any k r c q
  obtain ⟨E1, hE1⟩ : ∃ E, erA x v = E := ⟨_, rfl⟩
  obtain ⟨E2, hE2⟩ : ∃ E, erV x N n A = E := ⟨_, rfl⟩
  obtain ⟨E3, hE3⟩ : ∃ E, erB x N n A m C v = E := ⟨_, rfl⟩
  have CA := fun w => All_any h v w E1 hE1
  have RA := fun w => RAll_any h v w E1 hE1
  have CL := fun w xo cx (hx : Vec w xo n cx A) => Last_any h w xo n cx A hx (by omega) E2 hE2
  have RL := fun w xo cx (hx : Vec w xo n cx A) => RLast_any h w xo n cx A hx (by omega) E2 hE2
  have CC := fun w xo cx (hx : Vec w xo n cx A) => VCheck_any h w xo n cx A hx (by omega)
  have RC := fun w xo cx (hx : Vec w xo n cx A) => RVCheck_any h w xo n cx A hx (by omega)
  have CB := fun w xo cx yo cy (hx : Vec w xo n cx A) (hy : Vec w yo m cy C) => Bump_any h w xo yo n cx m cy A C v hx hy (by omega) (by omega) E3 hE3
  have RB := fun w xo cx yo cy (hx : Vec w xo n cx A) (hy : Vec w yo m cy C) => RBump_any h w xo yo n cx m cy A C v hx hy (by omega) (by omega) E3 hE3
  rw [hE2] at CC RC
  have l1 := lenE_le E1 N
  have l2 := lenE_le E3 n
  have l3 := h.few
  clear h hE1 hE2 hE3
  unfold Ans at CA RA CB RB
  unfold TellI at CL RL
  generalize lenE E1 N = la at *
  generalize lenE E3 n = lb at *
  generalize bmp C v A m = F at *
  generalize (if E2 = 0 then mx A n else 0) = y at *
  have HA0 : Hid (Vec w ao n ca A) := ha
  have HB0 : Hid (Vec w bo m cb C) := hb
  clear ha hb
  obtain ⟨w0, hw0⟩ : ∃ w0, w0 = w.alloc (.cells #[.int .i64 k, .int .i64 r, .int .i64 c, .int .i64 q] 24) := ⟨_, rfl⟩
  have b0 : Below w.heap.size w w0 := by rw [hw0]; exact below_alloc _ _
  have n1 : (n : Int) ≤ 200 := by omega
  have n2 : (m : Int) ≤ 200 := by omega
  go_enter Try.func4, Try.ntmps4
  go_wp2_with fail
  rw [← hw0]
  refine (alive_any _).mono ?_
  rintro e wy ⟨rfl, hy⟩
  have by0 := below_then b0 hy
  go_wp2_with fail
  refine (lent_any wy ao n ca A (HA0.out.below by0) (by omega)).mono ?_
  rintro e wz ⟨gx, cx, rfl, hx, hz⟩
  have bz0 := below_then by0 hz
  go_wp2_with fail
  refine (lent_any wz bo m cb C (HB0.out.below bz0) (by omega)).mono ?_
  rintro e vb ⟨gy, cy, rfl, hyy, hzb⟩
  obtain ⟨B0x, hB0x⟩ : ∃ b, b = wy.heap.size := ⟨_, rfl⟩
  obtain ⟨B0y, hB0y⟩ : ∃ b, b = wz.heap.size := ⟨_, rfl⟩
  have HX : Hid (Lent B0x vb gx n cx A) := by rw [hB0x]; exact hx.below hzb
  have HY : Hid (Lent B0y vb gy m cy C) := by rw [hB0y]; exact hyy
  have HWB : Hid (Below w.heap.size w vb) := below_then bz0 hzb
  have B0b : Hid (Below w0.heap.size w0 vb) := below_then hy (below_then hz hzb)
  have HA : Hid (Vec vb ao n ca A) := HA0.out.below HWB.out
  have HB : Hid (Vec vb bo m cb C) := HB0.out.below HWB.out
  have KB : Hid (Below vb.heap.size vb vb) := Below.refl _ _
  clear hx hyy hzb hz hy by0 bz0 hB0x hB0y HA0 HB0 b0
  obtain ⟨s0, s1, s2, s3⟩ := par_held hw0 (below_then B0b.out KB.out)
  go_wp2_with fail
  refine (CA _).mono ?_
  rintro e v0 ⟨ao1, ac1, rfl, ho, gg⟩
  have z1 : vb.heap.size ≤ v0.heap.size := gg.size
  have OA : Hid (Own vb.heap.size v0 ao1 la ac1 (fun _ => v)) := ho
  have TOA : Hid (∀ g, ao1 = some ⟨g, 0, none⟩ → vb.heap.size ≤ g ∧ g < v0.heap.size) := Own.lt_any ho
  clear ho
  have KB2 := below_then KB.out gg
  clear KB s0 s1 s2 s3
  have KB : Hid (Below vb.heap.size vb v0) := KB2
  clear KB2 gg
  obtain ⟨s0, s1, s2, s3⟩ := par_held hw0 (below_then B0b.out KB.out)
  go_wp2_with fail
  refine (CL _ _ _ ?_).mono ?_
  · exact (HX.out.below KB.out).vec
  rintro e v1 ⟨rfl, gg⟩
  have z2 : v0.heap.size ≤ v1.heap.size := gg.size
  replace OA : Hid (Own vb.heap.size v1 ao1 la ac1 (fun _ => v)) := OA.out.below gg
  have KB2 := below_then KB.out gg
  clear KB s0 s1 s2 s3
  have KB : Hid (Below vb.heap.size vb v1) := KB2
  clear KB2 gg
  obtain ⟨s0, s1, s2, s3⟩ := par_held hw0 (below_then B0b.out KB.out)
  go_wp2_with fail
  refine (CB _ _ _ _ _ ?_ ?_).mono ?_
  · exact (HX.out.below KB.out).vec
  · exact (HY.out.below KB.out).vec
  rintro e v2 ⟨bo1, bc1, rfl, ho, gg⟩
  have z3 : v1.heap.size ≤ v2.heap.size := gg.size
  replace OA : Hid (Own vb.heap.size v2 ao1 la ac1 (fun _ => v)) := OA.out.below gg
  have OB : Hid (Own v1.heap.size v2 bo1 lb bc1 (F)) := ho
  have TOB : Hid (∀ g, bo1 = some ⟨g, 0, none⟩ → v1.heap.size ≤ g ∧ g < v2.heap.size) := Own.lt_any ho
  clear ho
  have KB2 := below_then KB.out gg
  clear KB s0 s1 s2 s3
  have KB : Hid (Below vb.heap.size vb v2) := KB2
  clear KB2 gg
  obtain ⟨s0, s1, s2, s3⟩ := par_held hw0 (below_then B0b.out KB.out)
  go_wp2_with fail
  refine (RA _).mono ?_
  rintro e v3 ⟨ao2, ac2, rfl, ho, gg⟩
  have z4 : v2.heap.size ≤ v3.heap.size := gg.size
  replace OA : Hid (Own vb.heap.size v3 ao1 la ac1 (fun _ => v)) := OA.out.below gg
  replace OB : Hid (Own v1.heap.size v3 bo1 lb bc1 (F)) := OB.out.below gg
  have OA2 : Hid (Own v2.heap.size v3 ao2 la ac2 (fun _ => v)) := ho
  have TOA2 : Hid (∀ g, ao2 = some ⟨g, 0, none⟩ → v2.heap.size ≤ g ∧ g < v3.heap.size) := Own.lt_any ho
  clear ho
  have KB2 := below_then KB.out gg
  clear KB s0 s1 s2 s3
  have KB : Hid (Below vb.heap.size vb v3) := KB2
  clear KB2 gg
  obtain ⟨s0, s1, s2, s3⟩ := par_held hw0 (below_then B0b.out KB.out)
  go_wp2_with fail
  refine (RL _ _ _ ?_).mono ?_
  · exact HA.out.below KB.out
  rintro e v4 ⟨rfl, gg⟩
  have z5 : v3.heap.size ≤ v4.heap.size := gg.size
  replace OA : Hid (Own vb.heap.size v4 ao1 la ac1 (fun _ => v)) := OA.out.below gg
  replace OB : Hid (Own v1.heap.size v4 bo1 lb bc1 (F)) := OB.out.below gg
  replace OA2 : Hid (Own v2.heap.size v4 ao2 la ac2 (fun _ => v)) := OA2.out.below gg
  have KB2 := below_then KB.out gg
  clear KB s0 s1 s2 s3
  have KB : Hid (Below vb.heap.size vb v4) := KB2
  clear KB2 gg
  obtain ⟨s0, s1, s2, s3⟩ := par_held hw0 (below_then B0b.out KB.out)
  go_wp2_with fail
  refine (RB _ _ _ _ _ ?_ ?_).mono ?_
  · exact HA.out.below KB.out
  · exact HB.out.below KB.out
  rintro e v5 ⟨bo2, bc2, rfl, ho, gg⟩
  have z6 : v4.heap.size ≤ v5.heap.size := gg.size
  replace OA : Hid (Own vb.heap.size v5 ao1 la ac1 (fun _ => v)) := OA.out.below gg
  replace OB : Hid (Own v1.heap.size v5 bo1 lb bc1 (F)) := OB.out.below gg
  replace OA2 : Hid (Own v2.heap.size v5 ao2 la ac2 (fun _ => v)) := OA2.out.below gg
  have OB2 : Hid (Own v4.heap.size v5 bo2 lb bc2 (F)) := ho
  have TOB2 : Hid (∀ g, bo2 = some ⟨g, 0, none⟩ → v4.heap.size ≤ g ∧ g < v5.heap.size) := Own.lt_any ho
  clear ho
  have KB2 := below_then KB.out gg
  clear KB s0 s1 s2 s3
  have KB : Hid (Below vb.heap.size vb v5) := KB2
  clear KB2 gg
  obtain ⟨s0, s1, s2, s3⟩ := par_held hw0 (below_then B0b.out KB.out)
  go_wp2_with fail
  have HD0 : Hid (Below v5.heap.size v5 v5.drew) := below_drew _ _
  go_region_held3 (fun w' => w'.cell? ⟨w.heap.size, 0, none⟩ = some (.int .i64 k) ∧ w'.cell? ⟨w.heap.size, 1, none⟩ = some (.int .i64 r) ∧ w'.cell? ⟨w.heap.size, 2, none⟩ = some (.int .i64 c) ∧ w'.cell? ⟨w.heap.size, 3, none⟩ = some (.int .i64 q)) (go_keep)
    ((first
      | (go_at_call_of 20 (Value.slice ao1 la ac1); refine (isB (Same_any _ ao1 ao2 la ac1 la ac2 (fun _ => v) (fun _ => v) (OA.out.below HD0.out).vec.rd (OA2.out.below HD0.out).vec.rd (by omega) (by omega)) same_refl).mono ?_; rintro e x1 ⟨rfl, hq⟩; have g1 := below_q hq; clear hq; have G1 : Hid (Below v5.heap.size v5 x1) := below_then HD0.out g1; have t0 := held (w := v5.drew) s0 g1; have t1 := held (w := v5.drew) s1 g1; have t2 := held (w := v5.drew) s2 g1; have t3 := held (w := v5.drew) s3 g1)
      | (go_at_call_of 20 (Value.slice bo1 lb bc1); refine (isB (Same_any _ bo1 bo2 lb bc1 lb bc2 F F (OB.out.below G1.out).vec.rd (OB2.out.below G1.out).vec.rd (by omega) (by omega)) same_refl).mono ?_; rintro e x2 ⟨rfl, hq⟩; have g2 := below_q hq; clear hq; have G2 : Hid (Below v5.heap.size v5 x2) := below_then G1.out g2; have p0 := held t0 g2; have p1 := held t1 g2; have p2 := held t2 g2; have p3 := held t3 g2)
      | (go_at_call 21; refine (CC _ _ _ ((HX.out.below (below_then KB.out G2.out)).vec)).mono ?_; rintro e x3 ⟨rfl, g3⟩; have G3 : Hid (Below v5.heap.size v5 x3) := below_then G2.out g3; have o0 := held p0 g3; have o1 := held p1 g3; have o2 := held p2 g3; have o3 := held p3 g3)
      | (go_at_call 22; refine (RC _ _ _ (HA.out.below (below_then KB.out G3.out))).mono ?_; rintro e x4 ⟨rfl, g4⟩; have G4 : Hid (Below v5.heap.size v5 x4) := below_then G3.out g4; have m0 := held o0 g4; have m1 := held o1 g4; have m2 := held o2 g4; have m3 := held o3 g4)))
  have gg := G4.out
  have zz : v5.heap.size ≤ x4.heap.size := gg.size
  replace OA : Hid (Own vb.heap.size x4 ao1 la ac1 (fun _ => v)) := OA.out.below gg
  replace OB : Hid (Own v1.heap.size x4 bo1 lb bc1 (F)) := OB.out.below gg
  replace OA2 : Hid (Own v2.heap.size x4 ao2 la ac2 (fun _ => v)) := OA2.out.below gg
  replace OB2 : Hid (Own v4.heap.size x4 bo2 lb bc2 (F)) := OB2.out.below gg
  have KB2 := below_then KB.out gg
  clear KB s0 s1 s2 s3 t0 t1 t2 t3 p0 p1 p2 p3 o0 o1 o2 o3 m0 m1 m2 m3 g1 g2 g3 g4 G1 G2 G3 G4 HD0
  have KB : Hid (Below vb.heap.size vb x4) := KB2
  clear KB2 gg
  obtain ⟨s0, s1, s2, s3⟩ := par_held hw0 (below_then B0b.out KB.out)
  go_wp2_with fail
  refine (spoil_any x4 ao1 (la) ac1 (vb.heap.size) (v0.heap.size) (fun _ => v) (by omega) OA.out (fun g hg => (TOA.out g hg).2)).mono ?_
  rintro e v6 ⟨rfl, gg⟩
  have z7 : v6.heap.size = x4.heap.size := gg.size
  replace OB : Hid (Own (v1.heap.size) v6 bo1 lb bc1 (F)) := OB.out.stay (fun g h1 _ => gg.block g (by omega))
  replace OA2 : Hid (Own (v2.heap.size) v6 ao2 la ac2 (fun _ => v)) := OA2.out.stay (fun g h1 _ => gg.block g (by omega))
  replace OB2 : Hid (Own (v4.heap.size) v6 bo2 lb bc2 (F)) := OB2.out.stay (fun g h1 _ => gg.block g (by omega))
  have KB2 := KB.out.trans (gg.below.mono (show vb.heap.size ≤ vb.heap.size by omega))
  clear KB s0 s1 s2 s3 TOA OA
  have KB : Hid (Below vb.heap.size vb v6) := KB2
  clear KB2 gg
  obtain ⟨s0, s1, s2, s3⟩ := par_held hw0 (below_then B0b.out KB.out)
  go_wp2_with fail
  refine (spoil_any v6 bo1 (lb) bc1 (v1.heap.size) (v2.heap.size) (F) (by omega) OB.out (fun g hg => (TOB.out g hg).2)).mono ?_
  rintro e v7 ⟨rfl, gg⟩
  have z8 : v7.heap.size = v6.heap.size := gg.size
  replace OA2 : Hid (Own (v2.heap.size) v7 ao2 la ac2 (fun _ => v)) := OA2.out.stay (fun g h1 _ => gg.block g (by omega))
  replace OB2 : Hid (Own (v4.heap.size) v7 bo2 lb bc2 (F)) := OB2.out.stay (fun g h1 _ => gg.block g (by omega))
  have KB2 := KB.out.trans (gg.below.mono (show vb.heap.size ≤ v1.heap.size by omega))
  clear KB s0 s1 s2 s3 TOB OB
  have KB : Hid (Below vb.heap.size vb v7) := KB2
  clear KB2 gg
  obtain ⟨s0, s1, s2, s3⟩ := par_held hw0 (below_then B0b.out KB.out)
  go_wp2_with fail
  refine (CB _ _ _ _ _ ?_ ?_).mono ?_
  · exact (HX.out.below KB.out).vec
  · exact (HY.out.below KB.out).vec
  rintro e v8 ⟨bo3, bc3, rfl, ho, gg⟩
  have z9 : v7.heap.size ≤ v8.heap.size := gg.size
  replace OA2 : Hid (Own v2.heap.size v8 ao2 la ac2 (fun _ => v)) := OA2.out.below gg
  replace OB2 : Hid (Own v4.heap.size v8 bo2 lb bc2 (F)) := OB2.out.below gg
  have OB3 : Hid (Own v7.heap.size v8 bo3 lb bc3 (F)) := ho
  have TOB3 : Hid (∀ g, bo3 = some ⟨g, 0, none⟩ → v7.heap.size ≤ g ∧ g < v8.heap.size) := Own.lt_any ho
  clear ho
  have KB2 := below_then KB.out gg
  clear KB s0 s1 s2 s3
  have KB : Hid (Below vb.heap.size vb v8) := KB2
  clear KB2 gg
  obtain ⟨s0, s1, s2, s3⟩ := par_held hw0 (below_then B0b.out KB.out)
  go_wp2_with fail
  refine (isB (Same_any _ bo3 bo2 lb bc3 lb bc2 F F ?_ ?_ (by omega) (by omega)) same_refl).mono ?_
  · exact OB3.out.vec.rd
  · exact OB2.out.vec.rd
  rintro e v9 ⟨rfl, hq⟩
  have gg := below_q hq
  clear hq
  have z10 : v8.heap.size ≤ v9.heap.size := gg.size
  replace OA2 : Hid (Own v2.heap.size v9 ao2 la ac2 (fun _ => v)) := OA2.out.below gg
  replace OB2 : Hid (Own v4.heap.size v9 bo2 lb bc2 (F)) := OB2.out.below gg
  replace OB3 : Hid (Own v7.heap.size v9 bo3 lb bc3 (F)) := OB3.out.below gg
  have KB2 := below_then KB.out gg
  clear KB s0 s1 s2 s3
  have KB : Hid (Below vb.heap.size vb v9) := KB2
  clear KB2 gg
  obtain ⟨s0, s1, s2, s3⟩ := par_held hw0 (below_then B0b.out KB.out)
  go_wp2_with fail
  refine (kept_any _ gx n cx ao ca B0x A ?_ ?_ (by omega)).mono ?_
  · exact HX.out.below KB.out
  · exact HA.out.below KB.out
  rintro e v10 ⟨rfl, hq⟩
  have gg := below_q hq
  clear hq
  have z11 : v9.heap.size ≤ v10.heap.size := gg.size
  replace OA2 : Hid (Own v2.heap.size v10 ao2 la ac2 (fun _ => v)) := OA2.out.below gg
  replace OB2 : Hid (Own v4.heap.size v10 bo2 lb bc2 (F)) := OB2.out.below gg
  replace OB3 : Hid (Own v7.heap.size v10 bo3 lb bc3 (F)) := OB3.out.below gg
  have KB2 := below_then KB.out gg
  clear KB s0 s1 s2 s3
  have KB : Hid (Below vb.heap.size vb v10) := KB2
  clear KB2 gg
  obtain ⟨s0, s1, s2, s3⟩ := par_held hw0 (below_then B0b.out KB.out)
  go_wp2_with fail
  refine (kept_any _ gy m cy bo cb B0y C ?_ ?_ (by omega)).mono ?_
  · exact HY.out.below KB.out
  · exact HB.out.below KB.out
  rintro e v11 ⟨rfl, hq⟩
  have gg := below_q hq
  clear hq
  have z12 : v10.heap.size ≤ v11.heap.size := gg.size
  replace OA2 : Hid (Own v2.heap.size v11 ao2 la ac2 (fun _ => v)) := OA2.out.below gg
  replace OB2 : Hid (Own v4.heap.size v11 bo2 lb bc2 (F)) := OB2.out.below gg
  replace OB3 : Hid (Own v7.heap.size v11 bo3 lb bc3 (F)) := OB3.out.below gg
  have KB2 := below_then KB.out gg
  clear KB s0 s1 s2 s3
  have KB : Hid (Below vb.heap.size vb v11) := KB2
  clear KB2 gg
  obtain ⟨s0, s1, s2, s3⟩ := par_held hw0 (below_then B0b.out KB.out)
  go_wp2_with fail
  go_ret
  exact ⟨rfl, below_then HWB.out KB.out⟩
set_option maxHeartbeats 1000000 in
set_option maxRecDepth 100000 in
theorem ones_walk (k r c q : Int) (w : World) (ao bo : Option Addr) (n ca m cb : Nat) (A C : Nat → Int) (v : Int) (ha : Vec w ao n ca A) (hb : Vec w bo m cb C) :
    Calls Try.prog 4 #[.agg #[.int .i64 k, .int .i64 r, .int .i64 c, .int .i64 q], .slice ao n ca, .slice bo m cb, .int .i64 v] w fun e w' => e = .returned (.bool true) ∧ Below w.heap.size w w' := by
  by_cases hn : n ≤ 200
  · by_cases hm : m ≤ 200
    · exact ones_good k r c q w ao bo n ca m cb A C v ha hb hn hm
    · clear ha hb
      have n1 : (n : Int) ≤ 200 := by omega
      have n2 : ¬ (m : Int) ≤ 200 := by omega
      obtain ⟨w0, hw0⟩ : ∃ w0, w0 = w.alloc (.cells #[.int .i64 k, .int .i64 r, .int .i64 c, .int .i64 q] 24) := ⟨_, rfl⟩
      have b0 : Below w.heap.size w w0 := by rw [hw0]; exact below_alloc _ _
      go_enter Try.func4, Try.ntmps4
      go_wp2_with fail
      rw [← hw0]
      refine (alive_any _).mono ?_
      rintro e wy ⟨rfl, hy⟩
      clear hw0
      go_wp2_with fail
      go_ret
      exact ⟨rfl, below_then b0 hy⟩
  · clear ha hb
    have n1 : ¬ (n : Int) ≤ 200 := by omega
    obtain ⟨w0, hw0⟩ : ∃ w0, w0 = w.alloc (.cells #[.int .i64 k, .int .i64 r, .int .i64 c, .int .i64 q] 24) := ⟨_, rfl⟩
    have b0 : Below w.heap.size w w0 := by rw [hw0]; exact below_alloc _ _
    go_enter Try.func4, Try.ntmps4
    go_wp2_with fail
    rw [← hw0]
    refine (alive_any _).mono ?_
    rintro e wy ⟨rfl, hy⟩
    clear hw0
    go_wp2_with fail
    go_ret
    exact ⟨rfl, below_then b0 hy⟩
end Go.Proofs.Ytkoblkkigmnocaa
