/- VectorTwos: joining and comparing, by the program beside the document; answers that are written over. -/
import Derived.Test.YtkoblkkigmnocaaVecJ
namespace Go.Proofs.Ytkoblkkigmnocaa
open Go.RowKit

theorem Own.lt_any {B : Nat} {w : World} {ao : Option Addr} {n cap : Nat} {R : Nat → Int} (h : Own B w ao n cap R) : ∀ g, ao = some ⟨g, 0, none⟩ → B ≤ g ∧ g < w.heap.size := by
  rintro g rfl
  exact World.ownsRow.lt h g rfl
theorem lenE_le (E : Int) (n : Nat) : lenE E n ≤ n := by unfold lenE; split <;> omega
set_option maxHeartbeats 4000000 in
set_option maxRecDepth 100000 in
theorem twos_good (k r c q : Int) (w : World) (ao bo : Option Addr) (n ca m cb : Nat) (A B : Nat → Int) (ha : Vec w ao n ca A) (hb : Vec w bo m cb B) (hn : n ≤ 200) (hm : m ≤ 200) :
    Calls Try.prog 5 #[.agg #[.int .i64 k, .int .i64 r, .int .i64 c, .int .i64 q], .slice ao n ca, .slice bo m cb] w fun e w' => e = .returned (.bool true) ∧ Below w.heap.size w w' := by
  obtain ⟨N, W, x, h⟩ := par_any k r c q
  obtain ⟨E, hE⟩ : ∃ E, er2 x N n A m B = E := ⟨_, rfl⟩
  have CJ := fun w xo cx yo cy (hx : Vec w xo n cx A) (hy : Vec w yo m cy B) => Join_any h w xo yo n cx m cy A B hx hy (by omega) (by omega) E hE
  have CB := fun w xo cx yo cy (hx : Vec w xo n cx A) (hy : Vec w yo m cy B) => Below_any h w xo yo n cx m cy A B hx hy (by omega) (by omega) E hE
  have CU := fun w xo cx yo cy (hx : Vec w xo n cx A) (hy : Vec w yo m cy B) => Unlike_any h w xo yo n cx m cy A B hx hy (by omega) (by omega) E hE
  have RJ := fun w xo cx yo cy (hx : Vec w xo n cx A) (hy : Vec w yo m cy B) => RJoin_any h w xo yo n cx m cy A B hx hy (by omega) (by omega) E hE
  have RB := fun w xo cx yo cy (hx : Vec w xo n cx A) (hy : Vec w yo m cy B) => RBelow_any h w xo yo n cx m cy A B hx hy (by omega) (by omega) E hE
  have RU := fun w xo cx yo cy (hx : Vec w xo n cx A) (hy : Vec w yo m cy B) => RUnlike_any h w xo yo n cx m cy A B hx hy (by omega) (by omega) E hE
  have l1 := lenE_le E n
  have l2 := lenE_le E (cnt (dif A B) n)
  have l3 := cnt_le (dif A B) n
  clear h hE
  unfold Ans at CJ CU RJ RU
  unfold TellB at CB RB
  generalize joi A B = J at *
  generalize sel (dif A B) n = S at *
  generalize lenE E n = lj at *
  generalize lenE E (cnt (dif A B) n) = lu at *
  generalize (decide (E = 0) && leB n A B) = bb at *
  have HA0 : Hid (Vec w ao n ca A) := ha
  have HB0 : Hid (Vec w bo m cb B) := hb
  clear ha hb
  obtain ⟨w0, hw0⟩ : ∃ w0, w0 = w.alloc (.cells #[.int .i64 k, .int .i64 r, .int .i64 c, .int .i64 q] 24) := ⟨_, rfl⟩
  have b0 : Below w.heap.size w w0 := by rw [hw0]; exact below_alloc _ _
  have n1 : (n : Int) ≤ 200 := by omega
  have n2 : (m : Int) ≤ 200 := by omega
  go_enter Try.func5, Try.ntmps5
  go_wp2_with fail
  rw [← hw0]
  refine (alive_any _).mono ?_
  rintro e wy ⟨rfl, hy⟩
  have by0 := below_then b0 hy
  go_wp2_with fail
  refine (lent_any wy ao n ca A (HA0.out.below by0) (by omega)).mono ?_
  rintro e wz ⟨gx, cx, rfl, hx, hz⟩
  have bz0 := below_then by0 hz
  go_wp2_with fail
  refine (lent_any wz bo m cb B (HB0.out.below bz0) (by omega)).mono ?_
  rintro e vb ⟨gy, cy, rfl, hyy, hzb⟩
  obtain ⟨B0x, hB0x⟩ : ∃ b, b = wy.heap.size := ⟨_, rfl⟩
  obtain ⟨B0y, hB0y⟩ : ∃ b, b = wz.heap.size := ⟨_, rfl⟩
  have HX : Hid (Lent B0x vb gx n cx A) := by rw [hB0x]; exact hx.below hzb
  have HY : Hid (Lent B0y vb gy m cy B) := by rw [hB0y]; exact hyy
  have HWB : Hid (Below w.heap.size w vb) := below_then bz0 hzb
  have B0b : Hid (Below w0.heap.size w0 vb) := below_then hy (below_then hz hzb)
  have HA : Hid (Vec vb ao n ca A) := HA0.out.below HWB.out
  have HB : Hid (Vec vb bo m cb B) := HB0.out.below HWB.out
  have KB : Hid (Below vb.heap.size vb vb) := Below.refl _ _
  clear hx hyy hzb hz hy by0 bz0 hB0x hB0y HA0 HB0 b0
  obtain ⟨s0, s1, s2, s3⟩ := par_held hw0 (below_then B0b.out KB.out)
  go_wp2_with fail
  refine (CJ _ _ _ _ _ ?_ ?_).mono ?_
  · exact HX.out.vec
  · exact HY.out.vec
  rintro e v0 ⟨jo, jc, rfl, ho, gg⟩
  have z1 : vb.heap.size ≤ v0.heap.size := gg.size
  have OJ : Hid (Own vb.heap.size v0 jo lj jc (J)) := ho
  have TOJ : Hid (∀ g, jo = some ⟨g, 0, none⟩ → vb.heap.size ≤ g ∧ g < v0.heap.size) := Own.lt_any ho
  clear ho
  have KB2 := below_then KB.out gg
  clear KB s0 s1 s2 s3
  have KB : Hid (Below vb.heap.size vb v0) := KB2
  clear KB2 gg
  obtain ⟨s0, s1, s2, s3⟩ := par_held hw0 (below_then B0b.out KB.out)
  go_wp2_with fail
  refine (CB _ _ _ _ _ ?_ ?_).mono ?_
  · exact (HX.out.below KB.out).vec
  · exact (HY.out.below KB.out).vec
  rintro e v1 ⟨rfl, gg⟩
  have z2 : v0.heap.size ≤ v1.heap.size := gg.size
  replace OJ : Hid (Own vb.heap.size v1 jo lj jc (J)) := OJ.out.below gg
  have KB2 := below_then KB.out gg
  clear KB s0 s1 s2 s3
  have KB : Hid (Below vb.heap.size vb v1) := KB2
  clear KB2 gg
  obtain ⟨s0, s1, s2, s3⟩ := par_held hw0 (below_then B0b.out KB.out)
  go_wp2_with fail
  refine (CU _ _ _ _ _ ?_ ?_).mono ?_
  · exact (HX.out.below KB.out).vec
  · exact (HY.out.below KB.out).vec
  rintro e v2 ⟨uo, uc, rfl, ho, gg⟩
  have z3 : v1.heap.size ≤ v2.heap.size := gg.size
  replace OJ : Hid (Own vb.heap.size v2 jo lj jc (J)) := OJ.out.below gg
  have OU : Hid (Own v1.heap.size v2 uo lu uc (S)) := ho
  have TOU : Hid (∀ g, uo = some ⟨g, 0, none⟩ → v1.heap.size ≤ g ∧ g < v2.heap.size) := Own.lt_any ho
  clear ho
  have KB2 := below_then KB.out gg
  clear KB s0 s1 s2 s3
  have KB : Hid (Below vb.heap.size vb v2) := KB2
  clear KB2 gg
  obtain ⟨s0, s1, s2, s3⟩ := par_held hw0 (below_then B0b.out KB.out)
  go_wp2_with fail
  refine (RJ _ _ _ _ _ ?_ ?_).mono ?_
  · exact HA.out.below KB.out
  · exact HB.out.below KB.out
  rintro e v3 ⟨jo2, jc2, rfl, ho, gg⟩
  have z4 : v2.heap.size ≤ v3.heap.size := gg.size
  replace OJ : Hid (Own vb.heap.size v3 jo lj jc (J)) := OJ.out.below gg
  replace OU : Hid (Own v1.heap.size v3 uo lu uc (S)) := OU.out.below gg
  have OJ2 : Hid (Own v2.heap.size v3 jo2 lj jc2 (J)) := ho
  have TOJ2 : Hid (∀ g, jo2 = some ⟨g, 0, none⟩ → v2.heap.size ≤ g ∧ g < v3.heap.size) := Own.lt_any ho
  clear ho
  have KB2 := below_then KB.out gg
  clear KB s0 s1 s2 s3
  have KB : Hid (Below vb.heap.size vb v3) := KB2
  clear KB2 gg
  obtain ⟨s0, s1, s2, s3⟩ := par_held hw0 (below_then B0b.out KB.out)
  go_wp2_with fail
  refine (RB _ _ _ _ _ ?_ ?_).mono ?_
  · exact HA.out.below KB.out
  · exact HB.out.below KB.out
  rintro e v4 ⟨rfl, gg⟩
  have z5 : v3.heap.size ≤ v4.heap.size := gg.size
  replace OJ : Hid (Own vb.heap.size v4 jo lj jc (J)) := OJ.out.below gg
  replace OU : Hid (Own v1.heap.size v4 uo lu uc (S)) := OU.out.below gg
  replace OJ2 : Hid (Own v2.heap.size v4 jo2 lj jc2 (J)) := OJ2.out.below gg
  have KB2 := below_then KB.out gg
  clear KB s0 s1 s2 s3
  have KB : Hid (Below vb.heap.size vb v4) := KB2
  clear KB2 gg
  obtain ⟨s0, s1, s2, s3⟩ := par_held hw0 (below_then B0b.out KB.out)
  go_wp2_with fail
  refine (RU _ _ _ _ _ ?_ ?_).mono ?_
  · exact HA.out.below KB.out
  · exact HB.out.below KB.out
  rintro e v5 ⟨uo2, uc2, rfl, ho, gg⟩
  have z6 : v4.heap.size ≤ v5.heap.size := gg.size
  replace OJ : Hid (Own vb.heap.size v5 jo lj jc (J)) := OJ.out.below gg
  replace OU : Hid (Own v1.heap.size v5 uo lu uc (S)) := OU.out.below gg
  replace OJ2 : Hid (Own v2.heap.size v5 jo2 lj jc2 (J)) := OJ2.out.below gg
  have OU2 : Hid (Own v4.heap.size v5 uo2 lu uc2 (S)) := ho
  have TOU2 : Hid (∀ g, uo2 = some ⟨g, 0, none⟩ → v4.heap.size ≤ g ∧ g < v5.heap.size) := Own.lt_any ho
  clear ho
  have KB2 := below_then KB.out gg
  clear KB s0 s1 s2 s3
  have KB : Hid (Below vb.heap.size vb v5) := KB2
  clear KB2 gg
  obtain ⟨s0, s1, s2, s3⟩ := par_held hw0 (below_then B0b.out KB.out)
  go_wp2_with fail
  refine (isB (Same_any _ jo jo2 lj jc lj jc2 J J ?_ ?_ (by omega) (by omega)) same_refl).mono ?_
  · exact OJ.out.vec.rd
  · exact OJ2.out.vec.rd
  rintro e v6 ⟨rfl, hq⟩
  have gg := below_q hq
  clear hq
  have z7 : v5.heap.size ≤ v6.heap.size := gg.size
  replace OJ : Hid (Own vb.heap.size v6 jo lj jc (J)) := OJ.out.below gg
  replace OU : Hid (Own v1.heap.size v6 uo lu uc (S)) := OU.out.below gg
  replace OJ2 : Hid (Own v2.heap.size v6 jo2 lj jc2 (J)) := OJ2.out.below gg
  replace OU2 : Hid (Own v4.heap.size v6 uo2 lu uc2 (S)) := OU2.out.below gg
  have KB2 := below_then KB.out gg
  clear KB s0 s1 s2 s3
  have KB : Hid (Below vb.heap.size vb v6) := KB2
  clear KB2 gg
  obtain ⟨s0, s1, s2, s3⟩ := par_held hw0 (below_then B0b.out KB.out)
  go_wp2_with fail
  refine (isB (Same_any _ uo uo2 lu uc lu uc2 S S ?_ ?_ (by omega) (by omega)) same_refl).mono ?_
  · exact OU.out.vec.rd
  · exact OU2.out.vec.rd
  rintro e v7 ⟨rfl, hq⟩
  have gg := below_q hq
  clear hq
  have z8 : v6.heap.size ≤ v7.heap.size := gg.size
  replace OJ : Hid (Own vb.heap.size v7 jo lj jc (J)) := OJ.out.below gg
  replace OU : Hid (Own v1.heap.size v7 uo lu uc (S)) := OU.out.below gg
  replace OJ2 : Hid (Own v2.heap.size v7 jo2 lj jc2 (J)) := OJ2.out.below gg
  replace OU2 : Hid (Own v4.heap.size v7 uo2 lu uc2 (S)) := OU2.out.below gg
  have KB2 := below_then KB.out gg
  clear KB s0 s1 s2 s3
  have KB : Hid (Below vb.heap.size vb v7) := KB2
  clear KB2 gg
  obtain ⟨s0, s1, s2, s3⟩ := par_held hw0 (below_then B0b.out KB.out)
  go_wp2_with fail
  refine (spoil_any v7 jo (lj) jc (vb.heap.size) (v0.heap.size) (J) (by omega) OJ.out (fun g hg => (TOJ.out g hg).2)).mono ?_
  rintro e v8 ⟨rfl, gg⟩
  have z9 : v8.heap.size = v7.heap.size := gg.size
  replace OU : Hid (Own (v1.heap.size) v8 uo lu uc (S)) := OU.out.stay (fun g h1 _ => gg.block g (by omega))
  replace OJ2 : Hid (Own (v2.heap.size) v8 jo2 lj jc2 (J)) := OJ2.out.stay (fun g h1 _ => gg.block g (by omega))
  replace OU2 : Hid (Own (v4.heap.size) v8 uo2 lu uc2 (S)) := OU2.out.stay (fun g h1 _ => gg.block g (by omega))
  have KB2 := KB.out.trans (gg.below.mono (show vb.heap.size ≤ vb.heap.size by omega))
  clear KB s0 s1 s2 s3 TOJ OJ
  have KB : Hid (Below vb.heap.size vb v8) := KB2
  clear KB2 gg
  obtain ⟨s0, s1, s2, s3⟩ := par_held hw0 (below_then B0b.out KB.out)
  go_wp2_with fail
  refine (spoil_any v8 uo (lu) uc (v1.heap.size) (v2.heap.size) (S) (by omega) OU.out (fun g hg => (TOU.out g hg).2)).mono ?_
  rintro e v9 ⟨rfl, gg⟩
  have z10 : v9.heap.size = v8.heap.size := gg.size
  replace OJ2 : Hid (Own (v2.heap.size) v9 jo2 lj jc2 (J)) := OJ2.out.stay (fun g h1 _ => gg.block g (by omega))
  replace OU2 : Hid (Own (v4.heap.size) v9 uo2 lu uc2 (S)) := OU2.out.stay (fun g h1 _ => gg.block g (by omega))
  have KB2 := KB.out.trans (gg.below.mono (show vb.heap.size ≤ v1.heap.size by omega))
  clear KB s0 s1 s2 s3 TOU OU
  have KB : Hid (Below vb.heap.size vb v9) := KB2
  clear KB2 gg
  obtain ⟨s0, s1, s2, s3⟩ := par_held hw0 (below_then B0b.out KB.out)
  clear OJ2 OU2 TOJ2 TOU2
  go_wp2_with fail
  refine (kept_any _ gx n cx ao ca B0x A ?_ ?_ (by omega)).mono ?_
  · exact HX.out.below KB.out
  · exact HA.out.below KB.out
  rintro e v10 ⟨rfl, hq⟩
  have gg := below_q hq
  clear hq
  have z11 : v9.heap.size ≤ v10.heap.size := gg.size
  have KB2 := below_then KB.out gg
  clear KB s0 s1 s2 s3
  have KB : Hid (Below vb.heap.size vb v10) := KB2
  clear KB2 gg
  obtain ⟨s0, s1, s2, s3⟩ := par_held hw0 (below_then B0b.out KB.out)
  go_wp2_with fail
  refine (kept_any _ gy m cy bo cb B0y B ?_ ?_ (by omega)).mono ?_
  · exact HY.out.below KB.out
  · exact HB.out.below KB.out
  rintro e v11 ⟨rfl, hq⟩
  have gg := below_q hq
  clear hq
  have z12 : v10.heap.size ≤ v11.heap.size := gg.size
  have KB2 := below_then KB.out gg
  clear KB s0 s1 s2 s3
  have KB : Hid (Below vb.heap.size vb v11) := KB2
  clear KB2 gg
  obtain ⟨s0, s1, s2, s3⟩ := par_held hw0 (below_then B0b.out KB.out)
  go_wp2_with fail
  go_ret
  exact ⟨rfl, below_then HWB.out KB.out⟩
set_option maxHeartbeats 1000000 in
set_option maxRecDepth 100000 in
theorem twos_walk (k r c q : Int) (w : World) (ao bo : Option Addr) (n ca m cb : Nat) (A B : Nat → Int) (ha : Vec w ao n ca A) (hb : Vec w bo m cb B) :
    Calls Try.prog 5 #[.agg #[.int .i64 k, .int .i64 r, .int .i64 c, .int .i64 q], .slice ao n ca, .slice bo m cb] w fun e w' => e = .returned (.bool true) ∧ Below w.heap.size w w' := by
  by_cases hn : n ≤ 200
  · by_cases hm : m ≤ 200
    · exact twos_good k r c q w ao bo n ca m cb A B ha hb hn hm
    · clear ha hb
      have n1 : (n : Int) ≤ 200 := by omega
      have n2 : ¬ (m : Int) ≤ 200 := by omega
      obtain ⟨w0, hw0⟩ : ∃ w0, w0 = w.alloc (.cells #[.int .i64 k, .int .i64 r, .int .i64 c, .int .i64 q] 24) := ⟨_, rfl⟩
      have b0 : Below w.heap.size w w0 := by rw [hw0]; exact below_alloc _ _
      go_enter Try.func5, Try.ntmps5
      go_wp2_with fail
      rw [← hw0]
      refine (alive_any _).mono ?_
      rintro e wy ⟨rfl, hy⟩
      clear hw0
      go_wp2_with fail
      go_ret
      exact ⟨rfl, below_then b0 hy⟩
  · clear ha hb
    have n1 : ¬ (n : Int) ≤ 200 := by omega
    obtain ⟨w0, hw0⟩ : ∃ w0, w0 = w.alloc (.cells #[.int .i64 k, .int .i64 r, .int .i64 c, .int .i64 q] 24) := ⟨_, rfl⟩
    have b0 : Below w.heap.size w w0 := by rw [hw0]; exact below_alloc _ _
    go_enter Try.func5, Try.ntmps5
    go_wp2_with fail
    rw [← hw0]
    refine (alive_any _).mono ?_
    rintro e wy ⟨rfl, hy⟩
    clear hw0
    go_wp2_with fail
    go_ret
    exact ⟨rfl, below_then b0 hy⟩
end Go.Proofs.Ytkoblkkigmnocaa
