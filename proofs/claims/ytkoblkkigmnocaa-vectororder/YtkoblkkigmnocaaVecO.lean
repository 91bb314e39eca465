/- VectorOrder: vectors are ordered, and a join is the least one that is above both. -/
import Derived.Test.YtkoblkkigmnocaaVecL
namespace Go.Proofs.Ytkoblkkigmnocaa
open Go.RowKit

theorem same_le (n : Nat) (A B : Nat → Int) : sameB n n A B = (leB n A B && leB n B A) := by
  unfold sameB leB
  rw [← Bool.decide_and]
  apply decide_eq_decide.2
  constructor
  · rintro ⟨_, h⟩; exact ⟨fun i hi => by rw [h i hi]; exact Int.le_refl _, fun i hi => by rw [h i hi]; exact Int.le_refl _⟩
  · rintro ⟨h1, h2⟩; exact ⟨rfl, fun i hi => Int.le_antisymm (h1 i hi) (h2 i hi)⟩
theorem le_way (n : Nat) (A B C : Nat → Int) : (leB n A B && leB n B C && !leB n A C) = false := by
  cases h1 : leB n A B
  · rfl
  · cases h2 : leB n B C
    · rfl
    · rw [show leB n A C = true from decide_eq_true fun i hi => Int.le_trans (of_decide_eq_true h1 i hi) (of_decide_eq_true h2 i hi)]; rfl
theorem join_le (n : Nat) (A B C : Nat → Int) : leB n (joi A B) C = (leB n A C && leB n B C) := by
  unfold leB
  rw [← Bool.decide_and]
  apply decide_eq_decide.2
  constructor
  · intro h; exact ⟨fun i hi => (gr_le.1 (h i hi)).1, fun i hi => (gr_le.1 (h i hi)).2⟩
  · rintro ⟨h1, h2⟩ i hi; exact gr_le.2 ⟨h1 i hi, h2 i hi⟩
theorem join_er {n : Nat} {A B : Nat → Int} (h : erV 0 n n A = 0) (h' : erV 0 n n B = 0) : erV 0 n n (joi A B) = 0 :=
  erV_ok rfl fun i hi => gr_bound ((erV_of h).2.2 i hi) ((erV_of h').2.2 i hi)
set_option maxHeartbeats 20000000 in
set_option maxRecDepth 100000 in
theorem order_good {k r c q : Int} {n W : Nat} (h : Par k r c q n W 0) (w : World) (ao bo co : Option Addr) (ca cb cc : Nat) (A B C : Nat → Int) (ha : Vec w ao n ca A) (hb : Vec w bo n cb B) (hc : Vec w co n cc C)
    (eA : erV 0 n n A = 0) (eB : erV 0 n n B = 0) (eC : erV 0 n n C = 0) :
    Calls Try.prog 6 #[.agg #[.int .i64 k, .int .i64 r, .int .i64 c, .int .i64 q], .slice ao n ca, .slice bo n cb, .slice co n cc] w fun e w' => e = .returned (.bool true) ∧ Below w.heap.size w w' := by
  have hn := h.few
  have CA := fun w (hv : Vec w ao n ca A) => isI (VCheck_any h w ao n ca A hv (by omega)) eA
  have CB := fun w (hv : Vec w bo n cb B) => isI (VCheck_any h w bo n cb B hv (by omega)) eB
  have CC := fun w (hv : Vec w co n cc C) => isI (VCheck_any h w co n cc C hv (by omega)) eC
  have J2 := fun w xo cx yo cy (F G : Nat → Int) (hx : Vec w xo n cx F) (hy : Vec w yo n cy G) (hF : erV 0 n n F = 0) (hG : erV 0 n n G = 0) => got (Join_any h w xo yo n cx n cy F G hx hy (by omega) (by omega) 0 (er2_ok hF hG)) rfl
  have B2 := fun w xo cx yo cy (F G : Nat → Int) (b : Bool) (hx : Vec w xo n cx F) (hy : Vec w yo n cy G) (hF : erV 0 n n F = 0) (hG : erV 0 n n G = 0) (hb : leB n F G = b) => toldB (Below_any h w xo yo n cx n cy F G hx hy (by omega) (by omega) 0 (er2_ok hF hG)) hb
  unfold Got at J2
  have eJ := join_er eA eB
  have eY := join_er eB eC
  obtain ⟨ab, p3⟩ : ∃ b, leB n A B = b := ⟨_, rfl⟩
  obtain ⟨ba, p4⟩ : ∃ b, leB n B A = b := ⟨_, rfl⟩
  obtain ⟨ac, p5⟩ : ∃ b, leB n A C = b := ⟨_, rfl⟩
  obtain ⟨bc, p6⟩ : ∃ b, leB n B C = b := ⟨_, rfl⟩
  have p1 : leB n A (joi A B) = true := decide_eq_true fun i _ => gr_left _ _
  have p2 : leB n B (joi A B) = true := decide_eq_true fun i _ => gr_right _ _
  have p7 : leB n (joi A B) C = (ac && bc) := by rw [join_le, p5, p6]
  have q1 : sameB n n (joi A B) (joi B A) = true := decide_eq_true ⟨rfl, fun i _ => gr_comm _ _⟩
  have q2 : sameB n n (joi A A) A = true := decide_eq_true ⟨rfl, fun i _ => gr_self _⟩
  have q3 : sameB n n A B = (ab && ba) := by rw [same_le, p3, p4]
  have q4 : sameB n n (joi (joi A B) C) (joi A (joi B C)) = true := decide_eq_true ⟨rfl, fun i _ => gr_assoc _ _ _⟩
  have q5 : (ab && bc && !ac) = false := by rw [← p3, ← p6, ← p5]; exact le_way n A B C
  have P3 : Hid (leB n A B = ab) := p3
  have P4 : Hid (leB n B A = ba) := p4
  have P5 : Hid (leB n A C = ac) := p5
  have P6 : Hid (leB n B C = bc) := p6
  have P7 : Hid (leB n (joi A B) C = (ac && bc)) := p7
  have Q3 : Hid (sameB n n A B = (ab && ba)) := q3
  have Q5 : Hid ((ab && bc && !ac) = false) := q5
  have HEA : Hid (erV 0 n n A = 0 ∧ erV 0 n n B = 0 ∧ erV 0 n n C = 0 ∧ erV 0 n n (joi A B) = 0 ∧ erV 0 n n (joi B C) = 0) := ⟨eA, eB, eC, eJ, eY⟩
  have HQS : Hid (leB n A (joi A B) = true ∧ leB n B (joi A B) = true ∧ sameB n n (joi A B) (joi B A) = true ∧ sameB n n (joi A A) A = true ∧ sameB n n (joi (joi A B) C) (joi A (joi B C)) = true) := ⟨p1, p2, q1, q2, q4⟩
  clear p1 p2 p3 p4 p5 p6 p7 q1 q2 q3 q4 q5 eA eB eC eJ eY h
  have HA0 : Hid (Vec w ao n ca A) := ha
  have HB0 : Hid (Vec w bo n cb B) := hb
  have HC0 : Hid (Vec w co n cc C) := hc
  clear ha hb hc
  obtain ⟨w0, hw0⟩ : ∃ w0, w0 = w.alloc (.cells #[.int .i64 k, .int .i64 r, .int .i64 c, .int .i64 q] 24) := ⟨_, rfl⟩
  have b0 : Below w.heap.size w w0 := by rw [hw0]; exact below_alloc _ _
  have i1 : (n : Int) ≤ 200 := by omega
  go_enter Try.func6, Try.ntmps6
  go_wp2_with fail
  rw [← hw0]
  refine (alive_any _).mono ?_
  rintro e y0 ⟨rfl, g0⟩
  obtain ⟨s0, s1, s2, s3⟩ := par_held hw0 g0
  go_wp2_with fail
  refine (CA _ (HA0.out.below (below_then b0 g0))).mono ?_
  rintro e y1 ⟨rfl, f1⟩
  have g1 := below_then g0 f1
  clear s0 s1 s2 s3
  obtain ⟨s0, s1, s2, s3⟩ := par_held hw0 g1
  go_wp2_with fail
  refine (CB _ (HB0.out.below (below_then b0 g1))).mono ?_
  rintro e y2 ⟨rfl, f2⟩
  have g2 := below_then g1 f2
  clear s0 s1 s2 s3
  obtain ⟨s0, s1, s2, s3⟩ := par_held hw0 g2
  go_wp2_with fail
  refine (CC _ (HC0.out.below (below_then b0 g2))).mono ?_
  rintro e vb ⟨rfl, f3⟩
  have B0b : Hid (Below w0.heap.size w0 vb) := below_then g2 f3
  have HWB : Hid (Below w.heap.size w vb) := below_then b0 B0b.out
  have HA : Hid (Vec vb ao n ca A) := HA0.out.below HWB.out
  have HB : Hid (Vec vb bo n cb B) := HB0.out.below HWB.out
  have HC : Hid (Vec vb co n cc C) := HC0.out.below HWB.out
  have KB : Hid (Below vb.heap.size vb vb) := Below.refl _ _
  clear f1 f2 f3 g0 g1 g2 HA0 HB0 HC0 b0 CA CB CC s0 s1 s2 s3
  obtain ⟨s0, s1, s2, s3⟩ := par_held hw0 (below_then B0b.out KB.out)
  go_wp2_with fail
  refine (J2 _ _ _ _ _ A B ?_ ?_ HEA.out.1 HEA.out.2.1).mono ?_
  · exact HA.out.below KB.out
  · exact HB.out.below KB.out
  rintro e v0 ⟨jo, jc, rfl, ho, gg⟩
  have z1 : vb.heap.size ≤ v0.heap.size := gg.size
  have OJ : Hid (Own vb.heap.size v0 jo n jc (joi A B)) := ho
  have TOJ : Hid (∀ g, jo = some ⟨g, 0, none⟩ → vb.heap.size ≤ g ∧ g < v0.heap.size) := Own.lt_any ho
  clear ho
  have KB2 := below_then KB.out gg
  clear KB s0 s1 s2 s3
  have KB : Hid (Below vb.heap.size vb v0) := KB2
  clear KB2 gg
  obtain ⟨s0, s1, s2, s3⟩ := par_held hw0 (below_then B0b.out KB.out)
  go_wp2_with fail
  refine (J2 _ _ _ _ _ B A ?_ ?_ HEA.out.2.1 HEA.out.1).mono ?_
  · exact HB.out.below KB.out
  · exact HA.out.below KB.out
  rintro e v1 ⟨ko, kc, rfl, ho, gg⟩
  have z2 : v0.heap.size ≤ v1.heap.size := gg.size
  replace OJ : Hid (Own vb.heap.size v1 jo n jc (joi A B)) := OJ.out.below gg
  have OK : Hid (Own v0.heap.size v1 ko n kc (joi B A)) := ho
  have TOK : Hid (∀ g, ko = some ⟨g, 0, none⟩ → v0.heap.size ≤ g ∧ g < v1.heap.size) := Own.lt_any ho
  clear ho
  have KB2 := below_then KB.out gg
  clear KB s0 s1 s2 s3
  have KB : Hid (Below vb.heap.size vb v1) := KB2
  clear KB2 gg
  obtain ⟨s0, s1, s2, s3⟩ := par_held hw0 (below_then B0b.out KB.out)
  go_wp2_with fail
  refine (J2 _ _ _ _ _ A A ?_ ?_ HEA.out.1 HEA.out.1).mono ?_
  · exact HA.out.below KB.out
  · exact HA.out.below KB.out
  rintro e v2 ⟨oo, oc, rfl, ho, gg⟩
  have z3 : v1.heap.size ≤ v2.heap.size := gg.size
  replace OJ : Hid (Own vb.heap.size v2 jo n jc (joi A B)) := OJ.out.below gg
  replace OK : Hid (Own v0.heap.size v2 ko n kc (joi B A)) := OK.out.below gg
  have OO : Hid (Own v1.heap.size v2 oo n oc (joi A A)) := ho
  have TOO : Hid (∀ g, oo = some ⟨g, 0, none⟩ → v1.heap.size ≤ g ∧ g < v2.heap.size) := Own.lt_any ho
  clear ho
  have KB2 := below_then KB.out gg
  clear KB s0 s1 s2 s3
  have KB : Hid (Below vb.heap.size vb v2) := KB2
  clear KB2 gg
  obtain ⟨s0, s1, s2, s3⟩ := par_held hw0 (below_then B0b.out KB.out)
  go_wp2_with fail
  refine (B2 _ _ _ _ _ (A) (joi A B) true ?_ ?_ HEA.out.1 HEA.out.2.2.2.1 HQS.out.1).mono ?_
  · exact HA.out.below KB.out
  · exact OJ.out.vec
  rintro e v3 ⟨rfl, gg⟩
  have z4 : v2.heap.size ≤ v3.heap.size := gg.size
  replace OJ : Hid (Own vb.heap.size v3 jo n jc (joi A B)) := OJ.out.below gg
  replace OK : Hid (Own v0.heap.size v3 ko n kc (joi B A)) := OK.out.below gg
  replace OO : Hid (Own v1.heap.size v3 oo n oc (joi A A)) := OO.out.below gg
  have KB2 := below_then KB.out gg
  clear KB s0 s1 s2 s3
  have KB : Hid (Below vb.heap.size vb v3) := KB2
  clear KB2 gg
  obtain ⟨s0, s1, s2, s3⟩ := par_held hw0 (below_then B0b.out KB.out)
  go_wp2_with fail
  refine (B2 _ _ _ _ _ (B) (joi A B) true ?_ ?_ HEA.out.2.1 HEA.out.2.2.2.1 HQS.out.2.1).mono ?_
  · exact HB.out.below KB.out
  · exact OJ.out.vec
  rintro e v4 ⟨rfl, gg⟩
  have z5 : v3.heap.size ≤ v4.heap.size := gg.size
  replace OJ : Hid (Own vb.heap.size v4 jo n jc (joi A B)) := OJ.out.below gg
  replace OK : Hid (Own v0.heap.size v4 ko n kc (joi B A)) := OK.out.below gg
  replace OO : Hid (Own v1.heap.size v4 oo n oc (joi A A)) := OO.out.below gg
  have KB2 := below_then KB.out gg
  clear KB s0 s1 s2 s3
  have KB : Hid (Below vb.heap.size vb v4) := KB2
  clear KB2 gg
  obtain ⟨s0, s1, s2, s3⟩ := par_held hw0 (below_then B0b.out KB.out)
  go_wp2_with fail
  refine (B2 _ _ _ _ _ (A) (B) ab ?_ ?_ HEA.out.1 HEA.out.2.1 P3.out).mono ?_
  · exact HA.out.below KB.out
  · exact HB.out.below KB.out
  rintro e v5 ⟨rfl, gg⟩
  have z6 : v4.heap.size ≤ v5.heap.size := gg.size
  replace OJ : Hid (Own vb.heap.size v5 jo n jc (joi A B)) := OJ.out.below gg
  replace OK : Hid (Own v0.heap.size v5 ko n kc (joi B A)) := OK.out.below gg
  replace OO : Hid (Own v1.heap.size v5 oo n oc (joi A A)) := OO.out.below gg
  have KB2 := below_then KB.out gg
  clear KB s0 s1 s2 s3
  have KB : Hid (Below vb.heap.size vb v5) := KB2
  clear KB2 gg
  obtain ⟨s0, s1, s2, s3⟩ := par_held hw0 (below_then B0b.out KB.out)
  go_wp2_with fail
  refine (B2 _ _ _ _ _ (B) (A) ba ?_ ?_ HEA.out.2.1 HEA.out.1 P4.out).mono ?_
  · exact HB.out.below KB.out
  · exact HA.out.below KB.out
  rintro e v6 ⟨rfl, gg⟩
  have z7 : v5.heap.size ≤ v6.heap.size := gg.size
  replace OJ : Hid (Own vb.heap.size v6 jo n jc (joi A B)) := OJ.out.below gg
  replace OK : Hid (Own v0.heap.size v6 ko n kc (joi B A)) := OK.out.below gg
  replace OO : Hid (Own v1.heap.size v6 oo n oc (joi A A)) := OO.out.below gg
  have KB2 := below_then KB.out gg
  clear KB s0 s1 s2 s3
  have KB : Hid (Below vb.heap.size vb v6) := KB2
  clear KB2 gg
  obtain ⟨s0, s1, s2, s3⟩ := par_held hw0 (below_then B0b.out KB.out)
  go_wp2_with fail
  refine (B2 _ _ _ _ _ (A) (C) ac ?_ ?_ HEA.out.1 HEA.out.2.2.1 P5.out).mono ?_
  · exact HA.out.below KB.out
  · exact HC.out.below KB.out
  rintro e v7 ⟨rfl, gg⟩
  have z8 : v6.heap.size ≤ v7.heap.size := gg.size
  replace OJ : Hid (Own vb.heap.size v7 jo n jc (joi A B)) := OJ.out.below gg
  replace OK : Hid (Own v0.heap.size v7 ko n kc (joi B A)) := OK.out.below gg
  replace OO : Hid (Own v1.heap.size v7 oo n oc (joi A A)) := OO.out.below gg
  have KB2 := below_then KB.out gg
  clear KB s0 s1 s2 s3
  have KB : Hid (Below vb.heap.size vb v7) := KB2
  clear KB2 gg
  obtain ⟨s0, s1, s2, s3⟩ := par_held hw0 (below_then B0b.out KB.out)
  go_wp2_with fail
  refine (B2 _ _ _ _ _ (B) (C) bc ?_ ?_ HEA.out.2.1 HEA.out.2.2.1 P6.out).mono ?_
  · exact HB.out.below KB.out
  · exact HC.out.below KB.out
  rintro e v8 ⟨rfl, gg⟩
  have z9 : v7.heap.size ≤ v8.heap.size := gg.size
  replace OJ : Hid (Own vb.heap.size v8 jo n jc (joi A B)) := OJ.out.below gg
  replace OK : Hid (Own v0.heap.size v8 ko n kc (joi B A)) := OK.out.below gg
  replace OO : Hid (Own v1.heap.size v8 oo n oc (joi A A)) := OO.out.below gg
  have KB2 := below_then KB.out gg
  clear KB s0 s1 s2 s3
  have KB : Hid (Below vb.heap.size vb v8) := KB2
  clear KB2 gg
  obtain ⟨s0, s1, s2, s3⟩ := par_held hw0 (below_then B0b.out KB.out)
  go_wp2_with fail
  refine (B2 _ _ _ _ _ (joi A B) (C) (ac && bc) ?_ ?_ HEA.out.2.2.2.1 HEA.out.2.2.1 P7.out).mono ?_
  · exact OJ.out.vec
  · exact HC.out.below KB.out
  rintro e v9 ⟨rfl, gg⟩
  have z10 : v8.heap.size ≤ v9.heap.size := gg.size
  replace OJ : Hid (Own vb.heap.size v9 jo n jc (joi A B)) := OJ.out.below gg
  replace OK : Hid (Own v0.heap.size v9 ko n kc (joi B A)) := OK.out.below gg
  replace OO : Hid (Own v1.heap.size v9 oo n oc (joi A A)) := OO.out.below gg
  have KB2 := below_then KB.out gg
  clear KB s0 s1 s2 s3
  have KB : Hid (Below vb.heap.size vb v9) := KB2
  clear KB2 gg
  obtain ⟨s0, s1, s2, s3⟩ := par_held hw0 (below_then B0b.out KB.out)
  go_wp2_with fail
  refine (isB (Same_any _ jo ko n jc n kc (joi A B) (joi B A) ?_ ?_ (by omega) (by omega)) HQS.out.2.2.1).mono ?_
  · exact OJ.out.vec.rd
  · exact OK.out.vec.rd
  rintro e v10 ⟨rfl, hq⟩
  have gg := below_q hq
  clear hq
  have z11 : v9.heap.size ≤ v10.heap.size := gg.size
  replace OJ : Hid (Own vb.heap.size v10 jo n jc (joi A B)) := OJ.out.below gg
  replace OK : Hid (Own v0.heap.size v10 ko n kc (joi B A)) := OK.out.below gg
  replace OO : Hid (Own v1.heap.size v10 oo n oc (joi A A)) := OO.out.below gg
  have KB2 := below_then KB.out gg
  clear KB s0 s1 s2 s3
  have KB : Hid (Below vb.heap.size vb v10) := KB2
  clear KB2 gg
  obtain ⟨s0, s1, s2, s3⟩ := par_held hw0 (below_then B0b.out KB.out)
  go_wp2_with fail
  refine (isB (Same_any _ oo ao n oc n ca (joi A A) A ?_ ?_ (by omega) (by omega)) HQS.out.2.2.2.1).mono ?_
  · exact OO.out.vec.rd
  · exact (HA.out.below KB.out).rd
  rintro e v11 ⟨rfl, hq⟩
  have gg := below_q hq
  clear hq
  have z12 : v10.heap.size ≤ v11.heap.size := gg.size
  replace OJ : Hid (Own vb.heap.size v11 jo n jc (joi A B)) := OJ.out.below gg
  replace OK : Hid (Own v0.heap.size v11 ko n kc (joi B A)) := OK.out.below gg
  replace OO : Hid (Own v1.heap.size v11 oo n oc (joi A A)) := OO.out.below gg
  have KB2 := below_then KB.out gg
  clear KB s0 s1 s2 s3
  have KB : Hid (Below vb.heap.size vb v11) := KB2
  clear KB2 gg
  obtain ⟨s0, s1, s2, s3⟩ := par_held hw0 (below_then B0b.out KB.out)
  cases ab <;> cases ba <;> cases ac <;> cases bc
  all_goals first
    | (have := Q5.out; exact absurd this (by decide))
    | (
        go_wp2_with fail
        refine (isB (Same_any _ ao bo n ca n cb A B ?_ ?_ (by omega) (by omega)) Q3.out).mono ?_
        · exact (HA.out.below KB.out).rd
        · exact (HB.out.below KB.out).rd
        rintro e v12 ⟨rfl, hq⟩
        have gg := below_q hq
        clear hq
        have z13 : v11.heap.size ≤ v12.heap.size := gg.size
        replace OJ : Hid (Own vb.heap.size v12 jo n jc (joi A B)) := OJ.out.below gg
        replace OK : Hid (Own v0.heap.size v12 ko n kc (joi B A)) := OK.out.below gg
        replace OO : Hid (Own v1.heap.size v12 oo n oc (joi A A)) := OO.out.below gg
        have KB2 := below_then KB.out gg
        clear KB s0 s1 s2 s3
        have KB : Hid (Below vb.heap.size vb v12) := KB2
        clear KB2 gg
        obtain ⟨s0, s1, s2, s3⟩ := par_held hw0 (below_then B0b.out KB.out)
        go_wp2_with fail
        refine (J2 _ _ _ _ _ (joi A B) C ?_ ?_ HEA.out.2.2.2.1 HEA.out.2.2.1).mono ?_
        · exact OJ.out.vec
        · exact HC.out.below KB.out
        rintro e v13 ⟨xo, xc, rfl, ho, gg⟩
        have z14 : v12.heap.size ≤ v13.heap.size := gg.size
        replace OJ : Hid (Own vb.heap.size v13 jo n jc (joi A B)) := OJ.out.below gg
        replace OK : Hid (Own v0.heap.size v13 ko n kc (joi B A)) := OK.out.below gg
        replace OO : Hid (Own v1.heap.size v13 oo n oc (joi A A)) := OO.out.below gg
        have OX : Hid (Own v12.heap.size v13 xo n xc (joi (joi A B) C)) := ho
        have TOX : Hid (∀ g, xo = some ⟨g, 0, none⟩ → v12.heap.size ≤ g ∧ g < v13.heap.size) := Own.lt_any ho
        clear ho
        have KB2 := below_then KB.out gg
        clear KB s0 s1 s2 s3
        have KB : Hid (Below vb.heap.size vb v13) := KB2
        clear KB2 gg
        obtain ⟨s0, s1, s2, s3⟩ := par_held hw0 (below_then B0b.out KB.out)
        go_wp2_with fail
        refine (J2 _ _ _ _ _ B C ?_ ?_ HEA.out.2.1 HEA.out.2.2.1).mono ?_
        · exact HB.out.below KB.out
        · exact HC.out.below KB.out
        rintro e v14 ⟨yo, yc, rfl, ho, gg⟩
        have z15 : v13.heap.size ≤ v14.heap.size := gg.size
        replace OJ : Hid (Own vb.heap.size v14 jo n jc (joi A B)) := OJ.out.below gg
        replace OK : Hid (Own v0.heap.size v14 ko n kc (joi B A)) := OK.out.below gg
        replace OO : Hid (Own v1.heap.size v14 oo n oc (joi A A)) := OO.out.below gg
        replace OX : Hid (Own v12.heap.size v14 xo n xc (joi (joi A B) C)) := OX.out.below gg
        have OY : Hid (Own v13.heap.size v14 yo n yc (joi B C)) := ho
        have TOY : Hid (∀ g, yo = some ⟨g, 0, none⟩ → v13.heap.size ≤ g ∧ g < v14.heap.size) := Own.lt_any ho
        clear ho
        have KB2 := below_then KB.out gg
        clear KB s0 s1 s2 s3
        have KB : Hid (Below vb.heap.size vb v14) := KB2
        clear KB2 gg
        obtain ⟨s0, s1, s2, s3⟩ := par_held hw0 (below_then B0b.out KB.out)
        go_wp2_with fail
        refine (J2 _ _ _ _ _ A (joi B C) ?_ ?_ HEA.out.1 HEA.out.2.2.2.2).mono ?_
        · exact HA.out.below KB.out
        · exact OY.out.vec
        rintro e v15 ⟨zo, zc, rfl, ho, gg⟩
        have z16 : v14.heap.size ≤ v15.heap.size := gg.size
        replace OJ : Hid (Own vb.heap.size v15 jo n jc (joi A B)) := OJ.out.below gg
        replace OK : Hid (Own v0.heap.size v15 ko n kc (joi B A)) := OK.out.below gg
        replace OO : Hid (Own v1.heap.size v15 oo n oc (joi A A)) := OO.out.below gg
        replace OX : Hid (Own v12.heap.size v15 xo n xc (joi (joi A B) C)) := OX.out.below gg
        replace OY : Hid (Own v13.heap.size v15 yo n yc (joi B C)) := OY.out.below gg
        have OZ : Hid (Own v14.heap.size v15 zo n zc (joi A (joi B C))) := ho
        have TOZ : Hid (∀ g, zo = some ⟨g, 0, none⟩ → v14.heap.size ≤ g ∧ g < v15.heap.size) := Own.lt_any ho
        clear ho
        have KB2 := below_then KB.out gg
        clear KB s0 s1 s2 s3
        have KB : Hid (Below vb.heap.size vb v15) := KB2
        clear KB2 gg
        obtain ⟨s0, s1, s2, s3⟩ := par_held hw0 (below_then B0b.out KB.out)
        go_wp2_with fail
        refine (isB (Same_any _ xo zo n xc n zc (joi (joi A B) C) (joi A (joi B C)) ?_ ?_ (by omega) (by omega)) HQS.out.2.2.2.2).mono ?_
        · exact OX.out.vec.rd
        · exact OZ.out.vec.rd
        rintro e v16 ⟨rfl, hq⟩
        have gg := below_q hq
        clear hq
        have z17 : v15.heap.size ≤ v16.heap.size := gg.size
        replace OJ : Hid (Own vb.heap.size v16 jo n jc (joi A B)) := OJ.out.below gg
        replace OK : Hid (Own v0.heap.size v16 ko n kc (joi B A)) := OK.out.below gg
        replace OO : Hid (Own v1.heap.size v16 oo n oc (joi A A)) := OO.out.below gg
        replace OX : Hid (Own v12.heap.size v16 xo n xc (joi (joi A B) C)) := OX.out.below gg
        replace OY : Hid (Own v13.heap.size v16 yo n yc (joi B C)) := OY.out.below gg
        replace OZ : Hid (Own v14.heap.size v16 zo n zc (joi A (joi B C))) := OZ.out.below gg
        have KB2 := below_then KB.out gg
        clear KB s0 s1 s2 s3
        have KB : Hid (Below vb.heap.size vb v16) := KB2
        clear KB2 gg
        obtain ⟨s0, s1, s2, s3⟩ := par_held hw0 (below_then B0b.out KB.out)
        go_wp2_with fail
        go_ret
        exact ⟨rfl, below_then HWB.out KB.out⟩)
set_option maxHeartbeats 4000000 in
set_option maxRecDepth 100000 in
theorem order_walk (k r c q : Int) (w : World) (ao bo co : Option Addr) (n1 ca n2 cb n3 cc : Nat) (A B C : Nat → Int) (ha : Vec w ao n1 ca A) (hb : Vec w bo n2 cb B) (hc : Vec w co n3 cc C) :
    Calls Try.prog 6 #[.agg #[.int .i64 k, .int .i64 r, .int .i64 c, .int .i64 q], .slice ao n1 ca, .slice bo n2 cb, .slice co n3 cc] w fun e w' => e = .returned (.bool true) ∧ Below w.heap.size w w' := by
  by_cases h1 : n1 ≤ 200
  · by_cases h2 : n2 ≤ 200
    · by_cases h3 : n3 ≤ 200
      · obtain ⟨N, W, x, h⟩ := par_any k r c q
        have HCA : Hid (Vec w ao n1 ca A) := ha
        have HCB : Hid (Vec w bo n2 cb B) := hb
        have HCC : Hid (Vec w co n3 cc C) := hc
        obtain ⟨E1, hE1⟩ : ∃ E, erV x N n1 A = E := ⟨_, rfl⟩
        obtain ⟨E2, hE2⟩ : ∃ E, erV x N n2 B = E := ⟨_, rfl⟩
        obtain ⟨E3, hE3⟩ : ∃ E, erV x N n3 C = E := ⟨_, rfl⟩
        have CA := fun w (hv : Vec w ao n1 ca A) => isI (VCheck_any h w ao n1 ca A hv (by omega)) hE1
        have CB := fun w (hv : Vec w bo n2 cb B) => isI (VCheck_any h w bo n2 cb B hv (by omega)) hE2
        have CC := fun w (hv : Vec w co n3 cc C) => isI (VCheck_any h w co n3 cc C hv (by omega)) hE3
        by_cases k1 : E1 = 0
        · subst k1
          by_cases k2 : E2 = 0
          · subst k2
            by_cases k3 : E3 = 0
            · subst k3
              obtain ⟨rfl, rfl, _⟩ := erV_of hE1
              obtain ⟨_, rfl, _⟩ := erV_of hE2
              obtain ⟨_, rfl, _⟩ := erV_of hE3
              exact order_good h w ao bo co ca cb cc A B C ha hb hc hE1 hE2 hE3
            · have ne : (E3 != 0) = true := by simpa using k3
              clear ha hb hc h hE1 hE2 hE3 k3
              have i1 : (n1 : Int) ≤ 200 := by omega
              have i2 : (n2 : Int) ≤ 200 := by omega
              have i3 : (n3 : Int) ≤ 200 := by omega
              obtain ⟨w0, hw0⟩ : ∃ w0, w0 = w.alloc (.cells #[.int .i64 k, .int .i64 r, .int .i64 c, .int .i64 q] 24) := ⟨_, rfl⟩
              have b0 : Below w.heap.size w w0 := by rw [hw0]; exact below_alloc _ _
              go_enter Try.func6, Try.ntmps6
              go_wp2_with fail
              rw [← hw0]
              refine (alive_any _).mono ?_
              rintro e y0 ⟨rfl, g0⟩
              obtain ⟨s0, s1, s2, s3⟩ := par_held hw0 g0
              go_wp2_with fail
              refine (CA _ (HCA.out.below (below_then b0 g0))).mono ?_
              rintro e y1 ⟨rfl, f1⟩
              have g1 := below_then g0 f1
              clear s0 s1 s2 s3
              obtain ⟨s0, s1, s2, s3⟩ := par_held hw0 g1
              go_wp2_with fail
              refine (CB _ (HCB.out.below (below_then b0 g1))).mono ?_
              rintro e y2 ⟨rfl, f2⟩
              have g2 := below_then g1 f2
              clear s0 s1 s2 s3
              obtain ⟨s0, s1, s2, s3⟩ := par_held hw0 g2
              go_wp2_with fail
              refine (CC _ (HCC.out.below (below_then b0 g2))).mono ?_
              rintro e y3 ⟨rfl, f3⟩
              have g3 := below_then g2 f3
              clear s0 s1 s2 s3
              obtain ⟨s0, s1, s2, s3⟩ := par_held hw0 g3
              go_wp2_with fail
              go_ret
              exact ⟨rfl, below_then b0 g3⟩

          · have ne : (E2 != 0) = true := by simpa using k2
            clear ha hb hc h hE1 hE2 hE3 k2 CC HCC
            have i1 : (n1 : Int) ≤ 200 := by omega
            have i2 : (n2 : Int) ≤ 200 := by omega
            have i3 : (n3 : Int) ≤ 200 := by omega
            obtain ⟨w0, hw0⟩ : ∃ w0, w0 = w.alloc (.cells #[.int .i64 k, .int .i64 r, .int .i64 c, .int .i64 q] 24) := ⟨_, rfl⟩
            have b0 : Below w.heap.size w w0 := by rw [hw0]; exact below_alloc _ _
            go_enter Try.func6, Try.ntmps6
            go_wp2_with fail
            rw [← hw0]
            refine (alive_any _).mono ?_
            rintro e y0 ⟨rfl, g0⟩
            obtain ⟨s0, s1, s2, s3⟩ := par_held hw0 g0
            go_wp2_with fail
            refine (CA _ (HCA.out.below (below_then b0 g0))).mono ?_
            rintro e y1 ⟨rfl, f1⟩
            have g1 := below_then g0 f1
            clear s0 s1 s2 s3
            obtain ⟨s0, s1, s2, s3⟩ := par_held hw0 g1
            go_wp2_with fail
            refine (CB _ (HCB.out.below (below_then b0 g1))).mono ?_
            rintro e y2 ⟨rfl, f2⟩
            have g2 := below_then g1 f2
            clear s0 s1 s2 s3
            obtain ⟨s0, s1, s2, s3⟩ := par_held hw0 g2
            go_wp2_with fail
            go_ret
            exact ⟨rfl, below_then b0 g2⟩

        · have ne : (E1 != 0) = true := by simpa using k1
          clear ha hb hc h hE1 hE2 hE3 k1 CC CB HCC HCB
          have i1 : (n1 : Int) ≤ 200 := by omega
          have i2 : (n2 : Int) ≤ 200 := by omega
          have i3 : (n3 : Int) ≤ 200 := by omega
          obtain ⟨w0, hw0⟩ : ∃ w0, w0 = w.alloc (.cells #[.int .i64 k, .int .i64 r, .int .i64 c, .int .i64 q] 24) := ⟨_, rfl⟩
          have b0 : Below w.heap.size w w0 := by rw [hw0]; exact below_alloc _ _
          go_enter Try.func6, Try.ntmps6
          go_wp2_with fail
          rw [← hw0]
          refine (alive_any _).mono ?_
          rintro e y0 ⟨rfl, g0⟩
          obtain ⟨s0, s1, s2, s3⟩ := par_held hw0 g0
          go_wp2_with fail
          refine (CA _ (HCA.out.below (below_then b0 g0))).mono ?_
          rintro e y1 ⟨rfl, f1⟩
          have g1 := below_then g0 f1
          clear s0 s1 s2 s3
          obtain ⟨s0, s1, s2, s3⟩ := par_held hw0 g1
          go_wp2_with fail
          go_ret
          exact ⟨rfl, below_then b0 g1⟩

      · clear ha hb hc
        have i1 : (n1 : Int) ≤ 200 := by omega
        have i2 : (n2 : Int) ≤ 200 := by omega
        have i3 : ¬ (n3 : Int) ≤ 200 := by omega
        obtain ⟨w0, hw0⟩ : ∃ w0, w0 = w.alloc (.cells #[.int .i64 k, .int .i64 r, .int .i64 c, .int .i64 q] 24) := ⟨_, rfl⟩
        have b0 : Below w.heap.size w w0 := by rw [hw0]; exact below_alloc _ _
        go_enter Try.func6, Try.ntmps6
        go_wp2_with fail
        rw [← hw0]
        refine (alive_any _).mono ?_
        rintro e y0 ⟨rfl, g0⟩
        obtain ⟨s0, s1, s2, s3⟩ := par_held hw0 g0
        go_wp2_with fail
        go_ret
        exact ⟨rfl, below_then b0 g0⟩

    · clear ha hb hc
      have i1 : (n1 : Int) ≤ 200 := by omega
      have i2 : ¬ (n2 : Int) ≤ 200 := by omega
      obtain ⟨w0, hw0⟩ : ∃ w0, w0 = w.alloc (.cells #[.int .i64 k, .int .i64 r, .int .i64 c, .int .i64 q] 24) := ⟨_, rfl⟩
      have b0 : Below w.heap.size w w0 := by rw [hw0]; exact below_alloc _ _
      go_enter Try.func6, Try.ntmps6
      go_wp2_with fail
      rw [← hw0]
      refine (alive_any _).mono ?_
      rintro e y0 ⟨rfl, g0⟩
      obtain ⟨s0, s1, s2, s3⟩ := par_held hw0 g0
      go_wp2_with fail
      go_ret
      exact ⟨rfl, below_then b0 g0⟩

  · clear ha hb hc
    have i1 : ¬ (n1 : Int) ≤ 200 := by omega
    obtain ⟨w0, hw0⟩ : ∃ w0, w0 = w.alloc (.cells #[.int .i64 k, .int .i64 r, .int .i64 c, .int .i64 q] 24) := ⟨_, rfl⟩
    have b0 : Below w.heap.size w w0 := by rw [hw0]; exact below_alloc _ _
    go_enter Try.func6, Try.ntmps6
    go_wp2_with fail
    rw [← hw0]
    refine (alive_any _).mono ?_
    rintro e y0 ⟨rfl, g0⟩
    obtain ⟨s0, s1, s2, s3⟩ := par_held hw0 g0
    go_wp2_with fail
    go_ret
    exact ⟨rfl, below_then b0 g0⟩

end Go.Proofs.Ytkoblkkigmnocaa
