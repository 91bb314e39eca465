/- Of any parameters, row, number, versions and changes (at most 40) the raw writes of a part of a stripe, and the errors, are the document's; the row and the changes stay as they were, and what came back may be written over. No condition. -/
import Derived.Test.YtemlojjkokooeaaGreatRows
import Derived.Test.YtemlojjkokooeaaGreatUpdatePlanTies
import Derived.Test.YtemlojjkokooeaaGreatTj52
import Derived.WalkKit
import Derived.ProofKit
import Derived.OpenShut
import Derived.ShutString
import Derived.ChangeOld
import Derived.Below
import Derived.SizedLaws
import Derived.Lib.SmallJoins
namespace Go.Proofs.YtemlojjkokooeaaGreat.updatePlan
open Go.ChangeShapes Go.WideShapes Go.ChangeAt Go.RowKit Go.Joins

theorem own : ownKnob Tryz.prog.godebug = none := by kernel_rfl
theorem laidOut : laidOutB Tryz.prog = true := by kernel_rfl

set_option maxHeartbeats 4000000 in
set_option maxRecDepth 100000 in
theorem lifted (os : Os) (started : os.Started) (H : Type) (enc : TypeId × Value → H) :
    ReturnsInHanded {} Tryz.checked os 5 .any (Rows.updatePlanSpec.pre6 enc Tryz.prog Tryz.f5 Rows.updatePlanRow.domain false) (Rows.updatePlanSpec.post enc Tryz.prog Tryz.f5 false true false false) := by
  refine returnsInHanded_of_change_sized (C := Tryz.checked) own started (by kernel_rfl) Tryz.func5
    (ChangeSpec.witness6 (enc := enc) (C := Tryz.checked) false ⟨#[], #[.agg #[.int .i64 0, .int .i64 0, .int .i64 0, .int .i64 0], .slice none 0 0, .int .i64 0, .int .i64 0, .int .i64 0, .slice none 0 0], []⟩ 8 (by kernel_rfl) (by kernel_rfl) (by kernel_rfl) (by kernel_rfl)) ?_
  intro W base args ds gs before hval0 hW hcnd hsz0 _
  have hval : ∀ (j : Nat) t v, Tryz.f5.params[j]? = some t → args[j]? = some v → Value.okWide Tryz.prog W .any base t v := hval0
  have hW' := hW
  obtain ⟨p, q, hA0, hV, rfl, hfz, hnd⟩ := hW
  have hA : DataW.TrodAll enc Tryz.prog W 0 (fun _ => true) true Tryz.f5.params.toList args.toList ds p := hA0

  have hsz : (DataW.weightsEach Tryz.prog (Tryz.f5.params.toList ++ Rows.updatePlanSpec.plain.varTypes Tryz.prog) (ds ++ gs)).all (· ≤ reachBytes) = true := hsz0
  rw [Tryz.params5] at hA hval hsz
  obtain ⟨v0, vs0, d0, ds0, pl0, q0, hargs, rfl, rfl, h0, r0⟩ := trodAll_cons hA
  obtain ⟨v1, vs1, d1, ds1, pl1, q1, rfl, rfl, rfl, h1, r1⟩ := trodAll_cons r0
  obtain ⟨v2, vs2, d2, ds2, pl2, q2, rfl, rfl, rfl, h2, r2⟩ := trodAll_cons r1
  obtain ⟨v3, vs3, d3, ds3, pl3, q3, rfl, rfl, rfl, h3, r3⟩ := trodAll_cons r2
  obtain ⟨v4, vs4, d4, ds4, pl4, q4, rfl, rfl, rfl, h4, r4⟩ := trodAll_cons r3
  obtain ⟨v5, vs5, d5, ds5, pl5, q5, rfl, rfl, rfl, h5, r5⟩ := trodAll_cons r4
  obtain ⟨rfl, rfl, rfl⟩ := trodAll_nil r5
  obtain rfl : args = #[v0, v1, v2, v3, v4, v5] := by cases args; simp_all
  obtain ⟨rfl, rfl⟩ := trodVars_none hV
  have k0' := h0
  have lt0 : ∀ x ∈ pl0, x.block < W.heap.size := by obtain ⟨m, hm⟩ := k0'; exact DataW.trod_lt m _ _ _ hm
  obtain ⟨pk0, pr0, pc0, pq0, rfl⟩ := open_par (hval 0 23 v0 rfl rfl) h0
  obtain ⟨pN0, pW0, px0, hp0⟩ := par_any pk0 pr0 pc0 pq0
  have k1' := h1
  have lt1 : ∀ x ∈ pl1, x.block < W.heap.size := by obtain ⟨m, hm⟩ := k1'; exact DataW.trod_lt m _ _ _ hm
  obtain ⟨xo1, xn1, xc1, hx1⟩ := okWide_slice Tryz.underlying24 (hval 1 24 v1 rfl rfl)
  obtain ⟨ro1, rn1, rc1, A1, L1, C1, F1, e1, hr1⟩ : ∃ ro n rc A L C F, v1 = .slice ro n rc ∧ Rw W ro n A L C F := by
    obtain ⟨fuel, hf⟩ := h1
    rw [hx1] at hf ⊢
    exact open_row hf
  subst e1
  clear hx1
  have k2' := h2
  have lt2 : ∀ x ∈ pl2, x.block < W.heap.size := by obtain ⟨m, hm⟩ := k2'; exact DataW.trod_lt m _ _ _ hm
  obtain ⟨b2, e2, _⟩ : ∃ b, v2 = .int .i64 b ∧ True := by obtain ⟨b, hb⟩ := okWide_int Tryz.underlying3 (hval 2 3 v2 rfl rfl); exact ⟨b, hb, trivial⟩
  subst e2
  have k3' := h3
  have lt3 : ∀ x ∈ pl3, x.block < W.heap.size := by obtain ⟨m, hm⟩ := k3'; exact DataW.trod_lt m _ _ _ hm
  obtain ⟨b3, e3, _⟩ : ∃ b, v3 = .int .i64 b ∧ True := by obtain ⟨b, hb⟩ := okWide_int Tryz.underlying3 (hval 3 3 v3 rfl rfl); exact ⟨b, hb, trivial⟩
  subst e3
  have k4' := h4
  have lt4 : ∀ x ∈ pl4, x.block < W.heap.size := by obtain ⟨m, hm⟩ := k4'; exact DataW.trod_lt m _ _ _ hm
  obtain ⟨b4, e4, _⟩ : ∃ b, v4 = .int .i64 b ∧ True := by obtain ⟨b, hb⟩ := okWide_int Tryz.underlying3 (hval 4 3 v4 rfl rfl); exact ⟨b, hb, trivial⟩
  subst e4
  have k5' := h5
  have lt5 : ∀ x ∈ pl5, x.block < W.heap.size := by obtain ⟨m, hm⟩ := k5'; exact DataW.trod_lt m _ _ _ hm
  obtain ⟨xo5, xn5, xc5, hx5⟩ := okWide_slice Tryz.underlying50 (hval 5 50 v5 rfl rfl)
  obtain ⟨lo5, ln5, lc5, LD5, LA5, LL5, LC5, LF5, e5, hl5⟩ : ∃ lo n lc D A L C F, v5 = .slice lo n lc ∧ Chl W lo n lc D A L C F := by
    obtain ⟨fuel, hf⟩ := h5
    rw [hx5] at hf ⊢
    exact open_chl hf
  subst e5
  clear hx5
  have hn1 : rn1 * 48 ≤ 140737488351232 := by
    obtain ⟨fuel, hf⟩ := k1'
    rcases row_weight hf with q | ⟨q, q1, q2⟩
    · omega
    · have h9 : q ≤ reachBytes := of_decide_eq_true (List.all_eq_true.1 hsz _ (DataW.weights_mem_each (j := 1) (t := 24) rfl rfl q q1))
      unfold reachBytes at h9
      omega
  clear hA0 hval0
  simp only [List.append_nil] at hW'
  refine (up_law hp0 W ro1 rn1 rc1 A1 L1 C1 F1 hr1 hn1 b2 b3 b4 lo5 ln5 lc5 LD5 LA5 LL5 LC5 LF5 hl5).mono fun e W' ⟨he, bel⟩ => ?_
  subst he
  exact ⟨_, rfl, _, _, _, [], _, [], hW', trodAll_mk1 (shut_bool Tryz.underlying4 _), (trodAll_cons_mk (Below.trod laidOut (by kernel_rfl) (of_decide_eq_true (by kernel_rfl)) k0' bel lt0) (trodAll_cons_mk (Below.trod laidOut (by kernel_rfl) (of_decide_eq_true (by kernel_rfl)) k1' bel lt1) (trodAll_cons_mk (Below.trod laidOut (by kernel_rfl) (of_decide_eq_true (by kernel_rfl)) k2' bel lt2) (trodAll_cons_mk (Below.trod laidOut (by kernel_rfl) (of_decide_eq_true (by kernel_rfl)) k3' bel lt3) (trodAll_cons_mk (Below.trod laidOut (by kernel_rfl) (of_decide_eq_true (by kernel_rfl)) k4' bel lt4) (trodAll_cons_mk (Below.trod laidOut (by kernel_rfl) (of_decide_eq_true (by kernel_rfl)) k5' bel lt5) trodAll_mk0)))))), rfl, bel.frame _, fun h => by cases h⟩

theorem over : Rows.updatePlanRow.holds Tryz.pinned (OpenSpec.ofChange Rows.updatePlanSpec) :=
  OpenClaim.holds_of_wide 5 Tryz.f5 rfl rfl rfl rfl rfl rfl rfl ⟨rfl, rfl, rfl, rfl, rfl⟩ rfl rfl rfl rfl rfl (by kernel_rfl) Tryz.func5 updatePlan_closed
    (of_decide_eq_true (by kernel_rfl)) (by unfold Func.isWrapper; first | (rw [if_pos (by decide +kernel)]; kernel_rfl) | (rw [if_neg (by decide +kernel)]; exact ⟨rfl, rfl⟩))
    (fun os started H enc _ => lifted os started H enc)
end Go.Proofs.YtemlojjkokooeaaGreat.updatePlan
namespace Go.Proofs.YtemlojjkokooeaaGreat
theorem updatePlan_holds : Rows.UpdatePlanSaid := updatePlan.over
#print axioms updatePlan_holds
end Go.Proofs.YtemlojjkokooeaaGreat
