/- Of any parameters, row, number, version and descriptor (at most 200 refs) the raw writes that commit it, what is read of it, what finishes it and the point of it, and the errors, are the document's; the row and the descriptor stay as they were, and what came back may be written over. No condition. -/
import Derived.Test.YtemlojjkokooeaaGreatRows
import Derived.Test.YtemlojjkokooeaaGreatCommitRowTies
import Derived.Test.YtemlojjkokooeaaGreatTm52
import Derived.WalkKit
import Derived.ProofKit
import Derived.OpenShut
import Derived.ShutString
import Derived.ChangeOld
import Derived.Below
import Derived.SizedLaws
import Derived.Lib.SmallJoins
namespace Go.Proofs.YtemlojjkokooeaaGreat.commitRow
open Go.ChangeShapes Go.WideShapes Go.ChangeAt Go.RowKit Go.Joins

theorem own : ownKnob Tryz.prog.godebug = none := by kernel_rfl
theorem laidOut : laidOutB Tryz.prog = true := by kernel_rfl

set_option maxHeartbeats 4000000 in
set_option maxRecDepth 100000 in
theorem lifted (os : Os) (yX : os.Started) (H : Type) (enc : TypeId × Value → H) :
    ReturnsInHanded {} Tryz.checked os 6 .any (Rows.commitRowSpec.pre6 enc Tryz.prog Tryz.f6 Rows.commitRowRow.domain false) (Rows.commitRowSpec.post enc Tryz.prog Tryz.f6 false true false false) := by
  refine returnsInHanded_of_change_sized (C := Tryz.checked) own yX zh Tryz.func6
    (ChangeSpec.witness6 (enc := enc) (C := Tryz.checked) false ⟨#[], #[.agg #[.int .i64 0, .int .i64 0, .int .i64 0, .int .i64 0], .slice none 0 0, .int .i64 0, .int .i64 0, .agg #[.int .i64 0, .int .i64 0, .slice none 0 0]], []⟩ 8 zh zh zh zh) ?_
  intro W base args ds gs before Jk hW XL RF _
  have yH : ∀ (j : Nat) t v, Tryz.f6.params[j]? = some t → args[j]? = some v → Value.okWide Tryz.prog W .any base t v := Jk
  have UO := hW
  obtain ⟨p, q, UP, hV, rfl, YV, Iz⟩ := hW
  have hA : DataW.TrodAll enc Tryz.prog W 0 (fun _ => true) true Tryz.f6.params.toList args.toList ds p := UP

  have xJ : (DataW.weightsEach Tryz.prog (Tryz.f6.params.toList ++ Rows.commitRowSpec.plain.varTypes Tryz.prog) (ds ++ gs)).all (· ≤ reachBytes) = true := RF
  rw [Tryz.params6] at hA yH xJ
  obtain ⟨v0, YX, d0, YY, XM, q0, UQ, rfl, rfl, h0, r0⟩ := trodAll_cons hA
  obtain ⟨v1, YZ, d1, Y2, XN, q1, rfl, rfl, rfl, h1, r1⟩ := trodAll_cons r0
  obtain ⟨v2, Y3, d2, Y4, XO, q2, rfl, rfl, rfl, h2, r2⟩ := trodAll_cons r1
  obtain ⟨v3, Y5, d3, Y6, XP, q3, rfl, rfl, rfl, h3, r3⟩ := trodAll_cons r2
  obtain ⟨v4, Y7, d4, Y8, XQ, q4, rfl, rfl, rfl, h4, r4⟩ := trodAll_cons r3
  obtain ⟨rfl, rfl, rfl⟩ := trodAll_nil r4
  obtain rfl : args = #[v0, v1, v2, v3, v4] := by cases args; simp_all
  obtain ⟨rfl, rfl⟩ := trodVars_none hV
  have UR := h0
  have XR : ∀ x ∈ XM, x.block < W.heap.size := by obtain ⟨m, hm⟩ := UR; exact DataW.trod_lt m _ _ _ hm
  obtain ⟨US, XT, XU, XV, rfl⟩ := open_par (yH 0 23 v0 rfl rfl) h0
  obtain ⟨Y9, Za, XX, UT⟩ := par_any US XT XU XV
  have RG := h1
  have XY : ∀ x ∈ XN, x.block < W.heap.size := by obtain ⟨m, hm⟩ := RG; exact DataW.trod_lt m _ _ _ hm
  obtain ⟨Zb, Zc, Zd, nl⟩ := okWide_slice Tryz.underlying24 (yH 1 24 v1 rfl rfl)
  obtain ⟨XZ, UU, X2, A1, L1, C1, F1, e1, Mc⟩ : ∃ ro n rc A L C F, v1 = .slice ro n rc ∧ Rw W ro n A L C F := by
    obtain ⟨yq, hf⟩ := h1
    rw [nl] at hf ⊢
    exact open_row hf
  subst e1
  clear nl
  have UV := h2
  have X3 : ∀ x ∈ XO, x.block < W.heap.size := by obtain ⟨m, hm⟩ := UV; exact DataW.trod_lt m _ _ _ hm
  obtain ⟨b2, e2, _⟩ : ∃ b, v2 = .int .i64 b ∧ True := by obtain ⟨b, hb⟩ := okWide_int Tryz.underlying3 (yH 2 3 v2 rfl rfl); exact ⟨b, hb, trivial⟩
  subst e2
  have UW := h3
  have X4 : ∀ x ∈ XP, x.block < W.heap.size := by obtain ⟨m, hm⟩ := UW; exact DataW.trod_lt m _ _ _ hm
  obtain ⟨b3, e3, _⟩ : ∃ b, v3 = .int .i64 b ∧ True := by obtain ⟨b, hb⟩ := okWide_int Tryz.underlying3 (yH 3 3 v3 rfl rfl); exact ⟨b, hb, trivial⟩
  subst e3
  have UX := h4
  have X5 : ∀ x ∈ XQ, x.block < W.heap.size := by obtain ⟨m, hm⟩ := UX; exact DataW.trod_lt m _ _ _ hm
  obtain ⟨X6, X7, X8, X9, Ya, R4, V4, rfl, N3⟩ := Ez (yH 4 60 v4 rfl rfl) h4
  have A8 : UU * 48 ≤ 140737488351232 := by
    obtain ⟨yq, hf⟩ := RG
    rcases Ef hf with q | ⟨q, q1, q2⟩
    · omega
    · have h9 : q ≤ reachBytes := of_decide_eq_true (List.all_eq_true.1 xJ _ (DataW.weights_mem_each (j := 1) (t := 24) rfl rfl q q1))
      unfold reachBytes at h9
      omega
  clear UP Jk
  have hk : 1 ≤ US ∨ XX ≠ 0 := by
    rcases UT with ⟨hm, _, _, _⟩ | ⟨_, _, _, hx⟩
    · exact .inl (aB hm).1
    · right; omega
  simp only [List.append_nil] at UO
  refine (cr_law UT W XZ UU X2 A1 L1 C1 F1 Mc A8 b2 b3 X6 X7 X8 X9 Ya R4 V4 N3 hk).mono fun e W' ⟨he, bel⟩ => ?_
  subst he
  exact ⟨_, rfl, _, _, _, [], _, [], UO, trodAll_mk1 (shut_bool Tryz.underlying4 _), (trodAll_cons_mk (Below.trod laidOut zh (of_decide_eq_true zh) UR bel XR) (trodAll_cons_mk (Below.trod laidOut zh (of_decide_eq_true zh) RG bel XY) (trodAll_cons_mk (Below.trod laidOut zh (of_decide_eq_true zh) UV bel X3) (trodAll_cons_mk (Below.trod laidOut zh (of_decide_eq_true zh) UW bel X4) (trodAll_cons_mk (Below.trod laidOut zh (of_decide_eq_true zh) UX bel X5) trodAll_mk0))))), rfl, bel.frame _, fun h => by cases h⟩

theorem over : Rows.commitRowRow.holds Tryz.pinned (OpenSpec.ofChange Rows.commitRowSpec) :=
  OpenClaim.holds_of_wide 6 Tryz.f6 rfl rfl rfl rfl rfl rfl rfl ⟨rfl, rfl, rfl, rfl, rfl⟩ rfl rfl rfl rfl rfl zh Tryz.func6 commitRow_closed
    (of_decide_eq_true zh) (by unfold Func.isWrapper; first | (rw [zk (by decide +kernel)]; kernel_rfl) | (rw [zl (by decide +kernel)]; exact ⟨rfl, rfl⟩))
    (fun os yX H enc _ => lifted os yX H enc)
end Go.Proofs.YtemlojjkokooeaaGreat.commitRow
namespace Go.Proofs.YtemlojjkokooeaaGreat
theorem commitRow_holds : Rows.CommitRowSaid := commitRow.over
#print axioms commitRow_holds
end Go.Proofs.YtemlojjkokooeaaGreat
