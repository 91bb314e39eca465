/- DiskScript holds. -/
import Derived.Test.YtdicogmjjboilaaRows
import Derived.Test.YtdicogmjjboilaaDskO
import Derived.Test.YtdicogmjjboilaaDsk6
import Derived.Test.YtdicogmjjboilaaDsk7
import Derived.WalkKit
import Derived.ProofKit
import Derived.OpenShut
import Derived.ShutString
import Derived.ChangeOld
import Derived.Below
import Derived.SizedLaws
import Derived.Lib.SmallJoins
namespace Go.Proofs.Ytdicogmjjboilaa.diskScript
open Go.ChangeShapes Go.WideShapes Go.ChangeAt Go.RowKit Go.Joins

theorem own : ownKnob Try.prog.godebug = none := by kernel_rfl
theorem laidOut : laidOutB Try.prog = true := by kernel_rfl

set_option maxRecDepth 100000 in
theorem lifted (os : Os) (started : os.Started) (H : Type) (enc : TypeId × Value → H) :
    ReturnsInHanded {} Try.checked os 3 .any (Rows.diskScriptSpec.pre6 enc Try.prog Try.f3 Rows.diskScriptRow.domain false) (Rows.diskScriptSpec.post enc Try.prog Try.f3 false true false false) := by
  refine returnsInHanded_of_change_sized (C := Try.checked) own started (by kernel_rfl) Try.func3
    (ChangeSpec.witness6 (enc := enc) (C := Try.checked) false ⟨#[], #[.agg #[.int .i64 0, .int .i64 0, .int .i64 0, .int .i64 0, .slice none 0 0], .slice none 0 0], []⟩ 8 (by kernel_rfl) (by kernel_rfl) (by kernel_rfl) (by kernel_rfl)) ?_
  intro W base args ds gs before hval0 hW hcnd hsz0 _
  have hval : ∀ (j : Nat) t v, Try.f3.params[j]? = some t → args[j]? = some v → Value.okWide Try.prog W .any base t v := hval0
  have hW' := hW
  obtain ⟨p, q, hA0, hV, rfl, hfz, hnd⟩ := hW
  have hA : DataW.TrodAll enc Try.prog W 0 (fun _ => true) true Try.f3.params.toList args.toList ds p := hA0
  have hsz : (DataW.weightsEach Try.prog (Try.f3.params.toList ++ Rows.diskScriptSpec.plain.varTypes Try.prog) (ds ++ gs)).all (· ≤ reachBytes) = true := hsz0
  rw [Try.params3] at hA hval hsz
  obtain ⟨v0, vs0, d0, ds0, pl0, q0, hargs, rfl, rfl, h0, r0⟩ := trodAll_cons hA
  obtain ⟨v1, vs1, d1, ds1, pl1, q1, rfl, rfl, rfl, h1, r1⟩ := trodAll_cons r0
  obtain ⟨rfl, rfl, rfl⟩ := trodAll_nil r1
  obtain rfl : args = #[v0, v1] := by cases args; simp_all
  obtain ⟨rfl, rfl⟩ := trodVars_none hV
  have k0 := h0
  have lt0 : ∀ x ∈ pl0, x.block < W.heap.size := by obtain ⟨m, hm⟩ := k0; exact DataW.trod_lt m _ _ _ hm
  obtain ⟨mk, mr, mc, mq, mlo, mn, mcl, mA, mC, mF, rfl, mh, my, mz, md, me⟩ := open_img (hval 0 26 v0 rfl rfl) h0
  have mw : mn * 24 ≤ 140737488351232 := by
    rcases img_weight h0 with q | ⟨q, q1, q2⟩
    · omega
    · have h9 : q ≤ reachBytes := of_decide_eq_true (List.all_eq_true.1 hsz _ (DataW.weights_mem_each (j := 0) (t := 26) rfl rfl q q1))
      unfold reachBytes at h9
      omega
  have k1 := h1
  have lt1 : ∀ x ∈ pl1, x.block < W.heap.size := by obtain ⟨m, hm⟩ := k1; exact DataW.trod_lt m _ _ _ hm
  obtain ⟨ts, tn, tc, hts⟩ := okWide_slice Try.underlying27 (hval 1 27 v1 rfl rfl)
  obtain ⟨lo, ln, lc, lX, lD, lB, lK, te, th, tn2, tx⟩ : ∃ (lo : Option Addr) (n lc : Nat) (X : Nat → Sp) (D : Nat → Nat → Pt) (B : Nat → Nat → Option Addr) (K : Nat → Nat → Nat), v1 = .slice lo n lc ∧ Sps W lo n X ∧ n ≤ 9223372036854775807 ∧ ∀ i, i < n → Pts W (fun b => b < W.heap.size) (X i).po (X i).m (D i) (B i) (K i) ∧ (∀ j, j < (X i).m → (D i j).b.length ≤ 9223372036854775807) ∧ (X i).n ≤ 9223372036854775807 ∧ ((X i).m = 0 ∨ ∃ q, q ∈ d1.weights Try.prog 27 ∧ (X i).m * 48 ≤ q) := by
    obtain ⟨fuel, hf⟩ := h1
    rw [hts] at hf ⊢
    exact open_stps hf
  subst te
  clear hts
  have tw : ∀ i, i < ln → (lX i).m * 48 ≤ 140737488351232 := fun i hi => by
    rcases (tx i hi).2.2.2 with q | ⟨q, q1, q2⟩
    · omega
    · have h9 : q ≤ reachBytes := of_decide_eq_true (List.all_eq_true.1 hsz _ (DataW.weights_mem_each (j := 1) (t := 27) rfl rfl q q1))
      unfold reachBytes at h9
      omega
  clear hA0 hval0
  simp only [List.append_nil] at hW'
  refine (script_walk W mk mr mc mq mlo mn mcl mA mC mF mh.1 mw mh.2.2.2.2 lo ln lc lX th tn2 lD lB lK (fun i hi => (tx i hi).1) tw (fun i hi => (tx i hi).2.1) (fun i hi => (tx i hi).2.2.1)).mono fun e W' ⟨he, bel⟩ => ?_
  subst he
  exact ⟨_, rfl, _, _, _, [], _, [], hW', trodAll_mk1 (shut_bool Try.underlying4 _), (trodAll_cons_mk (Below.trod laidOut (by kernel_rfl) (of_decide_eq_true (by kernel_rfl)) k0 bel lt0) (trodAll_cons_mk (Below.trod laidOut (by kernel_rfl) (of_decide_eq_true (by kernel_rfl)) k1 bel lt1) trodAll_mk0)), rfl, bel.frame _, fun h => by cases h⟩

theorem over : Rows.diskScriptRow.holds Try.pinned (OpenSpec.ofChange Rows.diskScriptSpec) :=
  OpenClaim.holds_of_wide 3 Try.f3 rfl rfl rfl rfl rfl rfl rfl ⟨rfl, rfl, rfl, rfl, rfl⟩ rfl rfl rfl rfl rfl (by kernel_rfl) Try.func3 (by kernel_rfl)
    (of_decide_eq_true (by kernel_rfl)) (by unfold Func.isWrapper; first | (rw [if_pos (by decide +kernel)]; kernel_rfl) | (rw [if_neg (by decide +kernel)]; exact ⟨rfl, rfl⟩))
    (fun os started H enc _ => lifted os started H enc)
end Go.Proofs.Ytdicogmjjboilaa.diskScript
namespace Go.Proofs.Ytdicogmjjboilaa
theorem diskScript_holds : Rows.DiskScriptSaid := diskScript.over
#print axioms diskScript_holds
end Go.Proofs.Ytdicogmjjboilaa
