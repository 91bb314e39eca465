/- For every list of raw writes the law ImageMeets returns true and changes nothing that was there: the rows that are met, each once, in order. No condition. -/
import Derived.Test.YtenlfhdchflnjaaRows
import Derived.Test.YtenlfhdchflnjaaImgV
import Derived.Test.YtenlfhdchflnjaaImgY
import Derived.WalkKit
import Derived.ProofKit
import Derived.OpenShut
import Derived.ShutString
import Derived.ChangeOld
import Derived.Below
import Derived.Lib.SmallJoins
namespace Go.Proofs.Ytenlfhdchflnjaa.imageMeets
open Go.ChangeShapes Go.WideShapes Go.ChangeAt Go.RowKit Go.Joins

theorem own : ownKnob Try.prog.godebug = none := by kernel_rfl
theorem laidOut : laidOutB Try.prog = true := by kernel_rfl

set_option maxRecDepth 100000 in
theorem lifted (os : Os) (started : os.Started) (H : Type) (enc : TypeId × Value → H) :
    ReturnsInHanded {} Try.checked os 6 .any (Rows.imageMeetsSpec.pre6 enc Try.prog Try.f6 Rows.imageMeetsRow.domain false) (Rows.imageMeetsSpec.post enc Try.prog Try.f6 false true false false) := by
  refine returnsInHanded_of_change (C := Try.checked) own started (by kernel_rfl) Try.func6
    (ChangeSpec.witness6 (enc := enc) (C := Try.checked) false ⟨#[], #[.slice none 0 0], []⟩ 8 (by kernel_rfl) (by kernel_rfl) (by kernel_rfl) (by kernel_rfl)) ?_
  intro W base args ds gs before hval0 hW hcnd _
  have hval : ∀ (j : Nat) t v, Try.f6.params[j]? = some t → args[j]? = some v → Value.okWide Try.prog W .any base t v := hval0
  have hW' := hW
  obtain ⟨p, q, hA0, hV, rfl, hfz, hnd⟩ := hW
  have hA : DataW.TrodAll enc Try.prog W 0 (fun _ => true) true Try.f6.params.toList args.toList ds p := hA0
  rw [Try.params6] at hA hval
  obtain ⟨v0, vs0, d0, ds0, pl0, q0, hargs, rfl, rfl, h0, r0⟩ := trodAll_cons hA
  obtain ⟨rfl, rfl, rfl⟩ := trodAll_nil r0
  obtain rfl : args = #[v0] := by cases args; simp_all
  obtain ⟨rfl, rfl⟩ := trodVars_none hV
  have k0 := h0
  have lt0 : ∀ x ∈ pl0, x.block < W.heap.size := by obtain ⟨m, hm⟩ := k0; exact DataW.trod_lt m _ _ _ hm
  obtain ⟨ps, pn, pc, hps⟩ := okWide_slice Try.underlying32 (hval 0 32 v0 rfl rfl)
  obtain ⟨po, pn, pc, pD, pB, pK, pe, ph, pl1, pl2, pl3, pl4, pwf, pd⟩ : ∃ po n pc D B K, v0 = .slice po n pc ∧ Pts W (fun b => b < W.heap.size) po n D B K ∧ n ≤ pc ∧ pc ≤ 9223372036854775807 ∧ (∀ i, i < n → (D i).b.length ≤ 9223372036854775807) ∧ (po = none → n = 0 ∧ pc = 0) ∧ (∀ i, i < n → (Lit.int .i64 (D i).r).wf = true) ∧ (d0 = .nil ∨ ∃ e s, d0 = .slice e s ∧ e.length + s.length = pc) := by
    obtain ⟨fuel, hf⟩ := h0
    rw [hps] at hf ⊢
    exact open_pts_wf hf
  subst pe
  clear hps
  clear hA0 hval0
  simp only [List.append_nil] at hW'
  refine (Meets_any po pn pc pD pB pK W ph pwf).mono fun e W' ⟨he, bel⟩ => ?_
  subst he
  exact ⟨_, rfl, _, _, _, [], _, [], hW', trodAll_mk1 (shut_bool Try.underlying4 _), (trodAll_cons_mk (Below.trod laidOut (by kernel_rfl) (of_decide_eq_true (by kernel_rfl)) k0 bel lt0) trodAll_mk0), rfl, bel.frame _, fun h => by cases h⟩

theorem over : Rows.imageMeetsRow.holds Try.pinned (OpenSpec.ofChange Rows.imageMeetsSpec) :=
  OpenClaim.holds_of_wide 6 Try.f6 rfl rfl rfl rfl rfl rfl rfl ⟨rfl, rfl, rfl, rfl, rfl⟩ rfl rfl rfl rfl rfl (by kernel_rfl) Try.func6 (by kernel_rfl)
    (of_decide_eq_true (by kernel_rfl)) (by unfold Func.isWrapper; first | (rw [if_pos (by decide +kernel)]; kernel_rfl) | (rw [if_neg (by decide +kernel)]; exact ⟨rfl, rfl⟩))
    (fun os started H enc _ => lifted os started H enc)
end Go.Proofs.Ytenlfhdchflnjaa.imageMeets
namespace Go.Proofs.Ytenlfhdchflnjaa
theorem imageMeets_holds : Rows.ImageMeetsSaid := imageMeets.over
#print axioms imageMeets_holds
end Go.Proofs.Ytenlfhdchflnjaa
