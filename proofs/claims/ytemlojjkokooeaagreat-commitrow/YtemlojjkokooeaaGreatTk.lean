/- Operations of a region that come up one by one, as the texts of this claim write them. -/
import Derived.WalkKit
import Derived.Deep.RegionHeld3
import Derived.OrdersHeld
namespace Go.Proofs.YtemlojjkokooeaaGreat
open Go.RowKit
theorem tkq {P : Program} {ops : Array Oper} {Q : Exit → Act → World → Prop} {md : Region.Mode} {S C : World → Prop} (hQp : ∀ ch a v, Q (.panic ch) a v → False) (hC : Hid (∀ v, S v → C v)) (i : Nat) (oi : Oper) (v : Value) {fuel : Nat} {listed : Array Bool} {a : Act} {w : World} (hS : S w) (h : wpAnyH P md ops Q S fuel (listed.setIfInBounds i true) (a.put oi.dst v) w) (hi : ops[i]? = some oi := by rfl) (hs : Region.noSelect ops = true := by kernel_rfl) (hf : Region.free md ops listed i = true := by kernel_rfl) (hr : (Region.ready md ops listed).contains i = true := by kernel_rfl) (hw : Region.wanted oi (yielded ops a.tmps) = true := by kernel_rfl) (hy : ∀ w, C w → (execOp a.eval oi).run P w = .ok (.value v) w := by (intro w' hw; repeat (obtain ⟨_, hw⟩ := hw); go_simp <;> first | with_reducible rfl | assumption)) : wpAnyH P md ops Q S (fuel + 1) listed a w :=
  wpAnyH_take hi hs hf hr (fun _ _ _ h => (hQp _ _ _ h).elim) (Or.inl ⟨hw, fun w hw => hy w (hC.out w hw)⟩) hS h
theorem tkn {P : Program} {ops : Array Oper} {Q : Exit → Act → World → Prop} {md : Region.Mode} {S : World → Prop} (hQp : ∀ ch a v, Q (.panic ch) a v → False) (i : Nat) (oi : Oper) {fuel : Nat} {listed : Array Bool} {a : Act} {w : World} (hS : S w) (h : wpAnyH P md ops Q S fuel (listed.setIfInBounds i true) (a.put oi.dst undef) w) (hi : ops[i]? = some oi := by rfl) (hs : Region.noSelect ops = true := by kernel_rfl) (hf : Region.free md ops listed i = true := by kernel_rfl) (hr : (Region.ready md ops listed).contains i = true := by kernel_rfl) (hw : Region.wanted oi (yielded ops a.tmps) = false := by kernel_rfl) : wpAnyH P md ops Q S (fuel + 1) listed a w :=
  wpAnyH_take hi hs hf hr (fun _ _ _ h => (hQp _ _ _ h).elim) (Or.inr ⟨hw, rfl⟩) hS h
end Go.Proofs.YtemlojjkokooeaaGreat
