/-
  No cell of these rows narrows 'for every input' (looked for: loops, veiled, ifaces, maps, wideKeys, modest, calm, conditions, laid).
  DERIVED. THE GIVEN ROWS OF THIS SEAT. 6 by the template 'for every input the law returns true; each argument reads behind the call as it read before'; 0 by the template 'total and deterministic' (their statements: YtemlojjkokooeaaGreatTotals.lean).
  GIVEN WITH THE SEED: the statements are not yours to turn. If you find one false, say at which input.
  Laid BY PROGRAM, IN A SANDBOX (cutbox-rows.mjs): the forced cells as the released guide's own fill.sh prints them over the translation 4a7f728d97e9582f… (all of the seat's roots in one cut). By AI agents, Wed Nov 11 2026. No macro, syntax, notation, axiom, sorry.
-/
import Derived.Test.YtemlojjkokooeaaGreatChecked
import GoSem.Claim
import GoSem.ClaimJoined
import GoSem.ClaimMapViews
import Derived.JoinedTies
import Derived.KernelRfl
namespace Go.Proofs.YtemlojjkokooeaaGreat
/- THE CELL 'sum', in the pinned program and in every row, IS THE sha256 OF THE DUMP (.gsa) THAT YtemlojjkokooeaaGreatProg.lean LOADS. Nothing in Lean hashes anything: it is a label: what it is worth is what the hold of that sum in a sandbox is worth. -/
noncomputable def Tryz.pinned : Pinned := { name := "ytemlojjkokooeaagreat", sum := "4a7f728d97e9582f0a3b9b13538bff27e9b00b64f2121cb92abfd8a365321e8c", checked := Tryz.checked }
namespace Rows
def none {H : Type} : Left H := { results := [], args := [] }

/-- 'twoslotlaw12.StripeRead': WHATEVER THE INPUT: true; the input reads as it did. -/
def stripeReadSpec : ChangeSpec := { name := "stripeRead", fn := fun _ => fun
  | [d1, d2, d3, d4] => { results := [.lit (.bool true)], args := [d1, d2, d3, d4] }
  | _ => none }
def stripeReadRow : OpenClaim := { program := "ytemlojjkokooeaagreat", sum := "4a7f728d97e9582f0a3b9b13538bff27e9b00b64f2121cb92abfd8a365321e8c", func := "twoslot/twoslotlaw12.StripeRead", spec := "stripeRead", unfollowed := true, recurses := true, plainKeys := false, apart := false }
def StripeReadSaid : Prop := stripeReadRow.holds Tryz.pinned (OpenSpec.ofChange stripeReadSpec)

/-- ITS FALSE NEIGHBOUR: 'it returns false'. Refute it at one input. -/
def stripeReadWrong : ChangeSpec := { name := "stripeRead", fn := fun _ => fun
  | [d1, d2, d3, d4] => { results := [.lit (.bool false)], args := [d1, d2, d3, d4] }
  | _ => none }
def StripeReadWrongFalsely : Prop := stripeReadRow.holds Tryz.pinned (OpenSpec.ofChange stripeReadWrong)

/-- 'twoslotlaw12.StripeWrite': WHATEVER THE INPUT: true; the input reads as it did. -/
def stripeWriteSpec : ChangeSpec := { name := "stripeWrite", fn := fun _ => fun
  | [d1, d2, d3, d4, d5, d6, d7] => { results := [.lit (.bool true)], args := [d1, d2, d3, d4, d5, d6, d7] }
  | _ => none }
def stripeWriteRow : OpenClaim := { program := "ytemlojjkokooeaagreat", sum := "4a7f728d97e9582f0a3b9b13538bff27e9b00b64f2121cb92abfd8a365321e8c", func := "twoslot/twoslotlaw12.StripeWrite", spec := "stripeWrite", unfollowed := true, recurses := true, plainKeys := false, apart := false }
def StripeWriteSaid : Prop := stripeWriteRow.holds Tryz.pinned (OpenSpec.ofChange stripeWriteSpec)

/-- ITS FALSE NEIGHBOUR: 'it returns false'. Refute it at one input. -/
def stripeWriteWrong : ChangeSpec := { name := "stripeWrite", fn := fun _ => fun
  | [d1, d2, d3, d4, d5, d6, d7] => { results := [.lit (.bool false)], args := [d1, d2, d3, d4, d5, d6, d7] }
  | _ => none }
def StripeWriteWrongFalsely : Prop := stripeWriteRow.holds Tryz.pinned (OpenSpec.ofChange stripeWriteWrong)

/-- 'twoslotlaw13.UpdatePlan': WHATEVER THE INPUT: true; the input reads as it did. -/
def updatePlanSpec : ChangeSpec := { name := "updatePlan", fn := fun _ => fun
  | [d1, d2, d3, d4, d5, d6] => { results := [.lit (.bool true)], args := [d1, d2, d3, d4, d5, d6] }
  | _ => none }
def updatePlanRow : OpenClaim := { program := "ytemlojjkokooeaagreat", sum := "4a7f728d97e9582f0a3b9b13538bff27e9b00b64f2121cb92abfd8a365321e8c", func := "twoslot/twoslotlaw13.UpdatePlan", spec := "updatePlan", unfollowed := true, recurses := true, plainKeys := false, apart := false }
def UpdatePlanSaid : Prop := updatePlanRow.holds Tryz.pinned (OpenSpec.ofChange updatePlanSpec)

/-- ITS FALSE NEIGHBOUR: 'it returns false'. Refute it at one input. -/
def updatePlanWrong : ChangeSpec := { name := "updatePlan", fn := fun _ => fun
  | [d1, d2, d3, d4, d5, d6] => { results := [.lit (.bool false)], args := [d1, d2, d3, d4, d5, d6] }
  | _ => none }
def UpdatePlanWrongFalsely : Prop := updatePlanRow.holds Tryz.pinned (OpenSpec.ofChange updatePlanWrong)

/-- 'twoslotlaw16.CommitRow': WHATEVER THE INPUT: true; the input reads as it did. -/
def commitRowSpec : ChangeSpec := { name := "commitRow", fn := fun _ => fun
  | [d1, d2, d3, d4, d5] => { results := [.lit (.bool true)], args := [d1, d2, d3, d4, d5] }
  | _ => none }
def commitRowRow : OpenClaim := { program := "ytemlojjkokooeaagreat", sum := "4a7f728d97e9582f0a3b9b13538bff27e9b00b64f2121cb92abfd8a365321e8c", func := "twoslot/twoslotlaw16.CommitRow", spec := "commitRow", unfollowed := true, recurses := true, plainKeys := false, apart := false }
def CommitRowSaid : Prop := commitRowRow.holds Tryz.pinned (OpenSpec.ofChange commitRowSpec)

/-- ITS FALSE NEIGHBOUR: 'it returns false'. Refute it at one input. -/
def commitRowWrong : ChangeSpec := { name := "commitRow", fn := fun _ => fun
  | [d1, d2, d3, d4, d5] => { results := [.lit (.bool false)], args := [d1, d2, d3, d4, d5] }
  | _ => none }
def CommitRowWrongFalsely : Prop := commitRowRow.holds Tryz.pinned (OpenSpec.ofChange commitRowWrong)

/-- 'twoslotlaw17.TreeObject': WHATEVER THE INPUT: true; the input reads as it did. -/
def treeObjectSpec : ChangeSpec := { name := "treeObject", fn := fun _ => fun
  | [d1, d2] => { results := [.lit (.bool true)], args := [d1, d2] }
  | _ => none }
def treeObjectRow : OpenClaim := { program := "ytemlojjkokooeaagreat", sum := "4a7f728d97e9582f0a3b9b13538bff27e9b00b64f2121cb92abfd8a365321e8c", func := "twoslot/twoslotlaw17.TreeObject", spec := "treeObject", unfollowed := true, recurses := true, plainKeys := false, apart := false }
def TreeObjectSaid : Prop := treeObjectRow.holds Tryz.pinned (OpenSpec.ofChange treeObjectSpec)

/-- ITS FALSE NEIGHBOUR: 'it returns false'. Refute it at one input. -/
def treeObjectWrong : ChangeSpec := { name := "treeObject", fn := fun _ => fun
  | [d1, d2] => { results := [.lit (.bool false)], args := [d1, d2] }
  | _ => none }
def TreeObjectWrongFalsely : Prop := treeObjectRow.holds Tryz.pinned (OpenSpec.ofChange treeObjectWrong)

/-- 'twoslotlaw18.ObjectBytes': WHATEVER THE INPUT: true; the input reads as it did. -/
def objectBytesSpec : ChangeSpec := { name := "objectBytes", fn := fun _ => fun
  | [d1, d2, d3, d4] => { results := [.lit (.bool true)], args := [d1, d2, d3, d4] }
  | _ => none }
def objectBytesRow : OpenClaim := { program := "ytemlojjkokooeaagreat", sum := "4a7f728d97e9582f0a3b9b13538bff27e9b00b64f2121cb92abfd8a365321e8c", func := "twoslot/twoslotlaw18.ObjectBytes", spec := "objectBytes", unfollowed := true, recurses := true, plainKeys := false, apart := false }
def ObjectBytesSaid : Prop := objectBytesRow.holds Tryz.pinned (OpenSpec.ofChange objectBytesSpec)

/-- ITS FALSE NEIGHBOUR: 'it returns false'. Refute it at one input. -/
def objectBytesWrong : ChangeSpec := { name := "objectBytes", fn := fun _ => fun
  | [d1, d2, d3, d4] => { results := [.lit (.bool false)], args := [d1, d2, d3, d4] }
  | _ => none }
def ObjectBytesWrongFalsely : Prop := objectBytesRow.holds Tryz.pinned (OpenSpec.ofChange objectBytesWrong)

/- THE SECOND FORM. 'bulk': how many values and letters a reading holds, each counted each time it is reached (what is shared counts as often as it is met; a slice's spare places count too). A statement '..UptoSaid' is the law's where the arguments, and the package variables that the reading takes, are together of bulk at most 1048576: NARROWER than '..Said'. Prove '..Said' where nothing that the law and all that it calls make is longer than what came in: it says more and counts as full. Else prove '..UptoSaid'. A law counts once. -/
mutual
def uptoBulk {H : Type} : DataW H → Nat
  | .lit (.string bytes) => bytes.length + 1
  | .lit _ => 1
  | .nil => 1
  | .ptr d => uptoBulk d + 1
  | .slice elems spare => uptoBulkAll elems + uptoBulkAll spare + 1
  | .agg parts => uptoBulkAll parts + 1
  | .iface _ d => uptoBulk d + 1
  | .map entries => uptoBulkEntries entries + 1
  | .held _ => 1
def uptoBulkAll {H : Type} : List (DataW H) → Nat
  | [] => 0
  | d :: r => uptoBulk d + uptoBulkAll r
def uptoBulkEntries {H : Type} : List (Lit × DataW H) → Nat
  | [] => 0
  | x :: r => uptoBulkEntry x + uptoBulkEntries r
def uptoBulkEntry {H : Type} : Lit × DataW H → Nat
  | (.string bytes, d) => bytes.length + uptoBulk d + 1
  | (_, d) => uptoBulk d + 1
 end
def uptoSmall : (H : Type) → List (DataW H) → Bool := fun _ ds => decide (uptoBulkAll ds ≤ 1048576)
def OpenSpec.upto (s : _root_.Go.ChangeSpec) : _root_.Go.OpenSpec := { _root_.Go.OpenSpec.ofChange s with cond := some uptoSmall }

/-- 'twoslotlaw12.StripeRead', WHERE WHAT IT READS IS OF BULK AT MOST 1048576: true; the input reads as it did. -/
def stripeReadUptoRow : OpenClaim := { program := "ytemlojjkokooeaagreat", sum := "4a7f728d97e9582f0a3b9b13538bff27e9b00b64f2121cb92abfd8a365321e8c", func := "twoslot/twoslotlaw12.StripeRead", spec := "stripeRead", unfollowed := true, recurses := true, plainKeys := false, apart := false, narrowed := true }
def StripeReadUptoSaid : Prop := stripeReadUptoRow.holds Tryz.pinned (OpenSpec.upto stripeReadSpec)

/-- 'twoslotlaw12.StripeWrite', WHERE WHAT IT READS IS OF BULK AT MOST 1048576: true; the input reads as it did. -/
def stripeWriteUptoRow : OpenClaim := { program := "ytemlojjkokooeaagreat", sum := "4a7f728d97e9582f0a3b9b13538bff27e9b00b64f2121cb92abfd8a365321e8c", func := "twoslot/twoslotlaw12.StripeWrite", spec := "stripeWrite", unfollowed := true, recurses := true, plainKeys := false, apart := false, narrowed := true }
def StripeWriteUptoSaid : Prop := stripeWriteUptoRow.holds Tryz.pinned (OpenSpec.upto stripeWriteSpec)

/-- 'twoslotlaw13.UpdatePlan', WHERE WHAT IT READS IS OF BULK AT MOST 1048576: true; the input reads as it did. -/
def updatePlanUptoRow : OpenClaim := { program := "ytemlojjkokooeaagreat", sum := "4a7f728d97e9582f0a3b9b13538bff27e9b00b64f2121cb92abfd8a365321e8c", func := "twoslot/twoslotlaw13.UpdatePlan", spec := "updatePlan", unfollowed := true, recurses := true, plainKeys := false, apart := false, narrowed := true }
def UpdatePlanUptoSaid : Prop := updatePlanUptoRow.holds Tryz.pinned (OpenSpec.upto updatePlanSpec)

/-- 'twoslotlaw16.CommitRow', WHERE WHAT IT READS IS OF BULK AT MOST 1048576: true; the input reads as it did. -/
def commitRowUptoRow : OpenClaim := { program := "ytemlojjkokooeaagreat", sum := "4a7f728d97e9582f0a3b9b13538bff27e9b00b64f2121cb92abfd8a365321e8c", func := "twoslot/twoslotlaw16.CommitRow", spec := "commitRow", unfollowed := true, recurses := true, plainKeys := false, apart := false, narrowed := true }
def CommitRowUptoSaid : Prop := commitRowUptoRow.holds Tryz.pinned (OpenSpec.upto commitRowSpec)

/-- 'twoslotlaw17.TreeObject', WHERE WHAT IT READS IS OF BULK AT MOST 1048576: true; the input reads as it did. -/
def treeObjectUptoRow : OpenClaim := { program := "ytemlojjkokooeaagreat", sum := "4a7f728d97e9582f0a3b9b13538bff27e9b00b64f2121cb92abfd8a365321e8c", func := "twoslot/twoslotlaw17.TreeObject", spec := "treeObject", unfollowed := true, recurses := true, plainKeys := false, apart := false, narrowed := true }
def TreeObjectUptoSaid : Prop := treeObjectUptoRow.holds Tryz.pinned (OpenSpec.upto treeObjectSpec)

/-- 'twoslotlaw18.ObjectBytes', WHERE WHAT IT READS IS OF BULK AT MOST 1048576: true; the input reads as it did. -/
def objectBytesUptoRow : OpenClaim := { program := "ytemlojjkokooeaagreat", sum := "4a7f728d97e9582f0a3b9b13538bff27e9b00b64f2121cb92abfd8a365321e8c", func := "twoslot/twoslotlaw18.ObjectBytes", spec := "objectBytes", unfollowed := true, recurses := true, plainKeys := false, apart := false, narrowed := true }
def ObjectBytesUptoSaid : Prop := objectBytesUptoRow.holds Tryz.pinned (OpenSpec.upto objectBytesSpec)

end Rows
end Go.Proofs.YtemlojjkokooeaaGreat
