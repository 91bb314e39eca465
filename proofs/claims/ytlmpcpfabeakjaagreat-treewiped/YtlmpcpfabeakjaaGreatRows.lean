/-
  No cell of these rows narrows 'for every input' (looked for: loops, veiled, ifaces, maps, wideKeys, modest, calm, conditions, laid).
  DERIVED. THE GIVEN ROWS OF THIS SEAT. 3 by the template 'for every input the law returns true; each argument reads behind the call as it read before'; 0 by the template 'total and deterministic' (their statements: YtlmpcpfabeakjaaGreatTotals.lean).
  GIVEN WITH THE SEED: the statements are not yours to turn. If you find one false, say at which input.
  Laid BY PROGRAM, IN A SANDBOX (cutbox-rows.mjs): the forced cells as the released guide's own fill.sh prints them over the translation b74572e3cda425a8… (all of the seat's roots in one cut). By AI agents, Wed Nov 11 2026. No macro, syntax, notation, axiom, sorry.
-/
import Derived.Test.YtlmpcpfabeakjaaGreatChecked
import GoSem.Claim
import GoSem.ClaimJoined
import GoSem.ClaimMapViews
import Derived.JoinedTies
import Derived.KernelRfl
namespace Go.Proofs.YtlmpcpfabeakjaaGreat
/- THE CELL 'sum', in the pinned program and in every row, IS THE sha256 OF THE DUMP (.gsa) THAT YtlmpcpfabeakjaaGreatProg.lean LOADS. Nothing in Lean hashes anything: it is a label: what it is worth is what the hold of that sum in a sandbox is worth. -/
noncomputable def Tryz.pinned : Pinned := { name := "ytlmpcpfabeakjaagreat", sum := "b74572e3cda425a8ebbca5fdb7f4c16fc613b20e6886be59c8532272429b7ef1", checked := Tryz.checked }
namespace Rows
def none {H : Type} : Left H := { results := [], args := [] }

/-- 'twoslotlaw17.TreeObject': WHATEVER THE INPUT: true; the input reads as it did. -/
def treeObjectSpec : ChangeSpec := { name := "treeObject", fn := fun _ => fun
  | [d1, d2] => { results := [.lit (.bool true)], args := [d1, d2] }
  | _ => none }
def treeObjectRow : OpenClaim := { program := "ytlmpcpfabeakjaagreat", sum := "b74572e3cda425a8ebbca5fdb7f4c16fc613b20e6886be59c8532272429b7ef1", func := "twoslot/twoslotlaw17.TreeObject", spec := "treeObject", unfollowed := true, recurses := true, plainKeys := false, apart := false }
def TreeObjectSaid : Prop := treeObjectRow.holds Tryz.pinned (OpenSpec.ofChange treeObjectSpec)

/-- ITS FALSE NEIGHBOUR: 'it returns false'. Refute it at one input. -/
def treeObjectWrong : ChangeSpec := { name := "treeObject", fn := fun _ => fun
  | [d1, d2] => { results := [.lit (.bool false)], args := [d1, d2] }
  | _ => none }
def TreeObjectWrongFalsely : Prop := treeObjectRow.holds Tryz.pinned (OpenSpec.ofChange treeObjectWrong)

/-- 'twoslotlaw17.TreeWhole': WHATEVER THE INPUT: true; the input reads as it did. -/
def treeWholeSpec : ChangeSpec := { name := "treeWhole", fn := fun _ => fun
  | [d1, d2] => { results := [.lit (.bool true)], args := [d1, d2] }
  | _ => none }
def treeWholeRow : OpenClaim := { program := "ytlmpcpfabeakjaagreat", sum := "b74572e3cda425a8ebbca5fdb7f4c16fc613b20e6886be59c8532272429b7ef1", func := "twoslot/twoslotlaw17.TreeWhole", spec := "treeWhole", unfollowed := true, recurses := true, plainKeys := false, apart := false }
def TreeWholeSaid : Prop := treeWholeRow.holds Tryz.pinned (OpenSpec.ofChange treeWholeSpec)

/-- ITS FALSE NEIGHBOUR: 'it returns false'. Refute it at one input. -/
def treeWholeWrong : ChangeSpec := { name := "treeWhole", fn := fun _ => fun
  | [d1, d2] => { results := [.lit (.bool false)], args := [d1, d2] }
  | _ => none }
def TreeWholeWrongFalsely : Prop := treeWholeRow.holds Tryz.pinned (OpenSpec.ofChange treeWholeWrong)

/-- 'twoslotlaw17.TreeWiped': WHATEVER THE INPUT: true; the input reads as it did. -/
def treeWipedSpec : ChangeSpec := { name := "treeWiped", fn := fun _ => fun
  | [d1, d2, d3] => { results := [.lit (.bool true)], args := [d1, d2, d3] }
  | _ => none }
def treeWipedRow : OpenClaim := { program := "ytlmpcpfabeakjaagreat", sum := "b74572e3cda425a8ebbca5fdb7f4c16fc613b20e6886be59c8532272429b7ef1", func := "twoslot/twoslotlaw17.TreeWiped", spec := "treeWiped", unfollowed := true, recurses := true, plainKeys := false, apart := false }
def TreeWipedSaid : Prop := treeWipedRow.holds Tryz.pinned (OpenSpec.ofChange treeWipedSpec)

/-- ITS FALSE NEIGHBOUR: 'it returns false'. Refute it at one input. -/
def treeWipedWrong : ChangeSpec := { name := "treeWiped", fn := fun _ => fun
  | [d1, d2, d3] => { results := [.lit (.bool false)], args := [d1, d2, d3] }
  | _ => none }
def TreeWipedWrongFalsely : Prop := treeWipedRow.holds Tryz.pinned (OpenSpec.ofChange treeWipedWrong)

/- THE SECOND FORM. 'bulk': how many values and letters a reading holds, each counted each time it is reached (what is shared counts as often as it is met; a slice's spare places count too). A statement '..UptoSaid' is the law's where the arguments, and the package variables that the reading takes, are together of bulk at most 1048576: NARROWER than '..Said'. Prove '..Said' where nothing that the law and all that it calls make is longer than what came in: it says more and counts as full. Else prove '..UptoSaid'. A law counts once. -/
mutual
def uptoBulk {H : Type} : DataW H → Nat
  | .lit (.string bytes) => bytes.length + 1
  | .lit _ => 1
  | .nil => 1
  | .ptr d => uptoBulk d + 1
  | .slice elems spare => uptoBulkAll elems + uptoBulkAll spare + 1
  | .agg parts => uptoBulkAll parts + 1
  | .iface _ d => uptoBulk d + 1
  | .map entries => uptoBulkEntries entries + 1
  | .held _ => 1
def uptoBulkAll {H : Type} : List (DataW H) → Nat
  | [] => 0
  | d :: r => uptoBulk d + uptoBulkAll r
def uptoBulkEntries {H : Type} : List (Lit × DataW H) → Nat
  | [] => 0
  | x :: r => uptoBulkEntry x + uptoBulkEntries r
def uptoBulkEntry {H : Type} : Lit × DataW H → Nat
  | (.string bytes, d) => bytes.length + uptoBulk d + 1
  | (_, d) => uptoBulk d + 1
 end
def uptoSmall : (H : Type) → List (DataW H) → Bool := fun _ ds => decide (uptoBulkAll ds ≤ 1048576)
def OpenSpec.upto (s : _root_.Go.ChangeSpec) : _root_.Go.OpenSpec := { _root_.Go.OpenSpec.ofChange s with cond := some uptoSmall }

/-- 'twoslotlaw17.TreeObject', WHERE WHAT IT READS IS OF BULK AT MOST 1048576: true; the input reads as it did. -/
def treeObjectUptoRow : OpenClaim := { program := "ytlmpcpfabeakjaagreat", sum := "b74572e3cda425a8ebbca5fdb7f4c16fc613b20e6886be59c8532272429b7ef1", func := "twoslot/twoslotlaw17.TreeObject", spec := "treeObject", unfollowed := true, recurses := true, plainKeys := false, apart := false, narrowed := true }
def TreeObjectUptoSaid : Prop := treeObjectUptoRow.holds Tryz.pinned (OpenSpec.upto treeObjectSpec)

/-- 'twoslotlaw17.TreeWhole', WHERE WHAT IT READS IS OF BULK AT MOST 1048576: true; the input reads as it did. -/
def treeWholeUptoRow : OpenClaim := { program := "ytlmpcpfabeakjaagreat", sum := "b74572e3cda425a8ebbca5fdb7f4c16fc613b20e6886be59c8532272429b7ef1", func := "twoslot/twoslotlaw17.TreeWhole", spec := "treeWhole", unfollowed := true, recurses := true, plainKeys := false, apart := false, narrowed := true }
def TreeWholeUptoSaid : Prop := treeWholeUptoRow.holds Tryz.pinned (OpenSpec.upto treeWholeSpec)

/-- 'twoslotlaw17.TreeWiped', WHERE WHAT IT READS IS OF BULK AT MOST 1048576: true; the input reads as it did. -/
def treeWipedUptoRow : OpenClaim := { program := "ytlmpcpfabeakjaagreat", sum := "b74572e3cda425a8ebbca5fdb7f4c16fc613b20e6886be59c8532272429b7ef1", func := "twoslot/twoslotlaw17.TreeWiped", spec := "treeWiped", unfollowed := true, recurses := true, plainKeys := false, apart := false, narrowed := true }
def TreeWipedUptoSaid : Prop := treeWipedUptoRow.holds Tryz.pinned (OpenSpec.upto treeWipedSpec)

end Rows
end Go.Proofs.YtlmpcpfabeakjaaGreat
