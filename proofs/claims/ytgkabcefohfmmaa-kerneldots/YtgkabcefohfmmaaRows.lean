/-
  No cell of these rows narrows 'for every input' (looked for: loops, veiled, ifaces, maps, wideKeys, modest, calm, conditions, laid).
  DERIVED. THE GIVEN ROWS OF THIS SEAT. 5 by the template 'for every input the law returns true; each argument reads behind the call as it read before'; 0 by the template 'total and deterministic' (their statements: YtgkabcefohfmmaaTotals.lean).
  GIVEN WITH THE SEED: the statements are not yours to turn. If you find one false, say at which input.
  Laid BY PROGRAM, IN A SANDBOX (cutbox-rows.mjs): the forced cells as the released guide's own fill.sh prints them over the translation a9804d148e7c57d7… (all of the seat's roots in one cut). By AI agents, Wed Nov 11 2026. No macro, syntax, notation, axiom, sorry.
-/
import Derived.Test.YtgkabcefohfmmaaChecked
import GoSem.Claim
import GoSem.ClaimJoined
import GoSem.ClaimMapViews
import Derived.JoinedTies
import Derived.KernelRfl
namespace Go.Proofs.Ytgkabcefohfmmaa
/- THE CELL 'sum', in the pinned program and in every row, IS THE sha256 OF THE DUMP (.gsa) THAT YtgkabcefohfmmaaProg.lean LOADS. Nothing in Lean hashes anything: it is a label: what it is worth is what the hold of that sum in a sandbox is worth. -/
noncomputable def Try.pinned : Pinned := { name := "ytgkabcefohfmmaa", sum := "a9804d148e7c57d7640bdd5393b48b2b99258c8a0f69eeb883df5387490fbbba", checked := Try.checked }
namespace Rows
def none {H : Type} : Left H := { results := [], args := [] }

/-- 'twoslotlaw02.KernelNames': WHATEVER THE INPUT: true; the input reads as it did. -/
def kernelNamesSpec : ChangeSpec := { name := "kernelNames", fn := fun _ => fun
  | [] => { results := [.lit (.bool true)], args := [] }
  | _ => none }
def kernelNamesRow : OpenClaim := { program := "ytgkabcefohfmmaa", sum := "a9804d148e7c57d7640bdd5393b48b2b99258c8a0f69eeb883df5387490fbbba", func := "twoslot/twoslotlaw02.KernelNames", spec := "kernelNames", apart := false }
def KernelNamesSaid : Prop := kernelNamesRow.holds Try.pinned (OpenSpec.ofChange kernelNamesSpec)

/-- ITS FALSE NEIGHBOUR: 'it returns false'. Refute it at one input. -/
def kernelNamesWrong : ChangeSpec := { name := "kernelNames", fn := fun _ => fun
  | [] => { results := [.lit (.bool false)], args := [] }
  | _ => none }
def KernelNamesWrongFalsely : Prop := kernelNamesRow.holds Try.pinned (OpenSpec.ofChange kernelNamesWrong)

/-- 'twoslotlaw02.KernelSums': WHATEVER THE INPUT: true; the input reads as it did. -/
def kernelSumsSpec : ChangeSpec := { name := "kernelSums", fn := fun _ => fun
  | [d1, d2, d3, d4] => { results := [.lit (.bool true)], args := [d1, d2, d3, d4] }
  | _ => none }
def kernelSumsRow : OpenClaim := { program := "ytgkabcefohfmmaa", sum := "a9804d148e7c57d7640bdd5393b48b2b99258c8a0f69eeb883df5387490fbbba", func := "twoslot/twoslotlaw02.KernelSums", spec := "kernelSums", apart := false }
def KernelSumsSaid : Prop := kernelSumsRow.holds Try.pinned (OpenSpec.ofChange kernelSumsSpec)

/-- ITS FALSE NEIGHBOUR: 'it returns false'. Refute it at one input. -/
def kernelSumsWrong : ChangeSpec := { name := "kernelSums", fn := fun _ => fun
  | [d1, d2, d3, d4] => { results := [.lit (.bool false)], args := [d1, d2, d3, d4] }
  | _ => none }
def KernelSumsWrongFalsely : Prop := kernelSumsRow.holds Try.pinned (OpenSpec.ofChange kernelSumsWrong)

/-- 'twoslotlaw02.KernelDots': WHATEVER THE INPUT: true; the input reads as it did. -/
def kernelDotsSpec : ChangeSpec := { name := "kernelDots", fn := fun _ => fun
  | [d1, d2] => { results := [.lit (.bool true)], args := [d1, d2] }
  | _ => none }
def kernelDotsRow : OpenClaim := { program := "ytgkabcefohfmmaa", sum := "a9804d148e7c57d7640bdd5393b48b2b99258c8a0f69eeb883df5387490fbbba", func := "twoslot/twoslotlaw02.KernelDots", spec := "kernelDots", apart := false }
def KernelDotsSaid : Prop := kernelDotsRow.holds Try.pinned (OpenSpec.ofChange kernelDotsSpec)

/-- ITS FALSE NEIGHBOUR: 'it returns false'. Refute it at one input. -/
def kernelDotsWrong : ChangeSpec := { name := "kernelDots", fn := fun _ => fun
  | [d1, d2] => { results := [.lit (.bool false)], args := [d1, d2] }
  | _ => none }
def KernelDotsWrongFalsely : Prop := kernelDotsRow.holds Try.pinned (OpenSpec.ofChange kernelDotsWrong)

/-- 'twoslotlaw02.KernelBytes': WHATEVER THE INPUT: true; the input reads as it did. -/
def kernelBytesSpec : ChangeSpec := { name := "kernelBytes", fn := fun _ => fun
  | [d1, d2, d3] => { results := [.lit (.bool true)], args := [d1, d2, d3] }
  | _ => none }
def kernelBytesRow : OpenClaim := { program := "ytgkabcefohfmmaa", sum := "a9804d148e7c57d7640bdd5393b48b2b99258c8a0f69eeb883df5387490fbbba", func := "twoslot/twoslotlaw02.KernelBytes", spec := "kernelBytes", apart := false }
def KernelBytesSaid : Prop := kernelBytesRow.holds Try.pinned (OpenSpec.ofChange kernelBytesSpec)

/-- ITS FALSE NEIGHBOUR: 'it returns false'. Refute it at one input. -/
def kernelBytesWrong : ChangeSpec := { name := "kernelBytes", fn := fun _ => fun
  | [d1, d2, d3] => { results := [.lit (.bool false)], args := [d1, d2, d3] }
  | _ => none }
def KernelBytesWrongFalsely : Prop := kernelBytesRow.holds Try.pinned (OpenSpec.ofChange kernelBytesWrong)

/-- 'twoslotlaw02.KernelSteps': WHATEVER THE INPUT: true; the input reads as it did. -/
def kernelStepsSpec : ChangeSpec := { name := "kernelSteps", fn := fun _ => fun
  | [d1, d2, d3] => { results := [.lit (.bool true)], args := [d1, d2, d3] }
  | _ => none }
def kernelStepsRow : OpenClaim := { program := "ytgkabcefohfmmaa", sum := "a9804d148e7c57d7640bdd5393b48b2b99258c8a0f69eeb883df5387490fbbba", func := "twoslot/twoslotlaw02.KernelSteps", spec := "kernelSteps", apart := false }
def KernelStepsSaid : Prop := kernelStepsRow.holds Try.pinned (OpenSpec.ofChange kernelStepsSpec)

/-- ITS FALSE NEIGHBOUR: 'it returns false'. Refute it at one input. -/
def kernelStepsWrong : ChangeSpec := { name := "kernelSteps", fn := fun _ => fun
  | [d1, d2, d3] => { results := [.lit (.bool false)], args := [d1, d2, d3] }
  | _ => none }
def KernelStepsWrongFalsely : Prop := kernelStepsRow.holds Try.pinned (OpenSpec.ofChange kernelStepsWrong)

/- THE SECOND FORM. 'bulk': how many values and letters a reading holds, each counted each time it is reached (what is shared counts as often as it is met; a slice's spare places count too). A statement '..UptoSaid' is the law's where the arguments, and the package variables that the reading takes, are together of bulk at most 1048576: NARROWER than '..Said'. Prove '..Said' where nothing that the law and all that it calls make is longer than what came in: it says more and counts as full. Else prove '..UptoSaid'. A law counts once. -/
mutual
def uptoBulk {H : Type} : DataW H → Nat
  | .lit (.string bytes) => bytes.length + 1
  | .lit _ => 1
  | .nil => 1
  | .ptr d => uptoBulk d + 1
  | .slice elems spare => uptoBulkAll elems + uptoBulkAll spare + 1
  | .agg parts => uptoBulkAll parts + 1
  | .iface _ d => uptoBulk d + 1
  | .map entries => uptoBulkEntries entries + 1
  | .held _ => 1
def uptoBulkAll {H : Type} : List (DataW H) → Nat
  | [] => 0
  | d :: r => uptoBulk d + uptoBulkAll r
def uptoBulkEntries {H : Type} : List (Lit × DataW H) → Nat
  | [] => 0
  | x :: r => uptoBulkEntry x + uptoBulkEntries r
def uptoBulkEntry {H : Type} : Lit × DataW H → Nat
  | (.string bytes, d) => bytes.length + uptoBulk d + 1
  | (_, d) => uptoBulk d + 1
 end
def uptoSmall : (H : Type) → List (DataW H) → Bool := fun _ ds => decide (uptoBulkAll ds ≤ 1048576)
def OpenSpec.upto (s : _root_.Go.ChangeSpec) : _root_.Go.OpenSpec := { _root_.Go.OpenSpec.ofChange s with cond := some uptoSmall }

/-- 'twoslotlaw02.KernelNames', WHERE WHAT IT READS IS OF BULK AT MOST 1048576: true; the input reads as it did. -/
def kernelNamesUptoRow : OpenClaim := { program := "ytgkabcefohfmmaa", sum := "a9804d148e7c57d7640bdd5393b48b2b99258c8a0f69eeb883df5387490fbbba", func := "twoslot/twoslotlaw02.KernelNames", spec := "kernelNames", apart := false, narrowed := true }
def KernelNamesUptoSaid : Prop := kernelNamesUptoRow.holds Try.pinned (OpenSpec.upto kernelNamesSpec)

/-- 'twoslotlaw02.KernelSums', WHERE WHAT IT READS IS OF BULK AT MOST 1048576: true; the input reads as it did. -/
def kernelSumsUptoRow : OpenClaim := { program := "ytgkabcefohfmmaa", sum := "a9804d148e7c57d7640bdd5393b48b2b99258c8a0f69eeb883df5387490fbbba", func := "twoslot/twoslotlaw02.KernelSums", spec := "kernelSums", apart := false, narrowed := true }
def KernelSumsUptoSaid : Prop := kernelSumsUptoRow.holds Try.pinned (OpenSpec.upto kernelSumsSpec)

/-- 'twoslotlaw02.KernelDots', WHERE WHAT IT READS IS OF BULK AT MOST 1048576: true; the input reads as it did. -/
def kernelDotsUptoRow : OpenClaim := { program := "ytgkabcefohfmmaa", sum := "a9804d148e7c57d7640bdd5393b48b2b99258c8a0f69eeb883df5387490fbbba", func := "twoslot/twoslotlaw02.KernelDots", spec := "kernelDots", apart := false, narrowed := true }
def KernelDotsUptoSaid : Prop := kernelDotsUptoRow.holds Try.pinned (OpenSpec.upto kernelDotsSpec)

/-- 'twoslotlaw02.KernelBytes', WHERE WHAT IT READS IS OF BULK AT MOST 1048576: true; the input reads as it did. -/
def kernelBytesUptoRow : OpenClaim := { program := "ytgkabcefohfmmaa", sum := "a9804d148e7c57d7640bdd5393b48b2b99258c8a0f69eeb883df5387490fbbba", func := "twoslot/twoslotlaw02.KernelBytes", spec := "kernelBytes", apart := false, narrowed := true }
def KernelBytesUptoSaid : Prop := kernelBytesUptoRow.holds Try.pinned (OpenSpec.upto kernelBytesSpec)

/-- 'twoslotlaw02.KernelSteps', WHERE WHAT IT READS IS OF BULK AT MOST 1048576: true; the input reads as it did. -/
def kernelStepsUptoRow : OpenClaim := { program := "ytgkabcefohfmmaa", sum := "a9804d148e7c57d7640bdd5393b48b2b99258c8a0f69eeb883df5387490fbbba", func := "twoslot/twoslotlaw02.KernelSteps", spec := "kernelSteps", apart := false, narrowed := true }
def KernelStepsUptoSaid : Prop := kernelStepsUptoRow.holds Try.pinned (OpenSpec.upto kernelStepsSpec)

end Rows
end Go.Proofs.Ytgkabcefohfmmaa
