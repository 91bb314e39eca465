/-
  No cell of these rows narrows 'for every input' (looked for: loops, veiled, ifaces, maps, wideKeys, modest, calm, conditions, laid).
  DERIVED. THE GIVEN ROWS OF THIS SEAT. 3 by the template 'for every input the law returns true; each argument reads behind the call as it read before'; 0 by the template 'total and deterministic' (their statements: YthhjhjlocpdhkaaGreatTotals.lean).
  GIVEN WITH THE SEED: the statements are not yours to turn. If you find one false, say at which input.
  Laid BY PROGRAM, IN A SANDBOX (cutbox-rows.mjs): the forced cells as the released guide's own fill.sh prints them over the translation a64bd6c97349b810… (all of the seat's roots in one cut). By AI agents, Wed Nov 11 2026. No macro, syntax, notation, axiom, sorry.
-/
import Derived.Test.YthhjhjlocpdhkaaGreatChecked
import GoSem.Claim
import GoSem.ClaimJoined
import GoSem.ClaimMapViews
import Derived.JoinedTies
import Derived.KernelRfl
namespace Go.Proofs.YthhjhjlocpdhkaaGreat
/- THE CELL 'sum', in the pinned program and in every row, IS THE sha256 OF THE DUMP (.gsa) THAT YthhjhjlocpdhkaaGreatProg.lean LOADS. Nothing in Lean hashes anything: it is a label: what it is worth is what the hold of that sum in a sandbox is worth. -/
noncomputable def Tryz.pinned : Pinned := { name := "ythhjhjlocpdhkaagreat", sum := "a64bd6c97349b8109d85f71fd8351a535e05a9ffa0c8d72722afc34fa8b8e3f8", checked := Tryz.checked }
namespace Rows
def none {H : Type} : Left H := { results := [], args := [] }

/-- 'twoslotlaw16.CommitRow': WHATEVER THE INPUT: true; the input reads as it did. -/
def commitRowSpec : ChangeSpec := { name := "commitRow", fn := fun _ => fun
  | [d1, d2, d3, d4, d5] => { results := [.lit (.bool true)], args := [d1, d2, d3, d4, d5] }
  | _ => none }
def commitRowRow : OpenClaim := { program := "ythhjhjlocpdhkaagreat", sum := "a64bd6c97349b8109d85f71fd8351a535e05a9ffa0c8d72722afc34fa8b8e3f8", func := "twoslot/twoslotlaw16.CommitRow", spec := "commitRow", unfollowed := true, recurses := true, plainKeys := false, apart := false }
def CommitRowSaid : Prop := commitRowRow.holds Tryz.pinned (OpenSpec.ofChange commitRowSpec)

/-- ITS FALSE NEIGHBOUR: 'it returns false'. Refute it at one input. -/
def commitRowWrong : ChangeSpec := { name := "commitRow", fn := fun _ => fun
  | [d1, d2, d3, d4, d5] => { results := [.lit (.bool false)], args := [d1, d2, d3, d4, d5] }
  | _ => none }
def CommitRowWrongFalsely : Prop := commitRowRow.holds Tryz.pinned (OpenSpec.ofChange commitRowWrong)

/-- 'twoslotlaw16.CommitPoint': WHATEVER THE INPUT: true; the input reads as it did. -/
def commitPointSpec : ChangeSpec := { name := "commitPoint", fn := fun _ => fun
  | [d1, d2, d3, d4, d5] => { results := [.lit (.bool true)], args := [d1, d2, d3, d4, d5] }
  | _ => none }
def commitPointRow : OpenClaim := { program := "ythhjhjlocpdhkaagreat", sum := "a64bd6c97349b8109d85f71fd8351a535e05a9ffa0c8d72722afc34fa8b8e3f8", func := "twoslot/twoslotlaw16.CommitPoint", spec := "commitPoint", unfollowed := true, recurses := true, plainKeys := false, apart := false }
def CommitPointSaid : Prop := commitPointRow.holds Tryz.pinned (OpenSpec.ofChange commitPointSpec)

/-- ITS FALSE NEIGHBOUR: 'it returns false'. Refute it at one input. -/
def commitPointWrong : ChangeSpec := { name := "commitPoint", fn := fun _ => fun
  | [d1, d2, d3, d4, d5] => { results := [.lit (.bool false)], args := [d1, d2, d3, d4, d5] }
  | _ => none }
def CommitPointWrongFalsely : Prop := commitPointRow.holds Tryz.pinned (OpenSpec.ofChange commitPointWrong)

/-- 'twoslotlaw16.CommitFinished': WHATEVER THE INPUT: true; the input reads as it did. -/
def commitFinishedSpec : ChangeSpec := { name := "commitFinished", fn := fun _ => fun
  | [d1, d2, d3] => { results := [.lit (.bool true)], args := [d1, d2, d3] }
  | _ => none }
def commitFinishedRow : OpenClaim := { program := "ythhjhjlocpdhkaagreat", sum := "a64bd6c97349b8109d85f71fd8351a535e05a9ffa0c8d72722afc34fa8b8e3f8", func := "twoslot/twoslotlaw16.CommitFinished", spec := "commitFinished", unfollowed := true, recurses := true, plainKeys := false, apart := false }
def CommitFinishedSaid : Prop := commitFinishedRow.holds Tryz.pinned (OpenSpec.ofChange commitFinishedSpec)

/-- ITS FALSE NEIGHBOUR: 'it returns false'. Refute it at one input. -/
def commitFinishedWrong : ChangeSpec := { name := "commitFinished", fn := fun _ => fun
  | [d1, d2, d3] => { results := [.lit (.bool false)], args := [d1, d2, d3] }
  | _ => none }
def CommitFinishedWrongFalsely : Prop := commitFinishedRow.holds Tryz.pinned (OpenSpec.ofChange commitFinishedWrong)

/- THE SECOND FORM. 'bulk': how many values and letters a reading holds, each counted each time it is reached (what is shared counts as often as it is met; a slice's spare places count too). A statement '..UptoSaid' is the law's where the arguments, and the package variables that the reading takes, are together of bulk at most 1048576: NARROWER than '..Said'. Prove '..Said' where nothing that the law and all that it calls make is longer than what came in: it says more and counts as full. Else prove '..UptoSaid'. A law counts once. -/
mutual
def uptoBulk {H : Type} : DataW H → Nat
  | .lit (.string bytes) => bytes.length + 1
  | .lit _ => 1
  | .nil => 1
  | .ptr d => uptoBulk d + 1
  | .slice elems spare => uptoBulkAll elems + uptoBulkAll spare + 1
  | .agg parts => uptoBulkAll parts + 1
  | .iface _ d => uptoBulk d + 1
  | .map entries => uptoBulkEntries entries + 1
  | .held _ => 1
def uptoBulkAll {H : Type} : List (DataW H) → Nat
  | [] => 0
  | d :: r => uptoBulk d + uptoBulkAll r
def uptoBulkEntries {H : Type} : List (Lit × DataW H) → Nat
  | [] => 0
  | x :: r => uptoBulkEntry x + uptoBulkEntries r
def uptoBulkEntry {H : Type} : Lit × DataW H → Nat
  | (.string bytes, d) => bytes.length + uptoBulk d + 1
  | (_, d) => uptoBulk d + 1
 end
def uptoSmall : (H : Type) → List (DataW H) → Bool := fun _ ds => decide (uptoBulkAll ds ≤ 1048576)
def OpenSpec.upto (s : _root_.Go.ChangeSpec) : _root_.Go.OpenSpec := { _root_.Go.OpenSpec.ofChange s with cond := some uptoSmall }

/-- 'twoslotlaw16.CommitRow', WHERE WHAT IT READS IS OF BULK AT MOST 1048576: true; the input reads as it did. -/
def commitRowUptoRow : OpenClaim := { program := "ythhjhjlocpdhkaagreat", sum := "a64bd6c97349b8109d85f71fd8351a535e05a9ffa0c8d72722afc34fa8b8e3f8", func := "twoslot/twoslotlaw16.CommitRow", spec := "commitRow", unfollowed := true, recurses := true, plainKeys := false, apart := false, narrowed := true }
def CommitRowUptoSaid : Prop := commitRowUptoRow.holds Tryz.pinned (OpenSpec.upto commitRowSpec)

/-- 'twoslotlaw16.CommitPoint', WHERE WHAT IT READS IS OF BULK AT MOST 1048576: true; the input reads as it did. -/
def commitPointUptoRow : OpenClaim := { program := "ythhjhjlocpdhkaagreat", sum := "a64bd6c97349b8109d85f71fd8351a535e05a9ffa0c8d72722afc34fa8b8e3f8", func := "twoslot/twoslotlaw16.CommitPoint", spec := "commitPoint", unfollowed := true, recurses := true, plainKeys := false, apart := false, narrowed := true }
def CommitPointUptoSaid : Prop := commitPointUptoRow.holds Tryz.pinned (OpenSpec.upto commitPointSpec)

/-- 'twoslotlaw16.CommitFinished', WHERE WHAT IT READS IS OF BULK AT MOST 1048576: true; the input reads as it did. -/
def commitFinishedUptoRow : OpenClaim := { program := "ythhjhjlocpdhkaagreat", sum := "a64bd6c97349b8109d85f71fd8351a535e05a9ffa0c8d72722afc34fa8b8e3f8", func := "twoslot/twoslotlaw16.CommitFinished", spec := "commitFinished", unfollowed := true, recurses := true, plainKeys := false, apart := false, narrowed := true }
def CommitFinishedUptoSaid : Prop := commitFinishedUptoRow.holds Tryz.pinned (OpenSpec.upto commitFinishedSpec)

end Rows
end Go.Proofs.YthhjhjlocpdhkaaGreat
