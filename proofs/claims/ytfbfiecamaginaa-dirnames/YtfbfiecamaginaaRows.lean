/-
  No cell of these rows narrows 'for every input' (looked for: loops, veiled, ifaces, maps, wideKeys, modest, calm, conditions, laid).
  DERIVED. THE GIVEN ROWS OF THIS SEAT. 5 by the template 'for every input the law returns true; each argument reads behind the call as it read before'; 0 by the template 'total and deterministic' (their statements: YtfbfiecamaginaaTotals.lean).
  GIVEN WITH THE SEED: the statements are not yours to turn. If you find one false, say at which input.
  Laid BY PROGRAM, IN A SANDBOX (cutbox-rows.mjs): the forced cells as the released guide's own fill.sh prints them over the translation a045bea61073bded… (all of the seat's roots in one cut). By AI agents, Wed Nov 11 2026. No macro, syntax, notation, axiom, sorry.
-/
import Derived.Test.YtfbfiecamaginaaChecked
import GoSem.Claim
import GoSem.ClaimJoined
import GoSem.ClaimMapViews
import Derived.JoinedTies
import Derived.KernelRfl
namespace Go.Proofs.Ytfbfiecamaginaa
/- THE CELL 'sum', in the pinned program and in every row, IS THE sha256 OF THE DUMP (.gsa) THAT YtfbfiecamaginaaProg.lean LOADS. Nothing in Lean hashes anything: it is a label: what it is worth is what the hold of that sum in a sandbox is worth. -/
noncomputable def Try.pinned : Pinned := { name := "ytfbfiecamaginaa", sum := "a045bea61073bded5b9ca03b6b280d3847b5edfd4d85a5df3982cb7b27658825", checked := Try.checked }
namespace Rows
def none {H : Type} : Left H := { results := [], args := [] }

/-- 'twoslotlaw22.DirNames': WHATEVER THE INPUT: true; the input reads as it did. -/
def dirNamesSpec : ChangeSpec := { name := "dirNames", fn := fun _ => fun
  | [] => { results := [.lit (.bool true)], args := [] }
  | _ => none }
def dirNamesRow : OpenClaim := { program := "ytfbfiecamaginaa", sum := "a045bea61073bded5b9ca03b6b280d3847b5edfd4d85a5df3982cb7b27658825", func := "twoslot/twoslotlaw22.DirNames", spec := "dirNames", apart := false }
def DirNamesSaid : Prop := dirNamesRow.holds Try.pinned (OpenSpec.ofChange dirNamesSpec)

/-- ITS FALSE NEIGHBOUR: 'it returns false'. Refute it at one input. -/
def dirNamesWrong : ChangeSpec := { name := "dirNames", fn := fun _ => fun
  | [] => { results := [.lit (.bool false)], args := [] }
  | _ => none }
def DirNamesWrongFalsely : Prop := dirNamesRow.holds Try.pinned (OpenSpec.ofChange dirNamesWrong)

/-- 'twoslotlaw22.DirEntries': WHATEVER THE INPUT: true; the input reads as it did. -/
def dirEntriesSpec : ChangeSpec := { name := "dirEntries", fn := fun _ => fun
  | [d1, d2, d3, d4] => { results := [.lit (.bool true)], args := [d1, d2, d3, d4] }
  | _ => none }
def dirEntriesRow : OpenClaim := { program := "ytfbfiecamaginaa", sum := "a045bea61073bded5b9ca03b6b280d3847b5edfd4d85a5df3982cb7b27658825", func := "twoslot/twoslotlaw22.DirEntries", spec := "dirEntries", apart := false }
def DirEntriesSaid : Prop := dirEntriesRow.holds Try.pinned (OpenSpec.ofChange dirEntriesSpec)

/-- ITS FALSE NEIGHBOUR: 'it returns false'. Refute it at one input. -/
def dirEntriesWrong : ChangeSpec := { name := "dirEntries", fn := fun _ => fun
  | [d1, d2, d3, d4] => { results := [.lit (.bool false)], args := [d1, d2, d3, d4] }
  | _ => none }
def DirEntriesWrongFalsely : Prop := dirEntriesRow.holds Try.pinned (OpenSpec.ofChange dirEntriesWrong)

/-- 'twoslotlaw22.DirBytes': WHATEVER THE INPUT: true; the input reads as it did. -/
def dirBytesSpec : ChangeSpec := { name := "dirBytes", fn := fun _ => fun
  | [d1, d2, d3] => { results := [.lit (.bool true)], args := [d1, d2, d3] }
  | _ => none }
def dirBytesRow : OpenClaim := { program := "ytfbfiecamaginaa", sum := "a045bea61073bded5b9ca03b6b280d3847b5edfd4d85a5df3982cb7b27658825", func := "twoslot/twoslotlaw22.DirBytes", spec := "dirBytes", apart := false }
def DirBytesSaid : Prop := dirBytesRow.holds Try.pinned (OpenSpec.ofChange dirBytesSpec)

/-- ITS FALSE NEIGHBOUR: 'it returns false'. Refute it at one input. -/
def dirBytesWrong : ChangeSpec := { name := "dirBytes", fn := fun _ => fun
  | [d1, d2, d3] => { results := [.lit (.bool false)], args := [d1, d2, d3] }
  | _ => none }
def DirBytesWrongFalsely : Prop := dirBytesRow.holds Try.pinned (OpenSpec.ofChange dirBytesWrong)

/-- 'twoslotlaw22.DirBack': WHATEVER THE INPUT: true; the input reads as it did. -/
def dirBackSpec : ChangeSpec := { name := "dirBack", fn := fun _ => fun
  | [d1, d2, d3, d4] => { results := [.lit (.bool true)], args := [d1, d2, d3, d4] }
  | _ => none }
def dirBackRow : OpenClaim := { program := "ytfbfiecamaginaa", sum := "a045bea61073bded5b9ca03b6b280d3847b5edfd4d85a5df3982cb7b27658825", func := "twoslot/twoslotlaw22.DirBack", spec := "dirBack", apart := false }
def DirBackSaid : Prop := dirBackRow.holds Try.pinned (OpenSpec.ofChange dirBackSpec)

/-- ITS FALSE NEIGHBOUR: 'it returns false'. Refute it at one input. -/
def dirBackWrong : ChangeSpec := { name := "dirBack", fn := fun _ => fun
  | [d1, d2, d3, d4] => { results := [.lit (.bool false)], args := [d1, d2, d3, d4] }
  | _ => none }
def DirBackWrongFalsely : Prop := dirBackRow.holds Try.pinned (OpenSpec.ofChange dirBackWrong)

/-- 'twoslotlaw22.DirAdds': WHATEVER THE INPUT: true; the input reads as it did. -/
def dirAddsSpec : ChangeSpec := { name := "dirAdds", fn := fun _ => fun
  | [d1, d2, d3, d4] => { results := [.lit (.bool true)], args := [d1, d2, d3, d4] }
  | _ => none }
def dirAddsRow : OpenClaim := { program := "ytfbfiecamaginaa", sum := "a045bea61073bded5b9ca03b6b280d3847b5edfd4d85a5df3982cb7b27658825", func := "twoslot/twoslotlaw22.DirAdds", spec := "dirAdds", apart := false }
def DirAddsSaid : Prop := dirAddsRow.holds Try.pinned (OpenSpec.ofChange dirAddsSpec)

/-- ITS FALSE NEIGHBOUR: 'it returns false'. Refute it at one input. -/
def dirAddsWrong : ChangeSpec := { name := "dirAdds", fn := fun _ => fun
  | [d1, d2, d3, d4] => { results := [.lit (.bool false)], args := [d1, d2, d3, d4] }
  | _ => none }
def DirAddsWrongFalsely : Prop := dirAddsRow.holds Try.pinned (OpenSpec.ofChange dirAddsWrong)

/- THE SECOND FORM. 'bulk': how many values and letters a reading holds, each counted each time it is reached (what is shared counts as often as it is met; a slice's spare places count too). A statement '..UptoSaid' is the law's where the arguments, and the package variables that the reading takes, are together of bulk at most 1048576: NARROWER than '..Said'. Prove '..Said' where nothing that the law and all that it calls make is longer than what came in: it says more and counts as full. Else prove '..UptoSaid'. A law counts once. -/
mutual
def uptoBulk {H : Type} : DataW H → Nat
  | .lit (.string bytes) => bytes.length + 1
  | .lit _ => 1
  | .nil => 1
  | .ptr d => uptoBulk d + 1
  | .slice elems spare => uptoBulkAll elems + uptoBulkAll spare + 1
  | .agg parts => uptoBulkAll parts + 1
  | .iface _ d => uptoBulk d + 1
  | .map entries => uptoBulkEntries entries + 1
  | .held _ => 1
def uptoBulkAll {H : Type} : List (DataW H) → Nat
  | [] => 0
  | d :: r => uptoBulk d + uptoBulkAll r
def uptoBulkEntries {H : Type} : List (Lit × DataW H) → Nat
  | [] => 0
  | x :: r => uptoBulkEntry x + uptoBulkEntries r
def uptoBulkEntry {H : Type} : Lit × DataW H → Nat
  | (.string bytes, d) => bytes.length + uptoBulk d + 1
  | (_, d) => uptoBulk d + 1
 end
def uptoSmall : (H : Type) → List (DataW H) → Bool := fun _ ds => decide (uptoBulkAll ds ≤ 1048576)
def OpenSpec.upto (s : _root_.Go.ChangeSpec) : _root_.Go.OpenSpec := { _root_.Go.OpenSpec.ofChange s with cond := some uptoSmall }

/-- 'twoslotlaw22.DirNames', WHERE WHAT IT READS IS OF BULK AT MOST 1048576: true; the input reads as it did. -/
def dirNamesUptoRow : OpenClaim := { program := "ytfbfiecamaginaa", sum := "a045bea61073bded5b9ca03b6b280d3847b5edfd4d85a5df3982cb7b27658825", func := "twoslot/twoslotlaw22.DirNames", spec := "dirNames", apart := false, narrowed := true }
def DirNamesUptoSaid : Prop := dirNamesUptoRow.holds Try.pinned (OpenSpec.upto dirNamesSpec)

/-- 'twoslotlaw22.DirEntries', WHERE WHAT IT READS IS OF BULK AT MOST 1048576: true; the input reads as it did. -/
def dirEntriesUptoRow : OpenClaim := { program := "ytfbfiecamaginaa", sum := "a045bea61073bded5b9ca03b6b280d3847b5edfd4d85a5df3982cb7b27658825", func := "twoslot/twoslotlaw22.DirEntries", spec := "dirEntries", apart := false, narrowed := true }
def DirEntriesUptoSaid : Prop := dirEntriesUptoRow.holds Try.pinned (OpenSpec.upto dirEntriesSpec)

/-- 'twoslotlaw22.DirBytes', WHERE WHAT IT READS IS OF BULK AT MOST 1048576: true; the input reads as it did. -/
def dirBytesUptoRow : OpenClaim := { program := "ytfbfiecamaginaa", sum := "a045bea61073bded5b9ca03b6b280d3847b5edfd4d85a5df3982cb7b27658825", func := "twoslot/twoslotlaw22.DirBytes", spec := "dirBytes", apart := false, narrowed := true }
def DirBytesUptoSaid : Prop := dirBytesUptoRow.holds Try.pinned (OpenSpec.upto dirBytesSpec)

/-- 'twoslotlaw22.DirBack', WHERE WHAT IT READS IS OF BULK AT MOST 1048576: true; the input reads as it did. -/
def dirBackUptoRow : OpenClaim := { program := "ytfbfiecamaginaa", sum := "a045bea61073bded5b9ca03b6b280d3847b5edfd4d85a5df3982cb7b27658825", func := "twoslot/twoslotlaw22.DirBack", spec := "dirBack", apart := false, narrowed := true }
def DirBackUptoSaid : Prop := dirBackUptoRow.holds Try.pinned (OpenSpec.upto dirBackSpec)

/-- 'twoslotlaw22.DirAdds', WHERE WHAT IT READS IS OF BULK AT MOST 1048576: true; the input reads as it did. -/
def dirAddsUptoRow : OpenClaim := { program := "ytfbfiecamaginaa", sum := "a045bea61073bded5b9ca03b6b280d3847b5edfd4d85a5df3982cb7b27658825", func := "twoslot/twoslotlaw22.DirAdds", spec := "dirAdds", apart := false, narrowed := true }
def DirAddsUptoSaid : Prop := dirAddsUptoRow.holds Try.pinned (OpenSpec.upto dirAddsSpec)

end Rows
end Go.Proofs.Ytfbfiecamaginaa
