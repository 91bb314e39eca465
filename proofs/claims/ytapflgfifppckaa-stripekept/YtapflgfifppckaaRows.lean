/-
  No cell of these rows narrows 'for every input' (looked for: loops, veiled, ifaces, maps, wideKeys, modest, calm, conditions, laid).
  DERIVED. THE GIVEN ROWS OF THIS SEAT. 3 by the template 'for every input the law returns true; each argument reads behind the call as it read before'; 0 by the template 'total and deterministic' (their statements: YtapflgfifppckaaTotals.lean).
  GIVEN WITH THE SEED: the statements are not yours to turn. If you find one false, say at which input.
  Laid BY PROGRAM, IN A SANDBOX (cutbox-rows.mjs): the forced cells as the released guide's own fill.sh prints them over the translation 6cd6c5622efbef1c… (all of the seat's roots in one cut). By AI agents, Wed Nov 11 2026. No macro, syntax, notation, axiom, sorry.
-/
import Derived.Test.YtapflgfifppckaaChecked
import GoSem.Claim
import GoSem.ClaimJoined
import GoSem.ClaimMapViews
import Derived.JoinedTies
import Derived.KernelRfl
namespace Go.Proofs.Ytapflgfifppckaa
/- THE CELL 'sum', in the pinned program and in every row, IS THE sha256 OF THE DUMP (.gsa) THAT YtapflgfifppckaaProg.lean LOADS. Nothing in Lean hashes anything: it is a label: what it is worth is what the hold of that sum in a sandbox is worth. -/
noncomputable def Try.pinned : Pinned := { name := "ytapflgfifppckaa", sum := "6cd6c5622efbef1c0225a309814575aa591ea4f8b9d7421733a8f57870899202", checked := Try.checked }
namespace Rows
def none {H : Type} : Left H := { results := [], args := [] }

/-- 'twoslotlaw12.StripeAny': WHATEVER THE INPUT: true; the input reads as it did. -/
def stripeAnySpec : ChangeSpec := { name := "stripeAny", fn := fun _ => fun
  | [d1, d2, d3, d4, d5, d6] => { results := [.lit (.bool true)], args := [d1, d2, d3, d4, d5, d6] }
  | _ => none }
def stripeAnyRow : OpenClaim := { program := "ytapflgfifppckaa", sum := "6cd6c5622efbef1c0225a309814575aa591ea4f8b9d7421733a8f57870899202", func := "twoslot/twoslotlaw12.StripeAny", spec := "stripeAny", unfollowed := true, recurses := true, plainKeys := false, apart := false }
def StripeAnySaid : Prop := stripeAnyRow.holds Try.pinned (OpenSpec.ofChange stripeAnySpec)

/-- ITS FALSE NEIGHBOUR: 'it returns false'. Refute it at one input. -/
def stripeAnyWrong : ChangeSpec := { name := "stripeAny", fn := fun _ => fun
  | [d1, d2, d3, d4, d5, d6] => { results := [.lit (.bool false)], args := [d1, d2, d3, d4, d5, d6] }
  | _ => none }
def StripeAnyWrongFalsely : Prop := stripeAnyRow.holds Try.pinned (OpenSpec.ofChange stripeAnyWrong)

/-- 'twoslotlaw12.StripeKept': WHATEVER THE INPUT: true; the input reads as it did. -/
def stripeKeptSpec : ChangeSpec := { name := "stripeKept", fn := fun _ => fun
  | [d1, d2, d3, d4, d5, d6] => { results := [.lit (.bool true)], args := [d1, d2, d3, d4, d5, d6] }
  | _ => none }
def stripeKeptRow : OpenClaim := { program := "ytapflgfifppckaa", sum := "6cd6c5622efbef1c0225a309814575aa591ea4f8b9d7421733a8f57870899202", func := "twoslot/twoslotlaw12.StripeKept", spec := "stripeKept", unfollowed := true, recurses := true, plainKeys := false, apart := false }
def StripeKeptSaid : Prop := stripeKeptRow.holds Try.pinned (OpenSpec.ofChange stripeKeptSpec)

/-- ITS FALSE NEIGHBOUR: 'it returns false'. Refute it at one input. -/
def stripeKeptWrong : ChangeSpec := { name := "stripeKept", fn := fun _ => fun
  | [d1, d2, d3, d4, d5, d6] => { results := [.lit (.bool false)], args := [d1, d2, d3, d4, d5, d6] }
  | _ => none }
def StripeKeptWrongFalsely : Prop := stripeKeptRow.holds Try.pinned (OpenSpec.ofChange stripeKeptWrong)

/-- 'twoslotlaw12.StripeMends': WHATEVER THE INPUT: true; the input reads as it did. -/
def stripeMendsSpec : ChangeSpec := { name := "stripeMends", fn := fun _ => fun
  | [d1, d2, d3, d4] => { results := [.lit (.bool true)], args := [d1, d2, d3, d4] }
  | _ => none }
def stripeMendsRow : OpenClaim := { program := "ytapflgfifppckaa", sum := "6cd6c5622efbef1c0225a309814575aa591ea4f8b9d7421733a8f57870899202", func := "twoslot/twoslotlaw12.StripeMends", spec := "stripeMends", unfollowed := true, recurses := true, plainKeys := false, apart := false }
def StripeMendsSaid : Prop := stripeMendsRow.holds Try.pinned (OpenSpec.ofChange stripeMendsSpec)

/-- ITS FALSE NEIGHBOUR: 'it returns false'. Refute it at one input. -/
def stripeMendsWrong : ChangeSpec := { name := "stripeMends", fn := fun _ => fun
  | [d1, d2, d3, d4] => { results := [.lit (.bool false)], args := [d1, d2, d3, d4] }
  | _ => none }
def StripeMendsWrongFalsely : Prop := stripeMendsRow.holds Try.pinned (OpenSpec.ofChange stripeMendsWrong)

/- THE SECOND FORM. 'bulk': how many values and letters a reading holds, each counted each time it is reached (what is shared counts as often as it is met; a slice's spare places count too). A statement '..UptoSaid' is the law's where the arguments, and the package variables that the reading takes, are together of bulk at most 1048576: NARROWER than '..Said'. Prove '..Said' where nothing that the law and all that it calls make is longer than what came in: it says more and counts as full. Else prove '..UptoSaid'. A law counts once. -/
mutual
def uptoBulk {H : Type} : DataW H → Nat
  | .lit (.string bytes) => bytes.length + 1
  | .lit _ => 1
  | .nil => 1
  | .ptr d => uptoBulk d + 1
  | .slice elems spare => uptoBulkAll elems + uptoBulkAll spare + 1
  | .agg parts => uptoBulkAll parts + 1
  | .iface _ d => uptoBulk d + 1
  | .map entries => uptoBulkEntries entries + 1
  | .held _ => 1
def uptoBulkAll {H : Type} : List (DataW H) → Nat
  | [] => 0
  | d :: r => uptoBulk d + uptoBulkAll r
def uptoBulkEntries {H : Type} : List (Lit × DataW H) → Nat
  | [] => 0
  | x :: r => uptoBulkEntry x + uptoBulkEntries r
def uptoBulkEntry {H : Type} : Lit × DataW H → Nat
  | (.string bytes, d) => bytes.length + uptoBulk d + 1
  | (_, d) => uptoBulk d + 1
 end
def uptoSmall : (H : Type) → List (DataW H) → Bool := fun _ ds => decide (uptoBulkAll ds ≤ 1048576)
def OpenSpec.upto (s : _root_.Go.ChangeSpec) : _root_.Go.OpenSpec := { _root_.Go.OpenSpec.ofChange s with cond := some uptoSmall }

/-- 'twoslotlaw12.StripeAny', WHERE WHAT IT READS IS OF BULK AT MOST 1048576: true; the input reads as it did. -/
def stripeAnyUptoRow : OpenClaim := { program := "ytapflgfifppckaa", sum := "6cd6c5622efbef1c0225a309814575aa591ea4f8b9d7421733a8f57870899202", func := "twoslot/twoslotlaw12.StripeAny", spec := "stripeAny", unfollowed := true, recurses := true, plainKeys := false, apart := false, narrowed := true }
def StripeAnyUptoSaid : Prop := stripeAnyUptoRow.holds Try.pinned (OpenSpec.upto stripeAnySpec)

/-- 'twoslotlaw12.StripeKept', WHERE WHAT IT READS IS OF BULK AT MOST 1048576: true; the input reads as it did. -/
def stripeKeptUptoRow : OpenClaim := { program := "ytapflgfifppckaa", sum := "6cd6c5622efbef1c0225a309814575aa591ea4f8b9d7421733a8f57870899202", func := "twoslot/twoslotlaw12.StripeKept", spec := "stripeKept", unfollowed := true, recurses := true, plainKeys := false, apart := false, narrowed := true }
def StripeKeptUptoSaid : Prop := stripeKeptUptoRow.holds Try.pinned (OpenSpec.upto stripeKeptSpec)

/-- 'twoslotlaw12.StripeMends', WHERE WHAT IT READS IS OF BULK AT MOST 1048576: true; the input reads as it did. -/
def stripeMendsUptoRow : OpenClaim := { program := "ytapflgfifppckaa", sum := "6cd6c5622efbef1c0225a309814575aa591ea4f8b9d7421733a8f57870899202", func := "twoslot/twoslotlaw12.StripeMends", spec := "stripeMends", unfollowed := true, recurses := true, plainKeys := false, apart := false, narrowed := true }
def StripeMendsUptoSaid : Prop := stripeMendsUptoRow.holds Try.pinned (OpenSpec.upto stripeMendsSpec)

end Rows
end Go.Proofs.Ytapflgfifppckaa
