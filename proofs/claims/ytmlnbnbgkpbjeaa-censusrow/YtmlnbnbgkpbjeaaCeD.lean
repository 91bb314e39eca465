/- Which slot of a cell holds a version, what the program's Find answers. -/
import Derived.Test.YtmlnbnbgkpbjeaaCeC
namespace Go.Proofs.Ytmlnbnbgkpbjeaa
open Go.RowKit

/-- Does a slot hold a version of a kind? -/
def hB (y : Sl) (kd : UInt8) (v : Int) : Bool := decide (v ≠ 0 ∧ y.kd = kd ∧ y.ce = v)
def fN (y0 y1 : Sl) (kd : UInt8) (v : Int) : Nat := if hB y0 kd v = true then 0 else if hB y1 kd v = true then 1 else 0
def fZ (y0 y1 : Sl) (kd : UInt8) (v : Int) : Sl := if hB y0 kd v = true then y0 else if hB y1 kd v = true then y1 else zSl
def fB (y0 y1 : Sl) (kd : UInt8) (v : Int) : Bool := hB y0 kd v || hB y1 kd v
/-- The newest one. -/
def gN (y0 y1 : Sl) (kd : UInt8) : Nat := if (ofK kd y0).ce < (ofK kd y1).ce then 1 else 0
def gZ (y0 y1 : Sl) (kd : UInt8) : Sl := if (ofK kd y0).ce < (ofK kd y1).ce then ofK kd y1 else ofK kd y0
def gB (y0 y1 : Sl) (kd : UInt8) : Bool := decide (¬ (gZ y0 y1 kd).ce = 0)
/-- Where the next one goes. -/
def oN (y0 y1 : Sl) (kd : UInt8) (v : Int) : Nat := if hB y0 kd v = true then 1 else if hB y1 kd v = true then 0 else if y1.ce < y0.ce then 1 else 0
/-- The errors of Find and of Older, where C is that of all but the version. -/
def erF (C v : Int) : Int := if C = 0 then (if 1 ≤ v ∧ v ≤ 1073741824 then 0 else 2) else C
def erO (C v : Int) : Int := if C = 0 then (if 0 ≤ v ∧ v ≤ 1073741824 then 0 else 2) else C
/-- A number, a slot, whether there is one, and an error. -/
def AnsF (w : World) (E : Int) (n : Nat) (z : Sl) (i : Bool) (e : Ending) (w' : World) : Prop :=
  ∃ ao ca bo cb, e = .returned (.tuple #[.int .i64 (n : Int), slv z ao ca bo cb, .bool i, .int .i64 E]) ∧ Got w.heap.size w' z ao ca bo cb ∧ Below w.heap.size w w'
theorem hB_z (kd : UInt8) (v : Int) : hB zSl kd v = false := decide_eq_false fun h => h.1 h.2.2.symm
theorem ofK_ce {kd : UInt8} {y : Sl} {v : Int} (hv : v ≠ 0) : decide ((ofK kd y).ce = v) = hB y kd v := by
  unfold hB ofK
  by_cases e : y.kd = kd
  · rw [if_pos e]
    exact decide_eq_decide.2 ⟨fun h => ⟨hv, e, h⟩, fun h => h.2.2⟩
  · rw [if_neg e, decide_eq_false (p := v ≠ 0 ∧ y.kd = kd ∧ y.ce = v) (fun h => e h.2.1)]
    exact decide_eq_false fun h => hv h.symm
theorem fin_z (kd : UInt8) (v : Int) : fN zSl zSl kd v = 0 ∧ fZ zSl zSl kd v = zSl ∧ fB zSl zSl kd v = false := by
  unfold fN fZ fB; rw [hB_z]; exact ⟨rfl, rfl, rfl⟩

end Go.Proofs.Ytmlnbnbgkpbjeaa
