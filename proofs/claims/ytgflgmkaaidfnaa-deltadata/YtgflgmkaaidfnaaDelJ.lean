/- What a walk is told of a list of truth values that came in. -/
import Derived.Test.YtgflgmkaaidfnaaDelI
import Derived.Deep.Grids
namespace Go.Proofs.Ytgflgmkaaidfnaa
open Go.RowKit

theorem bools_of {H : Type} {enc : TypeId × Value → H} {w : World} {base : Nat} {held : Bool} {fuel : Nat} {a : Option Addr} {len cap : Nat} {x : DataW H × List MemPlace}
    (h : DataW.trod enc Try.prog w base (fun _ => true) held fuel 39 [.slice a len cap] = some x) : ∃ V, RdB w a len V := by
  rcases Go.Deep.open_bools Try.underlying39 Try.underlying4 (by kernel_rfl) h with ⟨hcs, _⟩ | ⟨ad, l, c, B, hcs, _, hl, hm, _, hcell⟩
  · simp at hcs
    obtain ⟨rfl, rfl, rfl⟩ := hcs
    exact ⟨fun _ => false, fun hp => absurd hp (Nat.lt_irrefl 0)⟩
  · simp at hcs
    obtain ⟨rfl, rfl, rfl⟩ := hcs
    refine ⟨B, fun hp => ?_⟩
    obtain ⟨b, off, sp⟩ := ad
    have hs : sp = none := by have := spot_none (hcell 0 (by omega)); rw [Addr.add_zero'] at this; exact this
    subst hs
    refine ⟨b, off, rfl, fun i hi => ?_⟩
    have := hcell i (by omega)
    rwa [Addr.add_lit] at this
end Go.Proofs.Ytgflgmkaaidfnaa
