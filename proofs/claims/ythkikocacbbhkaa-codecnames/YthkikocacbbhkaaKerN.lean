/- Lists of slices that came in: what each slice of them reads as. -/
import Derived.Test.YthkikocacbbhkaaKerH
import Derived.Deep.Matrix
namespace Go.Proofs.Ythkikocacbbhkaa.Ker
open Go.RowKit

/-- What a walk is told of a list of slices that came in. -/
def IsLst (w : World) (a : Option Addr) (len cap : Nat) : Prop :=
  len ≤ 9223372036854775807 ∧ (a = none → len = 0 ∧ cap = 0) ∧
  ∃ (A : Nat → Option Addr) (C L : Nat → Nat) (H : Nat → Nat → Nat), Lst w a len A C L H ∧ (∀ i, i < len → (A i = none → L i = 0 ∧ C i = 0) ∧ L i ≤ 9223372036854775807) ∧ ∀ i j, H i j < 256

theorem isLst_of {H : Type} {enc : TypeId × Value → H} {w : World} {base : Nat} {held : Bool} {fuel : Nat} {a : Option Addr} {len cap : Nat} {x : DataW H × List MemPlace}
    (h : DataW.trod enc Try.prog w base (fun _ => true) held fuel 24 [.slice a len cap] = some x) : IsLst w a len cap := by
  rcases Go.Deep.open_int_rows Try.underlying24 Try.underlying23 Try.underlying5 (by kernel_rfl) (by kernel_rfl) h with ⟨hcs, _⟩ | ⟨ad, l, c, A, L, C, Z, hcs, _, hl, hm, _, hr⟩
  · simp at hcs
    obtain ⟨rfl, rfl, rfl⟩ := hcs
    exact ⟨by omega, fun _ => ⟨rfl, rfl⟩, fun _ => none, fun _ => 0, fun _ => 0, fun _ _ => 0, ⟨fun i hi => absurd hi (Nat.not_lt_zero i), fun hp => absurd hp (Nat.lt_irrefl 0)⟩, fun i hi => absurd hi (Nat.not_lt_zero i), fun _ _ => (by decide : 0 < 256)⟩
  · simp at hcs
    obtain ⟨rfl, rfl, rfl⟩ := hcs
    have hb : ∀ r j, r < cap → 0 ≤ (Z r).getD j 0 ∧ (Z r).getD j 0 ≤ 255 := fun r j hrc => by
      rw [List.getD_eq_getElem?_getD]
      by_cases hi : j < (Z r).length
      · rw [List.getElem?_eq_getElem hi]
        exact Go.bounds_u8 ((hr r hrc).2.2.2.2.1 _ (List.getElem_mem hi))
      · rw [List.getElem?_eq_none (by omega)]; exact ⟨by decide, by decide⟩
    refine ⟨by unfold maxLen at hm; omega, (fun h => by cases h), A, C, L, fun r j => if r < cap then ofInts (Z r) j else 0, ⟨fun i hi => ?_, fun hp => ?_⟩, fun i hi => ?_, fun i j => ?_⟩
    · obtain ⟨_, h2, _, h4, _, h6, h7⟩ := hr i (by omega)
      refine ⟨fun j => by show (if i < cap then _ else 0) < 256; rw [if_pos (by omega)]; have := hb i j (by omega); unfold ofInts; omega, fun hp => ?_⟩
      cases hA : A i with
      | none => have := h6 hA; omega
      | some x =>
        obtain ⟨_, hc⟩ := h7 x hA
        obtain ⟨b, off, sp⟩ := x
        have hs : sp = none := by have := spot_none (hc 0 (by omega)); rw [Addr.add_zero'] at this; exact this
        subst hs
        refine ⟨b, off, rfl, fun j hj => ?_⟩
        have := hc j (by omega)
        rw [Addr.add_lit] at this
        show _ = some (Value.int .u8 ((if i < cap then ofInts (Z i) j else 0 : Nat) : Int))
        rw [this, if_pos (by omega), ofInts, Int.toNat_of_nonneg (hb i j (by omega)).1]
    · obtain ⟨b, off, sp⟩ := ad
      have hs : sp = none := by have := spot_none (hr 0 (by omega)).1; rw [Addr.add_zero'] at this; exact this
      subst hs
      refine ⟨b, off, rfl, fun i hi => ?_⟩
      have := (hr i (by omega)).1
      rwa [Addr.add_lit] at this
    · obtain ⟨_, h2, h3, _, _, h6, _⟩ := hr i (by omega)
      refine ⟨fun hA => ?_, by unfold maxLen at h3; omega⟩
      have := h6 hA
      omega
    · show (if i < cap then ofInts (Z i) j else 0) < 256
      split
      · rename_i h; have := hb i j h; unfold ofInts; omega
      · decide
end Go.Proofs.Ythkikocacbbhkaa.Ker
