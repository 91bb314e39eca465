/- Whether two matrices are the same; whether one has more than is gone through; matrices that came in. -/
import Derived.Test.YthkikocacbbhkaaMatJ
import Derived.Laws.BytesArg
import Derived.OpenShut
import Derived.Deep.Matrix
namespace Go.Proofs.Ythkikocacbbhkaa
open Go.RowKit

/-- The string of n bytes. -/
def str (n : Nat) (f : Nat → K) : ByteArray := strOfNums ((List.range n).map fun i => ((f i).n : Int))
theorem str_congr {n : Nat} {f h : Nat → K} (e : ∀ i, i < n → f i = h i) : str n f = str n h := by
  unfold str
  congr 1
  apply List.map_congr_left
  intro i hi
  rw [e i (List.mem_range.1 hi)]
theorem conv_any {w : World} {ao : Option Addr} {n : Nat} {f : Nat → K} (h : Rd w ao n f) (cp : Nat) : (convert 23 9 (.slice ao n cp)).run Try.prog w = .ok (.string (str n f)) w := by
  by_cases hn : 0 < n
  · obtain ⟨b, off, rfl, hc⟩ := h hn
    exact run_convert_bytes_arg w 23 5 Try.underlying23 Try.underlying5 b off n cp _ (by simp) (fun i hi => by rw [hc i hi]; simp [hi]) 9 Try.underlying9
  · obtain rfl : n = 0 := by omega
    cases ao with
    | none => exact run_convert_bytes_nil w 23 5 Try.underlying23 Try.underlying5 0 cp 9 Try.underlying9
    | some a =>
      rw [run_convert_bytes_string w 23 9 5 _ 0 cp Try.underlying23 Try.underlying5 Try.underlying9, run_bytesToString w a 0 cp [] (by simp [loadCells, loadCellsFrom])]
      rfl

/-- What a walk is told of a list of slices that came in. -/
def IsLst (w : World) (a : Option Addr) (len cap : Nat) : Prop :=
  len ≤ 9223372036854775807 ∧ (a = none → len = 0 ∧ cap = 0) ∧
  ∃ (A : Nat → Option Addr) (C L : Nat → Nat) (H : M), Lst w a len A C L H ∧ ∀ i, i < len → (A i = none → L i = 0 ∧ C i = 0) ∧ L i ≤ 9223372036854775807
theorem spot_none {w : World} {x : Addr} {v : Value} (h : w.cell? x = some v) : x.spot = none := by
  unfold World.cell? at h
  split at h
  · split at h
    · cases h
    · rename_i hn
      simpa using hn
  · cases h
def ofInts (zs : List Int) (i : Nat) : K := K.of (zs.getD i 0).toNat

theorem isLst_of {H : Type} {enc : TypeId × Value → H} {w : World} {base : Nat} {held : Bool} {fuel : Nat} {a : Option Addr} {len cap : Nat} {x : DataW H × List MemPlace}
    (h : DataW.trod enc Try.prog w base (fun _ => true) held fuel 24 [.slice a len cap] = some x) : IsLst w a len cap := by
  rcases Go.Deep.open_int_rows Try.underlying24 Try.underlying23 Try.underlying5 (by kernel_rfl) (by kernel_rfl) h with ⟨hcs, _⟩ | ⟨ad, l, c, A, L, C, Z, hcs, _, hl, hm, _, hr⟩
  · simp at hcs
    obtain ⟨rfl, rfl, rfl⟩ := hcs
    exact ⟨by omega, fun _ => ⟨rfl, rfl⟩, fun _ => none, fun _ => 0, fun _ => 0, fun _ _ => 0, ⟨fun i hi => absurd hi (Nat.not_lt_zero i), fun hp => absurd hp (Nat.lt_irrefl 0)⟩, fun i hi => absurd hi (Nat.not_lt_zero i)⟩
  · simp at hcs
    obtain ⟨rfl, rfl, rfl⟩ := hcs
    have hb : ∀ r j, r < cap → 0 ≤ (Z r).getD j 0 ∧ (Z r).getD j 0 ≤ 255 := fun r j hrc => by
      rw [List.getD_eq_getElem?_getD]
      by_cases hi : j < (Z r).length
      · rw [List.getElem?_eq_getElem hi]
        exact Go.bounds_u8 ((hr r hrc).2.2.2.2.1 _ (List.getElem_mem hi))
      · rw [List.getElem?_eq_none (by omega)]; exact ⟨by decide, by decide⟩
    refine ⟨by unfold maxLen at hm; omega, (fun h => by cases h), A, C, L, fun r j => ofInts (Z r) j, ⟨fun i hi => ?_, fun hp => ?_⟩, fun i hi => ?_⟩
    · obtain ⟨_, h2, _, h4, _, h6, h7⟩ := hr i (by omega)
      intro hp
      cases hA : A i with
      | none => have := h6 hA; omega
      | some x =>
        obtain ⟨_, hc⟩ := h7 x hA
        obtain ⟨b, off, sp⟩ := x
        have hs : sp = none := by have := spot_none (hc 0 (by omega)); rw [Addr.add_zero'] at this; exact this
        subst hs
        refine ⟨b, off, rfl, fun j hj => ?_⟩
        have := hc j (by omega)
        rw [Addr.add_lit] at this
        have hbb := hb i j (by omega)
        show _ = some (Value.int .u8 ((ofInts (Z i) j).n : Int))
        rw [this, ofInts, K.of_n _ (by omega), Int.toNat_of_nonneg hbb.1]
    · obtain ⟨b, off, sp⟩ := ad
      have hs : sp = none := by have := spot_none (hr 0 (by omega)).1; rw [Addr.add_zero'] at this; exact this
      subst hs
      refine ⟨b, off, rfl, fun i hi => ?_⟩
      have := (hr i (by omega)).1
      rwa [Addr.add_lit] at this
    · obtain ⟨_, h2, h3, _, _, h6, _⟩ := hr i (by omega)
      refine ⟨fun hA => ?_, by unfold maxLen at h3; omega⟩
      have := h6 hA
      omega
end Go.Proofs.Ythkikocacbbhkaa
