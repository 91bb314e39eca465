/- Slices of bytes that came in, their strings, and the walk of the statement that slices are added and multiplied byte by byte. -/
import Derived.Test.YthkikocacbbhkaaKerG
import Derived.Laws.BytesArg
import Derived.OpenShut
namespace Go.Proofs.Ythkikocacbbhkaa.Ker
open Go.RowKit

/-- What a walk is told of a slice of integers that came in: nil, or a row of cells. -/
def IsRow (k : IntKind) (w : World) (a : Option Addr) (len cap : Nat) (zs : List Int) : Prop :=
  (a = none ∧ len = 0 ∧ cap = 0 ∧ zs = []) ∨
  ∃ x, a = some x ∧ len ≤ cap ∧ cap ≤ maxLen ∧ zs.length = cap ∧ (∀ i, i < zs.length → w.cell? (x.add i) = some (.int k (zs.getD i 0))) ∧ ∀ n ∈ zs, (Lit.int k n).wf = true
def ofInts (zs : List Int) (i : Nat) : Nat := (zs.getD i 0).toNat
theorem spot_none {w : World} {x : Addr} {v : Value} (h : w.cell? x = some v) : x.spot = none := by
  unfold World.cell? at h
  split at h
  · split at h
    · cases h
    · rename_i hn
      simpa using hn
  · cases h
theorem row_rd {w : World} {a : Option Addr} {len cap : Nat} {zs : List Int} (h : IsRow .u8 w a len cap zs) : Rd w a len (ofInts zs) ∧ len ≤ cap ∧ cap ≤ maxLen := by
  rcases h with ⟨rfl, rfl, rfl, rfl⟩ | ⟨x, rfl, h1, h2, h3, h4, h5⟩
  · exact ⟨Rd.nil _ _ _ (fun i => by show 0 < 256; decide), Nat.le_refl _, Nat.zero_le _⟩
  · have hb : ∀ i, 0 ≤ zs.getD i 0 ∧ zs.getD i 0 ≤ 255 := fun i => by
      rw [List.getD_eq_getElem?_getD]
      by_cases hi : i < zs.length
      · rw [List.getElem?_eq_getElem hi]
        exact Go.bounds_u8 (h5 _ (List.getElem_mem hi))
      · rw [List.getElem?_eq_none (by omega)]; exact ⟨by decide, by decide⟩
    refine ⟨⟨fun i => by have := hb i; unfold ofInts; omega, fun hp => ?_⟩, h1, h2⟩
    obtain ⟨b, off, sp⟩ := x
    have hs : sp = none := by have := spot_none (h4 0 (by omega)); rw [Addr.add_zero'] at this; exact this
    subst hs
    refine ⟨b, off, rfl, fun i hi => ?_⟩
    have := h4 i (by omega)
    rw [Addr.add_lit] at this
    rw [this, ofInts, Int.toNat_of_nonneg (hb i).1]

/-- The string of n bytes. -/
def str (n : Nat) (f : Nat → Nat) : ByteArray := strOfNums ((List.range n).map fun i => (f i : Int))
theorem str_congr {n : Nat} {f h : Nat → Nat} (e : ∀ i, i < n → f i = h i) : str n f = str n h := by
  unfold str
  congr 1
  apply List.map_congr_left
  intro i hi
  rw [e i (List.mem_range.1 hi)]
theorem conv_any {w : World} {ao : Option Addr} {n : Nat} {f : Nat → Nat} (h : Rd w ao n f) (cp : Nat) : (convert 23 9 (.slice ao n cp)).run Try.prog w = .ok (.string (str n f)) w := by
  by_cases hn : 0 < n
  · obtain ⟨b, off, rfl, hc⟩ := h.2 hn
    exact run_convert_bytes_arg w 23 5 Try.underlying23 Try.underlying5 b off n cp _ (by simp) (fun i hi => by rw [hc i hi]; simp [hi]) 9 Try.underlying9
  · obtain rfl : n = 0 := by omega
    cases ao with
    | none => exact run_convert_bytes_nil w 23 5 Try.underlying23 Try.underlying5 0 cp 9 Try.underlying9
    | some a =>
      rw [run_convert_bytes_string w 23 9 5 _ 0 cp Try.underlying23 Try.underlying5 Try.underlying9, run_bytesToString w a 0 cp [] (by simp [loadCells, loadCellsFrom])]
      rfl
end Go.Proofs.Ythkikocacbbhkaa.Ker
