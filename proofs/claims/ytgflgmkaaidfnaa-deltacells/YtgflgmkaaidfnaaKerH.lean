/- The answers that the document fixes: the program gives them. -/
import Derived.Test.YtgflgmkaaidfnaaKerF
import Derived.Laws.BytesArg
import Derived.OpenShut
namespace Go.Proofs.Ytgflgmkaaidfnaa.Ker
open Go.RowKit

def lit (l : List Nat) (i : Nat) : Nat := l.getD i 0
theorem lit_lt (l : List Nat) (h : l.all (fun x => decide (x < 256)) = true) (i : Nat) : lit l i < 256 := by
  unfold lit
  rw [List.getD_eq_getElem?_getD]
  by_cases hi : i < l.length
  · rw [List.getElem?_eq_getElem hi]
    exact of_decide_eq_true (List.all_eq_true.1 h _ (List.getElem_mem hi))
  · rw [List.getElem?_eq_none (by omega)]; show 0 < 256; decide
theorem rd_lit {w : World} {g : Nat} (hg : w.heap.size = g) (l : List Nat) (cs : Array Value) (hcs : cs = (cellsOf l.length (lit l)).toArray) (hl : l.all (fun x => decide (x < 256)) = true) :
    Rd (w.alloc (.cells cs 5)) (some ⟨g, 0, none⟩) l.length (lit l) := by
  subst hg; subst hcs
  refine ⟨lit_lt l hl, fun _ => ⟨_, _, rfl, fun i hi => ?_⟩⟩
  rw [Nat.zero_add, cell_of_row _ _ _ _ _ _ (heap_alloc_new w _), List.getElem?_toArray, cellsOf_get _ _ _ hi]
theorem Rd.alloc {w : World} {ao : Option Addr} {n : Nat} {f : Nat → Nat} (h : Rd w ao n f) (o : Obj) : Rd (w.alloc o) ao n f := h.below ((Below.refl _ w).alloc (Nat.le_refl _) o)
theorem below_alloc (w : World) (o : Obj) : Below w.heap.size w (w.alloc o) := (Below.refl _ w).alloc (Nat.le_refl _) o
theorem below_alloc2 (w : World) (o o' : Obj) : Below w.heap.size w ((w.alloc o).alloc o') := (below_alloc w o).alloc (by simp) o'

/-- A call that makes n bytes f, and may. -/
def Good (w : World) (n : Nat) (f : Nat → Nat) (e : Ending) (w' : World) : Prop :=
  ∃ g, e = .returned (.tuple #[.slice (some ⟨g, 0, none⟩) n n, .int .i64 0]) ∧ w.heap.size ≤ g ∧ Own w' g n f ∧ Below w.heap.size w w'
theorem good_of {w : World} {n : Nat} {f : Nat → Nat} {e : Ending} {w' : World} (hn : 0 < n) (h : Made w true n f e w') : Good w n f e w' := by
  obtain ⟨ro, rfl, hans, hbel⟩ := h
  rcases hans with ⟨_, h0, _⟩ | ⟨g, rfl, hg, ho⟩
  · exact absurd (show n = 0 from h0) (by omega)
  · exact ⟨g, rfl, hg, ho, hbel⟩

theorem lst2 {w : World} {g : Nat} (hg : w.heap.size = g) (ao bo : Option Addr) (la ca lb cb : Nat) (f h : Nat → Nat) (ha : Rd w ao la f) (hb : Rd w bo lb h) :
    Lst (w.alloc (.cells #[.slice ao la ca, .slice bo lb cb] 23)) (some ⟨g, 0, none⟩) 2 (two ao bo) (two ca cb) (two la lb) (two f h) := by
  subst hg
  refine ⟨fun i hi => ?_, fun _ => ⟨_, _, rfl, fun i hi => ?_⟩⟩
  all_goals (obtain rfl | rfl : i = 0 ∨ i = 1 := by omega)
  · exact ha.alloc _
  · exact hb.alloc _
  all_goals (rw [cell_of_row _ _ _ _ _ _ (heap_alloc_new w _)]; rfl)
theorem own_cell {w : World} {g n : Nat} {f : Nat → Nat} (h : Own w g n f) (i : Nat) (hi : i < n) (v : Nat) (hv : f i = v) : w.cell? ⟨g, i, none⟩ = some (.int .u8 (v : Int)) := by rw [← hv]; exact h.2.cell hi
theorem below_alloc4 (w : World) (o p q r : Obj) : Below w.heap.size w ((((w.alloc o).alloc p).alloc q).alloc r) := ((below_alloc2 w o p).alloc (by simp; omega) q).alloc (by simp; omega) r

end Go.Proofs.Ytgflgmkaaidfnaa.Ker

/- Slices of bytes that came in, their strings, and the walk of the statement that slices are added and multiplied byte by byte. -/
namespace Go.Proofs.Ytgflgmkaaidfnaa.Ker
open Go.RowKit

/-- What a walk is told of a slice of integers that came in: nil, or a row of cells. -/
def IsRow (k : IntKind) (w : World) (a : Option Addr) (len cap : Nat) (zs : List Int) : Prop :=
  (a = none ∧ len = 0 ∧ cap = 0 ∧ zs = []) ∨
  ∃ x, a = some x ∧ len ≤ cap ∧ cap ≤ maxLen ∧ zs.length = cap ∧ (∀ i, i < zs.length → w.cell? (x.add i) = some (.int k (zs.getD i 0))) ∧ ∀ n ∈ zs, (Lit.int k n).wf = true
def ofInts (zs : List Int) (i : Nat) : Nat := (zs.getD i 0).toNat
theorem spot_none {w : World} {x : Addr} {v : Value} (h : w.cell? x = some v) : x.spot = none := by
  unfold World.cell? at h
  split at h
  · split at h
    · cases h
    · rename_i hn
      simpa using hn
  · cases h
theorem row_rd {w : World} {a : Option Addr} {len cap : Nat} {zs : List Int} (h : IsRow .u8 w a len cap zs) : Rd w a len (ofInts zs) ∧ len ≤ cap ∧ cap ≤ maxLen := by
  rcases h with ⟨rfl, rfl, rfl, rfl⟩ | ⟨x, rfl, h1, h2, h3, h4, h5⟩
  · exact ⟨Rd.nil _ _ _ (fun i => by show 0 < 256; decide), Nat.le_refl _, Nat.zero_le _⟩
  · have hb : ∀ i, 0 ≤ zs.getD i 0 ∧ zs.getD i 0 ≤ 255 := fun i => by
      rw [List.getD_eq_getElem?_getD]
      by_cases hi : i < zs.length
      · rw [List.getElem?_eq_getElem hi]
        exact Go.bounds_u8 (h5 _ (List.getElem_mem hi))
      · rw [List.getElem?_eq_none (by omega)]; exact ⟨by decide, by decide⟩
    refine ⟨⟨fun i => by have := hb i; unfold ofInts; omega, fun hp => ?_⟩, h1, h2⟩
    obtain ⟨b, off, sp⟩ := x
    have hs : sp = none := by have := spot_none (h4 0 (by omega)); rw [Addr.add_zero'] at this; exact this
    subst hs
    refine ⟨b, off, rfl, fun i hi => ?_⟩
    have := h4 i (by omega)
    rw [Addr.add_lit] at this
    rw [this, ofInts, Int.toNat_of_nonneg (hb i).1]

/-- The string of n bytes. -/
def str (n : Nat) (f : Nat → Nat) : ByteArray := strOfNums ((List.range n).map fun i => (f i : Int))
theorem str_congr {n : Nat} {f h : Nat → Nat} (e : ∀ i, i < n → f i = h i) : str n f = str n h := by
  unfold str
  congr 1
  apply List.map_congr_left
  intro i hi
  rw [e i (List.mem_range.1 hi)]
theorem conv_any {w : World} {ao : Option Addr} {n : Nat} {f : Nat → Nat} (h : Rd w ao n f) (cp : Nat) : (convert 23 9 (.slice ao n cp)).run Try.prog w = .ok (.string (str n f)) w := by
  by_cases hn : 0 < n
  · obtain ⟨b, off, rfl, hc⟩ := h.2 hn
    exact run_convert_bytes_arg w 23 5 Try.underlying23 Try.underlying5 b off n cp _ (by simp) (fun i hi => by rw [hc i hi]; simp [hi]) 9 Try.underlying9
  · obtain rfl : n = 0 := by omega
    cases ao with
    | none => exact run_convert_bytes_nil w 23 5 Try.underlying23 Try.underlying5 0 cp 9 Try.underlying9
    | some a =>
      rw [run_convert_bytes_string w 23 9 5 _ 0 cp Try.underlying23 Try.underlying5 Try.underlying9, run_bytesToString w a 0 cp [] (by simp [loadCells, loadCellsFrom])]
      rfl
end Go.Proofs.Ytgflgmkaaidfnaa.Ker

