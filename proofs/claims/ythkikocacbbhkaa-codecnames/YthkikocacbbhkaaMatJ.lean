/- The answers that the document fixes: the program gives them. -/
import Derived.Test.YthkikocacbbhkaaMatI
namespace Go.Proofs.Ythkikocacbbhkaa
open Go.RowKit

/-- The cells of n bytes. -/
def cellsOf (n : Nat) (f : Nat → K) : List Value := (List.range n).map fun i => .int .u8 ((f i).n : Int)
theorem cellsOf_length (n : Nat) (f : Nat → K) : (cellsOf n f).length = n := by simp [cellsOf]
theorem cellsOf_get (n : Nat) (f : Nat → K) (i : Nat) (h : i < n) : (cellsOf n f)[i]? = some (.int .u8 ((f i).n : Int)) := by simp [cellsOf, h]
theorem cellsOf_one (n : Nat) (f : Nat → K) : ∀ v ∈ cellsOf n f, v.oneCell' = true := by
  intro v hv
  simp only [cellsOf, List.mem_map] at hv
  obtain ⟨i, _, rfl⟩ := hv
  rfl
def lit (l : List Nat) (i : Nat) : K := K.of (l.getD i 0)
def two {α : Type} (a b : α) (i : Nat) : α := if i = 0 then a else b
def three {α : Type} (a b c : α) (i : Nat) : α := if i = 0 then a else if i = 1 then b else c
theorem rd_lit {w : World} {g : Nat} (hg : w.heap.size = g) (l : List Nat) (cs : Array Value) (hcs : cs = (cellsOf l.length (lit l)).toArray) :
    Rd (w.alloc (.cells cs 5)) (some ⟨g, 0, none⟩) l.length (lit l) := by
  subst hg; subst hcs
  refine fun _ => ⟨_, _, rfl, fun i hi => ?_⟩
  rw [Nat.zero_add, cell_of_row _ _ _ _ _ _ (heap_alloc_new w _), List.getElem?_toArray, cellsOf_get _ _ _ hi]
theorem below_alloc (w : World) (o : Obj) : Below w.heap.size w (w.alloc o) := (Below.refl _ w).alloc (Nat.le_refl _) o
theorem Rd.alloc {w : World} {ao : Option Addr} {n : Nat} {f : Nat → K} (h : Rd w ao n f) (o : Obj) : Rd (w.alloc o) ao n f := h.below (below_alloc w o)
theorem Lst.alloc {w : World} {lo : Option Addr} {ll : Nat} {A : Nat → Option Addr} {C L : Nat → Nat} {H : M} (h : Lst w lo ll A C L H) (o : Obj) : Lst (w.alloc o) lo ll A C L H := h.below (below_alloc w o)
theorem more {w w' : World} (h : Below w.heap.size w w') (o : Obj) : Below w.heap.size w (w'.alloc o) := h.alloc h.size o
theorem lst1 {w : World} {g : Nat} (hg : w.heap.size = g) (ao : Option Addr) (la ca : Nat) (f : Nat → K) (ha : Rd w ao la f) :
    Lst (w.alloc (.cells #[.slice ao la ca] 23)) (some ⟨g, 0, none⟩) 1 (fun _ => ao) (fun _ => ca) (fun _ => la) (fun _ => f) := by
  subst hg
  refine ⟨fun i hi => ha.alloc _, fun _ => ⟨_, _, rfl, fun i hi => ?_⟩⟩
  obtain rfl : i = 0 := by omega
  rw [cell_of_row _ _ _ _ _ _ (heap_alloc_new w _)]; rfl
theorem lst2 {w : World} {g : Nat} (hg : w.heap.size = g) (ao bo : Option Addr) (la ca lb cb : Nat) (f h : Nat → K) (ha : Rd w ao la f) (hb : Rd w bo lb h) :
    Lst (w.alloc (.cells #[.slice ao la ca, .slice bo lb cb] 23)) (some ⟨g, 0, none⟩) 2 (two ao bo) (two ca cb) (two la lb) (two f h) := by
  subst hg
  refine ⟨fun i hi => ?_, fun _ => ⟨_, _, rfl, fun i hi => ?_⟩⟩
  all_goals (obtain rfl | rfl : i = 0 ∨ i = 1 := by omega)
  · exact ha.alloc _
  · exact hb.alloc _
  all_goals (rw [cell_of_row _ _ _ _ _ _ (heap_alloc_new w _)]; rfl)
theorem lst3 {w : World} {g : Nat} (hg : w.heap.size = g) (ao bo co : Option Addr) (la ca lb cb lc cc : Nat) (f h k : Nat → K) (ha : Rd w ao la f) (hb : Rd w bo lb h) (hc : Rd w co lc k) :
    Lst (w.alloc (.cells #[.slice ao la ca, .slice bo lb cb, .slice co lc cc] 23)) (some ⟨g, 0, none⟩) 3 (three ao bo co) (three ca cb cc) (three la lb lc) (three f h k) := by
  subst hg
  refine ⟨fun i hi => ?_, fun _ => ⟨_, _, rfl, fun i hi => ?_⟩⟩
  all_goals (obtain rfl | rfl | rfl : i = 0 ∨ i = 1 ∨ i = 2 := by omega)
  · exact ha.alloc _
  · exact hb.alloc _
  · exact hc.alloc _
  all_goals (rw [cell_of_row _ _ _ _ _ _ (heap_alloc_new w _)]; rfl)
def lit2I (a b : Int) (i : Nat) : Int := if i = 0 then a else b
theorem rdI2 {w : World} {g : Nat} (hg : w.heap.size = g) (a b : Int) : RdI (w.alloc (.cells #[.int .i64 a, .int .i64 b] 3)) (some ⟨g, 0, none⟩) 2 (lit2I a b) := by
  subst hg
  refine fun _ => ⟨_, _, rfl, fun i hi => ?_⟩
  obtain rfl | rfl : i = 0 ∨ i = 1 := by omega
  all_goals (rw [cell_of_row _ _ _ _ _ _ (heap_alloc_new w _)]; rfl)

theorem rank_12_24 : rankOf 2 2 (two (lit [1, 2]) (lit [2, 4])) = 1 := by
  refine rankOf_eq ⟨⟨fun i _ => lit [1, 2] i, fun _ j => lit [1, 2] j, fun i j hi hj => ?_⟩, fun r hr => ?_⟩
  · obtain rfl | rfl : i = 0 ∨ i = 1 := by omega
    all_goals (obtain rfl | rfl : j = 0 ∨ j = 1 := by omega)
    all_goals exact K.ext (by decide +kernel)
  · obtain ⟨X, Y, h⟩ := hr
    by_cases e : r = 0
    · subst e
      have := congrArg K.n (h 0 0 (by decide) (by decide))
      exact absurd (show (1 : Nat) = 0 from this) (by decide)
    · omega
theorem inv_2 : IsInv 1 (fun _ => lit [2]) (fun _ _ => K.of 142) := by
  intro i j hi hj
  obtain rfl : i = 0 := by omega
  obtain rfl : j = 0 := by omega
  exact ⟨K.ext (by decide +kernel), K.ext (by decide +kernel)⟩
theorem lost_11_11 : invB 2 (two (lit [1, 1]) (lit [1, 1])) = false := by
  rw [invB_rk]
  refine decide_eq_false fun e => ?_
  have h := rankOf_rk 2 2 (two (lit [1, 1]) (lit [1, 1]))
  rw [e] at h
  have := h.2 1 ⟨fun _ _ => 1, fun _ _ => 1, fun i j hi hj => by
    obtain rfl | rfl : i = 0 ∨ i = 1 := by omega
    all_goals (obtain rfl | rfl : j = 0 ∨ j = 1 := by omega)
    all_goals exact K.ext (by decide +kernel)⟩
  omega
/-- A call that makes a matrix, and may. -/
theorem good_of {w : World} {n cols : Nat} {H : M} {err : Int} {e : Ending} {w' : World} (h : Made w true err n cols H e w') :
    ∃ ao cap A C, e = .returned (.tuple #[.slice ao n cap, .int .i64 0]) ∧ Lst w' ao n A C (fun _ => cols) H ∧ Below w.heap.size w w' := by
  obtain ⟨ao, cap, rfl, ha, hb⟩ := h
  obtain ⟨A, C, hl⟩ := ha.lst
  exact ⟨ao, cap, A, C, rfl, hl, hb⟩

/-- All the cells of a list of rows that are not empty. -/
theorem Lst.grid {w : World} {lo : Option Addr} {ll : Nat} {A : Nat → Option Addr} {C L : Nat → Nat} {H : M} (h : Lst w lo ll A C L H) (hn : 0 < ll) (hL : ∀ i, i < ll → 0 < L i) :
    ∃ b off, ∃ X Y : Nat → Nat, lo = some ⟨b, off, none⟩ ∧ (∀ i, i < ll → w.cell? ⟨b, off + i, none⟩ = some (.slice (some ⟨X i, Y i, none⟩) (L i) (C i))) ∧ ∀ i j, i < ll → j < L i → w.cell? ⟨X i, Y i + j, none⟩ = some (.int .u8 ((H i j).n : Int)) := by
  obtain ⟨b, off, rfl, hc⟩ := h.at_ hn
  refine ⟨b, off, fun i => ((A i).getD ⟨0, 0, none⟩).block, fun i => ((A i).getD ⟨0, 0, none⟩).off, rfl, fun i hi => ?_, fun i j hi hj => ?_⟩
  · obtain ⟨x, y, e, _⟩ := h.rd i hi (hL i hi)
    simp only [e]; rw [hc i hi, e]; rfl
  · obtain ⟨x, y, e, hx⟩ := h.rd i hi (hL i hi)
    simp only [e]; exact hx j hj
theorem val_of {w : World} {a : Addr} {x : K} {n : Nat} (h : w.cell? a = some (.int .u8 (x.n : Int))) (e : x.n = n) : w.cell? a = some (.int .u8 (n : Int)) := by rw [← e]; exact h

end Go.Proofs.Ythkikocacbbhkaa
