/- Rows that are appended: lists of slices, numbers; and as many places as there are numbers. -/
import Derived.Test.YthkikocacbbhkaaMatL
import Derived.Laws.AppendOwnNone
import Derived.Deep.AppendLies
namespace Go.Proofs.Ythkikocacbbhkaa
open Go.RowKit

/-- The cells of k slices. -/
def rowsOf (k : Nat) (T : Nat → Option Addr) (L U : Nat → Nat) : List Value := (List.range k).map fun i => .slice (T i) (L i) (U i)
theorem rowsOf_length (k : Nat) (T : Nat → Option Addr) (L U : Nat → Nat) : (rowsOf k T L U).length = k := by simp [rowsOf]
theorem rowsOf_get (k : Nat) (T : Nat → Option Addr) (L U : Nat → Nat) (i : Nat) (h : i < k) : (rowsOf k T L U)[i]? = some (.slice (T i) (L i) (U i)) := by simp [rowsOf, h]
theorem rowsOf_one (k : Nat) (T : Nat → Option Addr) (L U : Nat → Nat) : ∀ v ∈ rowsOf k T L U, v.oneCell' = true := by
  intro v hv
  simp only [rowsOf, List.mem_map] at hv
  obtain ⟨i, _, rfl⟩ := hv
  rfl
theorem list_lt {α : Type} {l : List α} {n i : Nat} {x : α} (hl : l.length = n) (h : l[i]? = some x) : i < n := by
  rcases Nat.lt_or_ge i n with g | g
  · exact g
  · rw [List.getElem?_eq_none (by omega)] at h; cases h
theorem Mat.owns {w : World} {B T l cl rows cols : Nat} {G U : Nat → Nat} {H : M} (h : Mat w B T l cl rows cols G U H) (hm : cl ≤ maxLen) : w.ownsRow B 23 1 (.slice (some ⟨l, 0, none⟩) rows cl) rows (rowsOf rows (fun i => some ⟨G i, 0, none⟩) (fun _ => cols) U) := by
  obtain ⟨c, ⟨cur, hb, hs, hc⟩, hh⟩ := h.lst
  have hroom := h.room
  refine ⟨by rw [rowsOf_length, Nat.mul_one], .inr ⟨l, cl, cur, rfl, h.lo, hb, h.room, hm, by rw [hs, Nat.mul_one], ?_⟩⟩
  rw [Nat.mul_one]
  apply List.ext_getElem?
  intro i
  by_cases hi : i < rows
  · rw [List.getElem?_take_of_lt hi, rowsOf_get _ _ _ _ _ hi, Array.getElem?_toList, hc i (by omega), hh i hi]
  · rw [List.getElem?_eq_none (by simp; omega), List.getElem?_eq_none (by rw [rowsOf_length]; omega)]
theorem grown_below {B : Nat} {w w' : World} {row : Option Nat} (hg : w.grownBy w' row) (hB : B ≤ w.heap.size) (hr : ∀ k, row = some k → B ≤ k) : Below B w w' := (Below.refl B w).grown hg hB hr

/-- The cells of k numbers. -/
def intsOf (k : Nat) (R : Nat → Nat) : List Value := (List.range k).map fun i => .int .i64 ((R i : Nat) : Int)
theorem intsOf_length (k : Nat) (R : Nat → Nat) : (intsOf k R).length = k := by simp [intsOf]
theorem intsOf_get (k : Nat) (R : Nat → Nat) (i : Nat) (h : i < k) : (intsOf k R)[i]? = some (.int .i64 ((R i : Nat) : Int)) := by simp [intsOf, h]
theorem intsOf_put (k : Nat) (R : Nat → Nat) (x : Nat) : intsOf (k + 1) (put k x R) = intsOf k R ++ [.int .i64 (x : Int)] := by
  simp only [intsOf, List.range_succ, List.map_append, List.map_cons, List.map_nil, put_at]
  congr 1
  apply List.map_congr_left
  intro i hi
  have : i ≠ k := by have := List.mem_range.1 hi; omega
  rw [put_ne _ _ this]
theorem owns_rdI {w : World} {base : Nat} {ao : Option Addr} {n cap : Nat} {R : Nat → Nat} (h : w.ownsRow base 3 1 (.slice ao n cap) n (intsOf n R)) : RdI w ao n (fun i => (R i : Int)) := by
  intro hp
  rcases h.2 with ⟨_, h1⟩ | ⟨g, cap', cur, h1, _⟩
  · omega
  · cases h1
    refine ⟨g, 0, rfl, fun i hi => ?_⟩
    have := h.cells (g := g) rfl i _ (intsOf_get n R i hi)
    rwa [Addr.add_lit] at this
theorem owns_form {w : World} {base e n : Nat} {v : Value} {xs : List Value} (h : w.ownsRow base e 1 v n xs) : ∃ ao cap, v = .slice ao n cap := by
  rcases h.2 with ⟨rfl, rfl⟩ | ⟨g, cap, cur, rfl, _⟩
  · exact ⟨none, 0, rfl⟩
  · exact ⟨_, cap, rfl⟩
/-- Rows of other elements are other rows. -/
theorem owns_apart {w : World} {b e e' n g q : Nat} {v : Value} {xs : List Value} {f : Nat → Value} (h : w.ownsRow b e 1 v n xs) (k : w.rowIs g e' q f) (he : e ≠ e') : v.ownBlock ≠ some g := by
  rcases h.2 with ⟨rfl, _⟩ | ⟨g', cap, cur, rfl, _, h1, _⟩
  · intro e; cases e
  · intro e
    have e' : g' = g := Option.some.inj e
    obtain ⟨c, h2, _⟩ := k
    rw [e', h2] at h1
    cases h1
    exact he rfl

theorem pigeon (t : Nat) : ∀ (N : Nat) (f : Nat → Nat), (∀ x, x < N → f x < t) → (∀ x y, x < N → y < N → f x = f y → x = y) → N ≤ t := by
  induction t with
  | zero =>
    intro N f h _
    rcases Nat.eq_zero_or_pos N with e | e
    · omega
    · exact absurd (h 0 e) (Nat.not_lt_zero _)
  | succ t ih =>
    intro N f h inj
    cases N with
    | zero => omega
    | succ m =>
      refine Nat.succ_le_succ (ih m (fun x => if f x = t then f m else f x) (fun x hx => ?_) (fun x y hx hy e => ?_))
      · have h1 := h x (by omega)
        have h2 := h m (by omega)
        show (if f x = t then f m else f x) < t
        split
        · rename_i e
          have : f m ≠ t := fun e' => by have := inj x m (by omega) (by omega) (by omega); omega
          omega
        · omega
      · have hxm : f x ≠ f m := fun e' => by have := inj x m (by omega) (by omega) e'; omega
        have hym : f y ≠ f m := fun e' => by have := inj y m (by omega) (by omega) e'; omega
        have e2 : (if f x = t then f m else f x) = (if f y = t then f m else f y) := e
        by_cases a : f x = t
        · by_cases b : f y = t
          · exact inj x y (by omega) (by omega) (by omega)
          · rw [if_pos a, if_neg b] at e2; omega
        · by_cases b : f y = t
          · rw [if_neg a, if_pos b] at e2; omega
          · rw [if_neg a, if_neg b] at e2; exact inj x y (by omega) (by omega) e2
theorem covered {N t : Nat} {R : Nat → Nat} (h : ∀ x, x < N → ∃ s, s < t ∧ R s = x) : N ≤ t := by
  refine pigeon t N (fun x => if hx : x < N then Classical.choose (h x hx) else 0) (fun x hx => ?_) (fun x y hx hy e => ?_)
  · simp only [hx, dif_pos]; exact (Classical.choose_spec (h x hx)).1
  · simp only [hx, hy, dif_pos] at e
    rw [← (Classical.choose_spec (h x hx)).2, ← (Classical.choose_spec (h y hy)).2, e]
end Go.Proofs.Ythkikocacbbhkaa
