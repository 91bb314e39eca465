/- Lists of rows as plain functions: which may be, which rows are free, what two lists have together. -/
import Derived.Test.YtmncbeabhicbhaaVecMath
namespace Go.Proofs.Ytmncbeabhicbhaa

def ltB (q : Int) (n : Nat) (R : Nat → Int) : Bool := decide (∀ i, i < n → 0 ≤ R i ∧ R i < q)
def rsB (n : Nat) (R : Nat → Int) : Bool := decide (∀ i, i < n - 1 → R i < R (i + 1))
theorem rsB_t {n : Nat} {R : Nat → Int} (h : ∀ i, i + 1 < n → R i < R (i + 1)) : rsB n R = true := decide_eq_true fun i hi => h i (by omega)
theorem rsB_f {n : Nat} {R : Nat → Int} (h : ¬ ∀ i, i + 1 < n → R i < R (i + 1)) : rsB n R = false := decide_eq_false fun e => h fun i hi => e i (by omega)
theorem rsB_of {n : Nat} {R : Nat → Int} (h : rsB n R = true) : ∀ i, i + 1 < n → R i < R (i + 1) := fun i hi => of_decide_eq_true h i (by omega)
/-- A list's error where its rows may stand in any order; where they must rise. -/
def erH (q : Int) (n : Nat) (R : Nat → Int) : Int := if 65536 < n then 20 else if ltB q n R = true then 0 else 200
def erL (q : Int) (n : Nat) (R : Nat → Int) : Int := if erH q n R = 0 then (if rsB n R = true then 0 else 200) else erH q n R
def erM (x q : Int) (n : Nat) (R : Nat → Int) : Int := if x = 0 then erL q n R else x
def erF (x q : Int) (n : Nat) (R : Nat → Int) : Int := if x = 0 then erH q n R else x
def erT (x q : Int) (n : Nat) (R : Nat → Int) (m : Int) : Int := if erM x q n R = 0 then (if m < 0 then 2 else if (n : Int) < m then 4 else 0) else erM x q n R
def er2M (x q : Int) (n : Nat) (R : Nat → Int) (m : Nat) (S : Nat → Int) : Int := if erM x q n R = 0 then erL q m S else erM x q n R
def apB (n : Nat) (R : Nat → Int) (m : Nat) (S : Nat → Int) : Bool := decide (∀ i, i < n → ∀ j, j < m → R i ≠ S j)
def erG (x q : Int) (n : Nat) (R : Nat → Int) (m : Nat) (S : Nat → Int) : Int := if er2M x q n R m S = 0 then (if apB n R m S = true then 0 else 200) else er2M x q n R m S
def inB (n : Nat) (R : Nat → Int) (i : Nat) : Bool := anyB n (fun j => decide (R j = (i : Int)))
def nfB (n : Nat) (R : Nat → Int) (i : Nat) : Bool := !inB n R i
def twB (n : Nat) (R : Nat → Int) (m : Nat) (S : Nat → Int) (i : Nat) : Bool := inB n R i || inB m S i
def app {α : Type} (n : Nat) (R S : Nat → α) : Nat → α := fun i => if i < n then R i else S (i - n)

theorem erH_cases (q : Int) (n : Nat) (R : Nat → Int) : (65536 < n ∧ erH q n R = 20) ∨ (n ≤ 65536 ∧ (∀ i, i < n → 0 ≤ R i ∧ R i < q) ∧ erH q n R = 0) ∨ (n ≤ 65536 ∧ ¬ (∀ i, i < n → 0 ≤ R i ∧ R i < q) ∧ erH q n R = 200) := by
  unfold erH
  by_cases h : 65536 < n
  · exact .inl ⟨h, if_pos h⟩
  · rw [if_neg h]
    by_cases g : ∀ i, i < n → 0 ≤ R i ∧ R i < q
    · exact .inr (.inl ⟨by omega, g, if_pos (decide_eq_true g)⟩)
    · exact .inr (.inr ⟨by omega, g, if_neg (fun e => g (of_decide_eq_true e))⟩)
theorem erL_cases (q : Int) (n : Nat) (R : Nat → Int) : (erH q n R ≠ 0 ∧ erL q n R = erH q n R) ∨ (erH q n R = 0 ∧ rsB n R = true ∧ erL q n R = 0) ∨ (erH q n R = 0 ∧ rsB n R = false ∧ erL q n R = 200) := by
  unfold erL
  by_cases h : erH q n R = 0
  · rw [if_pos h]
    cases g : rsB n R
    · exact .inr (.inr ⟨h, rfl, if_neg (by decide)⟩)
    · exact .inr (.inl ⟨h, rfl, if_pos rfl⟩)
  · exact .inl ⟨h, if_neg h⟩
theorem inB_iff {n : Nat} {R : Nat → Int} {i : Nat} : inB n R i = true ↔ ∃ j, j < n ∧ R j = (i : Int) := by
  unfold inB anyB
  constructor
  · intro h
    have h1 : ¬ ∀ j, j < n → decide (R j = (i : Int)) = false := by simpa using h
    obtain ⟨j, hj, hne, _⟩ := first_not h1
    exact ⟨j, hj, by simpa using hne⟩
  · rintro ⟨j, hj, e⟩
    have : ¬ ∀ j, j < n → decide (R j = (i : Int)) = false := fun h => by have := h j hj; rw [e] at this; simp at this
    simpa using this
theorem inB_no {n : Nat} {R : Nat → Int} {i : Nat} : inB n R i = false ↔ ∀ j, j < n → R j ≠ (i : Int) := by
  constructor
  · intro h j hj e
    have := inB_iff.2 ⟨j, hj, e⟩
    rw [h] at this; cases this
  · intro h
    cases g : inB n R i
    · rfl
    · obtain ⟨j, hj, e⟩ := inB_iff.1 g
      exact absurd e (h j hj)
/-- The list as numbers. -/
def lsI (n : Nat) (R : Nat → Int) : List Int := (List.range n).map R
theorem lsI_length (n : Nat) (R : Nat → Int) : (lsI n R).length = n := by simp [lsI]
theorem lsI_mem {n : Nat} {R : Nat → Int} {x : Int} : x ∈ lsI n R ↔ ∃ j, j < n ∧ R j = x := by simp [lsI]
theorem lsI_get {n : Nat} {R : Nat → Int} {i : Nat} (h : i < n) : (lsI n R)[i]? = some (R i) := by simp [lsI, h]
theorem lsI_congr {n : Nat} {R S : Nat → Int} (h : ∀ i, i < n → R i = S i) : lsI n R = lsI n S := by
  unfold lsI; exact List.map_congr_left fun i hi => h i (List.mem_range.1 hi)
theorem lsI_app (n m : Nat) (R S : Nat → Int) : lsI (n + m) (app n R S) = lsI n R ++ lsI m S := by
  apply List.ext_getElem?
  intro i
  by_cases h : i < n
  · rw [lsI_get (by omega), List.getElem?_append_left (by rw [lsI_length]; exact h), lsI_get h]; unfold app; rw [if_pos h]
  · rw [List.getElem?_append_right (by rw [lsI_length]; omega), lsI_length]
    by_cases g : i < n + m
    · rw [lsI_get g, lsI_get (show i - n < m by omega)]; unfold app; rw [if_neg h]
    · rw [List.getElem?_eq_none (by rw [lsI_length]; omega), List.getElem?_eq_none (by rw [lsI_length]; omega)]
theorem rise_lt {n : Nat} {R : Nat → Int} (h : ∀ i, i + 1 < n → R i < R (i + 1)) {i : Nat} : ∀ d, i + (d + 1) < n → R i < R (i + (d + 1)) := by
  intro d
  induction d with
  | zero => intro hn; exact h i hn
  | succ d ih => intro hn; have h1 := ih (by omega); have h2 := h (i + (d + 1)) (by omega); rw [show i + (d + 1 + 1) = i + (d + 1) + 1 by omega]; omega
theorem rise_any {n : Nat} {R : Nat → Int} (h : ∀ i, i + 1 < n → R i < R (i + 1)) {i j : Nat} (h1 : i < j) (h2 : j < n) : R i < R j := by
  have := rise_lt h (i := i) (j - i - 1) (by omega)
  rwa [show i + (j - i - 1 + 1) = j by omega] at this
theorem lsI_sorted {n : Nat} {R : Nat → Int} (h : ∀ i, i + 1 < n → R i < R (i + 1)) : (lsI n R).Pairwise (fun a b => a < b) := by
  rw [List.pairwise_iff_getElem]
  intro i j hi hj hij
  rw [lsI_length] at hi hj
  have e1 := lsI_get (R := R) hi; have e2 := lsI_get (R := R) hj
  rw [List.getElem?_eq_getElem (by rw [lsI_length]; exact hi)] at e1
  rw [List.getElem?_eq_getElem (by rw [lsI_length]; exact hj)] at e2
  rw [Option.some.inj e1, Option.some.inj e2]
  exact rise_any h hij hj
theorem nodup_lt {l : List Int} (h : l.Pairwise (fun a b => a < b)) : l.Nodup := h.imp (fun h e => by omega)
/-- What is selected rises. -/
theorem sel_rise (P : Nat → Bool) (k : Nat) : ∀ t, t + 1 < cnt P k → sel P k t < sel P k (t + 1) := by
  intro t ht
  obtain ⟨i, hi, e1, p1, c1⟩ := sel_spec P k t (by omega)
  obtain ⟨j, hj, e2, p2, c2⟩ := sel_spec P k (t + 1) ht
  rw [e1, e2]
  have : i < j := by
    rcases Nat.lt_or_ge i j with g | g
    · exact g
    · have := cnt_mono P g; omega
  omega
theorem sel_mem {P : Nat → Bool} {k : Nat} {x : Int} : x ∈ lsI (cnt P k) (sel P k) ↔ ∃ i : Nat, i < k ∧ x = (i : Int) ∧ P i = true := by
  rw [lsI_mem]
  constructor
  · rintro ⟨t, ht, e⟩
    obtain ⟨i, hi, e1, p1, _⟩ := sel_spec P k t ht
    exact ⟨i, hi, by rw [← e, e1], p1⟩
  · rintro ⟨i, hi, rfl, p⟩
    obtain ⟨h1, h2⟩ := sel_at P k i hi p
    exact ⟨_, h1, h2⟩
end Go.Proofs.Ytmncbeabhicbhaa
