/- Two lists in one, sorted; the keys of a set, sorted. -/
import Derived.Test.YtmncbeabhicbhaaRwMath
import Derived.Lib.SlKeysI
import Derived.Maps.OwnSet
namespace Go.Proofs.Ytmncbeabhicbhaa
open Go.Maps Go.WideShapes

theorem leI_tr : ∀ a b c : Int, leI a b = true → leI b c = true → leI a c = true := fun a b c h1 h2 => by simp only [leI, decide_eq_true_eq] at *; exact Int.le_trans h1 h2
theorem leI_to : ∀ a b : Int, (leI a b || leI b a) = true := fun a b => by simp only [leI, Bool.or_eq_true, decide_eq_true_eq]; exact Int.le_total a b
/-- A list with the same numbers as a rising one, each once, is sorted to it. -/
theorem sorted_is {l L : List Int} (hL : L.Pairwise (fun a b => a < b)) (hn : l.Nodup) (hm : ∀ x, x ∈ l ↔ x ∈ L) : l.mergeSort leI = L := by
  have hp : l.Perm L := (List.perm_ext_iff_of_nodup hn (nodup_lt hL)).2 hm
  rw [mergeSort_of_perm_i hp]
  exact List.mergeSort_of_pairwise (hL.imp fun h => by simp only [leI, decide_eq_true_eq]; omega)
theorem sort_length (l : List Int) : (l.mergeSort leI).length = l.length := List.length_mergeSort l
/-- The sorted list as a function. -/
def soF (l : List Int) : Nat → Int := fun i => (l.mergeSort leI).getD i 0
theorem soF_ls (l : List Int) : lsI l.length (soF l) = l.mergeSort leI := by
  apply List.ext_getElem?
  intro i
  by_cases h : i < l.length
  · rw [lsI_get h, List.getElem?_eq_getElem (by rw [sort_length]; exact h)]
    unfold soF
    rw [List.getD_eq_getElem?_getD, List.getElem?_eq_getElem (by rw [sort_length]; exact h)]; rfl
  · rw [List.getElem?_eq_none (by rw [lsI_length]; omega), List.getElem?_eq_none (by rw [sort_length]; omega)]
theorem rsB_of_ls {n : Nat} {R : Nat → Int} (h : (lsI n R).Nodup) (h2 : ∀ i, i + 1 < n → R i ≤ R (i + 1)) : rsB n R = true := by
  refine rsB_t fun i hi => ?_
  have := h2 i hi
  have hne : R i ≠ R (i + 1) := by
    have h3 := List.pairwise_iff_getElem.1 h i (i + 1) (by rw [lsI_length]; omega) (by rw [lsI_length]; omega) (by omega)
    have e1 := lsI_get (R := R) (show i < n by omega); have e2 := lsI_get (R := R) hi
    rw [List.getElem?_eq_getElem (by rw [lsI_length]; omega)] at e1
    rw [List.getElem?_eq_getElem (by rw [lsI_length]; omega)] at e2
    rw [Option.some.inj e1, Option.some.inj e2] at h3
    exact h3
  omega
theorem ls_of_rsB {n : Nat} {R : Nat → Int} (h : rsB n R = true) : (lsI n R).Nodup := nodup_lt (lsI_sorted (rsB_of h))
theorem soF_le (l : List Int) : ∀ i, i + 1 < l.length → soF l i ≤ soF l (i + 1) := by
  intro i hi
  have hp := List.pairwise_mergeSort leI_tr leI_to l
  have h3 := List.pairwise_iff_getElem.1 hp i (i + 1) (by rw [sort_length]; omega) (by rw [sort_length]; omega) (by omega)
  unfold soF
  rw [List.getD_eq_getElem?_getD, List.getElem?_eq_getElem (by rw [sort_length]; omega), List.getD_eq_getElem?_getD, List.getElem?_eq_getElem (by rw [sort_length]; omega)]
  simpa [leI] using h3
theorem soF_nodup (l : List Int) : rsB l.length (soF l) = true ↔ l.Nodup := by
  constructor
  · intro h
    have := ls_of_rsB h
    rw [soF_ls] at this
    exact ((List.mergeSort_perm l leI).nodup_iff).1 this
  · intro h
    refine rsB_of_ls ?_ (soF_le l)
    rw [soF_ls]
    exact ((List.mergeSort_perm l leI).nodup_iff).2 h
theorem app_nodup {n m : Nat} {R S : Nat → Int} (hR : rsB n R = true) (hS : rsB m S = true) : (lsI n R ++ lsI m S).Nodup ↔ apB n R m S = true := by
  rw [List.nodup_append]
  constructor
  · rintro ⟨_, _, h⟩
    exact decide_eq_true fun i hi j hj => h _ (lsI_mem.2 ⟨i, hi, rfl⟩) _ (lsI_mem.2 ⟨j, hj, rfl⟩)
  · intro h
    refine ⟨ls_of_rsB hR, ls_of_rsB hS, fun a ha b hb => ?_⟩
    obtain ⟨i, hi, rfl⟩ := lsI_mem.1 ha
    obtain ⟨j, hj, rfl⟩ := lsI_mem.1 hb
    exact of_decide_eq_true h i hi j hj
/-- Two lists in one, sorted: just the rows of both, rising. -/
theorem both_sorted {n m Q : Nat} {R S : Nat → Int} (hR : rsB n R = true) (hS : rsB m S = true) (hr : ∀ i, i < n → 0 ≤ R i ∧ R i < (Q : Int)) (hs : ∀ i, i < m → 0 ≤ S i ∧ S i < (Q : Int)) (h : apB n R m S = true) :
    (lsI n R ++ lsI m S).mergeSort leI = lsI (cnt (twB n R m S) Q) (sel (twB n R m S) Q) := by
  refine sorted_is (lsI_sorted (sel_rise _ _)) ((app_nodup hR hS).2 h) fun x => ?_
  rw [sel_mem, List.mem_append, lsI_mem, lsI_mem]
  constructor
  · rintro (⟨j, hj, rfl⟩ | ⟨j, hj, rfl⟩)
    · have := hr j hj
      refine ⟨(R j).toNat, by omega, by omega, ?_⟩
      unfold twB
      rw [Bool.or_eq_true]
      exact .inl (inB_iff.2 ⟨j, hj, by omega⟩)
    · have := hs j hj
      refine ⟨(S j).toNat, by omega, by omega, ?_⟩
      unfold twB
      rw [Bool.or_eq_true]
      exact .inr (inB_iff.2 ⟨j, hj, by omega⟩)
  · rintro ⟨i, hi, rfl, hp⟩
    unfold twB at hp
    rw [Bool.or_eq_true] at hp
    rcases hp with hp | hp
    · exact .inl (inB_iff.1 hp)
    · exact .inr (inB_iff.1 hp)
theorem both_length {n m Q : Nat} {R S : Nat → Int} (hR : rsB n R = true) (hS : rsB m S = true) (hr : ∀ i, i < n → 0 ≤ R i ∧ R i < (Q : Int)) (hs : ∀ i, i < m → 0 ≤ S i ∧ S i < (Q : Int)) (h : apB n R m S = true) :
    n + m = cnt (twB n R m S) Q := by
  have := congrArg List.length (both_sorted hR hS hr hs h)
  rw [sort_length, List.length_append, lsI_length, lsI_length, lsI_length] at this
  exact this
/-- The map of all rows from 0 to k - 1. -/
def allD (H : Type) : Nat → DataW H
  | 0 => .map []
  | k + 1 => (allD H k).put (.int .i64 (k : Int)) (.agg [])
/-- .. without the first j rows of a list. -/
def lessD (H : Type) (Q : Nat) (R : Nat → Int) : Nat → DataW H
  | 0 => allD H Q
  | j + 1 => (lessD H Q R j).del (.int .i64 (R j))
theorem key_lit {x : Int} (_h : 0 ≤ x ∧ x < 10000) : WideAt.IsKeyLit (.int .i64 x) := by
  first
  | trivial
  | exact rfl
  | simp [WideAt.IsKeyLit]
theorem allD_tidy (H : Type) : ∀ k, k ≤ 300 → Tidy (allD H k)
  | 0, _ => tidy_empty
  | k + 1, h => (allD_tidy H k (by omega)).put (key_lit ⟨by omega, by omega⟩) _
theorem allD_has (H : Type) (x : Int) : ∀ k, k ≤ 300 → has (allD H k) (.int .i64 x) = decide (0 ≤ x ∧ x < (k : Int))
  | 0, _ => by
    show has (.map []) _ = _
    rw [decide_eq_false (by omega)]; rfl
  | k + 1, h => by
    show has ((allD H k).put _ _) _ = _
    by_cases e : x = (k : Int)
    · subst e
      rw [has_put_same (allD_tidy H k (by omega)).isMap (key_lit ⟨by omega, by omega⟩), decide_eq_true (by omega)]
    · rw [has_put_other (by intro h; injection h with _ h2; exact e h2), allD_has H x k (by omega)]
      exact decide_eq_decide.2 (by omega)
theorem lessD_tidy (H : Type) (Q : Nat) (hQ : Q ≤ 300) (R : Nat → Int) : ∀ j, Tidy (lessD H Q R j)
  | 0 => allD_tidy H Q hQ
  | j + 1 => (lessD_tidy H Q hQ R j).del _
theorem lessD_has (H : Type) (Q : Nat) (hQ : Q ≤ 300) (R : Nat → Int) (x : Int) : ∀ j, has (lessD H Q R j) (.int .i64 x) = true ↔ ((0 ≤ x ∧ x < (Q : Int)) ∧ ∀ i, i < j → R i ≠ x)
  | 0 => by
    show has (allD H Q) _ = true ↔ _
    rw [allD_has H x Q hQ, decide_eq_true_eq]
    exact ⟨fun h => ⟨h, fun i hi => absurd hi (Nat.not_lt_zero _)⟩, fun h => h.1⟩
  | j + 1 => by
    show has ((lessD H Q R j).del _) _ = true ↔ _
    by_cases e : x = R j
    · subst e
      rw [has_del_same]
      constructor
      · intro h; cases h
      · rintro ⟨_, h⟩; exact absurd rfl (h j (by omega))
    · rw [has_del_other (by intro h; injection h with _ h2; exact e h2), lessD_has H Q hQ R x j]
      constructor
      · rintro ⟨h1, h2⟩
        refine ⟨h1, fun i hi => ?_⟩
        by_cases g : i = j
        · subst g; exact fun h => e h.symm
        · exact h2 i (by omega)
      · rintro ⟨h1, h2⟩; exact ⟨h1, fun i hi => h2 i (by omega)⟩
theorem insert_mem {H : Type} {x p : Lit × DataW H} : ∀ {l : List (Lit × DataW H)}, p ∈ DataW.insert x l → p = x ∨ p ∈ l := by
  intro l h
  have := (insert_perm x l).mem_iff.1 h
  simpa using this
/-- All keys are numbers. -/
def NumK {H : Type} (D : DataW H) : Prop := ∃ es, D = .map es ∧ ∀ p ∈ es, ∃ x, p.1 = .int .i64 x
theorem allD_num (H : Type) : ∀ k, NumK (allD H k)
  | 0 => ⟨[], rfl, fun p hp => by cases hp⟩
  | k + 1 => by
    obtain ⟨es, e, h⟩ := allD_num H k
    refine ⟨_, by show (allD H k).put _ _ = _; rw [e]; rfl, fun p hp => ?_⟩
    rcases insert_mem hp with rfl | hp
    · exact ⟨_, rfl⟩
    · exact h p (List.mem_filter.1 hp).1
theorem lessD_num (H : Type) (Q : Nat) (R : Nat → Int) : ∀ j, NumK (lessD H Q R j)
  | 0 => allD_num H Q
  | j + 1 => by
    obtain ⟨es, e, h⟩ := lessD_num H Q R j
    refine ⟨_, by show (lessD H Q R j).del _ = _; rw [e]; rfl, fun p hp => h p (List.mem_filter.1 hp).1⟩
/-- The keys that are left, sorted: the rows that are not used. -/
theorem free_sorted (H : Type) {Q n : Nat} (hQ : Q ≤ 300) (R : Nat → Int) {ss : List Int} (hp : ss.Perm (intKeys (lessD H Q R n))) :
    ss.mergeSort leI = lsI (cnt (nfB n R) Q) (sel (nfB n R) Q) := by
  have hL := lsI_sorted (sel_rise (nfB n R) Q)
  obtain ⟨es, e, hk⟩ := lessD_num H Q R n
  obtain ⟨es', e', ht⟩ := lessD_tidy H Q hQ R n
  obtain rfl : es = es' := by rw [e] at e'; injection e'
  have hq := perm_intKeys ht hk (ss := lsI (cnt (nfB n R) Q) (sel (nfB n R) Q)) (nodup_lt hL) fun x => by
    rw [← e, lessD_has H Q hQ R x n, sel_mem]
    constructor
    · rintro ⟨i, hi, rfl, hp⟩
      refine ⟨⟨by omega, by omega⟩, ?_⟩
      have : inB n R i = false := by unfold nfB at hp; simpa using hp
      exact inB_no.1 this
    · rintro ⟨⟨h1, h2⟩, h3⟩
      refine ⟨x.toNat, by omega, by omega, ?_⟩
      have : inB n R x.toNat = false := inB_no.2 fun j hj e => h3 j hj (by omega)
      unfold nfB; rw [this]; rfl
  rw [← e] at hq
  rw [mergeSort_of_perm_i (hp.trans hq.symm)]
  exact List.mergeSort_of_pairwise (hL.imp fun h => by simp only [leI, decide_eq_true_eq]; omega)
end Go.Proofs.Ytmncbeabhicbhaa
