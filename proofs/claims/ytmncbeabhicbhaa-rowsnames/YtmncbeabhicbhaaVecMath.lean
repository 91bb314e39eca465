/- Vectors of versions as plain functions: which may be, the last version, what is bumped, joined, unlike. -/
import Derived.Test.YtmncbeabhicbhaaLayMath
namespace Go.Proofs.Ytmncbeabhicbhaa

def verB (v : Int) : Bool := decide (1 ≤ v ∧ v ≤ 1073741824)
def vok (N n : Nat) (R : Nat → Int) : Bool := decide (n = N ∧ ∀ i, i < n → 1 ≤ R i ∧ R i ≤ 1073741824)
/-- Check's error, where x is the parameters' one. -/
def erV (x : Int) (N n : Nat) (R : Nat → Int) : Int := if x = 0 then (if vok N n R = true then 0 else 70) else x
def erA (x v : Int) : Int := if x = 0 then (if verB v = true then 0 else 70) else x
/-- The first error of two vectors. -/
def er2 (x : Int) (N n : Nat) (R : Nat → Int) (m : Nat) (S : Nat → Int) : Int := if erV x N n R = 0 then erV x N m S else erV x N n R
def celB (n m : Nat) (C : Nat → Int) : Bool := decide (∀ j, j < m → 0 ≤ C j ∧ C j < (n : Int))
/-- Bump's error. -/
def erB (x : Int) (N n : Nat) (R : Nat → Int) (m : Nat) (C : Nat → Int) (v : Int) : Int :=
  if erV x N n R = 0 then (if n < m then 20 else if celB n m C = true then (if verB v = true then 0 else 70) else 2) else erV x N n R
def lenE (e : Int) (n : Nat) : Nat := if e = 0 then n else 0
def gr (a b : Int) : Int := if a < b then b else a
def mx (R : Nat → Int) : Nat → Int
  | 0 => 0
  | k + 1 => gr (mx R k) (R k)
def bmp (C : Nat → Int) (v : Int) (R : Nat → Int) : Nat → Nat → Int
  | 0, i => R i
  | k + 1, i => if C k = (i : Int) then v else bmp C v R k i
def joi (A B : Nat → Int) : Nat → Int := fun i => gr (A i) (B i)
def leB (n : Nat) (A B : Nat → Int) : Bool := decide (∀ i, i < n → A i ≤ B i)
def sameB (n m : Nat) (A B : Nat → Int) : Bool := decide (n = m ∧ ∀ i, i < n → A i = B i)
def dif (A B : Nat → Int) (i : Nat) : Bool := decide (A i ≠ B i)
def anyB (n : Nat) (P : Nat → Bool) : Bool := !decide (∀ i, i < n → P i = false)
/-- How many of the first k are marked; the t-th of them. -/
def cnt (P : Nat → Bool) : Nat → Nat
  | 0 => 0
  | k + 1 => if P k = true then cnt P k + 1 else cnt P k
def sel (P : Nat → Bool) : Nat → Nat → Int
  | 0, _ => 0
  | k + 1, t => if P k = true then (if t = cnt P k then (k : Int) else sel P k t) else sel P k t
def put {α : Type} (i : Nat) (v : α) (R : Nat → α) : Nat → α := fun j => if j = i then v else R j
theorem put_at {α : Type} (i : Nat) (v : α) (R : Nat → α) : put i v R i = v := if_pos rfl
theorem put_ne {α : Type} {i j : Nat} (v : α) (R : Nat → α) (h : j ≠ i) : put i v R j = R j := if_neg h

theorem erV_of {x : Int} {N n : Nat} {R : Nat → Int} (h : erV x N n R = 0) : x = 0 ∧ n = N ∧ ∀ i, i < n → 1 ≤ R i ∧ R i ≤ 1073741824 := by
  unfold erV at h
  by_cases hx : x = 0
  · rw [if_pos hx] at h
    by_cases hv : vok N n R = true
    · exact ⟨hx, of_decide_eq_true hv⟩
    · rw [if_neg hv] at h; cases h
  · rw [if_neg hx] at h; exact absurd h hx
theorem erV_ok {N n : Nat} {R : Nat → Int} (h : n = N) (h1 : ∀ i, i < n → 1 ≤ R i ∧ R i ≤ 1073741824) : erV 0 N n R = 0 := by
  unfold erV; rw [if_pos rfl, if_pos (show vok N n R = true from decide_eq_true ⟨h, h1⟩)]
theorem erV_x {x : Int} {N n : Nat} {R : Nat → Int} (h : x ≠ 0) : erV x N n R = x := by unfold erV; rw [if_neg h]
theorem erV_70 {N n : Nat} {R : Nat → Int} (h : ¬ (n = N ∧ ∀ i, i < n → 1 ≤ R i ∧ R i ≤ 1073741824)) : erV 0 N n R = 70 := by
  unfold erV; rw [if_pos rfl, if_neg (show ¬ vok N n R = true from fun e => h (of_decide_eq_true e))]
theorem erV_congr {x : Int} {N n : Nat} {R S : Nat → Int} (h : ∀ i, i < n → R i = S i) : erV x N n R = erV x N n S := by
  have e : vok N n R = vok N n S := by
    unfold vok
    apply decide_eq_decide.2
    constructor
    · rintro ⟨h1, h2⟩; exact ⟨h1, fun i hi => by rw [← h i hi]; exact h2 i hi⟩
    · rintro ⟨h1, h2⟩; exact ⟨h1, fun i hi => by rw [h i hi]; exact h2 i hi⟩
  unfold erV; rw [e]
theorem er2_of {x : Int} {N n m : Nat} {R S : Nat → Int} (h : er2 x N n R m S = 0) : erV x N n R = 0 ∧ erV x N m S = 0 := by
  unfold er2 at h
  by_cases hx : erV x N n R = 0
  · rw [if_pos hx] at h; exact ⟨hx, h⟩
  · rw [if_neg hx] at h; exact absurd h hx
theorem er2_ok {x : Int} {N n m : Nat} {R S : Nat → Int} (h : erV x N n R = 0) (h' : erV x N m S = 0) : er2 x N n R m S = 0 := by
  unfold er2; rw [if_pos h]; exact h'
theorem erB_of {x : Int} {N n m : Nat} {R C : Nat → Int} {v : Int} (h : erB x N n R m C v = 0) : erV x N n R = 0 ∧ m ≤ n ∧ (∀ j, j < m → 0 ≤ C j ∧ C j < (n : Int)) ∧ 1 ≤ v ∧ v ≤ 1073741824 := by
  unfold erB at h
  by_cases hx : erV x N n R = 0
  · rw [if_pos hx] at h
    by_cases h1 : n < m
    · rw [if_pos h1] at h; cases h
    · rw [if_neg h1] at h
      by_cases h2 : celB n m C = true
      · rw [if_pos h2] at h
        by_cases h3 : verB v = true
        · have := of_decide_eq_true h3
          exact ⟨hx, by omega, of_decide_eq_true h2, this.1, this.2⟩
        · rw [if_neg h3] at h; cases h
      · rw [if_neg h2] at h; cases h
  · rw [if_neg hx] at h; exact absurd h hx
theorem erB_ok {x : Int} {N n m : Nat} {R C : Nat → Int} {v : Int} (hx : erV x N n R = 0) (h1 : m ≤ n) (h2 : ∀ j, j < m → 0 ≤ C j ∧ C j < (n : Int)) (h3 : 1 ≤ v ∧ v ≤ 1073741824) : erB x N n R m C v = 0 := by
  unfold erB; rw [if_pos hx, if_neg (by omega), if_pos (show celB n m C = true from decide_eq_true h2), if_pos (show verB v = true from decide_eq_true h3)]
theorem lenE_zero (n : Nat) : lenE 0 n = n := if_pos rfl
theorem lenE_ne {e : Int} (n : Nat) (h : e ≠ 0) : lenE e n = 0 := if_neg h
theorem gr_comm (a b : Int) : gr a b = gr b a := by unfold gr; split <;> split <;> omega
theorem gr_assoc (a b c : Int) : gr (gr a b) c = gr a (gr b c) := by unfold gr; repeat' split
                                                                     all_goals omega
theorem gr_self (a : Int) : gr a a = a := by unfold gr; split <;> omega
theorem gr_left (a b : Int) : a ≤ gr a b := by unfold gr; split <;> omega
theorem gr_right (a b : Int) : b ≤ gr a b := by unfold gr; split <;> omega
theorem gr_le {a b c : Int} : gr a b ≤ c ↔ a ≤ c ∧ b ≤ c := by unfold gr; split <;> omega
theorem gr_bound {a b : Int} (h : 1 ≤ a ∧ a ≤ 1073741824) (h' : 1 ≤ b ∧ b ≤ 1073741824) : 1 ≤ gr a b ∧ gr a b ≤ 1073741824 := by unfold gr; split <;> omega
theorem mx_le {R : Nat → Int} {n : Nat} : ∀ i, i < n → R i ≤ mx R n := by
  induction n with
  | zero => intro i hi; omega
  | succ k ih =>
    intro i hi
    show R i ≤ gr (mx R k) (R k)
    by_cases e : i = k
    · subst e; exact gr_right _ _
    · have := ih i (by omega)
      have := gr_left (mx R k) (R k)
      omega
theorem mx_top {R : Nat → Int} {n : Nat} {t : Int} (h0 : 0 ≤ t) (h : ∀ i, i < n → R i ≤ t) : mx R n ≤ t := by
  induction n with
  | zero => exact h0
  | succ k ih => exact gr_le.2 ⟨ih fun i hi => h i (by omega), h k (by omega)⟩
theorem mx_nonneg (R : Nat → Int) (n : Nat) : 0 ≤ mx R n := by
  induction n with
  | zero => exact Int.le_refl 0
  | succ k ih =>
    have := gr_left (mx R k) (R k)
    exact Int.le_trans ih this
theorem mx_one {R : Nat → Int} (h : 1 ≤ R 0) : mx R 1 = R 0 := by
  show gr 0 (R 0) = R 0
  unfold gr; rw [if_pos (by omega)]
theorem bmp_hit {C : Nat → Int} {v : Int} {R : Nat → Int} {m i : Nat} (h : ∃ j, j < m ∧ C j = (i : Int)) : bmp C v R m i = v := by
  induction m with
  | zero => obtain ⟨j, hj, _⟩ := h; omega
  | succ k ih =>
    show (if C k = (i : Int) then v else bmp C v R k i) = v
    by_cases e : C k = (i : Int)
    · rw [if_pos e]
    · rw [if_neg e]
      obtain ⟨j, hj, hc⟩ := h
      exact ih ⟨j, by rcases Nat.lt_or_ge j k with g | g; exact g; obtain rfl : j = k := by omega
                      exact absurd hc e, hc⟩
theorem bmp_miss {C : Nat → Int} {v : Int} {R : Nat → Int} {m i : Nat} (h : ¬ ∃ j, j < m ∧ C j = (i : Int)) : bmp C v R m i = R i := by
  induction m with
  | zero => rfl
  | succ k ih =>
    show (if C k = (i : Int) then v else bmp C v R k i) = R i
    rw [if_neg (fun e => h ⟨k, by omega, e⟩)]
    exact ih fun ⟨j, hj, e⟩ => h ⟨j, by omega, e⟩
theorem cnt_le (P : Nat → Bool) (k : Nat) : cnt P k ≤ k := by
  induction k with
  | zero => exact Nat.le_refl 0
  | succ k ih => show (if P k = true then cnt P k + 1 else cnt P k) ≤ k + 1; split <;> omega
theorem cnt_yes {P : Nat → Bool} {k : Nat} (h : P k = true) : cnt P (k + 1) = cnt P k + 1 := if_pos h
theorem cnt_no {P : Nat → Bool} {k : Nat} (h : P k = false) : cnt P (k + 1) = cnt P k := if_neg (by rw [h]; decide)
theorem sel_yes {P : Nat → Bool} {k : Nat} (h : P k = true) : sel P (k + 1) = put (cnt P k) (k : Int) (sel P k) := by
  funext t; show (if P k = true then (if t = cnt P k then (k : Int) else sel P k t) else sel P k t) = _; rw [if_pos h]; rfl
theorem sel_no {P : Nat → Bool} {k : Nat} (h : P k = false) : sel P (k + 1) = sel P k := by
  funext t; show (if P k = true then (if t = cnt P k then (k : Int) else sel P k t) else sel P k t) = _; rw [if_neg (by rw [h]; decide)]
theorem cnt_mono (P : Nat → Bool) {a b : Nat} (h : a ≤ b) : cnt P a ≤ cnt P b := by
  induction b with
  | zero => obtain rfl : a = 0 := by omega
            exact Nat.le_refl _
  | succ b ih =>
    by_cases e : a = b + 1
    · subst e; exact Nat.le_refl _
    · have := ih (by omega)
      show _ ≤ (if P b = true then cnt P b + 1 else cnt P b)
      split <;> omega
/-- The t-th marked number is marked, and t are marked below it. -/
theorem sel_spec (P : Nat → Bool) (k : Nat) : ∀ t, t < cnt P k → ∃ i : Nat, i < k ∧ sel P k t = (i : Int) ∧ P i = true ∧ cnt P i = t := by
  induction k with
  | zero => intro t ht; exact absurd ht (Nat.not_lt_zero t)
  | succ k ih =>
    intro t ht
    cases h : P k
    · rw [cnt_no h] at ht
      obtain ⟨i, h1, h2, h3⟩ := ih t ht
      exact ⟨i, by omega, by rw [sel_no h]; exact h2, h3⟩
    · rw [cnt_yes h] at ht
      rw [sel_yes h]
      by_cases e : t = cnt P k
      · subst e; exact ⟨k, by omega, put_at _ _ _, h, rfl⟩
      · obtain ⟨i, h1, h2, h3⟩ := ih t (by omega)
        exact ⟨i, by omega, by rw [put_ne _ _ e]; exact h2, h3⟩
theorem sel_at (P : Nat → Bool) (k : Nat) : ∀ i, i < k → P i = true → cnt P i < cnt P k ∧ sel P k (cnt P i) = (i : Int) := by
  induction k with
  | zero => intro i hi; omega
  | succ k ih =>
    intro i hi hp
    by_cases e : i = k
    · subst e; rw [cnt_yes hp, sel_yes hp]; exact ⟨by omega, put_at _ _ _⟩
    · obtain ⟨h1, h2⟩ := ih i (by omega) hp
      cases h : P k
      · rw [cnt_no h, sel_no h]; exact ⟨h1, h2⟩
      · rw [cnt_yes h, sel_yes h]; exact ⟨by omega, by rw [put_ne _ _ (by omega)]; exact h2⟩
theorem cnt_congr {P Q : Nat → Bool} {n : Nat} (h : ∀ i, i < n → P i = Q i) : cnt P n = cnt Q n := by
  induction n with
  | zero => rfl
  | succ k ih => show (if P k = true then cnt P k + 1 else cnt P k) = (if Q k = true then cnt Q k + 1 else cnt Q k); rw [h k (by omega), ih fun i hi => h i (by omega)]
theorem sel_congr {P Q : Nat → Bool} {n : Nat} (h : ∀ i, i < n → P i = Q i) : sel P n = sel Q n := by
  induction n with
  | zero => rfl
  | succ k ih =>
    have e := ih fun i hi => h i (by omega)
    have e2 := cnt_congr (P := P) (Q := Q) fun i (hi : i < k) => h i (by omega)
    cases hp : P k
    · rw [sel_no hp, sel_no (by rw [← h k (by omega)]; exact hp), e]
    · rw [sel_yes hp, sel_yes (by rw [← h k (by omega)]; exact hp), e, e2]
theorem leB_congr {n : Nat} {A B A' B' : Nat → Int} (h : ∀ i, i < n → A i = A' i) (h' : ∀ i, i < n → B i = B' i) : leB n A B = leB n A' B' := by
  unfold leB
  apply decide_eq_decide.2
  constructor
  · intro k i hi; rw [← h i hi, ← h' i hi]; exact k i hi
  · intro k i hi; rw [h i hi, h' i hi]; exact k i hi
theorem first_bad {p : Nat → Prop} : ∀ i, ¬ p i → ∃ k, k ≤ i ∧ ¬ p k ∧ ∀ j, j < k → p j := by
  intro i
  induction i using Nat.strongRecOn with
  | ind i ih =>
    intro hi
    by_cases h : ∀ j, j < i → p j
    · exact ⟨i, Nat.le_refl _, hi, h⟩
    · obtain ⟨j, hj⟩ := Classical.not_forall.1 h
      obtain ⟨h1, h2⟩ := Classical.not_imp.1 hj
      obtain ⟨k, h3, h4⟩ := ih j h1 h2
      exact ⟨k, by omega, h4⟩
theorem first_not {p : Nat → Prop} {n : Nat} (h : ¬ ∀ i, i < n → p i) : ∃ q, q < n ∧ ¬ p q ∧ ∀ i, i < q → p i := by
  obtain ⟨i, hi⟩ := Classical.not_forall.1 h
  obtain ⟨p1, p2⟩ := Classical.not_imp.1 hi
  obtain ⟨k, hk, p3, p4⟩ := first_bad (p := p) i p2
  exact ⟨k, by omega, p3, p4⟩
end Go.Proofs.Ytmncbeabhicbhaa
