/- Which versions drives hold, as lists of numbers; which of them count. -/
import Derived.Test.YtmlnbnbgkpbjeaaSlMath
namespace Go.Proofs.Ytmlnbnbgkpbjeaa

/-- The numbers below n that are marked. -/
def dl (p : Nat → Bool) : Nat → List Int
  | 0 => []
  | n + 1 => if p n = true then dl p n ++ [(n : Int)] else dl p n
theorem dl_congr {p q : Nat → Bool} : ∀ {n : Nat}, (∀ i, i < n → p i = q i) → dl p n = dl q n
  | 0, _ => rfl
  | n + 1, h => by rw [dl, dl, dl_congr (n := n) (fun i hi => h i (by omega)), h n (by omega)]
theorem mem_dl {p : Nat → Bool} {x : Int} : ∀ {n : Nat}, x ∈ dl p n ↔ ∃ i : Nat, i < n ∧ p i = true ∧ x = (i : Int)
  | 0 => ⟨fun h => absurd h (by simp [dl]), fun ⟨i, h, _⟩ => absurd h (by omega)⟩
  | n + 1 => by
    rw [dl]
    by_cases h : p n = true
    · rw [if_pos h, List.mem_append, mem_dl (n := n)]
      constructor
      · rintro (⟨i, h1, h2, h3⟩ | h1)
        · exact ⟨i, by omega, h2, h3⟩
        · exact ⟨n, by omega, h, by simpa using h1⟩
      · rintro ⟨i, h1, h2, h3⟩
        by_cases e : i = n
        · exact .inr (by rw [h3, e]; simp)
        · exact .inl ⟨i, by omega, h2, h3⟩
    · rw [if_neg h, mem_dl (n := n)]
      constructor
      · rintro ⟨i, h1, h2, h3⟩; exact ⟨i, by omega, h2, h3⟩
      · rintro ⟨i, h1, h2, h3⟩
        by_cases e : i = n
        · rw [e] at h2; exact absurd h2 h
        · exact ⟨i, by omega, h2, h3⟩
theorem dl_rise (p : Nat → Bool) : ∀ n : Nat, (dl p n).Pairwise (fun a b => a < b)
  | 0 => List.Pairwise.nil
  | n + 1 => by
    rw [dl]
    split
    · refine List.pairwise_append.2 ⟨dl_rise p n, List.pairwise_singleton _ _, fun a ha b hb => ?_⟩
      obtain ⟨i, h1, _, rfl⟩ := mem_dl.1 ha
      obtain rfl : b = (n : Int) := by simpa using hb
      omega
    · exact dl_rise p n
theorem dl_both (p : Nat → Bool) : ∀ n : Nat, (dl p n).length + (dl (fun i => !p i) n).length = n
  | 0 => rfl
  | n + 1 => by
    have := dl_both p n
    rw [dl, dl]
    cases h : p n
    · simp; omega
    · simp; omega
theorem dl_few (p : Nat → Bool) (n : Nat) : (dl p n).length ≤ n := by have := dl_both p n; omega
theorem dl_sub {p q : Nat → Bool} : ∀ {n : Nat}, (∀ i, i < n → p i = true → q i = true) → (dl p n).length ≤ (dl q n).length
  | 0, _ => Nat.le_refl _
  | n + 1, h => by
    have ih := dl_sub (n := n) (fun i hi => h i (by omega))
    rw [dl, dl]
    by_cases hp : p n = true
    · rw [if_pos hp, if_pos (h n (by omega) hp)]; simp; omega
    · rw [if_neg hp]
      split
      · simp; omega
      · exact ih
theorem dl_empty {p : Nat → Bool} {n : Nat} (h : ∀ i, i < n → p i = false) : dl p n = [] := by
  apply List.eq_nil_iff_forall_not_mem.2
  intro x hx
  obtain ⟨i, h1, h2, _⟩ := mem_dl.1 hx
  rw [h i h1] at h2
  cases h2
theorem dl_nil {p : Nat → Bool} {n : Nat} (h : (dl p n).length = 0) {i : Nat} (hi : i < n) : p i = false := by
  cases hp : p i
  · rfl
  · have hm : ((i : Nat) : Int) ∈ dl p n := mem_dl.2 ⟨i, hi, hp, rfl⟩
    rw [List.length_eq_zero_iff.1 h] at hm
    cases hm
/-- Does drive d, whose slots have P d and Q d, hold v? -/
def hbv (P Q : Nat → Int) (v : Int) (d : Nat) : Bool := decide (P d = v ∨ Q d = v)
/-- The drives that hold it; how many. -/
def dv (P Q : Nat → Int) (n : Nat) (v : Int) : List Int := dl (hbv P Q v) n
def ct (P Q : Nat → Int) (n : Nat) (v : Int) : Nat := (dv P Q n v).length
/-- A number put into a falling list. -/
def insD (x : Int) : List Int → List Int
  | [] => [x]
  | y :: l => if y < x then x :: y :: l else if x = y then y :: l else y :: insD x l
theorem mem_insD {x z : Int} : ∀ {l : List Int}, z ∈ insD x l ↔ z = x ∨ z ∈ l
  | [] => by simp [insD]
  | y :: l => by
    rw [insD]
    by_cases h : y < x
    · rw [if_pos h]; simp
    · rw [if_neg h]
      by_cases e : x = y
      · rw [if_pos e]; simp [e]
      · rw [if_neg e, List.mem_cons, mem_insD (l := l), List.mem_cons]
        constructor
        · rintro (h1 | h1 | h1); exact .inr (.inl h1); exact .inl h1; exact .inr (.inr h1)
        · rintro (h1 | h1 | h1); exact .inr (.inl h1); exact .inl h1; exact .inr (.inr h1)
theorem fall_insD {x : Int} : ∀ {l : List Int}, l.Pairwise (fun a b => b < a) → (insD x l).Pairwise (fun a b => b < a)
  | [], _ => List.pairwise_singleton _ _
  | y :: l, h => by
    rw [insD]
    obtain ⟨h1, h2⟩ := List.pairwise_cons.1 h
    by_cases g : y < x
    · rw [if_pos g]
      refine List.pairwise_cons.2 ⟨fun a ha => ?_, h⟩
      rcases List.mem_cons.1 ha with rfl | ha
      · exact g
      · have := h1 a ha; omega
    · rw [if_neg g]
      by_cases e : x = y
      · rw [if_pos e]; exact h
      · rw [if_neg e]
        refine List.pairwise_cons.2 ⟨fun a ha => ?_, fall_insD h2⟩
        rcases mem_insD.1 ha with rfl | ha
        · omega
        · exact h1 a ha
/-- The versions that are held, falling. -/
def tvL (P Q : Nat → Int) : Nat → List Int
  | 0 => []
  | n + 1 =>
    let l := if P n = 0 then tvL P Q n else insD (P n) (tvL P Q n)
    if Q n = 0 then l else insD (Q n) l
theorem tvL_fall (P Q : Nat → Int) : ∀ n : Nat, (tvL P Q n).Pairwise (fun a b => b < a)
  | 0 => List.Pairwise.nil
  | n + 1 => by
    have ih := tvL_fall P Q n
    rw [tvL]
    split <;> split
    · exact ih
    · exact fall_insD ih
    · exact fall_insD ih
    · exact fall_insD (fall_insD ih)
theorem mem_tvL {P Q : Nat → Int} {v : Int} : ∀ {n : Nat}, v ∈ tvL P Q n ↔ v ≠ 0 ∧ ∃ d, d < n ∧ (P d = v ∨ Q d = v)
  | 0 => ⟨fun h => absurd h (by simp [tvL]), fun ⟨_, d, h, _⟩ => absurd h (by omega)⟩
  | n + 1 => by
    have ih := mem_tvL (P := P) (Q := Q) (v := v) (n := n)
    have key : v ∈ tvL P Q (n + 1) ↔ v ∈ tvL P Q n ∨ (v ≠ 0 ∧ (P n = v ∨ Q n = v)) := by
      rw [tvL]
      by_cases a : P n = 0 <;> by_cases b : Q n = 0
      · rw [if_pos b, if_pos a]
        constructor
        · exact .inl
        · rintro (h | ⟨h, h2 | h2⟩)
          · exact h
          · omega
          · omega
      · rw [if_neg b, if_pos a, mem_insD]
        constructor
        · rintro (h | h); exact .inr ⟨by omega, .inr h.symm⟩; exact .inl h
        · rintro (h | ⟨h, h2 | h2⟩)
          · exact .inr h
          · omega
          · exact .inl h2.symm
      · rw [if_pos b, if_neg a, mem_insD]
        constructor
        · rintro (h | h); exact .inr ⟨by omega, .inl h.symm⟩; exact .inl h
        · rintro (h | ⟨h, h2 | h2⟩)
          · exact .inr h
          · exact .inl h2.symm
          · omega
      · rw [if_neg b, if_neg a, mem_insD, mem_insD]
        constructor
        · rintro (h | h | h); exact .inr ⟨by omega, .inr h.symm⟩; exact .inr ⟨by omega, .inl h.symm⟩; exact .inl h
        · rintro (h | ⟨h, h2 | h2⟩)
          · exact .inr (.inr h)
          · exact .inr (.inl h2.symm)
          · exact .inl h2.symm
    rw [key, ih]
    constructor
    · rintro (⟨h, d, h1, h2⟩ | ⟨h, h2⟩)
      · exact ⟨h, d, by omega, h2⟩
      · exact ⟨h, n, by omega, h2⟩
    · rintro ⟨h, d, h1, h2⟩
      by_cases e : d = n
      · exact .inr ⟨h, by rw [← e]; exact h2⟩
      · exact .inl ⟨h, d, by omega, h2⟩
theorem mem_tv {P Q : Nat → Int} {v : Int} {n : Nat} : v ∈ tvL P Q n ↔ v ≠ 0 ∧ dv P Q n v ≠ [] := by
  rw [mem_tvL]
  refine and_congr_right fun _ => ?_
  constructor
  · rintro ⟨d, h1, h2⟩ e
    have hm : ((d : Nat) : Int) ∈ dv P Q n v := mem_dl.2 ⟨d, h1, decide_eq_true h2, rfl⟩
    rw [e] at hm; cases hm
  · intro e
    obtain ⟨x, hx⟩ := List.exists_mem_of_ne_nil _ e
    obtain ⟨d, h1, h2, _⟩ := mem_dl.1 hx
    exact ⟨d, h1, of_decide_eq_true h2⟩
/-- Two falling lists of the same numbers are one. -/
theorem fall_eq : ∀ {l m : List Int}, l.Pairwise (fun a b => b < a) → m.Pairwise (fun a b => b < a) → (∀ v, v ∈ l ↔ v ∈ m) → l = m
  | [], [], _, _, _ => rfl
  | [], b :: m, _, _, h => absurd ((h b).2 (by simp)) (by simp)
  | a :: l, [], _, _, h => absurd ((h a).1 (by simp)) (by simp)
  | a :: l, b :: m, h1, h2, h => by
    obtain ⟨p1, p2⟩ := List.pairwise_cons.1 h1
    obtain ⟨q1, q2⟩ := List.pairwise_cons.1 h2
    have e : a = b := by
      rcases List.mem_cons.1 ((h a).1 (by simp)) with e | e
      · exact e
      · rcases List.mem_cons.1 ((h b).2 (by simp)) with e2 | e2
        · exact e2.symm
        · have := q1 a e; have := p1 b e2; omega
    subst e
    rw [fall_eq p2 q2 (fun v => ?_)]
    constructor
    · intro hv
      rcases List.mem_cons.1 ((h v).1 (List.mem_cons_of_mem _ hv)) with e | e
      · have := p1 v hv; omega
      · exact e
    · intro hv
      rcases List.mem_cons.1 ((h v).2 (List.mem_cons_of_mem _ hv)) with e | e
      · have := q1 v hv; omega
      · exact e
theorem tvL_few (P Q : Nat → Int) : ∀ n : Nat, (tvL P Q n).length ≤ 2 * n := by
  have hi : ∀ (x : Int) (l : List Int), (insD x l).length ≤ l.length + 1 := by
    intro x l
    induction l with
    | nil => simp [insD]
    | cons y l ih =>
      rw [insD]
      split
      · simp
      · split
        · simp
        · simp; omega
  intro n
  induction n with
  | zero => simp [tvL]
  | succ n ih =>
    rw [tvL]
    have h1 := hi (P n) (tvL P Q n)
    split <;> split
    · omega
    · omega
    · have h2 := hi (Q n) (tvL P Q n); omega
    · have h2 := hi (Q n) (insD (P n) (tvL P Q n)); omega
/-- All holders together. -/
def sm (f : Int → Nat) : List Int → Nat
  | [] => 0
  | x :: l => f x + sm f l
theorem sm_append (f : Int → Nat) : ∀ (l m : List Int), sm f (l ++ m) = sm f l + sm f m
  | [], m => by simp [sm]
  | x :: l, m => by rw [List.cons_append, sm, sm, sm_append f l m]; omega
theorem sm_add {f g h : Int → Nat} : ∀ {l : List Int}, (∀ x, x ∈ l → f x = g x + h x) → sm f l = sm g l + sm h l
  | [], _ => rfl
  | x :: l, e => by
    rw [sm, sm, sm, sm_add (fun y hy => e y (List.mem_cons_of_mem _ hy)), e x (by simp)]; omega
theorem sm_two (a b : Int) : ∀ {l : List Int}, l.Pairwise (fun x y => y < x) → sm (fun v => if a = v ∨ b = v then 1 else 0) l ≤ (if a ∈ l then 1 else 0) + (if b ∈ l then 1 else 0)
  | [], _ => by simp [sm]
  | x :: l, h => by
    obtain ⟨h1, h2⟩ := List.pairwise_cons.1 h
    have ih := sm_two a b h2
    rw [sm]
    have nx : ∀ z, z = x → ¬ z ∈ l := fun z e hz => by have := h1 z hz; omega
    by_cases ea : a = x <;> by_cases eb : b = x
    · have := nx a ea; have := nx b eb; simp [ea, eb] at *; simp [*] at *; omega
    · have hn := nx a ea
      rw [if_neg hn] at ih
      rw [if_pos (show a = x ∨ b = x from .inl ea), if_pos (show a ∈ x :: l by simp [ea])]
      by_cases hb : b ∈ l
      · rw [if_pos hb] at ih; rw [if_pos (List.mem_cons_of_mem _ hb)]; omega
      · rw [if_neg hb] at ih; omega
    · have hn := nx b eb
      rw [if_neg hn] at ih
      rw [if_pos (show a = x ∨ b = x from .inr eb), if_pos (show b ∈ x :: l by simp [eb])]
      by_cases ha : a ∈ l
      · rw [if_pos ha] at ih; rw [if_pos (List.mem_cons_of_mem _ ha)]; omega
      · rw [if_neg ha] at ih; omega
    · rw [if_neg (show ¬ (a = x ∨ b = x) from fun h => h.elim ea eb)]
      have e1 : (a ∈ x :: l) ↔ a ∈ l := by simp [ea]
      have e2 : (b ∈ x :: l) ↔ b ∈ l := by simp [eb]
      simp only [e1, e2]
      omega
theorem ct_sum (P Q : Nat → Int) {l : List Int} (h : l.Pairwise (fun x y => y < x)) : ∀ n : Nat, sm (ct P Q n) l ≤ 2 * n
  | 0 => by
    have : ∀ m : List Int, sm (ct P Q 0) m = 0 := fun m => by
      induction m with
      | nil => rfl
      | cons x m ih => rw [sm, ih]; rfl
    rw [this]; omega
  | n + 1 => by
    have ih := ct_sum P Q h n
    have h2 := sm_two (P n) (Q n) h
    rw [sm_add (f := ct P Q (n + 1)) (g := ct P Q n) (h := fun v => if P n = v ∨ Q n = v then 1 else 0)]
    · have : (if P n ∈ l then 1 else 0) + (if Q n ∈ l then 1 else 0) ≤ 2 := by split <;> split <;> omega
      omega
    · intro v _
      show (dl (hbv P Q v) (n + 1)).length = (dl (hbv P Q v) n).length + _
      rw [dl]
      by_cases e : P n = v ∨ Q n = v
      · rw [if_pos (show hbv P Q v n = true from decide_eq_true e), if_pos e]; simp
      · rw [if_neg (show ¬ hbv P Q v n = true from fun g => e (of_decide_eq_true g)), if_neg e]; rfl
/-- Those that enough drives hold; those ahead of the first of them. -/
def enB (K : Int) (P Q : Nat → Int) (n : Nat) (v : Int) : Bool := decide (K ≤ (ct P Q n v : Int))
def wins (K : Int) (P Q : Nat → Int) (n : Nat) : List Int := (tvL P Q n).filter (enB K P Q n)
def lost (K : Int) (P Q : Nat → Int) (n : Nat) : List Int := (tvL P Q n).takeWhile (fun v => !enB K P Q n v)
end Go.Proofs.Ytmlnbnbgkpbjeaa
