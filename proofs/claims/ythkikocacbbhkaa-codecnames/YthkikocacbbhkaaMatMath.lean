/- Plain mathematics of matrices over the field: sums, products, what row steps do, ranks, inverses, and why any k rows of the unit matrix and the parity rows can be undone. Nothing of the program is in it. -/
import Derived.Test.YthkikocacbbhkaaGfMath
namespace Go.Proofs.Ythkikocacbbhkaa

/-- An element of the field. -/
abbrev K := Fin 256
namespace K
def n (a : K) : Nat := a.val
theorem lt (a : K) : K.n a < 256 := a.isLt
theorem ext {a b : K} (h : a.n = b.n) : a = b := Fin.ext h
def of (n : Nat) : K := ⟨n % 256, Nat.mod_lt _ (by decide)⟩
theorem of_n (n : Nat) (h : n < 256) : (of n).n = n := Nat.mod_eq_of_lt h
def add (a b : K) : K := ⟨Gf.add a.n b.n, Gf.add_lt _ _ a.isLt b.isLt⟩
def mul (a b : K) : K := ⟨Gf.mul a.n b.n, Gf.mul_lt _ _ a.isLt⟩
def inv (a : K) : K := ⟨Gf.pw a.n 254, Gf.pw_lt _ _⟩
theorem zero_n : (0 : K).n = 0 := rfl
theorem one_n : (1 : K).n = 1 := rfl
theorem ne_zero {a : K} (h : a ≠ 0) : a.n ≠ 0 := fun e => h (ext e)
theorem eq_zero {a : K} (h : a.n = 0) : a = 0 := ext h
theorem one_ne_zero : (1 : K) ≠ 0 := fun h => absurd (congrArg K.n h) (by decide)
theorem add_comm (a b : K) : (K.add a b) = (K.add b a) := ext (Gf.add_comm _ _)
theorem add_assoc (a b c : K) : (K.add (K.add a b) c) = (K.add a ((K.add b c))) := ext (Gf.add_assoc _ _ _)
theorem add_zero (a : K) : (K.add a 0) = a := ext (Gf.add_zero _)
theorem zero_add (a : K) : (K.add 0 a) = a := by rw [add_comm, add_zero]
theorem add_self (a : K) : (K.add a a) = 0 := ext (Gf.add_self _)
theorem mul_comm (a b : K) : (K.mul a b) = (K.mul b a) := ext (Gf.mul_comm _ _ a.lt b.lt)
theorem mul_assoc (a b c : K) : (K.mul (K.mul a b) c) = (K.mul a ((K.mul b c))) := ext (Gf.mul_assoc _ _ _ a.lt b.lt c.lt)
theorem mul_one (a : K) : (K.mul a 1) = a := ext (Gf.mul_one _ a.lt)
theorem one_mul (a : K) : (K.mul 1 a) = a := by rw [mul_comm, mul_one]
theorem mul_zero (a : K) : (K.mul a 0) = 0 := ext (Gf.mul_zero _)
theorem zero_mul (a : K) : (K.mul 0 a) = 0 := by rw [mul_comm, mul_zero]
theorem mul_add (a b c : K) : (K.mul a ((K.add b c))) = (K.add (K.mul a b) (K.mul a c)) := ext (Gf.mul_add _ _ _)
theorem add_mul (a b c : K) : (K.mul ((K.add a b)) c) = (K.add (K.mul a c) (K.mul b c)) := by rw [mul_comm, mul_add, mul_comm c a, mul_comm c b]
theorem mul_inv {a : K} (h : a ≠ 0) : (K.mul a a.inv) = 1 := ext (Gf.mul_inv _ a.lt (ne_zero h))
theorem inv_mul {a : K} (h : a ≠ 0) : (K.mul a.inv a) = 1 := by rw [mul_comm, mul_inv h]
theorem mul_ne_zero {a b : K} (h : a ≠ 0) (g : b ≠ 0) : (K.mul a b) ≠ 0 := fun e => Gf.mul_ne_zero _ _ a.lt b.lt (ne_zero h) (ne_zero g) (congrArg K.n e)
theorem eq_zero_of_mul {a b : K} (h : (K.mul a b) = 0) (g : b ≠ 0) : a = 0 := Classical.byContradiction fun e => mul_ne_zero e g h
theorem inv_ne_zero {a : K} (h : a ≠ 0) : a.inv ≠ 0 := fun e => one_ne_zero (by rw [← mul_inv h, e, mul_zero])
theorem add_eq_zero {a b : K} (h : (K.add a b) = 0) : a = b := by
  have : (K.add (K.add a b) b) = (K.add 0 b) := by rw [h]
  rwa [add_assoc, add_self, add_zero, zero_add] at this
theorem sub_ne {a b : K} (h : a ≠ b) : (K.add a b) ≠ 0 := fun e => h (add_eq_zero e)
theorem aA : Std.Associative K.add := ⟨add_assoc⟩
theorem cA : Std.Commutative K.add := ⟨add_comm⟩
theorem aM : Std.Associative K.mul := ⟨mul_assoc⟩
theorem cM : Std.Commutative K.mul := ⟨mul_comm⟩
end K

abbrev M := Nat → Nat → K
def sum (n : Nat) (f : Nat → K) : K := match n with
  | 0 => 0
  | k + 1 => (K.add (sum k f) (f k))
theorem sum_succ (n : Nat) (f : Nat → K) : sum (n + 1) f = (K.add (sum n f) (f n)) := rfl
theorem sum_congr {n : Nat} {f g : Nat → K} (h : ∀ i, i < n → f i = g i) : sum n f = sum n g := by
  induction n with
  | zero => rfl
  | succ n ih => rw [sum_succ, sum_succ, ih (fun i hi => h i (by omega)), h n (by omega)]
theorem sum_zero {n : Nat} {f : Nat → K} (h : ∀ i, i < n → f i = 0) : sum n f = 0 := by
  induction n with
  | zero => rfl
  | succ n ih => rw [sum_succ, ih (fun i hi => h i (by omega)), h n (by omega), K.add_zero]
theorem sum_add (n : Nat) (f g : Nat → K) : sum n (fun i => (K.add (f i) (g i))) = (K.add (sum n f) (sum n g)) := by
  induction n with
  | zero => exact (K.add_zero 0).symm
  | succ n ih => rw [sum_succ, sum_succ, sum_succ, ih]; (have := K.aA; have := K.cA; have := K.aM; have := K.cM; ac_rfl)
theorem sum_mul (n : Nat) (c : K) (f : Nat → K) : sum n (fun i => (K.mul c (f i))) = (K.mul c (sum n f)) := by
  induction n with
  | zero => exact (K.mul_zero c).symm
  | succ n ih => rw [sum_succ, sum_succ, ih, K.mul_add]
theorem sum_mul' (n : Nat) (c : K) (f : Nat → K) : sum n (fun i => (K.mul (f i) c)) = (K.mul (sum n f) c) := by
  rw [K.mul_comm, ← sum_mul]; exact sum_congr fun i _ => K.mul_comm _ _
theorem sum_comm (n m : Nat) (f : Nat → Nat → K) : sum n (fun i => sum m (f i)) = sum m (fun j => sum n (fun i => f i j)) := by
  induction n with
  | zero => exact (sum_zero fun _ _ => rfl).symm
  | succ n ih => rw [sum_succ, ih, ← sum_add]; exact sum_congr fun _ _ => rfl
theorem sum_cut {b n : Nat} {f : Nat → K} (hb : b ≤ n) (h : ∀ i, b ≤ i → i < n → f i = 0) : sum n f = sum b f := by
  induction n with
  | zero => rw [show b = 0 by omega]
  | succ n ih =>
    by_cases e : b = n + 1
    · rw [e]
    · rw [sum_succ, h n (by omega) (by omega), K.add_zero, ih (by omega) (fun i h1 h2 => h i h1 (by omega))]
theorem sum_one {n k : Nat} {f : Nat → K} (hk : k < n) (h : ∀ i, i < n → i ≠ k → f i = 0) : sum n f = f k := by
  induction n with
  | zero => omega
  | succ n ih =>
    by_cases e : k = n
    · subst e; rw [sum_succ, sum_zero (fun i hi => h i (by omega) (by omega)), K.zero_add]
    · rw [sum_succ, h n (by omega) (by omega), K.add_zero, ih (by omega) (fun i hi hne => h i (by omega) hne)]

/-- The product, n numbers between. -/
def mm (n : Nat) (A B : M) : M := fun i j => sum n fun l => (K.mul (A i l) (B l j))
def one : M := fun i j => if i = j then 1 else 0
def turn (A : M) : M := fun i j => A j i
theorem one_self (i : Nat) : one i i = 1 := if_pos rfl
theorem one_ne {i j : Nat} (h : i ≠ j) : one i j = 0 := if_neg h
theorem mm_congr {n : Nat} {A A' B B' : M} {i j : Nat} (h : ∀ l, l < n → A i l = A' i l) (g : ∀ l, l < n → B l j = B' l j) : mm n A B i j = mm n A' B' i j :=
  sum_congr fun l hl => by rw [h l hl, g l hl]
theorem mm_assoc (p q : Nat) (A B C : M) (i j : Nat) : mm p (mm q A B) C i j = mm q A (mm p B C) i j := by
  show sum p (fun l => (K.mul (sum q (fun k => (K.mul (A i k) (B k l)))) (C l j))) = sum q (fun k => (K.mul (A i k) (sum p (fun l => (K.mul (B k l) (C l j))))))
  rw [show (fun l => (K.mul (sum q (fun k => (K.mul (A i k) (B k l)))) (C l j))) = fun l => sum q (fun k => (K.mul (K.mul (A i k) (B k l)) (C l j))) from funext fun l => (sum_mul' q (C l j) _).symm]
  rw [sum_comm]
  exact sum_congr fun k _ => by rw [← sum_mul]; exact sum_congr fun l _ => K.mul_assoc _ _ _
theorem one_mm {n : Nat} {A : M} {i j : Nat} (hi : i < n) : mm n one A i j = A i j := by
  show sum n (fun l => (K.mul (one i l) (A l j))) = _
  rw [sum_one hi (fun l _ h => by rw [one_ne (Ne.symm h), K.zero_mul]), one_self, K.one_mul]
theorem mm_one {n : Nat} {A : M} {i j : Nat} (hj : j < n) : mm n A one i j = A i j := by
  show sum n (fun l => (K.mul (A i l) (one l j))) = _
  rw [sum_one hj (fun l _ h => by rw [one_ne h, K.mul_zero]), one_self, K.mul_one]
theorem turn_mm (n : Nat) (A B : M) (i j : Nat) : mm n (turn B) (turn A) i j = mm n A B j i := sum_congr fun _ _ => K.mul_comm _ _

/-- Row steps: two rows change places; the row b is multiplied by s and added, t i times, to each other row i. -/
def swp (b i0 : Nat) (X : M) : M := fun i => if i = b then X i0 else if i = i0 then X b else X i
def clr (b : Nat) (s : K) (t : Nat → K) (X : M) : M := fun i j => if i = b then (K.mul s (X b j)) else (K.add (X i j) (K.mul (t i) (X b j)))
theorem swp_swp (b i0 : Nat) (X : M) : swp b i0 (swp b i0 X) = X := by
  funext i
  unfold swp
  by_cases h : i = b
  · subst h
    by_cases g : i0 = i
    · subst g; simp
    · simp [g]
  · by_cases g : i = i0
    · subst g; simp [h]
    · simp [h, g]
theorem clr_clr (b : Nat) (s : K) (hs : s ≠ 0) (t : Nat → K) (X : M) : clr b s.inv (fun i => (K.mul (t i) s.inv)) (clr b s t X) = X := by
  funext i j
  unfold clr
  by_cases h : i = b
  · subst h; rw [if_pos rfl, if_pos rfl, ← K.mul_assoc, K.inv_mul hs, K.one_mul]
  · rw [if_neg h, if_neg h, if_pos rfl, ← K.mul_assoc, K.mul_assoc (t i), K.inv_mul hs, K.mul_one, K.add_assoc, K.add_self, K.add_zero]
theorem clr_clr' (b : Nat) (s : K) (hs : s ≠ 0) (t : Nat → K) (X : M) : clr b s t (clr b s.inv (fun i => (K.mul (t i) s.inv)) X) = X := by
  funext i j
  unfold clr
  by_cases h : i = b
  · subst h; rw [if_pos rfl, if_pos rfl, ← K.mul_assoc, K.mul_inv hs, K.one_mul]
  · rw [if_neg h, if_neg h, if_pos rfl, ← K.mul_assoc, K.add_assoc, K.add_self, K.add_zero]
/-- A step by rows that can be undone. -/
structure Step (n : Nat) (T T' : M → M) : Prop where
  back : ∀ X, T' (T X) = X
  forth : ∀ X, T (T' X) = X
  lin : ∀ X Y i j, mm n (T X) Y i j = T (mm n X Y) i j
  lin' : ∀ X Y i j, mm n (T' X) Y i j = T' (mm n X Y) i j
  low : ∀ X Y j, (∀ i, i < n → X i j = Y i j) → ∀ i, i < n → T X i j = T Y i j
  low' : ∀ X Y j, (∀ i, i < n → X i j = Y i j) → ∀ i, i < n → T' X i j = T' Y i j
theorem swp_lin (n b i0 : Nat) (X Y : M) (i j : Nat) : mm n (swp b i0 X) Y i j = swp b i0 (mm n X Y) i j := by
  unfold swp mm
  by_cases h : i = b
  · simp [h]
  · by_cases g : i = i0
    · subst g; simp [h]
    · simp [h, g]
theorem swp_low {n b i0 : Nat} (hb : b < n) (hi : i0 < n) (X Y : M) (j : Nat) (h : ∀ i, i < n → X i j = Y i j) (i : Nat) (hl : i < n) : swp b i0 X i j = swp b i0 Y i j := by
  unfold swp
  by_cases e : i = b
  · simp only [e, if_true]; exact h _ hi
  · by_cases g : i = i0
    · simp only [g, if_true]
      split
      · exact h _ hi
      · exact h _ hb
    · simp only [e, g, if_false]; exact h _ hl
theorem clr_lin (n b : Nat) (s : K) (t : Nat → K) (X Y : M) (i j : Nat) : mm n (clr b s t X) Y i j = clr b s t (mm n X Y) i j := by
  unfold clr mm
  by_cases h : i = b
  · simp only [h, if_true]; rw [← sum_mul]; exact sum_congr fun l _ => K.mul_assoc _ _ _
  · simp only [h, if_false]; rw [← sum_mul, ← sum_add]; exact sum_congr fun l _ => by rw [K.add_mul, K.mul_assoc]
theorem clr_low {n b : Nat} (hb : b < n) (s : K) (t : Nat → K) (X Y : M) (j : Nat) (h : ∀ i, i < n → X i j = Y i j) (i : Nat) (hl : i < n) : clr b s t X i j = clr b s t Y i j := by
  unfold clr
  rw [h b hb, h i hl]
theorem step_swp {n b i0 : Nat} (hb : b < n) (hi : i0 < n) : Step n (swp b i0) (swp b i0) :=
  ⟨swp_swp b i0, swp_swp b i0, swp_lin n b i0, swp_lin n b i0, swp_low hb hi, swp_low hb hi⟩
theorem step_clr {n b : Nat} (hb : b < n) (s : K) (hs : s ≠ 0) (t : Nat → K) : Step n (clr b s t) (clr b s.inv fun i => (K.mul (t i) s.inv)) :=
  ⟨clr_clr b s hs t, clr_clr' b s hs t, clr_lin n b s t, clr_lin n b _ _, clr_low hb _ _, clr_low hb _ _⟩

/-- P is A by steps that can be undone. -/
structure By (n : Nat) (A P E F : M) : Prop where
  ef : ∀ i j, i < n → j < n → mm n E F i j = one i j
  fe : ∀ i j, i < n → j < n → mm n F E i j = one i j
  is : ∀ i j, i < n → P i j = mm n E A i j
theorem By.refl (n : Nat) (A : M) : By n A A one one :=
  ⟨fun _ _ hi _ => one_mm hi, fun _ _ hi _ => one_mm hi, fun _ _ hi => (one_mm hi).symm⟩
theorem By.step {n : Nat} {A P E F : M} {T T' : M → M} (h : By n A P E F) (s : Step n T T') : By n A (T P) (T E) (mm n F (T' one)) := by
  refine ⟨fun i j hi hj => ?_, fun i j hi hj => ?_, fun i j hi => ?_⟩
  · rw [← mm_assoc, mm_congr (A' := T one) (B' := T' one) (fun l hl => by rw [s.lin, s.low _ one l (fun k hk => h.ef k l hk hl) i hi]) (fun _ _ => rfl), s.lin, s.low _ (T' one) j (fun k hk => one_mm hk) i hi, s.forth]
  · rw [mm_assoc, mm_congr (A' := F) (B' := E) (fun _ _ => rfl) (fun l hl => by rw [s.lin', s.low' _ (T E) j (fun k hk => one_mm hk) l hl, s.back])]
    exact h.fe i j hi hj
  · rw [s.low _ _ j (fun k hk => h.is k j hk) i hi, ← s.lin]

/-- What a reduction has come to behind c columns: b rows begin, each in a column of its own, where all others have 0; z: does each begin with 1? -/
structure Red (z : Bool) (n : Nat) (A : M) (c b : Nat) (P : M) : Prop where
  by_ : ∃ E F, By n A P E F
  rows : b ≤ n
  cols : b ≤ c
  piv : ∃ p : Nat → Nat, ∃ d : Nat → K, (∀ l, l < b → p l < c ∧ d l ≠ 0 ∧ (z = true → d l = 1) ∧ ∀ i, i < n → P i (p l) = if i = l then d l else 0) ∧ (b = c → ∀ l, l < b → p l = l)
  zero : ∀ i, b ≤ i → i < n → ∀ j, j < c → P i j = 0
theorem Red.start (z : Bool) (n : Nat) (A : M) : Red z n A 0 0 A :=
  ⟨⟨_, _, By.refl n A⟩, Nat.zero_le _, Nat.le_refl _, ⟨id, fun _ => 1, fun _ h => absurd h (Nat.not_lt_zero _), fun _ _ _ => rfl⟩, fun _ _ _ _ h => absurd h (Nat.not_lt_zero _)⟩
theorem Red.skip {z : Bool} {n c b : Nat} {A P : M} (h : Red z n A c b P) (h0 : ∀ i, b ≤ i → i < n → P i c = 0) : Red z n A (c + 1) b P := by
  refine ⟨h.by_, h.rows, Nat.le_succ_of_le h.cols, ?_, fun i h1 h2 j hj => ?_⟩
  · obtain ⟨p, d, hp, _⟩ := h.piv
    refine ⟨p, d, fun l hl => ?_, fun e => absurd h.cols (by omega)⟩
    obtain ⟨h1, h2⟩ := hp l hl
    exact ⟨by omega, h2⟩
  · by_cases e : j = c
    · rw [e]; exact h0 i h1 h2
    · exact h.zero i h1 h2 j (by omega)
theorem Red.full {z : Bool} {n c b : Nat} {A P : M} (h : Red z n A c b P) (hb : n ≤ b) (k : Nat) : Red z n A (c + k) b P := by
  induction k with
  | zero => exact h
  | succ k ih => exact ih.skip fun i h1 h2 => by omega
theorem Red.take {z : Bool} {n c b i0 : Nat} {A P : M} (h : Red z n A c b P) (h1 : b ≤ i0) (h2 : i0 < n) (s : K) (hs : s ≠ 0) (t : Nat → K) (hne : P i0 c ≠ 0) (hz : z = true → (K.mul s (P i0 c)) = 1)
    (ht : ∀ i, i < n → i ≠ b → (K.add (swp b i0 P i c) (K.mul (t i) (P i0 c))) = 0) : Red z n A (c + 1) (b + 1) (clr b s t (swp b i0 P)) := by
  have hb : b < n := by omega
  obtain ⟨E, F, hE⟩ := h.by_
  refine ⟨⟨_, _, (hE.step (step_swp hb h2)).step (step_clr hb s hs t)⟩, hb, Nat.succ_le_succ h.cols, ?_, fun i g1 g2 j hj => ?_⟩
  · obtain ⟨p, d, hp, hid⟩ := h.piv
    refine ⟨fun l => if l = b then c else p l, fun l => if l = b then (K.mul s (P i0 c)) else d l, fun l hl => ?_, fun e l hl => ?_⟩
    · by_cases e : l = b
      · subst e
        simp only [if_true]
        refine ⟨by omega, K.mul_ne_zero hs hne, hz, fun i hi => ?_⟩
        unfold clr
        by_cases g : i = l
        · rw [if_pos g, if_pos g]; simp [swp]
        · rw [if_neg g, if_neg g, show swp l i0 P l = P i0 from by simp [swp]]; exact ht i hi g
      · simp only [e, if_false]
        obtain ⟨q1, q2, q3, q4⟩ := hp l (by omega)
        refine ⟨by omega, q2, q3, fun i hi => ?_⟩
        have z1 : P i0 (p l) = 0 := by rw [q4 i0 h2, if_neg (by omega)]
        have z2 : P b (p l) = 0 := by rw [q4 b hb, if_neg (by omega)]
        unfold clr
        rw [show swp b i0 P b = P i0 from by simp [swp], z1, K.mul_zero, K.mul_zero, K.add_zero]
        by_cases g : i = b
        · rw [if_pos g, if_neg (by omega)]
        · rw [if_neg g, ← q4 i hi]
          unfold swp
          rw [if_neg g]
          by_cases g' : i = i0
          · rw [if_pos g', g', z1, z2]
          · rw [if_neg g']
    · have e' : b = c := by omega
      by_cases g : l = b
      · simp only [g, if_true]; omega
      · simp only [g, if_false]; exact hid e' l (by omega)
  · have hib : i ≠ b := by omega
    have zP : ∀ k, b ≤ k → k < n → j < c → P k j = 0 := fun k k1 k2 k3 => h.zero k k1 k2 j k3
    by_cases e : j = c
    · subst e
      unfold clr
      rw [if_neg hib, show swp b i0 P b = P i0 from by simp [swp]]; exact ht i g2 hib
    · unfold clr
      rw [if_neg hib, show swp b i0 P b = P i0 from by simp [swp], zP i0 h1 h2 (by omega), K.mul_zero, K.add_zero]
      unfold swp
      rw [if_neg hib]
      split
      · exact zP b (Nat.le_refl _) hb (by omega)
      · exact zP i (by omega) g2 (by omega)
/-- The program's way: the row that begins is divided by what it begins with, and taken from the others. -/
theorem Red.take1 {n c b i0 : Nat} {A P : M} (h : Red true n A c b P) (h1 : b ≤ i0) (h2 : i0 < n) (hne : P i0 c ≠ 0) :
    Red true n A (c + 1) (b + 1) (clr b (P i0 c).inv (fun i => (K.mul (swp b i0 P i c) ((P i0 c).inv))) (swp b i0 P)) :=
  h.take h1 h2 _ (K.inv_ne_zero hne) _ hne (fun _ => K.inv_mul hne) fun i _ _ => by rw [K.mul_assoc, K.inv_mul hne, K.mul_one, K.add_self]
/-- The document's way: a multiple of the row that begins is added to the others. -/
theorem Red.take0 {n c b i0 : Nat} {A P : M} (h : Red false n A c b P) (h1 : b ≤ i0) (h2 : i0 < n) (hne : P i0 c ≠ 0) :
    Red false n A (c + 1) (b + 1) (clr b 1 (fun i => (K.mul (swp b i0 P i c) ((P i0 c).inv))) (swp b i0 P)) :=
  h.take h1 h2 _ K.one_ne_zero _ hne (fun e => by cases e) fun i _ _ => by rw [K.mul_assoc, K.inv_mul hne, K.mul_one, K.add_self]
theorem Red.any (n : Nat) (A : M) (c : Nat) : ∃ b P, Red true n A c b P := by
  induction c with
  | zero => exact ⟨_, _, Red.start true n A⟩
  | succ c ih =>
    obtain ⟨b, P, h⟩ := ih
    by_cases g : ∃ i, b ≤ i ∧ i < n ∧ P i c ≠ 0
    · obtain ⟨i, h1, h2, h3⟩ := g
      exact ⟨_, _, h.take1 h1 h2 h3⟩
    · exact ⟨_, _, h.skip fun i h1 h2 => Classical.byContradiction fun e => g ⟨i, h1, h2, e⟩⟩

/-- A is a product with r numbers between. -/
def Fac (n m : Nat) (A : M) (r : Nat) : Prop := ∃ X Y : M, ∀ i j, i < n → j < m → A i j = mm r X Y i j
theorem dim {b r : Nat} {X Y : M} {d : Nat → K} (hd : ∀ l, l < b → d l ≠ 0) (h : ∀ i l, i < b → l < b → mm r X Y i l = if i = l then d l else 0) : b ≤ r := by
  by_cases hlt : r < b
  · exfalso
    obtain ⟨b', P, hr⟩ := Red.any b X r
    obtain ⟨E, F, hE⟩ := hr.by_
    have hcols := hr.cols
    have z : ∀ l, l < b → E (b - 1) l = 0 := fun l hl => by
      have e1 : mm b E (mm r X Y) (b - 1) l = (K.mul (E (b - 1) l) (d l)) := by
        show sum b (fun k => (K.mul (E (b - 1) k) (mm r X Y k l))) = _
        rw [sum_one hl (fun k hk hne => by rw [h k l hk hl, if_neg hne, K.mul_zero]), h l l hl hl, if_pos rfl]
      rw [← mm_assoc] at e1
      have e2 : mm r (mm b E X) Y (b - 1) l = 0 := sum_zero fun q hq => by rw [← hE.is (b - 1) q (by omega), hr.zero (b - 1) (by omega) (by omega) q hq, K.zero_mul]
      rw [e2] at e1
      exact K.eq_zero_of_mul e1.symm (hd l hl)
    have e3 := hE.ef (b - 1) (b - 1) (by omega) (by omega)
    rw [one_self] at e3
    exact K.one_ne_zero (e3.symm.trans (sum_zero fun l hl => by rw [z l hl, K.zero_mul]))
  · omega
/-- The rank: the least number that may stand between. -/
def Rk (n m : Nat) (A : M) (b : Nat) : Prop := Fac n m A b ∧ ∀ r, Fac n m A r → b ≤ r
theorem Rk.unique {n m b b' : Nat} {A : M} (h : Rk n m A b) (h' : Rk n m A b') : b = b' := Nat.le_antisymm (h.2 _ h'.1) (h'.2 _ h.1)
theorem By.undo {n : Nat} {A P E F : M} (h : By n A P E F) (i j : Nat) (hi : i < n) : A i j = mm n F P i j := by
  rw [mm_congr (A' := F) (B' := mm n E A) (fun _ _ => rfl) (fun l hl => h.is l j hl), ← mm_assoc, mm_congr (A' := one) (B' := A) (fun l hl => h.fe i l hi hl) (fun _ _ => rfl), one_mm hi]
theorem Red.rk {z : Bool} {n c b : Nat} {A P : M} (h : Red z n A c b P) : Rk n c A b := by
  obtain ⟨E, F, hE⟩ := h.by_
  refine ⟨⟨F, P, fun i j hi hj => ?_⟩, ?_⟩
  · rw [hE.undo i j hi]
    exact sum_cut h.rows fun l h1 h2 => by rw [h.zero l h1 h2 j hj, K.mul_zero]
  · rintro r ⟨X, Y, hXY⟩
    obtain ⟨p, d, hp, _⟩ := h.piv
    have hrows := h.rows
    refine dim (X := mm n E X) (Y := fun q l => Y q (p l)) (d := d) (fun l hl => (hp l hl).2.1) fun i l hi hl => ?_
    rw [← (hp l hl).2.2.2 i (by omega), hE.is i (p l) (by omega)]
    show mm r (mm n E X) Y i (p l) = _
    rw [mm_assoc]
    exact mm_congr (fun _ _ => rfl) fun k hk => (hXY k (p l) hk (hp l hl).1).symm
theorem Rk.congr {n m b : Nat} {A B : M} (h : Rk n m A b) (e : ∀ i j, i < n → j < m → A i j = B i j) : Rk n m B b := by
  obtain ⟨⟨X, Y, hXY⟩, g⟩ := h
  refine ⟨⟨X, Y, fun i j hi hj => by rw [← e i j hi hj]; exact hXY i j hi hj⟩, ?_⟩
  rintro r ⟨X', Y', h'⟩
  exact g r ⟨X', Y', fun i j hi hj => by rw [e i j hi hj]; exact h' i j hi hj⟩
theorem Rk.any (n m : Nat) (A : M) : ∃ b, Rk n m A b := by
  obtain ⟨b, P, h⟩ := Red.any n A m
  exact ⟨b, h.rk⟩
theorem Rk.le {n m b : Nat} {A : M} (h : Rk n m A b) : b ≤ n ∧ b ≤ m := by
  obtain ⟨b', P, g⟩ := Red.any n A m
  rw [h.unique g.rk]
  exact ⟨g.rows, g.cols⟩
theorem Fac.turn {n m r : Nat} {A : M} (h : Fac n m A r) : Fac m n (turn A) r := by
  obtain ⟨X, Y, hXY⟩ := h
  exact ⟨Go.Proofs.Ythkikocacbbhkaa.turn Y, Go.Proofs.Ythkikocacbbhkaa.turn X, fun i j hi hj => by rw [turn_mm]; exact hXY j i hj hi⟩
theorem Rk.turn {n m b : Nat} {A : M} (h : Rk n m A b) : Rk m n (turn A) b := ⟨h.1.turn, fun r hr => h.2 r hr.turn⟩
theorem Rk.mm_le {n m q b b' : Nat} {A B : M} (h : Rk n m A b) (h' : Rk n q (mm m A B) b') : b' ≤ b := by
  obtain ⟨X, Y, hXY⟩ := h.1
  refine h'.2 b ⟨X, mm m Y B, fun i j hi hj => ?_⟩
  rw [← mm_assoc]
  exact mm_congr (fun l hl => hXY i l hi hl) fun _ _ => rfl

/-- V is the inverse of A. -/
def IsInv (n : Nat) (A V : M) : Prop := ∀ i j, i < n → j < n → mm n V A i j = one i j ∧ mm n A V i j = one i j
theorem IsInv.symm {n : Nat} {A V : M} (h : IsInv n A V) : IsInv n V A := fun i j hi hj => ⟨(h i j hi hj).2, (h i j hi hj).1⟩
theorem IsInv.unique {n : Nat} {A V W : M} (h : IsInv n A V) (g : ∀ i j, i < n → j < n → mm n W A i j = one i j) (i j : Nat) (hi : i < n) (hj : j < n) : W i j = V i j := by
  have e : mm n (mm n W A) V i j = mm n W (mm n A V) i j := mm_assoc n n W A V i j
  rw [mm_congr (A' := one) (B' := V) (fun l hl => g i l hi hl) (fun _ _ => rfl), one_mm hi] at e
  rw [e, mm_congr (A' := W) (B' := one) (fun _ _ => rfl) (fun l hl => (h l j hl hj).2), mm_one hj]
theorem IsInv.congr {n : Nat} {A B V : M} (h : IsInv n A V) (e : ∀ i j, i < n → j < n → A i j = B i j) : IsInv n B V := fun i j hi hj =>
  ⟨by rw [← (h i j hi hj).1]; exact mm_congr (fun _ _ => rfl) fun l hl => (e l j hl hj).symm, by rw [← (h i j hi hj).2]; exact mm_congr (fun l hl => (e i l hi hl).symm) fun _ _ => rfl⟩
theorem IsInv.rk {n : Nat} {A V : M} (h : IsInv n A V) : Rk n n A n := by
  refine ⟨⟨one, A, fun i j hi _ => (one_mm hi).symm⟩, ?_⟩
  rintro r ⟨X, Y, hXY⟩
  refine dim (X := mm n V X) (Y := Y) (d := fun _ => 1) (fun _ _ => K.one_ne_zero) fun i l hi hl => ?_
  rw [mm_assoc, mm_congr (A' := V) (B' := A) (fun _ _ => rfl) (fun k hk => (hXY k l hk hl).symm), (h i l hi hl).1]
  rfl
/-- A matrix and the unit matrix beside it. -/
def beside (n : Nat) (A : M) : M := fun i j => if j < n then A i j else one i (j - n)
theorem beside_rk {n b : Nat} {A : M} (h : Rk n n (beside n A) b) : Rk n n A b := h.congr fun _ _ _ hj => if_pos hj
/-- What is left beside the unit matrix, each row divided by what it begins with, is the inverse. -/
theorem Red.inv {z : Bool} {n : Nat} {A P : M} (h : Red z n (beside n A) n n P) : IsInv n A (fun i j => (K.mul (P i (n + j)) ((P i i).inv))) := by
  obtain ⟨E, F, hE⟩ := h.by_
  obtain ⟨p, d, hp, hid⟩ := h.piv
  have hd : ∀ i, i < n → d i ≠ 0 := fun i hi => (hp i hi).2.1
  have hPd : ∀ i j, i < n → j < n → P i j = if i = j then d j else 0 := fun i j hi hj => by
    have := (hp j hj).2.2.2 i hi
    rwa [hid rfl j hj] at this
  have hPr : ∀ i j, i < n → j < n → P i (n + j) = E i j := fun i j hi hj => by
    rw [hE.is i (n + j) hi, mm_congr (A' := E) (B' := fun l q => one l (q - n)) (fun _ _ => rfl) (fun l _ => if_neg (by omega))]
    show sum n (fun l => (K.mul (E i l) (one l (n + j - n)))) = _
    rw [Nat.add_sub_cancel_left]
    exact mm_one hj
  have hEA : ∀ i j, i < n → j < n → mm n E A i j = if i = j then d j else 0 := fun i j hi hj => by
    rw [← hPd i j hi hj, hE.is i j hi]
    exact mm_congr (fun _ _ => rfl) fun l _ => (if_pos hj).symm
  have hdd : ∀ i, i < n → P i i = d i := fun i hi => by rw [hPd i i hi hi, if_pos rfl]
  have hVA : ∀ i j, i < n → j < n → mm n (fun i j => (K.mul (P i (n + j)) ((P i i).inv))) A i j = one i j := fun i j hi hj => by
    have : mm n (fun i j => (K.mul (P i (n + j)) ((P i i).inv))) A i j = (K.mul ((d i).inv) (mm n E A i j)) := by
      show sum n (fun l => (K.mul (K.mul (P i (n + l)) ((P i i).inv)) (A l j))) = _
      refine Eq.trans ?_ (sum_mul n (d i).inv fun l => (K.mul (E i l) (A l j)))
      exact sum_congr fun l hl => by rw [hPr i l hi hl, hdd i hi]; (have := K.aA; have := K.cA; have := K.aM; have := K.cM; ac_rfl)
    rw [this, hEA i j hi hj]
    by_cases e : i = j
    · subst e; rw [if_pos rfl, one_self, K.inv_mul (hd i hi)]
    · rw [if_neg e, one_ne e, K.mul_zero]
  have hAF : ∀ i j, i < n → j < n → A i j = (K.mul (F i j) (d j)) := fun i j hi hj => by
    have e := hE.undo i j hi
    rw [show beside n A i j = A i j from if_pos hj] at e
    rw [e]
    show sum n (fun l => (K.mul (F i l) (P l j))) = _
    rw [sum_one hj fun l hl hne => by rw [hPd l j hl hj, if_neg hne, K.mul_zero], hdd j hj]
  refine fun i j hi hj => ⟨hVA i j hi hj, ?_⟩
  rw [← hE.fe i j hi hj]
  show sum n (fun l => (K.mul (A i l) ((K.mul (P l (n + j)) ((P l l).inv))))) = sum n (fun l => (K.mul (F i l) (E l j)))
  exact sum_congr fun l hl => by
    rw [hAF i l hi hl, hPr l j hl hj, hdd l hl, K.mul_comm (E l j), ← K.mul_assoc, K.mul_assoc (F i l), K.mul_inv (hd l hl), K.mul_one]
theorem Red.one_diag {n : Nat} {A P : M} (h : Red true n A n n P) (i : Nat) (hi : i < n) : P i i = 1 := by
  obtain ⟨p, d, hp, hid⟩ := h.piv
  obtain ⟨_, _, h3, h4⟩ := hp i hi
  have := h4 i hi
  rwa [hid rfl i hi, if_pos rfl, h3 rfl] at this
theorem inv_of_rk {n : Nat} {A : M} (h : Rk n n A n) : ∃ V, IsInv n A V := by
  obtain ⟨b, P, hr⟩ := Red.any n (beside n A) n
  obtain rfl := (beside_rk hr.rk).unique h
  exact ⟨_, hr.inv⟩

/-- The first row from b on (q rows are looked at) that does not have 0 in the column c. -/
def lookFor (P : M) (c b : Nat) : Nat → Option Nat
  | 0 => none
  | q + 1 => if P b c = 0 then lookFor P c (b + 1) q else some b
theorem lookFor_none {P : M} {c b q : Nat} (h : lookFor P c b q = none) : ∀ i, b ≤ i → i < b + q → P i c = 0 := by
  induction q generalizing b with
  | zero => intro i h1 h2; omega
  | succ q ih =>
    unfold lookFor at h
    by_cases e : P b c = 0
    · rw [if_pos e] at h
      intro i h1 h2
      by_cases g : i = b
      · rw [g]; exact e
      · exact ih h i (by omega) (by omega)
    · rw [if_neg e] at h; cases h
theorem lookFor_some {P : M} {c b q i : Nat} (h : lookFor P c b q = some i) : b ≤ i ∧ i < b + q ∧ P i c ≠ 0 := by
  induction q generalizing b with
  | zero => cases h
  | succ q ih =>
    unfold lookFor at h
    by_cases e : P b c = 0
    · rw [if_pos e] at h
      have := ih h
      exact ⟨by omega, by omega, this.2.2⟩
    · rw [if_neg e] at h
      cases h
      exact ⟨Nat.le_refl _, by omega, e⟩
/-- The reduction, reckoned. -/
def redF (n : Nat) (A : M) : Nat → Nat × M
  | 0 => (0, A)
  | c + 1 => match lookFor (redF n A c).2 c (redF n A c).1 (n - (redF n A c).1) with
    | none => redF n A c
    | some i => ((redF n A c).1 + 1, clr (redF n A c).1 ((redF n A c).2 i c).inv (fun k => K.mul (swp (redF n A c).1 i (redF n A c).2 k c) ((redF n A c).2 i c).inv) (swp (redF n A c).1 i (redF n A c).2))
theorem redF_red (n : Nat) (A : M) (c : Nat) : Red true n A c (redF n A c).1 (redF n A c).2 := by
  induction c with
  | zero => exact Red.start true n A
  | succ c ih =>
    have hr := ih.rows
    rw [redF]
    cases h : lookFor (redF n A c).2 c (redF n A c).1 (n - (redF n A c).1) with
    | none => exact ih.skip fun i h1 h2 => lookFor_none h i h1 (by omega)
    | some i =>
      obtain ⟨h1, h2, h3⟩ := lookFor_some h
      exact ih.take1 h1 (by omega) h3
/-- The ranks and inverses themselves. -/
def rankOf (n m : Nat) (A : M) : Nat := (redF n A m).1
theorem rankOf_rk (n m : Nat) (A : M) : Rk n m A (rankOf n m A) := (redF_red n A m).rk
theorem rankOf_eq {n m b : Nat} {A : M} (h : Rk n m A b) : rankOf n m A = b := (rankOf_rk n m A).unique h
def invB (n : Nat) (A : M) : Bool := decide (rankOf n n A = n)
def invOf (n : Nat) (A : M) : M := fun i j => (redF n (beside n A) n).2 i (n + j)
theorem invB_rk (n : Nat) (A : M) : invB n A = decide (rankOf n n A = n) := rfl
theorem invB_of {n : Nat} {A V : M} (h : IsInv n A V) : invB n A = true := decide_eq_true (rankOf_eq h.rk)
theorem IsInv.same {n : Nat} {A V W : M} (h : IsInv n A V) (e : ∀ i j, i < n → j < n → V i j = W i j) : IsInv n A W := fun i j hi hj =>
  ⟨by rw [← (h i j hi hj).1]; exact mm_congr (fun l hl => (e i l hi hl).symm) fun _ _ => rfl, by rw [← (h i j hi hj).2]; exact mm_congr (fun _ _ => rfl) fun l hl => (e l j hl hj).symm⟩
theorem inv_one_k : (1 : K).inv = 1 := by have := K.mul_inv K.one_ne_zero; rwa [K.one_mul] at this
theorem invB_is {n : Nat} {A : M} (h : invB n A = true) : IsInv n A (invOf n A) := by
  have hr := redF_red n (beside n A) n
  have e : (redF n (beside n A) n).1 = n := (beside_rk hr.rk).unique (by have := rankOf_rk n n A; rwa [of_decide_eq_true h] at this)
  rw [e] at hr
  exact hr.inv.same fun i j hi _ => by rw [hr.one_diag i hi, inv_one_k, K.mul_one]; rfl
theorem invOf_eq {n : Nat} {A V : M} (h : IsInv n A V) (i j : Nat) (hi : i < n) (hj : j < n) : V i j = invOf n A i j :=
  (invB_is (invB_of h)).unique (fun i j hi hj => (h i j hi hj).1) i j hi hj
theorem rankOf_turn (n m : Nat) (A : M) : rankOf m n (turn A) = rankOf n m A := rankOf_eq (rankOf_rk n m A).turn

/-- Where only 0 comes to 0, all rows are independent. -/
theorem rk_of_ker {k : Nat} {A : M} (h : ∀ u : Nat → K, (∀ t, t < k → sum k (fun l => (K.mul (A t l) (u l))) = 0) → ∀ l, l < k → u l = 0) : Rk k k A k := by
  obtain ⟨b, P, hr⟩ := Red.any k (turn A) k
  have hrk := hr.rk.turn
  have hb := hr.rows
  by_cases e : b = k
  · rw [e] at hrk; exact hrk
  · exfalso
    obtain ⟨E, F, hE⟩ := hr.by_
    have hz := h (fun l => E (k - 1) l) fun t ht => by
      have := hr.zero (k - 1) (by omega) (by omega) t ht
      rw [hE.is (k - 1) t (by omega)] at this
      rw [← this]
      exact sum_congr fun l _ => K.mul_comm _ _
    have e3 := hE.ef (k - 1) (k - 1) (by omega) (by omega)
    rw [one_self] at e3
    exact K.one_ne_zero (e3.symm.trans (sum_zero fun l hl => by rw [hz l hl, K.zero_mul]))

/-- Polynomials of k terms. -/
def Poly : Nat → (K → K) → Prop
  | 0, f => ∀ x, f x = 0
  | k + 1, f => ∃ g : K → K, ∃ c : K, Poly k g ∧ ∀ x, f x = (K.add c (K.mul x (g x)))
theorem Poly.congr {k : Nat} {f g : K → K} (h : Poly k f) (e : ∀ x, f x = g x) : Poly k g := by
  cases k with
  | zero => exact fun x => by rw [← e x]; exact h x
  | succ k =>
    obtain ⟨g', c, h1, h2⟩ := h
    exact ⟨g', c, h1, fun x => by rw [← e x]; exact h2 x⟩
theorem Poly.nil (k : Nat) : Poly k (fun _ => 0) := by
  induction k with
  | zero => exact fun _ => rfl
  | succ k ih => exact ⟨_, 0, ih, fun x => by rw [K.mul_zero, K.add_zero]⟩
theorem Poly.step (k : Nat) (g : K → K) (c : K) (h : Poly k g) : Poly (k + 1) (fun x => (K.add c (K.mul x (g x)))) := ⟨g, c, h, fun _ => rfl⟩
theorem Poly.add {k : Nat} {f g : K → K} (hf : Poly k f) (hg : Poly k g) : Poly k (fun x => (K.add (f x) (g x))) := by
  induction k generalizing f g with
  | zero => exact fun x => by simp only [hf x, hg x]; exact K.add_zero 0
  | succ k ih =>
    obtain ⟨f', c, h1, h2⟩ := hf
    obtain ⟨g', d, h3, h4⟩ := hg
    refine ⟨fun x => (K.add (f' x) (g' x)), (K.add c d), ih h1 h3, fun x => ?_⟩
    simp only [h2 x, h4 x, K.mul_add]
    (have := K.aA; have := K.cA; have := K.aM; have := K.cM; ac_rfl)
theorem Poly.scale {k : Nat} {f : K → K} (c : K) (hf : Poly k f) : Poly k (fun x => (K.mul c (f x))) := by
  induction k generalizing f with
  | zero => exact fun x => by simp only [hf x]; exact K.mul_zero c
  | succ k ih =>
    obtain ⟨f', d, h1, h2⟩ := hf
    refine ⟨fun x => (K.mul c (f' x)), (K.mul c d), ih h1, fun x => ?_⟩
    simp only [h2 x, K.mul_add]
    congr 1
    (have := K.aA; have := K.cA; have := K.aM; have := K.cM; ac_rfl)
theorem Poly.more {k : Nat} {f : K → K} (hf : Poly k f) : Poly (k + 1) f := by
  induction k generalizing f with
  | zero => exact (Poly.nil 1).congr fun x => (hf x).symm
  | succ k ih =>
    obtain ⟨f', d, h1, h2⟩ := hf
    exact ⟨f', d, ih h1, h2⟩
theorem Poly.times {k : Nat} {f : K → K} (c : K) (hf : Poly k f) : Poly (k + 1) (fun x => (K.mul (f x) ((K.add x c)))) := by
  refine ((Poly.step k f 0 hf).add (hf.scale c).more).congr fun x => ?_
  rw [K.zero_add, K.mul_add, K.mul_comm x, K.mul_comm c]
theorem Poly.sums {k : Nat} (m : Nat) (f : Nat → K → K) (h : ∀ j, j < m → Poly k (f j)) : Poly k (fun x => sum m fun j => f j x) := by
  induction m with
  | zero => exact Poly.nil k
  | succ m ih => exact (ih fun j hj => h j (by omega)).add (h m (by omega))
theorem Poly.root {k : Nat} {f : K → K} (hf : Poly (k + 1) f) (a : K) : ∃ g, Poly k g ∧ ∀ x, (K.add (f x) (f a)) = (K.mul ((K.add x a)) (g x)) := by
  induction k generalizing f with
  | zero =>
    obtain ⟨h, c, h1, h2⟩ := hf
    exact ⟨fun _ => 0, fun _ => rfl, fun x => by rw [h2 x, h2 a, h1 x, h1 a, K.mul_zero, K.mul_zero, K.mul_zero, K.add_zero, K.add_self]⟩
  | succ k ih =>
    obtain ⟨h, c, hh, h2⟩ := hf
    obtain ⟨g, hg, e⟩ := ih hh
    refine ⟨_, Poly.step k g (h a) hg, fun x => ?_⟩
    have e1 : h x = (K.add (h a) (K.mul ((K.add x a)) (g x))) := by rw [← e x, K.add_comm (h x), ← K.add_assoc, K.add_self, K.zero_add]
    rw [h2 x, h2 a]
    show (K.add (K.add c (K.mul x (h x))) ((K.add c (K.mul a (h a))))) = (K.mul ((K.add x a)) ((K.add (h a) (K.mul x (g x)))))
    rw [show (K.add (K.add c (K.mul x (h x))) ((K.add c (K.mul a (h a))))) = (K.add (K.add c c) ((K.add (K.mul x (h x)) (K.mul a (h a))))) by (have := K.aA; have := K.cA; have := K.aM; have := K.cM; ac_rfl), K.add_self, K.zero_add, e1, K.mul_add, K.mul_add, K.add_mul x a (h a)]
    rw [show (K.mul x ((K.mul ((K.add x a)) (g x)))) = (K.mul ((K.add x a)) ((K.mul x (g x)))) by (have := K.aA; have := K.cA; have := K.aM; have := K.cM; ac_rfl)]
    (have := K.aA; have := K.cA; have := K.aM; have := K.cM; ac_rfl)
theorem Poly.roots {k : Nat} {f : K → K} (hf : Poly k f) (a : Nat → K) (hz : ∀ i, i < k → f (a i) = 0) (hd : ∀ i j, i < j → j < k → a i ≠ a j) (x : K) : f x = 0 := by
  induction k generalizing f with
  | zero => exact hf x
  | succ k ih =>
    obtain ⟨g, hg, e⟩ := hf.root (a k)
    have e' : ∀ x, f x = (K.mul ((K.add x (a k))) (g x)) := fun x => by rw [← e x, hz k (by omega), K.add_zero]
    rw [e' x, ih hg (fun i hi => ?_) (fun i j hi hj => hd i j hi (by omega)), K.mul_zero]
    have := hz i (by omega)
    rw [e', K.mul_comm] at this
    exact K.eq_zero_of_mul this (K.sub_ne (hd i k hi (by omega)))

/-- The product of all x + X i below m but that of j. -/
def pr (X : Nat → K) (j : Nat) : Nat → K → K
  | 0, _ => 1
  | m + 1, x => if m = j then pr X j m x else (K.mul (pr X j m x) ((K.add x (X m))))
theorem pr_poly (X : Nat → K) (j m : Nat) : Poly (m + 1) (pr X j m) ∧ (j < m → Poly m (pr X j m)) := by
  induction m with
  | zero =>
    exact ⟨(Poly.step 0 _ 1 (Poly.nil 0)).congr fun x => by rw [K.mul_zero, K.add_zero]; rfl, fun h => absurd h (Nat.not_lt_zero _)⟩
  | succ m ih =>
    by_cases e : m = j
    · have : pr X j (m + 1) = pr X j m := funext fun x => if_pos e
      rw [this]
      exact ⟨ih.1.more, fun _ => ih.1⟩
    · have : pr X j (m + 1) = fun x => (K.mul (pr X j m x) ((K.add x (X m)))) := funext fun x => if_neg e
      rw [this]
      exact ⟨ih.1.times _, fun h => (ih.2 (by omega)).times _⟩
theorem pr_zero (X : Nat → K) (j l m : Nat) (hl : l < m) (hj : l ≠ j) : pr X j m (X l) = 0 := by
  induction m with
  | zero => omega
  | succ m ih =>
    show (if m = j then _ else _) = _
    by_cases e : m = l
    · subst e; rw [if_neg hj, K.add_self, K.mul_zero]
    · rw [ih (by omega), K.zero_mul]; split <;> rfl
theorem pr_ne (X : Nat → K) (j m : Nat) (x : K) (h : ∀ i, i < m → i ≠ j → x ≠ X i) : pr X j m x ≠ 0 := by
  induction m with
  | zero => exact K.one_ne_zero
  | succ m ih =>
    show (if m = j then _ else _) ≠ _
    split
    · exact ih fun i hi => h i (by omega)
    · rename_i e
      exact K.mul_ne_zero (ih fun i hi => h i (by omega)) (K.sub_ne (h m (by omega) e))
theorem pr_full (X : Nat → K) (j m : Nat) (x : K) (hj : j < m) : (K.mul (pr X j m x) ((K.add x (X j)))) = pr X m m x := by
  have aux : ∀ q m', m' ≤ q → ∀ q', m' ≤ q' → pr X q m' x = pr X q' m' x := by
    intro q m'
    induction m' with
    | zero => intro _ _ _; rfl
    | succ m' ih =>
      intro h1 q' h2
      show (if m' = q then _ else _) = (if m' = q' then _ else _)
      rw [if_neg (by omega), if_neg (by omega), ih (by omega) q' (by omega)]
  induction m with
  | zero => omega
  | succ m ih =>
    show (K.mul (if m = j then _ else _) _) = (if m = m + 1 then _ else _)
    rw [if_neg (show ¬ m = m + 1 by omega)]
    by_cases e : m = j
    · subst e; rw [if_pos rfl, aux m m (Nat.le_refl _) (m + 1) (by omega)]
    · rw [if_neg e, aux (m + 1) m (by omega) m (Nat.le_refl _), ← ih (by omega)]; (have := K.aA; have := K.cA; have := K.aM; have := K.cM; ac_rfl)

/-- The parity's matrix, and the unit matrix with it behind. -/
def cau (k : Nat) : M := fun i j => ((K.add (K.of (k + i)) (K.of j))).inv
def gen (k : Nat) : M := fun p j => if p < k then one p j else cau k (p - k) j
theorem of_inj {a b : Nat} (ha : a < 256) (hb : b < 256) (h : K.of a = K.of b) : a = b := by rw [← K.of_n a ha, ← K.of_n b hb, h]
theorem gen_rk (k m : Nat) (R : Nat → Nat) (hm : m ≤ 256) (hR : ∀ t, t < k → R t < m) (hd : ∀ i j, i < j → j < k → R i ≠ R j) (hk : k ≤ 256) : Rk k k (fun t j => gen k (R t) j) k := by
  refine rk_of_ker fun u hu l hl => ?_
  have hX : ∀ i j, i < 256 → j < 256 → i ≠ j → K.of i ≠ K.of j := fun i j hi hj hne e => hne (of_inj hi hj e)
  have hN : Poly k (fun x => sum k fun j => (K.mul (u j) (pr K.of j k x))) := Poly.sums k _ fun j hj => ((pr_poly K.of j k).2 hj).scale _
  have hz : ∀ x, (sum k fun j => (K.mul (u j) (pr K.of j k x))) = 0 := fun x => by
    refine hN.roots (fun t => K.of (R t)) (fun t ht => ?_) (fun i j hi hj => hX _ _ (by have := hR i (by omega); omega) (by have := hR j hj; omega) (hd i j hi hj)) x
    have hut := hu t ht
    have hRt := hR t ht
    by_cases g : R t < k
    · have e1 : u (R t) = 0 := by
        have : sum k (fun l => (K.mul (gen k (R t) l) (u l))) = u (R t) := by
          rw [sum_one g fun l _ hne => by rw [gen, if_pos g, one_ne (Ne.symm hne), K.zero_mul], gen, if_pos g, one_self, K.one_mul]
        rw [← this]; exact hut
      exact sum_zero fun j hj => by
        by_cases e : j = R t
        · rw [e, e1, K.zero_mul]
        · rw [pr_zero K.of j (R t) k g (Ne.symm e), K.mul_zero]
    · have e2 : (sum k fun j => (K.mul (u j) (pr K.of j k (K.of (R t))))) = (K.mul (pr K.of k k (K.of (R t))) (sum k (fun l => (K.mul (gen k (R t) l) (u l))))) := by
        refine Eq.trans ?_ (sum_mul k _ _)
        refine sum_congr fun j hj => ?_
        have hne : (K.add (K.of (R t)) (K.of j)) ≠ 0 := K.sub_ne (hX _ _ (by omega) (by omega) (by omega))
        rw [gen, if_neg g, cau, show k + (R t - k) = R t by omega, ← pr_full K.of j k _ hj, K.mul_assoc, ← K.mul_assoc ((K.add (K.of (R t)) (K.of j))), K.mul_inv hne, K.one_mul, K.mul_comm]
      show (sum k fun j => (K.mul (u j) (pr K.of j k (K.of (R t))))) = 0
      rw [e2, hut, K.mul_zero]
  have e3 := hz (K.of l)
  rw [sum_one hl fun j _ hne => by rw [pr_zero K.of j l k hl (Ne.symm hne), K.mul_zero]] at e3
  exact K.eq_zero_of_mul e3 (pr_ne K.of l k _ fun i hi hne => hX _ _ (by omega) (by omega) (Ne.symm hne))
end Go.Proofs.Ythkikocacbbhkaa
