import Derived.Below
import Derived.Deep.OwnRows
import Derived.Laws.CopyOwn
import Derived.StillTailTactics
import Derived.BigQuiet
import Derived.Deep.LoopGhost
import Derived.WalkMore
import Derived.Deep.RegionHeld3
import Derived.Laws.BytesArg
import Derived.OpenShut
import Derived.Deep.Matrix
import Derived.Laws.AppendOwnNone
import Derived.Deep.AppendLies
import Derived.Test.YtngcdlodcdgcaaaGreatZk30
namespace Go.Proofs.YtngcdlodcdgcaaaGreat.Cod
abbrev K := Fin 256
namespace K
def n (a : K) : Nat := a.val
theorem lt (a : K) : K.n a < 256 := a.isLt
theorem ext {a b : K} (h : a.n = b.n) : a = b := Fin.ext h
def of (n : Nat) : K := ⟨n % 256, Nat.mod_lt _ (by decide)⟩
theorem of_n (n : Nat) (h : n < 256) : (of n).n = n := Nat.mod_eq_of_lt h
def add (a b : K) : K := ⟨Gf.add a.n b.n, Gf.add_lt _ _ a.isLt b.isLt⟩
def mul (a b : K) : K := ⟨Gf.mul a.n b.n, Gf.mul_lt _ _ a.isLt⟩
def inv (a : K) : K := ⟨Gf.pw a.n 254, Gf.pw_lt _ _⟩
theorem ne_zero {a : K} (h : a ≠ 0) : a.n ≠ 0 := fun e => h (ext e)
theorem one_ne_zero : (1 : K) ≠ 0 := fun h => absurd (congrArg K.n h) (by decide)
theorem add_comm (a b : K) : (K.add a b) = (K.add b a) := ext (Gf.add_comm _ _)
theorem add_assoc (a b c : K) : (K.add (K.add a b) c) = (K.add a ((K.add b c))) := ext (Gf.add_assoc _ _ _)
theorem add_zero (a : K) : (K.add a 0) = a := ext (Gf.add_zero _)
theorem zero_add (a : K) : (K.add 0 a) = a := by rw [add_comm, add_zero]
theorem add_self (a : K) : (K.add a a) = 0 := ext (Gf.add_self _)
theorem mul_comm (a b : K) : (K.mul a b) = (K.mul b a) := ext (Gf.mul_comm _ _ a.lt b.lt)
theorem mul_assoc (a b c : K) : (K.mul (K.mul a b) c) = (K.mul a ((K.mul b c))) := ext (Gf.mul_assoc _ _ _ a.lt b.lt c.lt)
theorem mul_one (a : K) : (K.mul a 1) = a := ext (Gf.mul_one _ a.lt)
theorem one_mul (a : K) : (K.mul 1 a) = a := by rw [mul_comm, mul_one]
theorem mul_zero (a : K) : (K.mul a 0) = 0 := ext (Gf.mul_zero _)
theorem zero_mul (a : K) : (K.mul 0 a) = 0 := by rw [mul_comm, mul_zero]
theorem mul_add (a b c : K) : (K.mul a ((K.add b c))) = (K.add (K.mul a b) (K.mul a c)) := ext (Gf.mul_add _ _ _)
theorem add_mul (a b c : K) : (K.mul ((K.add a b)) c) = (K.add (K.mul a c) (K.mul b c)) := by rw [mul_comm, mul_add, mul_comm c a, mul_comm c b]
theorem mul_inv {a : K} (h : a ≠ 0) : (K.mul a a.inv) = 1 := ext (Gf.mul_inv _ a.lt (ne_zero h))
theorem inv_mul {a : K} (h : a ≠ 0) : (K.mul a.inv a) = 1 := by rw [mul_comm, mul_inv h]
theorem mul_ne_zero {a b : K} (h : a ≠ 0) (g : b ≠ 0) : (K.mul a b) ≠ 0 := fun e => Gf.mul_ne_zero _ _ a.lt b.lt (ne_zero h) (ne_zero g) (congrArg K.n e)
theorem eq_zero_of_mul {a b : K} (h : (K.mul a b) = 0) (g : b ≠ 0) : a = 0 := Classical.byContradiction fun e => mul_ne_zero e g h
theorem inv_ne_zero {a : K} (h : a ≠ 0) : a.inv ≠ 0 := fun e => one_ne_zero (by rw [<- mul_inv h, e, mul_zero])
theorem add_eq_zero {a b : K} (h : (K.add a b) = 0) : a = b := by
  have : (K.add (K.add a b) b) = (K.add 0 b) := by rw [h]
  rwa [add_assoc, add_self, add_zero, zero_add] at this
theorem sub_ne {a b : K} (h : a ≠ b) : (K.add a b) ≠ 0 := fun e => h (add_eq_zero e)
theorem aA : Std.Associative K.add := ⟨add_assoc⟩
theorem cA : Std.Commutative K.add := ⟨add_comm⟩
theorem aM : Std.Associative K.mul := ⟨mul_assoc⟩
theorem cM : Std.Commutative K.mul := ⟨mul_comm⟩
end K
abbrev M := Nat -> Nat -> K
def sum (n : Nat) (f : Nat -> K) : K := match n with
  | 0 => 0
  | k + 1 => (K.add (sum k f) (f k))
theorem sum_succ (n : Nat) (f : Nat -> K) : sum (n + 1) f = (K.add (sum n f) (f n)) := rfl
theorem sum_congr {n : Nat} {f g : Nat -> K} (h : ∀ i, i < n -> f i = g i) : sum n f = sum n g := by
  induction n with
  | zero => rfl
  | succ n ih => rw [sum_succ, sum_succ, ih (fun i hi => h i (by omega)), h n (by omega)]
theorem sum_zero {n : Nat} {f : Nat -> K} (h : ∀ i, i < n -> f i = 0) : sum n f = 0 := by
  induction n with
  | zero => rfl
  | succ n ih => rw [sum_succ, ih (fun i hi => h i (by omega)), h n (by omega), K.add_zero]
theorem sum_add (n : Nat) (f g : Nat -> K) : sum n (fun i => (K.add (f i) (g i))) = (K.add (sum n f) (sum n g)) := by
  induction n with
  | zero => exact (K.add_zero 0).symm
  | succ n ih => rw [sum_succ, sum_succ, sum_succ, ih]; (have := K.aA; have := K.cA; have := K.aM; have := K.cM; ac_rfl)
theorem sum_mul (n : Nat) (c : K) (f : Nat -> K) : sum n (fun i => (K.mul c (f i))) = (K.mul c (sum n f)) := by
  induction n with
  | zero => exact (K.mul_zero c).symm
  | succ n ih => rw [sum_succ, sum_succ, ih, K.mul_add]
theorem sum_mul' (n : Nat) (c : K) (f : Nat -> K) : sum n (fun i => (K.mul (f i) c)) = (K.mul (sum n f) c) := by
  rw [K.mul_comm, <- sum_mul]; exact sum_congr fun i _ => K.mul_comm _ _
theorem sum_comm (n m : Nat) (f : Nat -> Nat -> K) : sum n (fun i => sum m (f i)) = sum m (fun j => sum n (fun i => f i j)) := by
  induction n with
  | zero => exact (sum_zero fun _ _ => rfl).symm
  | succ n ih => rw [sum_succ, ih, <- sum_add]; exact sum_congr fun _ _ => rfl
theorem sum_cut {b n : Nat} {f : Nat -> K} (hb : b <= n) (h : ∀ i, b <= i -> i < n -> f i = 0) : sum n f = sum b f := by
  induction n with
  | zero => rw [show b = 0 by omega]
  | succ n ih =>
    by_cases e : b = n + 1
    · rw [e]
    · rw [sum_succ, h n (by omega) (by omega), K.add_zero, ih (by omega) (fun i h1 h2 => h i h1 (by omega))]
theorem sum_one {n k : Nat} {f : Nat -> K} (hk : k < n) (h : ∀ i, i < n -> i ≠ k -> f i = 0) : sum n f = f k := by
  induction n with
  | zero => omega
  | succ n ih =>
    by_cases e : k = n
    · subst e; rw [sum_succ, sum_zero (fun i hi => h i (by omega) (by omega)), K.zero_add]
    · rw [sum_succ, h n (by omega) (by omega), K.add_zero, ih (by omega) (fun i hi hne => h i (by omega) hne)]
def mm (n : Nat) (A B : M) : M := fun i j => sum n fun l => (K.mul (A i l) (B l j))
def one : M := fun i j => if i = j then 1 else 0
def turn (A : M) : M := fun i j => A j i
theorem one_self (i : Nat) : one i i = 1 := if_pos rfl
theorem one_ne {i j : Nat} (h : i ≠ j) : one i j = 0 := if_neg h
theorem mm_congr {n : Nat} {A A' B B' : M} {i j : Nat} (h : ∀ l, l < n -> A i l = A' i l) (g : ∀ l, l < n -> B l j = B' l j) : mm n A B i j = mm n A' B' i j :=
  sum_congr fun l hl => by rw [h l hl, g l hl]
theorem mm_assoc (p q : Nat) (A B C : M) (i j : Nat) : mm p (mm q A B) C i j = mm q A (mm p B C) i j := by
  show sum p (fun l => (K.mul (sum q (fun k => (K.mul (A i k) (B k l)))) (C l j))) = sum q (fun k => (K.mul (A i k) (sum p (fun l => (K.mul (B k l) (C l j))))))
  rw [show (fun l => (K.mul (sum q (fun k => (K.mul (A i k) (B k l)))) (C l j))) = fun l => sum q (fun k => (K.mul (K.mul (A i k) (B k l)) (C l j))) from funext fun l => (sum_mul' q (C l j) _).symm]
  rw [sum_comm]
  exact sum_congr fun k _ => by rw [<- sum_mul]; exact sum_congr fun l _ => K.mul_assoc _ _ _
theorem one_mm {n : Nat} {A : M} {i j : Nat} (hi : i < n) : mm n one A i j = A i j := by
  show sum n (fun l => (K.mul (one i l) (A l j))) = _
  rw [sum_one hi (fun l _ h => by rw [one_ne (Ne.symm h), K.zero_mul]), one_self, K.one_mul]
theorem mm_one {n : Nat} {A : M} {i j : Nat} (hj : j < n) : mm n A one i j = A i j := by
  show sum n (fun l => (K.mul (A i l) (one l j))) = _
  rw [sum_one hj (fun l _ h => by rw [one_ne h, K.mul_zero]), one_self, K.mul_one]
theorem turn_mm (n : Nat) (A B : M) (i j : Nat) : mm n (turn B) (turn A) i j = mm n A B j i := sum_congr fun _ _ => K.mul_comm _ _
def swp (b i0 : Nat) (X : M) : M := fun i => if i = b then X i0 else if i = i0 then X b else X i
def clr (b : Nat) (s : K) (t : Nat -> K) (X : M) : M := fun i j => if i = b then (K.mul s (X b j)) else (K.add (X i j) (K.mul (t i) (X b j)))
theorem swp_swp (b i0 : Nat) (X : M) : swp b i0 (swp b i0 X) = X := by
  funext i
  unfold swp
  by_cases h : i = b
  · subst h
    by_cases g : i0 = i
    · subst g; simp
    · simp [g]
  · by_cases g : i = i0
    · subst g; simp [h]
    · simp [h, g]
theorem clr_clr (b : Nat) (s : K) (hs : s ≠ 0) (t : Nat -> K) (X : M) : clr b s.inv (fun i => (K.mul (t i) s.inv)) (clr b s t X) = X := by
  funext i j
  unfold clr
  by_cases h : i = b
  · subst h; rw [if_pos rfl, if_pos rfl, <- K.mul_assoc, K.inv_mul hs, K.one_mul]
  · rw [if_neg h, if_neg h, if_pos rfl, <- K.mul_assoc, K.mul_assoc (t i), K.inv_mul hs, K.mul_one, K.add_assoc, K.add_self, K.add_zero]
theorem clr_clr' (b : Nat) (s : K) (hs : s ≠ 0) (t : Nat -> K) (X : M) : clr b s t (clr b s.inv (fun i => (K.mul (t i) s.inv)) X) = X := by
  funext i j
  unfold clr
  by_cases h : i = b
  · subst h; rw [if_pos rfl, if_pos rfl, <- K.mul_assoc, K.mul_inv hs, K.one_mul]
  · rw [if_neg h, if_neg h, if_pos rfl, <- K.mul_assoc, K.add_assoc, K.add_self, K.add_zero]
structure Step (n : Nat) (T T' : M -> M) : Prop where
  back : ∀ X, T' (T X) = X
  forth : ∀ X, T (T' X) = X
  lin : ∀ X Y i j, mm n (T X) Y i j = T (mm n X Y) i j
  lin' : ∀ X Y i j, mm n (T' X) Y i j = T' (mm n X Y) i j
  low : ∀ X Y j, (∀ i, i < n -> X i j = Y i j) -> ∀ i, i < n -> T X i j = T Y i j
  low' : ∀ X Y j, (∀ i, i < n -> X i j = Y i j) -> ∀ i, i < n -> T' X i j = T' Y i j
theorem swp_lin (n b i0 : Nat) (X Y : M) (i j : Nat) : mm n (swp b i0 X) Y i j = swp b i0 (mm n X Y) i j := by
  unfold swp mm
  by_cases h : i = b
  · simp [h]
  · by_cases g : i = i0
    · subst g; simp [h]
    · simp [h, g]
theorem swp_low {n b i0 : Nat} (hb : b < n) (hi : i0 < n) (X Y : M) (j : Nat) (h : ∀ i, i < n -> X i j = Y i j) (i : Nat) (hl : i < n) : swp b i0 X i j = swp b i0 Y i j := by
  unfold swp
  by_cases e : i = b
  · simp only [e, if_true]; exact h _ hi
  · by_cases g : i = i0
    · simp only [g, if_true]
      split
      · exact h _ hi
      · exact h _ hb
    · simp only [e, g, if_false]; exact h _ hl
theorem clr_lin (n b : Nat) (s : K) (t : Nat -> K) (X Y : M) (i j : Nat) : mm n (clr b s t X) Y i j = clr b s t (mm n X Y) i j := by
  unfold clr mm
  by_cases h : i = b
  · simp only [h, if_true]; rw [<- sum_mul]; exact sum_congr fun l _ => K.mul_assoc _ _ _
  · simp only [h, if_false]; rw [<- sum_mul, <- sum_add]; exact sum_congr fun l _ => by rw [K.add_mul, K.mul_assoc]
theorem clr_low {n b : Nat} (hb : b < n) (s : K) (t : Nat -> K) (X Y : M) (j : Nat) (h : ∀ i, i < n -> X i j = Y i j) (i : Nat) (hl : i < n) : clr b s t X i j = clr b s t Y i j := by
  unfold clr
  rw [h b hb, h i hl]
theorem step_swp {n b i0 : Nat} (hb : b < n) (hi : i0 < n) : Step n (swp b i0) (swp b i0) :=
  ⟨swp_swp b i0, swp_swp b i0, swp_lin n b i0, swp_lin n b i0, swp_low hb hi, swp_low hb hi⟩
theorem step_clr {n b : Nat} (hb : b < n) (s : K) (hs : s ≠ 0) (t : Nat -> K) : Step n (clr b s t) (clr b s.inv fun i => (K.mul (t i) s.inv)) :=
  ⟨clr_clr b s hs t, clr_clr' b s hs t, clr_lin n b s t, clr_lin n b _ _, clr_low hb _ _, clr_low hb _ _⟩
structure By (n : Nat) (A P E F : M) : Prop where
  ef : ∀ i j, i < n -> j < n -> mm n E F i j = one i j
  fe : ∀ i j, i < n -> j < n -> mm n F E i j = one i j
  is : ∀ i j, i < n -> P i j = mm n E A i j
theorem By.refl (n : Nat) (A : M) : By n A A one one :=
  ⟨fun _ _ hi _ => one_mm hi, fun _ _ hi _ => one_mm hi, fun _ _ hi => (one_mm hi).symm⟩
theorem By.step {n : Nat} {A P E F : M} {T T' : M -> M} (h : By n A P E F) (s : Step n T T') : By n A (T P) (T E) (mm n F (T' one)) := by
  refine ⟨fun i j hi hj => ?_, fun i j hi hj => ?_, fun i j hi => ?_⟩
  · rw [<- mm_assoc, mm_congr (A' := T one) (B' := T' one) (fun l hl => by rw [s.lin, s.low _ one l (fun k hk => h.ef k l hk hl) i hi]) (fun _ _ => rfl), s.lin, s.low _ (T' one) j (fun k hk => one_mm hk) i hi, s.forth]
  · rw [mm_assoc, mm_congr (A' := F) (B' := E) (fun _ _ => rfl) (fun l hl => by rw [s.lin', s.low' _ (T E) j (fun k hk => one_mm hk) l hl, s.back])]
    exact h.fe i j hi hj
  · rw [s.low _ _ j (fun k hk => h.is k j hk) i hi, <- s.lin]
structure Red (z : Bool) (n : Nat) (A : M) (c b : Nat) (P : M) : Prop where
  by_ : ∃ E F, By n A P E F
  rows : b <= n
  cols : b <= c
  piv : ∃ p : Nat -> Nat, ∃ d : Nat -> K, (∀ l, l < b -> p l < c /\ d l ≠ 0 /\ (z = true -> d l = 1) /\ ∀ i, i < n -> P i (p l) = if i = l then d l else 0) /\ (b = c -> ∀ l, l < b -> p l = l)
  zero : ∀ i, b <= i -> i < n -> ∀ j, j < c -> P i j = 0
theorem Red.start (z : Bool) (n : Nat) (A : M) : Red z n A 0 0 A :=
  ⟨⟨_, _, By.refl n A⟩, Nat.zero_le _, Nat.le_refl _, ⟨id, fun _ => 1, fun _ h => absurd h (Nat.not_lt_zero _), fun _ _ _ => rfl⟩, fun _ _ _ _ h => absurd h (Nat.not_lt_zero _)⟩
theorem Red.skip {z : Bool} {n c b : Nat} {A P : M} (h : Red z n A c b P) (h0 : ∀ i, b <= i -> i < n -> P i c = 0) : Red z n A (c + 1) b P := by
  refine ⟨h.by_, h.rows, Nat.le_succ_of_le h.cols, ?_, fun i h1 h2 j hj => ?_⟩
  · obtain ⟨p, d, hp, _⟩ := h.piv
    refine ⟨p, d, fun l hl => ?_, fun e => absurd h.cols (by omega)⟩
    obtain ⟨h1, h2⟩ := hp l hl
    exact ⟨by omega, h2⟩
  · by_cases e : j = c
    · rw [e]; exact h0 i h1 h2
    · exact h.zero i h1 h2 j (by omega)
theorem Red.take {z : Bool} {n c b i0 : Nat} {A P : M} (h : Red z n A c b P) (h1 : b <= i0) (h2 : i0 < n) (s : K) (hs : s ≠ 0) (t : Nat -> K) (hne : P i0 c ≠ 0) (hz : z = true -> (K.mul s (P i0 c)) = 1)
    (ht : ∀ i, i < n -> i ≠ b -> (K.add (swp b i0 P i c) (K.mul (t i) (P i0 c))) = 0) : Red z n A (c + 1) (b + 1) (clr b s t (swp b i0 P)) := by
  have hb : b < n := by omega
  obtain ⟨E, F, hE⟩ := h.by_
  refine ⟨⟨_, _, (hE.step (step_swp hb h2)).step (step_clr hb s hs t)⟩, hb, Nat.succ_le_succ h.cols, ?_, fun i g1 g2 j hj => ?_⟩
  · obtain ⟨p, d, hp, hid⟩ := h.piv
    refine ⟨fun l => if l = b then c else p l, fun l => if l = b then (K.mul s (P i0 c)) else d l, fun l hl => ?_, fun e l hl => ?_⟩
    · by_cases e : l = b
      · subst e
        simp only [if_true]
        refine ⟨by omega, K.mul_ne_zero hs hne, hz, fun i hi => ?_⟩
        unfold clr
        by_cases g : i = l
        · rw [if_pos g, if_pos g]; simp [swp]
        · rw [if_neg g, if_neg g, show swp l i0 P l = P i0 from by simp [swp]]; exact ht i hi g
      · simp only [e, if_false]
        obtain ⟨q1, q2, q3, q4⟩ := hp l (by omega)
        refine ⟨by omega, q2, q3, fun i hi => ?_⟩
        have z1 : P i0 (p l) = 0 := by rw [q4 i0 h2, if_neg (by omega)]
        have z2 : P b (p l) = 0 := by rw [q4 b hb, if_neg (by omega)]
        unfold clr
        rw [show swp b i0 P b = P i0 from by simp [swp], z1, K.mul_zero, K.mul_zero, K.add_zero]
        by_cases g : i = b
        · rw [if_pos g, if_neg (by omega)]
        · rw [if_neg g, <- q4 i hi]
          unfold swp
          rw [if_neg g]
          by_cases g' : i = i0
          · rw [if_pos g', g', z1, z2]
          · rw [if_neg g']
    · have e' : b = c := by omega
      by_cases g : l = b
      · simp only [g, if_true]; omega
      · simp only [g, if_false]; exact hid e' l (by omega)
  · have hib : i ≠ b := by omega
    have zP : ∀ k, b <= k -> k < n -> j < c -> P k j = 0 := fun k k1 k2 k3 => h.zero k k1 k2 j k3
    by_cases e : j = c
    · subst e
      unfold clr
      rw [if_neg hib, show swp b i0 P b = P i0 from by simp [swp]]; exact ht i g2 hib
    · unfold clr
      rw [if_neg hib, show swp b i0 P b = P i0 from by simp [swp], zP i0 h1 h2 (by omega), K.mul_zero, K.add_zero]
      unfold swp
      rw [if_neg hib]
      split
      · exact zP b (Nat.le_refl _) hb (by omega)
      · exact zP i (by omega) g2 (by omega)
theorem Red.take1 {n c b i0 : Nat} {A P : M} (h : Red true n A c b P) (h1 : b <= i0) (h2 : i0 < n) (hne : P i0 c ≠ 0) :
    Red true n A (c + 1) (b + 1) (clr b (P i0 c).inv (fun i => (K.mul (swp b i0 P i c) ((P i0 c).inv))) (swp b i0 P)) :=
  h.take h1 h2 _ (K.inv_ne_zero hne) _ hne (fun _ => K.inv_mul hne) fun i _ _ => by rw [K.mul_assoc, K.inv_mul hne, K.mul_one, K.add_self]
theorem Red.any (n : Nat) (A : M) (c : Nat) : ∃ b P, Red true n A c b P := by
  induction c with
  | zero => exact ⟨_, _, Red.start true n A⟩
  | succ c ih =>
    obtain ⟨b, P, h⟩ := ih
    by_cases g : ∃ i, b <= i /\ i < n /\ P i c ≠ 0
    · obtain ⟨i, h1, h2, h3⟩ := g
      exact ⟨_, _, h.take1 h1 h2 h3⟩
    · exact ⟨_, _, h.skip fun i h1 h2 => Classical.byContradiction fun e => g ⟨i, h1, h2, e⟩⟩
def Fac (n m : Nat) (A : M) (r : Nat) : Prop := ∃ X Y : M, ∀ i j, i < n -> j < m -> A i j = mm r X Y i j
theorem dim {b r : Nat} {X Y : M} {d : Nat -> K} (hd : ∀ l, l < b -> d l ≠ 0) (h : ∀ i l, i < b -> l < b -> mm r X Y i l = if i = l then d l else 0) : b <= r := by
  by_cases hlt : r < b
  · exfalso
    obtain ⟨b', P, hr⟩ := Red.any b X r
    obtain ⟨E, F, hE⟩ := hr.by_
    have hcols := hr.cols
    have z : ∀ l, l < b -> E (b - 1) l = 0 := fun l hl => by
      have e1 : mm b E (mm r X Y) (b - 1) l = (K.mul (E (b - 1) l) (d l)) := by
        show sum b (fun k => (K.mul (E (b - 1) k) (mm r X Y k l))) = _
        rw [sum_one hl (fun k hk hne => by rw [h k l hk hl, if_neg hne, K.mul_zero]), h l l hl hl, if_pos rfl]
      rw [<- mm_assoc] at e1
      have e2 : mm r (mm b E X) Y (b - 1) l = 0 := sum_zero fun q hq => by rw [<- hE.is (b - 1) q (by omega), hr.zero (b - 1) (by omega) (by omega) q hq, K.zero_mul]
      rw [e2] at e1
      exact K.eq_zero_of_mul e1.symm (hd l hl)
    have e3 := hE.ef (b - 1) (b - 1) (by omega) (by omega)
    rw [one_self] at e3
    exact K.one_ne_zero (e3.symm.trans (sum_zero fun l hl => by rw [z l hl, K.zero_mul]))
  · omega
def Rk (n m : Nat) (A : M) (b : Nat) : Prop := Fac n m A b /\ ∀ r, Fac n m A r -> b <= r
theorem Rk.unique {n m b b' : Nat} {A : M} (h : Rk n m A b) (h' : Rk n m A b') : b = b' := Nat.le_antisymm (h.2 _ h'.1) (h'.2 _ h.1)
theorem By.undo {n : Nat} {A P E F : M} (h : By n A P E F) (i j : Nat) (hi : i < n) : A i j = mm n F P i j := by
  rw [mm_congr (A' := F) (B' := mm n E A) (fun _ _ => rfl) (fun l hl => h.is l j hl), <- mm_assoc, mm_congr (A' := one) (B' := A) (fun l hl => h.fe i l hi hl) (fun _ _ => rfl), one_mm hi]
theorem Red.rk {z : Bool} {n c b : Nat} {A P : M} (h : Red z n A c b P) : Rk n c A b := by
  obtain ⟨E, F, hE⟩ := h.by_
  refine ⟨⟨F, P, fun i j hi hj => ?_⟩, ?_⟩
  · rw [hE.undo i j hi]
    exact sum_cut h.rows fun l h1 h2 => by rw [h.zero l h1 h2 j hj, K.mul_zero]
  · rintro r ⟨X, Y, hXY⟩
    obtain ⟨p, d, hp, _⟩ := h.piv
    have hrows := h.rows
    refine dim (X := mm n E X) (Y := fun q l => Y q (p l)) (d := d) (fun l hl => (hp l hl).2.1) fun i l hi hl => ?_
    rw [<- (hp l hl).2.2.2 i (by omega), hE.is i (p l) (by omega)]
    show mm r (mm n E X) Y i (p l) = _
    rw [mm_assoc]
    exact mm_congr (fun _ _ => rfl) fun k hk => (hXY k (p l) hk (hp l hl).1).symm
theorem Rk.congr {n m b : Nat} {A B : M} (h : Rk n m A b) (e : ∀ i j, i < n -> j < m -> A i j = B i j) : Rk n m B b := by
  obtain ⟨⟨X, Y, hXY⟩, g⟩ := h
  refine ⟨⟨X, Y, fun i j hi hj => by rw [<- e i j hi hj]; exact hXY i j hi hj⟩, ?_⟩
  rintro r ⟨X', Y', h'⟩
  exact g r ⟨X', Y', fun i j hi hj => by rw [e i j hi hj]; exact h' i j hi hj⟩
theorem Fac.turn {n m r : Nat} {A : M} (h : Fac n m A r) : Fac m n (turn A) r := by
  obtain ⟨X, Y, hXY⟩ := h
  exact ⟨Go.Proofs.YtngcdlodcdgcaaaGreat.Cod.turn Y, Go.Proofs.YtngcdlodcdgcaaaGreat.Cod.turn X, fun i j hi hj => by rw [turn_mm]; exact hXY j i hj hi⟩
theorem Rk.turn {n m b : Nat} {A : M} (h : Rk n m A b) : Rk m n (turn A) b := ⟨h.1.turn, fun r hr => h.2 r hr.turn⟩
def IsInv (n : Nat) (A V : M) : Prop := ∀ i j, i < n -> j < n -> mm n V A i j = one i j /\ mm n A V i j = one i j
theorem IsInv.unique {n : Nat} {A V W : M} (h : IsInv n A V) (g : ∀ i j, i < n -> j < n -> mm n W A i j = one i j) (i j : Nat) (hi : i < n) (hj : j < n) : W i j = V i j := by
  have e : mm n (mm n W A) V i j = mm n W (mm n A V) i j := mm_assoc n n W A V i j
  rw [mm_congr (A' := one) (B' := V) (fun l hl => g i l hi hl) (fun _ _ => rfl), one_mm hi] at e
  rw [e, mm_congr (A' := W) (B' := one) (fun _ _ => rfl) (fun l hl => (h l j hl hj).2), mm_one hj]
theorem IsInv.rk {n : Nat} {A V : M} (h : IsInv n A V) : Rk n n A n := by
  refine ⟨⟨one, A, fun i j hi _ => (one_mm hi).symm⟩, ?_⟩
  rintro r ⟨X, Y, hXY⟩
  refine dim (X := mm n V X) (Y := Y) (d := fun _ => 1) (fun _ _ => K.one_ne_zero) fun i l hi hl => ?_
  rw [mm_assoc, mm_congr (A' := V) (B' := A) (fun _ _ => rfl) (fun k hk => (hXY k l hk hl).symm), (h i l hi hl).1]
  rfl
def beside (n : Nat) (A : M) : M := fun i j => if j < n then A i j else one i (j - n)
theorem beside_rk {n b : Nat} {A : M} (h : Rk n n (beside n A) b) : Rk n n A b := h.congr fun _ _ _ hj => if_pos hj
theorem Red.inv {z : Bool} {n : Nat} {A P : M} (h : Red z n (beside n A) n n P) : IsInv n A (fun i j => (K.mul (P i (n + j)) ((P i i).inv))) := by
  obtain ⟨E, F, hE⟩ := h.by_
  obtain ⟨p, d, hp, hid⟩ := h.piv
  have hd : ∀ i, i < n -> d i ≠ 0 := fun i hi => (hp i hi).2.1
  have hPd : ∀ i j, i < n -> j < n -> P i j = if i = j then d j else 0 := fun i j hi hj => by
    have := (hp j hj).2.2.2 i hi
    rwa [hid rfl j hj] at this
  have hPr : ∀ i j, i < n -> j < n -> P i (n + j) = E i j := fun i j hi hj => by
    rw [hE.is i (n + j) hi, mm_congr (A' := E) (B' := fun l q => one l (q - n)) (fun _ _ => rfl) (fun l _ => if_neg (by omega))]
    show sum n (fun l => (K.mul (E i l) (one l (n + j - n)))) = _
    rw [Nat.add_sub_cancel_left]
    exact mm_one hj
  have hEA : ∀ i j, i < n -> j < n -> mm n E A i j = if i = j then d j else 0 := fun i j hi hj => by
    rw [<- hPd i j hi hj, hE.is i j hi]
    exact mm_congr (fun _ _ => rfl) fun l _ => (if_pos hj).symm
  have hdd : ∀ i, i < n -> P i i = d i := fun i hi => by rw [hPd i i hi hi, if_pos rfl]
  have hVA : ∀ i j, i < n -> j < n -> mm n (fun i j => (K.mul (P i (n + j)) ((P i i).inv))) A i j = one i j := fun i j hi hj => by
    have : mm n (fun i j => (K.mul (P i (n + j)) ((P i i).inv))) A i j = (K.mul ((d i).inv) (mm n E A i j)) := by
      show sum n (fun l => (K.mul (K.mul (P i (n + l)) ((P i i).inv)) (A l j))) = _
      refine Eq.trans ?_ (sum_mul n (d i).inv fun l => (K.mul (E i l) (A l j)))
      exact sum_congr fun l hl => by rw [hPr i l hi hl, hdd i hi]; (have := K.aA; have := K.cA; have := K.aM; have := K.cM; ac_rfl)
    rw [this, hEA i j hi hj]
    by_cases e : i = j
    · subst e; rw [if_pos rfl, one_self, K.inv_mul (hd i hi)]
    · rw [if_neg e, one_ne e, K.mul_zero]
  have hAF : ∀ i j, i < n -> j < n -> A i j = (K.mul (F i j) (d j)) := fun i j hi hj => by
    have e := hE.undo i j hi
    rw [show beside n A i j = A i j from if_pos hj] at e
    rw [e]
    show sum n (fun l => (K.mul (F i l) (P l j))) = _
    rw [sum_one hj fun l hl hne => by rw [hPd l j hl hj, if_neg hne, K.mul_zero], hdd j hj]
  refine fun i j hi hj => ⟨hVA i j hi hj, ?_⟩
  rw [<- hE.fe i j hi hj]
  show sum n (fun l => (K.mul (A i l) ((K.mul (P l (n + j)) ((P l l).inv))))) = sum n (fun l => (K.mul (F i l) (E l j)))
  exact sum_congr fun l hl => by
    rw [hAF i l hi hl, hPr l j hl hj, hdd l hl, K.mul_comm (E l j), <- K.mul_assoc, K.mul_assoc (F i l), K.mul_inv (hd l hl), K.mul_one]
theorem Red.one_diag {n : Nat} {A P : M} (h : Red true n A n n P) (i : Nat) (hi : i < n) : P i i = 1 := by
  obtain ⟨p, d, hp, hid⟩ := h.piv
  obtain ⟨_, _, h3, h4⟩ := hp i hi
  have := h4 i hi
  rwa [hid rfl i hi, if_pos rfl, h3 rfl] at this
theorem inv_of_rk {n : Nat} {A : M} (h : Rk n n A n) : ∃ V, IsInv n A V := by
  obtain ⟨b, P, hr⟩ := Red.any n (beside n A) n
  obtain rfl := (beside_rk hr.rk).unique h
  exact ⟨_, hr.inv⟩
def lookFor (P : M) (c b : Nat) : Nat -> Option Nat
  | 0 => none
  | q + 1 => if P b c = 0 then lookFor P c (b + 1) q else some b
theorem lookFor_none {P : M} {c b q : Nat} (h : lookFor P c b q = none) : ∀ i, b <= i -> i < b + q -> P i c = 0 := by
  induction q generalizing b with
  | zero => intro i h1 h2; omega
  | succ q ih =>
    unfold lookFor at h
    by_cases e : P b c = 0
    · rw [if_pos e] at h
      intro i h1 h2
      by_cases g : i = b
      · rw [g]; exact e
      · exact ih h i (by omega) (by omega)
    · rw [if_neg e] at h; cases h
theorem lookFor_some {P : M} {c b q i : Nat} (h : lookFor P c b q = some i) : b <= i /\ i < b + q /\ P i c ≠ 0 := by
  induction q generalizing b with
  | zero => cases h
  | succ q ih =>
    unfold lookFor at h
    by_cases e : P b c = 0
    · rw [if_pos e] at h
      have := ih h
      exact ⟨by omega, by omega, this.2.2⟩
    · rw [if_neg e] at h
      cases h
      exact ⟨Nat.le_refl _, by omega, e⟩
def redF (n : Nat) (A : M) : Nat -> Nat × M
  | 0 => (0, A)
  | c + 1 => match lookFor (redF n A c).2 c (redF n A c).1 (n - (redF n A c).1) with
    | none => redF n A c
    | some i => ((redF n A c).1 + 1, clr (redF n A c).1 ((redF n A c).2 i c).inv (fun k => K.mul (swp (redF n A c).1 i (redF n A c).2 k c) ((redF n A c).2 i c).inv) (swp (redF n A c).1 i (redF n A c).2))
theorem redF_red (n : Nat) (A : M) (c : Nat) : Red true n A c (redF n A c).1 (redF n A c).2 := by
  induction c with
  | zero => exact Red.start true n A
  | succ c ih =>
    have hr := ih.rows
    rw [redF]
    cases h : lookFor (redF n A c).2 c (redF n A c).1 (n - (redF n A c).1) with
    | none => exact ih.skip fun i h1 h2 => lookFor_none h i h1 (by omega)
    | some i =>
      obtain ⟨h1, h2, h3⟩ := lookFor_some h
      exact ih.take1 h1 (by omega) h3
def rankOf (n m : Nat) (A : M) : Nat := (redF n A m).1
theorem rankOf_rk (n m : Nat) (A : M) : Rk n m A (rankOf n m A) := (redF_red n A m).rk
theorem rankOf_eq {n m b : Nat} {A : M} (h : Rk n m A b) : rankOf n m A = b := (rankOf_rk n m A).unique h
def invB (n : Nat) (A : M) : Bool := decide (rankOf n n A = n)
def invOf (n : Nat) (A : M) : M := fun i j => (redF n (beside n A) n).2 i (n + j)
theorem invB_rk (n : Nat) (A : M) : invB n A = decide (rankOf n n A = n) := rfl
theorem invB_of {n : Nat} {A V : M} (h : IsInv n A V) : invB n A = true := decide_eq_true (rankOf_eq h.rk)
theorem IsInv.same {n : Nat} {A V W : M} (h : IsInv n A V) (e : ∀ i j, i < n -> j < n -> V i j = W i j) : IsInv n A W := fun i j hi hj =>
  ⟨by rw [<- (h i j hi hj).1]; exact mm_congr (fun l hl => (e i l hi hl).symm) fun _ _ => rfl, by rw [<- (h i j hi hj).2]; exact mm_congr (fun _ _ => rfl) fun l hl => (e l j hl hj).symm⟩
theorem inv_one_k : (1 : K).inv = 1 := by have := K.mul_inv K.one_ne_zero; rwa [K.one_mul] at this
theorem invB_is {n : Nat} {A : M} (h : invB n A = true) : IsInv n A (invOf n A) := by
  have hr := redF_red n (beside n A) n
  have e : (redF n (beside n A) n).1 = n := (beside_rk hr.rk).unique (by have := rankOf_rk n n A; rwa [of_decide_eq_true h] at this)
  rw [e] at hr
  exact hr.inv.same fun i j hi _ => by rw [hr.one_diag i hi, inv_one_k, K.mul_one]; rfl
theorem invOf_eq {n : Nat} {A V : M} (h : IsInv n A V) (i j : Nat) (hi : i < n) (hj : j < n) : V i j = invOf n A i j :=
  (invB_is (invB_of h)).unique (fun i j hi hj => (h i j hi hj).1) i j hi hj
theorem rk_of_ker {k : Nat} {A : M} (h : ∀ u : Nat -> K, (∀ t, t < k -> sum k (fun l => (K.mul (A t l) (u l))) = 0) -> ∀ l, l < k -> u l = 0) : Rk k k A k := by
  obtain ⟨b, P, hr⟩ := Red.any k (turn A) k
  have hrk := hr.rk.turn
  have hb := hr.rows
  by_cases e : b = k
  · rw [e] at hrk; exact hrk
  · exfalso
    obtain ⟨E, F, hE⟩ := hr.by_
    have hz := h (fun l => E (k - 1) l) fun t ht => by
      have := hr.zero (k - 1) (by omega) (by omega) t ht
      rw [hE.is (k - 1) t (by omega)] at this
      rw [<- this]
      exact sum_congr fun l _ => K.mul_comm _ _
    have e3 := hE.ef (k - 1) (k - 1) (by omega) (by omega)
    rw [one_self] at e3
    exact K.one_ne_zero (e3.symm.trans (sum_zero fun l hl => by rw [hz l hl, K.zero_mul]))
def Poly : Nat -> (K -> K) -> Prop
  | 0, f => ∀ x, f x = 0
  | k + 1, f => ∃ g : K -> K, ∃ c : K, Poly k g /\ ∀ x, f x = (K.add c (K.mul x (g x)))
theorem Poly.congr {k : Nat} {f g : K -> K} (h : Poly k f) (e : ∀ x, f x = g x) : Poly k g := by
  cases k with
  | zero => exact fun x => by rw [<- e x]; exact h x
  | succ k =>
    obtain ⟨g', c, h1, h2⟩ := h
    exact ⟨g', c, h1, fun x => by rw [<- e x]; exact h2 x⟩
theorem Poly.nil (k : Nat) : Poly k (fun _ => 0) := by
  induction k with
  | zero => exact fun _ => rfl
  | succ k ih => exact ⟨_, 0, ih, fun x => by rw [K.mul_zero, K.add_zero]⟩
theorem Poly.step (k : Nat) (g : K -> K) (c : K) (h : Poly k g) : Poly (k + 1) (fun x => (K.add c (K.mul x (g x)))) := ⟨g, c, h, fun _ => rfl⟩
theorem Poly.add {k : Nat} {f g : K -> K} (hf : Poly k f) (hg : Poly k g) : Poly k (fun x => (K.add (f x) (g x))) := by
  induction k generalizing f g with
  | zero => exact fun x => by simp only [hf x, hg x]; exact K.add_zero 0
  | succ k ih =>
    obtain ⟨f', c, h1, h2⟩ := hf
    obtain ⟨g', d, h3, h4⟩ := hg
    refine ⟨fun x => (K.add (f' x) (g' x)), (K.add c d), ih h1 h3, fun x => ?_⟩
    simp only [h2 x, h4 x, K.mul_add]
    (have := K.aA; have := K.cA; have := K.aM; have := K.cM; ac_rfl)
theorem Poly.scale {k : Nat} {f : K -> K} (c : K) (hf : Poly k f) : Poly k (fun x => (K.mul c (f x))) := by
  induction k generalizing f with
  | zero => exact fun x => by simp only [hf x]; exact K.mul_zero c
  | succ k ih =>
    obtain ⟨f', d, h1, h2⟩ := hf
    refine ⟨fun x => (K.mul c (f' x)), (K.mul c d), ih h1, fun x => ?_⟩
    simp only [h2 x, K.mul_add]
    congr 1
    (have := K.aA; have := K.cA; have := K.aM; have := K.cM; ac_rfl)
theorem Poly.more {k : Nat} {f : K -> K} (hf : Poly k f) : Poly (k + 1) f := by
  induction k generalizing f with
  | zero => exact (Poly.nil 1).congr fun x => (hf x).symm
  | succ k ih =>
    obtain ⟨f', d, h1, h2⟩ := hf
    exact ⟨f', d, ih h1, h2⟩
theorem Poly.times {k : Nat} {f : K -> K} (c : K) (hf : Poly k f) : Poly (k + 1) (fun x => (K.mul (f x) ((K.add x c)))) := by
  refine ((Poly.step k f 0 hf).add (hf.scale c).more).congr fun x => ?_
  rw [K.zero_add, K.mul_add, K.mul_comm x, K.mul_comm c]
theorem Poly.sums {k : Nat} (m : Nat) (f : Nat -> K -> K) (h : ∀ j, j < m -> Poly k (f j)) : Poly k (fun x => sum m fun j => f j x) := by
  induction m with
  | zero => exact Poly.nil k
  | succ m ih => exact (ih fun j hj => h j (by omega)).add (h m (by omega))
theorem Poly.root {k : Nat} {f : K -> K} (hf : Poly (k + 1) f) (a : K) : ∃ g, Poly k g /\ ∀ x, (K.add (f x) (f a)) = (K.mul ((K.add x a)) (g x)) := by
  induction k generalizing f with
  | zero =>
    obtain ⟨h, c, h1, h2⟩ := hf
    exact ⟨fun _ => 0, fun _ => rfl, fun x => by rw [h2 x, h2 a, h1 x, h1 a, K.mul_zero, K.mul_zero, K.mul_zero, K.add_zero, K.add_self]⟩
  | succ k ih =>
    obtain ⟨h, c, hh, h2⟩ := hf
    obtain ⟨g, hg, e⟩ := ih hh
    refine ⟨_, Poly.step k g (h a) hg, fun x => ?_⟩
    have e1 : h x = (K.add (h a) (K.mul ((K.add x a)) (g x))) := by rw [<- e x, K.add_comm (h x), <- K.add_assoc, K.add_self, K.zero_add]
    rw [h2 x, h2 a]
    show (K.add (K.add c (K.mul x (h x))) ((K.add c (K.mul a (h a))))) = (K.mul ((K.add x a)) ((K.add (h a) (K.mul x (g x)))))
    rw [show (K.add (K.add c (K.mul x (h x))) ((K.add c (K.mul a (h a))))) = (K.add (K.add c c) ((K.add (K.mul x (h x)) (K.mul a (h a))))) by (have := K.aA; have := K.cA; have := K.aM; have := K.cM; ac_rfl), K.add_self, K.zero_add, e1, K.mul_add, K.mul_add, K.add_mul x a (h a)]
    rw [show (K.mul x ((K.mul ((K.add x a)) (g x)))) = (K.mul ((K.add x a)) ((K.mul x (g x)))) by (have := K.aA; have := K.cA; have := K.aM; have := K.cM; ac_rfl)]
    (have := K.aA; have := K.cA; have := K.aM; have := K.cM; ac_rfl)
theorem Poly.roots {k : Nat} {f : K -> K} (hf : Poly k f) (a : Nat -> K) (hz : ∀ i, i < k -> f (a i) = 0) (hd : ∀ i j, i < j -> j < k -> a i ≠ a j) (x : K) : f x = 0 := by
  induction k generalizing f with
  | zero => exact hf x
  | succ k ih =>
    obtain ⟨g, hg, e⟩ := hf.root (a k)
    have e' : ∀ x, f x = (K.mul ((K.add x (a k))) (g x)) := fun x => by rw [<- e x, hz k (by omega), K.add_zero]
    rw [e' x, ih hg (fun i hi => ?_) (fun i j hi hj => hd i j hi (by omega)), K.mul_zero]
    have := hz i (by omega)
    rw [e', K.mul_comm] at this
    exact K.eq_zero_of_mul this (K.sub_ne (hd i k hi (by omega)))
def pr (X : Nat -> K) (j : Nat) : Nat -> K -> K
  | 0, _ => 1
  | m + 1, x => if m = j then pr X j m x else (K.mul (pr X j m x) ((K.add x (X m))))
theorem pr_poly (X : Nat -> K) (j m : Nat) : Poly (m + 1) (pr X j m) /\ (j < m -> Poly m (pr X j m)) := by
  induction m with
  | zero =>
    exact ⟨(Poly.step 0 _ 1 (Poly.nil 0)).congr fun x => by rw [K.mul_zero, K.add_zero]; rfl, fun h => absurd h (Nat.not_lt_zero _)⟩
  | succ m ih =>
    by_cases e : m = j
    · have : pr X j (m + 1) = pr X j m := funext fun x => if_pos e
      rw [this]
      exact ⟨ih.1.more, fun _ => ih.1⟩
    · have : pr X j (m + 1) = fun x => (K.mul (pr X j m x) ((K.add x (X m)))) := funext fun x => if_neg e
      rw [this]
      exact ⟨ih.1.times _, fun h => (ih.2 (by omega)).times _⟩
theorem pr_zero (X : Nat -> K) (j l m : Nat) (hl : l < m) (hj : l ≠ j) : pr X j m (X l) = 0 := by
  induction m with
  | zero => omega
  | succ m ih =>
    show (if m = j then _ else _) = _
    by_cases e : m = l
    · subst e; rw [if_neg hj, K.add_self, K.mul_zero]
    · rw [ih (by omega), K.zero_mul]; split <;> rfl
theorem pr_ne (X : Nat -> K) (j m : Nat) (x : K) (h : ∀ i, i < m -> i ≠ j -> x ≠ X i) : pr X j m x ≠ 0 := by
  induction m with
  | zero => exact K.one_ne_zero
  | succ m ih =>
    show (if m = j then _ else _) ≠ _
    split
    · exact ih fun i hi => h i (by omega)
    · rename_i e
      exact K.mul_ne_zero (ih fun i hi => h i (by omega)) (K.sub_ne (h m (by omega) e))
theorem pr_full (X : Nat -> K) (j m : Nat) (x : K) (hj : j < m) : (K.mul (pr X j m x) ((K.add x (X j)))) = pr X m m x := by
  have aux : ∀ q m', m' <= q -> ∀ q', m' <= q' -> pr X q m' x = pr X q' m' x := by
    intro q m'
    induction m' with
    | zero => intro _ _ _; rfl
    | succ m' ih =>
      intro h1 q' h2
      show (if m' = q then _ else _) = (if m' = q' then _ else _)
      rw [if_neg (by omega), if_neg (by omega), ih (by omega) q' (by omega)]
  induction m with
  | zero => omega
  | succ m ih =>
    show (K.mul (if m = j then _ else _) _) = (if m = m + 1 then _ else _)
    rw [if_neg (show ¬ m = m + 1 by omega)]
    by_cases e : m = j
    · subst e; rw [if_pos rfl, aux m m (Nat.le_refl _) (m + 1) (by omega)]
    · rw [if_neg e, aux (m + 1) m (by omega) m (Nat.le_refl _), <- ih (by omega)]; (have := K.aA; have := K.cA; have := K.aM; have := K.cM; ac_rfl)
def cau (k : Nat) : M := fun i j => ((K.add (K.of (k + i)) (K.of j))).inv
def gen (k : Nat) : M := fun p j => if p < k then one p j else cau k (p - k) j
theorem of_inj {a b : Nat} (ha : a < 256) (hb : b < 256) (h : K.of a = K.of b) : a = b := by rw [<- K.of_n a ha, <- K.of_n b hb, h]
theorem gen_rk (k m : Nat) (R : Nat -> Nat) (hm : m <= 256) (hR : ∀ t, t < k -> R t < m) (hd : ∀ i j, i < j -> j < k -> R i ≠ R j) (hk : k <= 256) : Rk k k (fun t j => gen k (R t) j) k := by
  refine rk_of_ker fun u hu l hl => ?_
  have hX : ∀ i j, i < 256 -> j < 256 -> i ≠ j -> K.of i ≠ K.of j := fun i j hi hj hne e => hne (of_inj hi hj e)
  have hN : Poly k (fun x => sum k fun j => (K.mul (u j) (pr K.of j k x))) := Poly.sums k _ fun j hj => ((pr_poly K.of j k).2 hj).scale _
  have hz : ∀ x, (sum k fun j => (K.mul (u j) (pr K.of j k x))) = 0 := fun x => by
    refine hN.roots (fun t => K.of (R t)) (fun t ht => ?_) (fun i j hi hj => hX _ _ (by have := hR i (by omega); omega) (by have := hR j hj; omega) (hd i j hi hj)) x
    have hut := hu t ht
    have hRt := hR t ht
    by_cases g : R t < k
    · have e1 : u (R t) = 0 := by
        have : sum k (fun l => (K.mul (gen k (R t) l) (u l))) = u (R t) := by
          rw [sum_one g fun l _ hne => by rw [gen, if_pos g, one_ne (Ne.symm hne), K.zero_mul], gen, if_pos g, one_self, K.one_mul]
        rw [<- this]; exact hut
      exact sum_zero fun j hj => by
        by_cases e : j = R t
        · rw [e, e1, K.zero_mul]
        · rw [pr_zero K.of j (R t) k g (Ne.symm e), K.mul_zero]
    · have e2 : (sum k fun j => (K.mul (u j) (pr K.of j k (K.of (R t))))) = (K.mul (pr K.of k k (K.of (R t))) (sum k (fun l => (K.mul (gen k (R t) l) (u l))))) := by
        refine Eq.trans ?_ (sum_mul k _ _)
        refine sum_congr fun j hj => ?_
        have hne : (K.add (K.of (R t)) (K.of j)) ≠ 0 := K.sub_ne (hX _ _ (by omega) (by omega) (by omega))
        rw [gen, if_neg g, cau, show k + (R t - k) = R t by omega, <- pr_full K.of j k _ hj, K.mul_assoc, <- K.mul_assoc ((K.add (K.of (R t)) (K.of j))), K.mul_inv hne, K.one_mul, K.mul_comm]
      show (sum k fun j => (K.mul (u j) (pr K.of j k (K.of (R t))))) = 0
      rw [e2, hut, K.mul_zero]
  have e3 := hz (K.of l)
  rw [sum_one hl fun j _ hne => by rw [pr_zero K.of j l k hl (Ne.symm hne), K.mul_zero]] at e3
  exact K.eq_zero_of_mul e3 (pr_ne K.of l k _ fun i hi hne => hX _ _ (by omega) (by omega) (Ne.symm hne))
end Go.Proofs.YtngcdlodcdgcaaaGreat.Cod
namespace Go.Proofs.YtngcdlodcdgcaaaGreat.Cod
open Go.RowKit
structure Keeps (B T : Nat) (w w' : World) : Prop where
  os : w'.os = w.os
  tape : w'.tape = w.tape
  output : w'.output = w.output
  size : w.heap.size <= w'.heap.size
  block : ∀ k, k < w.heap.size -> k < B \/ T <= k -> w'.heap[k]? = w.heap[k]?
theorem Keeps.refl (B T : Nat) (w : World) : Keeps B T w w := ⟨rfl, rfl, rfl, Nat.le_refl _, fun _ _ _ => rfl⟩
theorem Keeps.trans {B T : Nat} {a b c : World} (h : Keeps B T a b) (k : Keeps B T b c) : Keeps B T a c :=
  ⟨k.os.trans h.os, k.tape.trans h.tape, k.output.trans h.output, Nat.le_trans h.size k.size, fun i hi hg => (k.block i (Nat.lt_of_lt_of_le hi h.size) hg).trans (h.block i hi hg)⟩
theorem Keeps.drew {B T : Nat} {a w : World} (h : Keeps B T a w) : Keeps B T a w.drew := ⟨h.os, h.tape, h.output, h.size, h.block⟩
theorem Keeps.drewN {B T : Nat} {a w : World} (h : Keeps B T a w) (n : Nat) : Keeps B T a (w.drewN n) := ⟨h.os, h.tape, h.output, h.size, h.block⟩
theorem Keeps.alloc {B T : Nat} {a w : World} (h : Keeps B T a w) (o : Obj) : Keeps B T a (w.alloc o) :=
  h.trans ⟨rfl, rfl, rfl, by simp, fun k hk _ => Below.heap_alloc _ _ _ hk⟩
theorem Keeps.setCell {B T g : Nat} {a w : World} (h : Keeps B T a w) (h1 : B <= g) (h2 : g < T) (i : Nat) (u : Value) : Keeps B T a (w.setCell ⟨g, i, none⟩ u) :=
  h.trans ⟨rfl, rfl, rfl, by simp [World.setCell], fun k _ hg => Below.heap_setCell _ _ _ _ (by simp; omega)⟩
theorem Keeps.of_below {B T : Nat} {w w' : World} (h : Below w.heap.size w w') : Keeps B T w w' := ⟨h.os, h.tape, h.output, h.size, fun k hk _ => h.block k hk⟩
theorem Keeps.below {B T C : Nat} {w w' : World} (h : Keeps B T w w') (hB : C <= w.heap.size) (hg : C <= B) : Below C w w' :=
  ⟨h.os, h.tape, h.output, h.size, fun k hk => h.block k (by omega) (.inl (by omega))⟩
theorem Keeps.mono {B T B' T' : Nat} {w w' : World} (h : Keeps B T w w') (h1 : B' <= B) (h2 : T <= T') : Keeps B' T' w w' :=
  ⟨h.os, h.tape, h.output, h.size, fun k hk hg => h.block k hk (by omega)⟩
theorem Keeps.cell {B T : Nat} {w w' : World} (h : Keeps B T w w') {a : Addr} {v : Value} (hc : w.cell? a = some v) (ha : a.block < B \/ T <= a.block) : w'.cell? a = some v :=
  (World.cell?_of_block (h.block a.block (World.block_lt_of_cell? w a hc) ha)).trans hc
theorem below_step {B : Nat} {a b c : World} (h : Below B a b) (k : Below b.heap.size b c) (hB : B <= b.heap.size) : Below B a c := h.trans (k.mono hB)
theorem below_drew (B : Nat) (w : World) : Below B w w.drew := ⟨rfl, rfl, rfl, Nat.le_refl _, fun _ _ => rfl⟩
theorem below_drewN (B : Nat) (w : World) (n : Nat) : Below B w (w.drewN n) := ⟨rfl, rfl, rfl, Nat.le_refl _, fun _ _ => rfl⟩
def Rd (w : World) (ao : Option Addr) (n : Nat) (f : Nat -> K) : Prop :=
  0 < n -> ∃ b off, ao = some ⟨b, off, none⟩ /\ ∀ i, i < n -> w.cell? ⟨b, off + i, none⟩ = some (.int .u8 ((f i).n : Int))
theorem Rd.below {w w' : World} {ao : Option Addr} {n : Nat} {f : Nat -> K} (h : Rd w ao n f) (ho : Below w.heap.size w w') : Rd w' ao n f := by
  intro hn
  obtain ⟨b, off, rfl, hc⟩ := h hn
  exact ⟨b, off, rfl, fun i hi => (ho.cell (World.block_lt_of_cell? w _ (hc i hi))).trans (hc i hi)⟩
def Own (w : World) (g n u : Nat) (f : Nat -> K) : Prop :=
  n <= u /\ u <= maxLen /\ ∃ h : Nat -> Value, w.rowIs g 5 u h /\ ∀ i, i < n -> h i = .int .u8 ((f i).n : Int)
theorem Own.cell {w : World} {g n u : Nat} {f : Nat -> K} (h : Own w g n u f) {i : Nat} (hi : i < n) : w.cell? ⟨g, i, none⟩ = some (.int .u8 ((f i).n : Int)) := by
  obtain ⟨h1, _, c, hr, hc⟩ := h
  rw [hr.cell (by omega), hc i hi]
theorem Own.frozen {w : World} {g n u : Nat} {f : Nat -> K} (h : Own w g n u f) (i : Nat) : w.frozen? ⟨g, i, none⟩ = false := by
  obtain ⟨h1, _, c, hr, hc⟩ := h
  exact hr.frozen i
theorem Own.lt {w : World} {g n u : Nat} {f : Nat -> K} (h : Own w g n u f) : g < w.heap.size := by
  obtain ⟨_, _, c, hr, hc⟩ := h
  exact hr.lt
theorem Own.rd {w : World} {g n u : Nat} {f : Nat -> K} (h : Own w g n u f) : Rd w (some ⟨g, 0, none⟩) n f :=
  fun _ => ⟨g, 0, rfl, fun i hi => by rw [Nat.zero_add]; exact h.cell hi⟩
theorem Own.of_block {w w' : World} {g n u : Nat} {f : Nat -> K} (h : Own w g n u f) (hb : w'.heap[g]? = w.heap[g]?) : Own w' g n u f := by
  obtain ⟨h1, h2, c, hr, hc⟩ := h
  exact ⟨h1, h2, c, hr.of_block hb, hc⟩
theorem Own.below {w w' : World} {g n u : Nat} {f : Nat -> K} (h : Own w g n u f) (ho : Below w.heap.size w w') : Own w' g n u f := h.of_block (ho.block g h.lt)
theorem Own.keeps {B T : Nat} {w w' : World} {g n u : Nat} {f : Nat -> K} (h : Own w g n u f) (ho : Keeps B T w w') (hg : g < B \/ T <= g) : Own w' g n u f := h.of_block (ho.block g h.lt hg)
theorem Own.congr {w : World} {g n u : Nat} {f f' : Nat -> K} (h : Own w g n u f) (e : ∀ i, i < n -> f i = f' i) : Own w g n u f' := by
  obtain ⟨h1, h2, c, hr, hc⟩ := h
  exact ⟨h1, h2, c, hr, fun i hi => by rw [hc i hi, e i hi]⟩
theorem Own.set {w : World} {g n u : Nat} {f : Nat -> K} (h : Own w g n u f) (k : Nat) (x : K) : Own (w.setCell ⟨g, k, none⟩ (.int .u8 (x.n : Int))) g n u (fun i => if i = k then x else f i) := by
  obtain ⟨h1, h2, c, hr, hc⟩ := h
  refine ⟨h1, h2, _, hr.set k _, fun i hi => ?_⟩
  by_cases e : i = k
  · simp only [e, if_true]
  · simp only [e, if_false]; exact hc i hi
def upto {α : Type} (k : Nat) (f h : Nat -> α) (i : Nat) : α := if i < k then f i else h i
theorem upto_zero {α : Type} (f h : Nat -> α) : upto 0 f h = h := by funext i; simp [upto]
theorem upto_at {α : Type} (k : Nat) (f h : Nat -> α) : upto k f h k = h k := by simp [upto]
theorem upto_succ {α : Type} (k : Nat) (f h : Nat -> α) (i : Nat) : upto (k + 1) f h i = if i = k then f k else upto k f h i := by
  unfold upto
  by_cases h1 : i = k
  · subst h1; simp
  · rw [if_neg h1]
    by_cases h2 : i < k
    · rw [if_pos (by omega), if_pos h2]
    · rw [if_neg (by omega), if_neg h2]
theorem Own.store {w : World} {g n u k : Nat} {f h : Nat -> K} (r : Own w g n u (upto k f h)) : Own (w.setCell ⟨g, k, none⟩ (.int .u8 ((f k).n : Int))) g n u (upto (k + 1) f h) :=
  (r.set k (f k)).congr fun i _ => (upto_succ k f h i).symm
theorem Own.all {w : World} {g n u : Nat} {f h : Nat -> K} (r : Own w g n u (upto n f h)) : Own w g n u f := r.congr fun i hi => by simp [upto, hi]
structure Mat (w : World) (B T l cl rows cols : Nat) (G U : Nat -> Nat) (H : M) : Prop where
  lst : ∃ h : Nat -> Value, w.rowIs l 74 cl h /\ ∀ i, i < rows -> h i = .slice (some ⟨G i, 0, none⟩) cols (U i)
  room : rows <= cl
  row : ∀ i, i < rows -> Own w (G i) cols (U i) (H i)
  lo : B <= l
  hi : l < T
  los : ∀ i, i < rows -> B <= G i
  his : ∀ i, i < rows -> G i < T
  apart : ∀ i j, i < rows -> j < rows -> i ≠ j -> G i ≠ G j
theorem Mat.cell_l {w : World} {B T l cl rows cols : Nat} {G U : Nat -> Nat} {H : M} (h : Mat w B T l cl rows cols G U H) {i : Nat} (hi : i < rows) : w.cell? ⟨l, i, none⟩ = some (.slice (some ⟨G i, 0, none⟩) cols (U i)) := by
  obtain ⟨c, hr, hc⟩ := h.lst
  rw [hr.cell (Nat.lt_of_lt_of_le hi h.room), hc i hi]
theorem Mat.frozen_l {w : World} {B T l cl rows cols : Nat} {G U : Nat -> Nat} {H : M} (h : Mat w B T l cl rows cols G U H) (i : Nat) : w.frozen? ⟨l, i, none⟩ = false := by
  obtain ⟨c, hr, hc⟩ := h.lst
  exact hr.frozen i
theorem rowIs_ne {w : World} {g g' n n' : Nat} {f f' : Nat -> Value} {e e' : Nat} (h : w.rowIs g e n f) (h' : w.rowIs g' e' n' f') (he : e ≠ e') : g ≠ g' := by
  rintro rfl
  obtain ⟨c, h1, _⟩ := h
  obtain ⟨c', h2, _⟩ := h'
  rw [h1] at h2
  cases h2
  exact he rfl
theorem Mat.ne_l {w : World} {B T l cl rows cols : Nat} {G U : Nat -> Nat} {H : M} (h : Mat w B T l cl rows cols G U H) {i : Nat} (hi : i < rows) : G i ≠ l := by
  obtain ⟨c, hr, _⟩ := h.lst
  obtain ⟨_, _, c', hr', _⟩ := h.row i hi
  exact rowIs_ne hr' hr (by decide)
theorem Mat.lt_l {w : World} {B T l cl rows cols : Nat} {G U : Nat -> Nat} {H : M} (h : Mat w B T l cl rows cols G U H) : l < w.heap.size := by
  obtain ⟨c, hr, _⟩ := h.lst
  exact hr.lt
theorem Mat.congr {w : World} {B T l cl rows cols : Nat} {G U : Nat -> Nat} {H H' : M} (h : Mat w B T l cl rows cols G U H) (e : ∀ i j, i < rows -> j < cols -> H i j = H' i j) : Mat w B T l cl rows cols G U H' :=
  ⟨h.lst, h.room, fun i hi => (h.row i hi).congr fun j hj => e i j hi hj, h.lo, h.hi, h.los, h.his, h.apart⟩
theorem Mat.blocks {w w' : World} {B T l cl rows cols : Nat} {G U : Nat -> Nat} {H : M} (h : Mat w B T l cl rows cols G U H) (hl : w'.heap[l]? = w.heap[l]?) (hg : ∀ i, i < rows -> w'.heap[G i]? = w.heap[G i]?) : Mat w' B T l cl rows cols G U H := by
  obtain ⟨c, hr, hc⟩ := h.lst
  exact ⟨⟨c, hr.of_block hl, hc⟩, h.room, fun i hi => (h.row i hi).of_block (hg i hi), h.lo, h.hi, h.los, h.his, h.apart⟩
theorem Mat.below {w w' : World} {B T l cl rows cols : Nat} {G U : Nat -> Nat} {H : M} (h : Mat w B T l cl rows cols G U H) (hb : Below w.heap.size w w') : Mat w' B T l cl rows cols G U H :=
  h.blocks (hb.block l h.lt_l) fun i hi => hb.block (G i) (h.row i hi).lt
theorem Mat.put {w w' : World} {B T l cl rows cols : Nat} {G U : Nat -> Nat} {H : M} {k : Nat} {f : Nat -> K} (h : Mat w B T l cl rows cols G U H) (hk : k < rows) (ho : Own w' (G k) cols (U k) f) (hb : Keeps (G k) (G k + 1) w w') :
    Mat w' B T l cl rows cols G U (fun i => if i = k then f else H i) := by
  obtain ⟨c, hr, hc⟩ := h.lst
  have hne := h.ne_l hk
  refine ⟨⟨c, hr.of_block (hb.block l h.lt_l (by omega)), hc⟩, h.room, fun i hi => ?_, h.lo, h.hi, h.los, h.his, h.apart⟩
  by_cases e : i = k
  · subst e; rw [if_pos rfl]; exact ho
  · rw [if_neg e]
    have := h.apart i k hi hk e
    exact (h.row i hi).keeps hb (by omega)
def exch {α : Type} (b i0 : Nat) (f : Nat -> α) (i : Nat) : α := if i = b then f i0 else if i = i0 then f b else f i
theorem swp_exch (b i0 : Nat) (X : M) : swp b i0 X = exch b i0 X := rfl
theorem exch_inj {b i0 i j : Nat} : exch b i0 (fun x => x) i = exch b i0 (fun x => x) j -> i = j := by
  unfold exch
  intro h
  by_cases a1 : i = b <;> by_cases a2 : j = b <;> by_cases a3 : i = i0 <;> by_cases a4 : j = i0 <;> simp_all
theorem exch_id {α : Type} (b i0 : Nat) (f : Nat -> α) (i : Nat) : exch b i0 f i = f (exch b i0 (fun x => x) i) := by
  unfold exch; split
  · rfl
  · split <;> rfl
theorem exch_lt {b i0 i n : Nat} (hb : b < n) (h0 : i0 < n) (hi : i < n) : exch b i0 (fun x => x) i < n := by
  unfold exch; split
  · exact h0
  · split
    · exact hb
    · exact hi
theorem Mat.swap {w : World} {B T l cl rows cols : Nat} {G U : Nat -> Nat} {H : M} {b i0 : Nat} (h : Mat w B T l cl rows cols G U H) (hb : b < rows) (h0 : i0 < rows) :
    Mat ((w.setCell ⟨l, b, none⟩ (.slice (some ⟨G i0, 0, none⟩) cols (U i0))).setCell ⟨l, i0, none⟩ (.slice (some ⟨G b, 0, none⟩) cols (U b))) B T l cl rows cols (exch b i0 G) (exch b i0 U) (swp b i0 H) := by
  obtain ⟨c, hr, hc⟩ := h.lst
  have hk : ∀ i, i < rows -> ((w.setCell ⟨l, b, none⟩ (.slice (some ⟨G i0, 0, none⟩) cols (U i0))).setCell ⟨l, i0, none⟩ (.slice (some ⟨G b, 0, none⟩) cols (U b))).heap[G i]? = w.heap[G i]? := fun i hi => by
    have := h.ne_l hi
    rw [Below.heap_setCell _ _ _ _ (by simpa using this), Below.heap_setCell _ _ _ _ (by simpa using this)]
  refine ⟨⟨_, (hr.set b _).set i0 _, fun i hi => ?_⟩, h.room, fun i hi => ?_, h.lo, h.hi, fun i hi => ?_, fun i hi => ?_, fun i j hi hj hne => ?_⟩
  · show (if i = i0 then _ else if i = b then _ else c i) = _
    unfold exch
    by_cases e1 : i = i0
    · subst e1
      rw [if_pos rfl]
      by_cases e2 : i = b
      · subst e2; rw [if_pos rfl, if_pos rfl]
      · rw [if_neg e2, if_neg e2, if_pos rfl, if_pos rfl]
    · rw [if_neg e1]
      by_cases e2 : i = b
      · rw [if_pos e2, if_pos e2, if_pos e2]
      · rw [if_neg e2, if_neg e2, if_neg e2, if_neg e1, if_neg e1]; exact hc i hi
  · have hx := exch_lt hb h0 hi
    rw [swp_exch, exch_id b i0 G, exch_id b i0 U, exch_id b i0 H]
    exact (h.row _ hx).of_block (hk _ hx)
  · rw [exch_id]; exact h.los _ (exch_lt hb h0 hi)
  · rw [exch_id]; exact h.his _ (exch_lt hb h0 hi)
  · rw [exch_id b i0 G i, exch_id b i0 G j]
    exact h.apart _ _ (exch_lt hb h0 hi) (exch_lt hb h0 hj) fun e => hne (exch_inj e)
structure Lst (w : World) (lo : Option Addr) (ll : Nat) (A : Nat -> Option Addr) (C L : Nat -> Nat) (H : M) : Prop where
  rd : ∀ i, i < ll -> Rd w (A i) (L i) (H i)
  at_ : 0 < ll -> ∃ b off, lo = some ⟨b, off, none⟩ /\ ∀ i, i < ll -> w.cell? ⟨b, off + i, none⟩ = some (.slice (A i) (L i) (C i))
theorem Lst.below {w w' : World} {lo : Option Addr} {ll : Nat} {A : Nat -> Option Addr} {C L : Nat -> Nat} {H : M} (h : Lst w lo ll A C L H) (hb : Below w.heap.size w w') : Lst w' lo ll A C L H := by
  refine ⟨fun i hi => (h.rd i hi).below hb, fun hp => ?_⟩
  obtain ⟨b, off, rfl, hc⟩ := h.at_ hp
  exact ⟨b, off, rfl, fun i hi => (hb.cell (World.block_lt_of_cell? w _ (hc i hi))).trans (hc i hi)⟩
theorem Mat.lst_ {w : World} {B T l cl rows cols : Nat} {G U : Nat -> Nat} {H : M} (h : Mat w B T l cl rows cols G U H) : Lst w (some ⟨l, 0, none⟩) rows (fun i => some ⟨G i, 0, none⟩) U (fun _ => cols) H :=
  ⟨fun i hi => (h.row i hi).rd, fun _ => ⟨l, 0, rfl, fun i hi => by rw [Nat.zero_add]; exact h.cell_l hi⟩⟩
def lenB (b : Bool) (n : Nat) : Nat := if b then n else 0
def errB (b : Bool) (e : Int) : Int := if b then 0 else e
def Ans (w w' : World) (ao : Option Addr) (n cap cols : Nat) (H : M) : Prop :=
  (ao = none /\ n = 0 /\ cap = 0) \/ ∃ l G U, ao = some ⟨l, 0, none⟩ /\ Mat w' w.heap.size w'.heap.size l cap n cols G U H
def Made (w : World) (ok : Bool) (err : Int) (n cols : Nat) (H : M) (e : Ending) (w' : World) : Prop :=
  ∃ ao cap, e = .returned (.tuple #[.slice ao (lenB ok n) cap, .int .i64 (errB ok err)]) /\ Ans w w' ao (lenB ok n) cap cols H /\ Below w.heap.size w w'
end Go.Proofs.YtngcdlodcdgcaaaGreat.Cod
namespace Go.Proofs.YtngcdlodcdgcaaaGreat.Cod
open Go.RowKit
theorem add_k (a b : K) (w : World) : Calls Tryz.prog 192 #[.int .u8 (a.n : Int), .int .u8 (b.n : Int)] w fun e w' => e = .returned (.int .u8 (((K.add a b)).n : Int)) /\ w' = w := add_n a.n b.n w a.lt b.lt
theorem mul_k (a b : K) (w : World) : Calls Tryz.prog 201 #[.int .u8 (a.n : Int), .int .u8 (b.n : Int)] w fun e w' => e = .returned (.int .u8 (((K.mul a b)).n : Int)) /\ w' = w := mul_n a.n b.n w a.lt b.lt
theorem inv_k (a : K) (w : World) (h : a ≠ 0) : Calls Tryz.prog 191 #[.int .u8 (a.n : Int)] w fun e w' => e = .returned (.tuple #[.int .u8 (a.inv.n : Int), .int .i64 0]) /\ w' = w := inv_n a.n w a.lt (K.ne_zero h)
def plus (f : Nat -> K) (c : K) (h : Nat -> K) (i : Nat) : K := (K.add (f i) (K.mul c (h i)))
set_option maxHeartbeats 400000 in
set_option maxRecDepth 100000 in
theorem take_any (w : World) (g q n u v : Nat) (c : K) (f h : Nat -> K) (hn : n <= 1000) (hf : Own w g n u f) (hh : Own w q n v h) (hne : g ≠ q) :
    Calls Tryz.prog 202 #[.slice (some ⟨g, 0, none⟩) n u, .int .u8 (c.n : Int), .slice (some ⟨q, 0, none⟩) n v] w fun e w' => e = .returned (.tuple #[]) /\ Own w' g n u (plus f c h) /\ Keeps g (g + 1) w w' := by
  have HF : Hid (Own w g n u f) := hf
  have HH : Hid (Own w q n v h) := hh
  clear hf hh
  go_enter Tryz.func202, Tryz.ntmps202
  go_wp2
  go_loopw [10] (fun i wr => ∃ k : Nat, k <= n /\ i = .int .i64 k /\ Hid (Own wr g n u (upto k (plus f c h) f)) /\ Hid (Keeps g (g + 1) w wr)) (fun i _ => n - (intOf i).toNat)
  case atStart => exact ⟨0, Nat.zero_le _, rfl, by rw [upto_zero]; exact HF.out, Keeps.refl _ _ _⟩
  case round =>
    obtain ⟨k, hk, rfl, hown, hkeep⟩ := hrel
    by_cases hlt : k < n
    · have c1 : wr.cell? ⟨g, k, none⟩ = some (.int .u8 ((f k).n : Int)) := by have := hown.out.cell hlt; rwa [upto_at] at this
      have c2 : wr.cell? ⟨q, k, none⟩ = some (.int .u8 ((h k).n : Int)) := (HH.out.keeps hkeep.out (by omega)).cell hlt
      have z1 := hown.out.frozen k
      have i1 : (0 : Int) <= (k : Int) := by omega
      have i2 : (k : Int) < (n : Int) := by omega
      go_wp2
      refine wp_region_still_tail 11 (by kernel_rfl) (by kernel_rfl) ?_
      simp only [List.take_succ_cons, List.take_zero, List.drop_succ_cons, List.drop_zero]
      repeat still_step
      still_call (mul_k c (h k) _)
      still_call (add_k (f k) ((K.mul c (h k))) _)
      repeat still_step
      refine wpStill_nil ?_
      go_wp2
      go_roundw
      case rel => exact ⟨k + 1, by omega, by go_num, hown.out.store (f := plus f c h), (hkeep.out.setCell (Nat.le_refl _) (by omega) k _).drew⟩
      case measure => simp [intOf]; omega
    · obtain rfl : k = n := by omega
      go_wp2
      go_end0
      exact ⟨rfl, hown.out.all, hkeep.out⟩
def scl (c : K) (f : Nat -> K) (i : Nat) : K := (K.mul c (f i))
def clrTo (b : Nat) (R : Nat -> K) (c k : Nat) (H : M) (i : Nat) : Nat -> K := if i = b then R else if i < k then plus (H i) (H i c) R else H i
set_option maxHeartbeats 1000000 in
set_option maxRecDepth 100000 in
theorem single_any (w : World) (B T l cl rows cols b c : Nat) (G U : Nat -> Nat) (H : M) (hr : rows <= 1000) (hc : cols <= 1000) (hb : b < rows) (hcc : c < cols) (hm : Mat w B T l cl rows cols G U H) (hne : H b c ≠ 0) :
    Calls Tryz.prog 196 #[.slice (some ⟨l, 0, none⟩) rows cl, .int .i64 (b : Int), .int .i64 (c : Int)] w fun e w' => e = .returned (.tuple #[]) /\ Mat w' B T l cl rows cols G U (clr b (H b c).inv (fun i => (K.mul (H i c) ((H b c).inv))) H) /\ Keeps B T w w' := by
  have HM : Hid (Mat w B T l cl rows cols G U H) := hm
  have c1 := hm.cell_l hb
  have c2 := (hm.row b hb).cell hcc
  have hlb := hm.ne_l hb
  obtain ⟨S, hS⟩ : ∃ S, S = (H b c).inv := ⟨_, rfl⟩
  have HINV : Hid (∀ w, Calls Tryz.prog 191 #[.int .u8 ((H b c).n : Int)] w fun e w' => e = .returned (.tuple #[.int .u8 (S.n : Int), .int .i64 0]) /\ w' = w) := by rw [hS]; exact fun w => inv_k _ w hne
  rw [<- hS]
  obtain ⟨R, hR⟩ : ∃ R, R = scl S (H b) := ⟨_, rfl⟩
  have HR : Hid (R = scl S (H b)) := hR
  clear hm hne hS hR
  have i1 : (0 : Int) <= (b : Int) := by omega
  have i2 : (b : Int) < (rows : Int) := by omega
  have i3 : (0 : Int) <= (c : Int) := by omega
  have i4 : (c : Int) < (cols : Int) := by omega
  go_enter Tryz.func196, Tryz.ntmps196
  go_wp2_with fail
  refine (HINV.out w).mono ?_
  rintro e w' ⟨rfl, hw'⟩
  obtain rfl := hw'.symm
  go_wp2_with fail
  go_loopw [28] (fun i wr => ∃ k : Nat, k <= cols /\ i = .int .i64 k /\ Hid (Own wr (G b) cols (U b) (upto k R (H b))) /\ Hid (Keeps (G b) (G b + 1) w wr)) (fun i _ => cols - (intOf i).toNat)
  case atStart => exact ⟨0, Nat.zero_le _, rfl, by rw [upto_zero]; exact HM.out.row b hb, Keeps.refl _ _ _⟩
  case round =>
    obtain ⟨k, hk, rfl, hown, hkeep⟩ := hrel
    have d1 : wr.cell? ⟨l, b, none⟩ = _ := hkeep.out.cell c1 (by simp only; omega)
    by_cases hlt : k < cols
    · have d2 : wr.cell? ⟨G b, k, none⟩ = some (.int .u8 ((H b k).n : Int)) := by have := hown.out.cell hlt; rwa [upto_at] at this
      have z1 := hown.out.frozen k
      have HRk : Hid ((K.mul S (H b k)) = R k) := by rw [HR.out]; rfl
      have i5 : (0 : Int) <= (k : Int) := by omega
      have i6 : (k : Int) < (cols : Int) := by omega
      go_wp2
      refine wp_region_still_tail 9 (by kernel_rfl) (by kernel_rfl) ?_
      simp only [List.take_succ_cons, List.take_zero, List.drop_succ_cons, List.drop_zero]
      repeat still_step
      still_call (mul_k S (H b k) _)
      repeat still_step
      refine wpStill_nil ?_
      go_wp2
      go_roundw
      case rel => exact ⟨k + 1, by omega, by go_num, by rw [HRk.out]; exact hown.out.store, (hkeep.out.setCell (Nat.le_refl _) (by omega) k _).drew⟩
      case measure => simp [intOf]; omega
    · obtain rfl : k = cols := by omega
      have HM1 : Hid (Mat wr B T l cl rows k G U (fun i => if i = b then R else H i)) := HM.out.put hb hown.out.all hkeep.out
      have HK1 : Hid (Keeps B T w wr) := hkeep.out.mono (HM.out.los b hb) (HM.out.his b hb)
      clear hown hkeep
      obtain ⟨wm, rfl⟩ : ∃ x, x = wr := ⟨wr, rfl⟩
      go_wp2
      go_loopw [45] (fun i wr => ∃ q : Nat, q <= rows /\ i = .int .i64 q /\ Hid (Mat wr B T l cl rows k G U (clrTo b R c q H)) /\ Hid (Keeps B T w wr)) (fun i _ => rows - (intOf i).toNat)
      case atStart => exact ⟨0, Nat.zero_le _, rfl, HM1.out.congr (fun i j _ _ => by unfold clrTo; simp), HK1.out⟩
      case round =>
        obtain ⟨q, hq, rfl, hmat, hkeep⟩ := hrel
        by_cases hlt : q < rows
        · have e1 := hmat.out.cell_l hlt
          have e2 := hmat.out.cell_l hb
          have e3 := (hmat.out.row q hlt).cell hcc
          have i5 : (0 : Int) <= (q : Int) := by omega
          have i6 : (q : Int) < (rows : Int) := by omega
          by_cases hqb : q = b
          · subst hqb
            have hbq : ((q : Int) != (q : Int)) = false := by simp
            go_wp2
            go_roundw
            case rel => exact ⟨q + 1, by omega, by go_num, hmat.out.congr (fun i j _ _ => by
              unfold clrTo
              by_cases e : i = q
              · simp [e]
              · rw [if_neg e, if_neg e]
                by_cases e' : i < q
                · rw [if_pos e', if_pos (by omega)]
                · rw [if_neg e', if_neg (by omega)]), hkeep.out⟩
            case measure => simp [intOf]; omega
          · have hbq : ((q : Int) != (b : Int)) = true := by simp; omega
            have hcq : clrTo b R c q H q = H q := by unfold clrTo; rw [if_neg hqb, if_neg (by omega)]
            have hcb : clrTo b R c q H b = R := by unfold clrTo; rw [if_pos rfl]
            rw [hcq] at e3
            have HT : Hid (Calls Tryz.prog 202 #[.slice (some ⟨G q, 0, none⟩) k (U q), .int .u8 ((H q c).n : Int), .slice (some ⟨G b, 0, none⟩) k (U b)] wr.drew fun e w' => e = .returned (.tuple #[]) /\ Own w' (G q) k (U q) (plus (H q) (H q c) R) /\ Keeps (G q) (G q + 1) wr.drew w') := by
              refine take_any wr.drew (G q) (G b) k (U q) (U b) (H q c) (H q) R hc ?_ ?_ (hmat.out.apart q b hlt hb hqb)
              · have := (hmat.out.row q hlt).below (below_drew _ wr)
                rwa [hcq] at this
              · have := (hmat.out.row b hb).below (below_drew _ wr)
                rwa [hcb] at this
            have HCQ : Hid (clrTo b R c q H q = H q) := hcq
            clear hcq hcb
            go_wp2
            refine wp_region_still_tail 9 (by kernel_rfl) (by kernel_rfl) ?_
            simp only [List.take_succ_cons, List.take_zero, List.drop_succ_cons, List.drop_zero]
            repeat still_step
            refine wpStill_nil ?_
            go_wp2_with (go_at_call 202; refine HT.out.mono ?_; rintro e w2 ⟨rfl, hown2, hkeep2⟩)
            have HM2 : Hid (Mat w2 B T l cl rows k G U (clrTo b R c (q + 1) H)) := ((hmat.out.below (below_drew _ wr)).put hlt hown2 hkeep2).congr (fun i j _ _ => by
              unfold clrTo
              by_cases e : i = q
              · rw [if_pos e, e, if_neg hqb, if_pos (by omega)]
              · rw [if_neg e]
                by_cases e' : i = b
                · rw [if_pos e', if_pos e']
                · rw [if_neg e', if_neg e']
                  by_cases e'' : i < q
                  · rw [if_pos e'', if_pos (by omega)]
                  · rw [if_neg e'', if_neg (by omega)])
            have HK2 : Hid (Keeps B T w w2) := hkeep.out.drew.trans (hkeep2.mono (hmat.out.los q hlt) (hmat.out.his q hlt))
            clear hown2 hkeep2
            go_roundw
            case rel => exact ⟨q + 1, by omega, by go_num, HM2.out, HK2.out⟩
            case measure => simp [intOf]; omega
        · obtain rfl : q = rows := by omega
          go_wp2
          go_end0
          refine ⟨rfl, hmat.out.congr (fun i j hi _ => ?_), hkeep.out⟩
          unfold clrTo clr
          rw [HR.out]
          by_cases e : i = b
          · rw [if_pos e, if_pos e]; rfl
          · rw [if_neg e, if_neg e, if_pos hi]
            show (K.add (H i j) (K.mul (H i c) ((K.mul S (H b j))))) = (K.add (H i j) (K.mul (K.mul (H i c) S) (H b j)))
            rw [K.mul_assoc]
end Go.Proofs.YtngcdlodcdgcaaaGreat.Cod
namespace Go.Proofs.YtngcdlodcdgcaaaGreat.Cod
open Go.RowKit
set_option maxHeartbeats 1000000 in
set_option maxRecDepth 100000 in
theorem reduce_any (w : World) (B T l cl rows cols C : Nat) (G U : Nat -> Nat) (A : M) (hr : rows <= 1000) (hc : cols <= 1000) (hC : C <= cols) (hm : Mat w B T l cl rows cols G U A) :
    Calls Tryz.prog 186 #[.slice (some ⟨l, 0, none⟩) rows cl, .int .i64 (C : Int)] w fun e w' => ∃ b P G U, e = .returned (.int .i64 ((b : Nat) : Int)) /\ Red true rows A C b P /\ Mat w' B T l cl rows cols G U P /\ Keeps B T w w' := by
  have HM : Hid (Mat w B T l cl rows cols G U A) := hm
  clear hm
  go_enter Tryz.func186, Tryz.ntmps186
  go_wp2
  go_step3
  go_wp2
  go_step3
  go_wp2
  go_loopg [5, 9] C (fun g x i wr => ∃ c b : Nat, c + g = C /\ b <= rows /\ i = .int .i64 c /\ x = .int .i64 b /\ Hid (∃ P G U, Red true rows A c b P /\ Mat wr B T l cl rows cols G U P) /\ Hid (Keeps B T w wr))
  case atStart => exact ⟨0, 0, by omega, Nat.zero_le _, rfl, rfl, ⟨A, G, U, Red.start _ _ _, HM.out⟩, Keeps.refl _ _ _⟩
  case round =>
    obtain ⟨c, b, hcC, hbr, rfl, rfl, hall, hkeep⟩ := hrel
    cases gk with
    | zero =>
      have hkz : ¬ ((c : Int) < (C : Int)) := by omega
      obtain rfl : c = C := by omega
      go_wp2
      try rw [Exit.noGoto_ret]
      go_ret
      obtain ⟨P, G, U, hred, hmat⟩ := hall.out
      exact ⟨b, P, G, U, rfl, hred, hmat, hkeep.out⟩
    | succ g =>
      have hkz : (c : Int) < (C : Int) := by omega
      obtain ⟨P, G, U, hred, hmat⟩ := hall.out
      have HRed : Hid (Red true rows A c b P) := hred
      have HMat : Hid (Mat wr B T l cl rows cols G U P) := hmat
      clear hall hred hmat
      obtain ⟨wm, rfl⟩ : ∃ x, x = wr := ⟨wr, rfl⟩
      go_wp2
      go_loopg [7] (rows - b) (fun g x wr => ∃ j : Nat, j + g = rows /\ b <= j /\ x = .int .i64 j /\ wr = wm /\ Hid (∀ i, b <= i -> i < j -> P i c = 0))
      case atStart => exact ⟨b, by omega, Nat.le_refl _, rfl, rfl, fun i h1 h2 => by omega⟩
      case round =>
        obtain ⟨j, hjg, hbj, rfl, rfl, hz⟩ := hrel
        cases gk with
        | zero =>
          obtain rfl : j = rows := by omega
          have hbq : ((j : Int) == (j : Int)) = true := by simp
          go_wp2
          go_roundg g
          case rel => exact ⟨c + 1, b, by omega, hbr, by go_num, rfl, ⟨P, G, U, HRed.out.skip hz.out, HMat.out⟩, hkeep.out⟩
          case measure => omega
        | succ g' =>
          have hj : j < rows := by omega
          have e1 := HMat.out.cell_l hj
          have e2 := (HMat.out.row j hj).cell (show c < cols by omega)
          have hbq : ((j : Int) == (rows : Int)) = false := by simp; omega
          have i1 : (0 : Int) <= (j : Int) := by omega
          have i2 : (j : Int) < (rows : Int) := by omega
          have i3 : (0 : Int) <= (c : Int) := by omega
          have i4 : (c : Int) < (cols : Int) := by omega
          by_cases hp : P j c = 0
          · have hn0 : (((P j c).n : Int) != 0) = false := by rw [hp]; rfl
            go_wp2
            go_roundg g'
            case rel => exact ⟨j + 1, by omega, by omega, by go_num, rfl, fun i h1 h2 => (Nat.lt_or_ge i j).elim (fun h => hz.out i h1 h) (fun h => by rw [show i = j by omega]; exact hp)⟩
            case measure => omega
          · have hn0 : (((P j c).n : Int) != 0) = true := by have := K.ne_zero hp; simp; omega
            have HP : Hid (¬ P j c = 0) := hp
            have hb : b < rows := by omega
            have e3 := HMat.out.cell_l hb
            have z1 := HMat.out.frozen_l b
            have z2 := HMat.out.frozen_l j
            have i5 : (0 : Int) <= (b : Int) := by omega
            have i6 : (b : Int) < (rows : Int) := by omega
            clear hp
            have z3 : (wr.setCell ⟨l, b, none⟩ (.slice (some ⟨G j, 0, none⟩) cols (U j))).cell? ⟨l, j, none⟩ = some (.slice (some ⟨G j, 0, none⟩) cols (U j)) := by
              obtain ⟨h, hr, hh⟩ := HMat.out.lst
              rw [(hr.set b _).cell (i := j) (Nat.lt_of_lt_of_le hj HMat.out.room)]
              show some (if j = b then _ else h j) = _
              split
              · rfl
              · rw [hh j hj]
            have HT : Hid (Calls Tryz.prog 196 #[.slice (some ⟨l, 0, none⟩) rows cl, .int .i64 (b : Int), .int .i64 (c : Int)] ((wr.setCell ⟨l, b, none⟩ (.slice (some ⟨G j, 0, none⟩) cols (U j))).setCell ⟨l, j, none⟩ (.slice (some ⟨G b, 0, none⟩) cols (U b))).drew fun e w' => e = .returned (.tuple #[]) /\ Mat w' B T l cl rows cols (exch b j G) (exch b j U) (clr b (P j c).inv (fun i => (K.mul (swp b j P i c) ((P j c).inv))) (swp b j P)) /\ Keeps B T ((wr.setCell ⟨l, b, none⟩ (.slice (some ⟨G j, 0, none⟩) cols (U j))).setCell ⟨l, j, none⟩ (.slice (some ⟨G b, 0, none⟩) cols (U b))).drew w') := by
              have hsw : swp b j P b = P j := if_pos rfl
              have := single_any _ B T l cl rows cols b c _ _ _ hr hc hb (by omega) ((HMat.out.swap hb hj).below (below_drew _ _)) (by rw [hsw]; exact HP.out)
              rwa [hsw] at this
            have HKS : Hid (Keeps B T w ((wr.setCell ⟨l, b, none⟩ (.slice (some ⟨G j, 0, none⟩) cols (U j))).setCell ⟨l, j, none⟩ (.slice (some ⟨G b, 0, none⟩) cols (U b))).drew) :=
              ((hkeep.out.setCell HMat.out.lo HMat.out.hi b _).setCell HMat.out.lo HMat.out.hi j _).drew
            go_wp2
            go_region
            go_wp2_with (go_at_call 196; refine HT.out.mono ?_; rintro e w2 ⟨rfl, hmat2, hkeep2⟩)
            have HM2 : Hid (Mat w2 B T l cl rows cols (exch b j G) (exch b j U) (clr b (P j c).inv (fun i => (K.mul (swp b j P i c) ((P j c).inv))) (swp b j P))) := hmat2
            have HK2 : Hid (Keeps B T w w2) := HKS.out.trans hkeep2
            clear hmat2 hkeep2
            go_roundg g
            case rel => exact ⟨c + 1, b + 1, by omega, hb, by go_num, by go_num, ⟨_, _, _, HRed.out.take1 hbj hj HP.out, HM2.out⟩, HK2.out⟩
            case measure => omega
end Go.Proofs.YtngcdlodcdgcaaaGreat.Cod
namespace Go.Proofs.YtngcdlodcdgcaaaGreat.Cod
open Go.RowKit
theorem info5 : (Tryz.prog.info? 5).map (fun i => (i.zero, i.size, i.bytes)) = some (some (.int .u8 0), 1, 1) := by kernel_rfl
theorem info34 : (Tryz.prog.info? 74).map (fun i => (i.zero, i.size, i.bytes)) = some (some (.slice none 0 0), 1, 24) := by kernel_rfl
def Rule (w : World) (fn : Nat) (cap : Array Value) (rows cols : Nat) (f : M) : Prop :=
  ∀ w' (i j : Nat), Below w.heap.size w w' -> i < rows -> j < cols -> Calls Tryz.prog fn (#[.int .i64 (i : Int), .int .i64 (j : Int)] ++ cap) w' fun e w'' => e = .returned (.int .u8 ((f i j).n : Int)) /\ ∃ q, w'' = w'.drewN q
structure Part (w : World) (B rows cols k : Nat) (G : Nat -> Nat) (f : M) : Prop where
  lst : ∃ h : Nat -> Value, w.rowIs B 74 rows h /\ ∀ i, i < k -> h i = .slice (some ⟨G i, 0, none⟩) cols cols
  row : ∀ i, i < k -> Own w (G i) cols cols (f i)
  los : ∀ i, i < k -> B < G i
  apart : ∀ i j, i < k -> j < k -> i ≠ j -> G i ≠ G j
theorem Part.mat {w : World} {B rows cols : Nat} {G : Nat -> Nat} {f : M} (h : Part w B rows cols rows G f) : Mat w B w.heap.size B rows rows cols G (fun _ => cols) f := by
  obtain ⟨c, hr, hc⟩ := h.lst
  exact ⟨⟨c, hr, hc⟩, Nat.le_refl _, h.row, Nat.le_refl _, hr.lt, fun i hi => Nat.le_of_lt (h.los i hi), fun i hi => (h.row i hi).lt, h.apart⟩
theorem row_made (w : World) (e n : Nat) (z : Value) : (w.alloc (.cells (madeCells #[z] n) e)).rowIs w.heap.size e n (fun _ => z) := by
  refine ⟨_, heap_alloc_new w _, size_madeCells _ _, fun i hi => ?_⟩
  simp [madeCells, hi, Nat.mod_one]
def put {α : Type} (k : Nat) (v : α) (f : Nat -> α) (i : Nat) : α := if i = k then v else f i
theorem put_at {α : Type} (k : Nat) (v : α) (f : Nat -> α) : put k v f k = v := by simp [put]
theorem put_ne {α : Type} {k i : Nat} (v : α) (f : Nat -> α) (h : i ≠ k) : put k v f i = f i := by simp [put, h]
theorem Part.step {w w' : World} {B rows cols k : Nat} {G : Nat -> Nat} {f : M} {z : Nat -> K} (h : Part w B rows cols k G f) (hn : Own w' w.heap.size cols cols (upto cols (f k) z))
    (hk : Keeps w.heap.size (w.heap.size + 1) ((w.alloc (.cells (madeCells #[.int .u8 0] cols) 5)).setCell ⟨B, k, none⟩ (.slice (some ⟨w.heap.size, 0, none⟩) cols cols)) w') : Part w' B rows cols (k + 1) (put k w.heap.size G) f := by
  obtain ⟨c, hr, hc⟩ := h.lst
  have hB := hr.lt
  have hr2 : w'.rowIs B 74 rows (fun i => if i = k then .slice (some ⟨w.heap.size, 0, none⟩) cols cols else c i) := by
    have h1 := (hr.of_block (w' := w.alloc (.cells (madeCells #[.int .u8 0] cols) 5)) (Below.heap_alloc _ _ _ hB)).set k (.slice (some ⟨w.heap.size, 0, none⟩) cols cols)
    exact h1.of_block (hk.block B (by simp [World.setCell]; omega) (by omega))
  have old : ∀ i, i < k -> w'.heap[G i]? = w.heap[G i]? := fun i hi => by
    have h1 := (h.row i hi).lt
    have h2 := h.los i hi
    rw [hk.block (G i) (by simp [World.setCell]; omega) (by omega), Below.heap_setCell _ _ _ _ (by simp; omega), Below.heap_alloc _ _ _ h1]
  refine ⟨⟨_, hr2, fun i hi => ?_⟩, fun i hi => ?_, fun i hi => ?_, fun i j hi hj hne => ?_⟩
  · by_cases e : i = k
    · subst e; rw [put_at]; simp
    · rw [put_ne _ _ e]; simp only [e, if_false]; exact hc i (by omega)
  · by_cases e : i = k
    · subst e; rw [put_at]; exact hn.all
    · rw [put_ne _ _ e]; exact (h.row i (by omega)).of_block (old i (by omega))
  · by_cases e : i = k
    · subst e; rw [put_at]; exact hB
    · rw [put_ne _ _ e]; exact h.los i (by omega)
  · by_cases e : i = k
    · by_cases e' : j = k
      · omega
      · subst e
        rw [put_at, put_ne _ _ e']
        have := (h.row j (by omega)).lt
        omega
    · by_cases e' : j = k
      · subst e'
        rw [put_at, put_ne _ _ e]
        have := (h.row i (by omega)).lt
        omega
      · rw [put_ne _ _ e, put_ne _ _ e']; exact h.apart i j (by omega) (by omega) hne
set_option maxHeartbeats 1000000 in
set_option maxRecDepth 100000 in
theorem made_any (w : World) (rows cols fn : Nat) (cap : Array Value) (f : M) (hr : rows <= 1000) (hc : cols <= 1000) (hfn : ∀ xs w, (callFunc fn xs).run Tryz.prog w = .ok (.enter fn xs) w) (hf : Rule w fn cap rows cols f) :
    Calls Tryz.prog 183 #[.int .i64 (rows : Int), .int .i64 (cols : Int), .func (.func fn) #[] cap] w fun e w' => ∃ l G U, e = .returned (.slice (some ⟨l, 0, none⟩) rows rows) /\ Mat w' w.heap.size w'.heap.size l rows rows cols G U f /\ Below w.heap.size w w' := by
  have HF : Hid (Rule w fn cap rows cols f) := hf
  have hm1 := run_make_row' (P := Tryz.prog) 24 74 (.slice none 0 0) 24 Tryz.underlying24 info34 rfl .i64 .i64 rows (by omega) (by omega)
  have hm2 := run_make_row' (P := Tryz.prog) 74 5 (.int .u8 0) 1 Tryz.underlying74 info5 rfl .i64 .i64 cols (by omega) (by omega)
  have HM2 : Hid (∀ w, (Instr.makeSlice 74 (.int .i64 (cols : Int)) (.int .i64 (cols : Int))).run Tryz.prog w = .ok (.slice (some ⟨w.heap.size, 0, none⟩) cols cols) (w.alloc (.cells (madeCells #[.int .u8 0] cols) 5))) := hm2
  clear hf hm2
  go_enter Tryz.func183, Tryz.ntmps183
  go_wp2
  go_loopw [14] (fun i wr => ∃ k : Nat, k <= rows /\ i = .int .i64 k /\ Hid (∃ G, Part wr w.heap.size rows cols k G f) /\ Hid (Below w.heap.size w wr)) (fun i _ => rows - (intOf i).toNat)
  case atStart => exact ⟨0, Nat.zero_le _, rfl, ⟨fun _ => 0, ⟨_, row_made w 74 rows _, fun i hi => absurd hi (Nat.not_lt_zero i)⟩, fun i hi => absurd hi (Nat.not_lt_zero i), fun i hi => absurd hi (Nat.not_lt_zero i), fun i j hi => absurd hi (Nat.not_lt_zero i)⟩, (Below.refl _ _).alloc (Nat.le_refl _) _⟩
  case round =>
    obtain ⟨k, hk, rfl, hpart, hbel⟩ := hrel
    by_cases hlt : k < rows
    · obtain ⟨G, hp⟩ := hpart.out
      have HP : Hid (Part wr w.heap.size rows cols k G f) := hp
      obtain ⟨c, hrow, _⟩ := hp.lst
      have hB : w.heap.size < wr.heap.size := hrow.lt
      obtain ⟨wa, hwa⟩ : ∃ wa, wa = wr.alloc (.cells (madeCells #[.int .u8 0] cols) 5) := ⟨_, rfl⟩
      have hmk := HM2.out wr
      rw [<- hwa] at hmk
      have HWA : Hid (wa = wr.alloc (.cells (madeCells #[.int .u8 0] cols) 5)) := hwa
      have hrow2 : wa.rowIs w.heap.size 74 rows c := by rw [hwa]; exact hrow.of_block (Below.heap_alloc _ _ _ hB)
      have c1 := hrow2.cell hlt
      have z1 := hrow2.frozen k
      have hrow3 := hrow2.set k (.slice (some ⟨wr.heap.size, 0, none⟩) cols cols)
      have c2 : (wa.setCell ⟨w.heap.size, k, none⟩ (.slice (some ⟨wr.heap.size, 0, none⟩) cols cols)).cell? ⟨w.heap.size, k, none⟩ = some (.slice (some ⟨wr.heap.size, 0, none⟩) cols cols) := by rw [hrow3.cell hlt]; simp
      have HO : Hid (Own (wa.setCell ⟨w.heap.size, k, none⟩ (.slice (some ⟨wr.heap.size, 0, none⟩) cols cols)) wr.heap.size cols cols (upto 0 (f k) fun _ => 0)) :=
        Own.of_block (w := wa) ⟨Nat.le_refl _, by unfold maxLen; omega, _, by rw [hwa]; exact row_made wr 5 cols _, fun i _ => by rw [upto_zero]; rfl⟩ (Below.heap_setCell _ _ _ _ (by simp; omega))
      have HBW : Hid (Below w.heap.size w (wa.setCell ⟨w.heap.size, k, none⟩ (.slice (some ⟨wr.heap.size, 0, none⟩) cols cols))) := by
        rw [hwa]
        exact ((hbel.out.alloc (by omega) _)).trans ⟨rfl, rfl, rfl, by simp [World.setCell], fun i hi => Below.heap_setCell _ _ _ _ (by simp; omega)⟩
      clear hp hpart hrow hrow2 hrow3 hwa
      have i1 : (0 : Int) <= (k : Int) := by omega
      have i2 : (k : Int) < (rows : Int) := by omega
      obtain ⟨wm, hwm⟩ : ∃ x, x = wr := ⟨wr, rfl⟩
      go_wp2
      clear hmk c1 z1
      obtain ⟨w2, hw2⟩ : ∃ w2, w2 = wa.setCell ⟨w.heap.size, k, none⟩ (.slice (some ⟨wr.heap.size, 0, none⟩) cols cols) := ⟨_, rfl⟩
      rw [<- hw2] at c2 HO HBW ⊢
      have HW2 : Hid (w2 = wa.setCell ⟨w.heap.size, k, none⟩ (.slice (some ⟨wr.heap.size, 0, none⟩) cols cols)) := hw2
      clear hw2
      obtain ⟨g, hg⟩ : ∃ g, g = wr.heap.size := ⟨_, rfl⟩
      rw [<- hg] at c2 HO hB ⊢
      have HG : Hid (g = wm.heap.size) := by rw [hwm]; exact hg
      have HP2 : Hid (Part wm w.heap.size rows cols k G f) := by rw [hwm]; exact HP.out
      have HW3 : Hid (w2 = (wm.alloc (.cells (madeCells #[.int .u8 0] cols) 5)).setCell ⟨w.heap.size, k, none⟩ (.slice (some ⟨wm.heap.size, 0, none⟩) cols cols)) := by rw [hwm, HW2.out, HWA.out]; exact rfl
      clear hg hwm HP HW2 HWA
      go_loopw [27] (fun i wx => ∃ j : Nat, j <= cols /\ i = .int .i64 j /\ Hid (Own wx g cols cols (upto j (f k) fun _ => 0)) /\ Hid (Keeps g (g + 1) w2 wx)) (fun i _ => cols - (intOf i).toNat)
      case atStart => exact ⟨0, Nat.zero_le _, rfl, HO.out, Keeps.refl _ _ _⟩
      case round =>
        obtain ⟨j, hj, rfl, hown, hkeep⟩ := hrel
        have hbw : Below w.heap.size w wr := HBW.out.trans (hkeep.out.below HBW.out.size (by omega))
        by_cases hjc : j < cols
        · have d1 : wr.cell? ⟨w.heap.size, k, none⟩ = some (.slice (some ⟨g, 0, none⟩) cols cols) := hkeep.out.cell c2 (by simp only; omega)
          have d2 := hown.out.cell hjc
          have z2 := hown.out.frozen j
          have HC : Hid (∀ q, Calls Tryz.prog fn (#[.int .i64 (k : Int), .int .i64 (j : Int)] ++ cap) (wr.drewN q) fun e w'' => e = .returned (.int .u8 ((f k j).n : Int)) /\ ∃ q', w'' = (wr.drewN q).drewN q') := fun q => HF.out _ k j ⟨hbw.os, hbw.tape, hbw.output, hbw.size, hbw.block⟩ hlt hjc
          have i3 : (0 : Int) <= (j : Int) := by omega
          have i4 : (j : Int) < (cols : Int) := by omega
          clear hbw
          have kk : ∀ m v, ((wr.drewN m).setCell ⟨g, j, none⟩ v).cell? ⟨w.heap.size, k, none⟩ = some (.slice (some ⟨g, 0, none⟩) cols cols) := fun m v => (World.cell?_of_block (Below.heap_setCell _ _ _ _ (by simp; omega))).trans d1
          go_wp2
          go_region_held3 (fun w' => w'.cell? ⟨w.heap.size, k, none⟩ = some (.slice (some ⟨g, 0, none⟩) cols cols)) (go_keep) ((refine (HC.out 1).mono ?_; rintro e w' ⟨rfl, q, rfl⟩))
          have HO2 : Hid (Own ((wr.drewN (1 + q)).setCell ⟨g, j, none⟩ (.int .u8 ((f k j).n : Int))) g cols cols (upto (j + 1) (f k) fun _ => 0)) := (hown.out.of_block (w' := wr.drewN (1 + q)) rfl).store
          have HK2 : Hid (Keeps g (g + 1) w2 ((wr.drewN (1 + q)).setCell ⟨g, j, none⟩ (.int .u8 ((f k j).n : Int)))) := (hkeep.out.drewN (1 + q)).setCell (Nat.le_refl _) (by omega) j _
          clear kk
          go_wp2
          go_roundw
          case rel => exact ⟨j + 1, by omega, by go_num, HO2.out, HK2.out⟩
          case measure => simp [intOf]; omega
        · obtain rfl : j = cols := by omega
          have HS : Hid (∃ G, Part wr w.heap.size rows j (k + 1) G f) := by
            have e1 := HG.out
            have e2 := HW3.out
            have o1 := hown.out
            have k1 := hkeep.out
            rw [e2] at k1
            rw [e1] at o1 k1
            exact ⟨_, HP2.out.step o1 k1⟩
          have HB2 : Hid (Below w.heap.size w wr) := hbw
          clear hbw
          go_wp2
          go_roundw
          case rel => exact ⟨k + 1, by omega, by go_num, HS.out, HB2.out⟩
          case measure => simp [intOf]; omega
    · obtain rfl : k = rows := by omega
      go_wp2
      go_ret
      obtain ⟨G, hp⟩ := hpart.out
      exact ⟨_, G, _, rfl, hp.mat, hbel.out⟩
theorem unit_any (w : World) (i j : Nat) : Calls Tryz.prog 185 #[.int .i64 (i : Int), .int .i64 (j : Int)] w fun e w' => e = .returned (.int .u8 ((one i j).n : Int)) /\ w' = w := by
  by_cases h : i = j
  · have hb : ((i : Int) == (j : Int)) = true := by simp [h]
    rw [show (one i j).n = 1 by rw [one, if_pos h]; rfl]
    clear h
    go_enter Tryz.func185, Tryz.ntmps185
    go_wp2
    go_ret
    exact ⟨rfl, rfl⟩
  · have hb : ((i : Int) == (j : Int)) = false := by simp; omega
    rw [show (one i j).n = 0 by rw [one, if_neg h]; rfl]
    clear h
    go_enter Tryz.func185, Tryz.ntmps185
    go_wp2
    go_ret
    exact ⟨rfl, rfl⟩
theorem within_any (w : World) (n m : Int) : Calls Tryz.prog 189 #[.int .i64 n, .int .i64 m] w fun e w' => e = .returned (.bool (decide (1 <= n /\ n <= m))) /\ w' = w := by
  by_cases h : 1 <= n
  · by_cases g : n <= m
    · rw [show decide (1 <= n /\ n <= m) = true by simp [h, g]]
      go_enter Tryz.func189, Tryz.ntmps189
      go_wp2
      go_ret
      exact ⟨by simp, rfl⟩
    · rw [show decide (1 <= n /\ n <= m) = false by simp [g]]
      go_enter Tryz.func189, Tryz.ntmps189
      go_wp2
      go_ret
      exact ⟨by simp, rfl⟩
  · rw [show decide (1 <= n /\ n <= m) = false by simp [h]]
    go_enter Tryz.func189, Tryz.ntmps189
    go_wp2
    go_ret
    exact ⟨by simp, rfl⟩
end Go.Proofs.YtngcdlodcdgcaaaGreat.Cod
namespace Go.Proofs.YtngcdlodcdgcaaaGreat.Cod
open Go.RowKit
def okM (ll : Nat) (L : Nat -> Nat) : Bool := decide (1 <= ll /\ ll <= 32 /\ 1 <= L 0 /\ L 0 <= 32 /\ ∀ i, i < ll -> L i = L 0)
theorem okM_true {ll : Nat} {L : Nat -> Nat} (h : okM ll L = true) : 1 <= ll /\ ll <= 32 /\ 1 <= L 0 /\ L 0 <= 32 /\ ∀ i, i < ll -> L i = L 0 := of_decide_eq_true h
theorem exists_first {p : Nat -> Prop} (j : Nat) (h : ¬ p j) : ∃ k, k <= j /\ ¬ p k /\ ∀ i, i < k -> p i := by
  induction j using Nat.strongRecOn with
  | _ j ih =>
    by_cases g : ∀ i, i < j -> p i
    · exact ⟨j, Nat.le_refl _, h, g⟩
    · obtain ⟨i, hi⟩ := Classical.not_forall.1 g
      obtain ⟨hij, hpi⟩ := Classical.not_imp.1 hi
      obtain ⟨k, hk, h1, h2⟩ := ih i hij hpi
      exact ⟨k, by omega, h1, h2⟩
theorem first_not {p : Nat -> Prop} {n : Nat} (h : ¬ ∀ i, i < n -> p i) : ∃ q, q < n /\ ¬ p q /\ ∀ i, i < q -> p i := by
  obtain ⟨i, hi⟩ := Classical.not_forall.1 h
  obtain ⟨p1, p2⟩ := Classical.not_imp.1 hi
  obtain ⟨k, hk, p3, p4⟩ := exists_first (p := p) i p2
  exact ⟨k, by omega, p3, p4⟩
set_option maxHeartbeats 400000 in
set_option maxRecDepth 100000 in
theorem check_any (w : World) (lo : Option Addr) (ll cl : Nat) (A : Nat -> Option Addr) (C L : Nat -> Nat) (H : M) (hl : Lst w lo ll A C L H) :
    Calls Tryz.prog 182 #[.slice lo ll cl] w fun e w' => e = .returned (.int .i64 (errB (okM ll L) 30)) /\ w' = w := by
  by_cases h1 : 1 <= ll /\ ll <= 32
  · obtain ⟨b, off, rfl, hcl⟩ := hl.at_ (by omega)
    have HCL : Hid (∀ i, i < ll -> w.cell? ⟨b, off + i, none⟩ = some (.slice (A i) (L i) (C i))) := hcl
    have c0 := hcl 0 (by omega)
    rw [Nat.add_zero] at c0
    have W1 := within_any w (ll : Int) 32
    rw [show decide ((1 : Int) <= (ll : Int) /\ (ll : Int) <= 32) = true from decide_eq_true (by omega)] at W1
    have i1 : (0 : Int) < (ll : Int) := by omega
    obtain ⟨l0, hl0⟩ : ∃ l0, l0 = L 0 := ⟨_, rfl⟩
    rw [<- hl0] at c0
    by_cases h2 : 1 <= l0 /\ l0 <= 32
    · have W2 := within_any w (l0 : Int) 32
      rw [show decide ((1 : Int) <= (l0 : Int) /\ (l0 : Int) <= 32) = true from decide_eq_true (by omega)] at W2
      by_cases h3 : ∀ i, i < ll -> L i = l0
      · rw [show errB (okM ll L) 30 = 0 by rw [show okM ll L = true from decide_eq_true ⟨h1.1, h1.2, by rw [<- hl0]; exact h2.1, by rw [<- hl0]; exact h2.2, by rw [<- hl0]; exact h3⟩]; rfl]
        have H3 : Hid (∀ i, i < ll -> L i = l0) := h3
        clear hcl hl h3 hl0
        have hq : ((l0 : Int) != (l0 : Int)) = false := by simp
        go_enter Tryz.func182, Tryz.ntmps182
        go_wp2_with fail
        refine W1.mono ?_
        rintro e w' ⟨rfl, hw'⟩
        obtain rfl := hw'.symm
        go_wp2_with fail
        refine W2.mono ?_
        rintro e w' ⟨rfl, hw'⟩
        obtain rfl := hw'.symm
        go_wp2_with fail
        go_loop [19] (fun i => ∃ k : Nat, k <= ll /\ i = .int .i64 k) (fun i => ll - (intOf i).toNat)
        case atStart => exact ⟨0, Nat.zero_le _, rfl⟩
        case round =>
          obtain ⟨k, hk, rfl⟩ := hrel
          by_cases hlt : k < ll
          · have ck := HCL.out k hlt
            rw [H3.out k hlt] at ck
            have i2 : (0 : Int) <= (k : Int) := by omega
            have i3 : (k : Int) < (ll : Int) := by omega
            go_wp2
            go_round
            case rel => exact ⟨k + 1, by omega, by go_num⟩
            case measure => simp [intOf]; omega
          · go_wp2
            go_ret
            exact ⟨rfl, rfl⟩
      · rw [show errB (okM ll L) 30 = 30 by rw [show okM ll L = false from decide_eq_false fun g => h3 (by rw [hl0]; exact g.2.2.2.2)]; rfl]
        obtain ⟨q, hq, hne, heq⟩ := first_not h3
        have H3 : Hid (∀ i, i < q -> L i = l0) := heq
        have HN : Hid (¬ L q = l0) := hne
        clear hcl hl h3 hl0 heq hne
        have hq0 : ((l0 : Int) != (l0 : Int)) = false := by simp
        go_enter Tryz.func182, Tryz.ntmps182
        go_wp2_with fail
        refine W1.mono ?_
        rintro e w' ⟨rfl, hw'⟩
        obtain rfl := hw'.symm
        go_wp2_with fail
        refine W2.mono ?_
        rintro e w' ⟨rfl, hw'⟩
        obtain rfl := hw'.symm
        go_wp2_with fail
        go_loop [19] (fun i => ∃ k : Nat, k <= q /\ i = .int .i64 k) (fun i => ll - (intOf i).toNat)
        case atStart => exact ⟨0, Nat.zero_le _, rfl⟩
        case round =>
          obtain ⟨k, hk, rfl⟩ := hrel
          have ck := HCL.out k (by omega)
          have i2 : (0 : Int) <= (k : Int) := by omega
          have i3 : (k : Int) < (ll : Int) := by omega
          by_cases hlt : k < q
          · rw [H3.out k hlt] at ck
            go_wp2
            go_round
            case rel => exact ⟨k + 1, by omega, by go_num⟩
            case measure => simp [intOf]; omega
          · obtain rfl : k = q := by omega
            have hb : ((L k : Int) != (l0 : Int)) = true := by have := HN.out; simp; omega
            go_wp2
            go_ret
            exact ⟨rfl, rfl⟩
    · rw [show errB (okM ll L) 30 = 30 by rw [show okM ll L = false from decide_eq_false fun g => h2 (by rw [hl0]; exact ⟨g.2.2.1, g.2.2.2.1⟩)]; rfl]
      have W2 := within_any w (l0 : Int) 32
      rw [show decide ((1 : Int) <= (l0 : Int) /\ (l0 : Int) <= 32) = false from decide_eq_false (by omega)] at W2
      clear hcl hl hl0
      go_enter Tryz.func182, Tryz.ntmps182
      go_wp2_with fail
      refine W1.mono ?_
      rintro e w' ⟨rfl, hw'⟩
      obtain rfl := hw'.symm
      go_wp2_with fail
      refine W2.mono ?_
      rintro e w' ⟨rfl, hw'⟩
      obtain rfl := hw'.symm
      go_wp2_with fail
      go_ret
      exact ⟨rfl, rfl⟩
  · rw [show errB (okM ll L) 30 = 30 by rw [show okM ll L = false from decide_eq_false fun g => h1 ⟨g.1, g.2.1⟩]; rfl]
    have W1 := within_any w (ll : Int) 32
    rw [show decide ((1 : Int) <= (ll : Int) /\ (ll : Int) <= 32) = false from decide_eq_false (by omega)] at W1
    clear hl
    go_enter Tryz.func182, Tryz.ntmps182
    go_wp2_with fail
    refine W1.mono ?_
    rintro e w' ⟨rfl, hw'⟩
    obtain rfl := hw'.symm
    go_wp2_with fail
    go_ret
    exact ⟨rfl, rfl⟩
theorem rule_unit (w : World) (rows cols : Nat) : Rule w 185 #[] rows cols one := fun w' i j _ _ _ =>
  (unit_any w' i j).mono fun _ _ ⟨h1, h2⟩ => ⟨h1, 0, h2⟩
def okN (n m : Int) : Bool := decide (1 <= n /\ n <= m)
end Go.Proofs.YtngcdlodcdgcaaaGreat.Cod
namespace Go.Proofs.YtngcdlodcdgcaaaGreat.Cod
open Go.RowKit
theorem held {w w' : World} {a : Addr} {v : Value} (h : w.cell? a = some v) (hb : Below w.heap.size w w') : w'.cell? a = some v := (hb.cell (World.block_lt_of_cell? w _ h)).trans h
theorem makes (fn : Fn) (first cap : Array Value) (w : World) : (Instr.makeFunc fn first cap).run Tryz.prog w = .ok (.func fn first cap) w := rfl
theorem Lst.spot {w : World} {lo : Option Addr} {ll : Nat} {A : Nat -> Option Addr} {C L : Nat -> Nat} {H : M} (h : Lst w lo ll A C L H) {i j : Nat} (hi : i < ll) (hj : j < L i) :
    ∃ b off b' off', lo = some ⟨b, off, none⟩ /\ A i = some ⟨b', off', none⟩ /\ w.cell? ⟨b, off + i, none⟩ = some (.slice (some ⟨b', off', none⟩) (L i) (C i)) /\ w.cell? ⟨b', off' + j, none⟩ = some (.int .u8 ((H i j).n : Int)) := by
  obtain ⟨b, off, rfl, hc⟩ := h.at_ (by omega)
  obtain ⟨b', off', e, hc'⟩ := h.rd i hi (by omega)
  exact ⟨b, off, b', off', rfl, e, by rw [<- e]; exact hc i hi, hc' j hj⟩
theorem Mat.lower {w : World} {B B' T l cl rows cols : Nat} {G U : Nat -> Nat} {H : M} (h : Mat w B T l cl rows cols G U H) (hb : B' <= B) : Mat w B' T l cl rows cols G U H :=
  ⟨h.lst, h.room, h.row, Nat.le_trans hb h.lo, h.hi, fun i hi => Nat.le_trans hb (h.los i hi), h.his, h.apart⟩
theorem made_of {w w1 w2 : World} {l n cols : Nat} {G U : Nat -> Nat} {H : M} {err : Int} (hb1 : Below w.heap.size w w1) (hm : Mat w2 w1.heap.size w2.heap.size l n n cols G U H) (hb : Below w1.heap.size w1 w2) :
    Made w true err n cols H (.returned (.tuple #[.slice (some ⟨l, 0, none⟩) n n, .int .i64 0])) w2 :=
  ⟨_, _, rfl, .inr ⟨l, G, U, rfl, hm.lower hb1.size⟩, below_step hb1 hb hb1.size⟩
theorem made_no {w w1 : World} {n cols : Nat} {H : M} {err : Int} (hb1 : Below w.heap.size w w1) : Made w false err n cols H (.returned (.tuple #[.slice none 0 0, .int .i64 err])) w1 :=
  ⟨none, 0, rfl, .inl ⟨rfl, rfl, rfl⟩, hb1⟩
set_option maxHeartbeats 400000 in
set_option maxRecDepth 100000 in
theorem cauchy_rule (w : World) (p k r : Nat) (hk : k <= 12) (hr : r <= 4) (hp : w.cell? ⟨p, 0, none⟩ = some (.int .i64 (k : Int))) :
    Rule w 190 #[.pointer (some ⟨p, 0, none⟩)] r k (cau k) := by
  intro w' i j hb hi hj
  show Calls Tryz.prog 190 #[.int .i64 (i : Int), .int .i64 (j : Int), .pointer (some ⟨p, 0, none⟩)] w' _
  have c0 := held hp hb
  have e1 : ((K.of (k + i)).n : Int) = (k : Int) + (i : Int) := by rw [K.of_n _ (by omega)]; omega
  have e2 : ((K.of j).n : Int) = (j : Int) := by rw [K.of_n _ (by omega)]
  have hne : (K.add (K.of (k + i)) (K.of j)) ≠ 0 := K.sub_ne fun e => by have := of_inj (by omega) (by omega) e; omega
  have HA : Hid (Calls Tryz.prog 192 #[.int .u8 ((k : Int) + (i : Int)), .int .u8 (j : Int)] w' fun e w'' => e = .returned (.int .u8 (((K.add (K.of (k + i)) (K.of j))).n : Int)) /\ w'' = w') := by rw [<- e1, <- e2]; exact add_k _ _ w'
  have HI : Hid (Calls Tryz.prog 191 #[.int .u8 (((K.add (K.of (k + i)) (K.of j))).n : Int)] w' fun e w'' => e = .returned (.tuple #[.int .u8 ((cau k i j).n : Int), .int .i64 0]) /\ w'' = w') := inv_k _ w' hne
  clear hp hb e1 e2 hne
  obtain ⟨X, hX⟩ : ∃ X, X = cau k i j := ⟨_, rfl⟩
  rw [<- hX] at HI ⊢
  obtain ⟨Y, hY⟩ : ∃ Y, Y = (K.add (K.of (k + i)) (K.of j)) := ⟨_, rfl⟩
  rw [<- hY] at HI HA
  clear hX hY
  have m1 : ((k : Int) + (i : Int)) % 256 = (k : Int) + (i : Int) := by omega
  have m2 : (j : Int) % 256 = (j : Int) := by omega
  go_enter Tryz.func190, Tryz.ntmps190
  go_wp2_with fail
  refine HA.out.mono ?_
  rintro e w'' ⟨rfl, hw'⟩
  obtain rfl := hw'.symm
  go_wp2_with fail
  refine HI.out.mono ?_
  rintro e w'' ⟨rfl, hw'⟩
  obtain rfl := hw'.symm
  go_wp2_with fail
  go_ret
  exact ⟨rfl, 0, rfl⟩
set_option maxHeartbeats 400000 in
set_option maxRecDepth 100000 in
theorem cauchy_any (w : World) (k r : Int) : Calls Tryz.prog 173 #[.int .i64 k, .int .i64 r] w (Made w (okN k 12 && okN r 4) 2 r.toNat k.toNat (cau k.toNat)) := by
  obtain ⟨w1, hw1⟩ : ∃ w1, w1 = w.alloc (.cells #[.int .i64 k] 3) := ⟨_, rfl⟩
  have hb1 : Below w.heap.size w w1 := by rw [hw1]; exact (Below.refl _ _).alloc (Nat.le_refl _) _
  have cp : w1.cell? ⟨w.heap.size, 0, none⟩ = some (.int .i64 k) := by rw [hw1, World.cell?_alloc_at _ _ _ _ rfl]; rfl
  have W1 := within_any w1 k 12
  rw [show decide (1 <= k /\ k <= 12) = okN k 12 from rfl] at W1
  have W2 := within_any w1 r 4
  rw [show decide (1 <= r /\ r <= 4) = okN r 4 from rfl] at W2
  cases hok : okN k 12
  · rw [hok] at W1
    go_enter Tryz.func173, Tryz.ntmps173
    go_wp2_with fail
    rw [<- hw1]
    refine W1.mono ?_
    rintro e w' ⟨rfl, hw'⟩
    obtain rfl := hw'.symm
    clear hw1
    go_wp2_with fail
    go_ret2
    exact made_no hb1
  · cases hok2 : okN r 4
    · rw [hok] at W1
      rw [hok2] at W2
      go_enter Tryz.func173, Tryz.ntmps173
      go_wp2_with fail
      rw [<- hw1]
      refine W1.mono ?_
      rintro e w' ⟨rfl, hw'⟩
      obtain rfl := hw'.symm
      clear hw1
      go_wp2_with fail
      refine W2.mono ?_
      rintro e w' ⟨rfl, hw'⟩
      obtain rfl := hw'.symm
      go_wp2_with fail
      go_ret2
      exact made_no hb1
    · have h1 := of_decide_eq_true hok
      have h2 := of_decide_eq_true hok2
      rw [hok] at W1
      rw [hok2] at W2
      obtain ⟨k, rfl⟩ := Int.eq_ofNat_of_zero_le (show 0 <= k by omega)
      obtain ⟨r, rfl⟩ := Int.eq_ofNat_of_zero_le (show 0 <= r by omega)
      rw [Int.toNat_natCast, Int.toNat_natCast]
      have HMD := made_any w1 r k 190 #[.pointer (some ⟨w.heap.size, 0, none⟩)] (cau k) (by omega) (by omega) (fun _ _ => rfl) (cauchy_rule w1 w.heap.size k r (by omega) (by omega) cp)
      clear hok hok2
      have hmf := makes
      go_enter Tryz.func173, Tryz.ntmps173
      go_wp2_with fail
      rw [<- hw1]
      refine W1.mono ?_
      rintro e w' ⟨rfl, hw'⟩
      obtain rfl := hw'.symm
      clear hw1
      go_wp2_with fail
      refine W2.mono ?_
      rintro e w' ⟨rfl, hw'⟩
      obtain rfl := hw'.symm
      go_wp2_with fail
      refine HMD.mono ?_
      rintro e w2 ⟨l, G, U, rfl, hm, hb⟩
      go_wp2_with fail
      go_ret2
      exact made_of hb1 hm hb
end Go.Proofs.YtngcdlodcdgcaaaGreat.Cod
namespace Go.Proofs.YtngcdlodcdgcaaaGreat.Cod
open Go.RowKit
def RdI (w : World) (ao : Option Addr) (n : Nat) (R : Nat -> Int) : Prop :=
  0 < n -> ∃ b off, ao = some ⟨b, off, none⟩ /\ ∀ i, i < n -> w.cell? ⟨b, off + i, none⟩ = some (.int .i64 (R i))
def errM (b : Bool) (e : Int) : Int := if b then e else 30
end Go.Proofs.YtngcdlodcdgcaaaGreat.Cod
namespace Go.Proofs.YtngcdlodcdgcaaaGreat.Cod
open Go.RowKit
def okSq (ll : Nat) (L : Nat -> Nat) : Bool := okM ll L && decide (L 0 = ll)
def okInv (ll : Nat) (L : Nat -> Nat) (H : M) : Bool := okSq ll L && invB ll H
set_option maxHeartbeats 400000 in
set_option maxRecDepth 100000 in
theorem beside_rule (w : World) (p p' : Nat) (lo : Option Addr) (n cl : Nat) (A : Nat -> Option Addr) (C L : Nat -> Nat) (H : M) (hp : w.cell? ⟨p, 0, none⟩ = some (.int .i64 (n : Int))) (hp' : w.cell? ⟨p', 0, none⟩ = some (.slice lo n cl)) (hl : Lst w lo n A C L H) (hL : ∀ i, i < n -> L i = n) (hn : n <= 1000) :
    Rule w 184 #[.pointer (some ⟨p, 0, none⟩), .pointer (some ⟨p', 0, none⟩)] n (2 * n) (beside n H) := by
  intro w' i j hb hi hj
  show Calls Tryz.prog 184 #[.int .i64 (i : Int), .int .i64 (j : Int), .pointer (some ⟨p, 0, none⟩), .pointer (some ⟨p', 0, none⟩)] w' _
  have c0 := held hp hb
  have c1 := held hp' hb
  by_cases hjn : j < n
  · rw [show beside n H i j = H i j from if_pos hjn]
    obtain ⟨b1, off1, b2, off2, rfl, _, c3, c4⟩ := (hl.below hb).spot hi (show j < L i by rw [hL i hi]; exact hjn)
    rw [hL i hi] at c3
    clear hp hp' hl hb hL
    have i1 : (0 : Int) <= (i : Int) := by omega
    have i2 : (i : Int) < (n : Int) := by omega
    have i3 : (0 : Int) <= (j : Int) := by omega
    have i4 : (j : Int) < (n : Int) := by omega
    go_enter Tryz.func184, Tryz.ntmps184
    go_wp2
    go_ret
    exact ⟨rfl, 0, rfl⟩
  · rw [show beside n H i j = one i (j - n) from if_neg hjn]
    have HU := unit_any w' i (j - n)
    rw [show ((j - n : Nat) : Int) = (j : Int) - (n : Int) by omega] at HU
    clear hp hp' hl hb hL c1
    go_enter Tryz.func184, Tryz.ntmps184
    go_wp2_with fail
    refine HU.mono ?_
    rintro e w'' ⟨rfl, hw'⟩
    obtain rfl := hw'.symm
    go_wp2_with fail
    go_ret
    exact ⟨rfl, 0, rfl⟩
set_option maxHeartbeats 400000 in
set_option maxRecDepth 100000 in
theorem right_rule (w : World) (p p' : Nat) (lo : Option Addr) (n cl m : Nat) (A : Nat -> Option Addr) (C L : Nat -> Nat) (P : M) (hp : w.cell? ⟨p, 0, none⟩ = some (.slice lo n cl)) (hp' : w.cell? ⟨p', 0, none⟩ = some (.int .i64 (n : Int))) (hl : Lst w lo n A C L P) (hL : ∀ i, i < n -> L i = m) (hm : m = 2 * n) (hn : n <= 1000) :
    Rule w 187 #[.pointer (some ⟨p, 0, none⟩), .pointer (some ⟨p', 0, none⟩)] n n (fun i j => P i (n + j)) := by
  intro w' i j hb hi hj
  show Calls Tryz.prog 187 #[.int .i64 (i : Int), .int .i64 (j : Int), .pointer (some ⟨p, 0, none⟩), .pointer (some ⟨p', 0, none⟩)] w' _
  have c0 := held hp hb
  have c1 := held hp' hb
  obtain ⟨b1, off1, b2, off2, rfl, _, c3, c4⟩ := (hl.below hb).spot hi (show n + j < L i by rw [hL i hi]; omega)
  rw [hL i hi] at c3
  clear hp hp' hl hb hL
  have i1 : (0 : Int) <= (i : Int) := by omega
  have i2 : (i : Int) < (n : Int) := by omega
  have i3 : (0 : Int) <= (n : Int) + (j : Int) := by omega
  have i4 : (n : Int) + (j : Int) < (m : Int) := by omega
  have i5 : ((n : Int) + (j : Int)).toNat = n + j := by omega
  go_enter Tryz.func187, Tryz.ntmps187
  go_wp2
  go_quiet (fail)
  go_wp2
  go_ret
  exact ⟨rfl, _, rfl⟩
set_option maxHeartbeats 1000000 in
set_option maxRecDepth 100000 in
theorem inverse_any (w : World) (lo : Option Addr) (ll cl : Nat) (A : Nat -> Option Addr) (C L : Nat -> Nat) (H : M) (hl : Lst w lo ll A C L H) :
    Calls Tryz.prog 169 #[.slice lo ll cl] w (Made w (okInv ll L H) (errM (okSq ll L) 5) ll ll (invOf ll H)) := by
  obtain ⟨w1, hw1⟩ : ∃ w1, w1 = w.alloc (.cells #[.slice lo ll cl] 24) := ⟨_, rfl⟩
  have hb1 : Below w.heap.size w w1 := by rw [hw1]; exact (Below.refl _ _).alloc (Nat.le_refl _) _
  have cp : w1.cell? ⟨w.heap.size, 0, none⟩ = some (.slice lo ll cl) := by rw [hw1, World.cell?_alloc_at _ _ _ _ rfl]; rfl
  have HL1 : Hid (Lst w1 lo ll A C L H) := hl.below hb1
  have CA := fun m => check_any (w1.drewN m) lo ll cl A C L H (HL1.out.below (below_drewN _ _ m))
  clear hl
  cases hok : okM ll L
  · rw [show okInv ll L H = false by unfold okInv okSq; rw [hok]; rfl, show errM (okSq ll L) 5 = 30 by unfold okSq; rw [hok]; rfl]
    rw [hok] at CA
    have HCA : Hid (∀ m, Calls Tryz.prog 182 #[.slice lo ll cl] (w1.drewN m) fun e w' => e = .returned (.int .i64 30) /\ w' = w1.drewN m) := CA
    clear hok CA
    go_enter Tryz.func169, Tryz.ntmps169
    go_wp2_with fail
    rw [<- hw1]
    clear hw1
    go_quiet (first | (go_at_call 182; exact Calls.quiet_of_same (HCA.out _)))
    go_wp2
    go_ret2
    exact made_no (below_step hb1 (below_drewN _ _ _) hb1.size)
  · rw [hok] at CA
    have HCA : Hid (∀ m, Calls Tryz.prog 182 #[.slice lo ll cl] (w1.drewN m) fun e w' => e = .returned (.int .i64 0) /\ w' = w1.drewN m) := CA
    obtain ⟨h1, h2, h3, h4, h5⟩ := okM_true hok
    obtain ⟨b, off, rfl, hcl⟩ := HL1.out.at_ (by omega)
    have c0 := hcl 0 (by omega)
    rw [Nat.add_zero] at c0
    have i0 : 0 < ll := by omega
    have i1 : (0 : Int) < (ll : Int) := by omega
    clear CA hcl
    by_cases hsq : L 0 = ll
    · rw [show okInv ll L H = invB ll H by unfold okInv okSq; rw [hok, hsq]; simp, show errM (okSq ll L) 5 = 5 by unfold okSq; rw [hok, hsq]; simp [errM]]
      have HL5 : Hid (∀ i, i < ll -> L i = ll) := fun i hi => by rw [h5 i hi, hsq]
      rw [hsq] at c0
      have hbq : ((ll : Int) != (ll : Int)) = false := by simp
      have hmf := makes
      clear h5 hsq hok h3 h4
      go_enter Tryz.func169, Tryz.ntmps169
      go_wp2_with fail
      rw [<- hw1]
      clear hw1
      go_quiet (first | (go_at_call 182; exact Calls.quiet_of_same (HCA.out _)))
      have hb2 : Below w.heap.size w (w1.drewN nq) := ⟨hb1.os, hb1.tape, hb1.output, hb1.size, hb1.block⟩
      have dp : (w1.drewN nq).cell? ⟨w.heap.size, 0, none⟩ = some (.slice (some ⟨b, off, none⟩) ll cl) := cp
      have HL2 : Hid (Lst (w1.drewN nq) (some ⟨b, off, none⟩) ll A C L H) := HL1.out.below (below_drewN _ _ _)
      clear cp c0 hb1 HL1 HCA
      generalize w1.drewN nq = wq at *
      obtain ⟨w2, hw2⟩ : ∃ w2, w2 = wq.alloc (.cells #[.int .i64 (ll : Int)] 3) := ⟨_, rfl⟩
      have bn : Below wq.heap.size wq w2 := by rw [hw2]; exact (Below.refl _ _).alloc (Nat.le_refl _) _
      have cn : w2.cell? ⟨wq.heap.size, 0, none⟩ = some (.int .i64 (ll : Int)) := by rw [hw2, World.cell?_alloc_at _ _ _ _ rfl]; rfl
      have hb3 : Below w.heap.size w w2 := below_step hb2 bn hb2.size
      have HMD := made_any w2 ll (2 * ll) 184 _ (beside ll H) (by omega) (by omega) (fun _ _ => rfl) (beside_rule w2 wq.heap.size w.heap.size (some ⟨b, off, none⟩) ll cl A C L H cn (held dp bn) (HL2.out.below bn) HL5.out (by omega))
      rw [show ((2 * ll : Nat) : Int) = 2 * (ll : Int) by omega] at HMD
      go_wp2_with fail
      rw [<- hw2]
      refine HMD.mono ?_
      rintro e w3 ⟨l, G, U, rfl, hm, hbm⟩
      have HM3 : Hid (Mat w3 w2.heap.size w3.heap.size l ll ll (2 * ll) G U (beside ll H)) := hm
      have cn3 : w3.cell? ⟨wq.heap.size, 0, none⟩ = some (.int .i64 (ll : Int)) := held cn hbm
      have ln3 : wq.heap.size < w2.heap.size := World.block_lt_of_cell? w2 _ cn
      have ls3 : w2.heap.size <= w3.heap.size := hbm.size
      have hb4 : Below w.heap.size w w3 := below_step hb3 hbm hb3.size
      have hs4 : w.heap.size <= w2.heap.size := hb3.size
      clear hm hbm HMD hw2 cn bn HL2 dp hb2 hb3
      obtain ⟨pn, hpn⟩ : ∃ pn, pn = wq.heap.size := ⟨_, rfl⟩
      rw [<- hpn] at cn3 ln3 ⊢
      clear hpn
      obtain ⟨w4, hw4⟩ : ∃ w4, w4 = w3.alloc (.cells #[.slice (some ⟨l, 0, none⟩) ll ll] 24) := ⟨_, rfl⟩
      have bn : Below w3.heap.size w3 w4 := by rw [hw4]; exact (Below.refl _ _).alloc (Nat.le_refl _) _
      have cb4 : w4.cell? ⟨w3.heap.size, 0, none⟩ = some (.slice (some ⟨l, 0, none⟩) ll ll) := by rw [hw4, World.cell?_alloc_at _ _ _ _ rfl]; rfl
      have cn4 := held cn3 bn
      have HM4 : Hid (Mat w4.drew w2.heap.size w3.heap.size l ll ll (2 * ll) G U (beside ll H)) := (HM3.out.below bn).below (below_drew _ _)
      have hb5 : Below w.heap.size w w4 := below_step hb4 bn hb4.size
      have HRD : Hid (Calls Tryz.prog 186 #[.slice (some ⟨l, 0, none⟩) ll ll, .int .i64 (ll : Int)] w4.drew fun e w' => ∃ b P G U, e = .returned (.int .i64 ((b : Nat) : Int)) /\ Red true ll (beside ll H) ll b P /\ Mat w' w2.heap.size w3.heap.size l ll ll (2 * ll) G U P /\ Keeps w2.heap.size w3.heap.size w4.drew w') :=
        reduce_any w4.drew _ _ l ll ll (2 * ll) ll G U (beside ll H) (by omega) (by omega) (by omega) HM4.out
      go_wp2_with fail
      rw [<- hw4]
      clear hw4 cn3 HM3 HM4 bn hb4
      obtain ⟨pb, hpb⟩ : ∃ pb, pb = w3.heap.size := ⟨_, rfl⟩
      rw [<- hpb] at cb4 ls3 HRD ⊢
      clear hpb
      go_region_held3 (fun w' => w'.cell? ⟨pn, 0, none⟩ = some (.int .i64 (ll : Int)) /\ w'.cell? ⟨pb, 0, none⟩ = some (.slice (some ⟨l, 0, none⟩) ll ll)) (go_keep)
        ((go_at_call 186; refine HRD.out.mono ?_; rintro e w5 ⟨r, P, G', U', rfl, hred, hm5, hk5⟩; have cn5 : w5.cell? ⟨pn, 0, none⟩ = some (.int .i64 (ll : Int)) := hk5.cell (w := w4.drew) cn4 (.inl ln3); have cb5 : w5.cell? ⟨pb, 0, none⟩ = some (.slice (some ⟨l, 0, none⟩) ll ll) := hk5.cell (w := w4.drew) cb4 (.inr (Nat.le_refl _))))
      have HRed : Hid (Red true ll (beside ll H) ll r P) := hred
      have HM5 : Hid (Mat w5 w2.heap.size pb l ll ll (2 * ll) G' U' P) := hm5
      have hb6 : Below w.heap.size w w5 := hb5.drew.trans (hk5.below hb5.size hs4)
      have hrn : r <= ll := hred.rows
      clear hred hm5 hk5 HRD cn4 cb4
      by_cases hr : r < ll
      · have hI : Hid (invB ll H = false) := by rw [invB_rk, rankOf_eq (beside_rk HRed.out.rk)]; exact decide_eq_false (by omega)
        go_wp2_with fail
        go_ret2
        rw [hI.out]
        exact made_no hb6
      · obtain rfl : r = ll := by omega
        have HV : Hid (IsInv r H (fun i j => (K.mul (P i (r + j)) ((P i i).inv)))) := HRed.out.inv
        have HMD := made_any w5 r r 187 _ (fun i j => P i (r + j)) (by omega) (by omega) (fun _ _ => rfl) (right_rule w5 pb pn _ r r (2 * r) _ _ _ P cb5 cn5 HM5.out.lst_ (fun _ _ => rfl) rfl (by omega))
        go_wp2_with fail
        refine HMD.mono ?_
        rintro e w6 ⟨l6, G6, U6, rfl, hm6, hb7⟩
        go_wp2_with fail
        go_ret2
        rw [show invB r H = true from invB_of HV.out]
        refine made_of hb6 (hm6.congr fun i j hi hj => ?_) hb7
        rw [<- invOf_eq HV.out i j hi hj, HRed.out.one_diag i hi]
        have : (1 : K).inv = 1 := by have := K.mul_inv K.one_ne_zero; rwa [K.one_mul] at this
        rw [this, K.mul_one]
    · have hbq : ((L 0 : Int) != (ll : Int)) = true := by simp; omega
      rw [show okInv ll L H = false by unfold okInv okSq; rw [hok]; simp [hsq], show errM (okSq ll L) 5 = 30 by unfold okSq; rw [hok]; simp [hsq, errM]]
      clear hok h5
      go_enter Tryz.func169, Tryz.ntmps169
      go_wp2_with fail
      rw [<- hw1]
      clear hw1
      go_quiet (first | (go_at_call 182; exact Calls.quiet_of_same (HCA.out _)))
      go_wp2
      go_ret2
      exact made_no (below_step hb1 (below_drewN _ _ _) hb1.size)
end Go.Proofs.YtngcdlodcdgcaaaGreat.Cod
namespace Go.Proofs.YtngcdlodcdgcaaaGreat.Cod
open Go.RowKit
def cellsOf (n : Nat) (f : Nat -> K) : List Value := (List.range n).map fun i => .int .u8 ((f i).n : Int)
theorem cellsOf_length (n : Nat) (f : Nat -> K) : (cellsOf n f).length = n := by simp [cellsOf]
theorem cellsOf_get (n : Nat) (f : Nat -> K) (i : Nat) (h : i < n) : (cellsOf n f)[i]? = some (.int .u8 ((f i).n : Int)) := by simp [cellsOf, h]
theorem cellsOf_one (n : Nat) (f : Nat -> K) : ∀ v ∈ cellsOf n f, v.oneCell' = true := by
  intro v hv
  simp only [cellsOf, List.mem_map] at hv
  obtain ⟨i, _, rfl⟩ := hv
  rfl
end Go.Proofs.YtngcdlodcdgcaaaGreat.Cod
namespace Go.Proofs.YtngcdlodcdgcaaaGreat.Cod
open Go.RowKit
theorem okM_sq {n m : Nat} (h1 : 1 <= n) (h2 : n <= 32) (h3 : 1 <= m) (h4 : m <= 32) : okM n (fun _ => m) = true := decide_eq_true ⟨h1, h2, h3, h4, fun _ _ => rfl⟩
theorem okInv_of {n : Nat} {A V : M} (h1 : 1 <= n) (h2 : n <= 32) (h : IsInv n A V) : okInv n (fun _ => n) A = true := by
  unfold okInv okSq; rw [okM_sq h1 h2 h1 h2, invB_of h]; simp
end Go.Proofs.YtngcdlodcdgcaaaGreat.Cod
namespace Go.Proofs.YtngcdlodcdgcaaaGreat.Cod
open Go.RowKit
def rowsOf (k : Nat) (T : Nat -> Option Addr) (L U : Nat -> Nat) : List Value := (List.range k).map fun i => .slice (T i) (L i) (U i)
theorem rowsOf_length (k : Nat) (T : Nat -> Option Addr) (L U : Nat -> Nat) : (rowsOf k T L U).length = k := by simp [rowsOf]
theorem rowsOf_get (k : Nat) (T : Nat -> Option Addr) (L U : Nat -> Nat) (i : Nat) (h : i < k) : (rowsOf k T L U)[i]? = some (.slice (T i) (L i) (U i)) := by simp [rowsOf, h]
theorem rowsOf_one (k : Nat) (T : Nat -> Option Addr) (L U : Nat -> Nat) : ∀ v ∈ rowsOf k T L U, v.oneCell' = true := by
  intro v hv
  simp only [rowsOf, List.mem_map] at hv
  obtain ⟨i, _, rfl⟩ := hv
  rfl
theorem list_lt {α : Type} {l : List α} {n i : Nat} {x : α} (hl : l.length = n) (h : l[i]? = some x) : i < n := by
  rcases Nat.lt_or_ge i n with g | g
  · exact g
  · rw [List.getElem?_eq_none (by omega)] at h; cases h
theorem grown_below {B : Nat} {w w' : World} {row : Option Nat} (hg : w.grownBy w' row) (hB : B <= w.heap.size) (hr : ∀ k, row = some k -> B <= k) : Below B w w' := (Below.refl B w).grown hg hB hr
def intsOf (k : Nat) (R : Nat -> Nat) : List Value := (List.range k).map fun i => .int .i64 ((R i : Nat) : Int)
theorem intsOf_get (k : Nat) (R : Nat -> Nat) (i : Nat) (h : i < k) : (intsOf k R)[i]? = some (.int .i64 ((R i : Nat) : Int)) := by simp [intsOf, h]
theorem intsOf_put (k : Nat) (R : Nat -> Nat) (x : Nat) : intsOf (k + 1) (put k x R) = intsOf k R ++ [.int .i64 (x : Int)] := by
  simp only [intsOf, List.range_succ, List.map_append, List.map_cons, List.map_nil, put_at]
  congr 1
  apply List.map_congr_left
  intro i hi
  have : i ≠ k := by have := List.mem_range.1 hi; omega
  rw [put_ne _ _ this]
theorem owns_rdI {w : World} {base : Nat} {ao : Option Addr} {n cap : Nat} {R : Nat -> Nat} (h : w.ownsRow base 3 1 (.slice ao n cap) n (intsOf n R)) : RdI w ao n (fun i => (R i : Int)) := by
  intro hp
  rcases h.2 with ⟨_, h1⟩ | ⟨g, cap', cur, h1, _⟩
  · omega
  · cases h1
    refine ⟨g, 0, rfl, fun i hi => ?_⟩
    have := h.cells (g := g) rfl i _ (intsOf_get n R i hi)
    rwa [Addr.add_lit] at this
theorem owns_form {w : World} {base e n : Nat} {v : Value} {xs : List Value} (h : w.ownsRow base e 1 v n xs) : ∃ ao cap, v = .slice ao n cap := by
  rcases h.2 with ⟨rfl, rfl⟩ | ⟨g, cap, cur, rfl, _⟩
  · exact ⟨none, 0, rfl⟩
  · exact ⟨_, cap, rfl⟩
theorem owns_apart {w : World} {b e e' n g q : Nat} {v : Value} {xs : List Value} {f : Nat -> Value} (h : w.ownsRow b e 1 v n xs) (k : w.rowIs g e' q f) (he : e ≠ e') : v.ownBlock ≠ some g := by
  rcases h.2 with ⟨rfl, _⟩ | ⟨g', cap, cur, rfl, _, h1, _⟩
  · intro e; cases e
  · intro e
    have e' : g' = g := Option.some.inj e
    obtain ⟨c, h2, _⟩ := k
    rw [e', h2] at h1
    cases h1
    exact he rfl
end Go.Proofs.YtngcdlodcdgcaaaGreat.Cod
namespace Go.Proofs.YtngcdlodcdgcaaaGreat.Cod
open Go.RowKit
theorem info3 : (Tryz.prog.info? 3).map (fun i => (i.zero, i.size, i.bytes)) = some (some (.int .i64 0), 1, 8) := by kernel_rfl
theorem mat_of {w : World} {n cols : Nat} {H : M} {err : Int} {e : Ending} {w' : World} (h : Made w true err n cols H e w') (hn : 0 < n) :
    ∃ l cap G U, e = .returned (.tuple #[.slice (some ⟨l, 0, none⟩) n cap, .int .i64 0]) /\ Mat w' w.heap.size w'.heap.size l cap n cols G U H /\ Below w.heap.size w w' := by
  obtain ⟨ao, cap, rfl, ha, hb⟩ := h
  rcases ha with ⟨_, h0, _⟩ | ⟨l, G, U, rfl, hm⟩
  · exact absurd (show n = 0 from h0) (by omega)
  · exact ⟨l, cap, G, U, rfl, hm, hb⟩
set_option maxHeartbeats 400000 in
set_option maxRecDepth 100000 in
theorem one_mat (w : World) (m : Nat) (h1 : 1 <= m) (h2 : m <= 32) : Calls Tryz.prog 171 #[.int .i64 (m : Int)] w fun e w' => ∃ l G U, e = .returned (.tuple #[.slice (some ⟨l, 0, none⟩) m m, .int .i64 0]) /\ Mat w' w.heap.size w'.heap.size l m m m G U one /\ Below w.heap.size w w' := by
  have W1 := within_any w (m : Int) 32
  rw [show decide (1 <= (m : Int) /\ (m : Int) <= 32) = true from decide_eq_true (by omega)] at W1
  have HMD := made_any w m m 185 #[] one (by omega) (by omega) (fun _ _ => rfl) (rule_unit w m m)
  go_enter Tryz.func171, Tryz.ntmps171
  go_wp2_with fail
  refine W1.mono ?_
  rintro e w' ⟨rfl, hw'⟩
  obtain rfl := hw'.symm
  go_wp2_with fail
  refine HMD.mono ?_
  rintro e w1 ⟨l, G, U, rfl, hm, hb⟩
  go_wp2_with fail
  go_ret2
  exact ⟨l, G, U, rfl, hm, hb⟩
def join {α : Type} (k : Nat) (f h : Nat -> α) (i : Nat) : α := if i < k then f i else h (i - k)
end Go.Proofs.YtngcdlodcdgcaaaGreat.Cod
namespace Go.Proofs.YtngcdlodcdgcaaaGreat.Cod
open Go.RowKit
theorem rowsOf_put (k : Nat) (T : Nat -> Option Addr) (L U : Nat -> Nat) (ao : Option Addr) (l c : Nat) : rowsOf (k + 1) (put k ao T) (put k l L) (put k c U) = rowsOf k T L U ++ [.slice ao l c] := by
  simp only [rowsOf, List.range_succ, List.map_append, List.map_cons, List.map_nil, put_at]
  congr 1
  apply List.map_congr_left
  intro i hi
  have : i ≠ k := by have := List.mem_range.1 hi; omega
  rw [put_ne _ _ this, put_ne _ _ this, put_ne _ _ this]
theorem own_ne {w : World} {b n g m u : Nat} {v : Value} {xs : List Value} {f : Nat -> K} (h : w.ownsRow b 74 1 v n xs) (k : Own w g m u f) : v.ownBlock ≠ some g := by
  obtain ⟨_, _, c, hr, _⟩ := k
  exact owns_apart h hr (by decide)
end Go.Proofs.YtngcdlodcdgcaaaGreat.Cod
namespace Go.Proofs.YtngcdlodcdgcaaaGreat.Cod
open Go.RowKit
end Go.Proofs.YtngcdlodcdgcaaaGreat.Cod
namespace Go.Proofs.YtngcdlodcdgcaaaGreat.Cod
open Go.RowKit
theorem rd_news {w : World} {ad : Addr} {n : Nat} {f : Nat -> K} (h : Rd w (some ad) n f) : ∀ j u, (cellsOf n f)[j]? = some u -> w.cell? (ad.add j) = some u := by
  intro j u hu
  have hj : j < n := list_lt (cellsOf_length n f) hu
  rw [cellsOf_get _ _ _ hj] at hu
  obtain ⟨b, off, e, hc⟩ := h (by omega)
  cases e
  rw [Addr.add_lit, hc j hj]; exact hu
theorem owns_base {w : World} {base base' e size n : Nat} {v : Value} {xs : List Value} (h : w.ownsRow base e size v n xs) (hb : base' <= base) : w.ownsRow base' e size v n xs := by
  refine ⟨h.1, ?_⟩
  rcases h.2 with h1 | ⟨g, cap, cur, h1, h2, h3⟩
  · exact .inl h1
  · exact .inr ⟨g, cap, cur, h1, by omega, h3⟩
theorem owns_apart' {w : World} {b b' n m : Nat} {v u : Value} {xs ys : List Value} (h : w.ownsRow b 5 1 v n xs) (k : w.ownsRow b' 74 1 u m ys) : v.ownBlock = none \/ v.ownBlock ≠ u.ownBlock := by
  rcases h.2 with ⟨rfl, _⟩ | ⟨g, cap, cur, rfl, _, h1, _⟩
  · exact .inl rfl
  · right
    rcases k.2 with ⟨rfl, _⟩ | ⟨g', cap', cur', rfl, _, k1, _⟩
    · intro e; cases e
    · intro e
      have e' : g = g' := Option.some.inj e
      rw [e', k1] at h1
      cases h1
theorem owns_rd {w : World} {base : Nat} {ao : Option Addr} {n cap : Nat} {f : Nat -> K} (h : w.ownsRow base 5 1 (.slice ao n cap) n (cellsOf n f)) : Rd w ao n f := by
  intro hp
  rcases h.2 with ⟨_, h1⟩ | ⟨g, cap', cur, h1, _⟩
  · omega
  · cases h1
    refine ⟨g, 0, rfl, fun i hi => ?_⟩
    have := h.cells (g := g) rfl i _ (cellsOf_get n f i hi)
    rwa [Addr.add_lit] at this
theorem owns_own {w : World} {base g n cap : Nat} {f : Nat -> K} (h : w.ownsRow base 5 1 (.slice (some ⟨g, 0, none⟩) n cap) n (cellsOf n f)) : Own w g n cap f := by
  rcases h.2 with ⟨h1, _⟩ | ⟨g', cap', cur, h1, _, h3, h4, h5, h6, h7⟩
  · cases h1
  · cases h1
    refine ⟨h4, h5, fun i => cur.getD i (.int .u8 0), ⟨cur, h3, by rw [h6, Nat.mul_one], fun i hi => ?_⟩, fun i hi => ?_⟩
    · have : i < cur.size := by omega
      simp [this]
    · have e := cellsOf_get n f i hi
      rw [<- h7, Nat.mul_one, List.getElem?_take_of_lt hi, Array.getElem?_toList] at e
      have hc : i < cur.size := by omega
      rw [Array.getElem?_eq_getElem hc] at e
      simp only [Array.getD, hc, dif_pos]
      exact Option.some.inj e
theorem own_owns {w : World} {g n u : Nat} {f : Nat -> K} (h : Own w g n u f) : w.ownsRow g 5 1 (.slice (some ⟨g, 0, none⟩) n u) n (cellsOf n f) := by
  obtain ⟨h1, h2, c, ⟨cur, hb, hs, hc⟩, hh⟩ := h
  refine ⟨by rw [cellsOf_length, Nat.mul_one], .inr ⟨g, u, cur, rfl, Nat.le_refl _, hb, h1, h2, by rw [hs, Nat.mul_one], ?_⟩⟩
  rw [Nat.mul_one]
  apply List.ext_getElem?
  intro i
  by_cases hi : i < n
  · rw [List.getElem?_take_of_lt hi, cellsOf_get _ _ _ hi, Array.getElem?_toList, hc i (by omega), hh i hi]
  · rw [List.getElem?_eq_none (by simp; omega), List.getElem?_eq_none (by rw [cellsOf_length]; omega)]
theorem put_self {α : Type} (k i : Nat) (f : Nat -> α) : put k (f k) f i = f i := by
  by_cases e : i = k
  · rw [e, put_at]
  · rw [put_ne _ _ e]
structure Copied (w : World) (B k : Nat) (v : Value) (T : Nat -> Option Addr) (L U : Nat -> Nat) (H : M) : Prop where
  out : w.ownsRow B 74 1 v k (rowsOf k T L U)
  row : ∀ i, i < k -> w.ownsRow B 5 1 (.slice (T i) (L i) (U i)) (L i) (cellsOf (L i) (H i))
  apart : ∀ i j a b, i < k -> j < k -> i ≠ j -> T i = some a -> T j = some b -> a.block ≠ b.block
theorem Copied.lst {w : World} {B ll cap : Nat} {to : Option Addr} {T : Nat -> Option Addr} {L U : Nat -> Nat} {H : M} (h : Copied w B ll (.slice to ll cap) T L U H) : Lst w to ll T U L H := by
  refine ⟨fun i hi => owns_rd (h.row i hi), fun hp => ?_⟩
  rcases h.out.2 with ⟨_, h1⟩ | ⟨g, cap', cur, h1, _⟩
  · omega
  · cases h1
    refine ⟨g, 0, rfl, fun i hi => ?_⟩
    have := h.out.cells (g := g) rfl i _ (rowsOf_get ll T L U i hi)
    rwa [Addr.add_lit] at this
theorem Copied.congr {w : World} {B k : Nat} {v : Value} {T T' : Nat -> Option Addr} {L L' U U' : Nat -> Nat} {H H' : M} (h : Copied w B k v T L U H) (e1 : ∀ i, i < k -> T i = T' i) (e2 : ∀ i, i < k -> L i = L' i) (e3 : ∀ i, i < k -> U i = U' i) (e4 : ∀ i, i < k -> H i = H' i) : Copied w B k v T' L' U' H' := by
  have er : rowsOf k T L U = rowsOf k T' L' U' := List.map_congr_left fun i hi => by
    have := List.mem_range.1 hi
    rw [e1 i this, e2 i this, e3 i this]
  refine ⟨by rw [<- er]; exact h.out, fun i hi => by rw [<- e1 i hi, <- e2 i hi, <- e3 i hi, <- e4 i hi]; exact h.row i hi, fun i j a b hi hj hne ea eb => h.apart i j a b hi hj hne (by rw [e1 i hi]; exact ea) (by rw [e1 j hj]; exact eb)⟩
end Go.Proofs.YtngcdlodcdgcaaaGreat.Cod
