/- Plain mathematics of changed cells: which may be, what is added to parity cells, and what it comes to. -/
import Derived.Test.YtgflgmkaaidfnaaCodF
namespace Go.Proofs.Ytgflgmkaaidfnaa

/-- f up to p, then g from its start. -/
def cat {α : Type} (p : Nat) (f g : Nat → α) (i : Nat) : α := if i < p then f i else g (i - p)
theorem cat_lo {α : Type} {p i : Nat} (f g : Nat → α) (h : i < p) : cat p f g i = f i := if_pos h
theorem cat_hi {α : Type} (p i : Nat) (f g : Nat → α) : cat p f g (p + i) = g i := by unfold cat; rw [if_neg (by omega), Nat.add_sub_cancel_left]
theorem cat_at {α : Type} (p : Nat) (f g : Nat → α) : cat p f g p = g 0 := cat_hi p 0 f g
theorem cat_zero {α : Type} (f g : Nat → α) : cat 0 f g = g := by funext i; unfold cat; rw [if_neg (Nat.not_lt_zero i), Nat.sub_zero]
/-- Cells may be, and are alike. -/
def alikeB (n : Nat) (L : Nat → Nat) : Bool := decide (∀ i, i < n → 1 ≤ L i ∧ L i ≤ 65536 ∧ L i = L 0)
theorem alikeB_true {n : Nat} {L : Nat → Nat} (h : alikeB n L = true) : ∀ i, i < n → 1 ≤ L i ∧ L i ≤ 65536 ∧ L i = L 0 := of_decide_eq_true h
theorem alikeB_same {n : Nat} {L L' : Nat → Nat} (h : ∀ i, i < n → L i = L' i) : alikeB n L = alikeB n L' := by
  unfold alikeB
  refine decide_eq_decide.2 ⟨fun g i hi => ?_, fun g i hi => ?_⟩
  · rw [← h i hi, ← h 0 (by omega)]; exact g i hi
  · rw [h i hi, h 0 (by omega)]; exact g i hi
/-- Numbers of data cells, none of them twice. -/
def onceB (k : Int) (n : Nat) (R : Nat → Int) : Bool := decide ((n : Int) ≤ k ∧ ∀ i, i < n → (0 ≤ R i ∧ R i < k) ∧ ∀ j, j < i → R j ≠ R i)
theorem onceB_true {k : Int} {n : Nat} {R : Nat → Int} (h : onceB k n R = true) : (n : Int) ≤ k ∧ ∀ i, i < n → (0 ≤ R i ∧ R i < k) ∧ ∀ j, j < i → R j ≠ R i := of_decide_eq_true h
theorem onceB_same {k : Int} {n : Nat} {R R' : Nat → Int} (h : ∀ i, i < n → R i = R' i) : onceB k n R = onceB k n R' := by
  unfold onceB
  refine decide_eq_decide.2 ⟨fun g => ⟨g.1, fun i hi => ⟨?_, fun j hj => ?_⟩⟩, fun g => ⟨g.1, fun i hi => ⟨?_, fun j hj => ?_⟩⟩⟩
  · rw [← h i hi]; exact (g.2 i hi).1
  · rw [← h i hi, ← h j (by omega)]; exact (g.2 i hi).2 j hj
  · rw [h i hi]; exact (g.2 i hi).1
  · rw [h i hi, h j (by omega)]; exact (g.2 i hi).2 j hj
/-- The parity cells are as many as must be, may be, and are alike. -/
def parB (r : Int) (pl : Nat) (PL : Nat → Nat) : Bool := decide ((pl : Int) = r) && alikeB pl PL
/-- As many deltas as cells, alike to each other and to the parity cells. -/
def fitB (pl : Nat) (PL : Nat → Nat) (n dl : Nat) (DL : Nat → Nat) : Bool := decide (dl = n) && alikeB (pl + dl) (cat pl PL DL)
def okAll (k r : Int) (pl : Nat) (PL : Nat → Nat) (n : Nat) (R : Nat → Int) (dl : Nat) (DL : Nat → Nat) : Bool := mayB k r && (parB r pl PL && (onceB k n R && fitB pl PL n dl DL))
def errAll (k r : Int) (pl : Nat) (PL : Nat → Nat) (n : Nat) (R : Nat → Int) : Int := if mayB k r then (if parB r pl PL then (if onceB k n R then 40 else 2) else 40) else 2
theorem okAll_true {k r : Int} {pl : Nat} {PL : Nat → Nat} {n : Nat} {R : Nat → Int} {dl : Nat} {DL : Nat → Nat} (h : okAll k r pl PL n R dl DL = true) : mayB k r = true ∧ (pl : Int) = r ∧ alikeB pl PL = true ∧ onceB k n R = true ∧ dl = n ∧ alikeB (pl + dl) (cat pl PL DL) = true := by
  unfold okAll parB fitB at h
  simp only [Bool.and_eq_true, decide_eq_true_eq] at h
  exact ⟨h.1, h.2.1.1, h.2.1.2, h.2.2.1, h.2.2.2.1, h.2.2.2.2⟩
theorem okAll_of {k r : Int} {pl : Nat} {PL : Nat → Nat} {n : Nat} {R : Nat → Int} {dl : Nat} {DL : Nat → Nat} (h1 : mayB k r = true) (h2 : (pl : Int) = r) (h3 : alikeB pl PL = true) (h4 : onceB k n R = true) (h5 : dl = n) (h6 : alikeB (pl + dl) (cat pl PL DL) = true) : okAll k r pl PL n R dl DL = true := by
  unfold okAll parB fitB
  simp only [Bool.and_eq_true, decide_eq_true_eq]
  exact ⟨h1, ⟨h2, h3⟩, h4, h5, h6⟩

/-- The number by which parity cell i takes changed cell j. -/
def fac (k : Nat) (R : Nat → Int) (i j : Nat) : K := gen k (k + i) (R j).toNat
/-- The parity cells when n cells changed. -/
def upd (k n : Nat) (R : Nat → Int) (D P : M) : M := fun i b => K.add (lin n (fac k R i) D b) (P i b)
theorem lin_zero (F : Nat → K) (H : M) (b : Nat) : lin 0 F H b = 0 := rfl
theorem lin_succ (n : Nat) (F : Nat → K) (H : M) (b : Nat) : lin (n + 1) F H b = K.add (lin n F H b) (K.mul (F n) (H n b)) := rfl
theorem lin_congr {n : Nat} {F F' : Nat → K} {H H' : M} {b : Nat} (h : ∀ j, j < n → F j = F' j) (g : ∀ j, j < n → H j b = H' j b) : lin n F H b = lin n F' H' b := sum_congr fun j hj => by rw [h j hj, g j hj]
theorem upd_sum (k n : Nat) (R : Nat → Int) (D P : M) (i b : Nat) : lin (n + 1) (cat n (fac k R i) (fun _ => 1)) (cat n D (fun _ => P i)) b = upd k n R D P i b := by
  rw [lin_succ, cat_at, cat_at, K.one_mul]
  unfold upd
  rw [lin_congr (fun j hj => cat_lo _ _ hj) (fun j hj => by rw [cat_lo _ _ hj])]
theorem upd_zero (k : Nat) (R : Nat → Int) (D P : M) (i b : Nat) : upd k 0 R D P i b = P i b := K.zero_add _
theorem upd_step (k j : Nat) (R : Nat → Int) (D P : M) (i b : Nat) : K.add (upd k j R D P i b) (K.mul (fac k R i j) (D j b)) = upd k (j + 1) R D P i b := by
  have := K.aA
  have := K.cA
  unfold upd
  rw [lin_succ]
  ac_rfl
theorem upd_one (k : Nat) (R : Nat → Int) (D P : M) (i b : Nat) : upd k 1 R D P i b = K.add (K.mul (fac k R i 0) (D 0 b)) (P i b) := by
  unfold upd
  rw [lin_succ, lin_zero, K.zero_add]
theorem upd_twice (k n : Nat) (R : Nat → Int) (D P : M) (i b : Nat) : upd k n R D (upd k n R D P) i b = P i b := by
  unfold upd
  rw [← K.add_assoc, K.add_self, K.zero_add]
theorem upd_congr {k n : Nat} {R R' : Nat → Int} {D D' P P' : M} {i b : Nat} (h1 : ∀ j, j < n → R j = R' j) (h2 : ∀ j, j < n → D j b = D' j b) (h3 : P i b = P' i b) : upd k n R D P i b = upd k n R' D' P' i b := by
  unfold upd
  rw [h3, lin_congr (F' := fac k R' i) (H' := D') (fun j hj => by unfold fac; rw [h1 j hj]) h2]
/-- From behind, one by one. -/
theorem upd_back {k n j : Nat} {R : Nat → Int} {D P Q : M} (h : ∀ i b, K.add (lin (j + 1) (fac k R i) D b) (Q i b) = upd k n R D P i b) (i b : Nat) : K.add (lin j (fac k R i) D b) (upd k 1 (fun _ => R j) (fun _ => D j) Q i b) = upd k n R D P i b := by
  rw [← h i b, upd_one, lin_succ, K.add_assoc]
  rfl
/-- One data cell more that changed. -/
theorem par_put {k c : Nat} (hc : c < k) (D : M) (d : Nat → K) (i b : Nat) : par k (put c (fun b => K.add (D c b) (d b)) D) i b = K.add (K.mul (gen k (k + i) c) (d b)) (par k D i b) := by
  have e : ∀ j, put c (fun b => K.add (D c b) (d b)) D j b = K.add (D j b) ((fun j b => if j = c then d b else 0 : M) j b) := fun j => by
    by_cases h : j = c
    · subst h; rw [put_at]; simp
    · rw [put_ne _ _ h]; simp [h, K.add_zero]
  show enc k _ (k + i) b = _
  rw [enc_congr (D' := fun j b => K.add (D j b) ((fun j b => if j = c then d b else 0 : M) j b)) (fun j _ => e j), enc_add, K.add_comm]
  have : enc k (fun j b => if j = c then d b else 0) (k + i) b = K.mul (gen k (k + i) c) (d b) := by
    show sum k (fun l => K.mul (gen k (k + i) l) (if l = c then d b else 0)) = _
    rw [sum_one hc (fun l _ hne => by rw [if_neg hne, K.mul_zero]), if_pos rfl]
  rw [this]
  rfl
theorem par_step {k t c : Nat} {R : Nat → Int} {D X P : M} {x y : Nat → K} (hc : c < k) (hx : ∀ b, X c b = x b) (h : ∀ i b, par k X i b = upd k t R D P i b) (i b : Nat) :
    par k (put c y X) i b = upd k (t + 1) (put t (c : Int) R) (put t (fun b => K.add (x b) (y b)) D) P i b := by
  have e : put c y X = put c (fun b => K.add (X c b) (K.add (x b) (y b))) X := by
    funext j
    by_cases g : j = c
    · subst g; rw [put_at, put_at]; funext b; rw [hx b, ← K.add_assoc, K.add_self, K.zero_add]
    · rw [put_ne _ _ g, put_ne _ _ g]
  rw [e, par_put hc X (fun b => K.add (x b) (y b)), h i b, ← upd_step]
  rw [upd_congr (R' := R) (D' := D) (P' := P) (fun j hj => put_ne _ _ (by omega)) (fun j hj => by rw [put_ne _ _ (by omega)]) rfl]
  unfold fac
  rw [put_at, put_at, K.add_comm, Int.toNat_natCast]
end Go.Proofs.Ytgflgmkaaidfnaa
