/- What is made of old bytes by changes: plain mathematics. -/
import Derived.Test.YtdnflninbnjdhaaUpF
namespace Go.Proofs.Ytdnflninbnjdhaa
open Go.RowKit

theorem run_copy_any {w : World} {g n off dl dC sl : Nat} {G H : Nat → UInt8} {bo : Option Addr} {cb : Nat} (hg : Bz w g n G) (hb : Bec w bo sl cb H) (hk : sl ≤ dl) (hfit : off + sl ≤ n) :
    ∃ w', (Builtin.copy_ #[24, 24] 3 #[.slice (some ⟨g, off, none⟩) dl dC, .slice bo sl cb]).run Try.prog w = .ok (goInt sl) w' ∧ Bz w' g n (upR G off sl H) ∧ Only (fun b => b = g) w w' := by
  by_cases h0 : sl = 0
  · subst h0
    exact ⟨w, run_copy_no w _ bo dl dC cb, hg.congr fun j _ => (upR_out (by omega)).symm, Only.refl _ _⟩
  · exact run_copy_bz hg hb (by omega) (Nat.min_eq_left hk).symm hfit
theorem run_copy_zero {w : World} {g n o sl : Nat} {G H : Nat → UInt8} {dp bo : Option Addr} {dl dC cb : Nat} (hg : Bz w g n G) (hk : sl = 0) :
    ∃ w', (Builtin.copy_ #[24, 24] 3 #[.slice dp dl dC, .slice bo sl cb]).run Try.prog w = .ok (goInt sl) w' ∧ Bz w' g n (upR G o sl H) ∧ Only (fun b => b = g) w w' := by
  subst hk
  exact ⟨w, run_copy_no w _ bo dl dC cb, hg.congr fun j _ => (upR_out (by omega)).symm, Only.refl _ _⟩
/-- The old bytes, with those of the first i changed cells. -/
def gI (m : Nat) (O Wt : Nat → UInt8) (a i j : Nat) : UInt8 := if a ≤ j / m ∧ j / m < a + i then Wt j else O j
theorem div_in {m c j : Nat} (hm : 0 < m) : c * m ≤ j ∧ j < c * m + m ↔ j / m = c := by
  constructor
  · intro h
    exact (Nat.div_eq_iff hm).2 (by omega)
  · rintro rfl
    have h1 := Nat.div_add_mod j m
    have h2 := Nat.mod_lt j hm
    rw [Nat.mul_comm] at h1
    omega
theorem gI_zero {m : Nat} {O Wt : Nat → UInt8} {a j : Nat} : gI m O Wt a 0 j = O j := if_neg (by omega)
theorem gI_step {m : Nat} (hm : 0 < m) {O Wt : Nat → UInt8} {a i j : Nat} : upR (gI m O Wt a i) ((a + i) * m) m (fun b => Wt ((a + i) * m + b)) j = gI m O Wt a (i + 1) j := by
  have hd := div_in (c := a + i) (j := j) hm
  unfold gI
  by_cases h : (a + i) * m ≤ j ∧ j < (a + i) * m + m
  · rw [upR_in h, if_pos (by have := hd.1 h; omega), show (a + i) * m + (j - (a + i) * m) = j by omega]
  · rw [upR_out h]
    have hne : ¬ j / m = a + i := fun e => h (hd.2 e)
    by_cases h2 : a ≤ j / m ∧ j / m < a + i
    · rw [if_pos h2, if_pos (by omega)]
    · rw [if_neg h2, if_neg (by omega)]
/-- A cell that is not met has no new byte. -/
theorem met_not {m o nn : Nat} {O M : Nat → UInt8} {j : Nat} (h : ¬ (o / m ≤ j / m ∧ j / m < o / m + nCh o nn m)) : upR O o nn M j = O j := by
  apply upR_out
  intro hj
  apply h
  have h1 : o / m ≤ j / m := Nat.div_le_div_right hj.1
  refine ⟨h1, ?_⟩
  have h2 : j / m ≤ (o + nn - 1) / m := Nat.div_le_div_right (by omega)
  unfold nCh
  rw [if_neg (by omega)]
  have : o / m ≤ (o + nn - 1) / m := Nat.div_le_div_right (by omega)
  omega
theorem gI_all {m o nn : Nat} {O M : Nat → UInt8} {j : Nat} : gI m O (upR O o nn M) (o / m) (nCh o nn m) j = upR O o nn M j := by
  unfold gI
  by_cases h : o / m ≤ j / m ∧ j / m < o / m + nCh o nn m
  · rw [if_pos h]
  · rw [if_neg h, met_not h]
theorem eqB_no {n : Nat} {F G : Nat → UInt8} (h : eqB n F G = false) : ∃ j, j < n ∧ F j ≠ G j := by
  have := of_decide_eq_false h
  exact Classical.byContradiction fun hn => this fun j hj => Classical.byContradiction fun e => hn ⟨j, hj, e⟩
/-- A cell that differs is met. -/
theorem df_met {m o nn : Nat} (hm : 0 < m) {O M : Nat → UInt8} {c : Nat} (h : dfB m O (upR O o nn M) c = true) : o / m ≤ c ∧ c < o / m + nCh o nn m := by
  unfold dfB at h
  have h' : eqB m (fun j => O (c * m + j)) (fun j => upR O o nn M (c * m + j)) = false := by
    cases e : eqB m (fun j => O (c * m + j)) (fun j => upR O o nn M (c * m + j))
    · rfl
    · rw [e] at h; cases h
  obtain ⟨j, hj, hne⟩ := eqB_no h'
  have hc : (c * m + j) / m = c := (div_in hm).1 (by omega)
  refine Classical.byContradiction fun hn => hne ?_
  show O (c * m + j) = upR O o nn M (c * m + j)
  exact (met_not (by rw [hc]; exact hn)).symm
theorem df_same {m : Nat} (hm : 0 < m) {O Wt : Nat → UInt8} {j : Nat} (h : dfB m O Wt (j / m) = false) : O j = Wt j := by
  unfold dfB at h
  have h' : eqB m (fun b => O (j / m * m + b)) (fun b => Wt (j / m * m + b)) = true := by
    cases e : eqB m (fun b => O (j / m * m + b)) (fun b => Wt (j / m * m + b))
    · rw [e] at h; cases h
    · rfl
  have := of_decide_eq_true h' (j % m) (Nat.mod_lt j hm)
  have e := Nat.div_add_mod j m
  rw [Nat.mul_comm] at e
  simp only [e] at this
  exact this
theorem cU_in {P : Nat → Bool} {a n : Nat} (h : ∀ x, P x = true → a ≤ x ∧ x < a + n) : ∀ i, cU P i ≤ i - a ∧ cU P i ≤ n
  | 0 => ⟨Nat.zero_le _, Nat.zero_le _⟩
  | i + 1 => by
    have := cU_in h i
    cases e : P i
    · rw [cU_no e]; omega
    · rw [cU_yes e]; have := h i e; omega
theorem cU_sU (P : Nat → Bool) : ∀ n t, t < cU P n → cU P (sU P n t) = t
  | 0, t, h => absurd h (Nat.not_lt_zero t)
  | n + 1, t, h => by
    by_cases e : t < cU P n
    · rw [sU_lo e]; exact cU_sU P n t e
    · cases q : P n
      · rw [cU_no q] at h; omega
      · rw [cU_yes q] at h
        obtain rfl : t = cU P n := by omega
        rw [sU_at q]
theorem cU_mono (P : Nat → Bool) {i j : Nat} (h : i ≤ j) : cU P i ≤ cU P j := by
  induction j with
  | zero => rw [show i = 0 by omega]; exact Nat.le_refl _
  | succ j ih =>
    by_cases e : i = j + 1
    · rw [e]; exact Nat.le_refl _
    · have := ih (by omega); rw [cU]; omega
theorem cU_inj {P : Nat → Bool} {x y : Nat} (hx : P x = true) (hy : P y = true) (h : cU P x = cU P y) : x = y := by
  rcases Nat.lt_trichotomy x y with c | c | c
  · have := cU_mono P (show x + 1 ≤ y by omega); rw [cU_yes hx] at this; omega
  · exact c
  · have := cU_mono P (show y + 1 ≤ x by omega); rw [cU_yes hy] at this; omega
/-- The old bytes, with those of the first t cells that differ. -/
def aI (P : Nat → Bool) (m : Nat) (O Wt : Nat → UInt8) (t j : Nat) : UInt8 := if P (j / m) = true ∧ cU P (j / m) < t then Wt j else O j
theorem aI_zero {P : Nat → Bool} {m : Nat} {O Wt : Nat → UInt8} {j : Nat} : aI P m O Wt 0 j = O j := if_neg (by omega)
theorem aI_step {P : Nat → Bool} {m K : Nat} (hm : 0 < m) {O Wt : Nat → UInt8} {t j : Nat} (ht : t < cU P K) : upR (aI P m O Wt t) (sU P K t * m) m (fun b => Wt (sU P K t * m + b)) j = aI P m O Wt (t + 1) j := by
  obtain ⟨h1, h2⟩ := sU_is P K t ht
  have h3 := cU_sU P K t ht
  have hd := div_in (c := sU P K t) (j := j) hm
  unfold aI
  by_cases h : sU P K t * m ≤ j ∧ j < sU P K t * m + m
  · rw [upR_in h, if_pos (by rw [hd.1 h]; exact ⟨h2, by omega⟩), show sU P K t * m + (j - sU P K t * m) = j by omega]
  · rw [upR_out h]
    by_cases hp : P (j / m) = true ∧ cU P (j / m) < t
    · rw [if_pos hp, if_pos ⟨hp.1, by omega⟩]
    · rw [if_neg hp, if_neg fun q => hp ⟨q.1, ?_⟩]
      have : ¬ cU P (j / m) = t := fun e => h (hd.2 (cU_inj q.1 h2 (by rw [e, h3])))
      have := q.2
      omega
theorem aI_all {m K : Nat} (hm : 0 < m) {O Wt : Nat → UInt8} {j : Nat} (hj : j < K * m) : aI (dfB m O Wt) m O Wt (cU (dfB m O Wt) K) j = Wt j := by
  unfold aI
  have hc : j / m < K := (Nat.div_lt_iff_lt_mul hm).2 hj
  cases e : dfB m O Wt (j / m)
  · rw [if_neg (fun q => Bool.false_ne_true q.1)]; exact df_same hm e
  · have := cU_mono (dfB m O Wt) (show j / m + 1 ≤ K by omega)
    rw [cU_yes e] at this
    rw [if_pos ⟨rfl, by omega⟩]
theorem df_self (m : Nat) (Wt : Nat → UInt8) : ∀ i, cU (dfB m Wt Wt) i = 0
  | 0 => rfl
  | i + 1 => by
    rw [cU_no]
    · exact df_self m Wt i
    · unfold dfB eqB; rw [decide_eq_true fun _ _ => rfl]; rfl
end Go.Proofs.Ytdnflninbnjdhaa
