/- A whole stripe, of which some drives are wiped: what is held then, and read. -/
import Derived.Test.YtapflgfifppckaaStX
namespace Go.Proofs.Ytapflgfifppckaa
open Go.RowKit

theorem erD_zero {E : Int} {n W : Nat} (h : erD E n W = 0) : E = 0 ∧ n = W := by
  unfold erD at h
  by_cases e : E = 0
  · rw [if_pos e] at h
    by_cases g : n = W
    · exact ⟨e, g⟩
    · rw [if_neg g] at h; exact absurd h (by decide)
  · rw [if_neg e] at h; exact absurd h e
/-- What parameters that may be come to. -/
theorem Par.nums {k r c q : Int} {N W : Nat} (h : Par k r c q N W 0) : ∃ K m : Nat, k = (K : Int) ∧ c = (m : Int) ∧ 1 ≤ K ∧ K ≤ 12 ∧ K ≤ N ∧ N ≤ 16 ∧ 8 ≤ m ∧ m ≤ 64 ∧ W = K * m := by
  have hle := h.le
  rcases h with ⟨hm, hW, hN, _⟩ | ⟨_, _, _, h0⟩
  · obtain ⟨h1, h2, h3, h4, h5, h6, h7, h8, h9⟩ := may_true hm
    obtain ⟨K, rfl⟩ := Int.eq_ofNat_of_zero_le (show 0 ≤ k by omega)
    obtain ⟨m, rfl⟩ := Int.eq_ofNat_of_zero_le (show 0 ≤ c by omega)
    refine ⟨K, m, rfl, rfl, by omega, by omega, by omega, hle, by omega, by omega, ?_⟩
    rw [← Int.natCast_mul] at hW; omega
  · exact absurd h0 (by decide)
theorem lenE_z {E : Int} {n m : Nat} {b : Nat} (h : b < lenE E n) (hm : n = m) : E = 0 ∧ b < m := by
  unfold lenE at h
  by_cases e : E = 0
  · rw [if_pos e] at h; exact ⟨e, by omega⟩
  · rw [if_neg e] at h; omega
/-- What lies in the places of a row of whose first t pairs those are emptied that P doesn't name. -/
def wp {α : Type} (P : Nat → Bool) (x : α) (f : Nat → α) (t j : Nat) : α := if j / 2 < t ∧ P (j / 2) = false then x else f j
theorem wp_zero {α : Type} (P : Nat → Bool) (x : α) (f : Nat → α) : wp P x f 0 = f := funext fun _ => if_neg fun h => absurd h.1 (Nat.not_lt_zero _)
theorem wp_left {α : Type} {P : Nat → Bool} {x : α} {f : Nat → α} {t j : Nat} (h : P (j / 2) = true) : wp P x f t j = f j := if_neg fun e => by rw [h] at e; exact absurd e.2 (by decide)
theorem wp_gone {α : Type} {P : Nat → Bool} {x : α} {f : Nat → α} {t j : Nat} (h : P (j / 2) = false) (hj : j / 2 < t) : wp P x f t j = x := if_pos ⟨hj, h⟩
theorem wp_skip {α : Type} {P : Nat → Bool} {x : α} {f : Nat → α} {t : Nat} (h : P t = true) : wp P x f (t + 1) = wp P x f t := funext fun j => by
  unfold wp
  by_cases e : j / 2 = t
  · rw [if_neg (fun a => by rw [e, h] at a; exact absurd a.2 (by decide)), if_neg (fun a => by omega)]
  · by_cases g : j / 2 < t ∧ P (j / 2) = false
    · rw [if_pos g, if_pos ⟨by omega, g.2⟩]
    · rw [if_neg g, if_neg (fun a => g ⟨by omega, a.2⟩)]
theorem wp_take {α : Type} {P : Nat → Bool} {x : α} {f : Nat → α} {t : Nat} (h : P t = false) : wp P x f (t + 1) = Cod.put (t * 2 + 1) x (Cod.put (t * 2) x (wp P x f t)) := funext fun j => by
  by_cases e1 : j = t * 2 + 1
  · rw [e1, Cod.put_at, wp_gone (by rw [show (t * 2 + 1) / 2 = t by omega]; exact h) (by omega)]
  · rw [Cod.put_ne _ _ e1]
    by_cases e2 : j = t * 2
    · rw [e2, Cod.put_at, wp_gone (by rw [show t * 2 / 2 = t by omega]; exact h) (by omega)]
    · rw [Cod.put_ne _ _ e2]
      unfold wp
      by_cases g : j / 2 < t ∧ P (j / 2) = false
      · rw [if_pos g, if_pos ⟨by omega, g.2⟩]
      · rw [if_neg g, if_neg (fun a => g ⟨by omega, a.2⟩)]
theorem wp_bec {w w' : World} {n : Nat} {P : Nat → Bool} {A : Nat → Option Addr} {L C : Nat → Nat} {F : Nat → Nat → UInt8} (h : ∀ j, j < 2 * n → Bec w (A j) (L j) (C j) (F j)) (hb : Below w.heap.size w w') (t : Nat) : ∀ j, j < 2 * n → Bec w' (wp P none A t j) (wp P 0 L t j) (wp P 0 C t j) (F j) := fun j hj => by
  by_cases g : j / 2 < t ∧ P (j / 2) = false
  · rw [wp_gone g.2 g.1, wp_gone g.2 g.1, wp_gone g.2 g.1]; exact bec_nil _ _
  · unfold wp; rw [if_neg g, if_neg g, if_neg g]; exact (h j hj).below hb
theorem bP_bec {w : World} {ro : Option Addr} {rn : Nat} {A : Nat → Option Addr} {L C : Nat → Nat} {F : Nat → Nat → UInt8} (hr : Rw w ro rn A L C F) {B : Nat} {lo : Option Addr} {cap : Nat} {Lc os : Nat → Nat} {nu : Int} {nn : Nat} {T : Nat → Option Addr} {U : Nat → Nat} {G : Nat → Nat → UInt8} (hp : PL B w lo (Cod.cnt Lc rn) cap rn Lc os nu nn T U G) :
    ∀ t, t ≤ Cod.cnt Lc rn → ∀ j, j < 2 * rn → Bec w (bP Lc os rn A T t j) (bP Lc os rn L (fun _ => nn) t j) (bP Lc os rn C U t j) (bP Lc os rn F G t j) := fun t => by
  induction t with
  | zero => exact fun _ j hj => hr.bec j hj
  | succ t ih =>
    intro ht j hj
    rw [bP, bP, bP, bP]
    by_cases e : j = 2 * Cod.sel Lc rn t + os (Cod.sel Lc rn t)
    · rw [e, Cod.put_at, Cod.put_at, Cod.put_at, Cod.put_at]
      exact (hp.row _ ((Cod.sel_is Lc rn).lt t (by omega)) ((Cod.sel_is Lc rn).there t (by omega))).bec
    · rw [Cod.put_ne _ _ e, Cod.put_ne _ _ e, Cod.put_ne _ _ e, Cod.put_ne _ _ e]; exact ih (by omega) j hj
def pL (P : Nat → Bool) (i : Nat) : Nat := if P i = true then 1 else 0
theorem any_n {N : Nat} {c : Int} {k : Int} {kd : UInt8} {v : Int} {L os : Nat → Nat} {F : Nat → Nat → UInt8} {D : Nat → UInt8} {P : Nat → Bool} (hN : N ≤ 16) (hc : 8 ≤ c) (hk : kd = 1 ∨ kd = 2) (hv : 1 ≤ v ∧ v ≤ 1073741824) (ho : ∀ i, os i < 2) (hab : abB N c L F v = true) :
    ∀ i, i < N → (P i = true → New N c kd v (fun _ => v) (dH k.toNat c.toNat D) i (zv N c (wp P 0 (bP (fun _ => c.toNat) os N L (fun _ => sz N c) N) N) (bP (fun _ => c.toNat) os N F (fun i => enc (slC kd N (fun _ => v) c.toNat (dH k.toNat c.toNat D i) i)) N) kd v i)) ∧ (P i = false → zv N c (wp P 0 (bP (fun _ => c.toNat) os N L (fun _ => sz N c) N) N) (bP (fun _ => c.toNat) os N F (fun i => enc (slC kd N (fun _ => v) c.toNat (dH k.toNat c.toNat D i) i)) N) kd v i = zSl) := by
  obtain ⟨g1, g2⟩ := full_yy (n := N) (L := L) (F := F) (os := os) (D := dH k.toNat c.toNat D) hN hc hk hv ho (Nat.le_refl _)
  obtain ⟨LN, hLN⟩ : ∃ LN, LN = bP (fun _ => c.toNat) os N L (fun _ => sz N c) N := ⟨_, rfl⟩
  obtain ⟨FN, hFN⟩ : ∃ FN, FN = bP (fun _ => c.toNat) os N F (fun i => enc (slC kd N (fun _ => v) c.toNat (dH k.toNat c.toNat D i) i)) N := ⟨_, rfl⟩
  rw [← hLN, ← hFN] at g1
  simp only [← hLN, ← hFN] at g2
  rw [← hLN, ← hFN]
  obtain ⟨Y', hY'⟩ : ∃ Y', Y' = yy N c (wp P 0 LN N) FN := ⟨_, rfl⟩
  have oY' : OkY N c Y' := by rw [hY']; exact yy_ok _ _ _ _
  have hst : ∀ j, j < 2 * N → (yy N c L F j).st < v := fun j hj => above_st hab hv.1 hj
  have hy : ∀ j, P (j / 2) = true → Y' j = yy N c LN FN j := fun j hj => by rw [hY']; exact yy_congr (wp_left hj) rfl
  have hz : ∀ j, j / 2 < N → P (j / 2) = false → (Y' j).st < v := fun j hj hp => by
    rw [hY', yy_none (wp_gone hp hj)]; show (0 : Int) < v; omega
  have hF := fresh (G := dH k.toNat c.toNat D) (P := P) hk hv.1 oY' ⟨fun i hi e => by
    have h1 := ho i
    refine ⟨os i, by omega, ?_, ?_⟩
    · rw [hy _ (by rw [show (2 * i + os i) / 2 = i by omega]; exact e)]; exact g1 i hi
    · rw [hy _ (by rw [show (2 * i + (1 - os i)) / 2 = i by omega]; exact e), g2 _ (.inr (by rw [show (2 * i + (1 - os i)) / 2 = i by omega]; omega))]
      exact hst _ (by omega), fun i hi e => ⟨hz _ (by omega) (by rw [show 2 * i / 2 = i by omega]; exact e), hz _ (by omega) (by rw [show (2 * i + 1) / 2 = i by omega]; exact e)⟩⟩
  intro i hi
  unfold zv
  rw [← hY']
  exact hF i hi
end Go.Proofs.Ytapflgfifppckaa
