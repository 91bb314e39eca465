/- Images without memory: what raw writes and wipes make of them, what is told of them. -/
import Derived.Test.YtenlfhdchflnjaaLayA
namespace Go.Proofs.Ytenlfhdchflnjaa
open Go.RowKit

/-- A raw write. -/
structure Pt where
  d : Int
  r : Int
  s : Int
  b : List UInt8

def upd {α : Type} (i : Nat) (v : α) (f : Nat → α) (j : Nat) : α := if j = i then v else f j
theorem upd_at {α : Type} (i : Nat) (v : α) (f : Nat → α) : upd i v f i = v := if_pos rfl
theorem upd_ne {α : Type} {i j : Nat} (v : α) (f : Nat → α) (h : j ≠ i) : upd i v f j = f j := if_neg h
def hasB (N Q : Nat) (d r s : Int) : Bool := decide ((0 ≤ d ∧ d < (N : Int)) ∧ (0 ≤ r ∧ r < (Q : Int)) ∧ (0 ≤ s ∧ s < 2))
def plc (Q : Nat) (d r s : Int) : Nat := (d.toNat * Q + r.toNat) * 2 + s.toNat
def takB (N Q S : Nat) (x : Pt) : Bool := hasB N Q x.d x.r x.s && decide (x.b.length = S)
theorem has_true {N Q : Nat} {d r s : Int} (h : hasB N Q d r s = true) : (0 ≤ d ∧ d < (N : Int)) ∧ (0 ≤ r ∧ r < (Q : Int)) ∧ (0 ≤ s ∧ s < 2) := of_decide_eq_true h
theorem plc_cast {Q : Nat} {d r s : Int} (h1 : 0 ≤ d) (h2 : 0 ≤ r) (h3 : 0 ≤ s) : ((plc Q d r s : Nat) : Int) = (d * (Q : Int) + r) * 2 + s := by
  obtain ⟨a, rfl⟩ := Int.eq_ofNat_of_zero_le h1
  obtain ⟨b, rfl⟩ := Int.eq_ofNat_of_zero_le h2
  obtain ⟨c, rfl⟩ := Int.eq_ofNat_of_zero_le h3
  unfold plc
  simp
theorem plc_lt {N Q : Nat} {d r s : Int} (h : hasB N Q d r s = true) : plc Q d r s < N * Q * 2 := by
  obtain ⟨⟨h1, h2⟩, ⟨h3, h4⟩, h5, h6⟩ := has_true h
  unfold plc
  have a1 : d.toNat + 1 ≤ N := by omega
  have a2 : r.toNat + 1 ≤ Q := by omega
  have a3 : (d.toNat + 1) * Q ≤ N * Q := Nat.mul_le_mul_right Q a1
  rw [Nat.add_mul, Nat.one_mul] at a3
  omega
/-- Slots that are there, each blank or of a slot's size. -/
def Fit (n S : Nat) (F : Nat → List UInt8) : Prop := ∀ i, i < n → (F i).length = 0 ∨ (F i).length = S
/-- A drive is wiped. -/
def wpF (Q : Nat) (d : Nat) (F : Nat → List UInt8) (i : Nat) : List UInt8 := if i / (2 * Q) = d then [] else F i
/-- The parameters' numbers: drives, rows, a slot's size. -/
def Pm (k r c q : Int) (N Q S : Nat) : Prop := may k r c q = true ∧ (N : Int) = k + r ∧ (Q : Int) = q ∧ (S : Int) = 12 + 4 * (k + r) + c
theorem pm_of {k r c q : Int} (h : may k r c q = true) : ∃ N Q S, Pm k r c q N Q S := by
  obtain ⟨h1, h2, h3, h4, h5, h6, h7, h8, h9⟩ := may_true h
  exact ⟨(k + r).toNat, q.toNat, (12 + 4 * (k + r) + c).toNat, h, by omega, by omega, by omega⟩
theorem Pm.bounds {k r c q : Int} {N Q S : Nat} (h : Pm k r c q N Q S) : 1 ≤ N ∧ N ≤ 16 ∧ 8 ≤ Q ∧ Q ≤ 256 ∧ 20 ≤ S ∧ S ≤ 140 ∧ 16 ≤ N * Q * 2 ∧ N * Q * 2 ≤ 8192 := by
  obtain ⟨h0, hN, hQ, hS⟩ := h
  obtain ⟨h1, h2, h3, h4, h5, h6, h7, h8, h9⟩ := may_true h0
  have a1 : 1 ≤ N := by omega
  have a2 : N ≤ 16 := by omega
  have a3 : 8 ≤ Q := by omega
  have a4 : Q ≤ 256 := by omega
  have b1 : 1 * 8 ≤ N * Q := Nat.mul_le_mul a1 a3
  have b2 : N * Q ≤ 16 * 256 := Nat.mul_le_mul a2 a4
  exact ⟨a1, a2, a3, a4, by omega, by omega, by omega, by omega⟩
/-- What Check answers of an image, and its numbers where it may be. -/
def Ck (k r c q : Int) (n : Nat) (F : Nat → List UInt8) (x : Int) (N Q S : Nat) : Prop :=
  (x = 0 ∧ Pm k r c q N Q S ∧ n = N * Q * 2 ∧ Fit n S F) ∨ (x = 2 ∧ may k r c q = false ∧ N = 0 ∧ Q = 0 ∧ S = 0) ∨ (x = 90 ∧ N = 0 ∧ Q = 0 ∧ S = 0 ∧ ∃ N' Q' S', Pm k r c q N' Q' S' ∧ ¬ (n = N' * Q' * 2 ∧ Fit n S' F))
theorem ck_ex (k r c q : Int) (n : Nat) (F : Nat → List UInt8) : ∃ x N Q S, Ck k r c q n F x N Q S := by
  cases hm : may k r c q with
  | false => exact ⟨2, 0, 0, 0, .inr (.inl ⟨rfl, hm, rfl, rfl, rfl⟩)⟩
  | true =>
    obtain ⟨N, Q, S, hp⟩ := pm_of hm
    by_cases h : n = N * Q * 2 ∧ Fit n S F
    · exact ⟨0, N, Q, S, .inl ⟨rfl, hp, h.1, h.2⟩⟩
    · exact ⟨90, 0, 0, 0, .inr (.inr ⟨rfl, rfl, rfl, rfl, N, Q, S, hp, h⟩)⟩
theorem Ck.ok {k r c q : Int} {n : Nat} {F : Nat → List UInt8} {x : Int} {N Q S : Nat} (h : Ck k r c q n F x N Q S) (hx : x = 0) : Pm k r c q N Q S ∧ n = N * Q * 2 ∧ Fit n S F := by
  subst hx
  rcases h with ⟨_, h⟩ | ⟨h, _⟩ | ⟨h, _⟩
  · exact h
  · cases h
  · cases h
theorem Ck.bad {k r c q : Int} {n : Nat} {F : Nat → List UInt8} {x : Int} {N Q S : Nat} (h : Ck k r c q n F x N Q S) (hx : ¬ x = 0) : N = 0 ∧ Q = 0 ∧ S = 0 := by
  rcases h with ⟨h, _⟩ | ⟨_, _, h⟩ | ⟨_, h1, h2, h3, _⟩
  · exact absurd h hx
  · exact h
  · exact ⟨h1, h2, h3⟩
/-- An image behind the first m raw writes. -/
def aft (Q : Nat) (D : Nat → Pt) : Nat → (Nat → List UInt8) → Nat → List UInt8
  | 0, F => F
  | m + 1, F => upd (plc Q (D m).d (D m).r (D m).s) (D m).b (aft Q D m F)
theorem aft_fit {N Q S n : Nat} {D : Nat → Pt} {F : Nat → List UInt8} (h : Fit n S F) : ∀ m, (∀ i, i < m → takB N Q S (D i) = true) → Fit n S (aft Q D m F)
  | 0, _ => h
  | m + 1, ht => fun i hi => by
    have h1 := aft_fit h m (fun j hj => ht j (by omega)) i hi
    have h2 := ht m (by omega)
    unfold takB at h2
    rw [Bool.and_eq_true] at h2
    unfold aft
    by_cases e : i = plc Q (D m).d (D m).r (D m).s
    · subst e; rw [upd_at]; exact .inr (of_decide_eq_true h2.2)
    · rw [upd_ne _ _ e]; exact h1
theorem tak_has {N Q S : Nat} {x : Pt} (h : takB N Q S x = true) : hasB N Q x.d x.r x.s = true ∧ x.b.length = S := by
  unfold takB at h
  rw [Bool.and_eq_true] at h
  exact ⟨h.1, of_decide_eq_true h.2⟩
/-- What After answers: the error, and the image's parameters, number and slots (none where there is an error). -/
def Aft (k r c q : Int) (n : Nat) (F : Nat → List UInt8) (D : Nat → Pt) (ln : Nat) (m x k' r' c' q' : Int) (n' : Nat) (F' : Nat → List UInt8) : Prop :=
  ∃ y N Q S, Ck k r c q n F y N Q S ∧
    ((y = 0 ∧ ln ≤ 65536 ∧ (∀ i, i < ln → takB N Q S (D i) = true) ∧ 0 ≤ m ∧ m ≤ (ln : Int) ∧ x = 0 ∧ k' = k ∧ r' = r ∧ c' = c ∧ q' = q ∧ n' = n ∧ F' = aft Q D m.toNat F) ∨
     ((k' = 0 ∧ r' = 0 ∧ c' = 0 ∧ q' = 0 ∧ n' = 0 ∧ F' = fun _ => []) ∧ ((¬ y = 0 ∧ x = y) ∨ (y = 0 ∧ 65536 < ln ∧ x = 20) ∨ (y = 0 ∧ ln ≤ 65536 ∧ (∃ i, i < ln ∧ takB N Q S (D i) = false) ∧ x = 80) ∨ (y = 0 ∧ ln ≤ 65536 ∧ (∀ i, i < ln → takB N Q S (D i) = true) ∧ (m < 0 ∨ (ln : Int) < m) ∧ x = 2))))
theorem aft_ex (k r c q : Int) (n : Nat) (F : Nat → List UInt8) (D : Nat → Pt) (ln : Nat) (m : Int) : ∃ x k' r' c' q' n' F', Aft k r c q n F D ln m x k' r' c' q' n' F' := by
  obtain ⟨y, N, Q, S, h⟩ := ck_ex k r c q n F
  by_cases hy : y = 0
  · by_cases hl : ln ≤ 65536
    · by_cases ht : ∀ i, i < ln → takB N Q S (D i) = true
      · by_cases hm : 0 ≤ m ∧ m ≤ (ln : Int)
        · exact ⟨0, k, r, c, q, n, _, y, N, Q, S, h, .inl ⟨hy, hl, ht, hm.1, hm.2, rfl, rfl, rfl, rfl, rfl, rfl, rfl⟩⟩
        · exact ⟨2, 0, 0, 0, 0, 0, _, y, N, Q, S, h, .inr ⟨⟨rfl, rfl, rfl, rfl, rfl, rfl⟩, .inr (.inr (.inr ⟨hy, hl, ht, by omega, rfl⟩))⟩⟩
      · have : ∃ i, i < ln ∧ takB N Q S (D i) = false := by
          refine Classical.byContradiction fun hn => ht fun i hi => ?_
          cases hb : takB N Q S (D i)
          · exact absurd ⟨i, hi, hb⟩ hn
          · rfl
        exact ⟨80, 0, 0, 0, 0, 0, _, y, N, Q, S, h, .inr ⟨⟨rfl, rfl, rfl, rfl, rfl, rfl⟩, .inr (.inr (.inl ⟨hy, hl, this, rfl⟩))⟩⟩
    · exact ⟨20, 0, 0, 0, 0, 0, _, y, N, Q, S, h, .inr ⟨⟨rfl, rfl, rfl, rfl, rfl, rfl⟩, .inr (.inl ⟨hy, by omega, rfl⟩)⟩⟩
  · exact ⟨y, 0, 0, 0, 0, 0, _, y, N, Q, S, h, .inr ⟨⟨rfl, rfl, rfl, rfl, rfl, rfl⟩, .inl ⟨hy, rfl⟩⟩⟩
/-- What Wiped answers. -/
def Wip (k r c q : Int) (n : Nat) (F : Nat → List UInt8) (d x k' r' c' q' : Int) (n' : Nat) (F' : Nat → List UInt8) : Prop :=
  ∃ y N Q S, Ck k r c q n F y N Q S ∧
    ((y = 0 ∧ 0 ≤ d ∧ d < (N : Int) ∧ x = 0 ∧ k' = k ∧ r' = r ∧ c' = c ∧ q' = q ∧ n' = n ∧ F' = wpF Q d.toNat F) ∨
     ((k' = 0 ∧ r' = 0 ∧ c' = 0 ∧ q' = 0 ∧ n' = 0 ∧ F' = fun _ => []) ∧ ((¬ y = 0 ∧ x = y) ∨ (y = 0 ∧ ¬ (0 ≤ d ∧ d < (N : Int)) ∧ x = 2))))
theorem wip_ex (k r c q : Int) (n : Nat) (F : Nat → List UInt8) (d : Int) : ∃ x k' r' c' q' n' F', Wip k r c q n F d x k' r' c' q' n' F' := by
  obtain ⟨y, N, Q, S, h⟩ := ck_ex k r c q n F
  by_cases hy : y = 0
  · by_cases hd : 0 ≤ d ∧ d < (N : Int)
    · exact ⟨0, k, r, c, q, n, _, y, N, Q, S, h, .inl ⟨hy, hd.1, hd.2, rfl, rfl, rfl, rfl, rfl, rfl, rfl⟩⟩
    · exact ⟨2, 0, 0, 0, 0, 0, _, y, N, Q, S, h, .inr ⟨⟨rfl, rfl, rfl, rfl, rfl, rfl⟩, .inr ⟨hy, hd, rfl⟩⟩⟩
  · exact ⟨y, 0, 0, 0, 0, 0, _, y, N, Q, S, h, .inr ⟨⟨rfl, rfl, rfl, rfl, rfl, rfl⟩, .inl ⟨hy, rfl⟩⟩⟩
end Go.Proofs.Ytenlfhdchflnjaa
