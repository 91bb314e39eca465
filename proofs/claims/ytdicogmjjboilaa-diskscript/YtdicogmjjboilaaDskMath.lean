/- Drives without memory: what they hold, what raw writes, cuts and wipes make of it. -/
import Derived.Test.YtdicogmjjboilaaLayA
namespace Go.Proofs.Ytdicogmjjboilaa
open Go.RowKit

/-- What a disk holds and tells. -/
structure St where
  F : Nat → List UInt8
  gone : Nat → Bool
  off : Bool
  cut : Option Nat
  wr : Int

/-- A raw write. -/
structure Pt where
  d : Int
  r : Int
  s : Int
  b : List UInt8

def upd {α : Type} (i : Nat) (v : α) (f : Nat → α) (j : Nat) : α := if j = i then v else f j
theorem upd_at {α : Type} (i : Nat) (v : α) (f : Nat → α) : upd i v f i = v := if_pos rfl
theorem upd_ne {α : Type} {i j : Nat} (v : α) (f : Nat → α) (h : j ≠ i) : upd i v f j = f j := if_neg h
def hasB (N Q : Nat) (d r s : Int) : Bool := decide ((0 ≤ d ∧ d < (N : Int)) ∧ (0 ≤ r ∧ r < (Q : Int)) ∧ (0 ≤ s ∧ s < 2))
def plc (Q : Nat) (d r s : Int) : Nat := (d.toNat * Q + r.toNat) * 2 + s.toNat
def takB (N Q S : Nat) (x : Pt) : Bool := hasB N Q x.d x.r x.s && decide (x.b.length = S)
theorem has_true {N Q : Nat} {d r s : Int} (h : hasB N Q d r s = true) : (0 ≤ d ∧ d < (N : Int)) ∧ (0 ≤ r ∧ r < (Q : Int)) ∧ (0 ≤ s ∧ s < 2) := of_decide_eq_true h
theorem plc_cast {Q : Nat} {d r s : Int} (h1 : 0 ≤ d) (h2 : 0 ≤ r) (h3 : 0 ≤ s) : ((plc Q d r s : Nat) : Int) = (d * (Q : Int) + r) * 2 + s := by
  obtain ⟨a, rfl⟩ := Int.eq_ofNat_of_zero_le h1
  obtain ⟨b, rfl⟩ := Int.eq_ofNat_of_zero_le h2
  obtain ⟨c, rfl⟩ := Int.eq_ofNat_of_zero_le h3
  unfold plc
  simp
theorem plc_lt {N Q : Nat} {d r s : Int} (h : hasB N Q d r s = true) : plc Q d r s < N * Q * 2 := by
  obtain ⟨⟨h1, h2⟩, ⟨h3, h4⟩, h5, h6⟩ := has_true h
  unfold plc
  have a1 : d.toNat + 1 ≤ N := by omega
  have a2 : r.toNat + 1 ≤ Q := by omega
  have a3 : (d.toNat + 1) * Q ≤ N * Q := Nat.mul_le_mul_right Q a1
  rw [Nat.add_mul, Nat.one_mul] at a3
  omega
/-- One raw write. -/
def wr1 (N Q S : Nat) (st : St) (x : Pt) : Int × St :=
  if st.off = true then (9, st) else
  if takB N Q S x = true then
    match st.cut with
    | some 0 => (9, { st with off := true, cut := none })
    | some (n + 1) => (0, { st with F := upd (plc Q x.d x.r x.s) x.b st.F, cut := some n, wr := wrap64 (st.wr + 1) })
    | none => (0, { st with F := upd (plc Q x.d x.r x.s) x.b st.F, wr := wrap64 (st.wr + 1) })
  else (80, st)
/-- Raw writes up to the first error. -/
def wrs (N Q S : Nat) (st : St) : List Pt → Int × St
  | [] => (0, st)
  | x :: l => if (wr1 N Q S st x).1 = 0 then wrs N Q S (wr1 N Q S st x).2 l else wr1 N Q S st x
theorem wrs_go {N Q S : Nat} {st : St} {x : Pt} {l : List Pt} (h : (wr1 N Q S st x).1 = 0) : wrs N Q S st (x :: l) = wrs N Q S (wr1 N Q S st x).2 l := if_pos h
theorem wrs_stop {N Q S : Nat} {st : St} {x : Pt} {l : List Pt} (h : ¬ (wr1 N Q S st x).1 = 0) : wrs N Q S st (x :: l) = wr1 N Q S st x := if_neg h
theorem wr1_err (N Q S : Nat) (st : St) (x : Pt) : (wr1 N Q S st x).1 = 0 ∨ (wr1 N Q S st x).1 = 9 ∨ (wr1 N Q S st x).1 = 80 := by
  unfold wr1
  split
  · exact .inr (.inl rfl)
  · split
    · split
      · exact .inr (.inl rfl)
      · exact .inl rfl
      · exact .inl rfl
    · exact .inr (.inr rfl)
theorem wrs_err (N Q S : Nat) (st : St) (l : List Pt) : (wrs N Q S st l).1 = 0 ∨ (wrs N Q S st l).1 = 9 ∨ (wrs N Q S st l).1 = 80 := by
  induction l generalizing st with
  | nil => exact .inl rfl
  | cons x l ih =>
    by_cases h : (wr1 N Q S st x).1 = 0
    · rw [wrs_go h]; exact ih _
    · rw [wrs_stop h]; exact wr1_err N Q S st x
/-- Slots that are there, each blank or of a slot's size. -/
def Fit (n S : Nat) (F : Nat → List UInt8) : Prop := ∀ i, i < n → (F i).length = 0 ∨ (F i).length = S
theorem wr1_fit {n N Q S : Nat} {st : St} (x : Pt) (h : Fit n S st.F) : Fit n S (wr1 N Q S st x).2.F := by
  have hu : takB N Q S x = true → Fit n S (upd (plc Q x.d x.r x.s) x.b st.F) := fun ht i hi => by
    unfold takB at ht
    rw [Bool.and_eq_true] at ht
    by_cases e : i = plc Q x.d x.r x.s
    · subst e; rw [upd_at]; exact .inr (of_decide_eq_true ht.2)
    · rw [upd_ne _ _ e]; exact h i hi
  unfold wr1
  split
  · exact h
  · split
    · rename_i ht
      split
      · exact h
      · exact hu ht
      · exact hu ht
    · exact h
theorem wrs_fit {n N Q S : Nat} {st : St} (l : List Pt) (h : Fit n S st.F) : Fit n S (wrs N Q S st l).2.F := by
  induction l generalizing st with
  | nil => exact h
  | cons x l ih =>
    by_cases he : (wr1 N Q S st x).1 = 0
    · rw [wrs_go he]; exact ih (wr1_fit x h)
    · rw [wrs_stop he]; exact wr1_fit x h
/-- A drive is wiped. -/
def wpF (Q : Nat) (d : Nat) (F : Nat → List UInt8) (i : Nat) : List UInt8 := if i / (2 * Q) = d then [] else F i
def wipeSt (Q : Nat) (d : Nat) (st : St) : St := { st with F := wpF Q d st.F, gone := upd d true st.gone }
def cutSt (n : Nat) (st : St) : St := { st with cut := some n }
def onSt (st : St) : St := { st with off := false, cut := none }
def wholeSt (st : St) : St := { st with gone := fun _ => false }
/-- A disk of slots F. -/
def newSt (F : Nat → List UInt8) : St := { F := F, gone := fun _ => false, off := false, cut := none, wr := 0 }
def rdErr (N Q : Nat) (st : St) (d r s : Int) : Int := if st.off = true then 9 else if hasB N Q d r s = true then 0 else 80
def rdB (N Q : Nat) (st : St) (d r s : Int) : List UInt8 := if st.off = true then [] else if hasB N Q d r s = true then st.F (plc Q d r s) else []
/-- The parameters' numbers: drives, rows, a slot's size. -/
def Pm (k r c q : Int) (N Q S : Nat) : Prop := may k r c q = true ∧ (N : Int) = k + r ∧ (Q : Int) = q ∧ (S : Int) = 12 + 4 * (k + r) + c
theorem pm_of {k r c q : Int} (h : may k r c q = true) : ∃ N Q S, Pm k r c q N Q S := by
  obtain ⟨h1, h2, h3, h4, h5, h6, h7, h8, h9⟩ := may_true h
  exact ⟨(k + r).toNat, q.toNat, (12 + 4 * (k + r) + c).toNat, h, by omega, by omega, by omega⟩
theorem Pm.bounds {k r c q : Int} {N Q S : Nat} (h : Pm k r c q N Q S) : 1 ≤ N ∧ N ≤ 16 ∧ 8 ≤ Q ∧ Q ≤ 256 ∧ 20 ≤ S ∧ S ≤ 140 ∧ 16 ≤ N * Q * 2 ∧ N * Q * 2 ≤ 8192 := by
  obtain ⟨h0, hN, hQ, hS⟩ := h
  obtain ⟨h1, h2, h3, h4, h5, h6, h7, h8, h9⟩ := may_true h0
  have a1 : 1 ≤ N := by omega
  have a2 : N ≤ 16 := by omega
  have a3 : 8 ≤ Q := by omega
  have a4 : Q ≤ 256 := by omega
  have b1 : 1 * 8 ≤ N * Q := Nat.mul_le_mul a1 a3
  have b2 : N * Q ≤ 16 * 256 := Nat.mul_le_mul a2 a4
  exact ⟨a1, a2, a3, a4, by omega, by omega, by omega, by omega⟩
end Go.Proofs.Ytdicogmjjboilaa
