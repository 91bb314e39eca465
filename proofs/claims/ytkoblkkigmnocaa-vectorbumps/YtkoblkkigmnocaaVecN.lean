/- VectorBumps: which cells are marked; a vector that becomes another one, cell by cell. -/
import Derived.Test.YtkoblkkigmnocaaVecL
namespace Go.Proofs.Ytkoblkkigmnocaa
open Go.RowKit

def mb (C : Nat → Int) : Nat → Nat → Bool
  | 0, _ => false
  | k + 1, i => if C k = (i : Int) then true else mb C k i
theorem mb_true {C : Nat → Int} {m i : Nat} (h : mb C m i = true) : ∃ j, j < m ∧ C j = (i : Int) := by
  induction m with
  | zero => cases h
  | succ k ih =>
    have h' : (if C k = (i : Int) then true else mb C k i) = true := h
    by_cases e : C k = (i : Int)
    · exact ⟨k, by omega, e⟩
    · rw [if_neg e] at h'
      obtain ⟨j, h1, h2⟩ := ih h'
      exact ⟨j, by omega, h2⟩
theorem mb_false {C : Nat → Int} {m i : Nat} (h : mb C m i = false) : ¬ ∃ j, j < m ∧ C j = (i : Int) := by
  induction m with
  | zero => rintro ⟨j, hj, _⟩; omega
  | succ k ih =>
    have h' : (if C k = (i : Int) then true else mb C k i) = false := h
    by_cases e : C k = (i : Int)
    · rw [if_pos e] at h'; cases h'
    · rw [if_neg e] at h'
      rintro ⟨j, h1, h2⟩
      by_cases ej : j = k
      · subst ej; exact e h2
      · exact ih h' ⟨j, by omega, h2⟩
theorem mb_step {C : Nat → Int} {k c : Nat} (h : C k = (c : Int)) (i : Nat) : (if i = c then Value.bool true else .bool (mb C k i)) = .bool (mb C (k + 1) i) := by
  show _ = Value.bool (if C k = (i : Int) then true else mb C k i)
  by_cases e : i = c
  · subst e; rw [if_pos rfl, if_pos h]
  · rw [if_neg e, if_neg (by rw [h]; omega)]
theorem dif_mb {V C : Nat → Int} {M : Int} {n m : Nat} (h : ∀ i, i < n → V i ≤ M) (i : Nat) (hi : i < n) : dif V (bmp C (M + 1) V m) i = mb C m i := by
  unfold dif
  cases e : mb C m i
  · rw [bmp_miss (mb_false e)]; exact decide_eq_false fun k => k rfl
  · rw [bmp_hit (mb_true e)]
    have := h i hi
    exact decide_eq_true (by omega)
theorem bmp_or (C : Nat → Int) (v : Int) (V : Nat → Int) (m i : Nat) : bmp C v V m i = v ∨ bmp C v V m i = V i := by
  cases e : mb C m i
  · exact .inr (bmp_miss (mb_false e))
  · exact .inl (bmp_hit (mb_true e))
theorem bmp_er {V C : Nat → Int} {v : Int} {n m : Nat} (h : erV 0 n n V = 0) (h1 : 1 ≤ v) (h2 : v ≤ 1073741824) : erV 0 n n (bmp C v V m) = 0 :=
  erV_ok rfl fun i hi => by
    rcases bmp_or C v V m i with e | e
    · rw [e]; exact ⟨h1, h2⟩
    · rw [e]; exact (erV_of h).2.2 i hi
theorem bmp_le {V C : Nat → Int} {M : Int} {n m : Nat} (h : ∀ i, i < n → V i ≤ M) : leB n V (bmp C (M + 1) V m) = true :=
  decide_eq_true fun i hi => by
    have := h i hi
    rcases bmp_or C (M + 1) V m i with e | e <;> omega
theorem bmp_last {V C : Nat → Int} {n m : Nat} (h0 : 0 < m) (hc : ∀ j, j < m → 0 ≤ C j ∧ C j < (n : Int)) : mx (bmp C (mx V n + 1) V m) n = mx V n + 1 := by
  apply Int.le_antisymm
  · refine mx_top (by have := mx_nonneg V n; omega) fun i hi => ?_
    have := mx_le (R := V) i hi
    rcases bmp_or C (mx V n + 1) V m i with e | e <;> omega
  · obtain ⟨h1, h2⟩ := hc 0 h0
    obtain ⟨c, e⟩ := Int.eq_ofNat_of_zero_le h1
    have hcn : c < n := by omega
    have := mx_le (R := bmp C (mx V n + 1) V m) c hcn
    rwa [bmp_hit ⟨0, h0, e⟩] at this
def upd (D V X : Nat → Int) : Nat → Nat → Int
  | 0, x => V x
  | t + 1, x => if D t = (x : Int) then X x else upd D V X t x
theorem upd_or (D V X : Nat → Int) (t x : Nat) : upd D V X t x = X x ∨ upd D V X t x = V x := by
  induction t with
  | zero => exact .inr rfl
  | succ t ih =>
    show (if D t = (x : Int) then X x else upd D V X t x) = X x ∨ (if D t = (x : Int) then X x else upd D V X t x) = V x
    by_cases e : D t = (x : Int)
    · rw [if_pos e]; exact .inl rfl
    · rw [if_neg e]; exact ih
theorem upd_hit {D V X : Nat → Int} {T x : Nat} (h : ∃ s, s < T ∧ D s = (x : Int)) : upd D V X T x = X x := by
  induction T with
  | zero => obtain ⟨s, hs, _⟩ := h; omega
  | succ t ih =>
    show (if D t = (x : Int) then X x else upd D V X t x) = X x
    by_cases e : D t = (x : Int)
    · rw [if_pos e]
    · rw [if_neg e]
      obtain ⟨s, hs, h2⟩ := h
      by_cases es : s = t
      · subst es; exact absurd h2 e
      · exact ih ⟨s, by omega, h2⟩
theorem upd_er {D V X : Nat → Int} {n t : Nat} (h : erV 0 n n V = 0) (h' : erV 0 n n X = 0) : erV 0 n n (upd D V X t) = 0 :=
  erV_ok rfl fun i hi => by
    rcases upd_or D V X t i with e | e
    · rw [e]; exact (erV_of h').2.2 i hi
    · rw [e]; exact (erV_of h).2.2 i hi
theorem upd_step {D V X : Nat → Int} {t c : Nat} (h : D t = (c : Int)) (x : Nat) : bmp (fun _ => (c : Int)) (X c) (upd D V X t) 1 x = upd D V X (t + 1) x := by
  show (if (c : Int) = (x : Int) then X c else upd D V X t x) = (if D t = (x : Int) then X x else upd D V X t x)
  by_cases e : c = x
  · subst e; rw [if_pos rfl, if_pos h]
  · rw [if_neg (by omega), if_neg (by rw [h]; omega)]
theorem upd_end (V X : Nat → Int) (n : Nat) : sameB n n (upd (sel (dif V X) n) V X (cnt (dif V X) n)) X = true :=
  decide_eq_true ⟨rfl, fun i hi => by
    cases e : dif V X i
    · have h := of_decide_eq_false e
      have e2 : V i = X i := Classical.byContradiction h
      rcases upd_or (sel (dif V X) n) V X (cnt (dif V X) n) i with k | k
      · exact k
      · rw [k, e2]
    · obtain ⟨h1, h2⟩ := sel_at (dif V X) n i hi e
      exact upd_hit ⟨_, h1, h2⟩⟩
theorem vec_one {w : World} (c : Int) : Vec (w.alloc (.cells #[.int .i64 c] 3)) (some ⟨w.heap.size, 0, none⟩) 1 1 (fun _ => c) := by
  have := vec_at (w := w) rfl [c]
  exact this.congr fun i hi => by
    obtain rfl : i = 0 := by have : i < 1 := hi; omega
    rfl
end Go.Proofs.Ytkoblkkigmnocaa
