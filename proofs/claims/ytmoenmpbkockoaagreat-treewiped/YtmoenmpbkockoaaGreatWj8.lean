import Derived.Laws.AppendOwnNone
import Derived.Laws.OwnMore
import Derived.Deep.AppendLies
import Derived.Deep.OwnRows
import Derived.Test.YtmoenmpbkockoaaGreatWj1
namespace Go.Proofs.YtmoenmpbkockoaaGreat
def verB (v : Int) : Bool := decide (1 <= v /\ v <= 1073741824)
def vok (N n : Nat) (R : Nat -> Int) : Bool := decide (n = N /\ ∀ i, i < n -> 1 <= R i /\ R i <= 1073741824)
def erV (x : Int) (N n : Nat) (R : Nat -> Int) : Int := if x = 0 then (if vok N n R = true then 0 else 70) else x
def lenE (e : Int) (n : Nat) : Nat := if e = 0 then n else 0
def gr (a b : Int) : Int := if a < b then b else a
def mx (R : Nat -> Int) : Nat -> Int
  | 0 => 0
  | k + 1 => gr (mx R k) (R k)
def anyB (n : Nat) (P : Nat -> Bool) : Bool := !decide (∀ i, i < n -> P i = false)
def put {α : Type} (i : Nat) (v : α) (R : Nat -> α) : Nat -> α := fun j => if j = i then v else R j
theorem put_at {α : Type} (i : Nat) (v : α) (R : Nat -> α) : put i v R i = v := if_pos rfl
theorem put_ne {α : Type} {i j : Nat} (v : α) (R : Nat -> α) (h : j ≠ i) : put i v R j = R j := if_neg h
theorem erV_of {x : Int} {N n : Nat} {R : Nat -> Int} (h : erV x N n R = 0) : x = 0 /\ n = N /\ ∀ i, i < n -> 1 <= R i /\ R i <= 1073741824 := by
  unfold erV at h
  by_cases hx : x = 0
  · rw [if_pos hx] at h
    by_cases hv : vok N n R = true
    · exact ⟨hx, of_decide_eq_true hv⟩
    · rw [if_neg hv] at h; cases h
  · rw [if_neg hx] at h; exact absurd h hx
theorem erV_ok {N n : Nat} {R : Nat -> Int} (h : n = N) (h1 : ∀ i, i < n -> 1 <= R i /\ R i <= 1073741824) : erV 0 N n R = 0 := by
  unfold erV; rw [if_pos rfl, if_pos (show vok N n R = true from decide_eq_true ⟨h, h1⟩)]
theorem erV_x {x : Int} {N n : Nat} {R : Nat -> Int} (h : x ≠ 0) : erV x N n R = x := by unfold erV; rw [if_neg h]
theorem erV_70 {N n : Nat} {R : Nat -> Int} (h : ¬ (n = N /\ ∀ i, i < n -> 1 <= R i /\ R i <= 1073741824)) : erV 0 N n R = 70 := by
  unfold erV; rw [if_pos rfl, if_neg (show ¬ vok N n R = true from fun e => h (of_decide_eq_true e))]
theorem lenE_zero (n : Nat) : lenE 0 n = n := if_pos rfl
theorem lenE_ne {e : Int} (n : Nat) (h : e ≠ 0) : lenE e n = 0 := if_neg h
theorem mx_one {R : Nat -> Int} (h : 1 <= R 0) : mx R 1 = R 0 := by
  show gr 0 (R 0) = R 0
  unfold gr; rw [if_pos (by omega)]
theorem first_bad {p : Nat -> Prop} : ∀ i, ¬ p i -> ∃ k, k <= i /\ ¬ p k /\ ∀ j, j < k -> p j := by
  intro i
  induction i using Nat.strongRecOn with
  | ind i ih =>
    intro hi
    by_cases h : ∀ j, j < i -> p j
    · exact ⟨i, Nat.le_refl _, hi, h⟩
    · obtain ⟨j, hj⟩ := Classical.not_forall.1 h
      obtain ⟨h1, h2⟩ := Classical.not_imp.1 hj
      obtain ⟨k, h3, h4⟩ := ih j h1 h2
      exact ⟨k, by omega, h4⟩
theorem first_not {p : Nat -> Prop} {n : Nat} (h : ¬ ∀ i, i < n -> p i) : ∃ q, q < n /\ ¬ p q /\ ∀ i, i < q -> p i := by
  obtain ⟨i, hi⟩ := Classical.not_forall.1 h
  obtain ⟨p1, p2⟩ := Classical.not_imp.1 hi
  obtain ⟨k, hk, p3, p4⟩ := first_bad (p := p) i p2
  exact ⟨k, by omega, p3, p4⟩
end Go.Proofs.YtmoenmpbkockoaaGreat
namespace Go.Proofs.YtmoenmpbkockoaaGreat
open Go.RowKit
def RdI (w : World) (ao : Option Addr) (n : Nat) (R : Nat -> Int) : Prop :=
  0 < n -> ∃ b off, ao = some ⟨b, off, none⟩ /\ ∀ i, i < n -> w.cell? ⟨b, off + i, none⟩ = some (.int .i64 (R i))
theorem RdI.below {w w' : World} {ao : Option Addr} {n : Nat} {R : Nat -> Int} (h : RdI w ao n R) (ho : Below w.heap.size w w') : RdI w' ao n R := by
  intro hn
  obtain ⟨b, off, rfl, hc⟩ := h hn
  exact ⟨b, off, rfl, fun i hi => held (hc i hi) ho⟩
structure Vec (w : World) (ao : Option Addr) (n cap : Nat) (R : Nat -> Int) : Prop where
  rd : RdI w ao n R
  nil : ao = none -> n = 0 /\ cap = 0
  room : n <= cap
theorem Vec.below {w w' : World} {ao : Option Addr} {n cap : Nat} {R : Nat -> Int} (h : Vec w ao n cap R) (ho : Below w.heap.size w w') : Vec w' ao n cap R := ⟨h.rd.below ho, h.nil, h.room⟩
theorem vec_nil (w : World) (R : Nat -> Int) : Vec w none 0 0 R := ⟨fun h => absurd h (Nat.lt_irrefl 0), fun _ => ⟨rfl, rfl⟩, Nat.le_refl _⟩
def zOf (n : Nat) (R : Nat -> Int) : List Value := (List.range n).map fun i => .int .i64 (R i)
theorem zOf_length (k : Nat) (R : Nat -> Int) : (zOf k R).length = k := by simp [zOf]
theorem zOf_get (k : Nat) (R : Nat -> Int) (i : Nat) (h : i < k) : (zOf k R)[i]? = some (.int .i64 (R i)) := by simp [zOf, h]
theorem zOf_congr {k : Nat} {R S : Nat -> Int} (h : ∀ i, i < k -> R i = S i) : zOf k R = zOf k S := by
  unfold zOf
  apply List.map_congr_left
  intro i hi
  rw [h i (List.mem_range.1 hi)]
theorem list_lt {α : Type} {l : List α} {n i : Nat} {x : α} (hl : l.length = n) (h : l[i]? = some x) : i < n := by
  rcases Nat.lt_or_ge i n with g | g
  · exact g
  · rw [List.getElem?_eq_none (by omega)] at h; cases h
theorem zOf_set {n i : Nat} (R : Nat -> Int) (v : Int) : (zOf n R).set i (.int .i64 v) = zOf n (put i v R) := by
  apply List.ext_getElem?
  intro j
  rw [List.getElem?_set]
  by_cases hj : j < n
  · rw [zOf_get n (put i v R) _ hj]
    by_cases e : i = j
    · subst e; rw [if_pos rfl, if_pos (by rw [zOf_length]; exact hj), put_at]
    · rw [if_neg e, zOf_get _ _ _ hj, put_ne _ _ (fun h => e h.symm)]
  · by_cases e : i = j
    · subst e; rw [if_pos rfl, if_neg (by rw [zOf_length]; exact hj), List.getElem?_eq_none (by rw [zOf_length]; omega)]
    · rw [if_neg e, List.getElem?_eq_none (by rw [zOf_length]; omega), List.getElem?_eq_none (by rw [zOf_length]; omega)]
def Own (B : Nat) (w : World) (ao : Option Addr) (n cap : Nat) (R : Nat -> Int) : Prop := w.ownsRow B 3 1 (.slice ao n cap) n (zOf n R)
theorem own_nil (B : Nat) (w : World) (R : Nat -> Int) : Own B w none 0 0 R := World.ownsRow_nil _ _ _ _
theorem Own.congr {B : Nat} {w : World} {ao : Option Addr} {n cap : Nat} {R S : Nat -> Int} (h : Own B w ao n cap R) (e : ∀ i, i < n -> R i = S i) : Own B w ao n cap S := by
  unfold Own at *; rw [<- zOf_congr e]; exact h
theorem Own.vec {B : Nat} {w : World} {ao : Option Addr} {n cap : Nat} {R : Nat -> Int} (h : Own B w ao n cap R) : Vec w ao n cap R := by
  have h0 := h
  rcases h.2 with ⟨h1, h2⟩ | ⟨g, cap', cur, h1, _, _, h4, _⟩
  · cases h1; exact vec_nil _ _
  · cases h1
    refine ⟨fun hp => ⟨g, 0, rfl, fun i hi => ?_⟩, (fun e => by cases e), h4⟩
    have := World.ownsRow.cells h0 (g := g) rfl i _ (zOf_get n R i hi)
    rwa [Addr.add_lit] at this
theorem Own.at_ {B : Nat} {w : World} {ao : Option Addr} {n cap : Nat} {R : Nat -> Int} (h : Own B w ao n cap R) (hn : 0 < n) : ∃ g, ao = some ⟨g, 0, none⟩ /\ B <= g /\ g < w.heap.size := by
  obtain ⟨g, cap', e, h1, h2⟩ := World.ownsRow.form h hn
  cases e; exact ⟨g, rfl, h1, h2⟩
theorem Own.stay {B : Nat} {w w' : World} {ao : Option Addr} {n cap : Nat} {R : Nat -> Int} (h : Own B w ao n cap R) (hb : ∀ g, B <= g -> g < w.heap.size -> w'.heap[g]? = w.heap[g]?) : Own B w' ao n cap R := by
  refine ⟨h.1, ?_⟩
  rcases h.2 with h1 | ⟨g, cap', cur, h1, h2, h3, h4⟩
  · exact .inl h1
  · exact .inr ⟨g, cap', cur, h1, h2, by rw [hb g h2 (by rcases Nat.lt_or_ge g w.heap.size with l | l; exact l; rw [Array.getElem?_eq_none l] at h3; cases h3)]; exact h3, h4⟩
theorem Own.below {B : Nat} {w w' : World} {ao : Option Addr} {n cap : Nat} {R : Nat -> Int} (h : Own B w ao n cap R) (hb : Below w.heap.size w w') : Own B w' ao n cap R := h.stay fun g _ hg => hb.block g hg
theorem Own.mono {B B' : Nat} {w : World} {ao : Option Addr} {n cap : Nat} {R : Nat -> Int} (h : Own B w ao n cap R) (hb : B' <= B) : Own B' w ao n cap R := by
  refine ⟨h.1, ?_⟩
  rcases h.2 with h1 | ⟨g, cap', cur, h1, h2, h3⟩
  · exact .inl h1
  · exact .inr ⟨g, cap', cur, h1, by omega, h3⟩
theorem Own.set {B : Nat} {w : World} {g n cap : Nat} {R : Nat -> Int} (h : Own B w (some ⟨g, 0, none⟩) n cap R) (i : Nat) (v : Int) : Own B (w.setCell ⟨g, i, none⟩ (.int .i64 v)) (some ⟨g, 0, none⟩) n cap (put i v R) := by
  unfold Own at *; rw [<- zOf_set]; exact (World.ownsRow.stored h i _).1
theorem Own.cell {B : Nat} {w : World} {g n cap : Nat} {R : Nat -> Int} (h : Own B w (some ⟨g, 0, none⟩) n cap R) {i : Nat} (hi : i < n) : w.cell? ⟨g, i, none⟩ = some (.int .i64 (R i)) := by
  rw [World.ownsRow.cellAt h i (by omega), zOf_get _ _ _ hi]
theorem Own.free {B : Nat} {w : World} {g n cap : Nat} {R : Nat -> Int} (h : Own B w (some ⟨g, 0, none⟩) n cap R) (i : Nat) : w.frozen? ⟨g, i, none⟩ = false := World.ownsRow.frozenAt h i
theorem info3 : (Tryz.prog.info? 3).map (fun i => (i.zero, i.size, i.bytes)) = some (some (.int .i64 0), 1, 8) := by kernel_rfl
theorem info_parts {t : TypeId} {z : Value} {s b : Nat} (h : (Tryz.prog.info? t).map (fun i => (i.zero, i.size, i.bytes)) = some (some z, s, b)) : ∃ i, Tryz.prog.info? t = some i /\ i.zero = some z /\ i.size = s /\ i.bytes = b := by
  obtain ⟨i, hi, e⟩ := Option.map_eq_some_iff.1 h
  simp only [Prod.mk.injEq] at e
  exact ⟨i, hi, e.1, e.2.1, e.2.2⟩
theorem own_row {w : World} {B g n : Nat} {f : Nat -> Value} {R : Nat -> Int} (h : w.rowIs g 3 n f) (hB : B <= g) (hn : n <= 1000) (e : ∀ i, i < n -> f i = .int .i64 (R i)) : Own B w (some ⟨g, 0, none⟩) n n R := by
  obtain ⟨c, hb, hs, hc⟩ := h
  refine ⟨by rw [zOf_length, Nat.mul_one], .inr ⟨g, n, c, rfl, hB, hb, Nat.le_refl _, by unfold maxLen; omega, by rw [hs, Nat.mul_one], ?_⟩⟩
  apply List.ext_getElem?
  intro i
  by_cases hi : i < n
  · rw [List.getElem?_take_of_lt (by omega), zOf_get _ _ _ hi, Array.getElem?_toList, hc i hi, e i hi]
  · rw [List.getElem?_eq_none (by simp; omega), List.getElem?_eq_none (by rw [zOf_length]; omega)]
theorem below_drewN (B : Nat) (w : World) (n : Nat) : Below B w (w.drewN n) := ⟨rfl, rfl, rfl, Nat.le_refl _, fun _ _ => rfl⟩
end Go.Proofs.YtmoenmpbkockoaaGreat
