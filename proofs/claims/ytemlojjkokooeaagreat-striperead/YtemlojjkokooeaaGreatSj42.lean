import Derived.Test.YtemlojjkokooeaaGreatSj25
namespace Go.Proofs.YtemlojjkokooeaaGreat.Cod
open Go.RowKit
open Go.Maps (Keyed)
structure Picked (w : World) (B k m t : Nat) (v u : Value) (G U : Nat -> Nat) (A : Nat -> Option Addr) (C R : Nat -> Nat) : Prop where
  rows : w.ownsRow B 36 1 v t (rowsOf t (fun s => some ⟨G s, 0, none⟩) (fun _ => k) U)
  cells : w.ownsRow B 36 1 u t (rowsOf t (fun s => A (R s)) (fun _ => m) (fun s => C (R s)))
  row : ∀ s, s < t -> Own w (G s) k (U s) (gen k (R s))
  apart : ∀ g, v.ownBlock = some g -> u.ownBlock ≠ some g
theorem Picked.stay {w w' : World} {B k m t : Nat} {v u : Value} {G U : Nat -> Nat} {A : Nat -> Option Addr} {C R : Nat -> Nat} (h : Picked w B k m t v u G U A C R) (hs : Stay w w') : Picked w' B k m t v u G U A C R :=
 ⟨owns_stay h.rows hs, owns_stay h.cells hs, fun s hs' => (h.row s hs').stay hs, h.apart⟩
theorem Picked.start (w : World) (B k m : Nat) (A : Nat -> Option Addr) (C R : Nat -> Nat) : Picked w B k m 0 (.slice none 0 0) (.slice none 0 0) (fun _ => 0) (fun _ => 0) A C R :=
 ⟨World.ownsRow_nil _ _ _ _, World.ownsRow_nil _ _ _ _, fun s hs => absurd hs (Nat.not_lt_zero s), fun g h => by cases h⟩
theorem Picked.step {w1 w2 w3 : World} {B k m t g1 g2 c1 c2 gr ur : Nat} {v u : Value} {G U : Nat -> Nat} {A : Nat -> Option Addr} {C R : Nat -> Nat} {o o' : Obj} (h : Picked w1 B k m t v u G U A C R) (hr : Own w1 gr k ur (gen k (R t)))
  (hg1 : (w1.alloc o).grownBy w2 v.ownBlock) (h1 : w2.ownsRow B 36 1 (.slice (some ⟨g1, 0, none⟩) (t + 1) c1) (t + 1) (rowsOf t (fun s => some ⟨G s, 0, none⟩) (fun _ => k) U ++ [.slice (some ⟨gr, 0, none⟩) k ur])) (hw1 : v.ownBlock = some g1 \/ g1 = w1.heap.size + 1)
  (hg2 : (w2.alloc o').grownBy w3 u.ownBlock) (h2 : w3.ownsRow B 36 1 (.slice (some ⟨g2, 0, none⟩) (t + 1) c2) (t + 1) (rowsOf t (fun s => A (R s)) (fun _ => m) (fun s => C (R s)) ++ [.slice (A (R t)) m (C (R t))])) (hw2 : u.ownBlock = some g2 \/ g2 = w2.heap.size + 1) :
  Picked w3 B k m (t + 1) (.slice (some ⟨g1, 0, none⟩) (t + 1) c1) (.slice (some ⟨g2, 0, none⟩) (t + 1) c2) (put t gr G) (put t ur U) A C R := by
 have hu : ∀ x, u.ownBlock = some x -> x < w1.heap.size := fun x hx => (h.cells.lt x hx).2
 have hg1w := (h1.lt g1 rfl).2
 have hne : ∀ x, u.ownBlock = some x -> g1 ≠ x := fun x hx e => by
  rcases hw1 with e1 | e1
  ·exact h.apart g1 e1 (by rw [hx, e])
  ·have := hu x hx; omega
 have cu : w2.ownsRow B 36 1 u t (rowsOf t (fun s => A (R s)) (fun _ => m) (fun s => C (R s))) := (h.cells.alloc o).kept hg1 (apart_or h.apart)
 refine ⟨?_, ?_, fun s hs => ?_, fun g hg => ?_⟩
 ·have := (h1.alloc o').kept hg2 (.inr (fun e => hne g1 e.symm rfl))
  refine (congrArg (w3.ownsRow B 36 1 (.slice (some ⟨g1, 0, none⟩) (t + 1) c1) (t + 1)) ?_).mp this
  have := rowsOf_put t (fun s => some ⟨G s, 0, none⟩) (fun _ => k) U (some ⟨gr, 0, none⟩) k ur
  rw [<- this]
  refine List.map_congr_left fun i _ => ?_
  by_cases e : i = t
  ·subst e; simp only [put_at]
  ·simp only [put_ne _ _ e]
 ·refine (congrArg (w3.ownsRow B 36 1 (.slice (some ⟨g2, 0, none⟩) (t + 1) c2) (t + 1)) ?_).mp h2
  simp [rowsOf, List.range_succ]
 ·have old : ∀ g u' f, Own w1 g k u' f -> Own w3 g k u' f := fun g u' f ho => (((ho.alloc o).grown (h.rows.alloc o) hg1).alloc o').grown (cu.alloc o') hg2
  by_cases e : s = t
  ·subst e; rw [put_at, put_at]; exact old _ _ _ hr
  ·rw [put_ne _ _ e, put_ne _ _ e]; exact old _ _ _ (h.row s (by omega))
 ·cases hg
  intro e
  have e2 : g2 = g1 := Option.some.inj e
  rcases hw2 with e3 | e3
  ·exact hne g2 e3 e2.symm
  ·omega
theorem Picked.lst1 {w : World} {B k m t c1 : Nat} {a1 : Option Addr} {u : Value} {G U : Nat -> Nat} {A : Nat -> Option Addr} {C R : Nat -> Nat} (h : Picked w B k m t (.slice a1 t c1) u G U A C R) : Lst w a1 t (fun s => some ⟨G s, 0, none⟩) U (fun _ => k) (rowsR k R) :=
 ⟨fun s hs => (h.row s hs).rd, fun hp => by
  rcases h.rows.2 with ⟨_, h1⟩ | ⟨g, cap', cur, h1, _⟩
  ·omega
  ·cases h1
   refine ⟨g, 0, rfl, fun i hi => ?_⟩
   have := h.rows.cells (g := g) rfl i _ (rowsOf_get t _ _ _ i hi)
   rwa [Addr.add_lit] at this⟩
theorem Picked.lst2 {w : World} {B k m t c2 : Nat} {a2 : Option Addr} {v : Value} {G U : Nat -> Nat} {A : Nat -> Option Addr} {C R : Nat -> Nat} {H : M} (h : Picked w B k m t v (.slice a2 t c2) G U A C R) (hr : ∀ s, s < t -> Rd w (A (R s)) m (H (R s))) : Lst w a2 t (fun s => A (R s)) (fun s => C (R s)) (fun _ => m) (fun s => H (R s)) :=
 ⟨hr, fun hp => by
  rcases h.cells.2 with ⟨_, h1⟩ | ⟨g, cap', cur, h1, _⟩
  ·omega
  ·cases h1
   refine ⟨g, 0, rfl, fun i hi => ?_⟩
   have := h.cells.cells (g := g) rfl i _ (rowsOf_get t _ _ _ i hi)
   rwa [Addr.add_lit] at this⟩
end Go.Proofs.YtemlojjkokooeaaGreat.Cod
