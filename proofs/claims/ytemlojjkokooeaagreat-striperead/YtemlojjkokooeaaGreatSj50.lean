import Derived.Maps.AppendAt
import Derived.Test.YtemlojjkokooeaaGreatSj36
import Derived.Test.YtemlojjkokooeaaGreatSj48
namespace Go.Proofs.YtemlojjkokooeaaGreat
open Go.RowKit
structure Spc (B T i n m : Nat) (w wr : World) (g cap : Nat) (A : Nat -> Option Addr) (U : Nat -> Nat) : Prop where
  row : ∃ vs, wr.ownsRow B 36 1 (.slice (some ⟨g, 0, none⟩) n cap) n vs /\ ∀ j, i <= j -> j < n -> vs[j]? = some (.slice (A j) m (U j))
  cel : ∀ j, i <= j -> j < n -> (∃ ys, wr.ownsRow B 5 1 (.slice (A j) m (U j)) m ys) /\ ∀ b, (Value.slice (A j) m (U j)).ownBlock = some b -> b < T
  far : ∀ j j', j < n -> j' < n -> j ≠ j' -> (Value.slice (A j) m (U j)).ownBlock = none \/ (Value.slice (A j) m (U j)).ownBlock ≠ (Value.slice (A j') m (U j')).ownBlock
  onl : Only (fun b => B <= b /\ b < T) w wr
  gT : g < T
theorem own_block_at {a : Option Addr} {m u b : Nat} (h : (Value.slice a m u).ownBlock = some b) : ∃ d : Addr, a = some d /\ d.block = b := by
 cases a with
 | none => cases h
 | some d => exact ⟨d, rfl, by simpa [Value.ownBlock] using h⟩
theorem spc_0 {B n m : Nat} {w1 w : World} {g cap : Nat} {A : Nat -> Option Addr} {U : Nat -> Nat} {H : Nat -> Nat -> UInt8} (h : Cls B w1 (some ⟨g, 0, none⟩) n cap m A U H) (hb : Below w1.heap.size w1 w) : Spc B w1.heap.size 0 n m w w g cap A U := by
 have h2 := h.below hb
 refine ⟨⟨_, h2.out, fun j _ hj => Cod.rowsOf_get n A (fun _ => m) U j hj⟩, fun j _ hj => ⟨⟨_, h2.row j hj⟩, fun b hb => ((h.row j hj).lt b hb).2⟩, fun j j' hj hj' hne => ?_, Only.refl _ _, (h.out.lt g rfl).2⟩
 by_cases e : (Value.slice (A j) m (U j)).ownBlock = none
 ·exact .inl e
 ·obtain ⟨b, eb⟩ := Option.ne_none_iff_exists'.1 e
  refine .inr fun e2 => ?_
  obtain ⟨d, e3, e4⟩ := own_block_at eb
  rw [e2] at eb
  obtain ⟨d', e5, e6⟩ := own_block_at eb
  exact h.apart j j' d d' hj hj' hne e3 e5 (by omega)
theorem Spc.c1 {B T i n m : Nat} {w wr : World} {g cap : Nat} {A : Nat -> Option Addr} {U : Nat -> Nat} (h : Spc B T i n m w wr g cap A U) (hi : i < n) : wr.cell? ⟨g, i, none⟩ = some (.slice (A i) m (U i)) := by
 obtain ⟨vs, r1, r2⟩ := h.row
 rw [World.ownsRow.cellAt r1 i (by omega), r2 i (Nat.le_refl _) hi]
theorem Spc.inner {B T i n m : Nat} {w wr : World} {g cap : Nat} {A : Nat -> Option Addr} {U : Nat -> Nat} (h : Spc B T i n m w wr g cap A U) (hi : i < n) (hm : 0 < m) : ∃ gi, A i = some ⟨gi, 0, none⟩ := by
 obtain ⟨⟨ys, q1⟩, _⟩ := h.cel i (Nat.le_refl _) hi
 rcases q1.2 with ⟨_, h2⟩ | ⟨g1, c1, k1, e, _⟩
 ·omega
 ·simp only [Value.slice.injEq] at e
  exact ⟨g1, e.1⟩
theorem Spc.rd {B T i n m : Nat} {w wr : World} {g cap : Nat} {A : Nat -> Option Addr} {U : Nat -> Nat} (h : Spc B T i n m w wr g cap A U) (hi : i < n) {gi u : Nat} (hg : A i = some ⟨gi, 0, none⟩) (hu : u < m) : (∃ x, wr.cell? ⟨gi, u, none⟩ = some x) /\ wr.frozen? ⟨gi, u, none⟩ = false := by
 obtain ⟨⟨ys, q1⟩, _⟩ := h.cel i (Nat.le_refl _) hi
 rw [hg] at q1
 have hl := q1.1
 refine ⟨⟨ys[u]'(by omega), ?_⟩, World.ownsRow.frozenAt q1 u⟩
 rw [World.ownsRow.cellAt q1 u (by omega), List.getElem?_eq_getElem (by omega)]
theorem Spc.put {B T i n m : Nat} {w wr : World} {g cap : Nat} {A : Nat -> Option Addr} {U : Nat -> Nat} (h : Spc B T i n m w wr g cap A U) (hi : i < n) {gi u : Nat} (hg : A i = some ⟨gi, 0, none⟩) (v : Value) : Spc B T i n m w (wr.setCell ⟨gi, u, none⟩ v) g cap A U := by
 obtain ⟨vs, r1, r2⟩ := h.row
 obtain ⟨⟨ys, q1⟩, q2⟩ := h.cel i (Nat.le_refl _) hi
 have hob : (Value.slice (A i) m (U i)).ownBlock = some gi := by rw [hg]; rfl
 have q3 := q1
 rw [hg] at q3
 obtain ⟨s1, s2⟩ := World.ownsRow.stored q3 u v
 have hlt := q1.lt gi hob
 refine ⟨⟨vs, r1.kept s2 ?_, r2⟩, fun j hj hj2 => ?_, h.far, h.onl.setCell ⟨hlt.1, q2 gi hob⟩ _, h.gT⟩
 ·right
  rcases Cod.owns_apart' q1 r1 with e | e
  ·rw [hob] at e; cases e
  ·rw [hob] at e; exact fun e2 => e e2.symm
 ·by_cases e : j = i
  ·subst e
   refine ⟨⟨ys.set u v, ?_⟩, q2⟩
   rw [hg]
   exact s1
  ·obtain ⟨⟨ys', p1⟩, p2⟩ := h.cel j hj hj2
   refine ⟨⟨ys', p1.kept s2 ?_⟩, p2⟩
   rcases h.far j i hj2 hi e with e1 | e1
   ·exact .inl e1
   ·exact .inr (by rw [<- hob]; exact e1)
theorem Spc.next {B T i n m : Nat} {w wr w2 : World} {g cap : Nat} {A : Nat -> Option Addr} {U : Nat -> Nat} (h : Spc B T i n m w wr g cap A U) (hi : i < n) {o : Obj} (hg : (wr.alloc o).grownBy w2 (Value.slice (A i) m (U i)).ownBlock) :
  (∃ x, w2.cell? ⟨g, i, none⟩ = some x) /\ w2.frozen? ⟨g, i, none⟩ = false /\ ∀ v, Spc B T (i + 1) n m w (w2.setCell ⟨g, i, none⟩ v) g cap A U := by
 obtain ⟨vs, r1, r2⟩ := h.row
 obtain ⟨⟨ys, q1⟩, q2⟩ := h.cel i (Nat.le_refl _) hi
 have r3 : w2.ownsRow B 36 1 (.slice (some ⟨g, 0, none⟩) n cap) n vs := (r1.alloc o).kept hg (by
  right
  rcases Cod.owns_apart' q1 r1 with e | e
  ·rw [e]; simp [Value.ownBlock]
  ·exact fun e2 => e e2.symm)
 have hl := r3.1
 refine ⟨⟨vs[i]'(by omega), ?_⟩, World.ownsRow.frozenAt r3 _, fun v => ?_⟩
 ·rw [World.ownsRow.cellAt r3 i (by omega), List.getElem?_eq_getElem (by omega)]
 ·obtain ⟨s1, s2⟩ := World.ownsRow.stored r3 i v
  have ho : Only (fun b => B <= b /\ b < T) wr w2 := by
   refine ⟨hg.os, hg.tape, hg.output, ?_, fun b hb hx => ?_⟩
   ·have := hg.size; simp at this; omega
   ·rw [hg.block b (by simp; omega) (fun e => hx ⟨(q1.lt b e.symm).1, q2 b e.symm⟩), Below.heap_alloc _ _ _ hb]
  refine ⟨⟨_, s1, fun j hj hj2 => ?_⟩, fun j hj hj2 => ?_, h.far, (h.onl.trans ho).setCell ⟨(r1.lt g rfl).1, h.gT⟩ _, h.gT⟩
  ·rw [List.getElem?_set_ne (by omega)]; exact r2 j (by omega) hj2
  ·obtain ⟨⟨ys', p1⟩, p2⟩ := h.cel j (by omega) hj2
   refine ⟨⟨ys', World.ownsRow.kept (World.ownsRow.kept (p1.alloc o) hg ?_) s2 ?_⟩, p2⟩
   ·rcases h.far j i hj2 hi (by omega) with e1 | e1
    ·exact .inl e1
    ·exact .inr e1
   ·rcases Cod.owns_apart' p1 r1 with e | e
    ·exact .inl e
    ·exact .inr e
theorem Cls.stay {B : Nat} {w w' : World} {ao : Option Addr} {n cap m : Nat} {T : Nat -> Option Addr} {U : Nat -> Nat} {H : Nat -> Nat -> UInt8} (h : Cls B w ao n cap m T U H) (hb : ∀ g, B <= g -> g < w.heap.size -> w'.heap[g]? = w.heap[g]?) : Cls B w' ao n cap m T U H :=
 ⟨owns_blocks h.out fun a ha => by obtain ⟨h1, h2, _⟩ := owns_at h.out ha; exact hb _ h1 h2, fun i hi => (h.row i hi).stay hb, h.apart⟩
theorem Cls.lsb {B : Nat} {w : World} {ao : Option Addr} {n cap m : Nat} {T : Nat -> Option Addr} {U : Nat -> Nat} {H : Nat -> Nat -> UInt8} (h : Cls B w ao n cap m T U H) : Lsb w ao n T (fun _ => m) U H :=
 ⟨h.rdc (Nat.le_refl _), fun i hi => (h.row i hi).bec⟩
theorem Cls.head {B : Nat} {w : World} {ao : Option Addr} {n cap m : Nat} {T : Nat -> Option Addr} {U : Nat -> Nat} {H : Nat -> Nat -> UInt8} (h : Cls B w ao n cap m T U H) (hn : 0 < n) : ∃ g, ao = some ⟨g, 0, none⟩ := by
 rcases h.out.2 with ⟨_, h1⟩ | ⟨g, cap', cur, h1, _⟩
 ·omega
 ·cases h1; exact ⟨g, rfl⟩
end Go.Proofs.YtemlojjkokooeaaGreat
