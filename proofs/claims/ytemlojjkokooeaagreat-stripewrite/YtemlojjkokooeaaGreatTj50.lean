import Derived.Maps.AppendAt
import Derived.Test.YtemlojjkokooeaaGreatTj46
import Derived.Test.YtemlojjkokooeaaGreatTj48
set_option maxHeartbeats 8000000
set_option maxRecDepth 100000
namespace Go.Proofs.YtemlojjkokooeaaGreat
open Go.RowKit
theorem own_block_at {a : Option Addr} {m u b : Nat} (h : (Value.slice a m u).ownBlock = some b) : ∃ d : Addr, a = some d /\ d.block = b := by
 cases a with
 | none => cases h
 | some d => exact ⟨d, rfl, by simpa [Value.ownBlock] using h⟩
end Go.Proofs.YtemlojjkokooeaaGreat
namespace Go.Proofs.YtemlojjkokooeaaGreat
open Go.RowKit Go.Maps
theorem ptl_full (Lc os : Nat -> Nat) (nu : Int) (n : Nat) (T : Nat -> Option Addr) (U : Nat -> Nat) : ∀ d t, t < Cod.cnt Lc d ->
  (ptl Lc os nu n T U d)[t * 4]? = some (.int .i64 ((Cod.sel Lc d t : Nat) : Int)) /\ (ptl Lc os nu n T U d)[t * 4 + 1]? = some (.int .i64 nu) /\ (ptl Lc os nu n T U d)[t * 4 + 2]? = some (.int .i64 ((os (Cod.sel Lc d t) : Nat) : Int)) /\ (ptl Lc os nu n T U d)[t * 4 + 3]? = some (.slice (T (Cod.sel Lc d t)) n (U (Cod.sel Lc d t)))
 | 0, t, h => absurd h (Nat.not_lt_zero t)
 | d + 1, t, h => by
  by_cases hz : Lc d = 0
  ·rw [Cod.cnt_skip hz] at h
   rw [ptl, if_pos hz, Cod.sel_skip hz]; exact ptl_full Lc os nu n T U d t h
  ·rw [Cod.cnt_take hz] at h
   rw [ptl, if_neg hz]
   have hl := ptl_len Lc os nu n T U d
   by_cases e : t = Cod.cnt Lc d
   ·have e1 : Cod.sel Lc (d + 1) t = d := by rw [Cod.sel_take hz, e, Cod.put_at]
    rw [e1, List.getElem?_append_right (by omega), List.getElem?_append_right (by omega), List.getElem?_append_right (by omega), List.getElem?_append_right (by omega)]
    rw [show t * 4 - (ptl Lc os nu n T U d).length = 0 by omega, show t * 4 + 1 - (ptl Lc os nu n T U d).length = 1 by omega, show t * 4 + 2 - (ptl Lc os nu n T U d).length = 2 by omega, show t * 4 + 3 - (ptl Lc os nu n T U d).length = 3 by omega]
    exact ⟨rfl, rfl, rfl, rfl⟩
   ·have e1 : Cod.sel Lc (d + 1) t = Cod.sel Lc d t := by rw [Cod.sel_take hz, Cod.put_ne _ _ e]
    rw [e1, List.getElem?_append_left (by omega), List.getElem?_append_left (by omega), List.getElem?_append_left (by omega), List.getElem?_append_left (by omega)]
    exact ptl_full Lc os nu n T U d t (by omega)
structure Rpu (w : World) (ao : Option Addr) (m : Nat) (D S : Nat -> Int) (nu : Int) (n : Nat) (T : Nat -> Option Addr) (U : Nat -> Nat) (G : Nat -> Nat -> UInt8) : Prop where
  at_ : 0 < m -> ∃ b off, ao = some ⟨b, off, none⟩ /\ ∀ j, j < m -> w.cell? ⟨b, off + j * 4, none⟩ = some (.int .i64 (D j)) /\ w.cell? ⟨b, off + j * 4 + 1, none⟩ = some (.int .i64 nu) /\ w.cell? ⟨b, off + j * 4 + 2, none⟩ = some (.int .i64 (S j)) /\ w.cell? ⟨b, off + j * 4 + 3, none⟩ = some (.slice (T j) n (U j))
  bec : ∀ j, j < m -> Bec w (T j) n (U j) (G j)
theorem Rpu.below {w w' : World} {ao : Option Addr} {m : Nat} {D S : Nat -> Int} {nu : Int} {n : Nat} {T : Nat -> Option Addr} {U : Nat -> Nat} {G : Nat -> Nat -> UInt8} (h : Rpu w ao m D S nu n T U G) (hb : Below w.heap.size w w') : Rpu w' ao m D S nu n T U G := by
 refine ⟨fun hp => ?_, fun j hj => (h.bec j hj).below hb⟩
 obtain ⟨b, off, rfl, hc⟩ := h.at_ hp
 exact ⟨b, off, rfl, fun j hj => ⟨held (hc j hj).1 hb, held (hc j hj).2.1 hb, held (hc j hj).2.2.1 hb, held (hc j hj).2.2.2 hb⟩⟩
theorem pl_rpu {B : Nat} {w : World} {ao : Option Addr} {cap N : Nat} {Lc os : Nat -> Nat} {nu : Int} {n : Nat} {T : Nat -> Option Addr} {U : Nat -> Nat} {G : Nat -> Nat -> UInt8} (h : PL B w ao (Cod.cnt Lc N) cap N Lc os nu n T U G) : Rpu w ao (Cod.cnt Lc N) (fun j => ((Cod.sel Lc N j : Nat) : Int)) (fun j => ((os (Cod.sel Lc N j) : Nat) : Int)) nu n (fun j => T (Cod.sel Lc N j)) (fun j => U (Cod.sel Lc N j)) (fun j => G (Cod.sel Lc N j)) := by
 have hs := Cod.sel_is Lc N
 refine ⟨fun hp => ?_, fun j hj => (h.row _ (hs.lt j hj) (hs.there j hj)).bec⟩
 rcases h.out.2 with ⟨_, h1⟩ | ⟨g, cap', cur, h1, _⟩
 ·omega
 ·cases h1
  refine ⟨g, 0, rfl, fun j hj => ?_⟩
  obtain ⟨p0, p1, p2, p3⟩ := ptl_full Lc os nu n T U N j hj
  have q0 := h.out.cells (g := g) rfl _ _ p0
  have q1 := h.out.cells (g := g) rfl _ _ p1
  have q2 := h.out.cells (g := g) rfl _ _ p2
  have q3 := h.out.cells (g := g) rfl _ _ p3
  rw [Addr.add_lit] at q0 q1 q2 q3
  exact ⟨q0, q1, q2, q3⟩
theorem SamePuts_any (w : World) (ao bo : Option Addr) (m ca cb : Nat) (D S : Nat -> Int) (nu : Int) (n : Nat) (T T' : Nat -> Option Addr) (U U' : Nat -> Nat) (G : Nat -> Nat -> UInt8) (ha : Rpu w ao m D S nu n T U G) (hb : Rpu w bo m D S nu n T' U' G) (hn : m <= 1000) :
  Calls Tryz.prog 26 #[.slice ao m ca, .slice bo m cb] w fun e w' => e = .returned (.bool true) /\ Below w.heap.size w w' := by
 have HA : Hid (Rpu w ao m D S nu n T U G) := ha
 have HB : Hid (Rpu w bo m D S nu n T' U' G) := hb
 clear ha hb
 have hnn : ((m : Int) != (m : Int)) = false := by simp
 have hnu : (nu != nu) = false := by simp
 go_enter Tryz.func26, Tryz.ntmps26
 go_wp2
 go_loopw [5] (fun x wr => ∃ i : Nat, i <= m /\ x = .int .i64 i /\ Hid (Below w.heap.size w wr)) (fun x _ => m - (intOf x).toNat)
 case atStart => exact ⟨0, Nat.zero_le _, rfl, Below.refl _ _⟩
 case round =>
  obtain ⟨i, hi, rfl, hbw⟩ := hrel
  by_cases hlt : i < m
  ·obtain ⟨b, off, rfl, hc⟩ := (HA.out.below hbw.out).at_ (by omega)
   obtain ⟨b', off', rfl, hc'⟩ := (HB.out.below hbw.out).at_ (by omega)
   obtain ⟨c0, c1, c2, c3⟩ := hc i hlt
   obtain ⟨d0, d1, d2, d3⟩ := hc' i hlt
   have v1 : ∀ z, (convert 36 9 (.slice (T i) n (U i))).run Tryz.prog (wr.drewN z) = .ok (.string (sOf (lsF n (G i)))) (wr.drewN z) := fun z => conv_any (((HA.out.below hbw.out).bec i hlt).below (below_drewN _ _ _))
   have v2 : ∀ z, (convert 36 9 (.slice (T' i) n (U' i))).run Tryz.prog (wr.drewN z) = .ok (.string (sOf (lsF n (G i)))) (wr.drewN z) := fun z => conv_any (((HB.out.below hbw.out).bec i hlt).below (below_drewN _ _ _))
   have e1 := str_ne' (lsF n (G i))
   have e2 : (D i != D i) = false := by simp
   have e3 : (S i != S i) = false := by simp
   clear hc hc'
   have i1 : (0 : Int) <= (i : Int) := by omega
   have i2 : (i : Int) < (m : Int) := by omega
   go_wp2
   go_quiet (fail)
   go_wp2
   go_roundw
   case rel => exact ⟨i + 1, by omega, by go_num, hbw.out.trans (below_drewN _ _ _)⟩
   case measure => simp [intOf]; omega
  ·go_wp2
   go_ret
   exact ⟨rfl, hbw.out⟩
theorem rows_apart5 {w : World} {B B' n m : Nat} {u v : Value} {xs ys : List Value} (h : w.ownsRow B 56 4 u n xs) (g : w.ownsRow B' 5 1 v m ys) : v.ownBlock = none \/ v.ownBlock ≠ u.ownBlock := by
 rcases g.2 with ⟨e, _⟩ | ⟨g1, c1, k1, e, _, h1, _⟩
 ·left; rw [e]; rfl
 ·right
  rcases h.2 with ⟨e2, _⟩ | ⟨g2, c2, k2, e2, _, h2, _⟩
  ·rw [e, e2]; simp [Value.ownBlock]
  ·rw [e, e2]
   simp only [Value.ownBlock, ne_eq, Option.some.injEq]
   intro e3
   rw [e3] at h1
   rw [h1] at h2
   simp only [Option.some.injEq, Obj.cells.injEq] at h2
   exact absurd h2.2.1 (by decide)
structure Spp (B T i m n : Nat) (w wr : World) (g cap : Nat) (A : Nat -> Option Addr) (U : Nat -> Nat) : Prop where
  row : ∃ vs, wr.ownsRow B 56 4 (.slice (some ⟨g, 0, none⟩) m cap) m vs /\ ∀ j, i <= j -> j < m -> vs[j * 4 + 3]? = some (.slice (A j) n (U j))
  cel : ∀ j, i <= j -> j < m -> (∃ ys, wr.ownsRow B 5 1 (.slice (A j) n (U j)) n ys) /\ ∀ b, (Value.slice (A j) n (U j)).ownBlock = some b -> b < T
  far : ∀ j j', j < m -> j' < m -> j ≠ j' -> (Value.slice (A j) n (U j)).ownBlock = none \/ (Value.slice (A j) n (U j)).ownBlock ≠ (Value.slice (A j') n (U j')).ownBlock
  onl : Only (fun b => B <= b /\ b < T) w wr
  gT : g < T
theorem spp_0 {B : Nat} {w1 w : World} {g cap N : Nat} {Lc os : Nat -> Nat} {nu : Int} {n : Nat} {T : Nat -> Option Addr} {U : Nat -> Nat} {G : Nat -> Nat -> UInt8} (h : PLf B w1 (some ⟨g, 0, none⟩) (Cod.cnt Lc N) cap N Lc os nu n T U G) (hb : Below w1.heap.size w1 w) : Spp B w1.heap.size 0 (Cod.cnt Lc N) n w w g cap (fun j => T (Cod.sel Lc N j)) (fun j => U (Cod.sel Lc N j)) := by
 have h2 := h.below hb
 have hs := Cod.sel_is Lc N
 refine ⟨⟨_, h2.out, fun j _ hj => (ptl_full Lc os nu n T U N j hj).2.2.2⟩, fun j _ hj => ⟨⟨_, h2.row _ (hs.lt j hj) (hs.there j hj)⟩, fun b hb => ((h.row _ (hs.lt j hj) (hs.there j hj)).lt b hb).2⟩, fun j j' hj hj' hne => ?_, Only.refl _ _, (h.out.lt g rfl).2⟩
 have hne2 : Cod.sel Lc N j ≠ Cod.sel Lc N j' := by
  rcases Nat.lt_or_gt_of_ne hne with a | a
  ·have := hs.rise j j' a hj'; omega
  ·have := hs.rise j' j a hj; omega
 by_cases e : (Value.slice (T (Cod.sel Lc N j)) n (U (Cod.sel Lc N j))).ownBlock = none
 ·exact .inl e
 ·obtain ⟨b, eb⟩ := Option.ne_none_iff_exists'.1 e
  refine .inr fun e2 => ?_
  obtain ⟨d, e3, e4⟩ := own_block_at eb
  rw [e2] at eb
  obtain ⟨d', e5, e6⟩ := own_block_at eb
  exact h.far _ _ d d' (hs.lt j hj) (hs.lt j' hj') hne2 (hs.there j hj) (hs.there j' hj') e3 e5 (by omega)
theorem Spp.c1 {B T i m n : Nat} {w wr : World} {g cap : Nat} {A : Nat -> Option Addr} {U : Nat -> Nat} (h : Spp B T i m n w wr g cap A U) (hi : i < m) : wr.cell? ⟨g, i * 4 + 3, none⟩ = some (.slice (A i) n (U i)) := by
 obtain ⟨vs, r1, r2⟩ := h.row
 rw [World.ownsRow.cellAt r1 (i * 4 + 3) (by omega), r2 i (Nat.le_refl _) hi]
theorem Spp.inner {B T i m n : Nat} {w wr : World} {g cap : Nat} {A : Nat -> Option Addr} {U : Nat -> Nat} (h : Spp B T i m n w wr g cap A U) (hi : i < m) (hm : 0 < n) : ∃ gi, A i = some ⟨gi, 0, none⟩ := by
 obtain ⟨⟨ys, q1⟩, _⟩ := h.cel i (Nat.le_refl _) hi
 rcases q1.2 with ⟨_, h2⟩ | ⟨g1, c1, k1, e, _⟩
 ·omega
 ·simp only [Value.slice.injEq] at e
  exact ⟨g1, e.1⟩
theorem Spp.rd {B T i m n : Nat} {w wr : World} {g cap : Nat} {A : Nat -> Option Addr} {U : Nat -> Nat} (h : Spp B T i m n w wr g cap A U) (hi : i < m) {gi u : Nat} (hg : A i = some ⟨gi, 0, none⟩) (hu : u < n) : (∃ x, wr.cell? ⟨gi, u, none⟩ = some x) /\ wr.frozen? ⟨gi, u, none⟩ = false := by
 obtain ⟨⟨ys, q1⟩, _⟩ := h.cel i (Nat.le_refl _) hi
 rw [hg] at q1
 have hl := q1.1
 refine ⟨⟨ys[u]'(by omega), ?_⟩, World.ownsRow.frozenAt q1 u⟩
 rw [World.ownsRow.cellAt q1 u (by omega), List.getElem?_eq_getElem (by omega)]
theorem Spp.put {B T i m n : Nat} {w wr : World} {g cap : Nat} {A : Nat -> Option Addr} {U : Nat -> Nat} (h : Spp B T i m n w wr g cap A U) (hi : i < m) {gi u : Nat} (hg : A i = some ⟨gi, 0, none⟩) (v : Value) : Spp B T i m n w (wr.setCell ⟨gi, u, none⟩ v) g cap A U := by
 obtain ⟨vs, r1, r2⟩ := h.row
 obtain ⟨⟨ys, q1⟩, q2⟩ := h.cel i (Nat.le_refl _) hi
 have hob : (Value.slice (A i) n (U i)).ownBlock = some gi := by rw [hg]; rfl
 have q3 := q1
 rw [hg] at q3
 obtain ⟨s1, s2⟩ := World.ownsRow.stored q3 u v
 have hlt := q1.lt gi hob
 refine ⟨⟨vs, r1.kept s2 ?_, r2⟩, fun j hj hj2 => ?_, h.far, h.onl.setCell ⟨hlt.1, q2 gi hob⟩ _, h.gT⟩
 ·right
  rcases rows_apart5 r1 q1 with e | e
  ·rw [hob] at e; cases e
  ·rw [hob] at e; exact fun e2 => e e2.symm
 ·by_cases e : j = i
  ·subst e
   refine ⟨⟨ys.set u v, ?_⟩, q2⟩
   rw [hg]
   exact s1
  ·obtain ⟨⟨ys', p1⟩, p2⟩ := h.cel j hj hj2
   refine ⟨⟨ys', p1.kept s2 ?_⟩, p2⟩
   rcases h.far j i hj2 hi e with e1 | e1
   ·exact .inl e1
   ·exact .inr (by rw [<- hob]; exact e1)
theorem Spp.lset {B T i m n : Nat} {w wr : World} {g cap : Nat} {A : Nat -> Option Addr} {U : Nat -> Nat} (h : Spp B T i m n w wr g cap A U) (p : Nat) (hp : p < i * 4) (v : Value) : Spp B T i m n w (wr.setCell ⟨g, p, none⟩ v) g cap A U := by
 obtain ⟨vs, r1, r2⟩ := h.row
 obtain ⟨s1, s2⟩ := World.ownsRow.stored r1 p v
 refine ⟨⟨_, s1, fun j hj hj2 => ?_⟩, fun j hj hj2 => ?_, h.far, h.onl.setCell (p := ⟨g, p, none⟩) ⟨(r1.lt g rfl).1, h.gT⟩ _, h.gT⟩
 ·rw [List.getElem?_set_ne (by omega)]; exact r2 j hj hj2
 ·obtain ⟨⟨ys', p1⟩, p2⟩ := h.cel j hj hj2
  refine ⟨⟨ys', p1.kept s2 ?_⟩, p2⟩
  rcases rows_apart5 r1 p1 with e | e
  ·exact .inl e
  ·exact .inr e
theorem Spp.lcell {B T i m n : Nat} {w wr : World} {g cap : Nat} {A : Nat -> Option Addr} {U : Nat -> Nat} (h : Spp B T i m n w wr g cap A U) (p : Nat) (hp : p < m * 4) : (∃ x, wr.cell? ⟨g, p, none⟩ = some x) /\ wr.frozen? ⟨g, p, none⟩ = false := by
 obtain ⟨vs, r1, r2⟩ := h.row
 have hl := r1.1
 refine ⟨⟨vs[p]'(by omega), ?_⟩, World.ownsRow.frozenAt r1 _⟩
 rw [World.ownsRow.cellAt r1 p (by omega), List.getElem?_eq_getElem (by omega)]
theorem Spp.next {B T i m n : Nat} {w wr w2 : World} {g cap : Nat} {A : Nat -> Option Addr} {U : Nat -> Nat} (h : Spp B T i m n w wr g cap A U) (hi : i < m) {o : Obj} (hg : (wr.alloc o).grownBy w2 (Value.slice (A i) n (U i)).ownBlock) :
  (∃ x, w2.cell? ⟨g, i * 4 + 3, none⟩ = some x) /\ w2.frozen? ⟨g, i * 4 + 3, none⟩ = false /\ ∀ v, Spp B T (i + 1) m n w (w2.setCell ⟨g, i * 4 + 3, none⟩ v) g cap A U := by
 obtain ⟨vs, r1, r2⟩ := h.row
 obtain ⟨⟨ys, q1⟩, q2⟩ := h.cel i (Nat.le_refl _) hi
 have r3 : w2.ownsRow B 56 4 (.slice (some ⟨g, 0, none⟩) m cap) m vs := (r1.alloc o).kept hg (by
  right
  rcases rows_apart5 r1 q1 with e | e
  ·rw [e]; simp [Value.ownBlock]
  ·exact fun e2 => e e2.symm)
 have hl := r3.1
 refine ⟨⟨vs[i * 4 + 3]'(by omega), ?_⟩, World.ownsRow.frozenAt r3 _, fun v => ?_⟩
 ·rw [World.ownsRow.cellAt r3 (i * 4 + 3) (by omega), List.getElem?_eq_getElem (by omega)]
 ·obtain ⟨s1, s2⟩ := World.ownsRow.stored r3 (i * 4 + 3) v
  have ho : Only (fun b => B <= b /\ b < T) wr w2 := by
   refine ⟨hg.os, hg.tape, hg.output, ?_, fun b hb hx => ?_⟩
   ·have := hg.size; simp at this; omega
   ·rw [hg.block b (by simp; omega) (fun e => hx ⟨(q1.lt b e.symm).1, q2 b e.symm⟩), Below.heap_alloc _ _ _ hb]
  refine ⟨⟨_, s1, fun j hj hj2 => ?_⟩, fun j hj hj2 => ?_, h.far, (h.onl.trans ho).setCell ⟨(r1.lt g rfl).1, h.gT⟩ _, h.gT⟩
  ·rw [List.getElem?_set_ne (by omega)]; exact r2 j (by omega) hj2
  ·obtain ⟨⟨ys', p1⟩, p2⟩ := h.cel j (by omega) hj2
   refine ⟨⟨ys', World.ownsRow.kept (World.ownsRow.kept (p1.alloc o) hg ?_) s2 ?_⟩, p2⟩
   ·rcases h.far j i hj2 hi (by omega) with e1 | e1
    ·exact .inl e1
    ·exact .inr e1
   ·rcases rows_apart5 r1 p1 with e | e
    ·exact .inl e
    ·exact .inr e
theorem spoil_any (w : World) (B T m n cap : Nat) (ao : Option Addr) (A : Nat -> Option Addr) (U : Nat -> Nat) (h : 0 < m -> ∃ g, ao = some ⟨g, 0, none⟩ /\ Spp B T 0 m n w w g cap A U) (hm : m <= 1000) (hn : n <= 100000) (hB : B <= w.heap.size) :
  Calls Tryz.prog 27 #[.slice ao m cap] w fun e w' => e = .returned (.tuple #[]) /\ Only (fun b => B <= b /\ b < T) w w' := by
 have HSP : Hid (0 < m -> ∃ g, ao = some ⟨g, 0, none⟩ /\ Spp B T 0 m n w w g cap A U) := h
 obtain ⟨i0, hi0, hq0, hq1, hq2⟩ := info_parts info5
 clear h
 go_enter Tryz.func27, Tryz.ntmps27
 go_wp2_with fail
 go_loopw [2] (fun y wr => ∃ i : Nat, i <= m /\ y = .int .i64 (i : Int) /\ Hid (Only (fun b => B <= b /\ b < T) w wr) /\ Hid (0 < m -> ∃ g, ao = some ⟨g, 0, none⟩ /\ Spp B T i m n w wr g cap A U)) (fun y _ => m - (intOf y).toNat)
 case atStart => exact ⟨0, Nat.zero_le _, rfl, Only.refl _ _, HSP.out⟩
 case round =>
  obtain ⟨i, hi, rfl, hon, hsp⟩ := hrel
  by_cases hlt : i < m
  ·obtain ⟨g, rfl, hsp1⟩ := hsp.out (by omega)
   have HS0 : Hid (Spp B T i m n w wr g cap A U) := hsp1
   have i1 : (0 : Int) <= (i : Int) := by omega
   have i2 : (i : Int) < (m : Int) := by omega
   obtain ⟨ta, hta⟩ : ∃ ta, ta = A i := ⟨_, rfl⟩
   obtain ⟨tc, htc⟩ : ∃ tc, tc = U i := ⟨_, rfl⟩
   have HTA : Hid (ta = A i /\ tc = U i) := ⟨hta, htc⟩
   clear hta htc hsp1 hsp
   go_wp2_with fail
   go_loopw [3] (fun y wq => ∃ u : Nat, u <= n /\ y = .int .i64 (u : Int) /\ Hid (Spp B T i m n w wq g cap A U)) (fun y _ => n - (intOf y).toNat)
   case atStart => exact ⟨0, Nat.zero_le _, rfl, HS0⟩
   case round =>
    obtain ⟨u, hu, rfl, hsq⟩ := hrel
    have c1 : wr.cell? ⟨g, i * 4 + 3, none⟩ = some (.slice ta n tc) := by rw [HTA.out.1, HTA.out.2]; exact hsq.out.c1 hlt
    by_cases hut : u < n
    ·obtain ⟨gi, hgi⟩ : ∃ gi, A i = some ⟨gi, 0, none⟩ := hsq.out.inner hlt (by omega)
     obtain ⟨⟨xo, x1⟩, x2⟩ := hsq.out.rd hlt (gi := gi) (u := u) hgi hut
     have HPU : Hid (Spp B T i m n w (wr.setCell ⟨gi, u, none⟩ (.int .u8 99)) g cap A U) := hsq.out.put hlt hgi _
     rw [show ta = some ⟨gi, 0, none⟩ from HTA.out.1.trans hgi] at c1
     have u1 : (0 : Int) <= (u : Int) := by omega
     have u2 : (u : Int) < (n : Int) := by omega
     clear hgi
     go_wp2_with fail
     go_roundw
     case rel => exact ⟨u + 1, by omega, by go_num, HPU⟩
     case measure => simp [intOf]; omega
    ·have u2 : ¬ (u : Int) < (n : Int) := by omega
     obtain ⟨⟨ys, hys⟩, _⟩ := hsq.out.cel i (Nat.le_refl _) hlt
     have OE : wr.ownsRow B 5 1 (.slice ta n tc) n ys := by rw [HTA.out.1, HTA.out.2]; exact hys
     have hwz := hsq.out.onl.size
     have HWZ : Hid (B <= wr.heap.size) := by show _ <= _; omega
     have HOB : Hid ((Value.slice (A i) n (U i)).ownBlock = (Value.slice ta n tc).ownBlock) := by show _ = _; rw [HTA.out.1, HTA.out.2]
     clear hys hwz
     go_wp2_with (first
      | (at_builtin; refine wpList_append_own_at _ rfl _ _ 36 rfl B 5 i0 (.int .u8 0) 1 1 Tryz.underlying36 hi0 hq0 hq1 hq2 rfl (by decide) _ _ _ rfl (OE.alloc _) ⟨wr.heap.size, 0, none⟩ 1 1 [.int .u8 98] rfl rfl (cell_one_new _ _ _) (by simp [Value.oneCell']) (by unfold maxLen; omega) (by omega) (by have := HWZ.out; simp; omega) ?_; intro v' wn hown2 hgrow hnil hloc; obtain ⟨⟨xo, x1⟩, x2, hnx⟩ := hsq.out.next hlt (by rw [HOB.out]; exact hgrow); obtain ⟨an, cn', rfl⟩ := Cod.owns_form hown2; have HNX : Hid (Spp B T (i + 1) m n w (wn.setCell ⟨g, i * 4 + 3, none⟩ (.slice an (n + 1) cn')) g cap A U) := hnx _; obtain ⟨⟨yo, y1⟩, y2⟩ := HNX.out.lcell (i * 4) (by omega); have HNY : Hid (Spp B T (i + 1) m n w ((wn.setCell ⟨g, i * 4 + 3, none⟩ (.slice an (n + 1) cn')).setCell ⟨g, i * 4, none⟩ (.int .i64 (-9))) g cap A U) := HNX.out.lset (i * 4) (by omega) _; clear hnx hown2 hgrow hnil hloc)
      | go_in)
     go_roundw
     case rel => exact ⟨i + 1, by omega, by go_num, HNY.out.onl, fun _ => ⟨g, rfl, HNY.out⟩⟩
     case measure => simp [intOf]; omega
  ·have i2 : ¬ (i : Int) < (m : Int) := by omega
   go_wp2_with fail
   refine bodyPost_end (results_none rfl _ _ _) rfl ?_
   exact ⟨rfl, hon.out⟩
end Go.Proofs.YtemlojjkokooeaaGreat
