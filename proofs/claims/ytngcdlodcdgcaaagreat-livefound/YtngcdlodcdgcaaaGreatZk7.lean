import Derived.Laws.AppendOwnNone
import Derived.Laws.OwnMore
import Derived.Laws.BytesArg
import Derived.Laws.CopyOwn
import Derived.Laws.IdiomStrings
import Derived.Laws.Rows
import Derived.Deep.AppendLies
import Derived.Deep.RegionLawGrows
import Derived.Deep.OwnRows
import Derived.Lib.SliceRun
import Derived.BigQuiet
import Derived.StillTailTactics
import Derived.Test.YtngcdlodcdgcaaaGreatZk1
namespace Go.Proofs.YtngcdlodcdgcaaaGreat.Im
open Go.RowKit
theorem of_drew {w v : World} (h : Below w.drew.heap.size w.drew v) : Below w.heap.size w v := below_then (below_drew _ _) h
theorem img_held {w w0 w1 : World} {x0 x1 x2 x3 x4 : Value} {t : TypeId} (h0 : w0 = w.alloc (.cells #[x0, x1, x2, x3, x4] t)) (hb : Below w0.heap.size w0 w1) :
    w1.cell? ⟨w.heap.size, 0, none⟩ = some x0 /\ w1.cell? ⟨w.heap.size, 1, none⟩ = some x1 /\ w1.cell? ⟨w.heap.size, 2, none⟩ = some x2 /\ w1.cell? ⟨w.heap.size, 3, none⟩ = some x3 /\ w1.cell? ⟨w.heap.size, 4, none⟩ = some x4 := mea_held h0 hb
theorem shp_held {w w0 w1 : World} {x0 x1 x2 : Value} {t : TypeId} (h0 : w0 = w.alloc (.cells #[x0, x1, x2] t)) (hb : Below w0.heap.size w0 w1) :
    w1.cell? ⟨w.heap.size, 0, none⟩ = some x0 /\ w1.cell? ⟨w.heap.size, 1, none⟩ = some x1 /\ w1.cell? ⟨w.heap.size, 2, none⟩ = some x2 :=
  ⟨blk_held h0 hb 0 rfl, blk_held h0 hb 1 rfl, blk_held h0 hb 2 rfl⟩
structure Only (X : Nat -> Prop) (w w' : World) : Prop where
  os : w'.os = w.os
  tape : w'.tape = w.tape
  output : w'.output = w.output
  size : w.heap.size <= w'.heap.size
  block : ∀ b, b < w.heap.size -> ¬ X b -> w'.heap[b]? = w.heap[b]?
theorem Only.refl (X : Nat -> Prop) (w : World) : Only X w w := ⟨rfl, rfl, rfl, Nat.le_refl _, fun _ _ _ => rfl⟩
theorem Only.trans {X : Nat -> Prop} {a b c : World} (h : Only X a b) (k : Only X b c) : Only X a c :=
  ⟨k.os.trans h.os, k.tape.trans h.tape, k.output.trans h.output, Nat.le_trans h.size k.size, fun i hi hx => (k.block i (Nat.lt_of_lt_of_le hi h.size) hx).trans (h.block i hi hx)⟩
theorem Only.of_below {X : Nat -> Prop} {a b : World} (h : Below a.heap.size a b) : Only X a b := ⟨h.os, h.tape, h.output, h.size, fun i hi _ => h.block i hi⟩
theorem Only.below {X : Nat -> Prop} {B : Nat} {a b : World} (h : Only X a b) (k : ∀ i, X i -> B <= i) (hB : B <= a.heap.size) : Below B a b := ⟨h.os, h.tape, h.output, h.size, fun i hi => h.block i (by omega) fun hx => by have := k i hx; omega⟩
theorem Only.setCell {X : Nat -> Prop} {a b : World} (h : Only X a b) {p : Addr} (hp : X p.block) (v : Value) : Only X a (b.setCell p v) :=
  h.trans ⟨rfl, rfl, rfl, by simp [World.setCell], fun i _ hx => Below.heap_setCell _ _ _ _ (fun e => hx (e ▸ hp))⟩
theorem Only.then {X : Nat -> Prop} {a b c : World} (h : Only X a b) (k : Below b.heap.size b c) : Only X a c := h.trans (.of_below k)
theorem Only.cell {X : Nat -> Prop} {a b : World} (h : Only X a b) {p : Addr} {v : Value} (hc : a.cell? p = some v) (hp : ¬ X p.block) : b.cell? p = some v :=
  (World.cell?_of_block (h.block p.block (World.block_lt_of_cell? a _ hc) hp)).trans hc
def RdB (w : World) (ao : Option Addr) (c : List UInt8) : Prop :=
  c ≠ [] -> ∃ b off, ao = some ⟨b, off, none⟩ /\ ∀ j (hj : j < c.length), w.cell? ⟨b, off + j, none⟩ = some (.int .u8 ((c[j].toNat : Nat) : Int))
theorem rdb_nil (w : World) (ao : Option Addr) : RdB w ao [] := fun h => absurd rfl h
theorem RdB.only {X : Nat -> Prop} {w w' : World} {ao : Option Addr} {c : List UInt8} (h : RdB w ao c) (ho : Only X w w') (hx : ∀ a, ao = some a -> ¬ X a.block) : RdB w' ao c := by
  intro hc
  obtain ⟨b, off, rfl, hr⟩ := h hc
  exact ⟨b, off, rfl, fun j hj => ho.cell (hr j hj) (hx ⟨b, off, none⟩ rfl)⟩
theorem RdB.below {w w' : World} {ao : Option Addr} {c : List UInt8} (h : RdB w ao c) (ho : Below w.heap.size w w') : RdB w' ao c := h.only (X := fun _ => False) (.of_below ho) (fun _ _ h => h)
def bys (c : List UInt8) : List Value := c.map fun b => .int .u8 (b.toNat : Int)
theorem bys_length (c : List UInt8) : (bys c).length = c.length := by simp [bys]
theorem bys_get (c : List UInt8) (j : Nat) (h : j < c.length) : (bys c)[j]? = some (.int .u8 (c[j].toNat : Int)) := by simp [bys, h]
theorem bys_one (c : List UInt8) : ∀ u ∈ bys c, u.oneCell' = true := by
  intro u hu
  simp only [bys, List.mem_map] at hu
  obtain ⟨b, _, rfl⟩ := hu
  rfl
theorem rdb_news {w : World} {ad : Addr} {c : List UInt8} (h : RdB w (some ad) c) : ∀ j u, (bys c)[j]? = some u -> w.cell? (ad.add j) = some u := by
  intro j u hu
  have hj : j < c.length := by
    rcases Nat.lt_or_ge j c.length with g | g
    · exact g
    · rw [List.getElem?_eq_none (by rw [bys_length]; exact g)] at hu; cases hu
  obtain ⟨b, off, e, hr⟩ := h (fun e => by rw [e] at hj; simp at hj)
  cases e
  rw [bys_get _ _ hj] at hu
  rw [Addr.add_lit, hr j hj]; exact hu
structure Lst (w : World) (lo : Option Addr) (n : Nat) (A : Nat -> Option Addr) (C : Nat -> Nat) (F : Nat -> List UInt8) : Prop where
  at_ : 0 < n -> ∃ b off, lo = some ⟨b, off, none⟩ /\ ∀ i, i < n -> w.cell? ⟨b, off + i, none⟩ = some (.slice (A i) (F i).length (C i))
  rd : ∀ i, i < n -> RdB w (A i) (F i)
  nil : ∀ i, i < n -> A i = none -> F i = [] /\ C i = 0
theorem Lst.below {w w' : World} {lo : Option Addr} {n : Nat} {A : Nat -> Option Addr} {C : Nat -> Nat} {F : Nat -> List UInt8} (h : Lst w lo n A C F) (ho : Below w.heap.size w w') : Lst w' lo n A C F :=
  ⟨fun hn => by obtain ⟨b, off, e, hc⟩ := h.at_ hn; exact ⟨b, off, e, fun i hi => held (hc i hi) ho⟩, fun i hi => (h.rd i hi).below ho, h.nil⟩
def Blk (w : World) (g : Nat) (t : TypeId) (cs : List Value) : Prop := w.heap[g]? = some (.cells cs.toArray t (0, 0))
theorem Blk.lt {w : World} {g : Nat} {t : TypeId} {cs : List Value} (h : Blk w g t cs) : g < w.heap.size := (Array.getElem?_eq_some_iff.1 h).1
theorem Blk.cell {w : World} {g : Nat} {t : TypeId} {cs : List Value} (h : Blk w g t cs) {i : Nat} {v : Value} (hv : cs[i]? = some v) : w.cell? ⟨g, i, none⟩ = some v := by
  unfold Blk at h
  simp [World.cell?, h, hv]
theorem Blk.free {w : World} {g : Nat} {t : TypeId} {cs : List Value} (h : Blk w g t cs) (i : Nat) : w.frozen? ⟨g, i, none⟩ = false := by
  unfold Blk at h
  simp [World.frozen?, h]
theorem Blk.set {w : World} {g : Nat} {t : TypeId} {cs : List Value} (h : Blk w g t cs) (i : Nat) (v : Value) : Blk (w.setCell ⟨g, i, none⟩ v) g t (cs.set i v) := by
  unfold Blk at *
  simp [World.setCell, Array.getElem?_modify, h]
theorem Blk.only {X : Nat -> Prop} {w w' : World} {g : Nat} {t : TypeId} {cs : List Value} (h : Blk w g t cs) (ho : Only X w w') (hx : ¬ X g) : Blk w' g t cs := (ho.block g h.lt hx).trans h
theorem Blk.below {w w' : World} {g : Nat} {t : TypeId} {cs : List Value} (h : Blk w g t cs) (ho : Below w.heap.size w w') : Blk w' g t cs := (ho.block g h.lt).trans h
theorem blk_new (w : World) (t : TypeId) (cs : List Value) : Blk (w.alloc (.cells cs.toArray t)) w.heap.size t cs := heap_alloc_new w _
theorem info5 : (Tryz.prog.info? 5).map (fun i => (i.zero, i.size, i.bytes)) = some (some (.int .u8 0), 1, 1) := by kernel_rfl
theorem info_parts {t : TypeId} {z : Value} {s b : Nat} (h : (Tryz.prog.info? t).map (fun i => (i.zero, i.size, i.bytes)) = some (some z, s, b)) : ∃ i, Tryz.prog.info? t = some i /\ i.zero = some z /\ i.size = s /\ i.bytes = b := by
  obtain ⟨i, hi, e⟩ := Option.map_eq_some_iff.1 h
  simp only [Prod.mk.injEq] at e
  exact ⟨i, hi, e.1, e.2.1, e.2.2⟩
theorem frozen_setC (w : World) (a b : Addr) (u : Value) : (w.setCell a u).frozen? b = w.frozen? b := by simp
structure RSl (w : World) (Y : Nat -> Prop) (l n : Nat) (A : Nat -> Option Addr) (C : Nat -> Nat) (F : Nat -> List UInt8) : Prop where
  cell : ∀ i, i < n -> w.cell? ⟨l, i, none⟩ = some (.slice (A i) (F i).length (C i))
  free : ∀ i, i < n -> w.frozen? ⟨l, i, none⟩ = false
  rd : ∀ i, i < n -> RdB w (A i) (F i)
  at_ : ∀ i a, i < n -> A i = some a -> Y a.block /\ a.block ≠ l
  nil : ∀ i, i < n -> A i = none -> F i = [] /\ C i = 0
  own : Y l
theorem RSl.only {X Y : Nat -> Prop} {w w' : World} {l n : Nat} {A : Nat -> Option Addr} {C : Nat -> Nat} {F : Nat -> List UInt8} (h : RSl w Y l n A C F) (ho : Only X w w') (hx : ∀ b, Y b -> ¬ X b) : RSl w' Y l n A C F :=
  ⟨fun i hi => ho.cell (h.cell i hi) (hx _ h.own), fun i hi => (World.frozen?_of_block (ho.block l (World.block_lt_of_cell? w _ (h.cell i hi)) (hx _ h.own))).trans (h.free i hi), fun i hi => (h.rd i hi).only ho (fun a ha => hx _ (h.at_ i a hi ha).1), h.at_, h.nil, h.own⟩
theorem RSl.mono {Y Z : Nat -> Prop} {w : World} {l n : Nat} {A : Nat -> Option Addr} {C : Nat -> Nat} {F : Nat -> List UInt8} (h : RSl w Y l n A C F) (hx : ∀ b, Y b -> Z b) : RSl w Z l n A C F :=
  ⟨h.cell, h.free, h.rd, fun i a hi ha => ⟨hx _ (h.at_ i a hi ha).1, (h.at_ i a hi ha).2⟩, h.nil, hx _ h.own⟩
theorem RSl.congr {Y : Nat -> Prop} {w : World} {l n : Nat} {A : Nat -> Option Addr} {C : Nat -> Nat} {F G : Nat -> List UInt8} (h : RSl w Y l n A C F) (e : ∀ i, i < n -> F i = G i) : RSl w Y l n A C G :=
  ⟨fun i hi => by rw [<- e i hi]; exact h.cell i hi, h.free, fun i hi => by rw [<- e i hi]; exact h.rd i hi, h.at_, fun i hi => by rw [<- e i hi]; exact h.nil i hi, h.own⟩
theorem RSl.put {Y : Nat -> Prop} {w : World} {l n : Nat} {A : Nat -> Option Addr} {C : Nat -> Nat} {F : Nat -> List UInt8} (h : RSl w Y l n A C F) (i : Nat) (ao : Option Addr) (c : Nat) (x : List UInt8) (hr : RdB w ao x) (hy : ∀ a, ao = some a -> Y a.block /\ a.block ≠ l) (hn : ao = none -> x = [] /\ c = 0) :
    RSl (w.setCell ⟨l, i, none⟩ (.slice ao x.length c)) Y l n (upd i ao A) (upd i c C) (upd i x F) := by
  have ho : Only (fun b => b = l) w (w.setCell ⟨l, i, none⟩ (.slice ao x.length c)) := Only.setCell (X := fun b => b = l) (p := ⟨l, i, none⟩) (Only.refl _ _) rfl _
  refine ⟨fun j hj => ?_, fun j hj => (frozen_setC _ _ _ _).trans (h.free j hj), fun j hj => ?_, fun j a hj ha => ?_, fun j hj ha => ?_, h.own⟩
  · by_cases e : j = i
    · subst e; rw [upd_at, upd_at, upd_at]; exact World.cell?_setCell_same _ _ _ (h.cell j hj)
    · rw [upd_ne _ _ e, upd_ne _ _ e, upd_ne _ _ e]
      rw [World.cell?_setCell_other _ _ _ _ (by intro h; cases h; exact e rfl)]
      exact h.cell j hj
  · by_cases e : j = i
    · subst e; rw [upd_at, upd_at]; exact hr.only ho (fun a ha => (hy a ha).2)
    · rw [upd_ne _ _ e, upd_ne _ _ e]; exact (h.rd j hj).only ho (fun a ha => (h.at_ j a hj ha).2)
  · by_cases e : j = i
    · subst e; rw [upd_at] at ha; exact hy a ha
    · rw [upd_ne _ _ e] at ha; exact h.at_ j a hj ha
  · by_cases e : j = i
    · subst e; rw [upd_at] at ha; rw [upd_at, upd_at]; exact hn ha
    · rw [upd_ne _ _ e] at ha; rw [upd_ne _ _ e, upd_ne _ _ e]; exact h.nil j hj ha
def OwC (B : Nat) (w : World) (ao : Option Addr) (cp : Nat) (c : List UInt8) : Prop :=
  (ao = none /\ c = [] /\ cp = 0) \/ ∃ g, ao = some ⟨g, 0, none⟩ /\ B <= g /\ cp = c.length /\ c ≠ [] /\ w.heap[g]? = some (.cells (bys c).toArray 5 (0, 0))
theorem OwC.rd {B : Nat} {w : World} {ao : Option Addr} {cp : Nat} {c : List UInt8} (h : OwC B w ao cp c) : RdB w ao c := by
  rcases h with ⟨_, rfl, _⟩ | ⟨g, rfl, _, _, _, hg⟩
  · exact rdb_nil _ _
  · intro _
    refine ⟨g, 0, rfl, fun j hj => ?_⟩
    rw [cell_of_row _ _ _ _ _ _ hg, Nat.zero_add, List.getElem?_toArray]
    exact bys_get c j hj
theorem OwC.at_ {B : Nat} {w : World} {ao : Option Addr} {cp : Nat} {c : List UInt8} (h : OwC B w ao cp c) {a : Addr} (ha : ao = some a) : B <= a.block /\ a.block < w.heap.size := by
  subst ha
  rcases h with ⟨h, _⟩ | ⟨g, e, hB, _, _, hg⟩
  · cases h
  · cases e; exact ⟨hB, (Array.getElem?_eq_some_iff.1 hg).1⟩
theorem OwC.nil {B : Nat} {w : World} {ao : Option Addr} {cp : Nat} {c : List UInt8} (h : OwC B w ao cp c) (ha : ao = none) : c = [] /\ cp = 0 := by
  subst ha
  rcases h with ⟨_, h⟩ | ⟨g, e, _⟩
  · exact h
  · cases e
theorem OwC.stay {B : Nat} {w w' : World} {ao : Option Addr} {cp : Nat} {c : List UInt8} (h : OwC B w ao cp c) (hb : ∀ g, B <= g -> g < w.heap.size -> w'.heap[g]? = w.heap[g]?) : OwC B w' ao cp c := by
  rcases h with h | ⟨g, e, hB, h1, h2, hg⟩
  · exact .inl h
  · exact .inr ⟨g, e, hB, h1, h2, by rw [hb g hB (Array.getElem?_eq_some_iff.1 hg).1]; exact hg⟩
theorem OwC.below {B : Nat} {w w' : World} {ao : Option Addr} {cp : Nat} {c : List UInt8} (h : OwC B w ao cp c) (hb : Below w.heap.size w w') : OwC B w' ao cp c := h.stay fun g _ hg => hb.block g hg
theorem OwC.mono {B B' : Nat} {w : World} {ao : Option Addr} {cp : Nat} {c : List UInt8} (h : OwC B w ao cp c) (hb : B' <= B) : OwC B' w ao cp c := by
  rcases h with h | ⟨g, e, hB, h1⟩
  · exact .inl h
  · exact .inr ⟨g, e, by omega, h1⟩
end Go.Proofs.YtngcdlodcdgcaaaGreat.Im
