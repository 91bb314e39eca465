/- Slices of bytes and matrices as the walks know them: what one reads as, what one that a call has made holds, and what stays where only some blocks are written. -/
import Derived.Test.YthkikocacbbhkaaGfR
import Derived.Test.YthkikocacbbhkaaMatMath
import Derived.Below
import Derived.Deep.OwnRows
import Derived.Laws.CopyOwn
namespace Go.Proofs.Ythkikocacbbhkaa
open Go.RowKit

/-- Outside of the blocks from B to T all that was there is as it was. -/
structure Keeps (B T : Nat) (w w' : World) : Prop where
  os : w'.os = w.os
  tape : w'.tape = w.tape
  output : w'.output = w.output
  size : w.heap.size ≤ w'.heap.size
  block : ∀ k, k < w.heap.size → k < B ∨ T ≤ k → w'.heap[k]? = w.heap[k]?
theorem Keeps.refl (B T : Nat) (w : World) : Keeps B T w w := ⟨rfl, rfl, rfl, Nat.le_refl _, fun _ _ _ => rfl⟩
theorem Keeps.trans {B T : Nat} {a b c : World} (h : Keeps B T a b) (k : Keeps B T b c) : Keeps B T a c :=
  ⟨k.os.trans h.os, k.tape.trans h.tape, k.output.trans h.output, Nat.le_trans h.size k.size, fun i hi hg => (k.block i (Nat.lt_of_lt_of_le hi h.size) hg).trans (h.block i hi hg)⟩
theorem Keeps.drew {B T : Nat} {a w : World} (h : Keeps B T a w) : Keeps B T a w.drew := ⟨h.os, h.tape, h.output, h.size, h.block⟩
theorem Keeps.drewN {B T : Nat} {a w : World} (h : Keeps B T a w) (n : Nat) : Keeps B T a (w.drewN n) := ⟨h.os, h.tape, h.output, h.size, h.block⟩
theorem Keeps.alloc {B T : Nat} {a w : World} (h : Keeps B T a w) (o : Obj) : Keeps B T a (w.alloc o) :=
  h.trans ⟨rfl, rfl, rfl, by simp, fun k hk _ => Below.heap_alloc _ _ _ hk⟩
theorem Keeps.setCell {B T g : Nat} {a w : World} (h : Keeps B T a w) (h1 : B ≤ g) (h2 : g < T) (i : Nat) (u : Value) : Keeps B T a (w.setCell ⟨g, i, none⟩ u) :=
  h.trans ⟨rfl, rfl, rfl, by simp [World.setCell], fun k _ hg => Below.heap_setCell _ _ _ _ (by simp; omega)⟩
theorem Keeps.of_below {B T : Nat} {w w' : World} (h : Below w.heap.size w w') : Keeps B T w w' := ⟨h.os, h.tape, h.output, h.size, fun k hk _ => h.block k hk⟩
theorem Keeps.below {B T C : Nat} {w w' : World} (h : Keeps B T w w') (hB : C ≤ w.heap.size) (hg : C ≤ B) : Below C w w' :=
  ⟨h.os, h.tape, h.output, h.size, fun k hk => h.block k (by omega) (.inl (by omega))⟩
theorem Keeps.mono {B T B' T' : Nat} {w w' : World} (h : Keeps B T w w') (h1 : B' ≤ B) (h2 : T ≤ T') : Keeps B' T' w w' :=
  ⟨h.os, h.tape, h.output, h.size, fun k hk hg => h.block k hk (by omega)⟩
theorem Keeps.cell {B T : Nat} {w w' : World} (h : Keeps B T w w') {a : Addr} {v : Value} (hc : w.cell? a = some v) (ha : a.block < B ∨ T ≤ a.block) : w'.cell? a = some v :=
  (World.cell?_of_block (h.block a.block (World.block_lt_of_cell? w a hc) ha)).trans hc
theorem below_step {B : Nat} {a b c : World} (h : Below B a b) (k : Below b.heap.size b c) (hB : B ≤ b.heap.size) : Below B a c := h.trans (k.mono hB)
theorem below_drew (B : Nat) (w : World) : Below B w w.drew := ⟨rfl, rfl, rfl, Nat.le_refl _, fun _ _ => rfl⟩
theorem below_drewN (B : Nat) (w : World) (n : Nat) : Below B w (w.drewN n) := ⟨rfl, rfl, rfl, Nat.le_refl _, fun _ _ => rfl⟩

/-- A slice of n bytes that begins at ao reads as f 0, f 1, .. -/
def Rd (w : World) (ao : Option Addr) (n : Nat) (f : Nat → K) : Prop :=
  0 < n → ∃ b off, ao = some ⟨b, off, none⟩ ∧ ∀ i, i < n → w.cell? ⟨b, off + i, none⟩ = some (.int .u8 ((f i).n : Int))
theorem Rd.below {w w' : World} {ao : Option Addr} {n : Nat} {f : Nat → K} (h : Rd w ao n f) (ho : Below w.heap.size w w') : Rd w' ao n f := by
  intro hn
  obtain ⟨b, off, rfl, hc⟩ := h hn
  exact ⟨b, off, rfl, fun i hi => (ho.cell (World.block_lt_of_cell? w _ (hc i hi))).trans (hc i hi)⟩
theorem Rd.keeps {B T : Nat} {w w' : World} {ao : Option Addr} {n : Nat} {f : Nat → K} (h : Rd w ao n f) (ho : Keeps B T w w') (hg : ∀ a, 0 < n → ao = some a → a.block < B ∨ T ≤ a.block) : Rd w' ao n f := by
  intro hn
  obtain ⟨b, off, rfl, hc⟩ := h hn
  exact ⟨b, off, rfl, fun i hi => ho.cell (hc i hi) (hg ⟨b, off, none⟩ hn rfl)⟩
theorem Rd.lt {w : World} {ao : Option Addr} {n : Nat} {f : Nat → K} (h : Rd w ao n f) (hn : 0 < n) : ∀ a, ao = some a → a.block < w.heap.size := by
  obtain ⟨b, off, rfl, hc⟩ := h hn
  rintro a ⟨⟩
  exact World.block_lt_of_cell? w _ (hc 0 hn)
theorem Rd.congr {w : World} {ao : Option Addr} {n : Nat} {f h : Nat → K} (r : Rd w ao n f) (e : ∀ i, i < n → f i = h i) : Rd w ao n h := by
  intro hn
  obtain ⟨b, off, rfl, hc⟩ := r hn
  exact ⟨b, off, rfl, fun i hi => by rw [← e i hi]; exact hc i hi⟩

/-- Block g is a row of u bytes that may be written; the first n of them are f 0, f 1, .. -/
def Own (w : World) (g n u : Nat) (f : Nat → K) : Prop :=
  n ≤ u ∧ u ≤ maxLen ∧ ∃ h : Nat → Value, w.rowIs g 5 u h ∧ ∀ i, i < n → h i = .int .u8 ((f i).n : Int)
theorem Own.cell {w : World} {g n u : Nat} {f : Nat → K} (h : Own w g n u f) {i : Nat} (hi : i < n) : w.cell? ⟨g, i, none⟩ = some (.int .u8 ((f i).n : Int)) := by
  obtain ⟨h1, _, c, hr, hc⟩ := h
  rw [hr.cell (by omega), hc i hi]
theorem Own.frozen {w : World} {g n u : Nat} {f : Nat → K} (h : Own w g n u f) (i : Nat) : w.frozen? ⟨g, i, none⟩ = false := by
  obtain ⟨h1, _, c, hr, hc⟩ := h
  exact hr.frozen i
theorem Own.lt {w : World} {g n u : Nat} {f : Nat → K} (h : Own w g n u f) : g < w.heap.size := by
  obtain ⟨_, _, c, hr, hc⟩ := h
  exact hr.lt
theorem Own.rd {w : World} {g n u : Nat} {f : Nat → K} (h : Own w g n u f) : Rd w (some ⟨g, 0, none⟩) n f :=
  fun _ => ⟨g, 0, rfl, fun i hi => by rw [Nat.zero_add]; exact h.cell hi⟩
theorem Own.of_block {w w' : World} {g n u : Nat} {f : Nat → K} (h : Own w g n u f) (hb : w'.heap[g]? = w.heap[g]?) : Own w' g n u f := by
  obtain ⟨h1, h2, c, hr, hc⟩ := h
  exact ⟨h1, h2, c, hr.of_block hb, hc⟩
theorem Own.below {w w' : World} {g n u : Nat} {f : Nat → K} (h : Own w g n u f) (ho : Below w.heap.size w w') : Own w' g n u f := h.of_block (ho.block g h.lt)
theorem Own.keeps {B T : Nat} {w w' : World} {g n u : Nat} {f : Nat → K} (h : Own w g n u f) (ho : Keeps B T w w') (hg : g < B ∨ T ≤ g) : Own w' g n u f := h.of_block (ho.block g h.lt hg)
theorem Own.congr {w : World} {g n u : Nat} {f f' : Nat → K} (h : Own w g n u f) (e : ∀ i, i < n → f i = f' i) : Own w g n u f' := by
  obtain ⟨h1, h2, c, hr, hc⟩ := h
  exact ⟨h1, h2, c, hr, fun i hi => by rw [hc i hi, e i hi]⟩
theorem Own.set {w : World} {g n u : Nat} {f : Nat → K} (h : Own w g n u f) (k : Nat) (x : K) : Own (w.setCell ⟨g, k, none⟩ (.int .u8 (x.n : Int))) g n u (fun i => if i = k then x else f i) := by
  obtain ⟨h1, h2, c, hr, hc⟩ := h
  refine ⟨h1, h2, _, hr.set k _, fun i hi => ?_⟩
  by_cases e : i = k
  · simp only [e, if_true]
  · simp only [e, if_false]; exact hc i hi
/-- f up to k, h from there on. -/
def upto {α : Type} (k : Nat) (f h : Nat → α) (i : Nat) : α := if i < k then f i else h i
theorem upto_zero {α : Type} (f h : Nat → α) : upto 0 f h = h := by funext i; simp [upto]
theorem upto_at {α : Type} (k : Nat) (f h : Nat → α) : upto k f h k = h k := by simp [upto]
theorem upto_succ {α : Type} (k : Nat) (f h : Nat → α) (i : Nat) : upto (k + 1) f h i = if i = k then f k else upto k f h i := by
  unfold upto
  by_cases h1 : i = k
  · subst h1; simp
  · rw [if_neg h1]
    by_cases h2 : i < k
    · rw [if_pos (by omega), if_pos h2]
    · rw [if_neg (by omega), if_neg h2]
theorem Own.store {w : World} {g n u k : Nat} {f h : Nat → K} (r : Own w g n u (upto k f h)) : Own (w.setCell ⟨g, k, none⟩ (.int .u8 ((f k).n : Int))) g n u (upto (k + 1) f h) :=
  (r.set k (f k)).congr fun i _ => (upto_succ k f h i).symm
theorem Own.all {w : World} {g n u : Nat} {f h : Nat → K} (r : Own w g n u (upto n f h)) : Own w g n u f := r.congr fun i hi => by simp [upto, hi]

/-- A matrix in memory of its own: the list l (with room for cl rows) has rows G i of cols bytes (room for U i), all of them apart and between B and T. -/
structure Mat (w : World) (B T l cl rows cols : Nat) (G U : Nat → Nat) (H : M) : Prop where
  lst : ∃ h : Nat → Value, w.rowIs l 23 cl h ∧ ∀ i, i < rows → h i = .slice (some ⟨G i, 0, none⟩) cols (U i)
  room : rows ≤ cl
  row : ∀ i, i < rows → Own w (G i) cols (U i) (H i)
  lo : B ≤ l
  hi : l < T
  los : ∀ i, i < rows → B ≤ G i
  his : ∀ i, i < rows → G i < T
  apart : ∀ i j, i < rows → j < rows → i ≠ j → G i ≠ G j
theorem Mat.cell_l {w : World} {B T l cl rows cols : Nat} {G U : Nat → Nat} {H : M} (h : Mat w B T l cl rows cols G U H) {i : Nat} (hi : i < rows) : w.cell? ⟨l, i, none⟩ = some (.slice (some ⟨G i, 0, none⟩) cols (U i)) := by
  obtain ⟨c, hr, hc⟩ := h.lst
  rw [hr.cell (Nat.lt_of_lt_of_le hi h.room), hc i hi]
theorem Mat.frozen_l {w : World} {B T l cl rows cols : Nat} {G U : Nat → Nat} {H : M} (h : Mat w B T l cl rows cols G U H) (i : Nat) : w.frozen? ⟨l, i, none⟩ = false := by
  obtain ⟨c, hr, hc⟩ := h.lst
  exact hr.frozen i
theorem rowIs_ne {w : World} {g g' n n' : Nat} {f f' : Nat → Value} {e e' : Nat} (h : w.rowIs g e n f) (h' : w.rowIs g' e' n' f') (he : e ≠ e') : g ≠ g' := by
  rintro rfl
  obtain ⟨c, h1, _⟩ := h
  obtain ⟨c', h2, _⟩ := h'
  rw [h1] at h2
  cases h2
  exact he rfl
theorem Mat.ne_l {w : World} {B T l cl rows cols : Nat} {G U : Nat → Nat} {H : M} (h : Mat w B T l cl rows cols G U H) {i : Nat} (hi : i < rows) : G i ≠ l := by
  obtain ⟨c, hr, _⟩ := h.lst
  obtain ⟨_, _, c', hr', _⟩ := h.row i hi
  exact rowIs_ne hr' hr (by decide)
theorem Mat.lt_l {w : World} {B T l cl rows cols : Nat} {G U : Nat → Nat} {H : M} (h : Mat w B T l cl rows cols G U H) : l < w.heap.size := by
  obtain ⟨c, hr, _⟩ := h.lst
  exact hr.lt
theorem Mat.congr {w : World} {B T l cl rows cols : Nat} {G U : Nat → Nat} {H H' : M} (h : Mat w B T l cl rows cols G U H) (e : ∀ i j, i < rows → j < cols → H i j = H' i j) : Mat w B T l cl rows cols G U H' :=
  ⟨h.lst, h.room, fun i hi => (h.row i hi).congr fun j hj => e i j hi hj, h.lo, h.hi, h.los, h.his, h.apart⟩
theorem Mat.blocks {w w' : World} {B T l cl rows cols : Nat} {G U : Nat → Nat} {H : M} (h : Mat w B T l cl rows cols G U H) (hl : w'.heap[l]? = w.heap[l]?) (hg : ∀ i, i < rows → w'.heap[G i]? = w.heap[G i]?) : Mat w' B T l cl rows cols G U H := by
  obtain ⟨c, hr, hc⟩ := h.lst
  exact ⟨⟨c, hr.of_block hl, hc⟩, h.room, fun i hi => (h.row i hi).of_block (hg i hi), h.lo, h.hi, h.los, h.his, h.apart⟩
theorem Mat.below {w w' : World} {B T l cl rows cols : Nat} {G U : Nat → Nat} {H : M} (h : Mat w B T l cl rows cols G U H) (hb : Below w.heap.size w w') : Mat w' B T l cl rows cols G U H :=
  h.blocks (hb.block l h.lt_l) fun i hi => hb.block (G i) (h.row i hi).lt
theorem Mat.keeps {w w' : World} {B T B' T' l cl rows cols : Nat} {G U : Nat → Nat} {H : M} (h : Mat w B T l cl rows cols G U H) (hb : Keeps B' T' w w') (ho : T ≤ B' ∨ T' ≤ B) : Mat w' B T l cl rows cols G U H :=
  h.blocks (hb.block l h.lt_l (by have := h.lo; have := h.hi; omega)) fun i hi => hb.block (G i) (h.row i hi).lt (by have := h.los i hi; have := h.his i hi; omega)
/-- One row is written. -/
theorem Mat.put {w w' : World} {B T l cl rows cols : Nat} {G U : Nat → Nat} {H : M} {k : Nat} {f : Nat → K} (h : Mat w B T l cl rows cols G U H) (hk : k < rows) (ho : Own w' (G k) cols (U k) f) (hb : Keeps (G k) (G k + 1) w w') :
    Mat w' B T l cl rows cols G U (fun i => if i = k then f else H i) := by
  obtain ⟨c, hr, hc⟩ := h.lst
  have hne := h.ne_l hk
  refine ⟨⟨c, hr.of_block (hb.block l h.lt_l (by omega)), hc⟩, h.room, fun i hi => ?_, h.lo, h.hi, h.los, h.his, h.apart⟩
  by_cases e : i = k
  · subst e; rw [if_pos rfl]; exact ho
  · rw [if_neg e]
    have := h.apart i k hi hk e
    exact (h.row i hi).keeps hb (by omega)
/-- Two rows change places. -/
def exch {α : Type} (b i0 : Nat) (f : Nat → α) (i : Nat) : α := if i = b then f i0 else if i = i0 then f b else f i
theorem swp_exch (b i0 : Nat) (X : M) : swp b i0 X = exch b i0 X := rfl
theorem exch_inj {b i0 i j : Nat} : exch b i0 (fun x => x) i = exch b i0 (fun x => x) j → i = j := by
  unfold exch
  intro h
  by_cases a1 : i = b <;> by_cases a2 : j = b <;> by_cases a3 : i = i0 <;> by_cases a4 : j = i0 <;> simp_all
theorem exch_id {α : Type} (b i0 : Nat) (f : Nat → α) (i : Nat) : exch b i0 f i = f (exch b i0 (fun x => x) i) := by
  unfold exch; split
  · rfl
  · split <;> rfl
theorem exch_lt {b i0 i n : Nat} (hb : b < n) (h0 : i0 < n) (hi : i < n) : exch b i0 (fun x => x) i < n := by
  unfold exch; split
  · exact h0
  · split
    · exact hb
    · exact hi
theorem Mat.swap {w : World} {B T l cl rows cols : Nat} {G U : Nat → Nat} {H : M} {b i0 : Nat} (h : Mat w B T l cl rows cols G U H) (hb : b < rows) (h0 : i0 < rows) :
    Mat ((w.setCell ⟨l, b, none⟩ (.slice (some ⟨G i0, 0, none⟩) cols (U i0))).setCell ⟨l, i0, none⟩ (.slice (some ⟨G b, 0, none⟩) cols (U b))) B T l cl rows cols (exch b i0 G) (exch b i0 U) (swp b i0 H) := by
  obtain ⟨c, hr, hc⟩ := h.lst
  have hk : ∀ i, i < rows → ((w.setCell ⟨l, b, none⟩ (.slice (some ⟨G i0, 0, none⟩) cols (U i0))).setCell ⟨l, i0, none⟩ (.slice (some ⟨G b, 0, none⟩) cols (U b))).heap[G i]? = w.heap[G i]? := fun i hi => by
    have := h.ne_l hi
    rw [Below.heap_setCell _ _ _ _ (by simpa using this), Below.heap_setCell _ _ _ _ (by simpa using this)]
  refine ⟨⟨_, (hr.set b _).set i0 _, fun i hi => ?_⟩, h.room, fun i hi => ?_, h.lo, h.hi, fun i hi => ?_, fun i hi => ?_, fun i j hi hj hne => ?_⟩
  · show (if i = i0 then _ else if i = b then _ else c i) = _
    unfold exch
    by_cases e1 : i = i0
    · subst e1
      rw [if_pos rfl]
      by_cases e2 : i = b
      · subst e2; rw [if_pos rfl, if_pos rfl]
      · rw [if_neg e2, if_neg e2, if_pos rfl, if_pos rfl]
    · rw [if_neg e1]
      by_cases e2 : i = b
      · rw [if_pos e2, if_pos e2, if_pos e2]
      · rw [if_neg e2, if_neg e2, if_neg e2, if_neg e1, if_neg e1]; exact hc i hi
  · have hx := exch_lt hb h0 hi
    rw [swp_exch, exch_id b i0 G, exch_id b i0 U, exch_id b i0 H]
    exact (h.row _ hx).of_block (hk _ hx)
  · rw [exch_id]; exact h.los _ (exch_lt hb h0 hi)
  · rw [exch_id]; exact h.his _ (exch_lt hb h0 hi)
  · rw [exch_id b i0 G i, exch_id b i0 G j]
    exact h.apart _ _ (exch_lt hb h0 hi) (exch_lt hb h0 hj) fun e => hne (exch_inj e)

/-- A list of ll slices that begins at lo: slice i lies at A i, has L i bytes, reads as H i. -/
structure Lst (w : World) (lo : Option Addr) (ll : Nat) (A : Nat → Option Addr) (C L : Nat → Nat) (H : M) : Prop where
  rd : ∀ i, i < ll → Rd w (A i) (L i) (H i)
  at_ : 0 < ll → ∃ b off, lo = some ⟨b, off, none⟩ ∧ ∀ i, i < ll → w.cell? ⟨b, off + i, none⟩ = some (.slice (A i) (L i) (C i))
theorem Lst.below {w w' : World} {lo : Option Addr} {ll : Nat} {A : Nat → Option Addr} {C L : Nat → Nat} {H : M} (h : Lst w lo ll A C L H) (hb : Below w.heap.size w w') : Lst w' lo ll A C L H := by
  refine ⟨fun i hi => (h.rd i hi).below hb, fun hp => ?_⟩
  obtain ⟨b, off, rfl, hc⟩ := h.at_ hp
  exact ⟨b, off, rfl, fun i hi => (hb.cell (World.block_lt_of_cell? w _ (hc i hi))).trans (hc i hi)⟩
/-- What was there ahead of the blocks that are written stays. -/
theorem Lst.past {w0 w w' : World} {B T : Nat} {lo : Option Addr} {ll : Nat} {A : Nat → Option Addr} {C L : Nat → Nat} {H : M} (h0 : Lst w0 lo ll A C L H) (h : Lst w lo ll A C L H) (hk : Keeps B T w w') (hB : w0.heap.size ≤ B) : Lst w' lo ll A C L H := by
  refine ⟨fun i hi => (h.rd i hi).keeps hk fun a hn ha => .inl (Nat.lt_of_lt_of_le ((h0.rd i hi).lt hn a ha) hB), fun hp => ?_⟩
  obtain ⟨b, off, rfl, hc⟩ := h.at_ hp
  obtain ⟨b', off', e, hc'⟩ := h0.at_ hp
  cases e
  exact ⟨b, off, rfl, fun i hi => hk.cell (hc i hi) (.inl (Nat.lt_of_lt_of_le (World.block_lt_of_cell? w0 _ (hc' i hi)) hB))⟩
theorem Lst.congr {w : World} {lo : Option Addr} {ll : Nat} {A : Nat → Option Addr} {C L : Nat → Nat} {H H' : M} (h : Lst w lo ll A C L H) (e : ∀ i j, i < ll → j < L i → H i j = H' i j) : Lst w lo ll A C L H' :=
  ⟨fun i hi => (h.rd i hi).congr fun j hj => e i j hi hj, h.at_⟩
theorem Mat.lst_ {w : World} {B T l cl rows cols : Nat} {G U : Nat → Nat} {H : M} (h : Mat w B T l cl rows cols G U H) : Lst w (some ⟨l, 0, none⟩) rows (fun i => some ⟨G i, 0, none⟩) U (fun _ => cols) H :=
  ⟨fun i hi => (h.row i hi).rd, fun _ => ⟨l, 0, rfl, fun i hi => by rw [Nat.zero_add]; exact h.cell_l hi⟩⟩

def lenB (b : Bool) (n : Nat) : Nat := if b then n else 0
def errB (b : Bool) (e : Int) : Int := if b then 0 else e
/-- What a call answers: nothing, or a matrix in new memory. -/
def Ans (w w' : World) (ao : Option Addr) (n cap cols : Nat) (H : M) : Prop :=
  (ao = none ∧ n = 0 ∧ cap = 0) ∨ ∃ l G U, ao = some ⟨l, 0, none⟩ ∧ Mat w' w.heap.size w'.heap.size l cap n cols G U H
def Made (w : World) (ok : Bool) (err : Int) (n cols : Nat) (H : M) (e : Ending) (w' : World) : Prop :=
  ∃ ao cap, e = .returned (.tuple #[.slice ao (lenB ok n) cap, .int .i64 (errB ok err)]) ∧ Ans w w' ao (lenB ok n) cap cols H ∧ Below w.heap.size w w'
theorem Ans.lst {w w' : World} {ao : Option Addr} {n cap cols : Nat} {H : M} (h : Ans w w' ao n cap cols H) : ∃ A C, Lst w' ao n A C (fun _ => cols) H := by
  rcases h with ⟨rfl, rfl, rfl⟩ | ⟨l, G, U, rfl, hm⟩
  · exact ⟨fun _ => none, fun _ => 0, fun i hi => absurd hi (Nat.not_lt_zero i), fun hp => absurd hp (Nat.lt_irrefl 0)⟩
  · exact ⟨_, _, hm.lst_⟩
end Go.Proofs.Ythkikocacbbhkaa
