/- Slices of bytes as the walks know them: what one reads as, what one that a call has made holds, and what stays where only one block is written. -/
import Derived.Test.YthkikocacbbhkaaGfR
import Derived.Below
import Derived.Deep.OwnRows
import Derived.Laws.CopyOwn
namespace Go.Proofs.Ythkikocacbbhkaa.Ker
open Go.RowKit

/-- A slice of n bytes that begins at ao reads as f 0, f 1, .. -/
def Rd (w : World) (ao : Option Addr) (n : Nat) (f : Nat → Nat) : Prop :=
  (∀ i, f i < 256) ∧ (0 < n → ∃ b off, ao = some ⟨b, off, none⟩ ∧ ∀ i, i < n → w.cell? ⟨b, off + i, none⟩ = some (.int .u8 (f i : Int)))
/-- Block g is a row of n bytes f 0, f 1, .. that may be written. -/
def Own (w : World) (g n : Nat) (f : Nat → Nat) : Prop := (∀ i, f i < 256) ∧ w.rowIs g 5 n (fun i => .int .u8 (f i : Int))
/-- The slice does not lie in block g. -/
def Off (ao : Option Addr) (g : Nat) : Prop := ∀ a, ao = some a → a.block ≠ g
/-- But for block g all that was there is as it was. -/
structure Only (g : Nat) (w w' : World) : Prop where
  os : w'.os = w.os
  tape : w'.tape = w.tape
  output : w'.output = w.output
  size : w.heap.size ≤ w'.heap.size
  block : ∀ k, k < w.heap.size → k ≠ g → w'.heap[k]? = w.heap[k]?

theorem Only.refl (g : Nat) (w : World) : Only g w w := ⟨rfl, rfl, rfl, Nat.le_refl _, fun _ _ _ => rfl⟩
theorem Only.trans {g : Nat} {a b c : World} (h : Only g a b) (k : Only g b c) : Only g a c :=
  ⟨k.os.trans h.os, k.tape.trans h.tape, k.output.trans h.output, Nat.le_trans h.size k.size, fun i hi hg => (k.block i (Nat.lt_of_lt_of_le hi h.size) hg).trans (h.block i hi hg)⟩
theorem Only.drew {g : Nat} {a w : World} (h : Only g a w) : Only g a w.drew := ⟨h.os, h.tape, h.output, h.size, h.block⟩
theorem Only.alloc {g : Nat} {a w : World} (h : Only g a w) (o : Obj) : Only g a (w.alloc o) :=
  h.trans ⟨rfl, rfl, rfl, by simp, fun k hk _ => Below.heap_alloc _ _ _ hk⟩
theorem Only.setCell {g : Nat} {a w : World} (h : Only g a w) (i : Nat) (u : Value) : Only g a (w.setCell ⟨g, i, none⟩ u) :=
  h.trans ⟨rfl, rfl, rfl, by simp [World.setCell], fun k _ hg => Below.heap_setCell _ _ _ _ (by simpa using hg)⟩
theorem Only.of_below {g : Nat} {w w' : World} (h : Below w.heap.size w w') : Only g w w' := ⟨h.os, h.tape, h.output, h.size, fun k hk _ => h.block k hk⟩
/-- What was made anew is written: all that was there ahead of it is as it was. -/
theorem Only.below {B g : Nat} {w w' : World} (h : Only g w w') (hB : B ≤ w.heap.size) (hg : B ≤ g) : Below B w w' :=
  ⟨h.os, h.tape, h.output, h.size, fun k hk => h.block k (by omega) (by omega)⟩
theorem Only.cell {g : Nat} {w w' : World} (h : Only g w w') {a : Addr} {v : Value} (hc : w.cell? a = some v) (ha : a.block ≠ g) : w'.cell? a = some v :=
  (World.cell?_of_block (h.block a.block (World.block_lt_of_cell? w a hc) ha)).trans hc

theorem below_step {B : Nat} {a b c : World} (h : Below B a b) (k : Below b.heap.size b c) (hB : B ≤ b.heap.size) : Below B a c := h.trans (k.mono hB)

theorem Rd.nil (w : World) (ao : Option Addr) (f : Nat → Nat) (hf : ∀ i, f i < 256) : Rd w ao 0 f := ⟨hf, fun h => absurd h (Nat.lt_irrefl 0)⟩
theorem Rd.only {g : Nat} {w w' : World} {ao : Option Addr} {n : Nat} {f : Nat → Nat} (h : Rd w ao n f) (ho : Only g w w') (hg : 0 < n → Off ao g) : Rd w' ao n f := by
  refine ⟨h.1, fun hn => ?_⟩
  obtain ⟨b, off, rfl, hc⟩ := h.2 hn
  exact ⟨b, off, rfl, fun i hi => ho.cell (hc i hi) (hg hn ⟨b, off, none⟩ rfl)⟩
theorem Rd.below {w w' : World} {ao : Option Addr} {n : Nat} {f : Nat → Nat} (h : Rd w ao n f) (ho : Below w.heap.size w w') : Rd w' ao n f := by
  refine ⟨h.1, fun hn => ?_⟩
  obtain ⟨b, off, rfl, hc⟩ := h.2 hn
  exact ⟨b, off, rfl, fun i hi => (ho.cell (World.block_lt_of_cell? w _ (hc i hi))).trans (hc i hi)⟩
theorem Rd.lt {w : World} {ao : Option Addr} {n : Nat} {f : Nat → Nat} (h : Rd w ao n f) (hn : 0 < n) : ∀ a, ao = some a → a.block < w.heap.size := by
  obtain ⟨b, off, rfl, hc⟩ := h.2 hn
  rintro a ⟨⟩
  exact World.block_lt_of_cell? w _ (hc 0 hn)
theorem Rd.off {w : World} {ao : Option Addr} {n g : Nat} {f : Nat → Nat} (h : Rd w ao n f) (hg : w.heap.size ≤ g) (hn : 0 < n) : Off ao g := fun a ha => by have := h.lt hn a ha; omega
theorem Rd.congr {w : World} {ao : Option Addr} {n : Nat} {f h : Nat → Nat} (r : Rd w ao n f) (hb : ∀ i, h i < 256) (e : ∀ i, i < n → f i = h i) : Rd w ao n h := by
  refine ⟨hb, fun hn => ?_⟩
  obtain ⟨b, off, rfl, hc⟩ := r.2 hn
  exact ⟨b, off, rfl, fun i hi => by rw [← e i hi]; exact hc i hi⟩

theorem Own.rd {w : World} {g n : Nat} {f : Nat → Nat} (h : Own w g n f) : Rd w (some ⟨g, 0, none⟩) n f :=
  ⟨h.1, fun _ => ⟨g, 0, rfl, fun i hi => by rw [Nat.zero_add]; exact h.2.cell hi⟩⟩
theorem Own.lt {w : World} {g n : Nat} {f : Nat → Nat} (h : Own w g n f) : g < w.heap.size := h.2.lt
theorem Own.below {w w' : World} {g n : Nat} {f : Nat → Nat} (h : Own w g n f) (ho : Below w.heap.size w w') : Own w' g n f := ⟨h.1, h.2.of_block (ho.block g h.lt)⟩
theorem Own.only {w w' : World} {g g' n : Nat} {f : Nat → Nat} (h : Own w g n f) (ho : Only g' w w') (hg : g ≠ g') : Own w' g n f := ⟨h.1, h.2.of_block (ho.block g h.lt hg)⟩
theorem Own.congr {w : World} {g n : Nat} {f h : Nat → Nat} (r : Own w g n f) (hb : ∀ i, h i < 256) (e : ∀ i, i < n → f i = h i) : Own w g n h :=
  ⟨hb, r.2.congr fun i hi => by rw [e i hi]⟩

/-- f up to k, h from there on. -/
def upto (k : Nat) (f h : Nat → Nat) (i : Nat) : Nat := if i < k then f i else h i
theorem upto_zero (f h : Nat → Nat) : upto 0 f h = h := by funext i; simp [upto]
theorem upto_at (k : Nat) (f h : Nat → Nat) : upto k f h k = h k := by simp [upto]
theorem upto_succ (k : Nat) (f h : Nat → Nat) (i : Nat) : upto (k + 1) f h i = if i = k then f k else upto k f h i := by
  unfold upto
  by_cases h1 : i = k
  · subst h1; simp
  · rw [if_neg h1]
    by_cases h2 : i < k
    · rw [if_pos (by omega), if_pos h2]
    · rw [if_neg (by omega), if_neg h2]
theorem upto_lt {k : Nat} {f h : Nat → Nat} (hf : ∀ i, f i < 256) (hh : ∀ i, h i < 256) (i : Nat) : upto k f h i < 256 := by unfold upto; split; exact hf i; exact hh i
theorem Own.store {w : World} {g n k : Nat} {f h : Nat → Nat} (hf : ∀ i, f i < 256) (r : Own w g n (upto k f h)) : Own (w.setCell ⟨g, k, none⟩ (.int .u8 (f k : Int))) g n (upto (k + 1) f h) := by
  refine ⟨fun i => ?_, (r.2.set k _).congr fun i hi => ?_⟩
  · rw [upto_succ]; split; exact hf k; exact r.1 i
  · rw [upto_succ]; split <;> rfl
theorem Own.all {w : World} {g n : Nat} {f h : Nat → Nat} (hf : ∀ i, f i < 256) (r : Own w g n (upto n f h)) : Own w g n f := r.congr hf fun i hi => by simp [upto, hi]

/-- a and c times b. -/
def plus (f : Nat → Nat) (c : Nat) (h : Nat → Nat) (i : Nat) : Nat := Gf.add (f i) (Gf.mul c (h i))
theorem plus_lt (f : Nat → Nat) (c : Nat) (h : Nat → Nat) (hf : ∀ i, f i < 256) (hc : c < 256) (i : Nat) : plus f c h i < 256 := Gf.add_lt _ _ (hf i) (Gf.mul_lt _ _ hc)

/-- The sum of the first k slices, each times its number. -/
def tot (F : Nat → Nat) (H : Nat → Nat → Nat) : Nat → Nat → Nat
  | 0 => fun _ => 0
  | k + 1 => plus (tot F H k) (F k) (H k)
theorem tot_lt (F : Nat → Nat) (H : Nat → Nat → Nat) (hF : ∀ i, F i < 256) (k i : Nat) : tot F H k i < 256 := by
  induction k generalizing i with
  | zero => show 0 < 256; decide
  | succ k ih => exact plus_lt _ _ _ ih (hF k) i
theorem exists_first {p : Nat → Prop} (j : Nat) (h : ¬ p j) : ∃ k, k ≤ j ∧ ¬ p k ∧ ∀ i, i < k → p i := by
  induction j using Nat.strongRecOn with
  | _ j ih =>
    by_cases g : ∀ i, i < j → p i
    · exact ⟨j, Nat.le_refl _, h, g⟩
    · obtain ⟨i, hi⟩ := Classical.not_forall.1 g
      obtain ⟨hij, hpi⟩ := Classical.not_imp.1 hi
      obtain ⟨k, hk, h1, h2⟩ := ih i hij hpi
      exact ⟨k, by omega, h1, h2⟩

end Go.Proofs.Ythkikocacbbhkaa.Ker
