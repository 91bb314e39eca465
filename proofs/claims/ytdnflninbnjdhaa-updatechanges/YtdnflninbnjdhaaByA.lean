/- Bytes in memory: as they are read, and as the call has them of its own; sets of blocks. -/
import Derived.Laws.AppendOwnNone
import Derived.Laws.OwnMore
import Derived.Deep.AppendLies
import Derived.Deep.OwnRows
import Derived.Laws.BytesArg
import Derived.Laws.CopyOwn
import Derived.Laws.IdiomStrings
import Derived.Laws.Rows
import Derived.Deep.RegionLawGrows
import Derived.Lib.SliceRun
import Derived.BigQuiet
import Derived.StillTailTactics
import Derived.Laws.BitsAllLaws
import Derived.WalkMore
import Derived.Lib.BufferWrite
import Derived.Deep.DeepMust
import Derived.Lib.AppendZeros
import Derived.Test.YtdnflninbnjdhaaLayK
namespace Go.Proofs.Ytdnflninbnjdhaa
open Go.RowKit
def lenE (e : Int) (n : Nat) : Nat := if e = 0 then n else 0
def put {α : Type} (i : Nat) (v : α) (R : Nat → α) : Nat → α := fun j => if j = i then v else R j
theorem put_at {α : Type} (i : Nat) (v : α) (R : Nat → α) : put i v R i = v := if_pos rfl
theorem put_ne {α : Type} {i j : Nat} (v : α) (R : Nat → α) (h : j ≠ i) : put i v R j = R j := if_neg h
theorem list_lt {α : Type} {l : List α} {n i : Nat} {x : α} (hl : l.length = n) (h : l[i]? = some x) : i < n := by
  rcases Nat.lt_or_ge i n with g | g
  · exact g
  · rw [List.getElem?_eq_none (by omega)] at h; cases h
def sz (N : Nat) (c : Int) : Nat := 12 + 4 * N + c.toNat
/-- Some bytes written over others. -/
def upR (G : Nat → UInt8) (o k : Nat) (H : Nat → UInt8) : Nat → UInt8 := fun j => if o ≤ j ∧ j < o + k then H (j - o) else G j
theorem upR_in {G : Nat → UInt8} {o k : Nat} {H : Nat → UInt8} {j : Nat} (h : o ≤ j ∧ j < o + k) : upR G o k H j = H (j - o) := if_pos h
theorem upR_out {G : Nat → UInt8} {o k : Nat} {H : Nat → UInt8} {j : Nat} (h : ¬ (o ≤ j ∧ j < o + k)) : upR G o k H j = G j := if_neg h
/-- n bytes at an address. -/
def RdU (w : World) (ao : Option Addr) (n : Nat) (F : Nat → UInt8) : Prop :=
  0 < n → ∃ b off, ao = some ⟨b, off, none⟩ ∧ ∀ j, j < n → w.cell? ⟨b, off + j, none⟩ = some (.int .u8 (((F j).toNat : Nat) : Int))
theorem RdU.below {w w' : World} {ao : Option Addr} {n : Nat} {F : Nat → UInt8} (h : RdU w ao n F) (ho : Below w.heap.size w w') : RdU w' ao n F := by
  intro hn
  obtain ⟨b, off, rfl, hc⟩ := h hn
  exact ⟨b, off, rfl, fun i hi => held (hc i hi) ho⟩
theorem RdU.congr {w : World} {ao : Option Addr} {n : Nat} {F G : Nat → UInt8} (h : RdU w ao n F) (e : ∀ i, i < n → F i = G i) : RdU w ao n G := by
  intro hn
  obtain ⟨b, off, rfl, hc⟩ := h hn
  exact ⟨b, off, rfl, fun i hi => by rw [← e i hi]; exact hc i hi⟩
/-- Bytes that are read, with what a slice always has. -/
structure Bec (w : World) (ao : Option Addr) (n cap : Nat) (F : Nat → UInt8) : Prop where
  rd : RdU w ao n F
  nil : ao = none → n = 0 ∧ cap = 0
  room : n ≤ cap
theorem Bec.below {w w' : World} {ao : Option Addr} {n cap : Nat} {F : Nat → UInt8} (h : Bec w ao n cap F) (ho : Below w.heap.size w w') : Bec w' ao n cap F := ⟨h.rd.below ho, h.nil, h.room⟩
theorem Bec.congr {w : World} {ao : Option Addr} {n cap : Nat} {F G : Nat → UInt8} (h : Bec w ao n cap F) (e : ∀ i, i < n → F i = G i) : Bec w ao n cap G := ⟨h.rd.congr e, h.nil, h.room⟩
theorem bec_nil (w : World) (F : Nat → UInt8) : Bec w none 0 0 F := ⟨fun h => absurd h (Nat.lt_irrefl 0), fun _ => ⟨rfl, rfl⟩, Nat.le_refl _⟩
def byF (n : Nat) (F : Nat → UInt8) : List Value := (List.range n).map fun i => .int .u8 (((F i).toNat : Nat) : Int)
theorem byF_length (k : Nat) (F : Nat → UInt8) : (byF k F).length = k := by simp [byF]
theorem byF_get (k : Nat) (F : Nat → UInt8) (i : Nat) (h : i < k) : (byF k F)[i]? = some (.int .u8 (((F i).toNat : Nat) : Int)) := by simp [byF, h]
theorem byF_congr {k : Nat} {F G : Nat → UInt8} (h : ∀ i, i < k → F i = G i) : byF k F = byF k G := by
  unfold byF
  apply List.map_congr_left
  intro i hi
  rw [h i (List.mem_range.1 hi)]
theorem byF_succ (k : Nat) (F : Nat → UInt8) : byF (k + 1) F = byF k F ++ [.int .u8 (((F k).toNat : Nat) : Int)] := by
  unfold byF; rw [List.range_succ, List.map_append, List.map_cons, List.map_nil]
theorem byF_add (k m : Nat) (F : Nat → UInt8) : byF (k + m) F = byF k F ++ byF m (fun i => F (k + i)) := by
  apply List.ext_getElem?
  intro i
  by_cases h : i < k
  · rw [List.getElem?_append_left (by rw [byF_length]; exact h), byF_get _ _ _ h, byF_get _ _ _ (by omega)]
  · rw [List.getElem?_append_right (by rw [byF_length]; omega), byF_length]
    by_cases h2 : i < k + m
    · rw [byF_get _ _ _ h2, byF_get _ _ _ (by omega), show k + (i - k) = i by omega]
    · rw [List.getElem?_eq_none (by rw [byF_length]; omega), List.getElem?_eq_none (by rw [byF_length]; omega)]
theorem byF_one (k : Nat) (F : Nat → UInt8) : ∀ v ∈ byF k F, v.oneCell' = true := by
  intro v hv
  simp only [byF, List.mem_map] at hv
  obtain ⟨i, _, rfl⟩ := hv
  rfl
theorem byF_set {n i : Nat} (F : Nat → UInt8) (u : UInt8) : (byF n F).set i (.int .u8 ((u.toNat : Nat) : Int)) = byF n (put i u F) := by
  apply List.ext_getElem?
  intro j
  rw [List.getElem?_set]
  by_cases hj : j < n
  · rw [byF_get n (put i u F) _ hj]
    by_cases e : i = j
    · subst e; rw [if_pos rfl, if_pos (by rw [byF_length]; exact hj), put_at]
    · rw [if_neg e, byF_get _ _ _ hj, put_ne _ _ (fun h => e h.symm)]
  · by_cases e : i = j
    · subst e; rw [if_pos rfl, if_neg (by rw [byF_length]; exact hj), List.getElem?_eq_none (by rw [byF_length]; omega)]
    · rw [if_neg e, List.getElem?_eq_none (by rw [byF_length]; omega), List.getElem?_eq_none (by rw [byF_length]; omega)]
theorem bec_news {w : World} {ad : Addr} {n cap : Nat} {F : Nat → UInt8} (h : Bec w (some ad) n cap F) : ∀ j u, (byF n F)[j]? = some u → w.cell? (ad.add j) = some u := by
  intro j u hu
  have hj : j < n := list_lt (byF_length n F) hu
  rw [byF_get _ _ _ hj] at hu
  obtain ⟨b, off, e, hc⟩ := h.rd (by omega)
  cases e
  rw [Addr.add_lit, hc j hj]; exact hu
/-- Bytes of the call's own (or none), from block B on. -/
def OwU (B : Nat) (w : World) (ao : Option Addr) (n cap : Nat) (F : Nat → UInt8) : Prop := w.ownsRow B 5 1 (.slice ao n cap) n (byF n F)
theorem owu_nil (B : Nat) (w : World) (F : Nat → UInt8) : OwU B w none 0 0 F := World.ownsRow_nil _ _ _ _
theorem OwU.congr {B : Nat} {w : World} {ao : Option Addr} {n cap : Nat} {F G : Nat → UInt8} (h : OwU B w ao n cap F) (e : ∀ i, i < n → F i = G i) : OwU B w ao n cap G := by
  unfold OwU at *; rw [← byF_congr e]; exact h
theorem OwU.bec {B : Nat} {w : World} {ao : Option Addr} {n cap : Nat} {F : Nat → UInt8} (h : OwU B w ao n cap F) : Bec w ao n cap F := by
  have h0 := h
  rcases h.2 with ⟨h1, h2⟩ | ⟨g, cap', cur, h1, _, _, h4, _⟩
  · cases h1; exact bec_nil _ _
  · cases h1
    refine ⟨fun hp => ⟨g, 0, rfl, fun i hi => ?_⟩, (fun e => by cases e), h4⟩
    have := World.ownsRow.cells h0 (g := g) rfl i _ (byF_get n F i hi)
    rwa [Addr.add_lit] at this
theorem OwU.at_ {B : Nat} {w : World} {ao : Option Addr} {n cap : Nat} {F : Nat → UInt8} (h : OwU B w ao n cap F) (hn : 0 < n) : ∃ g, ao = some ⟨g, 0, none⟩ ∧ B ≤ g ∧ g < w.heap.size := by
  obtain ⟨g, cap', e, h1, h2⟩ := World.ownsRow.form h hn
  cases e; exact ⟨g, rfl, h1, h2⟩
theorem OwU.stay {B : Nat} {w w' : World} {ao : Option Addr} {n cap : Nat} {F : Nat → UInt8} (h : OwU B w ao n cap F) (hb : ∀ g, B ≤ g → g < w.heap.size → w'.heap[g]? = w.heap[g]?) : OwU B w' ao n cap F := by
  refine ⟨h.1, ?_⟩
  rcases h.2 with h1 | ⟨g, cap', cur, h1, h2, h3, h4⟩
  · exact .inl h1
  · exact .inr ⟨g, cap', cur, h1, h2, by rw [hb g h2 (Array.getElem?_eq_some_iff.1 h3).1]; exact h3, h4⟩
theorem OwU.below {B : Nat} {w w' : World} {ao : Option Addr} {n cap : Nat} {F : Nat → UInt8} (h : OwU B w ao n cap F) (hb : Below w.heap.size w w') : OwU B w' ao n cap F := h.stay fun g _ hg => hb.block g hg
theorem OwU.mono {B B' : Nat} {w : World} {ao : Option Addr} {n cap : Nat} {F : Nat → UInt8} (h : OwU B w ao n cap F) (hb : B' ≤ B) : OwU B' w ao n cap F := by
  refine ⟨h.1, ?_⟩
  rcases h.2 with h1 | ⟨g, cap', cur, h1, h2, h3⟩
  · exact .inl h1
  · exact .inr ⟨g, cap', cur, h1, by omega, h3⟩
theorem OwU.set {B : Nat} {w : World} {g n cap : Nat} {F : Nat → UInt8} (h : OwU B w (some ⟨g, 0, none⟩) n cap F) (i : Nat) (u : UInt8) : OwU B (w.setCell ⟨g, i, none⟩ (.int .u8 ((u.toNat : Nat) : Int))) (some ⟨g, 0, none⟩) n cap (put i u F) := by
  unfold OwU at *; rw [← byF_set]; exact (World.ownsRow.stored h i _).1
theorem OwU.cell {B : Nat} {w : World} {g n cap : Nat} {F : Nat → UInt8} (h : OwU B w (some ⟨g, 0, none⟩) n cap F) {i : Nat} (hi : i < n) : w.cell? ⟨g, i, none⟩ = some (.int .u8 (((F i).toNat : Nat) : Int)) := by
  rw [World.ownsRow.cellAt h i (by omega), byF_get _ _ _ hi]
theorem OwU.free {B : Nat} {w : World} {g n cap : Nat} {F : Nat → UInt8} (h : OwU B w (some ⟨g, 0, none⟩) n cap F) (i : Nat) : w.frozen? ⟨g, i, none⟩ = false := World.ownsRow.frozenAt h i
theorem info5 : (Try.prog.info? 5).map (fun i => (i.zero, i.size, i.bytes)) = some (some (.int .u8 0), 1, 1) := by kernel_rfl
/-- A block of bytes, known whole. -/
def Bk (w : World) (g n : Nat) (G : Nat → UInt8) : Prop := w.heap[g]? = some (.cells (byF n G).toArray 5 (0, 0))
theorem Bk.lt {w : World} {g n : Nat} {G : Nat → UInt8} (h : Bk w g n G) : g < w.heap.size := (Array.getElem?_eq_some_iff.1 h).1
theorem Bk.cell {w : World} {g n : Nat} {G : Nat → UInt8} (h : Bk w g n G) {i : Nat} (hi : i < n) : w.cell? ⟨g, i, none⟩ = some (.int .u8 (((G i).toNat : Nat) : Int)) := by
  have := byF_get n G i hi
  unfold Bk at h
  simp [World.cell?, h, this]
theorem Bk.free {w : World} {g n : Nat} {G : Nat → UInt8} (h : Bk w g n G) (i : Nat) : w.frozen? ⟨g, i, none⟩ = false := by
  unfold Bk at h
  simp [World.frozen?, h]
theorem Bk.set {w : World} {g n : Nat} {G : Nat → UInt8} (h : Bk w g n G) (i : Nat) (u : UInt8) : Bk (w.setCell ⟨g, i, none⟩ (.int .u8 ((u.toNat : Nat) : Int))) g n (put i u G) := by
  unfold Bk at *
  rw [← byF_set]
  simp [World.setCell, Array.getElem?_modify, h]
theorem Bk.congr {w : World} {g n : Nat} {G H : Nat → UInt8} (h : Bk w g n G) (e : ∀ i, i < n → G i = H i) : Bk w g n H := by
  unfold Bk at *; rw [← byF_congr e]; exact h
theorem Bk.below {w w' : World} {g n : Nat} {G : Nat → UInt8} (h : Bk w g n G) (ho : Below w.heap.size w w') : Bk w' g n G := (ho.block g h.lt).trans h
theorem Bk.own {w : World} {B g n : Nat} {G : Nat → UInt8} (h : Bk w g n G) (hB : B ≤ g) (hn : n ≤ 1000) : OwU B w (some ⟨g, 0, none⟩) n n G := by
  refine ⟨by rw [byF_length, Nat.mul_one], .inr ⟨g, n, _, rfl, hB, h, Nat.le_refl _, by unfold maxLen; omega, by simp [byF_length], ?_⟩⟩
  rw [List.take_of_length_le (by rw [List.toList_toArray, byF_length]; omega)]
/-- The string of n bytes. -/
def lsF (n : Nat) (F : Nat → UInt8) : List UInt8 := (List.range n).map F
theorem lsF_length (n : Nat) (F : Nat → UInt8) : (lsF n F).length = n := by simp [lsF]
theorem lsF_get (n : Nat) (F : Nat → UInt8) (j : Nat) (h : j < (lsF n F).length) : (lsF n F)[j] = F j := by simp [lsF]
def sOf (c : List UInt8) : ByteArray := ⟨c.toArray⟩
theorem conv_any {w : World} {ao : Option Addr} {n cp : Nat} {F : Nat → UInt8} (h : Bec w ao n cp F) : (convert 24 9 (.slice ao n cp)).run Try.prog w = .ok (.string (sOf (lsF n F))) w := by
  by_cases hn : n = 0
  · subst hn
    cases ao with
    | none => exact run_convert_bytes_nil w 24 5 Try.underlying24 Try.underlying5 0 cp 9 Try.underlying9
    | some a => exact run_convert_bytes_back w 24 9 5 a cp [] Try.underlying24 Try.underlying5 Try.underlying9 (fun j hj => by simp at hj)
  · obtain ⟨b, off, rfl, hr⟩ := h.rd (by omega)
    have := run_convert_bytes_back (P := Try.prog) w 24 9 5 ⟨b, off, none⟩ cp (lsF n F) Try.underlying24 Try.underlying5 Try.underlying9 (fun j hj => by rw [Addr.add_lit, lsF_get]; exact hr j (by rw [lsF_length] at hj; exact hj))
    rw [lsF_length] at this
    exact this
theorem sOf_list (c : List UInt8) : (sOf c).toList = c := by rw [ByteArray.toList_eq]; rfl
theorem str_eq (X Y : List UInt8) : ((sOf X).toList == (sOf Y).toList) = decide (X = Y) := by
  rw [sOf_list, sOf_list]
  by_cases h : X = Y
  · subst h; simp
  · rw [decide_eq_false h]; simpa using h
theorem lsF_eq {n m : Nat} {F G : Nat → UInt8} : lsF n F = lsF m G ↔ n = m ∧ ∀ j, j < n → F j = G j := by
  constructor
  · intro h
    have hl := congrArg List.length h
    rw [lsF_length, lsF_length] at hl
    subst hl
    refine ⟨rfl, fun j hj => ?_⟩
    have h1 : (lsF n F)[j]? = (lsF n G)[j]? := by rw [h]
    simpa [lsF, hj] using h1
  · rintro ⟨rfl, h⟩
    unfold lsF
    apply List.map_congr_left
    intro i hi
    exact h i (List.mem_range.1 hi)
theorem Par.cell {k r c q : Int} {N W : Nat} {e : Int} (h : Par k r c q N W e) (he : e = 0) : 8 ≤ c ∧ c ≤ 64 := by
  rcases h with ⟨h, _, h0, _⟩ | ⟨_, _, h0, h1⟩
  · obtain ⟨h1, h2, h3, h4, h5, h6, h7, h8, h9⟩ := may_true h
    exact ⟨h5, h6⟩
  · omega
theorem Par.err {k r c q : Int} {N W : Nat} {e : Int} (h : Par k r c q N W e) : e = 0 ∨ e = 2 := by rcases h with ⟨_, _, _, h⟩ | ⟨_, _, _, h⟩; exact .inl h; exact .inr h
/-- All blocks but those of X are as they were. -/
structure Only (X : Nat → Prop) (w w' : World) : Prop where
  os : w'.os = w.os
  tape : w'.tape = w.tape
  output : w'.output = w.output
  size : w.heap.size ≤ w'.heap.size
  block : ∀ b, b < w.heap.size → ¬ X b → w'.heap[b]? = w.heap[b]?
theorem Only.refl (X : Nat → Prop) (w : World) : Only X w w := ⟨rfl, rfl, rfl, Nat.le_refl _, fun _ _ _ => rfl⟩
theorem Only.trans {X : Nat → Prop} {a b c : World} (h : Only X a b) (k : Only X b c) : Only X a c :=
  ⟨k.os.trans h.os, k.tape.trans h.tape, k.output.trans h.output, Nat.le_trans h.size k.size, fun i hi hx => (k.block i (Nat.lt_of_lt_of_le hi h.size) hx).trans (h.block i hi hx)⟩
theorem Only.mono {X Y : Nat → Prop} {a b : World} (h : Only X a b) (k : ∀ i, i < a.heap.size → X i → Y i) : Only Y a b := ⟨h.os, h.tape, h.output, h.size, fun i hi hy => h.block i hi fun hx => hy (k i hi hx)⟩
theorem Only.of_below {X : Nat → Prop} {a b : World} (h : Below a.heap.size a b) : Only X a b := ⟨h.os, h.tape, h.output, h.size, fun i hi _ => h.block i hi⟩
theorem Only.below {X : Nat → Prop} {B : Nat} {a b : World} (h : Only X a b) (k : ∀ i, X i → B ≤ i) (hB : B ≤ a.heap.size) : Below B a b := ⟨h.os, h.tape, h.output, h.size, fun i hi => h.block i (by omega) fun hx => by have := k i hx; omega⟩
theorem Only.setCell {X : Nat → Prop} {a b : World} (h : Only X a b) {p : Addr} (hp : X p.block) (v : Value) : Only X a (b.setCell p v) :=
  h.trans ⟨rfl, rfl, rfl, by simp [World.setCell], fun i _ hx => Below.heap_setCell _ _ _ _ (fun e => hx (e ▸ hp))⟩
theorem Only.alloc {X : Nat → Prop} {a b : World} (h : Only X a b) (o : Obj) : Only X a (b.alloc o) := h.trans (.of_below (below_alloc _ _))
theorem Only.drew {X : Nat → Prop} {a b : World} (h : Only X a b) : Only X a b.drew := h.trans (.of_below (below_drew _ _))
theorem Only.then {X : Nat → Prop} {a b c : World} (h : Only X a b) (k : Below b.heap.size b c) : Only X a c := h.trans (.of_below k)
theorem Only.cell {X : Nat → Prop} {a b : World} (h : Only X a b) {p : Addr} {v : Value} (hc : a.cell? p = some v) (hp : ¬ X p.block) : b.cell? p = some v :=
  (World.cell?_of_block (h.block p.block (World.block_lt_of_cell? a _ hc) hp)).trans hc
theorem Only.step {X Y : Nat → Prop} {a b c : World} (h : Only X a b) (k : Only Y b c) (hx : ∀ i, i < a.heap.size → Y i → X i) : Only X a c :=
  ⟨k.os.trans h.os, k.tape.trans h.tape, k.output.trans h.output, Nat.le_trans h.size k.size, fun i hi hn => (k.block i (Nat.lt_of_lt_of_le hi h.size) fun hy => hn (hx i hi hy)).trans (h.block i hi hn)⟩
theorem byF_splice {n o k : Nat} (G H : Nat → UInt8) (h : o + k ≤ n) : (byF n G).take o ++ (byF k H ++ (byF n G).drop (o + k)) = byF n (upR G o k H) := by
  have e1 : ((byF n G).take o).length = o := by rw [List.length_take, byF_length]; omega
  apply List.ext_getElem?
  intro j
  by_cases h1 : j < o
  · rw [List.getElem?_append_left (by omega), List.getElem?_take_of_lt h1, byF_get _ _ _ (by omega), byF_get _ _ _ (by omega), upR_out (by omega)]
  · rw [List.getElem?_append_right (by omega), e1]
    by_cases h2 : j < o + k
    · rw [List.getElem?_append_left (by rw [byF_length]; omega), byF_get _ _ _ (by omega), byF_get _ _ _ (by omega), upR_in (by omega)]
    · rw [List.getElem?_append_right (by rw [byF_length]; omega), byF_length, List.getElem?_drop, show o + k + (j - o - k) = j by omega]
      by_cases h3 : j < n
      · rw [byF_get _ _ _ h3, byF_get _ _ _ h3, upR_out (by omega)]
      · rw [List.getElem?_eq_none (by rw [byF_length]; omega), List.getElem?_eq_none (by rw [byF_length]; omega)]
theorem only_setRow (w : World) (g : Nat) (cs : Array Value) : Only (fun b => b = g) w (w.setRow g cs) := ⟨rfl, rfl, rfl, by simp [World.setRow], fun k _ hk => setRow_other w g k cs hk⟩
theorem run_copy_bk {w : World} {g n off k dC : Nat} {G H : Nat → UInt8} {bo : Option Addr} {cb : Nat} (h0 : 0 < k) (hg : Bk w g n G) (hb : Bec w bo k cb H) (hfit : off + k ≤ n) :
    ∃ w', (Builtin.copy_ #[24, 24] 3 #[.slice (some ⟨g, off, none⟩) k dC, .slice bo k cb]).run Try.prog w = .ok (goInt k) w' ∧ Bk w' g n (upR G off k H) ∧ Only (fun b => b = g) w w' := by
  obtain ⟨b, bof, rfl, hc⟩ := hb.rd h0
  have hl : (byF k H).length = Nat.min k k := by rw [byF_length]; exact (Nat.min_self k).symm
  have hrun := run_copy_row (P := Try.prog) w 24 24 3 5 g off k dC ⟨b, bof, none⟩ k cb (byF n G).toArray 5 (byF k H) Try.underlying24 (by kernel_rfl) hg hl (bec_news hb) (by simp [byF_length]; exact hfit) (byF_one k H)
  rw [byF_length] at hrun
  refine ⟨_, hrun, ?_, only_setRow _ _ _⟩
  unfold Bk
  rw [← byF_splice G H hfit]
  have := setRow_heap w g _ ((byF n G).take off ++ (byF k H ++ (byF n G).drop (off + k))).toArray 5 _ hg
  simpa using this
theorem Bec.only {X : Nat → Prop} {w w' : World} {ao : Option Addr} {n cap : Nat} {F : Nat → UInt8} (h : Bec w ao n cap F) (ho : Only X w w') (hx : ∀ a, ao = some a → ¬ X a.block) : Bec w' ao n cap F :=
  ⟨fun hn => by obtain ⟨b, off, rfl, hc⟩ := h.rd hn; exact ⟨b, off, rfl, fun i hi => ho.cell (hc i hi) (hx ⟨b, off, none⟩ rfl)⟩, h.nil, h.room⟩
/-- Bytes and an error. -/
def AnsB (w : World) (E : Int) (n : Nat) (F : Nat → UInt8) (e : Ending) (w' : World) : Prop :=
  ∃ ao cap, e = .returned (.tuple #[.slice ao (lenE E n) cap, .int .i64 E]) ∧ OwU w.heap.size w' ao (lenE E n) cap F ∧ Below w.heap.size w w'
/-- A block that was made. -/
def At (a v : World) (g : Nat) (cs : Array Value) (t : TypeId) : Prop := a.heap.size ≤ g ∧ v.heap[g]? = some (.cells cs t (0, 0))
theorem At.alloc {a v : World} {g : Nat} {cs : Array Value} {t : TypeId} (h : At a v g cs t) (o : Obj) : At a (v.alloc o) g cs t :=
  ⟨h.1, (Below.heap_alloc v o g (Array.getElem?_eq_some_iff.1 h.2).1).trans h.2⟩
theorem At.cell {a v : World} {g : Nat} {cs : Array Value} {t : TypeId} (h : At a v g cs t) {i : Nat} {u : Value} (hi : cs[i]? = some u) : v.cell? ⟨g, i, none⟩ = some u := by
  rw [cell_of_row _ _ _ _ _ _ h.2]; exact hi
theorem At.free {a v : World} {g : Nat} {cs : Array Value} {t : TypeId} (h : At a v g cs t) (i : Nat) : v.frozen? ⟨g, i, none⟩ = false := by
  unfold World.frozen?; rw [h.2]; simp
theorem At.set {a v : World} {g : Nat} {cs : Array Value} {t : TypeId} (h : At a v g cs t) (i : Nat) (u : Value) : At a (v.setCell ⟨g, i, none⟩ u) g (cs.setIfInBounds i u) t := by
  refine ⟨h.1, ?_⟩
  simp [World.setCell, Array.getElem?_modify, h.2]
theorem At.drew {a v : World} {g : Nat} {cs : Array Value} {t : TypeId} (h : At a v g cs t) : At a v.drew g cs t := h
theorem owns_at {w : World} {B e sz n cap : Nat} {ao : Option Addr} {xs : List Value} (h : w.ownsRow B e sz (.slice ao n cap) n xs) {a : Addr} (ha : ao = some a) : B ≤ a.block ∧ a.block < w.heap.size ∧ ∃ cur, w.heap[a.block]? = some (.cells cur e (0, 0)) := by
  rcases h.2 with ⟨h1, _⟩ | ⟨g, cap', cur, h1, h2, h3, _⟩
  · cases h1; cases ha
  · cases h1; cases ha; exact ⟨h2, (Array.getElem?_eq_some_iff.1 h3).1, cur, h3⟩
theorem owns_blocks {w w' : World} {B e sz n cap : Nat} {ao : Option Addr} {xs : List Value} (h : w.ownsRow B e sz (.slice ao n cap) n xs) (hb : ∀ a : Addr, ao = some a → w'.heap[a.block]? = w.heap[a.block]?) : w'.ownsRow B e sz (.slice ao n cap) n xs := by
  refine ⟨h.1, ?_⟩
  rcases h.2 with h1 | ⟨g, cap', cur, h1, h2, h3, h4⟩
  · exact .inl h1
  · cases h1; exact .inr ⟨g, cap, cur, rfl, h2, (hb ⟨g, 0, none⟩ rfl).trans h3, h4⟩
theorem owns_below {w w' : World} {B e sz n cap : Nat} {ao : Option Addr} {xs : List Value} (h : w.ownsRow B e sz (.slice ao n cap) n xs) (hb : Below w.heap.size w w') : w'.ownsRow B e sz (.slice ao n cap) n xs :=
  owns_blocks h fun _ ha => hb.block _ (owns_at h ha).2.1
/-- Bytes appended to bytes of the call's own. -/
theorem wpList_append_bytes {w : World} {ops : Array Oper} {rest : List Oper} {o : Oper} {a : Act} {Q : Exit → Act → World → Prop} (hgd : o.guard = none) (s x : Operand)
    (ho : o.op = .call { callee := .builtin .append, args := #[s, x], argTypes := #[24, 24] }) (B k n ca cb : Nat) (ao bo : Option Addr) (xs : List Value) (F : Nat → UInt8)
    (hs : a.eval s = .slice ao k ca) (hx : a.eval x = .slice bo n cb) (h : w.ownsRow B 5 1 (.slice ao k ca) k xs) (hv : Bec w bo n cb F) (hk : k ≤ 100000) (hn : n ≤ 100000) (hB : B ≤ w.heap.size)
    (cont : ∀ ao' c' w', w'.ownsRow B 5 1 (.slice ao' (k + n) c') (k + n) (xs ++ byF n F) → w.grownBy w' (Value.slice ao k ca).ownBlock → wpList Try.prog ops Q rest (a.put o.dst (.slice ao' (k + n) c')) w') : wpList Try.prog ops Q (o :: rest) a w := by
  obtain ⟨j0, hj, hj0, hj1, hj2⟩ := info_parts info5
  cases bo with
  | none =>
    obtain ⟨rfl, rfl⟩ := hv.nil rfl
    have := cont ao ca w (by rw [show byF 0 F = [] from rfl, List.append_nil]; exact h) ⟨rfl, rfl, rfl, Nat.le_refl _, fun _ _ _ => rfl⟩
    exact wpList_append_own_none hgd s x 24 ho B 5 j0 1 Try.underlying24 hj (.slice ao k ca) k xs hs h hx this
  | some ad =>
    refine wpList_append_own w hgd s x 24 ho B 5 j0 (.int .u8 0) 1 1 Try.underlying24 hj hj0 hj1 hj2 rfl (by decide) (.slice ao k ca) k xs hs h ad n cb (byF n F) hx (by rw [byF_length, Nat.mul_one]) (bec_news hv) (byF_one _ _) (by unfold maxLen; omega) (by omega) hB ?_
    intro v' w' h1 h2 _
    obtain ⟨ao', c', rfl⟩ : ∃ ao' c', v' = .slice ao' (k + n) c' := by
      rcases h1.2 with ⟨rfl, e⟩ | ⟨g, cap, cur, rfl, _⟩
      · rw [e]; exact ⟨none, 0, rfl⟩
      · exact ⟨_, cap, rfl⟩
    exact cont ao' c' w' h1 h2
theorem owns_mono {B B' : Nat} {w : World} {e s n : Nat} {v : Value} {xs : List Value} (h : w.ownsRow B e s v n xs) (hb : B' ≤ B) : w.ownsRow B' e s v n xs := by
  refine ⟨h.1, ?_⟩
  rcases h.2 with h1 | ⟨g, cap', cur, h1, h2, h3⟩
  · exact .inl h1
  · exact .inr ⟨g, cap', cur, h1, by omega, h3⟩
theorem wrapI {x : Int} (h : -9223372036854775808 ≤ x ∧ x ≤ 9223372036854775807) : IntKind.i64.wrap x = x := by rw [IntKind.wrap_i64]; omega
theorem val_mul {i m p : Nat} (h : p = i * m) (hp : p ≤ 100000) : Value.int .i64 (wrap64 ((i : Int) * (m : Int))) = .int .i64 (p : Int) ∧ Value.int .i64 (IntKind.i64.wrap ((i : Int) * (m : Int))) = .int .i64 (p : Int) := by
  rw [← Int.natCast_mul, ← h, w64 _ ⟨by omega, by omega⟩, wrapI ⟨by omega, by omega⟩]
  exact ⟨rfl, rfl⟩
theorem val_mul2 {i m p : Nat} (h : p + m = (i + 1) * m) (hp : p + m ≤ 100000) : Value.int .i64 (wrap64 (((i : Int) + 1) * (m : Int))) = .int .i64 ((p + m : Nat) : Int) ∧ Value.int .i64 (IntKind.i64.wrap (((i : Int) + 1) * (m : Int))) = .int .i64 ((p + m : Nat) : Int) := by
  have e : (i : Int) + 1 = ((i + 1 : Nat) : Int) := by omega
  rw [e, ← Int.natCast_mul, ← h, w64 _ ⟨by omega, by omega⟩, wrapI ⟨by omega, by omega⟩]
  exact ⟨rfl, rfl⟩
theorem bec_cut {w : World} {b off n cap : Nat} {D : Nat → UInt8} (h : Bec w (some ⟨b, off, none⟩) n cap D) {p m : Nat} (hp : p + m ≤ n) (hn : 0 < n) : Bec w (some ⟨b, off + p, none⟩) m m (fun j => D (p + j)) := by
  refine ⟨fun hm => ⟨b, off + p, rfl, fun j hj => ?_⟩, (fun e => by cases e), Nat.le_refl _⟩
  obtain ⟨b', off', e, hc⟩ := h.rd hn
  cases e
  have := hc (p + j) (by omega)
  rw [Nat.add_assoc]; exact this
theorem sOf_size (l : List UInt8) : (sOf l).size = l.length := by simp [sOf, ByteArray.size]
/-- Bytes of a string, in new memory. -/
theorem conv_new (v : World) (n : Nat) (F : Nat → UInt8) : ∃ v' cc, (convert 9 24 (.string (sOf (lsF n F)))).run Try.prog v = .ok (.slice (some ⟨v.heap.size, 0, none⟩) n cc) v' ∧ Bec v' (some ⟨v.heap.size, 0, none⟩) n cc F ∧ Below v.heap.size v v' ∧ v.heap.size < v'.heap.size := by
  have hrun := run_bytes_of_string (P := Try.prog) v 9 24 5 (sOf (lsF n F)) Try.underlying9 Try.underlying24 Try.underlying5
  rw [sOf_size, lsF_length] at hrun
  refine ⟨_, _, hrun, ⟨fun hn => ⟨v.heap.size, 0, rfl, fun j hj => ?_⟩, (fun e => by cases e), grownCap_ge _ _ _ _⟩, below_then (below_drew _ _) (below_alloc v.drew _), by simp⟩
  have hj2 : j < (sOf (lsF n F)).data.size := by simp [sOf, lsF_length]; exact hj
  have hc := cell_of_row (v.drew.alloc (.cells (bytesRow (sOf (lsF n F)) (grownCap v n 0 5)) 5 ((bytesRow (sOf (lsF n F)) (grownCap v n 0 5)).size, (bytesRow (sOf (lsF n F)) (grownCap v n 0 5)).size + 1))) v.heap.size (0 + j) _ 5 _ (heap_alloc_new v.drew _)
  rw [hc, Nat.zero_add, bytesRow_at _ _ _ hj2]
  have : (sOf (lsF n F)).data[j] = F j := by simp [sOf, lsF]
  rw [this]
end Go.Proofs.Ytdnflninbnjdhaa
