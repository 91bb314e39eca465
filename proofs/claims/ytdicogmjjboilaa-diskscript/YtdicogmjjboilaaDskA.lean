/- A disk in memory: bytes, lists of slots, the disk's own block; what stays when other blocks turn. -/
import Derived.Test.YtdicogmjjboilaaLayB
import Derived.Test.YtdicogmjjboilaaDskMath
import Derived.Laws.AppendOwnNone
import Derived.Laws.OwnMore
import Derived.Laws.BytesArg
import Derived.Laws.IdiomStrings
import Derived.Laws.Rows
import Derived.Deep.AppendLies
import Derived.Deep.OwnRows
import Derived.Lib.SliceRun
namespace Go.Proofs.Ytdicogmjjboilaa
open Go.RowKit

/-- All blocks but those of X are as they were. -/
structure Only (X : Nat → Prop) (w w' : World) : Prop where
  os : w'.os = w.os
  tape : w'.tape = w.tape
  output : w'.output = w.output
  size : w.heap.size ≤ w'.heap.size
  block : ∀ b, b < w.heap.size → ¬ X b → w'.heap[b]? = w.heap[b]?
theorem Only.refl (X : Nat → Prop) (w : World) : Only X w w := ⟨rfl, rfl, rfl, Nat.le_refl _, fun _ _ _ => rfl⟩
theorem Only.trans {X : Nat → Prop} {a b c : World} (h : Only X a b) (k : Only X b c) : Only X a c :=
  ⟨k.os.trans h.os, k.tape.trans h.tape, k.output.trans h.output, Nat.le_trans h.size k.size, fun i hi hx => (k.block i (Nat.lt_of_lt_of_le hi h.size) hx).trans (h.block i hi hx)⟩
theorem Only.mono {X Y : Nat → Prop} {a b : World} (h : Only X a b) (k : ∀ i, i < a.heap.size → X i → Y i) : Only Y a b := ⟨h.os, h.tape, h.output, h.size, fun i hi hy => h.block i hi fun hx => hy (k i hi hx)⟩
theorem Only.of_below {X : Nat → Prop} {a b : World} (h : Below a.heap.size a b) : Only X a b := ⟨h.os, h.tape, h.output, h.size, fun i hi _ => h.block i hi⟩
theorem Only.below {X : Nat → Prop} {B : Nat} {a b : World} (h : Only X a b) (k : ∀ i, X i → B ≤ i) (hB : B ≤ a.heap.size) : Below B a b := ⟨h.os, h.tape, h.output, h.size, fun i hi => h.block i (by omega) fun hx => by have := k i hx; omega⟩
theorem Only.setCell {X : Nat → Prop} {a b : World} (h : Only X a b) {p : Addr} (hp : X p.block) (v : Value) : Only X a (b.setCell p v) :=
  h.trans ⟨rfl, rfl, rfl, by simp [World.setCell], fun i _ hx => Below.heap_setCell _ _ _ _ (fun e => hx (e ▸ hp))⟩
theorem Only.alloc {X : Nat → Prop} {a b : World} (h : Only X a b) (o : Obj) : Only X a (b.alloc o) := h.trans (.of_below (below_alloc _ _))
theorem Only.drew {X : Nat → Prop} {a b : World} (h : Only X a b) : Only X a b.drew := h.trans (.of_below (below_drew _ _))
theorem Only.then {X : Nat → Prop} {a b c : World} (h : Only X a b) (k : Below b.heap.size b c) : Only X a c := h.trans (.of_below k)
theorem Only.cell {X : Nat → Prop} {a b : World} (h : Only X a b) {p : Addr} {v : Value} (hc : a.cell? p = some v) (hp : ¬ X p.block) : b.cell? p = some v :=
  (World.cell?_of_block (h.block p.block (World.block_lt_of_cell? a _ hc) hp)).trans hc

/-- Bytes that are read at an address. -/
def RdB (w : World) (ao : Option Addr) (c : List UInt8) : Prop :=
  c ≠ [] → ∃ b off, ao = some ⟨b, off, none⟩ ∧ ∀ j (hj : j < c.length), w.cell? ⟨b, off + j, none⟩ = some (.int .u8 ((c[j].toNat : Nat) : Int))
theorem rdb_nil (w : World) (ao : Option Addr) : RdB w ao [] := fun h => absurd rfl h
theorem RdB.only {X : Nat → Prop} {w w' : World} {ao : Option Addr} {c : List UInt8} (h : RdB w ao c) (ho : Only X w w') (hx : ∀ a, ao = some a → ¬ X a.block) : RdB w' ao c := by
  intro hc
  obtain ⟨b, off, rfl, hr⟩ := h hc
  exact ⟨b, off, rfl, fun j hj => ho.cell (hr j hj) (hx ⟨b, off, none⟩ rfl)⟩
theorem RdB.only2 {X : Nat → Prop} {w w' : World} {ao : Option Addr} {c : List UInt8} (h : RdB w ao c) (ho : Only X w w') (hx : c ≠ [] → ∀ a, ao = some a → ¬ X a.block) : RdB w' ao c := by
  intro hc
  obtain ⟨b, off, rfl, hr⟩ := h hc
  exact ⟨b, off, rfl, fun j hj => ho.cell (hr j hj) (hx hc ⟨b, off, none⟩ rfl)⟩
theorem RdB.below {w w' : World} {ao : Option Addr} {c : List UInt8} (h : RdB w ao c) (ho : Below w.heap.size w w') : RdB w' ao c := h.only (X := fun _ => False) (.of_below ho) (fun _ _ h => h)
theorem RdB.lt {w : World} {ao : Option Addr} {c : List UInt8} (h : RdB w ao c) (hc : c ≠ []) {a : Addr} (ha : ao = some a) : a.block < w.heap.size := by
  obtain ⟨b, off, e, hr⟩ := h hc
  subst ha
  cases e
  exact World.block_lt_of_cell? w _ (hr 0 (List.length_pos_iff.2 hc))
def bys (c : List UInt8) : List Value := c.map fun b => .int .u8 (b.toNat : Int)
theorem bys_length (c : List UInt8) : (bys c).length = c.length := by simp [bys]
theorem bys_get (c : List UInt8) (j : Nat) (h : j < c.length) : (bys c)[j]? = some (.int .u8 (c[j].toNat : Int)) := by simp [bys, h]
theorem bys_one (c : List UInt8) : ∀ u ∈ bys c, u.oneCell' = true := by
  intro u hu
  simp only [bys, List.mem_map] at hu
  obtain ⟨b, _, rfl⟩ := hu
  rfl
theorem rdb_news {w : World} {ad : Addr} {c : List UInt8} (h : RdB w (some ad) c) : ∀ j u, (bys c)[j]? = some u → w.cell? (ad.add j) = some u := by
  intro j u hu
  have hj : j < c.length := by
    rcases Nat.lt_or_ge j c.length with g | g
    · exact g
    · rw [List.getElem?_eq_none (by rw [bys_length]; exact g)] at hu; cases hu
  obtain ⟨b, off, e, hr⟩ := h (fun e => by rw [e] at hj; simp at hj)
  cases e
  rw [bys_get _ _ hj] at hu
  rw [Addr.add_lit, hr j hj]; exact hu
def sOf (c : List UInt8) : ByteArray := ⟨c.toArray⟩
theorem conv_any {w : World} {ao : Option Addr} {c : List UInt8} (h : RdB w ao c) (n cp : Nat) (hn : n = c.length) : (convert 43 9 (.slice ao n cp)).run Try.prog w = .ok (.string (sOf c)) w := by
  subst hn
  by_cases hc : c = []
  · subst hc
    cases ao with
    | none => exact run_convert_bytes_nil w 43 5 Try.underlying43 Try.underlying5 0 cp 9 Try.underlying9
    | some a => exact run_convert_bytes_back w 43 9 5 a cp [] Try.underlying43 Try.underlying5 Try.underlying9 (fun j hj => by simp at hj)
  · obtain ⟨b, off, rfl, hr⟩ := h hc
    exact run_convert_bytes_back w 43 9 5 _ cp c Try.underlying43 Try.underlying5 Try.underlying9 (fun j hj => by rw [Addr.add_lit]; exact hr j hj)
theorem sOf_list (c : List UInt8) : (sOf c).toList = c := by rw [ByteArray.toList_eq]; rfl
/-- A list of n slots, block l, slot i reads as F i; the slots' blocks are of Y and none is l. -/
structure Slots (w : World) (Y : Nat → Prop) (l n : Nat) (A : Nat → Option Addr) (C : Nat → Nat) (F : Nat → List UInt8) : Prop where
  row : w.rowIs l 43 n (fun i => .slice (A i) (F i).length (C i))
  rd : ∀ i, i < n → RdB w (A i) (F i)
  at_ : ∀ i a, i < n → A i = some a → Y a.block ∧ a.block ≠ l
  nil : ∀ i, i < n → A i = none → F i = [] ∧ C i = 0
  own : Y l
theorem Slots.only {X Y : Nat → Prop} {w w' : World} {l n : Nat} {A : Nat → Option Addr} {C : Nat → Nat} {F : Nat → List UInt8} (h : Slots w Y l n A C F) (ho : Only X w w') (hx : ∀ b, Y b → ¬ X b) : Slots w' Y l n A C F :=
  ⟨h.row.of_block (ho.block l h.row.lt (hx _ h.own)), fun i hi => (h.rd i hi).only ho (fun a ha => hx _ (h.at_ i a hi ha).1), h.at_, h.nil, h.own⟩
theorem Slots.mono {Y Z : Nat → Prop} {w : World} {l n : Nat} {A : Nat → Option Addr} {C : Nat → Nat} {F : Nat → List UInt8} (h : Slots w Y l n A C F) (hx : ∀ b, Y b → Z b) : Slots w Z l n A C F :=
  ⟨h.row, h.rd, fun i a hi ha => ⟨hx _ (h.at_ i a hi ha).1, (h.at_ i a hi ha).2⟩, h.nil, hx _ h.own⟩
theorem Slots.congr {Y : Nat → Prop} {w : World} {l n : Nat} {A : Nat → Option Addr} {C : Nat → Nat} {F G : Nat → List UInt8} (h : Slots w Y l n A C F) (e : ∀ i, i < n → F i = G i) : Slots w Y l n A C G :=
  ⟨h.row.congr fun i hi => by rw [e i hi], fun i hi => by rw [← e i hi]; exact h.rd i hi, h.at_, fun i hi => by rw [← e i hi]; exact h.nil i hi, h.own⟩
/-- One slot written. -/
theorem Slots.put {Y : Nat → Prop} {w : World} {l n : Nat} {A : Nat → Option Addr} {C : Nat → Nat} {F : Nat → List UInt8} (h : Slots w Y l n A C F) (i : Nat) (ao : Option Addr) (c : Nat) (x : List UInt8) (hr : RdB w ao x) (hy : ∀ a, ao = some a → Y a.block ∧ a.block ≠ l) (hn : ao = none → x = [] ∧ c = 0) :
    Slots (w.setCell ⟨l, i, none⟩ (.slice ao x.length c)) Y l n (upd i ao A) (upd i c C) (upd i x F) := by
  have ho : Only (fun b => b = l) w (w.setCell ⟨l, i, none⟩ (.slice ao x.length c)) := Only.setCell (X := fun b => b = l) (p := ⟨l, i, none⟩) (Only.refl _ _) rfl _
  refine ⟨(h.row.set i _).congr fun j hj => ?_, fun j hj => ?_, fun j a hj ha => ?_, fun j hj ha => ?_, h.own⟩
  · by_cases e : j = i
    · subst e; rw [if_pos rfl, upd_at, upd_at, upd_at]
    · rw [if_neg e, upd_ne _ _ e, upd_ne _ _ e, upd_ne _ _ e]
  · by_cases e : j = i
    · subst e; rw [upd_at, upd_at]; exact hr.only ho (fun a ha => (hy a ha).2)
    · rw [upd_ne _ _ e, upd_ne _ _ e]; exact (h.rd j hj).only ho (fun a ha => (h.at_ j a hj ha).2)
  · by_cases e : j = i
    · subst e; rw [upd_at] at ha; exact hy a ha
    · rw [upd_ne _ _ e] at ha; exact h.at_ j a hj ha
  · by_cases e : j = i
    · subst e; rw [upd_at] at ha; rw [upd_at, upd_at]; exact hn ha
    · rw [upd_ne _ _ e] at ha; rw [upd_ne _ _ e, upd_ne _ _ e]; exact h.nil j hj ha
/-- A list of slots that came in, or is only read. -/
structure Lst (w : World) (lo : Option Addr) (n : Nat) (A : Nat → Option Addr) (C : Nat → Nat) (F : Nat → List UInt8) : Prop where
  at_ : 0 < n → ∃ b off, lo = some ⟨b, off, none⟩ ∧ ∀ i, i < n → w.cell? ⟨b, off + i, none⟩ = some (.slice (A i) (F i).length (C i))
  rd : ∀ i, i < n → RdB w (A i) (F i)
  nil : ∀ i, i < n → A i = none → F i = [] ∧ C i = 0
theorem Lst.below {w w' : World} {lo : Option Addr} {n : Nat} {A : Nat → Option Addr} {C : Nat → Nat} {F : Nat → List UInt8} (h : Lst w lo n A C F) (ho : Below w.heap.size w w') : Lst w' lo n A C F :=
  ⟨fun hn => by obtain ⟨b, off, e, hc⟩ := h.at_ hn; exact ⟨b, off, e, fun i hi => held (hc i hi) ho⟩, fun i hi => (h.rd i hi).below ho, h.nil⟩
theorem Slots.lst {Y : Nat → Prop} {w : World} {l n : Nat} {A : Nat → Option Addr} {C : Nat → Nat} {F : Nat → List UInt8} (h : Slots w Y l n A C F) : Lst w (some ⟨l, 0, none⟩) n A C F :=
  ⟨fun _ => ⟨l, 0, rfl, fun i hi => by rw [Nat.zero_add]; exact h.row.cell hi⟩, h.rd, h.nil⟩

/-- The cells of a disk. -/
def dkv (k r c q : Int) (sl : Value) (gone : Nat → Bool) (off cut : Bool) (left wr : Int) : List Value :=
  [.int .i64 k, .int .i64 r, .int .i64 c, .int .i64 q, sl, .bool (gone 0), .bool (gone 1), .bool (gone 2), .bool (gone 3), .bool (gone 4), .bool (gone 5), .bool (gone 6), .bool (gone 7), .bool (gone 8), .bool (gone 9), .bool (gone 10), .bool (gone 11), .bool (gone 12), .bool (gone 13), .bool (gone 14), .bool (gone 15), .bool off, .bool cut, .int .i64 left, .int .i64 wr]
/-- A block that holds these cells, none frozen. -/
def Blk (w : World) (g : Nat) (t : TypeId) (cs : List Value) : Prop := w.heap[g]? = some (.cells cs.toArray t (0, 0))
theorem Blk.lt {w : World} {g : Nat} {t : TypeId} {cs : List Value} (h : Blk w g t cs) : g < w.heap.size := (Array.getElem?_eq_some_iff.1 h).1
theorem Blk.cell {w : World} {g : Nat} {t : TypeId} {cs : List Value} (h : Blk w g t cs) {i : Nat} {v : Value} (hv : cs[i]? = some v) : w.cell? ⟨g, i, none⟩ = some v := by
  unfold Blk at h
  simp [World.cell?, h, hv]
theorem Blk.free {w : World} {g : Nat} {t : TypeId} {cs : List Value} (h : Blk w g t cs) (i : Nat) : w.frozen? ⟨g, i, none⟩ = false := by
  unfold Blk at h
  simp [World.frozen?, h]
theorem Blk.set {w : World} {g : Nat} {t : TypeId} {cs : List Value} (h : Blk w g t cs) (i : Nat) (v : Value) : Blk (w.setCell ⟨g, i, none⟩ v) g t (cs.set i v) := by
  unfold Blk at *
  simp [World.setCell, Array.getElem?_modify, h]
theorem Blk.only {X : Nat → Prop} {w w' : World} {g : Nat} {t : TypeId} {cs : List Value} (h : Blk w g t cs) (ho : Only X w w') (hx : ¬ X g) : Blk w' g t cs := (ho.block g h.lt hx).trans h
theorem Blk.below {w w' : World} {g : Nat} {t : TypeId} {cs : List Value} (h : Blk w g t cs) (ho : Below w.heap.size w w') : Blk w' g t cs := (ho.block g h.lt).trans h
theorem blk_new (w : World) (t : TypeId) (cs : List Value) : Blk (w.alloc (.cells cs.toArray t)) w.heap.size t cs := heap_alloc_new w _
end Go.Proofs.Ytdicogmjjboilaa
