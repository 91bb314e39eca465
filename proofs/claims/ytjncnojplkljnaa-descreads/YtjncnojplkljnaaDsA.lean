/- Bytes and refs in memory: as they are read, and as the call's own. -/
import Derived.Test.YtjncnojplkljnaaLayF
import Derived.Test.YtjncnojplkljnaaDsMath
import Derived.Laws.AppendOwnNone
import Derived.Laws.OwnMore
import Derived.Laws.BytesArg
import Derived.Laws.CopyOwn
import Derived.Laws.IdiomStrings
import Derived.Laws.Rows
import Derived.Laws.BitsAllLaws
import Derived.Deep.AppendLies
import Derived.Deep.OwnRows
import Derived.Deep.RegionLawGrows
import Derived.Lib.SliceRun
import Derived.BigQuiet
import Derived.StillTailTactics
import Derived.WalkMore
namespace Go.Proofs.Ytjncnojplkljnaa
open Go.RowKit

theorem info_parts {t : TypeId} {z : Value} {s b : Nat} (h : (Try.prog.info? t).map (fun i => (i.zero, i.size, i.bytes)) = some (some z, s, b)) : ∃ i, Try.prog.info? t = some i ∧ i.zero = some z ∧ i.size = s ∧ i.bytes = b := by
  obtain ⟨i, hi, e⟩ := Option.map_eq_some_iff.1 h
  simp only [Prod.mk.injEq] at e
  exact ⟨i, hi, e.1, e.2.1, e.2.2⟩
theorem list_lt {α : Type} {l : List α} {n i : Nat} {x : α} (hl : l.length = n) (h : l[i]? = some x) : i < n := by
  rcases Nat.lt_or_ge i n with g | g
  · exact g
  · rw [List.getElem?_eq_none (by omega)] at h; cases h
theorem below_drewN (B : Nat) (w : World) (n : Nat) : Below B w (w.drewN n) := ⟨rfl, rfl, rfl, Nat.le_refl _, fun _ _ => rfl⟩
/-- A byte as a value. -/
def bv (u : UInt8) : Value := .int .u8 ((u.toNat : Nat) : Int)
theorem bv_inj {u v : UInt8} (h : bv u = bv v) : u = v := by
  unfold bv at h
  injection h with _ h
  exact UInt8.toNat_inj.1 (by omega)
/-- n bytes at an address. -/
def RdU (w : World) (ao : Option Addr) (n : Nat) (F : Nat → UInt8) : Prop :=
  0 < n → ∃ b off, ao = some ⟨b, off, none⟩ ∧ ∀ j, j < n → w.cell? ⟨b, off + j, none⟩ = some (.int .u8 (((F j).toNat : Nat) : Int))
theorem RdU.below {w w' : World} {ao : Option Addr} {n : Nat} {F : Nat → UInt8} (h : RdU w ao n F) (ho : Below w.heap.size w w') : RdU w' ao n F := by
  intro hn
  obtain ⟨b, off, rfl, hc⟩ := h hn
  exact ⟨b, off, rfl, fun i hi => held (hc i hi) ho⟩
theorem RdU.congr {w : World} {ao : Option Addr} {n : Nat} {F G : Nat → UInt8} (h : RdU w ao n F) (e : ∀ i, i < n → F i = G i) : RdU w ao n G := by
  intro hn
  obtain ⟨b, off, rfl, hc⟩ := h hn
  exact ⟨b, off, rfl, fun i hi => by rw [← e i hi]; exact hc i hi⟩
/-- Bytes that are read, with what a slice always has. -/
structure Bec (w : World) (ao : Option Addr) (n cap : Nat) (F : Nat → UInt8) : Prop where
  rd : RdU w ao n F
  nil : ao = none → n = 0 ∧ cap = 0
  room : n ≤ cap
theorem Bec.below {w w' : World} {ao : Option Addr} {n cap : Nat} {F : Nat → UInt8} (h : Bec w ao n cap F) (ho : Below w.heap.size w w') : Bec w' ao n cap F := ⟨h.rd.below ho, h.nil, h.room⟩
theorem Bec.congr {w : World} {ao : Option Addr} {n cap : Nat} {F G : Nat → UInt8} (h : Bec w ao n cap F) (e : ∀ i, i < n → F i = G i) : Bec w ao n cap G := ⟨h.rd.congr e, h.nil, h.room⟩
theorem bec_nil (w : World) (F : Nat → UInt8) : Bec w none 0 0 F := ⟨fun h => absurd h (Nat.lt_irrefl 0), fun _ => ⟨rfl, rfl⟩, Nat.le_refl _⟩
def byF (n : Nat) (F : Nat → UInt8) : List Value := (List.range n).map fun i => .int .u8 (((F i).toNat : Nat) : Int)
theorem byF_length (k : Nat) (F : Nat → UInt8) : (byF k F).length = k := by simp [byF]
theorem byF_get (k : Nat) (F : Nat → UInt8) (i : Nat) (h : i < k) : (byF k F)[i]? = some (.int .u8 (((F i).toNat : Nat) : Int)) := by simp [byF, h]
theorem byF_congr {k : Nat} {F G : Nat → UInt8} (h : ∀ i, i < k → F i = G i) : byF k F = byF k G := by
  unfold byF
  apply List.map_congr_left
  intro i hi
  rw [h i (List.mem_range.1 hi)]
theorem byF_succ (k : Nat) (F : Nat → UInt8) : byF (k + 1) F = byF k F ++ [.int .u8 (((F k).toNat : Nat) : Int)] := by
  unfold byF; rw [List.range_succ, List.map_append, List.map_cons, List.map_nil]
theorem byF_add (k m : Nat) (F : Nat → UInt8) : byF (k + m) F = byF k F ++ byF m (fun i => F (k + i)) := by
  apply List.ext_getElem?
  intro i
  by_cases h : i < k
  · rw [List.getElem?_append_left (by rw [byF_length]; exact h), byF_get _ _ _ h, byF_get _ _ _ (by omega)]
  · rw [List.getElem?_append_right (by rw [byF_length]; omega), byF_length]
    by_cases h2 : i < k + m
    · rw [byF_get _ _ _ h2, byF_get _ _ _ (by omega), show k + (i - k) = i by omega]
    · rw [List.getElem?_eq_none (by rw [byF_length]; omega), List.getElem?_eq_none (by rw [byF_length]; omega)]
theorem byF_one (k : Nat) (F : Nat → UInt8) : ∀ v ∈ byF k F, v.oneCell' = true := by
  intro v hv
  simp only [byF, List.mem_map] at hv
  obtain ⟨i, _, rfl⟩ := hv
  rfl
theorem byF_set {n i : Nat} (F : Nat → UInt8) (u : UInt8) : (byF n F).set i (.int .u8 ((u.toNat : Nat) : Int)) = byF n (put i u F) := by
  apply List.ext_getElem?
  intro j
  rw [List.getElem?_set]
  by_cases hj : j < n
  · rw [byF_get n (put i u F) _ hj]
    by_cases e : i = j
    · subst e; rw [if_pos rfl, if_pos (by rw [byF_length]; exact hj), put_at]
    · rw [if_neg e, byF_get _ _ _ hj, put_ne _ _ (fun h => e h.symm)]
  · by_cases e : i = j
    · subst e; rw [if_pos rfl, if_neg (by rw [byF_length]; exact hj), List.getElem?_eq_none (by rw [byF_length]; omega)]
    · rw [if_neg e, List.getElem?_eq_none (by rw [byF_length]; omega), List.getElem?_eq_none (by rw [byF_length]; omega)]
theorem bec_news {w : World} {ad : Addr} {n cap : Nat} {F : Nat → UInt8} (h : Bec w (some ad) n cap F) : ∀ j u, (byF n F)[j]? = some u → w.cell? (ad.add j) = some u := by
  intro j u hu
  have hj : j < n := list_lt (byF_length n F) hu
  rw [byF_get _ _ _ hj] at hu
  obtain ⟨b, off, e, hc⟩ := h.rd (by omega)
  cases e
  rw [Addr.add_lit, hc j hj]; exact hu
/-- Bytes of the call's own (or none), from block B on. -/
def OwU (B : Nat) (w : World) (ao : Option Addr) (n cap : Nat) (F : Nat → UInt8) : Prop := w.ownsRow B 5 1 (.slice ao n cap) n (byF n F)
theorem owu_nil (B : Nat) (w : World) (F : Nat → UInt8) : OwU B w none 0 0 F := World.ownsRow_nil _ _ _ _
theorem OwU.congr {B : Nat} {w : World} {ao : Option Addr} {n cap : Nat} {F G : Nat → UInt8} (h : OwU B w ao n cap F) (e : ∀ i, i < n → F i = G i) : OwU B w ao n cap G := by
  unfold OwU at *; rw [← byF_congr e]; exact h
theorem OwU.bec {B : Nat} {w : World} {ao : Option Addr} {n cap : Nat} {F : Nat → UInt8} (h : OwU B w ao n cap F) : Bec w ao n cap F := by
  have h0 := h
  rcases h.2 with ⟨h1, h2⟩ | ⟨g, cap', cur, h1, _, _, h4, _⟩
  · cases h1; exact bec_nil _ _
  · cases h1
    refine ⟨fun hp => ⟨g, 0, rfl, fun i hi => ?_⟩, (fun e => by cases e), h4⟩
    have := World.ownsRow.cells h0 (g := g) rfl i _ (byF_get n F i hi)
    rwa [Addr.add_lit] at this
theorem OwU.at_ {B : Nat} {w : World} {ao : Option Addr} {n cap : Nat} {F : Nat → UInt8} (h : OwU B w ao n cap F) (hn : 0 < n) : ∃ g, ao = some ⟨g, 0, none⟩ ∧ B ≤ g ∧ g < w.heap.size := by
  obtain ⟨g, cap', e, h1, h2⟩ := World.ownsRow.form h hn
  cases e; exact ⟨g, rfl, h1, h2⟩
theorem OwU.stay {B : Nat} {w w' : World} {ao : Option Addr} {n cap : Nat} {F : Nat → UInt8} (h : OwU B w ao n cap F) (hb : ∀ g, B ≤ g → g < w.heap.size → w'.heap[g]? = w.heap[g]?) : OwU B w' ao n cap F := by
  refine ⟨h.1, ?_⟩
  rcases h.2 with h1 | ⟨g, cap', cur, h1, h2, h3, h4⟩
  · exact .inl h1
  · exact .inr ⟨g, cap', cur, h1, h2, by rw [hb g h2 (Array.getElem?_eq_some_iff.1 h3).1]; exact h3, h4⟩
theorem OwU.below {B : Nat} {w w' : World} {ao : Option Addr} {n cap : Nat} {F : Nat → UInt8} (h : OwU B w ao n cap F) (hb : Below w.heap.size w w') : OwU B w' ao n cap F := h.stay fun g _ hg => hb.block g hg
theorem OwU.mono {B B' : Nat} {w : World} {ao : Option Addr} {n cap : Nat} {F : Nat → UInt8} (h : OwU B w ao n cap F) (hb : B' ≤ B) : OwU B' w ao n cap F := by
  refine ⟨h.1, ?_⟩
  rcases h.2 with h1 | ⟨g, cap', cur, h1, h2, h3⟩
  · exact .inl h1
  · exact .inr ⟨g, cap', cur, h1, by omega, h3⟩
theorem OwU.set {B : Nat} {w : World} {g n cap : Nat} {F : Nat → UInt8} (h : OwU B w (some ⟨g, 0, none⟩) n cap F) (i : Nat) (u : UInt8) : OwU B (w.setCell ⟨g, i, none⟩ (.int .u8 ((u.toNat : Nat) : Int))) (some ⟨g, 0, none⟩) n cap (put i u F) := by
  unfold OwU at *; rw [← byF_set]; exact (World.ownsRow.stored h i _).1
theorem OwU.cell {B : Nat} {w : World} {g n cap : Nat} {F : Nat → UInt8} (h : OwU B w (some ⟨g, 0, none⟩) n cap F) {i : Nat} (hi : i < n) : w.cell? ⟨g, i, none⟩ = some (.int .u8 (((F i).toNat : Nat) : Int)) := by
  rw [World.ownsRow.cellAt h i (by omega), byF_get _ _ _ hi]
theorem OwU.free {B : Nat} {w : World} {g n cap : Nat} {F : Nat → UInt8} (h : OwU B w (some ⟨g, 0, none⟩) n cap F) (i : Nat) : w.frozen? ⟨g, i, none⟩ = false := World.ownsRow.frozenAt h i
theorem info5 : (Try.prog.info? 5).map (fun i => (i.zero, i.size, i.bytes)) = some (some (.int .u8 0), 1, 1) := by kernel_rfl
/-- A block of bytes, known whole. -/
def Bk (w : World) (g n : Nat) (G : Nat → UInt8) : Prop := w.heap[g]? = some (.cells (byF n G).toArray 5 (0, 0))
theorem Bk.lt {w : World} {g n : Nat} {G : Nat → UInt8} (h : Bk w g n G) : g < w.heap.size := (Array.getElem?_eq_some_iff.1 h).1
theorem Bk.cell {w : World} {g n : Nat} {G : Nat → UInt8} (h : Bk w g n G) {i : Nat} (hi : i < n) : w.cell? ⟨g, i, none⟩ = some (.int .u8 (((G i).toNat : Nat) : Int)) := by
  have := byF_get n G i hi
  unfold Bk at h
  simp [World.cell?, h, this]
theorem Bk.free {w : World} {g n : Nat} {G : Nat → UInt8} (h : Bk w g n G) (i : Nat) : w.frozen? ⟨g, i, none⟩ = false := by
  unfold Bk at h
  simp [World.frozen?, h]
theorem Bk.set {w : World} {g n : Nat} {G : Nat → UInt8} (h : Bk w g n G) (i : Nat) (u : UInt8) : Bk (w.setCell ⟨g, i, none⟩ (.int .u8 ((u.toNat : Nat) : Int))) g n (put i u G) := by
  unfold Bk at *
  rw [← byF_set]
  simp [World.setCell, Array.getElem?_modify, h]
theorem Bk.congr {w : World} {g n : Nat} {G H : Nat → UInt8} (h : Bk w g n G) (e : ∀ i, i < n → G i = H i) : Bk w g n H := by
  unfold Bk at *; rw [← byF_congr e]; exact h
theorem Bk.below {w w' : World} {g n : Nat} {G : Nat → UInt8} (h : Bk w g n G) (ho : Below w.heap.size w w') : Bk w' g n G := (ho.block g h.lt).trans h
theorem Bk.own {w : World} {B g n : Nat} {G : Nat → UInt8} (h : Bk w g n G) (hB : B ≤ g) (hn : n ≤ 1000) : OwU B w (some ⟨g, 0, none⟩) n n G := by
  refine ⟨by rw [byF_length, Nat.mul_one], .inr ⟨g, n, _, rfl, hB, h, Nat.le_refl _, by unfold maxLen; omega, by simp [byF_length], ?_⟩⟩
  rw [List.take_of_length_le (by rw [List.toList_toArray, byF_length]; omega)]
/-- The string of n bytes. -/
def lsF (n : Nat) (F : Nat → UInt8) : List UInt8 := (List.range n).map F
theorem lsF_length (n : Nat) (F : Nat → UInt8) : (lsF n F).length = n := by simp [lsF]
theorem lsF_get (n : Nat) (F : Nat → UInt8) (j : Nat) (h : j < (lsF n F).length) : (lsF n F)[j] = F j := by simp [lsF]
def sOf (c : List UInt8) : ByteArray := ⟨c.toArray⟩
theorem conv_any {w : World} {ao : Option Addr} {n cp : Nat} {F : Nat → UInt8} (h : Bec w ao n cp F) : (convert 29 9 (.slice ao n cp)).run Try.prog w = .ok (.string (sOf (lsF n F))) w := by
  by_cases hn : n = 0
  · subst hn
    cases ao with
    | none => exact run_convert_bytes_nil w 29 5 Try.underlying29 Try.underlying5 0 cp 9 Try.underlying9
    | some a => exact run_convert_bytes_back w 29 9 5 a cp [] Try.underlying29 Try.underlying5 Try.underlying9 (fun j hj => by simp at hj)
  · obtain ⟨b, off, rfl, hr⟩ := h.rd (by omega)
    have := run_convert_bytes_back (P := Try.prog) w 29 9 5 ⟨b, off, none⟩ cp (lsF n F) Try.underlying29 Try.underlying5 Try.underlying9 (fun j hj => by rw [Addr.add_lit, lsF_get]; exact hr j (by rw [lsF_length] at hj; exact hj))
    rw [lsF_length] at this
    exact this
theorem sOf_list (c : List UInt8) : (sOf c).toList = c := by rw [ByteArray.toList_eq]; rfl
theorem str_eq (X Y : List UInt8) : ((sOf X).toList == (sOf Y).toList) = decide (X = Y) := by
  rw [sOf_list, sOf_list]
  by_cases h : X = Y
  · subst h; simp
  · rw [decide_eq_false h]; simpa using h
theorem lsF_eq {n m : Nat} {F G : Nat → UInt8} : lsF n F = lsF m G ↔ n = m ∧ ∀ j, j < n → F j = G j := by
  constructor
  · intro h
    have hl := congrArg List.length h
    rw [lsF_length, lsF_length] at hl
    subst hl
    refine ⟨rfl, fun j hj => ?_⟩
    have h1 : (lsF n F)[j]? = (lsF n G)[j]? := by rw [h]
    simpa [lsF, hj] using h1
  · rintro ⟨rfl, h⟩
    unfold lsF
    apply List.map_congr_left
    intro i hi
    exact h i (List.mem_range.1 hi)

/-- All blocks but those of X are as they were. -/
structure Only (X : Nat → Prop) (w w' : World) : Prop where
  os : w'.os = w.os
  tape : w'.tape = w.tape
  output : w'.output = w.output
  size : w.heap.size ≤ w'.heap.size
  block : ∀ b, b < w.heap.size → ¬ X b → w'.heap[b]? = w.heap[b]?
theorem Only.refl (X : Nat → Prop) (w : World) : Only X w w := ⟨rfl, rfl, rfl, Nat.le_refl _, fun _ _ _ => rfl⟩
theorem Only.trans {X : Nat → Prop} {a b c : World} (h : Only X a b) (k : Only X b c) : Only X a c :=
  ⟨k.os.trans h.os, k.tape.trans h.tape, k.output.trans h.output, Nat.le_trans h.size k.size, fun i hi hx => (k.block i (Nat.lt_of_lt_of_le hi h.size) hx).trans (h.block i hi hx)⟩
theorem Only.mono {X Y : Nat → Prop} {a b : World} (h : Only X a b) (k : ∀ i, i < a.heap.size → X i → Y i) : Only Y a b := ⟨h.os, h.tape, h.output, h.size, fun i hi hy => h.block i hi fun hx => hy (k i hi hx)⟩
theorem Only.of_below {X : Nat → Prop} {a b : World} (h : Below a.heap.size a b) : Only X a b := ⟨h.os, h.tape, h.output, h.size, fun i hi _ => h.block i hi⟩
theorem Only.below {X : Nat → Prop} {B : Nat} {a b : World} (h : Only X a b) (k : ∀ i, X i → B ≤ i) (hB : B ≤ a.heap.size) : Below B a b := ⟨h.os, h.tape, h.output, h.size, fun i hi => h.block i (by omega) fun hx => by have := k i hx; omega⟩
theorem Only.setCell {X : Nat → Prop} {a b : World} (h : Only X a b) {p : Addr} (hp : X p.block) (v : Value) : Only X a (b.setCell p v) :=
  h.trans ⟨rfl, rfl, rfl, by simp [World.setCell], fun i _ hx => Below.heap_setCell _ _ _ _ (fun e => hx (e ▸ hp))⟩
theorem Only.alloc {X : Nat → Prop} {a b : World} (h : Only X a b) (o : Obj) : Only X a (b.alloc o) := h.trans (.of_below (below_alloc _ _))
theorem Only.drew {X : Nat → Prop} {a b : World} (h : Only X a b) : Only X a b.drew := h.trans (.of_below (below_drew _ _))
theorem Only.then {X : Nat → Prop} {a b c : World} (h : Only X a b) (k : Below b.heap.size b c) : Only X a c := h.trans (.of_below k)
theorem Only.cell {X : Nat → Prop} {a b : World} (h : Only X a b) {p : Addr} {v : Value} (hc : a.cell? p = some v) (hp : ¬ X p.block) : b.cell? p = some v :=
  (World.cell?_of_block (h.block p.block (World.block_lt_of_cell? a _ hc) hp)).trans hc

theorem Only.step {X Y : Nat → Prop} {a b c : World} (h : Only X a b) (k : Only Y b c) (hx : ∀ i, i < a.heap.size → Y i → X i) : Only X a c :=
  ⟨k.os.trans h.os, k.tape.trans h.tape, k.output.trans h.output, Nat.le_trans h.size k.size, fun i hi hn => (k.block i (Nat.lt_of_lt_of_le hi h.size) fun hy => hn (hx i hi hy)).trans (h.block i hi hn)⟩

theorem i64_or_nat (a b : Nat) (ha : a < 4611686018427387904) (hb : b < 4611686018427387904) : bits .or .i64 (a : Int) (b : Int) = ((a ||| b : Nat) : Int) := by
  have hx : a ||| b < 2 ^ 62 := Nat.or_lt_two_pow (by omega) (by omega)
  show IntKind.i64.wrap ((BitVec.ofInt 64 (a : Int) ||| BitVec.ofInt 64 (b : Int)).toNat : Int) = _
  rw [BitVec.toNat_or, ofInt_u64 a (by omega), ofInt_u64 b (by omega)]
  rw [IntKind.wrap_i64]
  omega
theorem or_mul (a b : Nat) (h : a < 256) : (b * 256) ||| a = b * 256 + a := by
  rw [show b * 256 = b <<< 8 from by rw [Nat.shiftLeft_eq], ← Nat.shiftLeft_add_eq_or_of_lt (i := 8) (by omega)]
/-- Bytes appended to bytes of the call's own. -/
theorem wpList_append_bytes {w : World} {ops : Array Oper} {rest : List Oper} {o : Oper} {a : Act} {Q : Exit → Act → World → Prop} (hgd : o.guard = none) (s x : Operand)
    (ho : o.op = .call { callee := .builtin .append, args := #[s, x], argTypes := #[29, 29] }) (B k n ca cb : Nat) (ao bo : Option Addr) (F G : Nat → UInt8)
    (hs : a.eval s = .slice ao k ca) (hx : a.eval x = .slice bo n cb) (h : OwU B w ao k ca F) (hv : Bec w bo n cb G) (hk : k + n ≤ 140737488355328) (hB : B ≤ w.heap.size)
    (cont : ∀ ao' c' w', OwU B w' ao' (k + n) c' (upR F k n G) → w.grownBy w' (Value.slice ao k ca).ownBlock → wpList Try.prog ops Q rest (a.put o.dst (.slice ao' (k + n) c')) w') : wpList Try.prog ops Q (o :: rest) a w := by
  obtain ⟨j0, hj, hj0, hj1, hj2⟩ := info_parts info5
  have hl : byF k F ++ byF n G = byF (k + n) (upR F k n G) := by
    rw [byF_add, byF_congr (F := upR F k n G) (G := F) (fun i hi => upR_out (by omega)), byF_congr (F := fun i => upR F k n G (k + i)) (G := G) (fun i hi => by rw [upR_in (by omega), show k + i - k = i by omega])]
  cases bo with
  | none =>
    obtain ⟨rfl, rfl⟩ := hv.nil rfl
    have := cont ao ca w (by refine OwU.congr h fun i hi => (upR_out (by omega)).symm) ⟨rfl, rfl, rfl, Nat.le_refl _, fun _ _ _ => rfl⟩
    exact wpList_append_own_none hgd s x 29 ho B 5 j0 1 Try.underlying29 hj (.slice ao k ca) k (byF k F) hs h hx this
  | some ad =>
    refine wpList_append_own w hgd s x 29 ho B 5 j0 (.int .u8 0) 1 1 Try.underlying29 hj hj0 hj1 hj2 rfl (by decide) (.slice ao k ca) k (byF k F) hs h ad n cb (byF n G) hx (by rw [byF_length, Nat.mul_one]) (bec_news hv) (byF_one _ _) (by unfold maxLen; omega) (by omega) hB ?_
    intro v' w' h1 h2 _
    obtain ⟨ao', c', rfl⟩ : ∃ ao' c', v' = .slice ao' (k + n) c' := by
      rcases h1.2 with ⟨rfl, e⟩ | ⟨g, cap, cur, rfl, _⟩
      · rw [e]; exact ⟨none, 0, rfl⟩
      · exact ⟨_, cap, rfl⟩
    rw [hl] at h1
    exact cont ao' c' w' h1 h2
theorem own_ge {B : Nat} {w : World} {ao : Option Addr} {n cap : Nat} {F : Nat → UInt8} (h : OwU B w ao n cap F) : ∀ g, (Value.slice ao n cap).ownBlock = some g → B ≤ g := fun g hg => (World.ownsRow.lt h g hg).1

theorem of_drew {w v : World} (h : Below w.drew.heap.size w.drew v) : Below w.heap.size w v := below_then (below_drew _ _) h
/-- A slice of n refs that begins at ao. -/
def RdR (w : World) (ao : Option Addr) (n : Nat) (R V : Nat → Int) : Prop :=
  0 < n → ∃ b off, ao = some ⟨b, off, none⟩ ∧ ∀ i, i < n → w.cell? ⟨b, off + i * 2, none⟩ = some (.int .i64 (R i)) ∧ w.cell? ⟨b, off + i * 2 + 1, none⟩ = some (.int .i64 (V i))
theorem RdR.below {w w' : World} {ao : Option Addr} {n : Nat} {R V : Nat → Int} (h : RdR w ao n R V) (ho : Below w.heap.size w w') : RdR w' ao n R V := by
  intro hn
  obtain ⟨b, off, rfl, hc⟩ := h hn
  exact ⟨b, off, rfl, fun i hi => ⟨held (hc i hi).1 ho, held (hc i hi).2 ho⟩⟩
theorem RdR.congr {w : World} {ao : Option Addr} {n : Nat} {R V R' V' : Nat → Int} (h : RdR w ao n R V) (e : ∀ i, i < n → R i = R' i ∧ V i = V' i) : RdR w ao n R' V' := by
  intro hn
  obtain ⟨b, off, rfl, hc⟩ := h hn
  exact ⟨b, off, rfl, fun i hi => by rw [← (e i hi).1, ← (e i hi).2]; exact hc i hi⟩
/-- Refs that are read, with what a slice always has. -/
structure Rec (w : World) (ao : Option Addr) (n cap : Nat) (R V : Nat → Int) : Prop where
  rd : RdR w ao n R V
  nil : ao = none → n = 0 ∧ cap = 0
  room : n ≤ cap
theorem Rec.below {w w' : World} {ao : Option Addr} {n cap : Nat} {R V : Nat → Int} (h : Rec w ao n cap R V) (ho : Below w.heap.size w w') : Rec w' ao n cap R V := ⟨h.rd.below ho, h.nil, h.room⟩
theorem Rec.congr {w : World} {ao : Option Addr} {n cap : Nat} {R V R' V' : Nat → Int} (h : Rec w ao n cap R V) (e : ∀ i, i < n → R i = R' i ∧ V i = V' i) : Rec w ao n cap R' V' := ⟨h.rd.congr e, h.nil, h.room⟩
theorem rec_nil (w : World) (R V : Nat → Int) : Rec w none 0 0 R V := ⟨fun h => absurd h (Nat.lt_irrefl 0), fun _ => ⟨rfl, rfl⟩, Nat.le_refl _⟩
def rvl (R V : Nat → Int) : Nat → List Value
  | 0 => []
  | n + 1 => rvl R V n ++ [.int .i64 (R n), .int .i64 (V n)]
theorem rvl_length (R V : Nat → Int) (n : Nat) : (rvl R V n).length = n * 2 := by
  induction n with
  | zero => rfl
  | succ n ih => rw [rvl, List.length_append, ih, Nat.succ_mul]; rfl
theorem rvl_get (R V : Nat → Int) (n i : Nat) (hi : i < n) : (rvl R V n)[i * 2]? = some (.int .i64 (R i)) ∧ (rvl R V n)[i * 2 + 1]? = some (.int .i64 (V i)) := by
  induction n with
  | zero => omega
  | succ n ih =>
    have hl := rvl_length R V n
    rw [rvl]
    by_cases h : i < n
    · rw [List.getElem?_append_left (by omega), List.getElem?_append_left (by omega)]; exact ih h
    · obtain rfl : i = n := by omega
      rw [List.getElem?_append_right (by omega), List.getElem?_append_right (by omega), hl, Nat.sub_self, show i * 2 + 1 - i * 2 = 1 by omega]
      exact ⟨rfl, rfl⟩
theorem rvl_one (R V : Nat → Int) (n : Nat) : ∀ v ∈ rvl R V n, v.oneCell' = true := by
  induction n with
  | zero => intro v hv; cases hv
  | succ n ih =>
    intro v hv
    rw [rvl, List.mem_append] at hv
    rcases hv with hv | hv
    · exact ih v hv
    · simp at hv; rcases hv with rfl | rfl <;> rfl
theorem rvl_congr {R V R' V' : Nat → Int} {n : Nat} (h : ∀ i, i < n → R i = R' i ∧ V i = V' i) : rvl R V n = rvl R' V' n := by
  induction n with
  | zero => rfl
  | succ n ih => rw [rvl, rvl, ih (fun i hi => h i (by omega)), (h n (by omega)).1, (h n (by omega)).2]
theorem rvl_ext {R V : Nat → Int} {n : Nat} {l : List Value} (hl : l.length = n * 2) (h : ∀ i, i < n → l[i * 2]? = some (.int .i64 (R i)) ∧ l[i * 2 + 1]? = some (.int .i64 (V i))) : l = rvl R V n := by
  apply List.ext_getElem?
  intro j
  by_cases hj : j < n * 2
  · obtain ⟨i, hi⟩ : ∃ i, i = j / 2 := ⟨_, rfl⟩
    rcases (show j = i * 2 ∨ j = i * 2 + 1 by omega) with e | e
    · rw [e, (h i (by omega)).1, (rvl_get R V n i (by omega)).1]
    · rw [e, (h i (by omega)).2, (rvl_get R V n i (by omega)).2]
  · rw [List.getElem?_eq_none (by omega), List.getElem?_eq_none (by rw [rvl_length]; omega)]
theorem rvl_set {R V : Nat → Int} {n i : Nat} (hi : i < n) (a v : Int) : ((rvl R V n).set (i * 2) (.int .i64 a)).set (i * 2 + 1) (.int .i64 v) = rvl (put i a R) (put i v V) n := by
  refine rvl_ext (by rw [List.length_set, List.length_set, rvl_length]) fun t ht => ?_
  have g := rvl_get R V n t ht
  have hl := rvl_length R V n
  rw [List.getElem?_set, List.getElem?_set, List.getElem?_set, List.getElem?_set]
  by_cases e : t = i
  · subst e
    rw [put_at, put_at, if_neg (by omega), if_pos rfl, if_pos (by omega), if_pos rfl, if_pos (by rw [List.length_set]; omega)]
    exact ⟨rfl, rfl⟩
  · rw [put_ne _ _ e, put_ne _ _ e, if_neg (by omega), if_neg (by omega), if_neg (by omega), if_neg (by omega)]
    exact g
/-- Refs of the call's own (or none), from block B on. -/
def OwR (B : Nat) (w : World) (ao : Option Addr) (n cap : Nat) (R V : Nat → Int) : Prop := w.ownsRow B 27 2 (.slice ao n cap) n (rvl R V n)
theorem owr_nil (B : Nat) (w : World) (R V : Nat → Int) : OwR B w none 0 0 R V := World.ownsRow_nil _ _ _ _
theorem OwR.congr {B : Nat} {w : World} {ao : Option Addr} {n cap : Nat} {R V R' V' : Nat → Int} (h : OwR B w ao n cap R V) (e : ∀ i, i < n → R i = R' i ∧ V i = V' i) : OwR B w ao n cap R' V' := by
  unfold OwR at *; rw [← rvl_congr e]; exact h
theorem OwR.rec {B : Nat} {w : World} {ao : Option Addr} {n cap : Nat} {R V : Nat → Int} (h : OwR B w ao n cap R V) : Rec w ao n cap R V := by
  have h0 := h
  rcases h.2 with ⟨h1, h2⟩ | ⟨g, cap', cur, h1, _, _, h4, _⟩
  · cases h1; exact rec_nil _ _ _
  · cases h1
    refine ⟨fun hp => ⟨g, 0, rfl, fun i hi => ?_⟩, (fun e => by cases e), h4⟩
    have c0 := World.ownsRow.cells h0 (g := g) rfl (i * 2) _ (rvl_get R V n i hi).1
    have c1 := World.ownsRow.cells h0 (g := g) rfl (i * 2 + 1) _ (rvl_get R V n i hi).2
    rw [Addr.add_lit] at c0 c1
    exact ⟨c0, c1⟩
theorem OwR.stay {B : Nat} {w w' : World} {ao : Option Addr} {n cap : Nat} {R V : Nat → Int} (h : OwR B w ao n cap R V) (hb : ∀ g, B ≤ g → g < w.heap.size → w'.heap[g]? = w.heap[g]?) : OwR B w' ao n cap R V := by
  refine ⟨h.1, ?_⟩
  rcases h.2 with h1 | ⟨g, cap', cur, h1, h2, h3, h4⟩
  · exact .inl h1
  · exact .inr ⟨g, cap', cur, h1, h2, by rw [hb g h2 (Array.getElem?_eq_some_iff.1 h3).1]; exact h3, h4⟩
theorem OwR.below {B : Nat} {w w' : World} {ao : Option Addr} {n cap : Nat} {R V : Nat → Int} (h : OwR B w ao n cap R V) (hb : Below w.heap.size w w') : OwR B w' ao n cap R V := h.stay fun g _ hg => hb.block g hg
theorem OwR.mono {B B' : Nat} {w : World} {ao : Option Addr} {n cap : Nat} {R V : Nat → Int} (h : OwR B w ao n cap R V) (hb : B' ≤ B) : OwR B' w ao n cap R V := by
  refine ⟨h.1, ?_⟩
  rcases h.2 with h1 | ⟨g, cap', cur, h1, h2, h3⟩
  · exact .inl h1
  · exact .inr ⟨g, cap', cur, h1, by omega, h3⟩
theorem OwR.at_ {B : Nat} {w : World} {ao : Option Addr} {n cap : Nat} {R V : Nat → Int} (h : OwR B w ao n cap R V) (hn : 0 < n) : ∃ g, ao = some ⟨g, 0, none⟩ ∧ B ≤ g ∧ g < w.heap.size := by
  rcases h.2 with ⟨_, h2⟩ | ⟨g, cap', cur, h1, h2, h3, h4⟩
  · omega
  · cases h1; exact ⟨g, rfl, h2, (Array.getElem?_eq_some_iff.1 h3).1⟩
theorem OwR.free {B : Nat} {w : World} {g n cap : Nat} {R V : Nat → Int} (h : OwR B w (some ⟨g, 0, none⟩) n cap R V) (i : Nat) : w.frozen? ⟨g, i, none⟩ = false := World.ownsRow.frozenAt h i
theorem OwR.cell {B : Nat} {w : World} {g n cap : Nat} {R V : Nat → Int} (h : OwR B w (some ⟨g, 0, none⟩) n cap R V) {i : Nat} (hi : i < n) : w.cell? ⟨g, i * 2, none⟩ = some (.int .i64 (R i)) ∧ w.cell? ⟨g, i * 2 + 1, none⟩ = some (.int .i64 (V i)) := by
  rw [World.ownsRow.cellAt h (i * 2) (by omega), World.ownsRow.cellAt h (i * 2 + 1) (by omega)]; exact rvl_get _ _ _ _ hi
theorem OwR.set {B : Nat} {w : World} {g n cap : Nat} {R V : Nat → Int} (h : OwR B w (some ⟨g, 0, none⟩) n cap R V) {i : Nat} (hi : i < n) (a v : Int) : OwR B ((w.setCell ⟨g, i * 2, none⟩ (.int .i64 a)).setCell ⟨g, i * 2 + 1, none⟩ (.int .i64 v)) (some ⟨g, 0, none⟩) n cap (put i a R) (put i v V) := by
  unfold OwR at *; rw [← rvl_set hi]; exact (World.ownsRow.stored (World.ownsRow.stored h _ _).1 _ _).1
theorem info27 : (Try.prog.info? 27).map (fun i => (i.zero, i.size, i.bytes)) = some (some (.agg #[.int .i64 0, .int .i64 0]), 2, 16) := by kernel_rfl
theorem made_zeros (n : Nat) : (madeCells #[Value.int .i64 0, .int .i64 0] (n * 2)).toList = rvl (fun _ => 0) (fun _ => 0) n := by
  refine rvl_ext (by simp [madeCells]) fun i hi => ?_
  constructor
  · simp [madeCells]
    exact ⟨i * 2, by rw [List.getElem?_range (by omega)], by rw [show i * 2 % 2 = 0 by omega]; rfl⟩
  · simp [madeCells]
    exact ⟨i * 2 + 1, by rw [List.getElem?_range (by omega)], by rw [show (i * 2 + 1) % 2 = 1 by omega]; rfl⟩
theorem made_bytes (n : Nat) : madeCells #[Value.int .u8 0] n = (byF n (fun _ => 0)).toArray := by
  apply Array.ext'
  apply List.ext_getElem?
  intro i
  by_cases hi : i < n
  · rw [List.toList_toArray, byF_get _ _ _ hi]
    simp [madeCells, hi, Nat.mod_one]
  · rw [List.getElem?_eq_none (by simp [madeCells]; omega), List.getElem?_eq_none (by simp [byF_length]; omega)]
end Go.Proofs.Ytjncnojplkljnaa
