/- The document's bytes and images in memory of their own. -/
import Derived.Test.YtdicogmjjboilaaDskO
namespace Go.Proofs.Ytdicogmjjboilaa
open Go.RowKit

/-- Bytes in a block of their own that may be written over: n of them, room for cp. -/
def Wrb (w : World) (ao : Option Addr) (n cp : Nat) : Prop := (ao = none ∧ n = 0 ∧ cp = 0) ∨ ∃ g, ao = some ⟨g, 0, none⟩ ∧ g < w.heap.size ∧ ∀ j, j < n ∨ j < cp → (w.cell? ⟨g, j, none⟩).isSome = true ∧ w.frozen? ⟨g, j, none⟩ = false
theorem byr_get (c : List UInt8) (cp j : Nat) (h : j < c.length) : (bytesRow (sOf c) cp)[j]? = some (.int .u8 (c[j].toNat : Int)) := by
  unfold bytesRow
  rw [Array.getElem?_append_left (by simpa [sOf] using h)]
  simp [sOf, h]
theorem byr_size (c : List UInt8) (cp : Nat) : (bytesRow (sOf c) cp).size = c.length + (cp - c.length) := by
  unfold bytesRow
  simp [sOf, ByteArray.size]
theorem sOf_size (c : List UInt8) : (sOf c).size = c.length := by simp [sOf, ByteArray.size]
set_option maxHeartbeats 400000 in
theorem Bytes_any (w : World) (ao : Option Addr) (n cp : Nat) (c : List UInt8) (hr : RdB w ao c) (hn : n = c.length) (hc : n ≤ 9223372036854775807) :
    Calls Try.prog 16 #[.slice ao n cp] w fun e w' => ∃ ao' cap', e = .returned (.slice ao' c.length cap') ∧ RdB w' ao' c ∧ (∀ a, ao' = some a → w.heap.size ≤ a.block ∧ a.block < w'.heap.size) ∧ (ao' = none → c = [] ∧ cap' = 0) ∧ Wrb w' ao' c.length cap' ∧ Below w.heap.size w w' := by
  by_cases h0 : c = []
  · subst h0
    obtain rfl : n = 0 := hn
    clear hr
    go_enter Try.func16, Try.ntmps16
    go_wp2
    go_ret
    exact ⟨none, 0, rfl, rdb_nil _ _, (fun a e => by cases e), (fun _ => by simp), .inl ⟨rfl, rfl, rfl⟩, Below.refl _ _⟩
  · have hl : 0 < n := by rw [hn]; exact List.length_pos_iff.2 h0
    have v1 := conv_any hr n cp hn
    have v2 := run_bytes_of_string (P := Try.prog) w 9 43 5 (sOf c) Try.underlying9 Try.underlying43 Try.underlying5
    obtain ⟨cap, hcap⟩ : ∃ cap, cap = grownCap w (sOf c).size 0 5 := ⟨_, rfl⟩
    rw [← hcap, sOf_size, ← hn] at v2
    obtain ⟨R, hR⟩ : ∃ R, R = bytesRow (sOf c) cap := ⟨_, rfl⟩
    rw [← hR] at v2
    obtain ⟨wr, hwr⟩ : ∃ wr, wr = w.drew.alloc (.cells R 5 (R.size, R.size + 1)) := ⟨_, rfl⟩
    rw [← hwr] at v2
    have e1 : ((n : Int) == 0) = false := by simp; omega
    have HN : Hid (n = c.length) := hn
    have hrs : R.size = c.length + (cap - c.length) := by rw [hR]; exact byr_size c cap
    have hb : wr.heap[w.heap.size]? = some (.cells R 5 (R.size, R.size + 1)) := by rw [hwr]; exact heap_alloc_new w.drew _
    have HC : Hid (∀ j (hj : j < c.length), wr.cell? ⟨w.heap.size, j, none⟩ = some (.int .u8 (c[j].toNat : Int))) := fun j hj => by
      rw [World.cell?, hb]
      have := byr_get c cap j hj
      rw [← hR] at this
      simp [this]
    have HE : Hid (∀ j, j < R.size → (wr.cell? ⟨w.heap.size, j, none⟩).isSome = true ∧ wr.frozen? ⟨w.heap.size, j, none⟩ = false) := fun j hj => by
      rw [World.cell?, World.frozen?, hb]
      simp [hj]
      omega
    have HB : Hid (Below w.heap.size w wr) := by rw [hwr]; exact (below_drew _ _).alloc (Nat.le_refl _) _
    have hsz : wr.heap.size = w.heap.size + 1 := by rw [hwr]; show (w.drew.alloc _).heap.size = _; simp
    clear hr hn hcap hR hwr hb h0
    go_enter Try.func16, Try.ntmps16
    go_wp2
    go_ret
    rw [HN.out]
    refine ⟨some ⟨w.heap.size, 0, none⟩, cap, rfl, fun _ => ⟨w.heap.size, 0, rfl, fun j hj => by rw [Nat.zero_add]; exact HC.out j hj⟩, (fun a e => by cases e; exact ⟨Nat.le_refl _, by show w.heap.size < _; omega⟩), (fun e => by cases e), .inr ⟨w.heap.size, rfl, by omega, fun j hj => HE.out j (by omega)⟩, HB.out⟩
theorem frozen_setC (w : World) (a b : Addr) (u : Value) : (w.setCell a u).frozen? b = w.frozen? b := by simp
/-- A list of slots by its cells: n slots in block l, slot i reads as F i. -/
structure RSl (w : World) (Y : Nat → Prop) (l n : Nat) (A : Nat → Option Addr) (C : Nat → Nat) (F : Nat → List UInt8) : Prop where
  cell : ∀ i, i < n → w.cell? ⟨l, i, none⟩ = some (.slice (A i) (F i).length (C i))
  free : ∀ i, i < n → w.frozen? ⟨l, i, none⟩ = false
  rd : ∀ i, i < n → RdB w (A i) (F i)
  at_ : ∀ i a, i < n → A i = some a → Y a.block ∧ a.block ≠ l
  nil : ∀ i, i < n → A i = none → F i = [] ∧ C i = 0
  own : Y l
theorem RSl.only {X Y : Nat → Prop} {w w' : World} {l n : Nat} {A : Nat → Option Addr} {C : Nat → Nat} {F : Nat → List UInt8} (h : RSl w Y l n A C F) (ho : Only X w w') (hx : ∀ b, Y b → ¬ X b) : RSl w' Y l n A C F :=
  ⟨fun i hi => ho.cell (h.cell i hi) (hx _ h.own), fun i hi => (World.frozen?_of_block (ho.block l (World.block_lt_of_cell? w _ (h.cell i hi)) (hx _ h.own))).trans (h.free i hi), fun i hi => (h.rd i hi).only ho (fun a ha => hx _ (h.at_ i a hi ha).1), h.at_, h.nil, h.own⟩
theorem RSl.mono {Y Z : Nat → Prop} {w : World} {l n : Nat} {A : Nat → Option Addr} {C : Nat → Nat} {F : Nat → List UInt8} (h : RSl w Y l n A C F) (hx : ∀ b, Y b → Z b) : RSl w Z l n A C F :=
  ⟨h.cell, h.free, h.rd, fun i a hi ha => ⟨hx _ (h.at_ i a hi ha).1, (h.at_ i a hi ha).2⟩, h.nil, hx _ h.own⟩
theorem RSl.congr {Y : Nat → Prop} {w : World} {l n : Nat} {A : Nat → Option Addr} {C : Nat → Nat} {F G : Nat → List UInt8} (h : RSl w Y l n A C F) (e : ∀ i, i < n → F i = G i) : RSl w Y l n A C G :=
  ⟨fun i hi => by rw [← e i hi]; exact h.cell i hi, h.free, fun i hi => by rw [← e i hi]; exact h.rd i hi, h.at_, fun i hi => by rw [← e i hi]; exact h.nil i hi, h.own⟩
theorem RSl.put {Y : Nat → Prop} {w : World} {l n : Nat} {A : Nat → Option Addr} {C : Nat → Nat} {F : Nat → List UInt8} (h : RSl w Y l n A C F) (i : Nat) (ao : Option Addr) (c : Nat) (x : List UInt8) (hr : RdB w ao x) (hy : ∀ a, ao = some a → Y a.block ∧ a.block ≠ l) (hn : ao = none → x = [] ∧ c = 0) :
    RSl (w.setCell ⟨l, i, none⟩ (.slice ao x.length c)) Y l n (upd i ao A) (upd i c C) (upd i x F) := by
  have ho : Only (fun b => b = l) w (w.setCell ⟨l, i, none⟩ (.slice ao x.length c)) := Only.setCell (X := fun b => b = l) (p := ⟨l, i, none⟩) (Only.refl _ _) rfl _
  refine ⟨fun j hj => ?_, fun j hj => (frozen_setC _ _ _ _).trans (h.free j hj), fun j hj => ?_, fun j a hj ha => ?_, fun j hj ha => ?_, h.own⟩
  · by_cases e : j = i
    · subst e; rw [upd_at, upd_at, upd_at]; exact World.cell?_setCell_same _ _ _ (h.cell j hj)
    · rw [upd_ne _ _ e, upd_ne _ _ e, upd_ne _ _ e]
      rw [World.cell?_setCell_other _ _ _ _ (by intro h; cases h; exact e rfl)]
      exact h.cell j hj
  · by_cases e : j = i
    · subst e; rw [upd_at, upd_at]; exact hr.only ho (fun a ha => (hy a ha).2)
    · rw [upd_ne _ _ e, upd_ne _ _ e]; exact (h.rd j hj).only ho (fun a ha => (h.at_ j a hj ha).2)
  · by_cases e : j = i
    · subst e; rw [upd_at] at ha; exact hy a ha
    · rw [upd_ne _ _ e] at ha; exact h.at_ j a hj ha
  · by_cases e : j = i
    · subst e; rw [upd_at] at ha; rw [upd_at, upd_at]; exact hn ha
    · rw [upd_ne _ _ e] at ha; rw [upd_ne _ _ e, upd_ne _ _ e]; exact h.nil j hj ha
theorem RSl.lst {Y : Nat → Prop} {w : World} {l n : Nat} {A : Nat → Option Addr} {C : Nat → Nat} {F : Nat → List UInt8} (h : RSl w Y l n A C F) : Lst w (some ⟨l, 0, none⟩) n A C F :=
  ⟨fun _ => ⟨l, 0, rfl, fun i hi => by rw [Nat.zero_add]; exact h.cell i hi⟩, h.rd, h.nil⟩
end Go.Proofs.Ytdicogmjjboilaa
