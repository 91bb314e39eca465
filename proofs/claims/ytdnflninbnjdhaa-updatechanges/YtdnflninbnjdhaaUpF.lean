/- Bytes of a string in new memory, written into. -/
import Derived.Test.YtdnflninbnjdhaaUpE
namespace Go.Proofs.Ytdnflninbnjdhaa
open Go.RowKit

/-- A store into cells ahead of the frozen ones. -/
theorem storeCells_ahead (g o : Nat) (t : TypeId) (fz : Nat × Nat) : ∀ (vs : List Value) (i : Nat) (cur : Array Value) (w : World), w.heap[g]? = some (.cells cur t fz) → cur.size ≤ fz.1 → o + i + vs.length ≤ cur.size → (∀ v ∈ vs, v.oneCell' = true) →
    (storeCells ⟨g, o, none⟩ vs i).run Try.prog w = .ok () (w.setRow g (cur.toList.take (o + i) ++ vs ++ cur.toList.drop (o + i + vs.length)).toArray)
  | [], i, cur, w, hg, _, _, _ => by
    simp only [storeCells, List.append_nil, List.length_nil, Nat.add_zero, List.take_append_drop, Array.toArray_toList]
    rw [setRow_self w g cur t fz hg]
    rfl
  | v :: rest, i, cur, w, hg, hfz, hl, h1 => by
    have hi : o + i < cur.size := by simp at hl; omega
    have hadd : (⟨g, o, none⟩ : Addr).add i = ⟨g, o + i, none⟩ := by unfold Addr.add; split <;> simp_all
    have hcell : w.cell? ⟨g, o + i, none⟩ = some cur[o + i] := by simp [World.cell?, hg, hi]
    have hfro : w.frozen? ⟨g, o + i, none⟩ = false := by
      obtain ⟨lo, hi'⟩ := fz
      simp only [World.frozen?, hg, Bool.and_eq_false_iff, decide_eq_false_iff_not]
      left
      simp only at hfz
      omega
    have hst : (store ((⟨g, o, none⟩ : Addr).add i) v).run Try.prog w = .ok () (w.setRow g (cur.setIfInBounds (o + i) v)) := by
      rw [hadd, run_store Try.prog w _ v _ (h1 v (by simp)), hcell]
      simp [hfro, setCell_eq_setRow w g (o + i) cur t fz v hg]
    have ih := storeCells_ahead g o t fz rest (i + 1) (cur.setIfInBounds (o + i) v) (w.setRow g (cur.setIfInBounds (o + i) v)) (setRow_heap w g cur _ t _ hg) (by simpa using hfz) (by simp at hl ⊢; omega) (fun x hx => h1 x (by simp [hx]))
    simp only [storeCells, Sem.run_bind, hst, Result.andThen_ok, ih, setRow_setRow]
    congr 3
    have e := list_seg_step cur.toList (o + i) v rest (by simp at hl ⊢; omega)
    simpa [Array.toList_setIfInBounds, Nat.add_assoc] using e
/-- A block of bytes that a string was turned into. -/
def Bz (w : World) (g n : Nat) (F : Nat → UInt8) : Prop := ∃ cur fz, w.heap[g]? = some (.cells cur 5 fz) ∧ cur.size ≤ fz.1 ∧ n ≤ cur.size ∧ ∀ j, j < n → cur[j]? = some (.int .u8 (((F j).toNat : Nat) : Int))
theorem Bz.lt {w : World} {g n : Nat} {F : Nat → UInt8} (h : Bz w g n F) : g < w.heap.size := by obtain ⟨_, _, h, _⟩ := h; exact (Array.getElem?_eq_some_iff.1 h).1
theorem Bz.congr {w : World} {g n : Nat} {F G : Nat → UInt8} (h : Bz w g n F) (e : ∀ j, j < n → F j = G j) : Bz w g n G := by
  obtain ⟨cur, fz, h1, h2, h3, h4⟩ := h
  exact ⟨cur, fz, h1, h2, h3, fun j hj => by rw [← e j hj]; exact h4 j hj⟩
theorem Bz.stay {w w' : World} {g n : Nat} {F : Nat → UInt8} (h : Bz w g n F) (hb : w'.heap[g]? = w.heap[g]?) : Bz w' g n F := by
  obtain ⟨cur, fz, h1, h2⟩ := h
  exact ⟨cur, fz, hb.trans h1, h2⟩
theorem Bz.below {w w' : World} {g n : Nat} {F : Nat → UInt8} (h : Bz w g n F) (hb : Below w.heap.size w w') : Bz w' g n F := h.stay (hb.block g h.lt)
theorem Bz.bec {w : World} {g n cap : Nat} {F : Nat → UInt8} (h : Bz w g n F) (hc : n ≤ cap) : Bec w (some ⟨g, 0, none⟩) n cap F := by
  obtain ⟨cur, fz, h1, h2, h3, h4⟩ := h
  refine ⟨fun _ => ⟨g, 0, rfl, fun j hj => ?_⟩, (fun e => by cases e), hc⟩
  rw [cell_of_row w g (0 + j) cur 5 fz h1, Nat.zero_add]
  exact h4 j hj
theorem conv_newz (v : World) (n : Nat) (F : Nat → UInt8) : ∃ v' cc, (convert 9 24 (.string (sOf (lsF n F)))).run Try.prog v = .ok (.slice (some ⟨v.heap.size, 0, none⟩) n cc) v' ∧ Bz v' v.heap.size n F ∧ n ≤ cc ∧ Below v.heap.size v v' ∧ v.heap.size < v'.heap.size := by
  have hrun := run_bytes_of_string (P := Try.prog) v 9 24 5 (sOf (lsF n F)) Try.underlying9 Try.underlying24 Try.underlying5
  rw [sOf_size, lsF_length] at hrun
  refine ⟨_, _, hrun, ⟨_, _, heap_alloc_new v.drew _, Nat.le_refl _, ?_, fun j hj => ?_⟩, grownCap_ge _ _ _ _, below_then (below_drew _ _) (below_alloc v.drew _), by simp⟩
  · simp [bytesRow, sOf, lsF_length]
  · have hj2 : j < (sOf (lsF n F)).data.size := by simp [sOf, lsF_length]; exact hj
    rw [bytesRow_at _ _ _ hj2]
    have : (sOf (lsF n F)).data[j] = F j := by simp [sOf, lsF]
    rw [this]
/-- Bytes copied into such a block. -/
theorem run_copy_bz {w : World} {g n off k dl dC sl : Nat} {G H : Nat → UInt8} {bo : Option Addr} {cb : Nat} (hg : Bz w g n G) (hb : Bec w bo sl cb H) (h0 : 0 < k) (hk : k = Nat.min sl dl) (hfit : off + k ≤ n) :
    ∃ w', (Builtin.copy_ #[24, 24] 3 #[.slice (some ⟨g, off, none⟩) dl dC, .slice bo sl cb]).run Try.prog w = .ok (goInt k) w' ∧ Bz w' g n (upR G off k H) ∧ Only (fun b => b = g) w w' := by
  have hsl : k ≤ sl := by rw [hk]; exact Nat.min_le_left _ _
  obtain ⟨b, bof, rfl, hc⟩ := hb.rd (by omega)
  have hlen : (byF k H).length = Nat.min sl dl := by rw [byF_length]; exact hk
  obtain ⟨cur, fz, h1, h2, h3, h4⟩ := hg
  have hsrc : ∀ j v, (byF k H)[j]? = some v → w.cell? ((⟨b, bof, none⟩ : Addr).add j) = some v := fun j v hv => by
    have hj := list_lt (byF_length k H) hv
    rw [byF_get _ _ _ hj] at hv
    rw [Addr.add_lit, hc j (by omega)]; exact hv
  have hl := run_loadCells_list (P := Try.prog) w ⟨b, bof, none⟩ (byF k H) hsrc
  have hst := storeCells_ahead g off 5 fz (byF k H) 0 cur w h1 h2 (by rw [byF_length]; omega) (byF_one k H)
  obtain ⟨i, hq, _, hi, _⟩ := info_parts info5
  have hrun : (Builtin.copy_ #[24, 24] 3 #[.slice (some ⟨g, off, none⟩) dl dC, .slice (some ⟨b, bof, none⟩) sl cb]).run Try.prog w = .ok (goInt (byF k H).length) (w.setRow g (cur.toList.take off ++ byF k H ++ cur.toList.drop (off + (byF k H).length)).toArray) := by
    simp [Builtin.copy_, run_underlying Try.underlying24, Builtin.lenOf, Builtin.firstCells, sizeOf, typeInfo, hq, hi, ← hlen, hl, hst]
  rw [byF_length] at hrun
  refine ⟨_, hrun, ⟨_, fz, setRow_heap w g _ _ 5 _ h1, ?_, ?_, fun j hj => ?_⟩, only_setRow _ _ _⟩
  · simp [byF_length]; omega
  · simp [byF_length]; omega
  · have hcl : cur.toList.length = cur.size := by simp
    rw [List.getElem?_toArray, List.append_assoc]
    by_cases c1 : j < off
    · rw [List.getElem?_append_left (by rw [List.length_take]; omega), List.getElem?_take_of_lt c1, upR_out (by omega)]
      simpa using h4 j hj
    · rw [List.getElem?_append_right (by rw [List.length_take]; omega), List.length_take, hcl, Nat.min_eq_left (show off ≤ cur.size by omega)]
      by_cases c2 : j < off + k
      · rw [List.getElem?_append_left (by rw [byF_length]; omega), byF_get _ _ _ (by omega), upR_in (by omega)]
      · rw [List.getElem?_append_right (by rw [byF_length]; omega), byF_length, List.getElem?_drop, show off + k + (j - off - k) = j by omega, upR_out (by omega)]
        simpa using h4 j hj
theorem run_copy_no (w : World) (dp sp : Option Addr) (dl dC sC : Nat) : (Builtin.copy_ #[24, 24] 3 #[.slice dp dl dC, .slice sp 0 sC]).run Try.prog w = .ok (goInt 0) w :=
  run_copy_none w 24 24 3 5 dp sp dl dC 0 sC Try.underlying24 (by kernel_rfl) (Nat.zero_min _)
end Go.Proofs.Ytdnflninbnjdhaa
