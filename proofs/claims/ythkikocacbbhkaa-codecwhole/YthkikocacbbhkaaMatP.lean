/- Lists of rows that are made one by one: the statements' own 'sized', the document's 'blank'. -/
import Derived.Test.YthkikocacbbhkaaMatO
namespace Go.Proofs.Ythkikocacbbhkaa
open Go.RowKit

theorem rowsOf_put (k : Nat) (T : Nat → Option Addr) (L U : Nat → Nat) (ao : Option Addr) (l c : Nat) : rowsOf (k + 1) (put k ao T) (put k l L) (put k c U) = rowsOf k T L U ++ [.slice ao l c] := by
  simp only [rowsOf, List.range_succ, List.map_append, List.map_cons, List.map_nil, put_at]
  congr 1
  apply List.map_congr_left
  intro i hi
  have : i ≠ k := by have := List.mem_range.1 hi; omega
  rw [put_ne _ _ this, put_ne _ _ this, put_ne _ _ this]
/-- k rows of cols bytes that were made, in a list that was appended to. -/
structure Rows0 (w : World) (B k cols : Nat) (v : Value) (G : Nat → Nat) (H : M) : Prop where
  lst : w.ownsRow B 23 1 v k (rowsOf k (fun i => some ⟨G i, 0, none⟩) (fun _ => cols) (fun _ => cols))
  row : ∀ i, i < k → Own w (G i) cols cols (H i)
  los : ∀ i, i < k → B ≤ G i
  apart : ∀ i j, i < k → j < k → i ≠ j → G i ≠ G j
theorem own_ne {w : World} {b n g m u : Nat} {v : Value} {xs : List Value} {f : Nat → K} (h : w.ownsRow b 23 1 v n xs) (k : Own w g m u f) : v.ownBlock ≠ some g := by
  obtain ⟨_, _, c, hr, _⟩ := k
  exact owns_apart h hr (by decide)
theorem rows_mat {w : World} {B k cols l cap : Nat} {G : Nat → Nat} {H : M} (h : Rows0 w B k cols (.slice (some ⟨l, 0, none⟩) k cap) G H) : Mat w B w.heap.size l cap k cols G (fun _ => cols) H := by
  rcases h.lst.2 with ⟨h1, _⟩ | ⟨g, cap', cur, h1, h2, h3, h4, h5, h6, h7⟩
  · cases h1
  · cases h1
    have hlt := (h.lst.lt l rfl).2
    refine ⟨⟨fun i => cur.getD i (.slice none 0 0), ⟨cur, h3, by rw [h6, Nat.mul_one], fun i hi => ?_⟩, fun i hi => ?_⟩, h4, h.row, h2, hlt, h.los, fun i hi => (h.row i hi).lt, h.apart⟩
    · have : i < cur.size := by omega
      simp [this]
    · have e := rowsOf_get k (fun i => some ⟨G i, 0, none⟩) (fun _ => cols) (fun _ => cols) i hi
      rw [← h7, Nat.mul_one, List.getElem?_take_of_lt hi, Array.getElem?_toList] at e
      have hc : i < cur.size := by omega
      rw [Array.getElem?_eq_getElem hc] at e
      simp only [Array.getD, hc, dif_pos]
      exact Option.some.inj e
/-- One row more: made, laid into a list of one, appended. -/
theorem Rows0.step {w w2 : World} {B k cols g cap : Nat} {v : Value} {G : Nat → Nat} {H : M} {o : Obj} (h : Rows0 w B k cols v G H) (hB : B ≤ w.heap.size) (hcols : cols ≤ maxLen) (hH : ∀ j, j < cols → H k j = 0)
    (hown : w2.ownsRow B 23 1 (.slice (some ⟨g, 0, none⟩) (k + 1) cap) (k + 1) (rowsOf k (fun i => some ⟨G i, 0, none⟩) (fun _ => cols) (fun _ => cols) ++ [.slice (some ⟨w.heap.size, 0, none⟩) cols cols]))
    (hg : ((w.alloc (.cells (madeCells #[.int .u8 0] cols) 5)).alloc o).grownBy w2 v.ownBlock) : Rows0 w2 B (k + 1) cols (.slice (some ⟨g, 0, none⟩) (k + 1) cap) (put k w.heap.size G) H := by
  have hnew : Own ((w.alloc (.cells (madeCells #[.int .u8 0] cols) 5)).alloc o) w.heap.size cols cols (H k) :=
    Own.of_block (w := w.alloc (.cells (madeCells #[.int .u8 0] cols) 5)) ⟨Nat.le_refl _, hcols, _, row_made w 5 cols _, fun i hi => by rw [hH i hi]; rfl⟩ (Below.heap_alloc _ _ _ (by simp))
  have hv : ∀ q, v.ownBlock = some q → q < w.heap.size := fun q hq => (h.lst.lt q hq).2
  refine ⟨?_, fun i hi => ?_, fun i hi => ?_, fun i j hi hj hne => ?_⟩
  · have e := rowsOf_put k (fun i => some ⟨G i, 0, none⟩) (fun _ => cols) (fun _ => cols) (some ⟨w.heap.size, 0, none⟩) cols cols
    rw [show put k cols (fun _ => cols) = (fun _ => cols) from funext fun i => by unfold put; split <;> rfl, show put k (some (⟨w.heap.size, 0, none⟩ : Addr)) (fun i => some ⟨G i, 0, none⟩) = (fun i => some ⟨put k w.heap.size G i, 0, none⟩) from funext fun i => by unfold put; split <;> rfl] at e
    rw [e]; exact hown
  · by_cases e : i = k
    · subst e; rw [put_at]
      exact hnew.of_block (hg.block _ hnew.lt fun e => by have := hv _ e.symm; omega)
    · rw [put_ne _ _ e]
      have hr := h.row i (by omega)
      have hr2 := (hr.below (below_alloc w (.cells (madeCells #[.int .u8 0] cols) 5))).below (below_alloc _ o)
      exact hr2.of_block (hg.block _ hr2.lt fun e => own_ne h.lst hr e.symm)
  · by_cases e : i = k
    · subst e; rw [put_at]; exact hB
    · rw [put_ne _ _ e]; exact h.los i (by omega)
  · by_cases e : i = k
    · subst e
      rw [put_at, put_ne _ _ (Ne.symm hne)]
      have := (h.row j (by omega)).lt
      omega
    · by_cases e' : j = k
      · subst e'
        rw [put_at, put_ne _ _ e]
        have := (h.row i (by omega)).lt
        omega
      · rw [put_ne _ _ e, put_ne _ _ e']; exact h.apart i j (by omega) (by omega) hne

set_option maxHeartbeats 1000000 in
set_option maxRecDepth 100000 in
theorem blank_any (w : World) (rows cols : Nat) (hr : rows ≤ 1000) (hc : cols ≤ 1000) :
    Calls Try.prog 43 #[.int .i64 (rows : Int), .int .i64 (cols : Int)] w fun e w' => ∃ ao cap, e = .returned (.slice ao rows cap) ∧ (∃ G, Rows0 w' w.heap.size rows cols (.slice ao rows cap) G (fun _ _ => 0)) ∧ Below w.heap.size w w' := by
  obtain ⟨j0, hj, hj0, hj1, hj2⟩ := info_parts info34
  have hm2 := run_make_row' (P := Try.prog) 23 5 (.int .u8 0) 1 Try.underlying23 info5 rfl .i64 .i64 cols (by omega) (by omega)
  go_enter Try.func43, Try.ntmps43
  go_wp2
  go_loopw [5, 6] (fun v i wr => ∃ k : Nat, k ≤ rows ∧ i = .int .i64 k ∧ (∃ ao cap, v = .slice ao k cap) ∧ Hid (∃ G, Rows0 wr w.heap.size k cols v G (fun _ _ => 0)) ∧ Hid (Below w.heap.size w wr)) (fun _ i _ => rows - (intOf i).toNat)
  case atStart => exact ⟨0, Nat.zero_le _, rfl, ⟨none, 0, rfl⟩, ⟨fun _ => 0, World.ownsRow_nil _ _ _ _, fun i hi => absurd hi (Nat.not_lt_zero i), fun i hi => absurd hi (Nat.not_lt_zero i), fun i j hi => absurd hi (Nat.not_lt_zero i)⟩, Below.refl _ _⟩
  case round =>
    obtain ⟨k, hk, rfl, ⟨ao, cap, rfl⟩, hrows, hbel⟩ := hrel
    by_cases hlt : k < rows
    · obtain ⟨G, hrr⟩ := hrows.out
      have HRR : Hid (Rows0 wr w.heap.size k cols (.slice ao k cap) G (fun _ _ => 0)) := hrr
      have hs1 := hbel.out.size
      obtain ⟨wa, hwa⟩ : ∃ wa, wa = wr.alloc (.cells (madeCells #[.int .u8 0] cols) 5) := ⟨_, rfl⟩
      have hmk := hm2 wr
      rw [← hwa] at hmk
      have HSA : Hid (wa.heap.size = wr.heap.size + 1) := by rw [hwa]; exact (by simp : (wr.alloc (.cells (madeCells #[.int .u8 0] cols) 5)).heap.size = wr.heap.size + 1)
      obtain ⟨XS, hXS⟩ : ∃ XS, XS = rowsOf k (fun i => some ⟨G i, 0, none⟩) (fun _ => cols) (fun _ => cols) := ⟨_, rfl⟩
      have HOW : Hid (∀ o, (wa.alloc o).ownsRow w.heap.size 23 1 (.slice ao k cap) k XS) := fun o => by rw [hwa, hXS]; exact (hrr.lst.alloc _).alloc o
      have HXS : Hid (XS = rowsOf k (fun i => some ⟨G i, 0, none⟩) (fun _ => cols) (fun _ => cols)) := hXS
      have HWA : Hid (wa = wr.alloc (.cells (madeCells #[.int .u8 0] cols) 5)) := hwa
      clear hrr hrows hXS hwa
      have HM2 : Hid (∀ w, (Instr.makeSlice 23 (.int .i64 (cols : Int)) (.int .i64 (cols : Int))).run Try.prog w = .ok (.slice (some ⟨w.heap.size, 0, none⟩) cols cols) (w.alloc (.cells (madeCells #[.int .u8 0] cols) 5))) := hm2
      clear hm2
      go_wp2_with (at_builtin; refine wpList_append_lies _ (by rfl) (.tmp 12) (.tmp 15) 24 (by rfl) w.heap.size 23 j0 (.slice none 0 0) 1 24 Try.underlying24 hj hj0 hj1 hj2 (by rfl) (by decide) (.slice ao k cap) k XS (by rfl) (HOW.out _) ⟨wa.heap.size, 0, none⟩ 1 1 [.slice (some ⟨wr.heap.size, 0, none⟩) cols cols] (by rfl) (by rfl) (World.news_of_block (heap_alloc_new wa _)) (by simp [Value.oneCell']) (by decide) (by unfold maxLen; omega) (by omega) (by have := HSA.out; simp; omega) (wa.heap.size + 1) (by simp) ?_; intro g5 cap5 w5 hown5 hgrow5 _ _)
      have HR5 : Hid (∃ G, Rows0 w5 w.heap.size (k + 1) cols (.slice (some ⟨g5, 0, none⟩) (k + 1) cap5) G (fun _ _ => 0)) := by
        rw [HWA.out] at hgrow5
        exact ⟨_, HRR.out.step (H := fun _ _ => 0) hs1 (by unfold maxLen; omega) (fun _ _ => rfl) (by rw [← HXS.out]; exact hown5) hgrow5⟩
      have HB5 : Hid (Below w.heap.size w w5) := by
        rw [HWA.out] at hgrow5
        exact (more (more hbel.out _) _).grown hgrow5 (by simp; omega) (fun q hq => (HRR.out.lst.lt q hq).1)
      clear hown5 hgrow5
      go_wp2_with fail
      go_roundw
      case rel => exact ⟨k + 1, by omega, by go_num, ⟨_, _, rfl⟩, HR5, HB5⟩
      case measure => simp [intOf]; omega
    · obtain rfl : k = rows := by omega
      go_wp2
      go_ret
      exact ⟨ao, cap, rfl, hrows.out, hbel.out⟩
end Go.Proofs.Ythkikocacbbhkaa
