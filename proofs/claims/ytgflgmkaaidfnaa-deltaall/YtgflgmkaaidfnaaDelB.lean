/- Lists of cells, one behind the other. -/
import Derived.Test.YtgflgmkaaidfnaaDelA
import Derived.Test.YtgflgmkaaidfnaaCodR
import Derived.Lib.AppendZeros
namespace Go.Proofs.Ytgflgmkaaidfnaa
open Go.RowKit

theorem rowsOf_cat (p d : Nat) (T T' : Nat → Option Addr) (L L' U U' : Nat → Nat) : rowsOf p T L U ++ rowsOf d T' L' U' = rowsOf (p + d) (cat p T T') (cat p L L') (cat p U U') := by
  unfold rowsOf
  rw [List.range_add, List.map_append, List.map_map]
  congr 1
  · refine List.map_congr_left fun i hi => ?_
    have := List.mem_range.1 hi
    rw [cat_lo _ _ this, cat_lo _ _ this, cat_lo _ _ this]
  · refine List.map_congr_left fun i _ => ?_
    simp only [Function.comp, cat_hi]
theorem lst_owns {w : World} {B n c : Nat} {ao : Option Addr} {A : Nat → Option Addr} {L C : Nat → Nat} {H : M} (h : w.ownsRow B 23 1 (.slice ao n c) n (rowsOf n A L C)) (hr : ∀ i, i < n → Rd w (A i) (L i) (H i)) : Lst w ao n A C L H :=
  ⟨hr, fun hp => by
    rcases h.2 with ⟨_, h1⟩ | ⟨g, cap', cur, h1, _⟩
    · omega
    · cases h1
      refine ⟨g, 0, rfl, fun i hi => ?_⟩
      have := h.cells (g := g) rfl i _ (rowsOf_get n _ _ _ i hi)
      rwa [Addr.add_lit] at this⟩
/-- Cells appended to a list of the call's own. -/
theorem wpList_append_list {w : World} {ops : Array Oper} {rest : List Oper} {o : Oper} {a : Act} {Q : Exit → Act → World → Prop} (hgd : o.guard = none) (s x : Operand)
    (ho : o.op = .call { callee := .builtin .append, args := #[s, x], argTypes := #[27, 27] }) (B k n ca cb : Nat) (ao bo : Option Addr) (xs : List Value) (A : Nat → Option Addr) (L C : Nat → Nat) (H : M)
    (hs : a.eval s = .slice ao k ca) (hx : a.eval x = .slice bo n cb) (h : w.ownsRow B 23 1 (.slice ao k ca) k xs) (hnil : bo = none → n = 0 ∧ cb = 0) (hl : Lst w bo n A C L H) (hk : k ≤ 1000) (hn : n ≤ 1000) (hB : B ≤ w.heap.size)
    (cont : ∀ ao' c' w', w'.ownsRow B 23 1 (.slice ao' (k + n) c') (k + n) (xs ++ rowsOf n A L C) → w.grownBy w' (Value.slice ao k ca).ownBlock → wpList Try.prog ops Q rest (a.put o.dst (.slice ao' (k + n) c')) w') : wpList Try.prog ops Q (o :: rest) a w := by
  obtain ⟨j0, hj, hj0, hj1, hj2⟩ := info_parts info23c
  cases bo with
  | none =>
    obtain ⟨rfl, rfl⟩ := hnil rfl
    have := cont ao ca w (by rw [show rowsOf 0 A L C = [] from rfl, List.append_nil]; exact h) (grown_refl w _)
    exact wpList_append_own_none hgd s x 27 ho B 23 j0 1 Try.underlying27 hj (.slice ao k ca) k xs hs h hx this
  | some ad =>
    refine wpList_append_own w hgd s x 27 ho B 23 j0 (.slice none 0 0) 1 24 Try.underlying27 hj hj0 hj1 hj2 rfl (by decide) (.slice ao k ca) k xs hs h ad n cb (rowsOf n A L C) hx (by rw [rowsOf_length, Nat.mul_one]) (fun j u hu => ?_) (rowsOf_one _ _ _ _) (by unfold maxLen; omega) (by omega) hB ?_
    · have hj : j < n := list_lt (rowsOf_length n A L C) hu
      rw [rowsOf_get _ _ _ _ _ hj] at hu
      obtain ⟨b, off, e, hc⟩ := hl.at_ (by omega)
      cases e
      rw [Addr.add_lit, hc j hj]; exact hu
    · intro v' w' h1 h2 _
      obtain ⟨ao', c', rfl⟩ := owns_form h1
      exact cont ao' c' w' h1 h2
theorem owns_cut {w : World} {B n c : Nat} {ao : Option Addr} {xs : List Value} (h : w.ownsRow B 23 1 (.slice ao n c) n xs) : w.ownsRow B 23 1 (.slice ao 0 c) 0 [] := by
  refine ⟨rfl, ?_⟩
  rcases h.2 with ⟨h1, _⟩ | ⟨g, cap, cur, h1, h2, h3, h4, h5, h6, h7⟩
  · cases h1; exact .inl ⟨rfl, rfl⟩
  · cases h1; exact .inr ⟨g, _, cur, rfl, h2, h3, Nat.zero_le _, h5, h6, by simp⟩
theorem zero_size (m n : Nat) : (Builtin.zeroCells (Value.slice none 0 0).cells m ++ Builtin.zeroCells (Value.slice none 0 0).cells n).size = (m + n) * 1 := by
  rw [Array.size_append, size_zeroCells, size_zeroCells]
  have : (Value.slice none 0 0).cells.size = 1 := rfl
  rw [this]; omega

set_option maxHeartbeats 1000000 in
set_option maxRecDepth 100000 in
theorem grow_any (w : World) (n : Nat) (hn : n ≤ 1000) :
    Calls Try.prog 37 #[.slice none 0 0, .int .i64 (n : Int)] w fun e w' => ∃ ao cap, e = .returned (.slice ao 0 cap) ∧ w'.ownsRow w.heap.size 23 1 (.slice ao 0 cap) 0 [] ∧ Below w.heap.size w w' := by
  by_cases h0 : n = 0
  · subst h0
    go_enter Try.func37, Try.ntmps37
    go_wp2
    go_ret
    exact ⟨none, 0, rfl, World.ownsRow_nil _ _ _ _, Below.refl _ _⟩
  · obtain ⟨j0, hj, hj0, hj1, hj2⟩ := info_parts info23c
    have hr := fun ty => Lib.run_append_nil_zeros (P := Try.prog) w 27 3 ty 23 j0 (.slice none 0 0) .i64 .i64 Try.underlying27 Try.underlying3 hj hj0 n (by omega) (by rw [hj1]; decide) (by omega) (by rw [hj2]; omega)
    have hc1 := grownCap_ge w n 0 23
    have hc2 := grownCap_le_maxLen w n 0 23 (by unfold maxLen; omega)
    obtain ⟨cp, hcp⟩ : ∃ c, c = grownCap w n 0 23 := ⟨_, rfl⟩
    rw [← hcp] at hr hc1 hc2
    obtain ⟨w1, hw1⟩ : ∃ w1, w1 = w.drew.alloc (.cells (Builtin.zeroCells (Value.slice none 0 0).cells n ++ Builtin.zeroCells (Value.slice none 0 0).cells (cp - n)) 23) := ⟨_, rfl⟩
    rw [← hw1] at hr
    have HO : Hid (w1.ownsRow w.heap.size 23 1 (.slice (some ⟨w.heap.size, 0, none⟩) 0 cp) 0 []) := by
      refine ⟨rfl, .inr ⟨w.heap.size, cp, _, rfl, Nat.le_refl _, by rw [hw1]; exact heap_alloc_new w.drew _, Nat.zero_le _, hc2, ?_, by simp⟩⟩
      rw [zero_size, Nat.add_sub_cancel' hc1]
    have HB : Hid (Below w.heap.size w w1) := by rw [hw1]; exact (below_drew _ w).alloc (Nat.le_refl _) _
    clear hw1 hcp hj hj0 hj1 hj2 hc2
    have hpos : (0 : Int) < (n : Int) := by omega
    go_enter Try.func37, Try.ntmps37
    go_wp2_with (at_builtin; refine Lib.wpList_append_run _ (by rfl) (.tmp 20) (.tmp 21) 27 3 (by rfl) (.slice none 0 0) (.int .i64 (n : Int)) (by rfl) (by rfl) _ _ (hr _) ?_)
    go_ret
    exact ⟨_, _, rfl, HO.out, HB.out⟩
end Go.Proofs.Ytgflgmkaaidfnaa
