/- A list of slices in new memory. -/
import Derived.Test.YtgkabcefohfmmaaKerP
namespace Go.Proofs.Ytgkabcefohfmmaa
open Go.RowKit

/-- The cells of k slices. -/
def rowsOf (k : Nat) (T : Nat → Option Addr) (L U : Nat → Nat) : List Value := (List.range k).map fun i => .slice (T i) (L i) (U i)
theorem rowsOf_length (k : Nat) (T : Nat → Option Addr) (L U : Nat → Nat) : (rowsOf k T L U).length = k := by simp [rowsOf]
theorem rowsOf_get (k : Nat) (T : Nat → Option Addr) (L U : Nat → Nat) (i : Nat) (h : i < k) : (rowsOf k T L U)[i]? = some (.slice (T i) (L i) (U i)) := by simp [rowsOf, h]
def put {α : Type} (k : Nat) (v : α) (f : Nat → α) (i : Nat) : α := if i = k then v else f i
theorem put_at {α : Type} (k : Nat) (v : α) (f : Nat → α) : put k v f k = v := by simp [put]
theorem put_ne {α : Type} {k i : Nat} (v : α) (f : Nat → α) (h : i ≠ k) : put k v f i = f i := by simp [put, h]
theorem rowsOf_put (k : Nat) (T : Nat → Option Addr) (L U : Nat → Nat) (ao : Option Addr) (c : Nat) : rowsOf (k + 1) (put k ao T) L (put k c U) = rowsOf k T L U ++ [.slice ao (L k) c] := by
  simp only [rowsOf, List.range_succ, List.map_append, List.map_cons, List.map_nil, put_at]
  congr 1
  apply List.map_congr_left
  intro i hi
  have : i ≠ k := by have := List.mem_range.1 hi; omega
  rw [put_ne _ _ this, put_ne _ _ this]
theorem owns_form {w : World} {base n : Nat} {v : Value} {xs : List Value} (h : w.ownsRow base 5 1 v n xs) : ∃ ao cap, v = .slice ao n cap := by
  rcases h.2 with ⟨rfl, rfl⟩ | ⟨g, cap, cur, rfl, _⟩
  · exact ⟨none, 0, rfl⟩
  · exact ⟨_, cap, rfl⟩
theorem owns_base {w : World} {base base' e size n : Nat} {v : Value} {xs : List Value} (h : w.ownsRow base e size v n xs) (hb : base' ≤ base) : w.ownsRow base' e size v n xs := by
  refine ⟨h.1, ?_⟩
  rcases h.2 with h1 | ⟨g, cap, cur, h1, h2, h3⟩
  · exact .inl h1
  · exact .inr ⟨g, cap, cur, h1, by omega, h3⟩
/-- Bytes and slices lie in rows of their own. -/
theorem owns_apart {w : World} {b b' n m : Nat} {v u : Value} {xs ys : List Value} (h : w.ownsRow b 5 1 v n xs) (k : w.ownsRow b' 23 1 u m ys) : v.ownBlock = none ∨ v.ownBlock ≠ u.ownBlock := by
  rcases h.2 with ⟨rfl, _⟩ | ⟨g, cap, cur, rfl, _, h1, _⟩
  · exact .inl rfl
  · right
    rcases k.2 with ⟨rfl, _⟩ | ⟨g', cap', cur', rfl, _, k1, _⟩
    · intro e; cases e
    · intro e
      have e' : g = g' := Option.some.inj e
      rw [e', k1] at h1
      cases h1
theorem owns_lst {w : World} {base ll cap : Nat} {to : Option Addr} {T : Nat → Option Addr} {L U : Nat → Nat} {H : Nat → Nat → Nat} (h : w.ownsRow base 23 1 (.slice to ll cap) ll (rowsOf ll T L U)) (hr : ∀ i, i < ll → Rd w (T i) (L i) (H i)) : Lst w to ll T U L H := by
  refine ⟨hr, fun hp => ?_⟩
  rcases h.2 with ⟨_, h1⟩ | ⟨g, cap', cur, h1, _⟩
  · omega
  · cases h1
    refine ⟨g, 0, rfl, fun i hi => ?_⟩
    have := h.cells (g := g) rfl i _ (rowsOf_get ll T L U i hi)
    rwa [Addr.add_lit] at this
theorem owns_rd' {w : World} {base : Nat} {ao : Option Addr} {n cap : Nat} {f : Nat → Nat} (hf : ∀ i, f i < 256) (h : w.ownsRow base 5 1 (.slice ao n cap) n (cellsOf n f)) : Rd w ao n f := by
  refine ⟨hf, fun hp => ?_⟩
  rcases h.2 with ⟨_, h1⟩ | ⟨g, cap', cur, h1, _⟩
  · omega
  · cases h1
    refine ⟨g, 0, rfl, fun i hi => ?_⟩
    have := h.cells (g := g) rfl i _ (cellsOf_get n f i hi)
    rwa [Addr.add_lit] at this

/-- What has been copied: k slices, each in a row of its own. -/
structure Copied (w : World) (B k : Nat) (v : Value) (T : Nat → Option Addr) (L U : Nat → Nat) (H : Nat → Nat → Nat) : Prop where
  out : w.ownsRow B 23 1 v k (rowsOf k T L U)
  row : ∀ i, i < k → w.ownsRow B 5 1 (.slice (T i) (L i) (U i)) (L i) (cellsOf (L i) (H i))
theorem Copied.step {w w1 w2 : World} {B k : Nat} {v v' : Value} {T : Nat → Option Addr} {L U : Nat → Nat} {H : Nat → Nat → Nat} {ao : Option Addr} {c : Nat} {o : Obj} (h : Copied w B k v T L U H)
    (hg1 : w.grownBy w1 none) (h1 : w1.ownsRow B 5 1 (.slice ao (L k) c) (L k) (cellsOf (L k) (H k))) (hg2 : (w1.alloc o).grownBy w2 v.ownBlock) (h2 : w2.ownsRow B 23 1 v' (k + 1) (rowsOf k T L U ++ [.slice ao (L k) c])) :
    Copied w2 B (k + 1) v' (put k ao T) L (put k c U) H := by
  have nn : ∀ u : Value, u.ownBlock = none ∨ u.ownBlock ≠ none := fun u => by cases u.ownBlock <;> simp
  have ov : w1.ownsRow B 23 1 v k (rowsOf k T L U) := h.out.kept hg1 (nn v)
  refine ⟨by rw [rowsOf_put]; exact h2, fun i hi => ?_⟩
  by_cases e : i = k
  · subst e
    rw [put_at, put_at]
    exact (h1.alloc o).kept hg2 (owns_apart h1 ov)
  · rw [put_ne _ _ e, put_ne _ _ e]
    have r := (h.row i (by omega)).kept hg1 (nn _)
    exact (r.alloc o).kept hg2 (owns_apart r ov)

theorem info23' : (Try.prog.info? 23).map (fun i => (i.zero, i.size, i.bytes)) = some (some (.slice none 0 0), 1, 24) := by kernel_rfl

set_option maxHeartbeats 1000000 in
set_option maxRecDepth 100000 in
theorem twin_any (w : World) (lo : Option Addr) (ll cl : Nat) (A : Nat → Option Addr) (C L : Nat → Nat) (H : Nat → Nat → Nat) (hll : ll ≤ 1000) (hl : Lst w lo ll A C L H) (hn : ∀ i, i < ll → A i = none → L i = 0 ∧ C i = 0) (hL : ∀ i, i < ll → L i ≤ 1000000) (hH : ∀ i j, H i j < 256) :
    Calls Try.prog 24 #[.slice lo ll cl] w fun e w' => ∃ to tc T U, e = .returned (.slice to ll tc) ∧ Lst w' to ll T U L H ∧ Below w.heap.size w w' := by
  obtain ⟨j0, hj, hj0, hj1, hj2⟩ := info_parts info23'
  have HL : Hid (Lst w lo ll A C L H) := hl
  have HN : Hid (∀ i, i < ll → A i = none → L i = 0 ∧ C i = 0) := hn
  have HM : Hid (∀ i, i < ll → L i ≤ 1000000) := hL
  have HH : Hid (∀ i j, H i j < 256) := hH
  clear hl hn hL hH
  go_enter Try.func24, Try.ntmps24
  go_wp2
  go_loopw [3, 4] (fun v i wr => ∃ k : Nat, k ≤ ll ∧ i = .int .i64 k ∧ (∃ to tc, v = .slice to k tc) ∧ Hid (∃ T U, Copied wr w.heap.size k v T L U H) ∧ Hid (Below w.heap.size w wr)) (fun _ i _ => ll - (intOf i).toNat)
  case atStart => exact ⟨0, Nat.zero_le _, rfl, ⟨none, 0, rfl⟩, ⟨fun _ => none, fun _ => 0, World.ownsRow_nil _ _ _ _, fun i hi => absurd hi (Nat.not_lt_zero i)⟩, Below.refl _ _⟩
  case round =>
    obtain ⟨k, hk, rfl, ⟨to, tc, rfl⟩, hcop, hbel⟩ := hrel
    by_cases hlt : k < ll
    · obtain ⟨b, off, rfl, hcl⟩ := (HL.out.below hbel.out).at_ (by omega)
      have ck := hcl k hlt
      clear hcl
      obtain ⟨T, U, hcp⟩ := hcop.out
      have HCP : Hid (Copied wr w.heap.size k (.slice to k tc) T L U H) := hcp
      have HR : Hid (Rd wr (A k) (L k) (H k)) := (HL.out.below hbel.out).rd k hlt
      have hs1 : w.heap.size ≤ wr.heap.size := hbel.out.size
      have hLk := HM.out k hlt
      obtain ⟨XS, hXS⟩ : ∃ X, X = rowsOf k T L U := ⟨_, rfl⟩
      have HXS : Hid (rowsOf k T L U = XS) := hXS.symm
      clear hcop hcp hXS
      go_wp2_with (first
        | (at_builtin; refine wpList_append_start (by rfl) (.tmp 13) (.tmp 17) (by rfl) (by rfl) (A k) (L k) (C k) (H k) (by rfl) (HN.out k hlt) HR.out hLk ?_; intro v1 w1 hown1 hgrow1; obtain ⟨ao1, cap1, rfl⟩ := owns_form hown1; have HO1 : Hid (w1.ownsRow w.heap.size 5 1 (.slice ao1 (L k) cap1) (L k) (cellsOf (L k) (H k))) := owns_base hown1 hs1; have HG1 : Hid (wr.grownBy w1 none) := hgrow1; have HOV : Hid (w1.ownsRow w.heap.size 23 1 (.slice to k tc) k XS) := (by rw [← HXS.out]; exact HCP.out.out.kept hgrow1 (by cases (Value.slice to k tc).ownBlock <;> simp)); have hs2 : wr.heap.size ≤ w1.heap.size := hgrow1.size; clear hown1 hgrow1)
        | (at_builtin; refine wpList_append_lies _ (by rfl) (.tmp 12) (.tmp 19) 31 (by rfl) w.heap.size 23 j0 (.slice none 0 0) 1 24 Try.underlying31 hj hj0 hj1 hj2 (by rfl) (by decide) (.slice to k tc) k XS (by rfl) (HOV.out.alloc _) ⟨w1.heap.size, 0, none⟩ 1 1 [.slice ao1 (L k) cap1] (by rfl) (by rfl) (World.news_of_block (heap_alloc_new w1 _)) (by simp [Value.oneCell']) (by decide) (by unfold maxLen; omega) (by omega) (by simp; omega) (w1.heap.size + 1) (by simp) ?_; intro g cap w2 hown2 hgrow2 _ _))
      have hb1 : Below w.heap.size w w1 := hbel.out.grown HG1.out hs1 (fun r hr => by cases hr)
      have hb2 : Hid (Below w.heap.size w w2) := (hb1.alloc (by omega) _).grown hgrow2 (by simp; omega) (fun r hr => (HOV.out.lt r hr).1)
      have hcop2 : Hid (∃ T U, Copied w2 w.heap.size (k + 1) (.slice (some ⟨g, 0, none⟩) (k + 1) cap) T L U H) := ⟨_, _, HCP.out.step HG1.out HO1.out hgrow2 (by rw [HXS.out]; exact hown2)⟩
      clear hown2 hgrow2 hb1
      go_roundw
      case rel => exact ⟨k + 1, by omega, by go_num, ⟨_, _, rfl⟩, hcop2, hb2⟩
      case measure => simp [intOf]; omega
    · obtain rfl : k = ll := by omega
      obtain ⟨T, U, hcp⟩ := hcop.out
      have HQ : Hid (Lst wr to k T U L H) := owns_lst hcp.out fun i hi => owns_rd' (HH.out i) (hcp.row i hi)
      clear hcop hcp
      go_wp2
      go_ret
      exact ⟨to, tc, T, U, rfl, HQ.out, hbel.out⟩
end Go.Proofs.Ytgkabcefohfmmaa
