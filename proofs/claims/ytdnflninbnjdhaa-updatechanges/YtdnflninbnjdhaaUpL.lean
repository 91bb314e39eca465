/- UpdateChanges, for whatever comes in. -/
import Derived.Test.YtdnflninbnjdhaaUpK
namespace Go.Proofs.Ytdnflninbnjdhaa
open Go.RowKit

theorem chOf_set (D : Nat → Int) (T : Nat → Option Addr) (L U : Nat → Nat) (a : Option Addr) (l u : Nat) : ∀ {n i : Nat}, i < n → (chOf D T L U n).set (i * 2 + 1) (.slice a l u) = chOf D (put i a T) (put i l L) (put i u U) n
  | 0, i, h => absurd h (Nat.not_lt_zero i)
  | n + 1, i, h => by
    have hl := chOf_length D T L U n
    rw [chOf, chOf]
    by_cases e : i < n
    · rw [List.set_append_left _ _ (by omega), chOf_set D T L U a l u e, put_ne _ _ (show n ≠ i by omega), put_ne _ _ (show n ≠ i by omega), put_ne _ _ (show n ≠ i by omega)]
    · obtain rfl : i = n := by omega
      rw [List.set_append_right _ _ (by omega), hl, show i * 2 + 1 - i * 2 = 1 by omega, put_at, put_at, put_at]
      congr 1
      exact chOf_congr fun j hj => ⟨rfl, (put_ne _ _ (by omega)).symm, (put_ne _ _ (by omega)).symm, (put_ne _ _ (by omega)).symm⟩
/-- A list of changes that is written over: those from i on are as they were but for their bytes. -/
structure Spl (X : Nat → Prop) (B : Nat) (ws wr : World) (g n cap : Nat) (D : Nat → Int) (T : Nat → Option Addr) (m : Nat) (U : Nat → Nat) (i : Nat) : Prop where
  out : ∃ T' L' U', wr.ownsRow B 33 2 (.slice (some ⟨g, 0, none⟩) n cap) n (chOf D T' L' U' n) ∧ ∀ j, i ≤ j → j < n → T' j = T j ∧ L' j = m ∧ U' j = U j
  row : ∀ j, i ≤ j → j < n → ∃ d G, T j = some ⟨d, 0, none⟩ ∧ X d ∧ OwU B wr (some ⟨d, 0, none⟩) m (U j) G
  only : Only X ws wr
  self : X g
theorem Spl.cell {X : Nat → Prop} {B : Nat} {ws wr : World} {g n cap : Nat} {D : Nat → Int} {T : Nat → Option Addr} {m : Nat} {U : Nat → Nat} {i : Nat} (h : Spl X B ws wr g n cap D T m U i) {j : Nat} (hj : i ≤ j) (hn : j < n) : wr.cell? ⟨g, j * 2 + 1, none⟩ = some (.slice (T j) m (U j)) := by
  obtain ⟨T', L', U', ho, hs⟩ := h.out
  obtain ⟨a, b, c⟩ := hs j hj hn
  have := ho.cells (g := g) rfl _ _ (chOf_get D T' L' U' n j hn).2
  rw [Addr.add_lit, Nat.zero_add, a, b, c] at this
  exact this
/-- A byte is written over. -/
theorem Spl.byte {X : Nat → Prop} {B : Nat} {ws wr : World} {g n cap : Nat} {D : Nat → Int} {T : Nat → Option Addr} {m : Nat} {U : Nat → Nat} {i d : Nat} (h : Spl X B ws wr g n cap D T m U i) (hi : i < n) (hd : T i = some ⟨d, 0, none⟩) (hap : ∀ j, i < j → j < n → ∀ a, T j = some a → d ≠ a.block) (k : Nat) (u : UInt8) : Spl X B ws (wr.setCell ⟨d, k, none⟩ (.int .u8 ((u.toNat : Nat) : Int))) g n cap D T m U i := by
  obtain ⟨d', G, e, hx, ho⟩ := h.row i (Nat.le_refl _) hi
  rw [hd] at e
  cases e
  obtain ⟨T', L', U', hl, hs⟩ := h.out
  have hgd : g ≠ d := fun e => by
    obtain ⟨_, _, c1, k1⟩ := owns_at hl (a := ⟨g, 0, none⟩) rfl
    obtain ⟨_, _, c2, k2⟩ := owns_at ho (a := ⟨d, 0, none⟩) rfl
    simp only at k1 k2
    rw [e, k2] at k1
    cases k1
  refine ⟨⟨T', L', U', owns_blocks hl fun a ha => Below.heap_setCell _ _ _ _ ?_, hs⟩, fun j hj hn => ?_, h.only.setCell hx _, h.self⟩
  · cases ha; exact fun e => hgd e
  · by_cases e : j = i
    · subst e; exact ⟨d, _, hd, hx, ho.set k u⟩
    · obtain ⟨d2, G2, e2, hx2, ho2⟩ := h.row j hj hn
      have := hap j (by omega) hn _ e2
      exact ⟨d2, G2, e2, hx2, owns_blocks ho2 fun a ha => Below.heap_setCell _ _ _ _ (by cases ha; exact fun e => this e.symm)⟩
/-- A byte is appended, and the list's cell stored. -/
theorem Spl.app {X : Nat → Prop} {B : Nat} {ws wr w1 w2 : World} {g n cap : Nat} {D : Nat → Int} {T : Nat → Option Addr} {m : Nat} {U : Nat → Nat} {i d : Nat} (h : Spl X B ws wr g n cap D T m U i) (hi : i < n) (hd : T i = some ⟨d, 0, none⟩) (hap : ∀ j, i < j → j < n → ∀ a, T j = some a → d ≠ a.block) (hb : Below wr.heap.size wr w1) (hg : w1.grownBy w2 (some d)) (ao' : Option Addr) (c' l : Nat) :
    Spl X B ws (w2.setCell ⟨g, i * 2 + 1, none⟩ (.slice ao' l c')) g n cap D T m U (i + 1) ∧ w2.cell? ⟨g, i * 2 + 1, none⟩ = some (.slice (T i) m (U i)) ∧ w2.frozen? ⟨g, i * 2 + 1, none⟩ = false := by
  obtain ⟨d', G, e, hx, ho⟩ := h.row i (Nat.le_refl _) hi
  rw [hd] at e
  cases e
  obtain ⟨T', L', U', hl, hs⟩ := h.out
  have hgd : g ≠ d := fun e => by
    obtain ⟨_, _, c1, k1⟩ := owns_at hl (a := ⟨g, 0, none⟩) rfl
    obtain ⟨_, _, c2, k2⟩ := owns_at ho (a := ⟨d, 0, none⟩) rfl
    simp only at k1 k2
    rw [e, k2] at k1
    cases k1
  have hsz := hb.size
  have stay : ∀ x, x < wr.heap.size → x ≠ d → w2.heap[x]? = wr.heap[x]? := fun x hx' hne => (hg.block x (by omega) (fun e => hne (by simpa using e))).trans (hb.block x hx')
  have hl2 : w2.ownsRow B 33 2 (.slice (some ⟨g, 0, none⟩) n cap) n (chOf D T' L' U' n) := owns_blocks hl fun a ha => by cases ha; exact stay g (owns_at hl (a := ⟨g, 0, none⟩) rfl).2.1 hgd
  have hst := World.ownsRow.stored hl2 (i * 2 + 1) (.slice ao' l c')
  rw [chOf_set D T' L' U' ao' l c' hi] at hst
  have honly : Only X ws w2 := ⟨hg.os.trans (hb.os.trans h.only.os), hg.tape.trans (hb.tape.trans h.only.tape), hg.output.trans (hb.output.trans h.only.output), Nat.le_trans h.only.size (Nat.le_trans hb.size hg.size), fun x hx' hn => by
    refine (stay x (Nat.lt_of_lt_of_le hx' h.only.size) fun e => hn (e ▸ hx)).trans (h.only.block x hx' hn)⟩
  refine ⟨⟨⟨_, _, _, hst.1, fun j hj hn => ?_⟩, fun j hj hn => ?_, honly.setCell h.self _, h.self⟩, ?_, ?_⟩
  · rw [put_ne _ _ (show j ≠ i by omega), put_ne _ _ (show j ≠ i by omega), put_ne _ _ (show j ≠ i by omega)]
    exact hs j (by omega) hn
  · obtain ⟨d2, G2, e2, hx2, ho2⟩ := h.row j (by omega) hn
    have hne := hap j (by omega) hn _ e2
    have hgd2 : g ≠ d2 := fun e => by
      obtain ⟨_, _, c1, k1⟩ := owns_at hl (a := ⟨g, 0, none⟩) rfl
      obtain ⟨_, _, c2, k2⟩ := owns_at ho2 (a := ⟨d2, 0, none⟩) rfl
      simp only at k1 k2
      rw [e, k2] at k1
      cases k1
    refine ⟨d2, G2, e2, hx2, owns_blocks ho2 fun a ha => ?_⟩
    cases ha
    exact (Below.heap_setCell _ _ _ _ (fun e => hgd2 e.symm)).trans (stay d2 (owns_at ho2 (a := ⟨d2, 0, none⟩) rfl).2.1 (fun e => hne e.symm))
  · obtain ⟨a, b, c⟩ := hs i (Nat.le_refl _) hi
    have := hl2.cells (g := g) rfl _ _ (chOf_get D T' L' U' n i hi).2
    rw [Addr.add_lit, Nat.zero_add, a, b, c] at this
    exact this
  · exact World.ownsRow.frozenAt hl2 _
theorem spl_of {X : Nat → Prop} {B : Nat} {w : World} {g n cap : Nat} {D : Nat → Int} {T : Nat → Option Addr} {m : Nat} {U : Nat → Nat} {H : Nat → Nat → UInt8} (h : Chs B w (some ⟨g, 0, none⟩) n cap D T (fun _ => m) U H) (hm : 0 < m) (hX : ∀ b, B ≤ b → b < w.heap.size → X b) (ws : World) (ho : Only X ws w) : Spl X B ws w g n cap D T m U 0 := by
  refine ⟨⟨T, _, U, h.out, fun j _ _ => ⟨rfl, rfl, rfl⟩⟩, fun j _ hn => ?_, ho, ?_⟩
  · obtain ⟨d, e, h1, h2⟩ := (h.row j hn).at_ hm
    have := h.row j hn
    rw [e] at this
    exact ⟨d, _, e, hX d h1 h2, this⟩
  · have := owns_at h.out (a := ⟨g, 0, none⟩) rfl
    exact hX g this.1 this.2.1
end Go.Proofs.Ytdnflninbnjdhaa
