/- What the document's own All and Parity answer, whatever is handed in. -/
import Derived.Test.YtgflgmkaaidfnaaDelL
namespace Go.Proofs.Ytgflgmkaaidfnaa
open Go.RowKit

/-- One row is exchanged for a new one. -/
theorem renew_mat {w w' : World} {B l cl rows cols k g : Nat} {G U : Nat → Nat} {H : M} {f : Nat → K} (h : Mat w B w.heap.size l cl rows cols G U H) (hk : k < rows) (hb : Below w.heap.size w w') (hg : w.heap.size ≤ g) (ho : Own w' g cols cols f) (hB : B ≤ w.heap.size) :
    Mat (w'.setCell ⟨l, k, none⟩ (.slice (some ⟨g, 0, none⟩) cols cols)) B (w'.setCell ⟨l, k, none⟩ (.slice (some ⟨g, 0, none⟩) cols cols)).heap.size l cl rows cols (put k g G) (put k cols U) (put k f H) := by
  obtain ⟨c, hr, hc⟩ := h.lst
  have hl := h.hi
  have hgl := ho.lt
  have hs := hb.size
  have hsz : (w'.setCell ⟨l, k, none⟩ (.slice (some ⟨g, 0, none⟩) cols cols)).heap.size = w'.heap.size := by simp [World.setCell]
  refine ⟨⟨_, (hr.of_block (hb.block l hl)).set k _, fun i hi => ?_⟩, h.room, fun i hi => ?_, h.lo, by rw [hsz]; omega, fun i hi => ?_, fun i hi => ?_, fun i j hi hj hne => ?_⟩
  · by_cases e : i = k
    · subst e; rw [put_at, put_at]; simp
    · rw [put_ne _ _ e, put_ne _ _ e]; simp only [e, if_false]; exact hc i hi
  · by_cases e : i = k
    · subst e; rw [put_at, put_at, put_at]; exact ho.of_block (Below.heap_setCell _ _ _ _ (by simp; omega))
    · rw [put_ne _ _ e, put_ne _ _ e, put_ne _ _ e]
      have h1 := h.ne_l hi
      exact ((h.row i hi).below hb).of_block (Below.heap_setCell _ _ _ _ (by simpa using h1))
  · by_cases e : i = k
    · subst e; rw [put_at]; omega
    · rw [put_ne _ _ e]; exact h.los i hi
  · rw [hsz]
    by_cases e : i = k
    · subst e; rw [put_at]; exact hgl
    · rw [put_ne _ _ e]; have := h.his i hi; omega
  · by_cases e : i = k
    · by_cases e' : j = k
      · omega
      · subst e
        rw [put_at, put_ne _ _ e']
        have := h.his j hj
        omega
    · by_cases e' : j = k
      · subst e'
        rw [put_at, put_ne _ _ e]
        have := h.his i hi
        omega
      · rw [put_ne _ _ e, put_ne _ _ e']; exact h.apart i j hi hj hne
theorem Mat.grow {w w' : World} {B l cl rows cols : Nat} {G U : Nat → Nat} {H : M} (h : Mat w B w.heap.size l cl rows cols G U H) (hb : Below w.heap.size w w') : Mat w' B w'.heap.size l cl rows cols G U H := by
  have h' := h.below hb
  exact ⟨h'.lst, h'.room, h'.row, h'.lo, Nat.lt_of_lt_of_le h'.hi hb.size, h'.los, fun i hi => Nat.lt_of_lt_of_le (h'.his i hi) hb.size, h'.apart⟩
/-- A copy is an answer. -/
theorem copied_ans {w w' : World} {n m cap : Nat} {ao : Option Addr} {T : Nat → Option Addr} {U : Nat → Nat} {H : M} (h : Copied w' w.heap.size n (.slice ao n cap) T (fun _ => m) U H) (hm : 0 < n → 1 ≤ m) : Ans w w' ao n cap m H := by
  by_cases h0 : 0 < n
  · obtain ⟨l, G, rfl, hmat⟩ := Copied.mat h (fun _ _ => rfl) (hm h0) h0
    exact .inr ⟨l, G, U, rfl, hmat⟩
  · obtain rfl : n = 0 := by omega
    rcases h.out.2 with ⟨e, _⟩ | ⟨g, c, cur, e, hg, h3, _, _, h6, _⟩
    · cases e; exact .inl ⟨rfl, rfl, rfl⟩
    · cases e
      have hlt := (h.out.lt g rfl).2
      refine .inr ⟨g, fun _ => 0, fun _ => 0, rfl, ⟨fun i => cur.getD i (.slice none 0 0), ⟨cur, h3, by rw [h6, Nat.mul_one], fun i hi => ?_⟩, fun i hi => absurd hi (Nat.not_lt_zero i)⟩, Nat.zero_le _, fun i hi => absurd hi (Nat.not_lt_zero i), hg, hlt, fun i hi => absurd hi (Nat.not_lt_zero i), fun i hi => absurd hi (Nat.not_lt_zero i), fun i j hi => absurd hi (Nat.not_lt_zero i)⟩
      have : i < cur.size := by omega
      simp [this]
theorem first_or {p : Nat → Prop} (n : Nat) : ∃ q, q ≤ n ∧ (∀ i, i < q → p i) ∧ (q < n → ¬ p q) := by
  by_cases h : ∀ i, i < n → p i
  · exact ⟨n, Nat.le_refl _, h, fun h => absurd h (Nat.lt_irrefl n)⟩
  · obtain ⟨q, h1, h2, h3⟩ := first_not h
    exact ⟨q, by omega, h3, fun _ => h2⟩
/-- Whether n deltas are as they must be. -/
def dOk (pl : Nat) (PL DL : Nat → Nat) (i : Nat) : Prop := 1 ≤ DL i ∧ DL i ≤ 65536 ∧ DL i = cat pl PL DL 0
theorem fit_yes {pl dl : Nat} {PL DL : Nat → Nat} (ha : alikeB pl PL = true) (h : ∀ i, i < dl → dOk pl PL DL i) : fitB pl PL dl dl DL = true := by
  unfold fitB
  rw [decide_eq_true rfl, Bool.true_and]
  refine decide_eq_true fun i hi => ?_
  by_cases e : i < pl
  · rw [cat_lo _ _ e, cat_lo _ _ (by omega)]; exact alikeB_true ha i e
  · obtain ⟨q, rfl⟩ : ∃ q, i = pl + q := ⟨i - pl, by omega⟩
    rw [cat_hi]; exact h q (by omega)
theorem fit_no {pl dl i : Nat} {PL DL : Nat → Nat} (hi : i < dl) (h : ¬ dOk pl PL DL i) : fitB pl PL dl dl DL = false := by
  unfold fitB
  rw [decide_eq_true rfl, Bool.true_and]
  refine decide_eq_false fun g => h ?_
  have := g (pl + i) (by omega)
  rw [cat_hi] at this
  exact this
end Go.Proofs.Ytgflgmkaaidfnaa
