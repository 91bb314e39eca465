/- The statements' own helpers (a copy with a mark behind it, whether it was kept, what is written over), and what the document answers for padding and zeros. -/
import Derived.Test.YthkikocacbbhkaaKerJ
import Derived.Laws.AppendOwnNone
import Derived.Deep.AppendLies
namespace Go.Proofs.Ythkikocacbbhkaa.Ker
open Go.RowKit

theorem rd_news {w : World} {ad : Addr} {n : Nat} {f : Nat → Nat} (h : Rd w (some ad) n f) : ∀ j u, (cellsOf n f)[j]? = some u → w.cell? (ad.add j) = some u := by
  intro j u hu
  have hj : j < n := by
    rcases Nat.lt_or_ge j n with h | h
    · exact h
    · rw [List.getElem?_eq_none (by rw [cellsOf_length]; exact h)] at hu; cases hu
  obtain ⟨ad', he, hc⟩ := rd_cells h (by rw [cellsOf_length]; omega)
  obtain rfl : ad = ad' := Option.some.inj he
  exact hc j u hu

/-- Bytes appended to nothing: a row of their own. -/
theorem wpList_append_start {w : World} {ops : Array Oper} {rest : List Oper} {o : Oper} {a : Act} {Q : Exit → Act → World → Prop} (hgd : o.guard = none) (s x : Operand)
    (ho : o.op = .call { callee := .builtin .append, args := #[s, x], argTypes := #[23, 23] }) (hs : a.eval s = .slice none 0 0) (ao : Option Addr) (n ca : Nat) (f : Nat → Nat) (hx : a.eval x = .slice ao n ca)
    (hnil : ao = none → n = 0 ∧ ca = 0) (ha : Rd w ao n f) (hn : n ≤ 1000000)
    (h : ∀ v' w', w'.ownsRow w.heap.size 5 1 v' n (cellsOf n f) → w.grownBy w' none → wpList Try.prog ops Q rest (a.put o.dst v') w') : wpList Try.prog ops Q (o :: rest) a w := by
  obtain ⟨i0, hi, hz0, hz1, hz2⟩ := info_parts info5
  cases ao with
  | none =>
    obtain ⟨rfl, rfl⟩ := hnil rfl
    refine wpList_append_own_none hgd s x 23 ho w.heap.size 5 i0 1 Try.underlying23 hi (.slice none 0 0) 0 [] hs (World.ownsRow_nil _ _ _ _) hx ?_
    exact h _ _ (World.ownsRow_nil _ _ _ _) ⟨rfl, rfl, rfl, Nat.le_refl _, fun _ _ _ => rfl⟩
  | some ad =>
    refine wpList_append_own w hgd s x 23 ho w.heap.size 5 i0 (.int .u8 0) 1 1 Try.underlying23 hi hz0 hz1 hz2 rfl (by decide) (.slice none 0 0) 0 [] hs (World.ownsRow_nil _ _ _ _) ad n ca (cellsOf n f) hx (by rw [cellsOf_length]; omega) (rd_news ha) (cellsOf_one n f) (by unfold maxLen; omega) (by omega) (Nat.le_refl _) ?_
    intro v' w' h1 h2 _
    rw [Nat.zero_add, List.nil_append] at h1
    exact h v' w' h1 h2

theorem grown_below {B : Nat} {w w' : World} {row : Option Nat} (hg : w.grownBy w' row) (hB : B ≤ w.heap.size) (hr : ∀ k, row = some k → B ≤ k) : Below B w w' := (Below.refl B w).grown hg hB hr

/-- The bytes, and 77 behind them. -/
def mark (n : Nat) (f : Nat → Nat) (i : Nat) : Nat := if i = n then 77 else f i
theorem mark_lt {n : Nat} {f : Nat → Nat} (hf : ∀ i, f i < 256) (i : Nat) : mark n f i < 256 := by unfold mark; split; decide; exact hf i
theorem mark_rd {w : World} {ao : Option Addr} {n : Nat} {f : Nat → Nat} (hf : ∀ i, f i < 256) (h : Rd w ao (n + 1) (mark n f)) : Rd w ao n f := by
  refine ⟨hf, fun _ => ?_⟩
  obtain ⟨b, off, rfl, hc⟩ := h.2 (by omega)
  refine ⟨b, off, rfl, fun i hi => ?_⟩
  rw [hc i (by omega), mark, if_neg (by omega)]
theorem owns_mark {w : World} {base g n cap : Nat} {f : Nat → Nat} (hf : ∀ i, f i < 256) (h : w.ownsRow base 5 1 (.slice (some ⟨g, 0, none⟩) (n + 1) cap) (n + 1) (cellsOf n f ++ [.int .u8 77])) :
    Rd w (some ⟨g, 0, none⟩) (n + 1) (mark n f) ∧ n + 1 ≤ cap ∧ cap ≤ 9223372036854775807 ∧ base ≤ g := by
  have hc := h.cells (g := g) rfl
  refine ⟨⟨mark_lt hf, fun _ => ⟨g, 0, rfl, fun i hi => ?_⟩⟩, ?_⟩
  · have := hc i (.int .u8 (mark n f i : Int)) (by
      by_cases e : i = n
      · rw [e, List.getElem?_append_right (by rw [cellsOf_length]; omega), cellsOf_length, Nat.sub_self, mark, if_pos rfl]; rfl
      · rw [List.getElem?_append_left (by rw [cellsOf_length]; omega), cellsOf_get _ _ _ (by omega), mark, if_neg e])
    rw [Addr.add_lit] at this
    exact this
  · rcases h.2 with ⟨h1, _⟩ | ⟨g', cap', cur, h1, h2, _, h3, h4, _⟩
    · cases h1
    · cases h1
      exact ⟨h3, by unfold maxLen at h4; omega, h2⟩

theorem Ans.only {w W w' : World} {ro : Option Addr} {n g : Nat} {f : Nat → Nat} (h : Ans w W ro n f) (ho : Only g W w') (hg : Off ro g) : Ans w w' ro n f := by
  rcases h with h | ⟨g', rfl, hg', h'⟩
  · exact .inl h
  · exact .inr ⟨g', rfl, hg', h'.only ho (hg _ rfl)⟩
theorem Ans.lt {w W : World} {ro : Option Addr} {n : Nat} {f : Nat → Nat} (h : Ans w W ro n f) : ∀ a, ro = some a → w.heap.size ≤ a.block ∧ a.block < W.heap.size := by
  rcases h with ⟨rfl, _⟩ | ⟨g', rfl, hg', h'⟩
  · intro a ha; cases ha
  · rintro a ⟨⟩; exact ⟨hg', h'.lt⟩
/-- Bytes that are written over: k of them. -/
def spoilF (f : Nat → Nat) (i : Nat) : Nat := f i ^^^ 85
theorem spoilF_lt {f : Nat → Nat} (hf : ∀ i, f i < 256) (i : Nat) : spoilF f i < 256 := Nat.xor_lt_two_pow (n := 8) (hf i) (by decide)

end Go.Proofs.Ythkikocacbbhkaa.Ker
