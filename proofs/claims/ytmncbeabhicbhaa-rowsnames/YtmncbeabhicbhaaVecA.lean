/- Lists of integers in memory: as they are read, and as the call's own. -/
import Derived.Test.YtmncbeabhicbhaaLayA
import Derived.Test.YtmncbeabhicbhaaVecMath
import Derived.Laws.AppendOwnNone
import Derived.Laws.OwnMore
import Derived.Deep.AppendLies
import Derived.Deep.OwnRows
namespace Go.Proofs.Ytmncbeabhicbhaa
open Go.RowKit

/-- A slice of n integers that begins at ao reads as R 0, R 1, .. -/
def RdI (w : World) (ao : Option Addr) (n : Nat) (R : Nat → Int) : Prop :=
  0 < n → ∃ b off, ao = some ⟨b, off, none⟩ ∧ ∀ i, i < n → w.cell? ⟨b, off + i, none⟩ = some (.int .i64 (R i))
theorem RdI.below {w w' : World} {ao : Option Addr} {n : Nat} {R : Nat → Int} (h : RdI w ao n R) (ho : Below w.heap.size w w') : RdI w' ao n R := by
  intro hn
  obtain ⟨b, off, rfl, hc⟩ := h hn
  exact ⟨b, off, rfl, fun i hi => held (hc i hi) ho⟩
theorem RdI.congr {w : World} {ao : Option Addr} {n : Nat} {R S : Nat → Int} (h : RdI w ao n R) (e : ∀ i, i < n → R i = S i) : RdI w ao n S := by
  intro hn
  obtain ⟨b, off, rfl, hc⟩ := h hn
  exact ⟨b, off, rfl, fun i hi => by rw [← e i hi]; exact hc i hi⟩
/-- A list that reads as R, with what a slice always has. -/
structure Vec (w : World) (ao : Option Addr) (n cap : Nat) (R : Nat → Int) : Prop where
  rd : RdI w ao n R
  nil : ao = none → n = 0 ∧ cap = 0
  room : n ≤ cap
theorem Vec.below {w w' : World} {ao : Option Addr} {n cap : Nat} {R : Nat → Int} (h : Vec w ao n cap R) (ho : Below w.heap.size w w') : Vec w' ao n cap R := ⟨h.rd.below ho, h.nil, h.room⟩
theorem Vec.congr {w : World} {ao : Option Addr} {n cap : Nat} {R S : Nat → Int} (h : Vec w ao n cap R) (e : ∀ i, i < n → R i = S i) : Vec w ao n cap S := ⟨h.rd.congr e, h.nil, h.room⟩
theorem vec_nil (w : World) (R : Nat → Int) : Vec w none 0 0 R := ⟨fun h => absurd h (Nat.lt_irrefl 0), fun _ => ⟨rfl, rfl⟩, Nat.le_refl _⟩

def zOf (n : Nat) (R : Nat → Int) : List Value := (List.range n).map fun i => .int .i64 (R i)
theorem zOf_length (k : Nat) (R : Nat → Int) : (zOf k R).length = k := by simp [zOf]
theorem zOf_get (k : Nat) (R : Nat → Int) (i : Nat) (h : i < k) : (zOf k R)[i]? = some (.int .i64 (R i)) := by simp [zOf, h]
theorem zOf_congr {k : Nat} {R S : Nat → Int} (h : ∀ i, i < k → R i = S i) : zOf k R = zOf k S := by
  unfold zOf
  apply List.map_congr_left
  intro i hi
  rw [h i (List.mem_range.1 hi)]
theorem zOf_put (k : Nat) (R : Nat → Int) (x : Int) : zOf (k + 1) (put k x R) = zOf k R ++ [.int .i64 x] := by
  unfold zOf
  rw [List.range_succ, List.map_append, List.map_cons, List.map_nil, put_at]
  congr 1
  apply List.map_congr_left
  intro i hi
  have : i ≠ k := by have := List.mem_range.1 hi; omega
  rw [put_ne _ _ this]
theorem zOf_succ (k : Nat) (R : Nat → Int) : zOf (k + 1) R = zOf k R ++ [.int .i64 (R k)] := by
  unfold zOf; rw [List.range_succ, List.map_append, List.map_cons, List.map_nil]
theorem zOf_one (k : Nat) (R : Nat → Int) : ∀ v ∈ zOf k R, v.oneCell' = true := by
  intro v hv
  simp only [zOf, List.mem_map] at hv
  obtain ⟨i, _, rfl⟩ := hv
  rfl
theorem list_lt {α : Type} {l : List α} {n i : Nat} {x : α} (hl : l.length = n) (h : l[i]? = some x) : i < n := by
  rcases Nat.lt_or_ge i n with g | g
  · exact g
  · rw [List.getElem?_eq_none (by omega)] at h; cases h
theorem zOf_set {n i : Nat} (R : Nat → Int) (v : Int) : (zOf n R).set i (.int .i64 v) = zOf n (put i v R) := by
  apply List.ext_getElem?
  intro j
  rw [List.getElem?_set]
  by_cases hj : j < n
  · rw [zOf_get n (put i v R) _ hj]
    by_cases e : i = j
    · subst e; rw [if_pos rfl, if_pos (by rw [zOf_length]; exact hj), put_at]
    · rw [if_neg e, zOf_get _ _ _ hj, put_ne _ _ (fun h => e h.symm)]
  · by_cases e : i = j
    · subst e; rw [if_pos rfl, if_neg (by rw [zOf_length]; exact hj), List.getElem?_eq_none (by rw [zOf_length]; omega)]
    · rw [if_neg e, List.getElem?_eq_none (by rw [zOf_length]; omega), List.getElem?_eq_none (by rw [zOf_length]; omega)]
/-- A list of the call's own (or none), from block B on, that holds R. -/
def Own (B : Nat) (w : World) (ao : Option Addr) (n cap : Nat) (R : Nat → Int) : Prop := w.ownsRow B 3 1 (.slice ao n cap) n (zOf n R)
theorem own_nil (B : Nat) (w : World) (R : Nat → Int) : Own B w none 0 0 R := World.ownsRow_nil _ _ _ _
theorem Own.congr {B : Nat} {w : World} {ao : Option Addr} {n cap : Nat} {R S : Nat → Int} (h : Own B w ao n cap R) (e : ∀ i, i < n → R i = S i) : Own B w ao n cap S := by
  unfold Own at *; rw [← zOf_congr e]; exact h
theorem Own.vec {B : Nat} {w : World} {ao : Option Addr} {n cap : Nat} {R : Nat → Int} (h : Own B w ao n cap R) : Vec w ao n cap R := by
  have h0 := h
  rcases h.2 with ⟨h1, h2⟩ | ⟨g, cap', cur, h1, _, _, h4, _⟩
  · cases h1; exact vec_nil _ _
  · cases h1
    refine ⟨fun hp => ⟨g, 0, rfl, fun i hi => ?_⟩, (fun e => by cases e), h4⟩
    have := World.ownsRow.cells h0 (g := g) rfl i _ (zOf_get n R i hi)
    rwa [Addr.add_lit] at this
theorem Own.at_ {B : Nat} {w : World} {ao : Option Addr} {n cap : Nat} {R : Nat → Int} (h : Own B w ao n cap R) (hn : 0 < n) : ∃ g, ao = some ⟨g, 0, none⟩ ∧ B ≤ g ∧ g < w.heap.size := by
  obtain ⟨g, cap', e, h1, h2⟩ := World.ownsRow.form h hn
  cases e; exact ⟨g, rfl, h1, h2⟩
theorem Own.stay {B : Nat} {w w' : World} {ao : Option Addr} {n cap : Nat} {R : Nat → Int} (h : Own B w ao n cap R) (hb : ∀ g, B ≤ g → g < w.heap.size → w'.heap[g]? = w.heap[g]?) : Own B w' ao n cap R := by
  refine ⟨h.1, ?_⟩
  rcases h.2 with h1 | ⟨g, cap', cur, h1, h2, h3, h4⟩
  · exact .inl h1
  · exact .inr ⟨g, cap', cur, h1, h2, by rw [hb g h2 (by rcases Nat.lt_or_ge g w.heap.size with l | l; exact l; rw [Array.getElem?_eq_none l] at h3; cases h3)]; exact h3, h4⟩
theorem Own.below {B : Nat} {w w' : World} {ao : Option Addr} {n cap : Nat} {R : Nat → Int} (h : Own B w ao n cap R) (hb : Below w.heap.size w w') : Own B w' ao n cap R := h.stay fun g _ hg => hb.block g hg
theorem Own.mono {B B' : Nat} {w : World} {ao : Option Addr} {n cap : Nat} {R : Nat → Int} (h : Own B w ao n cap R) (hb : B' ≤ B) : Own B' w ao n cap R := by
  refine ⟨h.1, ?_⟩
  rcases h.2 with h1 | ⟨g, cap', cur, h1, h2, h3⟩
  · exact .inl h1
  · exact .inr ⟨g, cap', cur, h1, by omega, h3⟩
theorem Own.set {B : Nat} {w : World} {g n cap : Nat} {R : Nat → Int} (h : Own B w (some ⟨g, 0, none⟩) n cap R) (i : Nat) (v : Int) : Own B (w.setCell ⟨g, i, none⟩ (.int .i64 v)) (some ⟨g, 0, none⟩) n cap (put i v R) := by
  unfold Own at *; rw [← zOf_set]; exact (World.ownsRow.stored h i _).1
theorem Own.cell {B : Nat} {w : World} {g n cap : Nat} {R : Nat → Int} (h : Own B w (some ⟨g, 0, none⟩) n cap R) {i : Nat} (hi : i < n) : w.cell? ⟨g, i, none⟩ = some (.int .i64 (R i)) := by
  rw [World.ownsRow.cellAt h i (by omega), zOf_get _ _ _ hi]
theorem Own.free {B : Nat} {w : World} {g n cap : Nat} {R : Nat → Int} (h : Own B w (some ⟨g, 0, none⟩) n cap R) (i : Nat) : w.frozen? ⟨g, i, none⟩ = false := World.ownsRow.frozenAt h i
theorem info3 : (Try.prog.info? 3).map (fun i => (i.zero, i.size, i.bytes)) = some (some (.int .i64 0), 1, 8) := by kernel_rfl
theorem info4 : (Try.prog.info? 4).map (fun i => (i.zero, i.size, i.bytes)) = some (some (.bool false), 1, 1) := by kernel_rfl
theorem info_parts {t : TypeId} {z : Value} {s b : Nat} (h : (Try.prog.info? t).map (fun i => (i.zero, i.size, i.bytes)) = some (some z, s, b)) : ∃ i, Try.prog.info? t = some i ∧ i.zero = some z ∧ i.size = s ∧ i.bytes = b := by
  obtain ⟨i, hi, e⟩ := Option.map_eq_some_iff.1 h
  simp only [Prod.mk.injEq] at e
  exact ⟨i, hi, e.1, e.2.1, e.2.2⟩
/-- A row of n integers is a list of its own. -/
theorem own_row {w : World} {B g n : Nat} {f : Nat → Value} {R : Nat → Int} (h : w.rowIs g 3 n f) (hB : B ≤ g) (hn : n ≤ 200000) (e : ∀ i, i < n → f i = .int .i64 (R i)) : Own B w (some ⟨g, 0, none⟩) n n R := by
  obtain ⟨c, hb, hs, hc⟩ := h
  refine ⟨by rw [zOf_length, Nat.mul_one], .inr ⟨g, n, c, rfl, hB, hb, Nat.le_refl _, by unfold maxLen; omega, by rw [hs, Nat.mul_one], ?_⟩⟩
  apply List.ext_getElem?
  intro i
  by_cases hi : i < n
  · rw [List.getElem?_take_of_lt (by omega), zOf_get _ _ _ hi, Array.getElem?_toList, hc i hi, e i hi]
  · rw [List.getElem?_eq_none (by simp; omega), List.getElem?_eq_none (by rw [zOf_length]; omega)]
theorem below_drewN (B : Nat) (w : World) (n : Nat) : Below B w (w.drewN n) := ⟨rfl, rfl, rfl, Nat.le_refl _, fun _ _ => rfl⟩
/-- Integers appended to a list of the call's own. -/
theorem wpList_append_ints {w : World} {ops : Array Oper} {rest : List Oper} {o : Oper} {a : Act} {Q : Exit → Act → World → Prop} (hgd : o.guard = none) (s x : Operand)
    (ho : o.op = .call { callee := .builtin .append, args := #[s, x], argTypes := #[26, 26] }) (B k n ca cb : Nat) (ao bo : Option Addr) (xs : List Value) (R : Nat → Int)
    (hs : a.eval s = .slice ao k ca) (hx : a.eval x = .slice bo n cb) (h : w.ownsRow B 3 1 (.slice ao k ca) k xs) (hv : Vec w bo n cb R) (hk : k ≤ 200000) (hn : n ≤ 200000) (hB : B ≤ w.heap.size)
    (cont : ∀ ao' c' w', w'.ownsRow B 3 1 (.slice ao' (k + n) c') (k + n) (xs ++ zOf n R) → w.grownBy w' (Value.slice ao k ca).ownBlock → wpList Try.prog ops Q rest (a.put o.dst (.slice ao' (k + n) c')) w') : wpList Try.prog ops Q (o :: rest) a w := by
  obtain ⟨j0, hj, hj0, hj1, hj2⟩ := info_parts info3
  cases bo with
  | none =>
    obtain ⟨rfl, rfl⟩ := hv.nil rfl
    have := cont ao ca w (by rw [show zOf 0 R = [] from rfl, List.append_nil]; exact h) ⟨rfl, rfl, rfl, Nat.le_refl _, fun _ _ _ => rfl⟩
    exact wpList_append_own_none hgd s x 26 ho B 3 j0 1 Try.underlying26 hj (.slice ao k ca) k xs hs h hx this
  | some ad =>
    refine wpList_append_own w hgd s x 26 ho B 3 j0 (.int .i64 0) 1 8 Try.underlying26 hj hj0 hj1 hj2 rfl (by decide) (.slice ao k ca) k xs hs h ad n cb (zOf n R) hx (by rw [zOf_length, Nat.mul_one]) (fun j u hu => ?_) (zOf_one _ _) (by unfold maxLen; omega) (by omega) hB ?_
    · have hj : j < n := list_lt (zOf_length n R) hu
      rw [zOf_get _ _ _ hj] at hu
      obtain ⟨b, off, e, hc⟩ := hv.rd (by omega)
      cases e
      rw [Addr.add_lit, hc j hj]; exact hu
    · intro v' w' h1 h2 _
      obtain ⟨ao', c', rfl⟩ : ∃ ao' c', v' = .slice ao' (k + n) c' := by
        rcases h1.2 with ⟨rfl, e⟩ | ⟨g, cap, cur, rfl, _⟩
        · rw [e]; exact ⟨none, 0, rfl⟩
        · exact ⟨_, cap, rfl⟩
      exact cont ao' c' w' h1 h2
end Go.Proofs.Ytmncbeabhicbhaa
