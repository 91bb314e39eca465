/- Lists of entries, of bytes and of rows in memory: as they are read, and as the call's own. -/
import Derived.Test.YtfbfiecamaginaaDrN
import Derived.Laws.AppendOwnNone
import Derived.Laws.OwnMore
import Derived.Laws.IdiomStrings
import Derived.Laws.StructEq
import Derived.Lib.AppendStr
import Derived.StillTailTactics
import Derived.WalkMore
import Derived.Deep.RegionHeld3
namespace Go.Proofs.Ytfbfiecamaginaa
open Go.RowKit

theorem info_parts {t : TypeId} {z : Value} {s b : Nat} (h : (Try.prog.info? t).map (fun i => (i.zero, i.size, i.bytes)) = some (some z, s, b)) : ∃ i, Try.prog.info? t = some i ∧ i.zero = some z ∧ i.size = s ∧ i.bytes = b := by
  obtain ⟨i, hi, e⟩ := Option.map_eq_some_iff.1 h
  simp only [Prod.mk.injEq] at e
  exact ⟨i, hi, e.1, e.2.1, e.2.2⟩
theorem info34 : (Try.prog.info? 34).map (fun i => (i.zero, i.size, i.bytes)) = some (some (.agg #[.string ⟨#[]⟩, .int .i64 0]), 2, 24) := by kernel_rfl
theorem info5 : (Try.prog.info? 5).map (fun i => (i.zero, i.size, i.bytes)) = some (some (.int .u8 0), 1, 1) := by kernel_rfl
theorem info3 : (Try.prog.info? 3).map (fun i => (i.zero, i.size, i.bytes)) = some (some (.int .i64 0), 1, 8) := by kernel_rfl
theorem alit (b o j : Nat) : (⟨b, o, none⟩ : Addr).add j = ⟨b, o + j, none⟩ := by simp [Addr.add]

/-! ### Any elements -/
/-- n elements whose cells are vs, from ao on. -/
structure Rev (w : World) (ao : Option Addr) (n cap : Nat) (vs : List Value) : Prop where
  rd : 0 < n → ∃ b off, ao = some ⟨b, off, none⟩ ∧ ∀ j u, vs[j]? = some u → w.cell? ⟨b, off + j, none⟩ = some u
  nil : ao = none → n = 0 ∧ cap = 0
  room : n ≤ cap
theorem Rev.below {w w' : World} {ao : Option Addr} {n cap : Nat} {vs : List Value} (h : Rev w ao n cap vs) (ho : Below w.heap.size w w') : Rev w' ao n cap vs := by
  refine ⟨fun hn => ?_, h.nil, h.room⟩
  obtain ⟨b, off, e, hc⟩ := h.rd hn
  exact ⟨b, off, e, fun j u hj => held (hc j u hj) ho⟩
theorem rev_nil (w : World) : Rev w none 0 0 [] := ⟨fun h => absurd h (Nat.lt_irrefl 0), fun _ => ⟨rfl, rfl⟩, Nat.le_refl _⟩
abbrev Ow (B : Nat) (w : World) (E s : Nat) (ao : Option Addr) (n cap : Nat) (vs : List Value) : Prop := w.ownsRow B E s (.slice ao n cap) n vs
theorem ow_rev {B E s : Nat} {w : World} {ao : Option Addr} {n cap : Nat} {vs : List Value} (h : Ow B w E s ao n cap vs) : Rev w ao n cap vs := by
  have h0 := h
  rcases h.2 with ⟨h1, h2⟩ | ⟨g, cap', cur, h1, _, _, h4, _⟩
  · cases h1
    have : vs = [] := List.eq_nil_of_length_eq_zero (by have := h.1; simpa using this)
    subst this
    exact rev_nil _
  · cases h1
    refine ⟨fun hp => ⟨g, 0, rfl, fun j u hj => ?_⟩, (fun e => by cases e), h4⟩
    have c0 := World.ownsRow.cells h0 (g := g) rfl j u hj
    rw [alit] at c0
    exact c0
theorem ow_stay {B E s : Nat} {w w' : World} {ao : Option Addr} {n cap : Nat} {vs : List Value} (h : Ow B w E s ao n cap vs) (hb : ∀ g, B ≤ g → g < w.heap.size → w'.heap[g]? = w.heap[g]?) : Ow B w' E s ao n cap vs := by
  refine ⟨h.1, ?_⟩
  rcases h.2 with h1 | ⟨g, cap', cur, h1, h2, h3, h4⟩
  · exact .inl h1
  · exact .inr ⟨g, cap', cur, h1, h2, by rw [hb g h2 (Array.getElem?_eq_some_iff.1 h3).1]; exact h3, h4⟩
theorem ow_below {B E s : Nat} {w w' : World} {ao : Option Addr} {n cap : Nat} {vs : List Value} (h : Ow B w E s ao n cap vs) (hb : Below w.heap.size w w') : Ow B w' E s ao n cap vs := ow_stay h fun g _ hg => hb.block g hg
theorem ow_mono {B B' E s : Nat} {w : World} {ao : Option Addr} {n cap : Nat} {vs : List Value} (h : Ow B w E s ao n cap vs) (hb : B' ≤ B) : Ow B' w E s ao n cap vs := by
  refine ⟨h.1, ?_⟩
  rcases h.2 with h1 | ⟨g, cap', cur, h1, h2, h3⟩
  · exact .inl h1
  · exact .inr ⟨g, cap', cur, h1, by omega, h3⟩
theorem ow_ge {B E s : Nat} {w : World} {ao : Option Addr} {n cap : Nat} {vs : List Value} (h : Ow B w E s ao n cap vs) : ∀ g, (Value.slice ao n cap).ownBlock = some g → B ≤ g := fun g hg => (World.ownsRow.lt h g hg).1
theorem ow_nil (B E s : Nat) (w : World) : Ow B w E s none 0 0 [] := World.ownsRow_nil _ _ _ _
/-- Elements appended to elements of the call's own. -/
theorem append_v {w : World} {ops : Array Oper} {rest : List Oper} {o : Oper} {a : Act} {Q : Exit → Act → World → Prop} (hgd : o.guard = none) (T E sz by' : Nat) (z : Value) (s x : Operand)
    (ho : o.op = .call { callee := .builtin .append, args := #[s, x], argTypes := #[T, T] }) (hu : Try.prog.underlying T = some (.slice E)) (hinfo : (Try.prog.info? E).map (fun i => (i.zero, i.size, i.bytes)) = some (some z, sz, by')) (hz : z.cells.size = sz) (hs0 : 0 < sz) (hby : by' ≤ 24)
    (B k n ca cb : Nat) (ao bo : Option Addr) (xs ys : List Value)
    (hs : a.eval s = .slice ao k ca) (hx : a.eval x = .slice bo n cb) (h : Ow B w E sz ao k ca xs) (hv : Rev w bo n cb ys) (hl : ys.length = n * sz) (h1 : ∀ u ∈ ys, u.oneCell' = true) (hk : k + n ≤ 10000000) (hB : B ≤ w.heap.size)
    (cont : ∀ ao' c' w', Ow B w' E sz ao' (k + n) c' (xs ++ ys) → w.grownBy w' (Value.slice ao k ca).ownBlock → wpList Try.prog ops Q rest (a.put o.dst (.slice ao' (k + n) c')) w') : wpList Try.prog ops Q (o :: rest) a w := by
  obtain ⟨j0, hj, hj0, hj1, hj2⟩ := info_parts hinfo
  cases bo with
  | none =>
    obtain ⟨rfl, rfl⟩ := hv.nil rfl
    have hy : ys = [] := List.eq_nil_of_length_eq_zero (by omega)
    subst hy
    have := cont ao ca w (by rw [List.append_nil]; exact h) ⟨rfl, rfl, rfl, Nat.le_refl _, fun _ _ _ => rfl⟩
    exact wpList_append_own_none hgd s x T ho B E j0 sz hu hj (.slice ao k ca) k xs hs h hx this
  | some ad =>
    have hb2 : (k + n) * by' ≤ (k + n) * 24 := Nat.mul_le_mul_left _ hby
    by_cases hn : n = 0
    · subst hn
      have hy : ys = [] := List.eq_nil_of_length_eq_zero (by omega)
      subst hy
      refine wpList_append_own w hgd s x T ho B E j0 z sz by' hu hj hj0 hj1 hj2 hz hs0 (.slice ao k ca) k xs hs h ad 0 cb [] hx hl (by simp) (by simp) (by unfold maxLen; omega) (by omega) hB ?_
      intro v' w' g1 g2 _
      obtain ⟨ao', c', rfl⟩ : ∃ ao' c', v' = .slice ao' (k + 0) c' := by
        rcases g1.2 with ⟨rfl, e⟩ | ⟨g, cap, cur, rfl, _⟩
        · rw [e]; exact ⟨none, 0, rfl⟩
        · exact ⟨_, cap, rfl⟩
      exact cont ao' c' w' g1 g2
    · obtain ⟨b, off, e, hc⟩ := hv.rd (by omega)
      cases e
      refine wpList_append_own w hgd s x T ho B E j0 z sz by' hu hj hj0 hj1 hj2 hz hs0 (.slice ao k ca) k xs hs h ⟨b, off, none⟩ n cb ys hx hl (fun j u hj => by rw [alit]; exact hc j u hj) h1 (by unfold maxLen; omega) (by omega) hB ?_
      intro v' w' g1 g2 _
      obtain ⟨ao', c', rfl⟩ : ∃ ao' c', v' = .slice ao' (k + n) c' := by
        rcases g1.2 with ⟨rfl, e⟩ | ⟨g, cap, cur, rfl, _⟩
        · rw [e]; exact ⟨none, 0, rfl⟩
        · exact ⟨_, cap, rfl⟩
      exact cont ao' c' w' g1 g2

/-! ### Entries -/
def evl (l : List En) : List Value := l.flatMap fun x => [.string ⟨x.1.toArray⟩, .int .i64 x.2]
theorem evl_length (l : List En) : (evl l).length = l.length * 2 := by
  induction l with
  | nil => rfl
  | cons x l ih => unfold evl at ih ⊢; rw [List.flatMap_cons, List.length_append, ih, List.length_cons]; simp; omega
theorem evl_append (a b : List En) : evl (a ++ b) = evl a ++ evl b := by simp [evl]
theorem evl_get (l : List En) (i : Nat) (hi : i < l.length) : (evl l)[i * 2]? = some (.string ⟨(gN l i).toArray⟩) ∧ (evl l)[i * 2 + 1]? = some (.int .i64 (gR l i)) := by
  induction l generalizing i with
  | nil => simp at hi
  | cons x l ih =>
    have e : evl (x :: l) = .string ⟨x.1.toArray⟩ :: .int .i64 x.2 :: evl l := rfl
    cases i with
    | zero => rw [e]; exact ⟨rfl, rfl⟩
    | succ i =>
      have := ih i (by simpa using hi)
      rw [e, show (i + 1) * 2 = i * 2 + 1 + 1 by omega, List.getElem?_cons_succ, List.getElem?_cons_succ, List.getElem?_cons_succ, List.getElem?_cons_succ]
      exact this
theorem evl_one (l : List En) : ∀ v ∈ evl l, v.oneCell' = true := by
  intro v hv
  unfold evl at hv
  rw [List.mem_flatMap] at hv
  obtain ⟨x, _, hx⟩ := hv
  simp at hx
  rcases hx with rfl | rfl <;> rfl
def Ren (w : World) (ao : Option Addr) (l : List En) (cap : Nat) : Prop := Rev w ao l.length cap (evl l)
def OwE (B : Nat) (w : World) (ao : Option Addr) (l : List En) (cap : Nat) : Prop := Ow B w 34 2 ao l.length cap (evl l)
theorem Ren.below {w w' : World} {ao : Option Addr} {l : List En} {cap : Nat} (h : Ren w ao l cap) (ho : Below w.heap.size w w') : Ren w' ao l cap := Rev.below h ho
theorem Ren.nil {w : World} {l : List En} {cap : Nat} (h : Ren w none l cap) : l = [] ∧ cap = 0 := ⟨List.eq_nil_of_length_eq_zero (Rev.nil h rfl).1, (Rev.nil h rfl).2⟩
theorem Ren.at_ {w : World} {ao : Option Addr} {l : List En} {cap : Nat} (h : Ren w ao l cap) (hn : 0 < l.length) : ∃ b off, ao = some ⟨b, off, none⟩ ∧ ∀ i, i < l.length → w.cell? ⟨b, off + i * 2, none⟩ = some (.string ⟨(gN l i).toArray⟩) ∧ w.cell? ⟨b, off + i * 2 + 1, none⟩ = some (.int .i64 (gR l i)) := by
  obtain ⟨b, off, e, hc⟩ := Rev.rd h hn
  exact ⟨b, off, e, fun i hi => ⟨hc _ _ (evl_get l i hi).1, by rw [Nat.add_assoc]; exact hc _ _ (evl_get l i hi).2⟩⟩
theorem OwE.ren {B : Nat} {w : World} {ao : Option Addr} {l : List En} {cap : Nat} (h : OwE B w ao l cap) : Ren w ao l cap := ow_rev h
theorem OwE.below {B : Nat} {w w' : World} {ao : Option Addr} {l : List En} {cap : Nat} (h : OwE B w ao l cap) (hb : Below w.heap.size w w') : OwE B w' ao l cap := ow_below h hb
theorem OwE.stay {B : Nat} {w w' : World} {ao : Option Addr} {l : List En} {cap : Nat} (h : OwE B w ao l cap) (hb : ∀ g, B ≤ g → g < w.heap.size → w'.heap[g]? = w.heap[g]?) : OwE B w' ao l cap := ow_stay h hb
theorem OwE.mono {B B' : Nat} {w : World} {ao : Option Addr} {l : List En} {cap : Nat} (h : OwE B w ao l cap) (hb : B' ≤ B) : OwE B' w ao l cap := ow_mono h hb
theorem OwE.ge {B : Nat} {w : World} {ao : Option Addr} {l : List En} {cap : Nat} (h : OwE B w ao l cap) : ∀ g, (Value.slice ao l.length cap).ownBlock = some g → B ≤ g := ow_ge h
theorem owe_nil (B : Nat) (w : World) : OwE B w none [] 0 := ow_nil _ _ _ _
/-- Part of entries that are read. -/
theorem Ren.part {w : World} {b off : Nat} {l : List En} {cap : Nat} (h : Ren w (some ⟨b, off, none⟩) l cap) {lo hi : Nat} (h1 : lo ≤ hi) (h2 : hi ≤ l.length) {cap' : Nat} (hc : hi - lo ≤ cap') : Ren w (some ⟨b, off + lo * 2, none⟩) ((l.take hi).drop lo) cap' := by
  have hlen : ((l.take hi).drop lo).length = hi - lo := by simp; omega
  refine ⟨fun hp => ⟨b, off + lo * 2, rfl, fun j u hj => ?_⟩, (fun e => by cases e), by omega⟩
  have hjl : j < (evl ((l.take hi).drop lo)).length := by
    rcases Nat.lt_or_ge j (evl ((l.take hi).drop lo)).length with g | g
    · exact g
    · rw [List.getElem?_eq_none g] at hj; cases hj
  obtain ⟨b', off', e, hcell⟩ := Rev.rd h (by omega)
  cases e
  rw [Nat.add_assoc]
  refine hcell (lo * 2 + j) u ?_
  have e1 : l = l.take lo ++ ((l.take hi).drop lo ++ l.drop hi) := by
    conv => lhs; rw [← List.take_append_drop hi l, ← List.take_append_drop lo (l.take hi)]
    rw [List.take_take, Nat.min_eq_left h1, List.append_assoc]
  rw [e1, evl_append, evl_append, List.getElem?_append_right (by rw [evl_length, List.length_take]; omega)]
  rw [show lo * 2 + j - (evl (l.take lo)).length = j by rw [evl_length, List.length_take]; omega, List.getElem?_append_left hjl]
  exact hj
theorem append_ents {w : World} {ops : Array Oper} {rest : List Oper} {o : Oper} {a : Act} {Q : Exit → Act → World → Prop} (hgd : o.guard = none) (s x : Operand)
    (ho : o.op = .call { callee := .builtin .append, args := #[s, x], argTypes := #[26, 26] }) (B ca cb : Nat) (ao bo : Option Addr) (l m : List En)
    (hs : a.eval s = .slice ao l.length ca) (hx : a.eval x = .slice bo m.length cb) (h : OwE B w ao l ca) (hv : Ren w bo m cb) (hk : l.length + m.length ≤ 10000000) (hB : B ≤ w.heap.size)
    (cont : ∀ ao' c' w' L, L = l ++ m → OwE B w' ao' L c' → w.grownBy w' (Value.slice ao l.length ca).ownBlock → wpList Try.prog ops Q rest (a.put o.dst (.slice ao' L.length c')) w') : wpList Try.prog ops Q (o :: rest) a w :=
  append_v hgd 26 34 2 24 (.agg #[.string ⟨#[]⟩, .int .i64 0]) s x ho Try.underlying26 info34 rfl (by decide) (by decide) B l.length m.length ca cb ao bo (evl l) (evl m) hs hx h hv (evl_length m) (evl_one m) hk hB fun ao' c' w' h1 h2 => by
    have := cont ao' c' w' (l ++ m) rfl (by unfold OwE; rw [List.length_append, evl_append]; exact h1) h2
    rw [List.length_append] at this
    exact this

/-! ### Bytes -/
def bvl (b : List UInt8) : List Value := b.map fun c => Value.int .u8 c.toNat
theorem bvl_length (b : List UInt8) : (bvl b).length = b.length * 1 := by simp [bvl]
theorem bvl_append (a b : List UInt8) : bvl (a ++ b) = bvl a ++ bvl b := by simp [bvl]
theorem bvl_get (b : List UInt8) (i : Nat) (hi : i < b.length) : (bvl b)[i]? = some (.int .u8 ((b.getD i 0).toNat : Int)) := by
  unfold bvl
  rw [List.getElem?_map, List.getElem?_eq_getElem hi, List.getD_eq_getElem?_getD, List.getElem?_eq_getElem hi]; rfl
theorem bvl_one (b : List UInt8) : ∀ v ∈ bvl b, v.oneCell' = true := by
  intro v hv
  simp [bvl] at hv
  obtain ⟨c, _, rfl⟩ := hv
  rfl
def Reb (w : World) (ao : Option Addr) (b : List UInt8) (cap : Nat) : Prop := Rev w ao b.length cap (bvl b)
def OwB (B : Nat) (w : World) (ao : Option Addr) (b : List UInt8) (cap : Nat) : Prop := Ow B w 5 1 ao b.length cap (bvl b)
theorem Reb.below {w w' : World} {ao : Option Addr} {b : List UInt8} {cap : Nat} (h : Reb w ao b cap) (ho : Below w.heap.size w w') : Reb w' ao b cap := Rev.below h ho
theorem Reb.nil {w : World} {b : List UInt8} {cap : Nat} (h : Reb w none b cap) : b = [] ∧ cap = 0 := ⟨List.eq_nil_of_length_eq_zero (Rev.nil h rfl).1, (Rev.nil h rfl).2⟩
theorem Reb.at_ {w : World} {ao : Option Addr} {b : List UInt8} {cap : Nat} (h : Reb w ao b cap) (hn : 0 < b.length) : ∃ g off, ao = some ⟨g, off, none⟩ ∧ ∀ i, i < b.length → w.cell? ⟨g, off + i, none⟩ = some (.int .u8 ((b.getD i 0).toNat : Int)) := by
  obtain ⟨g, off, e, hc⟩ := Rev.rd h hn
  exact ⟨g, off, e, fun i hi => hc _ _ (bvl_get b i hi)⟩
theorem OwB.reb {B : Nat} {w : World} {ao : Option Addr} {b : List UInt8} {cap : Nat} (h : OwB B w ao b cap) : Reb w ao b cap := ow_rev h
theorem OwB.below {B : Nat} {w w' : World} {ao : Option Addr} {b : List UInt8} {cap : Nat} (h : OwB B w ao b cap) (hb : Below w.heap.size w w') : OwB B w' ao b cap := ow_below h hb
theorem OwB.stay {B : Nat} {w w' : World} {ao : Option Addr} {b : List UInt8} {cap : Nat} (h : OwB B w ao b cap) (hb : ∀ g, B ≤ g → g < w.heap.size → w'.heap[g]? = w.heap[g]?) : OwB B w' ao b cap := ow_stay h hb
theorem OwB.mono {B B' : Nat} {w : World} {ao : Option Addr} {b : List UInt8} {cap : Nat} (h : OwB B w ao b cap) (hb : B' ≤ B) : OwB B' w ao b cap := ow_mono h hb
theorem OwB.ge {B : Nat} {w : World} {ao : Option Addr} {b : List UInt8} {cap : Nat} (h : OwB B w ao b cap) : ∀ g, (Value.slice ao b.length cap).ownBlock = some g → B ≤ g := ow_ge h
theorem owb_nil (B : Nat) (w : World) : OwB B w none [] 0 := ow_nil _ _ _ _
theorem append_bytes {w : World} {ops : Array Oper} {rest : List Oper} {o : Oper} {a : Act} {Q : Exit → Act → World → Prop} (hgd : o.guard = none) (s x : Operand)
    (ho : o.op = .call { callee := .builtin .append, args := #[s, x], argTypes := #[25, 25] }) (B ca cb : Nat) (ao bo : Option Addr) (l m : List UInt8)
    (hs : a.eval s = .slice ao l.length ca) (hx : a.eval x = .slice bo m.length cb) (h : OwB B w ao l ca) (hv : Reb w bo m cb) (hk : l.length + m.length ≤ 10000000) (hB : B ≤ w.heap.size)
    (cont : ∀ ao' c' w' L, L = l ++ m → OwB B w' ao' L c' → w.grownBy w' (Value.slice ao l.length ca).ownBlock → wpList Try.prog ops Q rest (a.put o.dst (.slice ao' L.length c')) w') : wpList Try.prog ops Q (o :: rest) a w :=
  append_v hgd 25 5 1 1 (.int .u8 0) s x ho Try.underlying25 info5 rfl (by decide) (by decide) B l.length m.length ca cb ao bo (bvl l) (bvl m) hs hx h hv (bvl_length m) (bvl_one m) hk hB fun ao' c' w' h1 h2 => by
    have := cont ao' c' w' (l ++ m) rfl (by unfold OwB; rw [List.length_append, bvl_append]; exact h1) h2
    rw [List.length_append] at this
    exact this
theorem append_text {w : World} {ops : Array Oper} {rest : List Oper} {o : Oper} {a : Act} {Q : Exit → Act → World → Prop} (hgd : o.guard = none) (s x : Operand)
    (ho : o.op = .call { callee := .builtin .append, args := #[s, x], argTypes := #[25, 9] }) (B ca : Nat) (ao : Option Addr) (l m : List UInt8)
    (hs : a.eval s = .slice ao l.length ca) (hx : a.eval x = .string ⟨m.toArray⟩) (h : OwB B w ao l ca) (hk : l.length + m.length ≤ 10000000) (hB : B ≤ w.heap.size)
    (cont : ∀ ao' c' w' L, L = l ++ m → OwB B w' ao' L c' → w.grownBy w' (Value.slice ao l.length ca).ownBlock → wpList Try.prog ops Q rest (a.put o.dst (.slice ao' L.length c')) w') : wpList Try.prog ops Q (o :: rest) a w := by
  obtain ⟨j0, hj, hj0, hj1, hj2⟩ := info_parts info5
  have hsz := str_size m
  refine Lib.wpList_append_own_string w hgd s x 25 9 ho B 5 j0 Try.underlying25 Try.underlying9 hj hj0 hj1 hj2 (.slice ao l.length ca) l.length (bvl l) hs h ⟨m.toArray⟩ hx (by rw [hsz]; unfold maxLen; omega) (by rw [hsz]; omega) hB ?_
  intro v' w' g1 g2 _
  have e : Lib.strCells ⟨m.toArray⟩ = bvl m := by simp [Lib.strCells, bvl]
  rw [e, hsz, ← bvl_append, ← List.length_append] at g1
  obtain ⟨ao', c', rfl⟩ : ∃ ao' c', v' = .slice ao' (l ++ m).length c' := by
    rcases g1.2 with ⟨rfl, e⟩ | ⟨g, cap, cur, rfl, _⟩
    · rw [e]; exact ⟨none, 0, rfl⟩
    · exact ⟨_, cap, rfl⟩
  exact cont ao' c' w' (l ++ m) rfl g1 g2

/-! ### Rows -/
def ivl (L : List Int) : List Value := L.map fun c => Value.int .i64 c
theorem ivl_length (b : List Int) : (ivl b).length = b.length * 1 := by simp [ivl]
theorem ivl_append (a b : List Int) : ivl (a ++ b) = ivl a ++ ivl b := by simp [ivl]
theorem ivl_get (b : List Int) (i : Nat) (hi : i < b.length) : (ivl b)[i]? = some (.int .i64 (b.getD i 0)) := by
  unfold ivl
  rw [List.getElem?_map, List.getElem?_eq_getElem hi, List.getD_eq_getElem?_getD, List.getElem?_eq_getElem hi]; rfl
theorem ivl_one (b : List Int) : ∀ v ∈ ivl b, v.oneCell' = true := by
  intro v hv
  simp [ivl] at hv
  obtain ⟨c, _, rfl⟩ := hv
  rfl
def Rei (w : World) (ao : Option Addr) (b : List Int) (cap : Nat) : Prop := Rev w ao b.length cap (ivl b)
def OwI (B : Nat) (w : World) (ao : Option Addr) (b : List Int) (cap : Nat) : Prop := Ow B w 3 1 ao b.length cap (ivl b)
theorem Rei.below {w w' : World} {ao : Option Addr} {b : List Int} {cap : Nat} (h : Rei w ao b cap) (ho : Below w.heap.size w w') : Rei w' ao b cap := Rev.below h ho
theorem Rei.nil {w : World} {b : List Int} {cap : Nat} (h : Rei w none b cap) : b = [] ∧ cap = 0 := ⟨List.eq_nil_of_length_eq_zero (Rev.nil h rfl).1, (Rev.nil h rfl).2⟩
theorem Rei.at_ {w : World} {ao : Option Addr} {b : List Int} {cap : Nat} (h : Rei w ao b cap) (hn : 0 < b.length) : ∃ g off, ao = some ⟨g, off, none⟩ ∧ ∀ i, i < b.length → w.cell? ⟨g, off + i, none⟩ = some (.int .i64 (b.getD i 0)) := by
  obtain ⟨g, off, e, hc⟩ := Rev.rd h hn
  exact ⟨g, off, e, fun i hi => hc _ _ (ivl_get b i hi)⟩
theorem OwI.rei {B : Nat} {w : World} {ao : Option Addr} {b : List Int} {cap : Nat} (h : OwI B w ao b cap) : Rei w ao b cap := ow_rev h
theorem OwI.below {B : Nat} {w w' : World} {ao : Option Addr} {b : List Int} {cap : Nat} (h : OwI B w ao b cap) (hb : Below w.heap.size w w') : OwI B w' ao b cap := ow_below h hb
theorem OwI.mono {B B' : Nat} {w : World} {ao : Option Addr} {b : List Int} {cap : Nat} (h : OwI B w ao b cap) (hb : B' ≤ B) : OwI B' w ao b cap := ow_mono h hb
theorem OwI.ge {B : Nat} {w : World} {ao : Option Addr} {b : List Int} {cap : Nat} (h : OwI B w ao b cap) : ∀ g, (Value.slice ao b.length cap).ownBlock = some g → B ≤ g := ow_ge h
theorem owi_nil (B : Nat) (w : World) : OwI B w none [] 0 := ow_nil _ _ _ _
theorem append_ints {w : World} {ops : Array Oper} {rest : List Oper} {o : Oper} {a : Act} {Q : Exit → Act → World → Prop} (hgd : o.guard = none) (s x : Operand)
    (ho : o.op = .call { callee := .builtin .append, args := #[s, x], argTypes := #[40, 40] }) (B ca cb : Nat) (ao bo : Option Addr) (l m : List Int)
    (hs : a.eval s = .slice ao l.length ca) (hx : a.eval x = .slice bo m.length cb) (h : OwI B w ao l ca) (hv : Rei w bo m cb) (hk : l.length + m.length ≤ 10000000) (hB : B ≤ w.heap.size)
    (cont : ∀ ao' c' w' L, L = l ++ m → OwI B w' ao' L c' → w.grownBy w' (Value.slice ao l.length ca).ownBlock → wpList Try.prog ops Q rest (a.put o.dst (.slice ao' L.length c')) w') : wpList Try.prog ops Q (o :: rest) a w :=
  append_v hgd 40 3 1 8 (.int .i64 0) s x ho Try.underlying40 info3 rfl (by decide) (by decide) B l.length m.length ca cb ao bo (ivl l) (ivl m) hs hx h hv (ivl_length m) (ivl_one m) hk hB fun ao' c' w' h1 h2 => by
    have := cont ao' c' w' (l ++ m) rfl (by unfold OwI; rw [List.length_append, ivl_append]; exact h1) h2
    rw [List.length_append] at this
    exact this
end Go.Proofs.Ytfbfiecamaginaa
