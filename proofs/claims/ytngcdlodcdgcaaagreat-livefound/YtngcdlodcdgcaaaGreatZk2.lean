import Derived.BigQuiet
import Derived.Deep.QuietTactic
import Derived.Laws.AppendOwnNone
import Derived.Laws.OwnMore
import Derived.Laws.IdiomStrings
import Derived.Laws.StructEq
import Derived.Lib.AppendStr
import Derived.StillTailTactics
import Derived.WalkMore
import Derived.Lib.QuietBelow
import Derived.Deep.AppendLies
import Derived.Test.YtngcdlodcdgcaaaGreatProg
import Derived.Test.YtngcdlodcdgcaaaGreatZk1
namespace Go.Proofs.YtngcdlodcdgcaaaGreat.Dr
open Go.RowKit
theorem below_drewN (B : Nat) (w : World) (n : Nat) : Below B w (w.drewN n) := ⟨rfl, rfl, rfl, Nat.le_refl _, fun _ _ => rfl⟩
theorem bless_eq : ∀ (x y : List UInt8), Op.bytesLess x y = decide (x < y)
 | [], [] => by simp [Op.bytesLess]
 | _ :: _, [] => by simp [Op.bytesLess]
 | [], _ :: _ => by simp [Op.bytesLess]
 | a :: x, b :: y => by
  rw [Op.bytesLess, bless_eq x y]
  simp only [List.cons_lt_cons_iff]
  by_cases h1 : a < b <;> by_cases h2 : a = b <;> by_cases h3 : x < y <;> simp [h1, h2, h3]
def erM (l : Nm) : Int := if mayN l = true then 0 else 6
theorem mayN_iff (l : Nm) : mayN l = true ↔ 1 <= l.length /\ l.length <= 24 := by simp [mayN]
theorem erM_good {l : Nm} (h : mayN l = true) : erM l = 0 := if_pos h
theorem erM_bad {l : Nm} (h : mayN l = false) : erM l = 6 := if_neg (by rw [h]; decide)
theorem str_size (l : Nm) : (ByteArray.mk l.toArray).size = l.length := by simp [ByteArray.size]
set_option maxHeartbeats 400000 in
theorem Less_any (a b : Nm) (w : World) : Calls Tryz.prog 98 #[.string ⟨a.toArray⟩, .string ⟨b.toArray⟩] w fun e w' => e = .returned (.bool (decide (a < b))) /\ w' = w := by
 go_enter Tryz.func98, Tryz.ntmps98
 go_wp2
 go_ret
 exact ⟨ret_bool (bless_eq a b), rfl⟩
set_option maxHeartbeats 400000 in
theorem NCheck_any (l : Nm) (w : World) : Calls Tryz.prog 30 #[.string ⟨l.toArray⟩] w fun e w' => e = .returned (.int .i64 (erM l)) /\ w' = w := by
 have hs := str_size l
 go_enter Tryz.func30, Tryz.ntmps30
 go_wp2
 ·go_ret
  rename_i h
  subst h
  exact ⟨rfl, rfl⟩
 ·go_ret
  rename_i h0 h
  have h1 : l.isEmpty = false := by simpa using h0
  have : mayN l = false := by
   rw [Bool.eq_false_iff, Ne, mayN_iff]
   rcases h with h | h
   ·rw [h1] at h; cases h
   ·omega
  exact ⟨ret_int (erM_bad this).symm, rfl⟩
 ·go_ret
  rename_i h0 h
  have h1 : 1 <= l.length := List.length_pos_iff.2 h0
  exact ⟨ret_int (erM_good ((mayN_iff l).2 ⟨h1, by omega⟩)).symm, rfl⟩
end Go.Proofs.YtngcdlodcdgcaaaGreat.Dr
namespace Go.Proofs.YtngcdlodcdgcaaaGreat.Dr
open Go.RowKit
theorem info_parts {t : TypeId} {z : Value} {s b : Nat} (h : (Tryz.prog.info? t).map (fun i => (i.zero, i.size, i.bytes)) = some (some z, s, b)) : ∃ i, Tryz.prog.info? t = some i /\ i.zero = some z /\ i.size = s /\ i.bytes = b := by
 obtain ⟨i, hi, e⟩ := Option.map_eq_some_iff.1 h
 simp only [Prod.mk.injEq] at e
 exact ⟨i, hi, e.1, e.2.1, e.2.2⟩
theorem info34 : (Tryz.prog.info? 42).map (fun i => (i.zero, i.size, i.bytes)) = some (some (.agg #[.string ⟨#[]⟩, .int .i64 0]), 2, 24) := by kernel_rfl
theorem info3 : (Tryz.prog.info? 3).map (fun i => (i.zero, i.size, i.bytes)) = some (some (.int .i64 0), 1, 8) := by kernel_rfl
theorem alit (b o j : Nat) : (⟨b, o, none⟩ : Addr).add j = ⟨b, o + j, none⟩ := by simp [Addr.add]
structure Rev (w : World) (ao : Option Addr) (n cap : Nat) (vs : List Value) : Prop where
  rd : 0 < n -> ∃ b off, ao = some ⟨b, off, none⟩ /\ ∀ j u, vs[j]? = some u -> w.cell? ⟨b, off + j, none⟩ = some u
  nil : ao = none -> n = 0 /\ cap = 0
  room : n <= cap
theorem Rev.below {w w' : World} {ao : Option Addr} {n cap : Nat} {vs : List Value} (h : Rev w ao n cap vs) (ho : Below w.heap.size w w') : Rev w' ao n cap vs := by
 refine ⟨fun hn => ?_, h.nil, h.room⟩
 obtain ⟨b, off, e, hc⟩ := h.rd hn
 exact ⟨b, off, e, fun j u hj => held (hc j u hj) ho⟩
theorem rev_nil (w : World) : Rev w none 0 0 [] := ⟨fun h => absurd h (Nat.lt_irrefl 0), fun _ => ⟨rfl, rfl⟩, Nat.le_refl _⟩
abbrev Ow (B : Nat) (w : World) (E s : Nat) (ao : Option Addr) (n cap : Nat) (vs : List Value) : Prop := w.ownsRow B E s (.slice ao n cap) n vs
theorem ow_rev {B E s : Nat} {w : World} {ao : Option Addr} {n cap : Nat} {vs : List Value} (h : Ow B w E s ao n cap vs) : Rev w ao n cap vs := by
 have h0 := h
 rcases h.2 with ⟨h1, h2⟩ | ⟨g, cap', cur, h1, _, _, h4, _⟩
 ·cases h1
  have : vs = [] := List.eq_nil_of_length_eq_zero (by have := h.1; simpa using this)
  subst this
  exact rev_nil _
 ·cases h1
  refine ⟨fun hp => ⟨g, 0, rfl, fun j u hj => ?_⟩, (fun e => by cases e), h4⟩
  have c0 := World.ownsRow.cells h0 (g := g) rfl j u hj
  rw [alit] at c0
  exact c0
theorem ow_stay {B E s : Nat} {w w' : World} {ao : Option Addr} {n cap : Nat} {vs : List Value} (h : Ow B w E s ao n cap vs) (hb : ∀ g, B <= g -> g < w.heap.size -> w'.heap[g]? = w.heap[g]?) : Ow B w' E s ao n cap vs := by
 refine ⟨h.1, ?_⟩
 rcases h.2 with h1 | ⟨g, cap', cur, h1, h2, h3, h4⟩
 ·exact .inl h1
 ·exact .inr ⟨g, cap', cur, h1, h2, by rw [hb g h2 (Array.getElem?_eq_some_iff.1 h3).1]; exact h3, h4⟩
theorem ow_below {B E s : Nat} {w w' : World} {ao : Option Addr} {n cap : Nat} {vs : List Value} (h : Ow B w E s ao n cap vs) (hb : Below w.heap.size w w') : Ow B w' E s ao n cap vs := ow_stay h fun g _ hg => hb.block g hg
theorem ow_mono {B B' E s : Nat} {w : World} {ao : Option Addr} {n cap : Nat} {vs : List Value} (h : Ow B w E s ao n cap vs) (hb : B' <= B) : Ow B' w E s ao n cap vs := by
 refine ⟨h.1, ?_⟩
 rcases h.2 with h1 | ⟨g, cap', cur, h1, h2, h3⟩
 ·exact .inl h1
 ·exact .inr ⟨g, cap', cur, h1, by omega, h3⟩
theorem ow_ge {B E s : Nat} {w : World} {ao : Option Addr} {n cap : Nat} {vs : List Value} (h : Ow B w E s ao n cap vs) : ∀ g, (Value.slice ao n cap).ownBlock = some g -> B <= g := fun g hg => (World.ownsRow.lt h g hg).1
theorem ow_nil (B E s : Nat) (w : World) : Ow B w E s none 0 0 [] := World.ownsRow_nil _ _ _ _
theorem append_v {w : World} {ops : Array Oper} {rest : List Oper} {o : Oper} {a : Act} {Q : Exit -> Act -> World -> Prop} (hgd : o.guard = none) (T E sz by' : Nat) (z : Value) (s x : Operand)
  (ho : o.op = .call { callee := .builtin .append, args := #[s, x], argTypes := #[T, T] }) (hu : Tryz.prog.underlying T = some (.slice E)) (hinfo : (Tryz.prog.info? E).map (fun i => (i.zero, i.size, i.bytes)) = some (some z, sz, by')) (hz : z.cells.size = sz) (hs0 : 0 < sz) (hby : by' <= 24)
  (B k n ca cb : Nat) (ao bo : Option Addr) (xs ys : List Value)
  (hs : a.eval s = .slice ao k ca) (hx : a.eval x = .slice bo n cb) (h : Ow B w E sz ao k ca xs) (hv : Rev w bo n cb ys) (hl : ys.length = n * sz) (h1 : ∀ u ∈ ys, u.oneCell' = true) (hk : k + n <= 1000000000000) (hB : B <= w.heap.size)
  (cont : ∀ ao' c' w', Ow B w' E sz ao' (k + n) c' (xs ++ ys) -> w.grownBy w' (Value.slice ao k ca).ownBlock -> wpList Tryz.prog ops Q rest (a.put o.dst (.slice ao' (k + n) c')) w') : wpList Tryz.prog ops Q (o :: rest) a w := by
 obtain ⟨j0, hj, hj0, hj1, hj2⟩ := info_parts hinfo
 cases bo with
 | none =>
  obtain ⟨rfl, rfl⟩ := hv.nil rfl
  have hy : ys = [] := List.eq_nil_of_length_eq_zero (by omega)
  subst hy
  have := cont ao ca w (by rw [List.append_nil]; exact h) ⟨rfl, rfl, rfl, Nat.le_refl _, fun _ _ _ => rfl⟩
  exact wpList_append_own_none hgd s x T ho B E j0 sz hu hj (.slice ao k ca) k xs hs h hx this
 | some ad =>
  have hb2 : (k + n) * by' <= (k + n) * 24 := Nat.mul_le_mul_left _ hby
  by_cases hn : n = 0
  ·subst hn
   have hy : ys = [] := List.eq_nil_of_length_eq_zero (by omega)
   subst hy
   refine wpList_append_own w hgd s x T ho B E j0 z sz by' hu hj hj0 hj1 hj2 hz hs0 (.slice ao k ca) k xs hs h ad 0 cb [] hx hl (by simp) (by simp) (by unfold maxLen; omega) (by omega) hB ?_
   intro v' w' g1 g2 _
   obtain ⟨ao', c', rfl⟩ : ∃ ao' c', v' = .slice ao' (k + 0) c' := by
    rcases g1.2 with ⟨rfl, e⟩ | ⟨g, cap, cur, rfl, _⟩
    ·rw [e]; exact ⟨none, 0, rfl⟩
    ·exact ⟨_, cap, rfl⟩
   exact cont ao' c' w' g1 g2
  ·obtain ⟨b, off, e, hc⟩ := hv.rd (by omega)
   cases e
   refine wpList_append_own w hgd s x T ho B E j0 z sz by' hu hj hj0 hj1 hj2 hz hs0 (.slice ao k ca) k xs hs h ⟨b, off, none⟩ n cb ys hx hl (fun j u hj => by rw [alit]; exact hc j u hj) h1 (by unfold maxLen; omega) (by omega) hB ?_
   intro v' w' g1 g2 _
   obtain ⟨ao', c', rfl⟩ : ∃ ao' c', v' = .slice ao' (k + n) c' := by
    rcases g1.2 with ⟨rfl, e⟩ | ⟨g, cap, cur, rfl, _⟩
    ·rw [e]; exact ⟨none, 0, rfl⟩
    ·exact ⟨_, cap, rfl⟩
   exact cont ao' c' w' g1 g2
def evl (l : List En) : List Value := l.flatMap fun x => [.string ⟨x.1.toArray⟩, .int .i64 x.2]
theorem evl_length (l : List En) : (evl l).length = l.length * 2 := by
 induction l with
 | nil => rfl
 | cons x l ih => unfold evl at ih ⊢; rw [List.flatMap_cons, List.length_append, ih, List.length_cons]; simp; omega
theorem evl_append (a b : List En) : evl (a ++ b) = evl a ++ evl b := by simp [evl]
theorem evl_get (l : List En) (i : Nat) (hi : i < l.length) : (evl l)[i * 2]? = some (.string ⟨(gN l i).toArray⟩) /\ (evl l)[i * 2 + 1]? = some (.int .i64 (gR l i)) := by
 induction l generalizing i with
 | nil => simp at hi
 | cons x l ih =>
  have e : evl (x :: l) = .string ⟨x.1.toArray⟩ :: .int .i64 x.2 :: evl l := rfl
  cases i with
  | zero => rw [e]; exact ⟨rfl, rfl⟩
  | succ i =>
   have := ih i (by simpa using hi)
   rw [e, show (i + 1) * 2 = i * 2 + 1 + 1 by omega, List.getElem?_cons_succ, List.getElem?_cons_succ, List.getElem?_cons_succ, List.getElem?_cons_succ]
   exact this
theorem evl_one (l : List En) : ∀ v ∈ evl l, v.oneCell' = true := by
 intro v hv
 unfold evl at hv
 rw [List.mem_flatMap] at hv
 obtain ⟨x, _, hx⟩ := hv
 simp at hx
 rcases hx with rfl | rfl <;> rfl
def Ren (w : World) (ao : Option Addr) (l : List En) (cap : Nat) : Prop := Rev w ao l.length cap (evl l)
def OwE (B : Nat) (w : World) (ao : Option Addr) (l : List En) (cap : Nat) : Prop := Ow B w 42 2 ao l.length cap (evl l)
theorem Ren.below {w w' : World} {ao : Option Addr} {l : List En} {cap : Nat} (h : Ren w ao l cap) (ho : Below w.heap.size w w') : Ren w' ao l cap := Rev.below h ho
theorem Ren.at_ {w : World} {ao : Option Addr} {l : List En} {cap : Nat} (h : Ren w ao l cap) (hn : 0 < l.length) : ∃ b off, ao = some ⟨b, off, none⟩ /\ ∀ i, i < l.length -> w.cell? ⟨b, off + i * 2, none⟩ = some (.string ⟨(gN l i).toArray⟩) /\ w.cell? ⟨b, off + i * 2 + 1, none⟩ = some (.int .i64 (gR l i)) := by
 obtain ⟨b, off, e, hc⟩ := Rev.rd h hn
 exact ⟨b, off, e, fun i hi => ⟨hc _ _ (evl_get l i hi).1, by rw [Nat.add_assoc]; exact hc _ _ (evl_get l i hi).2⟩⟩
theorem OwE.ren {B : Nat} {w : World} {ao : Option Addr} {l : List En} {cap : Nat} (h : OwE B w ao l cap) : Ren w ao l cap := ow_rev h
theorem OwE.below {B : Nat} {w w' : World} {ao : Option Addr} {l : List En} {cap : Nat} (h : OwE B w ao l cap) (hb : Below w.heap.size w w') : OwE B w' ao l cap := ow_below h hb
theorem OwE.mono {B B' : Nat} {w : World} {ao : Option Addr} {l : List En} {cap : Nat} (h : OwE B w ao l cap) (hb : B' <= B) : OwE B' w ao l cap := ow_mono h hb
theorem OwE.ge {B : Nat} {w : World} {ao : Option Addr} {l : List En} {cap : Nat} (h : OwE B w ao l cap) : ∀ g, (Value.slice ao l.length cap).ownBlock = some g -> B <= g := ow_ge h
theorem owe_nil (B : Nat) (w : World) : OwE B w none [] 0 := ow_nil _ _ _ _
def bvl (b : List UInt8) : List Value := b.map fun c => Value.int .u8 c.toNat
theorem bvl_get (b : List UInt8) (i : Nat) (hi : i < b.length) : (bvl b)[i]? = some (.int .u8 ((b.getD i 0).toNat : Int)) := by
 unfold bvl
 rw [List.getElem?_map, List.getElem?_eq_getElem hi, List.getD_eq_getElem?_getD, List.getElem?_eq_getElem hi]; rfl
def Reb (w : World) (ao : Option Addr) (b : List UInt8) (cap : Nat) : Prop := Rev w ao b.length cap (bvl b)
def OwB (B : Nat) (w : World) (ao : Option Addr) (b : List UInt8) (cap : Nat) : Prop := Ow B w 5 1 ao b.length cap (bvl b)
theorem Reb.below {w w' : World} {ao : Option Addr} {b : List UInt8} {cap : Nat} (h : Reb w ao b cap) (ho : Below w.heap.size w w') : Reb w' ao b cap := Rev.below h ho
theorem Reb.at_ {w : World} {ao : Option Addr} {b : List UInt8} {cap : Nat} (h : Reb w ao b cap) (hn : 0 < b.length) : ∃ g off, ao = some ⟨g, off, none⟩ /\ ∀ i, i < b.length -> w.cell? ⟨g, off + i, none⟩ = some (.int .u8 ((b.getD i 0).toNat : Int)) := by
 obtain ⟨g, off, e, hc⟩ := Rev.rd h hn
 exact ⟨g, off, e, fun i hi => hc _ _ (bvl_get b i hi)⟩
theorem OwB.reb {B : Nat} {w : World} {ao : Option Addr} {b : List UInt8} {cap : Nat} (h : OwB B w ao b cap) : Reb w ao b cap := ow_rev h
def ivl (L : List Int) : List Value := L.map fun c => Value.int .i64 c
theorem ivl_length (b : List Int) : (ivl b).length = b.length * 1 := by simp [ivl]
theorem ivl_append (a b : List Int) : ivl (a ++ b) = ivl a ++ ivl b := by simp [ivl]
theorem ivl_get (b : List Int) (i : Nat) (hi : i < b.length) : (ivl b)[i]? = some (.int .i64 (b.getD i 0)) := by
 unfold ivl
 rw [List.getElem?_map, List.getElem?_eq_getElem hi, List.getD_eq_getElem?_getD, List.getElem?_eq_getElem hi]; rfl
theorem ivl_one (b : List Int) : ∀ v ∈ ivl b, v.oneCell' = true := by
 intro v hv
 simp [ivl] at hv
 obtain ⟨c, _, rfl⟩ := hv
 rfl
def Rei (w : World) (ao : Option Addr) (b : List Int) (cap : Nat) : Prop := Rev w ao b.length cap (ivl b)
def OwI (B : Nat) (w : World) (ao : Option Addr) (b : List Int) (cap : Nat) : Prop := Ow B w 3 1 ao b.length cap (ivl b)
theorem Rei.below {w w' : World} {ao : Option Addr} {b : List Int} {cap : Nat} (h : Rei w ao b cap) (ho : Below w.heap.size w w') : Rei w' ao b cap := Rev.below h ho
theorem Rei.at_ {w : World} {ao : Option Addr} {b : List Int} {cap : Nat} (h : Rei w ao b cap) (hn : 0 < b.length) : ∃ g off, ao = some ⟨g, off, none⟩ /\ ∀ i, i < b.length -> w.cell? ⟨g, off + i, none⟩ = some (.int .i64 (b.getD i 0)) := by
 obtain ⟨g, off, e, hc⟩ := Rev.rd h hn
 exact ⟨g, off, e, fun i hi => hc _ _ (ivl_get b i hi)⟩
theorem OwI.rei {B : Nat} {w : World} {ao : Option Addr} {b : List Int} {cap : Nat} (h : OwI B w ao b cap) : Rei w ao b cap := ow_rev h
theorem OwI.below {B : Nat} {w w' : World} {ao : Option Addr} {b : List Int} {cap : Nat} (h : OwI B w ao b cap) (hb : Below w.heap.size w w') : OwI B w' ao b cap := ow_below h hb
theorem OwI.mono {B B' : Nat} {w : World} {ao : Option Addr} {b : List Int} {cap : Nat} (h : OwI B w ao b cap) (hb : B' <= B) : OwI B' w ao b cap := ow_mono h hb
theorem OwI.ge {B : Nat} {w : World} {ao : Option Addr} {b : List Int} {cap : Nat} (h : OwI B w ao b cap) : ∀ g, (Value.slice ao b.length cap).ownBlock = some g -> B <= g := ow_ge h
theorem owi_nil (B : Nat) (w : World) : OwI B w none [] 0 := ow_nil _ _ _ _
theorem append_ints {w : World} {ops : Array Oper} {rest : List Oper} {o : Oper} {a : Act} {Q : Exit -> Act -> World -> Prop} (hgd : o.guard = none) (s x : Operand)
  (ho : o.op = .call { callee := .builtin .append, args := #[s, x], argTypes := #[33, 33] }) (B ca cb : Nat) (ao bo : Option Addr) (l m : List Int)
  (hs : a.eval s = .slice ao l.length ca) (hx : a.eval x = .slice bo m.length cb) (h : OwI B w ao l ca) (hv : Rei w bo m cb) (hk : l.length + m.length <= 1000000000000) (hB : B <= w.heap.size)
  (cont : ∀ ao' c' w' L, L = l ++ m -> OwI B w' ao' L c' -> w.grownBy w' (Value.slice ao l.length ca).ownBlock -> wpList Tryz.prog ops Q rest (a.put o.dst (.slice ao' L.length c')) w') : wpList Tryz.prog ops Q (o :: rest) a w :=
 append_v hgd 33 3 1 8 (.int .i64 0) s x ho Tryz.underlying33 info3 rfl (by decide) (by decide) B l.length m.length ca cb ao bo (ivl l) (ivl m) hs hx h hv (ivl_length m) (ivl_one m) hk hB fun ao' c' w' h1 h2 => by
  have := cont ao' c' w' (l ++ m) rfl (by unfold OwI; rw [List.length_append, ivl_append]; exact h1) h2
  rw [List.length_append] at this
  exact this
end Go.Proofs.YtngcdlodcdgcaaaGreat.Dr
namespace Go.Proofs.YtngcdlodcdgcaaaGreat.Dr
open Go.RowKit
theorem there_any (k r c q x : Int) (w : World) : Calls Tryz.prog 91 #[.agg #[.int .i64 k, .int .i64 r, .int .i64 c, .int .i64 q], .int .i64 x] w fun e w' => e = .returned (.bool (inR q x)) /\ Below w.heap.size w w' := by
 go_enter Tryz.func91, Tryz.ntmps91
 go_wp2
 all_goals (
  go_ret
  refine ⟨ret_bool ?_, below_alloc _ _⟩
  unfold inR
  simp <;> omega)
theorem ent_held {w w0 w1 : World} {x0 x1 : Value} {t : TypeId} (h0 : w0 = w.alloc (.cells #[x0, x1] t)) (hb : Below w0.heap.size w0 w1) :
  w1.cell? ⟨w.heap.size, 0, none⟩ = some x0 /\ w1.cell? ⟨w.heap.size, 1, none⟩ = some x1 := ⟨blk_held h0 hb 0 rfl, blk_held h0 hb 1 rfl⟩
set_option maxHeartbeats 1000000 in
set_option maxRecDepth 100000 in
theorem may_any (k r c q : Int) (w : World) (ao : Option Addr) (l : List En) (ca : Nat) (hv : Ren w ao l ca) (hn : l.length <= 1000000) :
  Calls Tryz.prog 69 #[.agg #[.int .i64 k, .int .i64 r, .int .i64 c, .int .i64 q], .slice ao l.length ca] w fun e w' => e = .returned (.bool (mayE q l)) /\ Below w.heap.size w w' := by
 obtain ⟨w0, hw0⟩ : ∃ w0, w0 = w.alloc (.cells #[.int .i64 k, .int .i64 r, .int .i64 c, .int .i64 q] 23) := ⟨_, rfl⟩
 have b0 : Below w.heap.size w w0 := by rw [hw0]; exact below_alloc _ _
 have HPAR : Hid (∀ v, Below w0.heap.size w0 v -> v.cell? ⟨w.heap.size, 0, none⟩ = some (.int .i64 k) /\ v.cell? ⟨w.heap.size, 1, none⟩ = some (.int .i64 r) /\ v.cell? ⟨w.heap.size, 2, none⟩ = some (.int .i64 c) /\ v.cell? ⟨w.heap.size, 3, none⟩ = some (.int .i64 q)) := fun v hv => par_held hw0 hv
 have HV : Hid (Ren w0 ao l ca) := hv.below b0
 have HC := NCheck_any
 have HT := there_any k r c q
 have HL := Less_any
 have HB0 : Hid (Below w.heap.size w w0) := b0
 have HY : Hid ((∀ i, i < l.length -> okI q l i = true) -> mayE q l = true) := (mayE_iff q l).2
 have HN : Hid (∀ i, i < l.length -> okI q l i = false -> mayE q l = false) := fun i hi g => mayE_no hi g
 obtain ⟨M, hM⟩ : ∃ M, M = mayE q l := ⟨_, rfl⟩
 rw [<- hM] at HY HN ⊢
 clear hv b0 hM
 go_enter Tryz.func69, Tryz.ntmps69
 go_wp2_with fail
 rw [<- hw0]
 clear hw0
 go_loopw [9] (fun x wr => ∃ i : Nat, i <= l.length /\ x = .int .i64 (i : Int) /\ Hid (∀ j, j < i -> okI q l j = true) /\ Hid (Below w0.heap.size w0 wr)) (fun x _ => l.length - (intOf x).toNat)
 case atStart => exact ⟨0, Nat.zero_le _, rfl, fun j hj => absurd hj (by omega), Below.refl _ _⟩
 case round =>
  obtain ⟨i, hi, rfl, hok, hbel⟩ := hrel
  by_cases hlt : i < l.length
  ·obtain ⟨b, off, rfl, hc⟩ := (HV.out.below hbel.out).at_ (by omega)
   obtain ⟨c0, c1⟩ := hc i hlt
   have HPREV : Hid (0 < i -> wr.cell? ⟨b, off + (i - 1) * 2, none⟩ = some (.string ⟨(gN l (i - 1)).toArray⟩)) := fun h => (hc (i - 1) (by omega)).1
   have HOK : Hid (okI q l i = (oneE q (gN l i, gR l i) && (decide (i = 0) || decide (gN l (i - 1) < gN l i)))) := rfl
   have HNO : Hid (okI q l i = false -> M = false) := HN.out i hlt
   have HYES : Hid (okI q l i = true -> ∀ j, j < i + 1 -> okI q l j = true) := fun h j hj => by
    by_cases e : j = i
    ·rw [e]; exact h
    ·exact hok.out j (by omega)
   obtain ⟨N, hN⟩ : ∃ N, N = gN l i := ⟨_, rfl⟩
   obtain ⟨R, hR⟩ : ∃ R, R = gR l i := ⟨_, rfl⟩
   rw [<- hN] at c0 HOK
   rw [<- hR] at c1 HOK
   have i1 : (0 : Int) <= (i : Int) := by omega
   have i2 : (i : Int) < (l.length : Int) := by omega
   obtain ⟨x0, x1, x2, x3⟩ := HPAR.out wr hbel.out
   clear hc hN hR
   obtain ⟨w1, hw1⟩ : ∃ w1, w1 = wr.alloc (.cells #[.string ⟨N.toArray⟩, .int .i64 R] 42) := ⟨_, rfl⟩
   have HB1 : Hid (Below w0.heap.size w0 w1) := by rw [hw1]; exact below_then hbel.out (below_alloc _ _)
   have HE : Hid (∀ v, Below w1.heap.size w1 v -> v.cell? ⟨wr.heap.size, 0, none⟩ = some (.string ⟨N.toArray⟩) /\ v.cell? ⟨wr.heap.size, 1, none⟩ = some (.int .i64 R)) := fun v hv => ent_held hw1 hv
   obtain ⟨y0, y1⟩ := HE.out w1 (Below.refl _ _)
   have HBW : Hid (Below wr.heap.size wr w1) := by rw [hw1]; exact below_alloc _ _
   have hHC := HC N
   cases hm : mayN N
   ·rw [erM_bad hm] at hHC
    go_wp2_with fail
    rw [<- hw1]
    clear hw1
    refine (hHC _).mono ?_
    rintro _ w2 ⟨rfl, rfl⟩
    go_wp2
    go_ret
    exact ⟨ret_bool (HNO.out (by rw [HOK.out]; unfold oneE; rw [hm]; rfl)).symm, below_then HB0.out HB1.out⟩
   ·rw [erM_good hm] at hHC
    have hHT := HT R
    obtain ⟨x0, x1, x2, x3⟩ := HPAR.out w1 HB1.out
    cases hr : inR q R
    ·rw [hr] at hHT
     go_wp2_with fail
     rw [<- hw1]
     clear hw1
     refine (hHC _).mono ?_
     rintro _ w2 ⟨rfl, rfl⟩
     go_wp2_with fail
     refine (hHT _).mono ?_
     rintro _ w3 ⟨rfl, hb3⟩
     go_wp2
     go_ret
     exact ⟨ret_bool (HNO.out (by rw [HOK.out]; unfold oneE; rw [hm, hr]; rfl)).symm, below_then HB0.out (below_then HB1.out hb3)⟩
    ·rw [hr] at hHT
     have HON : Hid (oneE q (N, R) = true) := by show oneE q (N, R) = true; unfold oneE; rw [hm, hr]; rfl
     go_wp2_with fail
     rw [<- hw1]
     clear hw1
     refine (hHC _).mono ?_
     rintro _ w2 ⟨rfl, rfl⟩
     go_wp2_with fail
     refine (hHT _).mono ?_
     rintro _ w3 ⟨rfl, hb3⟩
     obtain ⟨z0, z1⟩ := HE.out w3 hb3
     have HB3 : Hid (Below w0.heap.size w0 w3) := below_then HB1.out hb3
     have HP3 : Hid (0 < i -> w3.cell? ⟨b, off + (i - 1) * 2, none⟩ = some (.string ⟨(gN l (i - 1)).toArray⟩)) := fun h => held (HPREV.out h) (below_then HBW.out hb3)
     clear x0 x1 x2 x3 y0 y1 c0 c1 HE hb3 hHT hHC HPREV HBW HT HC
     by_cases h0 : i = 0
     ·subst h0
      have HOKI : Hid (okI q l 0 = true) := by show _ = _; rw [HOK.out, HON.out]; rfl
      go_wp2
      go_quiet (fail)
      go_wp2
      go_roundw
      case rel => exact ⟨0 + 1, by omega, by go_num, HYES.out HOKI.out, HB3.out.trans (below_drewN _ _ _)⟩
      case measure => simp [intOf]; omega
     ·have hHL := HL (gN l (i - 1)) N
      have c2 := HP3.out (by omega)
      obtain ⟨m, hm1⟩ : ∃ m, m = i - 1 := ⟨_, rfl⟩
      rw [<- hm1] at hHL c2
      have i0 : 0 < i := by omega
      have i3 : (0 : Int) < (i : Int) := by omega
      have i4 : (0 : Int) <= (m : Int) := by omega
      have i5 : (m : Int) < (l.length : Int) := by omega
      have i6 : IntKind.i64.wrap ((i : Int) - 1) = (m : Int) := by rw [IntKind.wrap_i64]; omega
      have HM : Hid (m = i - 1) := hm1
      clear hm1
      cases hl : decide (gN l m < N)
      ·rw [hl] at hHL
       go_wp2_with fail
       go_region_held3 (fun w' => w'.cell? ⟨b, off + m * 2, none⟩ = some (.string ⟨(gN l m).toArray⟩) /\ w'.cell? ⟨wr.heap.size, 0, none⟩ = some (.string ⟨N.toArray⟩)) (go_keep) ((go_at_call 98; refine (hHL _).mono ?_; rintro e wa ⟨rfl, rfl⟩))
       go_wp2
       go_ret
       exact ⟨ret_bool (HNO.out (by rw [HOK.out, HON.out, <- HM.out, hl]; simp [h0])).symm, below_then HB0.out (HB3.out.trans (below_drew _ _))⟩
      ·rw [hl] at hHL
       have HOKI : Hid (okI q l i = true) := by show _ = _; rw [HOK.out, HON.out, <- HM.out, hl]; simp
       go_wp2_with fail
       go_region_held3 (fun w' => w'.cell? ⟨b, off + m * 2, none⟩ = some (.string ⟨(gN l m).toArray⟩) /\ w'.cell? ⟨wr.heap.size, 0, none⟩ = some (.string ⟨N.toArray⟩)) (go_keep) ((go_at_call 98; refine (hHL _).mono ?_; rintro e wa ⟨rfl, rfl⟩))
       go_wp2
       trace_state
       go_roundw
       case rel => exact ⟨i + 1, by omega, by go_num, HYES.out HOKI.out, HB3.out.trans (below_drew _ _)⟩
       case measure => simp [intOf]; omega
  ·obtain rfl : i = l.length := by omega
   have HMM : Hid (M = true) := HY.out fun j hj => hok.out j hj
   go_wp2
   go_ret
   exact ⟨ret_bool HMM.out.symm, below_then HB0.out hbel.out⟩
end Go.Proofs.YtngcdlodcdgcaaaGreat.Dr
namespace Go.Proofs.YtngcdlodcdgcaaaGreat.Dr
open Go.RowKit Go.Sort
theorem sz_len (l : List En) : 3 * l.length <= szE l := by
 induction l with
 | nil => simp [szE]
 | cons x l ih => rw [sz_cons, List.length_cons]; omega
theorem len_int {a b : Int} (h : a = b) : Value.int .i64 a = .int .i64 b := by rw [h]
set_option maxHeartbeats 1000000 in
set_option maxRecDepth 100000 in
theorem length_any (w : World) (ao : Option Addr) (l : List En) (ca : Nat) (hv : Ren w ao l ca) (hsz : szE l <= 1000000000) :
  Calls Tryz.prog 110 #[.slice ao l.length ca] w fun e w' => e = .returned (.int .i64 ((szE l : Nat) : Int)) /\ Below w.heap.size w w' := by
 have HV : Hid (Ren w ao l ca) := hv
 have HS : Hid (∀ i, i < l.length -> szE (l.take (i + 1)) = szE (l.take i) + ((gN l i).length + 3)) := fun i h => sz_take h
 have HM : Hid (∀ i, szE (l.take i) <= 1000000000) := fun i => Nat.le_trans (sz_take_le l i) hsz
 have HE : Hid (szE (l.take l.length) = szE l) := by show _ = _; rw [List.take_length]
 have hln := sz_len l
 have hln2 : (l.length : Int) <= 400000000 := by omega
 clear hv hsz
 go_enter Tryz.func110, Tryz.ntmps110
 go_wp2_with fail
 go_loopw [3, 8] (fun s x wr => ∃ i z : Nat, i <= l.length /\ x = .int .i64 (i : Int) /\ s = .int .i64 (z : Int) /\ Hid (z = szE (l.take i)) /\ Hid (Below w.heap.size w wr)) (fun _ x _ => l.length - (intOf x).toNat)
 case atStart => exact ⟨0, 0, Nat.zero_le _, rfl, rfl, rfl, Below.refl _ _⟩
 case round =>
  obtain ⟨i, z, hi, rfl, rfl, hz, hbel⟩ := hrel
  by_cases hlt : i < l.length
  ·obtain ⟨b, off, rfl, hc⟩ := (HV.out.below hbel.out).at_ (by omega)
   obtain ⟨c0, c1⟩ := hc i hlt
   have HZ : Hid (z + ((gN l i).length + 3) = szE (l.take (i + 1))) := by show _ = _; rw [HS.out i hlt, hz.out]
   have hb1 := HM.out (i + 1)
   rw [<- HZ.out] at hb1
   obtain ⟨N, hN⟩ : ∃ N, N = gN l i := ⟨_, rfl⟩
   rw [<- hN] at c0 HZ hb1
   have hs := str_size N
   have i1 : (0 : Int) <= (i : Int) := by omega
   have i2 : (i : Int) < (l.length : Int) := by omega
   clear hc hN
   go_wp2
   go_roundw
   case rel =>
    refine ⟨i + 1, z + (N.length + 3), by omega, by go_num, len_int ?_, HZ, hbel.out.alloc hbel.out.size _⟩
    omega
   case measure => simp [intOf]; omega
  ·obtain rfl : i = l.length := by omega
   have HEE : Hid (z = szE l) := by show _ = _; rw [hz.out, HE.out]
   go_wp2
   go_ret
   exact ⟨by rw [HEE.out]; rfl, hbel.out⟩
end Go.Proofs.YtngcdlodcdgcaaaGreat.Dr
namespace Go.Proofs.YtngcdlodcdgcaaaGreat.Dr
open Go.RowKit Go.Sort
structure PP (k r c q : Int) (M : Nat) (e : Int) : Prop where
  er : e = 0 \/ e = 2
  rows : e = 0 -> 8 <= q /\ q <= 256
  top : M <= 32768
  most : ∀ w, Calls Tryz.prog 67 #[.agg #[.int .i64 k, .int .i64 r, .int .i64 c, .int .i64 q]] w fun e' w' => e' = .returned (.tuple #[.int .i64 (M : Int), .int .i64 e]) /\ Below w.heap.size w w'
  chk : ∀ w, Calls Tryz.prog 58 #[.agg #[.int .i64 k, .int .i64 r, .int .i64 c, .int .i64 q]] w fun e' w' => e' = .returned (.int .i64 e) /\ Below w.heap.size w w'
def Few (l : List En) : Prop := l.length <= 1000000 /\ szE l <= 1000000000 /\ ∀ x ∈ l, x.1.length <= 100000
set_option maxHeartbeats 1000000 in
set_option maxRecDepth 100000 in
theorem Check_e {k r c q : Int} {M : Nat} {e : Int} (hp : PP k r c q M e) (w : World) (ao : Option Addr) (l : List En) (ca : Nat) (hv : Ren w ao l ca) (hf : Few l) :
  Calls Tryz.prog 80 #[.agg #[.int .i64 k, .int .i64 r, .int .i64 c, .int .i64 q], .slice ao l.length ca] w fun e' w' => e' = .returned (.int .i64 (erC e M q l)) /\ Below w.heap.size w w' := by
 obtain ⟨w0, hw0⟩ : ∃ w0, w0 = w.alloc (.cells #[.int .i64 k, .int .i64 r, .int .i64 c, .int .i64 q] 23) := ⟨_, rfl⟩
 have b0 : Below w.heap.size w w0 := by rw [hw0]; exact below_alloc _ _
 have HPAR : Hid (∀ v, Below w0.heap.size w0 v -> v.cell? ⟨w.heap.size, 0, none⟩ = some (.int .i64 k) /\ v.cell? ⟨w.heap.size, 1, none⟩ = some (.int .i64 r) /\ v.cell? ⟨w.heap.size, 2, none⟩ = some (.int .i64 c) /\ v.cell? ⟨w.heap.size, 3, none⟩ = some (.int .i64 q)) := fun v hv => par_held hw0 hv
 have HV : Hid (Ren w0 ao l ca) := hv.below b0
 have HB0 : Hid (Below w.heap.size w w0) := b0
 have HM : Hid (∀ v, Below w0.heap.size w0 v -> Calls Tryz.prog 69 #[.agg #[.int .i64 k, .int .i64 r, .int .i64 c, .int .i64 q], .slice ao l.length ca] v fun e w' => e = .returned (.bool (mayE q l)) /\ Below v.heap.size v w') := fun v hb => may_any k r c q v ao l ca (HV.out.below hb) hf.1
 have HL : Hid (∀ v, Below w0.heap.size w0 v -> Calls Tryz.prog 110 #[.slice ao l.length ca] v fun e w' => e = .returned (.int .i64 ((szE l : Nat) : Int)) /\ Below v.heap.size v w') := fun v hb => length_any v ao l ca (HV.out.below hb) hf.2.1
 have HMO := hp.most
 obtain ⟨x0, x1, x2, x3⟩ := HPAR.out w0 (Below.refl _ _)
 have her := hp.er
 have htop := hp.top
 clear hv hf b0 hp
 rcases her with he | he
 ·subst he
  go_enter Tryz.func80, Tryz.ntmps80
  go_wp2_with fail
  rw [<- hw0]
  clear hw0
  refine (HMO _).mono ?_
  rintro _ w1 ⟨rfl, h1⟩
  have HB1 : Hid (Below w0.heap.size w0 w1) := h1
  have HM1 := HM.out w1 h1
  clear x0 x1 x2 x3 h1
  obtain ⟨x0, x1, x2, x3⟩ := HPAR.out w1 HB1.out
  cases hm : mayE q l
  ·rw [hm] at HM1
   go_wp2_with fail
   refine HM1.mono ?_
   rintro _ w2 ⟨rfl, h2⟩
   go_wp2
   go_ret
   exact ⟨ret_int (by unfold erC; rw [if_pos rfl, hm]; rfl), below_then HB0.out (below_then HB1.out h2)⟩
  ·rw [hm] at HM1
   go_wp2_with fail
   refine HM1.mono ?_
   rintro _ w2 ⟨rfl, h2⟩
   have HB2 : Hid (Below w0.heap.size w0 w2) := below_then HB1.out h2
   have HL2 := HL.out w2 HB2.out
   by_cases hz : M < szE l
   ·have hz1 : (M : Int) < (szE l : Int) := by omega
    go_wp2_with fail
    refine HL2.mono ?_
    rintro _ w3 ⟨rfl, h3⟩
    go_wp2
    go_ret
    exact ⟨ret_int (by unfold erC; rw [if_pos rfl, hm, if_pos rfl, if_pos hz]), below_then HB0.out (below_then HB2.out h3)⟩
   ·have hz1 : ¬ (M : Int) < (szE l : Int) := by omega
    go_wp2_with fail
    refine HL2.mono ?_
    rintro _ w3 ⟨rfl, h3⟩
    go_wp2
    go_ret
    exact ⟨ret_int (by unfold erC; rw [if_pos rfl, hm, if_pos rfl, if_neg hz]), below_then HB0.out (below_then HB2.out h3)⟩
 ·subst he
  go_enter Tryz.func80, Tryz.ntmps80
  go_wp2_with fail
  rw [<- hw0]
  clear hw0
  refine (HMO _).mono ?_
  rintro _ w1 ⟨rfl, h1⟩
  go_wp2
  go_ret
  exact ⟨ret_int (by unfold erC; rw [if_neg (by decide)]), below_then HB0.out h1⟩
end Go.Proofs.YtngcdlodcdgcaaaGreat.Dr
namespace Go.Proofs.YtngcdlodcdgcaaaGreat.Dr
open Go.RowKit Go.Sort
theorem step_ents {w : World} {ops : Array Oper} {o : Oper} {a : Act} {K : Act -> World -> Prop} {Q : Exit -> Act -> World -> Prop} {E : Prop} (hgd : o.guard = none) (s x : Operand)
  (ho : o.op = .call { callee := .builtin .append, args := #[s, x], argTypes := #[38, 38] }) (B ca cb : Nat) (ao bo : Option Addr) (l m : List En)
  (hs : a.eval s = .slice ao l.length ca) (hx : a.eval x = .slice bo m.length cb) (h : OwE B w ao l ca) (hv : Ren w bo m cb) (hm : 0 < m.length) (hk : l.length + m.length <= 10000000) (hB : B <= w.heap.size)
  (cont : ∀ ao' c' w' L, L = l ++ m -> OwE B w' ao' L c' -> w.grownBy w' (Value.slice ao l.length ca).ownBlock -> K (a.put o.dst (.slice ao' L.length c')) w') : if Region.wanted o (yielded ops a.tmps) = true then Oper.wp Tryz.prog o a w K Q else E := by
 obtain ⟨j0, hj, hj0, hj1, hj2⟩ := info_parts info34
 obtain ⟨b, off, e, hc⟩ := Rev.rd hv hm
 subst e
 refine step_append_lies w hgd s x 38 ho B 42 j0 (.agg #[.string ⟨#[]⟩, .int .i64 0]) 2 24 Tryz.underlying38 hj hj0 hj1 hj2 rfl (by decide) (.slice ao l.length ca) l.length (evl l) hs h ⟨b, off, none⟩ m.length cb (evl m) hx (evl_length m) (fun j u hj => by rw [alit]; exact hc j u hj) (evl_one m) hm (by unfold maxLen; omega) (by omega) hB w.heap.size rfl ?_
 intro g cap w' g1 g2 _ _
 have := cont (some ⟨g, 0, none⟩) cap w' (l ++ m) rfl (by unfold OwE; rw [List.length_append, evl_append]; exact g1) g2
 rw [List.length_append] at this
 exact this
end Go.Proofs.YtngcdlodcdgcaaaGreat.Dr
