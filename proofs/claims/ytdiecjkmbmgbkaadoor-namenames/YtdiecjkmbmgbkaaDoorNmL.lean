/- The row of some names, by the document: each put in at its place. -/
import Derived.Test.YtdiecjkmbmgbkaaDoorNmK
import Derived.Laws.CopyOwn
import Derived.Deep.RegionLaw
namespace Go.Proofs.YtdiecjkmbmgbkaaDoor
open Go.RowKit

theorem strInfo : (Tryd.prog.info? 9).map (fun i => (i.zero, i.size, i.bytes)) = some (some (.string ⟨#[]⟩), 1, 16) := by kernel_rfl
def sx (l : Nm) : Value := .string ⟨l.toArray⟩
def ens (R : List Nm) : List Value := R.map sx
theorem ens_length (R : List Nm) : (ens R).length = R.length := by simp [ens]
theorem ens_get (R : List Nm) (j : Nat) (hj : j < R.length) : (ens R)[j]? = some (sx (R[j]'hj)) := by simp [ens, hj]
theorem ens_one {R : List Nm} : ∀ u ∈ ens R, u.oneCell' = true := by
  intro u hu
  simp only [ens, List.mem_map] at hu
  obtain ⟨l, _, rfl⟩ := hu
  rfl
/-- A row of names of the call's own, as append makes it. -/
def OwR (B : Nat) (w : World) (v : Value) (R : List Nm) : Prop := ((v = .slice none 0 0 ∧ R = []) ∨ ∃ g cap cur, v = .slice (some ⟨g, 0, none⟩) R.length cap ∧ B ≤ g ∧ w.heap[g]? = some (.cells cur 9 (0, 0)) ∧ R.length ≤ cap ∧ cap ≤ maxLen ∧ cur.size = cap ∧ cur.toList.take R.length = ens R)
theorem OwR.row {B : Nat} {w : World} {v : Value} {R : List Nm} (h : OwR B w v R) : w.ownsRow B 9 1 v R.length (ens R) := by
  refine ⟨by rw [ens_length, Nat.mul_one], ?_⟩
  rcases h with ⟨e, rfl⟩ | ⟨g, cap, cur, e1, e2, e3, e4, e5, e6, e7⟩
  · exact .inl ⟨e, rfl⟩
  · exact .inr ⟨g, cap, cur, e1, e2, e3, e4, e5, by rw [Nat.mul_one]; exact e6, by rw [Nat.mul_one]; exact e7⟩
theorem owR_of {B : Nat} {w : World} {v : Value} {R : List Nm} (h : w.ownsRow B 9 1 v R.length (ens R)) : OwR B w v R := by
  rcases h.2 with ⟨e, e2⟩ | ⟨g, cap, cur, e1, e2, e3, e4, e5, e6, e7⟩
  · exact .inl ⟨e, List.length_eq_zero_iff.1 e2⟩
  · exact .inr ⟨g, cap, cur, e1, e2, e3, e4, e5, by rw [Nat.mul_one] at e6; exact e6, by rw [Nat.mul_one] at e7; exact e7⟩
theorem OwR.below {B : Nat} {w w' : World} {v : Value} {R : List Nm} (h : OwR B w v R) (hb : Below w.heap.size w w') : OwR B w' v R := by
  rcases h with e | ⟨g, cap, cur, e1, e2, e3, e4⟩
  · exact .inl e
  · have : g < w.heap.size := (Array.getElem?_eq_some_iff.1 e3).1
    exact .inr ⟨g, cap, cur, e1, e2, by rw [hb.block g this]; exact e3, e4⟩
theorem block_cell {w : World} {g : Nat} {cur : Array Value} {t : TypeId} {R : List Nm} (h : w.heap[g]? = some (.cells cur t (0, 0))) (ht : cur.toList.take R.length = ens R) (j : Nat) (hj : j < R.length) : w.cell? ⟨g, j, none⟩ = some (sx (R[j]'hj)) ∧ w.frozen? ⟨g, j, none⟩ = false := by
  refine ⟨?_, by simp [World.frozen?, h]⟩
  rw [Lib.cell_of_heap h, ← Array.getElem?_toList]
  have h1 : (cur.toList.take R.length)[j]? = (ens R)[j]? := by rw [ht]
  rw [List.getElem?_take_of_lt hj, ens_get R j hj] at h1
  exact h1
theorem OwR.own {B : Nat} {w : World} {v : Value} {R : List Nm} (h : OwR B w v R) : ∃ ao cap, v = .slice ao R.length cap ∧ R.length ≤ cap ∧ OwN B w ao R := by
  rcases h with ⟨rfl, rfl⟩ | ⟨g, cap, cur, rfl, e2, e3, e4, _, _, e7⟩
  · exact ⟨none, 0, rfl, Nat.le_refl _, fun h => absurd rfl h⟩
  · exact ⟨_, cap, rfl, e4, fun _ => ⟨g, rfl, e2, (Array.getElem?_eq_some_iff.1 e3).1, fun j hj => block_cell e3 e7 j hj⟩⟩
theorem owR_nil (B : Nat) (w : World) : OwR B w (.slice none 0 0) [] := .inl ⟨rfl, rfl⟩
/-- A name put behind a row of the call's own. -/
theorem app_name {w : World} {ops : Array Oper} {rest : List Oper} {o : Oper} {a : Act} {Q : Exit → Act → World → Prop} (hgd : o.guard = none) (s x : Operand)
    (ho : o.op = .call { callee := .builtin .append, args := #[s, x], argTypes := #[32, 32] }) (B : Nat) (v : Value) (R : List Nm) (y : Nm) (g cb : Nat)
    (hs : a.eval s = v) (hx : a.eval x = .slice (some ⟨g, 0, none⟩) 1 cb) (h : OwR B w v R) (hy : w.cell? ⟨g, 0, none⟩ = some (sx y)) (hl : R.length ≤ 1000000) (hB : B ≤ w.heap.size)
    (cont : ∀ v' w', Hid (OwR B w' v' (R ++ [y])) → Hid (Below B w w') → wpList Tryd.prog ops Q rest (a.put o.dst v') w') : wpList Tryd.prog ops Q (o :: rest) a w := by
  obtain ⟨j0, hj, hj0, hj1, hj2⟩ := info_parts strInfo
  refine wpList_append_own w hgd s x 32 ho B 9 j0 (.string ⟨#[]⟩) 1 16 Tryd.underlying32 hj hj0 hj1 hj2 rfl (by decide) v R.length (ens R) hs h.row ⟨g, 0, none⟩ 1 cb [sx y] hx rfl (fun j u hu => ?_) (fun u hu => ?_) (by unfold maxLen; omega) (by omega) hB ?_
  · match j, hu with
    | 0, hu => simp at hu; subst hu; rw [Addr.add_lit]; exact hy
  · simp at hu; subst hu; rfl
  · intro v' w' h1 h2 h3
    exact cont v' w' (owR_of (by rw [List.length_append, show ens (R ++ [y]) = ens R ++ [sx y] by simp [ens]]; exact h1)) ((Below.refl _ _).grown h2 hB (fun q hq => (h.row.lt q hq).1))
theorem ins_cells (C : List Value) (R : List Nm) (x : Nm) (i : Nat) (ha : i ≤ R.length) (hC : C.take (R.length + 1) = ens (R ++ [[]])) (hl : R.length + 1 ≤ C.length) :
    ((splice C (i + 1) (ens (R.drop i))).set i (sx x)).take (R.length + 1) = ens (R.take i ++ x :: R.drop i) ∧ (splice C (i + 1) (ens (R.drop i))).length = C.length := by
  have h1 : C.take i = ens (R.take i) := by
    have : (C.take (R.length + 1)).take i = (ens (R ++ [[]])).take i := by rw [hC]
    rw [List.take_take, Nat.min_eq_left (by omega)] at this
    rw [this]
    simp only [ens, ← List.map_take]
    rw [List.take_append_of_le_length ha]
  have hlen : (ens (R.drop i)).length = R.length - i := by rw [ens_length, List.length_drop]
  refine ⟨?_, length_splice _ _ _ (by rw [hlen]; omega)⟩
  have h2 : C.take (i + 1) = C.take i ++ [C[i]'(by omega)] := by rw [List.take_succ_eq_append_getElem (by omega)]
  rw [splice, h2, h1, List.append_assoc, List.set_append_right _ _ (by simp [ens]; omega)]
  have e0 : i - (ens (R.take i)).length = 0 := by rw [ens_length, List.length_take]; omega
  rw [e0]
  simp only [List.singleton_append, List.set_cons_zero]
  rw [show ens (R.take i ++ x :: R.drop i) = ens (R.take i) ++ sx x :: ens (R.drop i) by simp [ens]]
  rw [List.take_append, List.take_of_length_le (by rw [ens_length, List.length_take]; omega)]
  congr 1
  rw [ens_length, List.length_take, Nat.min_eq_left ha, show R.length + 1 - i = (R.length - i) + 1 by omega, List.take_succ_cons]
  congr 1
  rw [List.take_append_of_le_length (by rw [hlen]; exact Nat.le_refl _)]
  exact List.take_of_length_le (by rw [hlen]; exact Nat.le_refl _)
theorem owR_snoc {B : Nat} {w : World} {v : Value} {R : List Nm} (h : OwR B w v (R ++ [[]])) : ∃ (g cap : Nat) (C : List Value), v = .slice (some ⟨g, 0, none⟩) (R.length + 1) cap ∧ B ≤ g ∧ w.heap[g]? = some (.cells C.toArray 9 (0, 0)) ∧ R.length + 1 ≤ cap ∧ cap ≤ maxLen ∧ C.length = cap ∧ C.take (R.length + 1) = ens (R ++ [[]]) := by
  rcases h with ⟨_, e⟩ | ⟨g, cap, cur, e1, e2, e3, e4, e5, e6, e7⟩
  · simp at e
  · rw [List.length_append] at e1 e4 e7
    exact ⟨g, cap, cur.toList, e1, e2, e3, e4, e5, by rw [Array.length_toList]; exact e6, e7⟩
theorem szStr : (Tryd.prog.info? 9).map (·.size) = some 1 := by kernel_rfl
theorem owR_put {B g cap : Nat} {w : World} {C : List Value} {R : List Nm} {i : Nat} {x : Nm} (hB : B ≤ g) (h : w.heap[g]? = some (.cells (splice C (i + 1) (ens (R.drop i))).toArray 9 (0, 0))) (hi : i ≤ R.length) (hcap : R.length + 1 ≤ cap) (hm : cap ≤ maxLen) (hC : C.length = cap) (ht : C.take (R.length + 1) = ens (R ++ [[]])) :
    OwR B (w.setCell ⟨g, i, none⟩ (sx x)) (.slice (some ⟨g, 0, none⟩) (R.length + 1) cap) (R.take i ++ x :: R.drop i) := by
  obtain ⟨h1, h2⟩ := ins_cells C R x i hi ht (by omega)
  have hl : (R.take i ++ x :: R.drop i).length = R.length + 1 := by simp; omega
  refine .inr ⟨g, cap, ((splice C (i + 1) (ens (R.drop i))).set i (sx x)).toArray, by rw [hl], hB, ?_, by rw [hl]; exact hcap, hm, by simp [h2, hC], by rw [hl]; simpa using h1⟩
  rw [Go.Sort.setCell_eq]
  simp [Go.Sort.mapBlock, Array.getElem?_modify, h, Go.Sort.onCells]
end Go.Proofs.YtdiecjkmbmgbkaaDoor
