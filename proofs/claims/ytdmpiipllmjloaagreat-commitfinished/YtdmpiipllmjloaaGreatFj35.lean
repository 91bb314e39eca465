/- Shf CnE: what is needed of them. -/
import Derived.Shelf.SlSortCmp.NoneTotal
import Derived.Shelf.SlSortCmp.WholeK
import Derived.Maps.RangeWalk
import Derived.Test.YtdmpiipllmjloaaGreatRows
import Derived.Test.YtdmpiipllmjloaaGreatFj34
namespace Go.Proofs.YtdmpiipllmjloaaGreat.Cn
open Go.Shelf
def sortT_ren : Go.Shelf.Ren := ⟨fun | 6 => 137 | 15 => 148 | 14 => 147 | 28 => 165 | 29 => 166 | 20 => 157 | 21 => 158 | 22 => 159 | 23 => 160 | 24 => 161 | 25 => 162 | 26 => 163 | 27 => 164 | 46 => 170 | 47 => 171 | 48 => 172 | 49 => 173 | 50 => 174 | 57 => 176 | n => n, fun | 22 => 164 | 24 => 168 | 25 => 219 | 3 => 3 | 39 => 171 | 0 => 0 | 53 => 195 | 55 => 198 | 4 => 4 | 46 => 234 | 45 => 233 | 50 => 174 | 5 => 5 | 9 => 9 | 66 => 243 | 70 => 247 | 76 => 250 | 77 => 251 | n => n, fun | n => n⟩
theorem sortT : Go.Proofs.SlLaysF0.n6 Tryz.prog sortT_ren := {
  mixed := by kernel_rfl
  f6 := ⟨Tryz.f137.name, by decide, Tryz.func137.trans (congrArg some (by kernel_rfl))⟩
  f14 := ⟨Tryz.f147.name, by decide, Tryz.func147.trans (congrArg some (by kernel_rfl))⟩
  f15 := Tryz.func148.trans (congrArg some (by kernel_rfl))
  f20 := ⟨Tryz.f157.name, by decide, Tryz.func157.trans (congrArg some (by kernel_rfl))⟩
  f21 := ⟨Tryz.f158.name, by decide, Tryz.func158.trans (congrArg some (by kernel_rfl))⟩
  f22 := ⟨Tryz.f159.name, by decide, Tryz.func159.trans (congrArg some (by kernel_rfl))⟩
  f23 := ⟨Tryz.f160.name, by decide, Tryz.func160.trans (congrArg some (by kernel_rfl))⟩
  f24 := ⟨Tryz.f161.name, by decide, Tryz.func161.trans (congrArg some (by kernel_rfl))⟩
  f25 := ⟨Tryz.f162.name, by decide, Tryz.func162.trans (congrArg some (by kernel_rfl))⟩
  f26 := ⟨Tryz.f163.name, by decide, Tryz.func163.trans (congrArg some (by kernel_rfl))⟩
  f27 := ⟨Tryz.f164.name, by decide, Tryz.func164.trans (congrArg some (by kernel_rfl))⟩
  f28 := Tryz.func165.trans (congrArg some (by kernel_rfl))
  f29 := Tryz.func166.trans (congrArg some (by kernel_rfl))
  f46 := ⟨Tryz.f170.name, by decide, Tryz.func170.trans (congrArg some (by kernel_rfl))⟩
  f47 := Tryz.func171.trans (congrArg some (by kernel_rfl))
  f48 := Tryz.func172.trans (congrArg some (by kernel_rfl))
  f49 := ⟨Tryz.f173.name, by decide, Tryz.func173.trans (congrArg some (by kernel_rfl))⟩
  f50 := ⟨Tryz.f174.name, by decide, Tryz.func174.trans (congrArg some (by kernel_rfl))⟩
  f57 := ⟨Tryz.f176.name, by decide, Tryz.func176.trans (congrArg some (by kernel_rfl))⟩
  t0 := Tryz.underlying0
  a0 := Tryz.isAgg0
  z0 := Tryz.sizeOf0
  v0 := Tryz.zeroValue0
  t3 := Tryz.underlying3
  a3 := Tryz.isAgg3
  z3 := Tryz.sizeOf3
  v3 := Tryz.zeroValue3
  t4 := Tryz.underlying4
  a4 := Tryz.isAgg4
  z4 := Tryz.sizeOf4
  v4 := Tryz.zeroValue4
  t5 := Tryz.underlying5
  a5 := Tryz.isAgg5
  z5 := Tryz.sizeOf5
  v5 := Tryz.zeroValue5
  t9 := Tryz.underlying9
  a9 := Tryz.isAgg9
  z9 := Tryz.sizeOf9
  v9 := Tryz.zeroValue9
  t22 := Tryz.underlying164
  a22 := Tryz.isAgg164
  z22 := Tryz.sizeOf164
  v22 := Tryz.zeroValue164
  t25 := Tryz.underlying219
  a25 := Tryz.isAgg219
  z25 := Tryz.sizeOf219
  v25 := Tryz.zeroValue219
  t39 := Tryz.underlying171
  a39 := Tryz.isAgg171
  z39 := Tryz.sizeOf171
  v39 := Tryz.zeroValue171
  t45 := Tryz.underlying233
  a45 := Tryz.isAgg233
  z45 := Tryz.sizeOf233
  v45 := Tryz.zeroValue233
  t46 := Tryz.underlying234
  a46 := Tryz.isAgg234
  z46 := Tryz.sizeOf234
  v46 := Tryz.zeroValue234
  t50 := Tryz.underlying174
  a50 := Tryz.isAgg174
  z50 := Tryz.sizeOf174
  v50 := Tryz.zeroValue174
  t53 := Tryz.underlying195
  a53 := Tryz.isAgg195
  z53 := Tryz.sizeOf195
  v53 := Tryz.zeroValue195
  t55 := Tryz.underlying198
  a55 := Tryz.isAgg198
  z55 := Tryz.sizeOf198
  v55 := Tryz.zeroValue198
  t66 := Tryz.underlying243
  a66 := Tryz.isAgg243
  z66 := Tryz.sizeOf243
  v66 := Tryz.zeroValue243
  t70 := Tryz.underlying247
  a70 := Tryz.isAgg247
  z70 := Tryz.sizeOf247
  v70 := Tryz.zeroValue247
  t76 := Tryz.underlying250
  a76 := Tryz.isAgg250
  z76 := Tryz.sizeOf250
  v76 := Tryz.zeroValue250
  t77 := Tryz.underlying251
  a77 := Tryz.isAgg251
  z77 := Tryz.sizeOf251
  v77 := Tryz.zeroValue251  }
end Go.Proofs.YtdmpiipllmjloaaGreat.Cn
namespace Go.Proofs.YtdmpiipllmjloaaGreat.Cn
open Go.RowKit Go.Maps Go.ChangeShapes Go.Sort Go.Shelf
open Go.WideElems (Fit rg pl rd_val rd_key rg_of rd_mk)
/-- A tally: its version, and where its drives lie. -/
abbrev Tly := Int × Option Addr × Nat × Nat
def sv (c : Option Addr × Nat × Nat) : Value := .slice c.1 c.2.1 c.2.2
def encT (t : Tly) : List Value := [.int .i64 t.1, .slice t.2.1 t.2.2.1 t.2.2.2]
def tF : List Tly → List Value
  | [] => []
  | t :: l => .int .i64 t.1 :: .slice t.2.1 t.2.2.1 t.2.2.2 :: tF l
theorem tF_length : ∀ l : List Tly, (tF l).length = l.length * 2
  | [] => rfl
  | t :: l => by rw [tF]; simp [tF_length l]; omega
theorem tF_append : ∀ l m : List Tly, tF (l ++ m) = tF l ++ tF m
  | [], _ => rfl
  | t :: l, m => by rw [List.cons_append, tF, tF, tF_append l m]; rfl
theorem tF_get : ∀ (l : List Tly) (j : Nat), j < l.length * 2 → (tF l)[j]? = some ((encT l[j / 2]!)[j % 2]!)
  | [], j, h => absurd h (by simp)
  | t :: l, 0, _ => rfl
  | t :: l, 1, _ => rfl
  | t :: l, j + 2, h => by
    have ih := tF_get l j (by simp at h; omega)
    rw [tF, List.getElem?_cons_succ, List.getElem?_cons_succ, ih, show (j + 2) / 2 = j / 2 + 1 by omega, show (j + 2) % 2 = j % 2 by omega]
    simp
theorem tF_0 {l : List Tly} {i : Nat} {t : Tly} (h : l[i]? = some t) : (tF l)[i * 2]? = some (.int .i64 t.1) := by
  have hi := (List.getElem?_eq_some_iff.1 h).1
  rw [tF_get l _ (by omega), show i * 2 / 2 = i by omega, show i * 2 % 2 = 0 by omega, List.getElem!_of_getElem? h]; rfl
theorem tF_1 {l : List Tly} {i : Nat} {t : Tly} (h : l[i]? = some t) : (tF l)[i * 2 + 1]? = some (.slice t.2.1 t.2.2.1 t.2.2.2) := by
  have hi := (List.getElem?_eq_some_iff.1 h).1
  rw [tF_get l _ (by omega), show (i * 2 + 1) / 2 = i by omega, show (i * 2 + 1) % 2 = 1 by omega, List.getElem!_of_getElem? h]; rfl
theorem tF_flat (d : Array Tly) : (flatK encT 2 d).toList = tF d.toList := by
  apply List.ext_getElem?
  intro j
  by_cases hj : j < d.size * 2
  · rw [tF_get _ _ (by simpa using hj)]
    have h1 := get_flatK encT 2 d j hj
    rw [Array.getElem?_toList, Array.getElem?_eq_getElem (by simpa using hj), ← getElem!_pos (flatK encT 2 d) j (by simpa using hj), h1, show d.toList[j / 2]! = d[j / 2]! from by first | exact Array.getElem!_toList | exact Array.getElem!_toList.symm | simp]
  · rw [List.getElem?_eq_none (by simp; omega), List.getElem?_eq_none (by rw [tF_length]; simp; omega)]
theorem own_holdsK {B : Nat} {w : World} {g n cap : Nat} {ts : List Tly} (h : w.ownsRow B 168 2 (.slice (some ⟨g, 0, none⟩) n cap) n (tF ts)) (hn : n = ts.length) : HoldsK encT 2 w g 0 ts.toArray := by
  intro j hj
  have hj' : j < n * 2 := by simp at hj; omega
  refine ⟨?_, ?_⟩
  · rw [Nat.zero_add, World.ownsRow.cellAt h j hj', ← tF_flat ts.toArray, Array.getElem?_toList, Array.getElem?_eq_getElem hj, ← getElem!_pos (flatK encT 2 ts.toArray) j hj]; rfl
  · rw [Nat.zero_add]; exact World.ownsRow.frozenAt h j
/-- What sorting leaves. -/
theorem sorted_row {B : Nat} {w : World} {g n cap m : Nat} {ts : List Tly} {d : Array Tly} {os : Array Obj} (h : w.ownsRow B 168 2 (.slice (some ⟨g, 0, none⟩) n cap) n (tF ts)) (hd : d.size = n) :
    (sortWorldK encT 2 w g 0 m d os).ownsRow B 168 2 (.slice (some ⟨g, 0, none⟩) n cap) n (tF d.toList) ∧ Only (fun b => b = g) w (sortWorldK encT 2 w g 0 m d os) := by
  have hlt : g < w.heap.size := (World.ownsRow.lt h g rfl).2
  constructor
  · rcases h.2 with ⟨h', _⟩ | ⟨g', cap', cur, h', hb, hg, hnc, hcm, hcs, htake⟩
    · simp at h'
    · simp only [Value.slice.injEq, Option.some.injEq, Addr.mk.injEq, and_true, true_and] at h'
      obtain ⟨rfl, rfl⟩ := h'
      refine ⟨by rw [tF_length]; simp [hd], .inr ⟨g, cap, putCells id 0 (flatK encT 2 d) cur, rfl, hb, ?_, hnc, hcm, by simp [putCells, hcs], ?_⟩⟩
      · unfold sortWorldK grow putRowK putRow mapBlock
        show (((Sort.ahead w m).heap.modify g _) ++ os)[g]? = _
        rw [Array.getElem?_append_left (by simpa [Sort.ahead] using hlt), Array.getElem?_modify, if_pos rfl]
        show Option.map _ w.heap[g]? = _
        rw [hg]; rfl
      · rw [← tF_flat]
        apply List.ext_getElem?
        intro j
        have hs : (flatK encT 2 d).size = n * 2 := by simp [hd]
        by_cases hj : j < n * 2
        · have hjc : j < cur.size := by omega
          rw [List.getElem?_take_of_lt hj, Array.getElem?_toList, Array.getElem?_toList]
          simp only [putCells, Array.getElem?_mapIdx, Array.getElem?_eq_getElem hjc, Option.map_some, Nat.zero_add, hs]
          rw [if_pos ⟨Nat.zero_le _, hj⟩, Array.getElem?_eq_getElem (by omega), Nat.sub_zero, getElem!_pos _ _ (by omega)]
          rfl
        · rw [List.getElem?_eq_none (by simp; omega), List.getElem?_eq_none (by simp; omega)]
  · refine ⟨rfl, rfl, rfl, ?_, fun b hb hne => ?_⟩
    · unfold sortWorldK grow putRowK putRow mapBlock Sort.ahead
      simp
    · unfold sortWorldK grow putRowK putRow mapBlock
      show (((Sort.ahead w m).heap.modify g _) ++ os)[b]? = _
      rw [Array.getElem?_append_left (by simpa [Sort.ahead] using hb), Array.getElem?_modify, if_neg (fun e => hne e.symm)]
      rfl
/-- The value itself, as what is read of a map's element. -/
def tagE : Value → Option (DataW Value × List MemPlace)
  | .slice (some a) n c => some (.held (.slice (some a) n c), [])
  | _ => none
theorem tagE_inv {v : Value} {y : DataW Value × List MemPlace} (h : tagE v = some y) : ∃ c : Option Addr × Nat × Nat, v = sv c ∧ y = (.held v, []) := by
  unfold tagE at h
  split at h
  · cases h; exact ⟨(_, _, _), rfl, rfl⟩
  · cases h
theorem ints_form {w : World} {B : Nat} {v : Value} {zs : List Int} (h : w.ownsInts B 3 .i64 v zs) (hz : zs ≠ []) : ∃ g cap, v = .slice (some ⟨g, 0, none⟩) zs.length cap ∧ B ≤ g ∧ g < w.heap.size := by
  rcases h.1.2 with ⟨_, h2⟩ | ⟨g, cp, cur, h2, h3, h4, _⟩
  · exact absurd (List.length_eq_zero_iff.1 h2) hz
  · exact ⟨g, cp, h2, h3, (Array.getElem?_eq_some_iff.1 h4).1⟩
/-- A map of drives, value by value. -/
theorem groups_tag {w : World} {base b m : Nat} {D : DataW Unit} {f : Int → List Int} (h : w.ownsGroups Tryz.prog 3 base 3 .i64 b m D) (hg : GD D f) (hf : ∀ x, f x ≠ [] → 0 ≤ x ∧ x ≤ 1073741824) :
    ∃ (D' : DataW Value) (V : Int → Option Addr × Nat × Nat), w.ownsMap Tryz.prog 3 tagE b m D' ∧ (∀ x : Int, Maps.has D' (.int .i64 x) = true → x ≠ 0 ∧ f x ≠ []) ∧
      (∀ x : Int, x ≠ 0 → f x ≠ [] → (∀ zd, D'.atKey (.int .i64 x) zd = .held (sv (V x))) ∧ w.ownsInts base 3 .i64 (sv (V x)) (f x)) ∧
      (∀ x y : Int, x ≠ 0 → y ≠ 0 → f x ≠ [] → f y ≠ [] → x ≠ y → (sv (V x)).ownBlock ≠ (sv (V y)).ownBlock) := by
  obtain ⟨es, clock, hb, F, hs, rfl, hbb, hlen, hap⟩ := h
  have key : ∀ x ∈ es.toList, ∃ (v : Int), x.key = .int .i64 v ∧ (Lit.int .i64 v).wf = true ∧ v ≠ 0 ∧ f v ≠ [] ∧ w.ownsInts base 3 .i64 x.val (f v) := by
    intro x hx
    obtain ⟨y, hy⟩ := F.reads x hx
    obtain ⟨z, hz, he⟩ := rd_val hy
    obtain ⟨zs, ho, rfl⟩ := rowElem_inv hz
    obtain ⟨v, hk1, hk2, hwf⟩ := Maps.keyOf_int_inv Tryz.underlying3 (rd_key hy)
    have hat := (WideShapes.atKey_sorted (es.toList.map (rg Tryz.prog 3 (rowElem (H := Unit) w base 3 .i64))) (fit_rising law3 F) (.int .i64 v) (law3.key (keyOf_int_mk Tryz.underlying3 hwf))).2 (rg Tryz.prog 3 (rowElem w base 3 .i64) x) (List.mem_map.2 ⟨x, hx, rfl⟩) (by rw [rg_of hy]; exact hk2)
    rw [rg_of hy, he] at hat
    have hh := hg.has v
    rw [has_true_of_atKey hat] at hh
    obtain ⟨h0, h1⟩ := of_decide_eq_true hh.symm
    refine ⟨v, hk1, hwf, h0, h1, ?_⟩
    rw [← hg.zs h0 (hat .nil) ho]
    exact ho
  have F2 : Fit Tryz.prog 3 tagE es clock := ⟨F.size, F.stamped, fun x hx => by
    obtain ⟨v, h1, h2, _, h4, h5⟩ := key x hx
    obtain ⟨g, cap, h6, _⟩ := ints_form h5 h4
    refine ⟨(.int .i64 v, .held x.val), ?_⟩
    unfold Go.WideElems.rd
    rw [h1, keyOf_int_mk Tryz.underlying3 h2, h6]
    rfl⟩
  have hat2 : ∀ x ∈ es.toList, ∀ v, x.key = .int .i64 v → ∀ zd, (DataW.map ((es.toList.map (rg Tryz.prog 3 tagE)).foldr DataW.insert [])).atKey (.int .i64 v) zd = .held x.val := by
    intro x hx v hv
    obtain ⟨v', h1, h2, _, h4, h5⟩ := key x hx
    rw [h1] at hv
    obtain rfl : v' = v := by cases hv; rfl
    obtain ⟨g, cap, h6, _⟩ := ints_form h5 h4
    have hr : Go.WideElems.rd Tryz.prog 3 tagE x = some (.int .i64 v', .held x.val) := by
      unfold Go.WideElems.rd
      rw [h1, keyOf_int_mk Tryz.underlying3 h2, h6]
      rfl
    have := (WideShapes.atKey_sorted (es.toList.map (rg Tryz.prog 3 tagE)) (fit_rising law3 F2) (.int .i64 v') (law3.key (keyOf_int_mk Tryz.underlying3 h2))).2 (rg Tryz.prog 3 tagE x) (List.mem_map.2 ⟨x, hx, rfl⟩) (by rw [rg_of hr])
    rw [rg_of hr] at this
    exact this
  have ent : ∀ v : Int, v ≠ 0 → f v ≠ [] → ∃ x ∈ es.toList, x.key = .int .i64 v := by
    intro v h0 h1
    have hwf : (Lit.int .i64 v).wf = true := WalkArith.wf_i64 (by have := hf v h1; omega)
    rcases Maps.fit_look false law3 Tryz.underlying191 (zero33 w) hb F (keyOf_int_mk Tryz.underlying3 hwf) with ⟨_, _, hat⟩ | ⟨e0, y, hm0, h3, _⟩
    · have hh := hg.has v
      rw [has_false_of_atKey hat] at hh
      exact absurd ⟨h0, h1⟩ (of_decide_eq_false hh.symm)
    · exact ⟨e0, hm0, h3⟩
  have pick : ∀ v : Int, ∃ c : Option Addr × Nat × Nat, v ≠ 0 → f v ≠ [] → ∃ x ∈ es.toList, x.key = .int .i64 v ∧ x.val = sv c := by
    intro v
    by_cases h0 : v ≠ 0 ∧ f v ≠ []
    · obtain ⟨x, hx, hk⟩ := ent v h0.1 h0.2
      obtain ⟨v', h1, h2, _, h4, h5⟩ := key x hx
      obtain ⟨g, cap, h6, _⟩ := ints_form h5 h4
      exact ⟨(_, _, _), fun _ _ => ⟨x, hx, hk, h6⟩⟩
    · exact ⟨(none, 0, 0), fun a b => absurd ⟨a, b⟩ h0⟩
  obtain ⟨V, hV⟩ := Classical.skolem.1 pick
  refine ⟨_, V, ⟨es, clock, hb, F2, hs, rfl⟩, fun x hx => ?_, fun x h0 h1 => ?_, fun x y x0 y0 x1 y1 hne => ?_⟩
  · rw [Maps.has_eq, List.any_eq_true] at hx
    obtain ⟨p, hp, hsame⟩ := hx
    have hp' := (WideShapes.sorted_perm (es.toList.map (rg Tryz.prog 3 tagE))).subset hp
    obtain ⟨e0, he0, rfl⟩ := List.mem_map.1 hp'
    obtain ⟨v', h1, h2, h3, h4, h5⟩ := key e0 he0
    obtain ⟨g, cap, h6, _⟩ := ints_form h5 h4
    have hr : Go.WideElems.rd Tryz.prog 3 tagE e0 = some (.int .i64 v', .held e0.val) := by
      unfold Go.WideElems.rd
      rw [h1, keyOf_int_mk Tryz.underlying3 h2, h6]
      rfl
    rw [rg_of hr] at hsame
    by_cases e : v' = x
    · rw [← e]; exact ⟨h3, h4⟩
    · rw [sameKey_ne (key_ne e)] at hsame; cases hsame
  · obtain ⟨e0, he0, hk, hval⟩ := hV x h0 h1
    obtain ⟨v', h1', h2, h3, h4, h5⟩ := key e0 he0
    rw [hk] at h1'
    obtain rfl : x = v' := by cases h1'; rfl
    rw [← hval]
    exact ⟨hat2 e0 he0 x hk, h5⟩
  · obtain ⟨e0, he0, hk, hval⟩ := hV x x0 x1
    obtain ⟨e1, he1, hk1, hval1⟩ := hV y y0 y1
    obtain ⟨v', h1', _, _, h4, h5⟩ := key e0 he0
    obtain ⟨g, cap, h6, _⟩ := ints_form h5 h4
    rw [← hval, ← hval1]
    rcases hap e0 he0 e1 he1 (by rw [hk, hk1]; intro e; cases e; exact hne rfl) with h | h
    · rw [h6] at h; cases h
    · exact h
theorem owns_few {w : World} {b m : Nat} {D : DataW Value} (h : w.ownsMap Tryz.prog 3 tagE b m D) : Maps.size D ≤ m := by
  obtain ⟨es, clock, _, _, hs, rfl⟩ := h
  rw [Maps.size_eq, length_sorted]
  simpa using hs
end Go.Proofs.YtdmpiipllmjloaaGreat.Cn
