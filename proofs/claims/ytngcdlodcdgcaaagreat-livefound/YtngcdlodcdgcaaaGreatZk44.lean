import Derived.Maps.OwnRows
import Derived.Maps.Views
import Derived.Shelf.SlSortCmp.NoneTotal
import Derived.Shelf.SlSortCmp.WholeK
import Derived.Maps.RangeWalk
import Derived.Test.YtngcdlodcdgcaaaGreatProg
import Derived.Test.YtngcdlodcdgcaaaGreatZk43
namespace Go.Proofs.YtngcdlodcdgcaaaGreat.Cn
open Go.RowKit Go.Maps Go.ChangeShapes
open Go.WideElems (Fit rd rg pl rd_val)
theorem law3 : Keyed Tryz.prog 3 := int_keyed Tryz.underlying3
theorem zero33 (w : World) : (zeroValue 33).run Tryz.prog w = .ok (.slice none 0 0) w := by kernel_rfl
theorem ownsRow_below {w w' : World} {B : Nat} {e : TypeId} {sz n : Nat} {v : Value} {xs : List Value} (h : w.ownsRow B e sz v n xs) (hb : Below w.heap.size w w') : w'.ownsRow B e sz v n xs := by
  rcases h with ⟨h1, h2 | ⟨g, cp, cur, h2, h3, h4, h5⟩⟩
  · exact ⟨h1, .inl h2⟩
  · exact ⟨h1, .inr ⟨g, cp, cur, h2, h3, (hb.block g (Array.getElem?_eq_some_iff.1 h4).1).trans h4, h5⟩⟩
theorem ownsInts_below {w w' : World} {B : Nat} {e : TypeId} {q : IntKind} {v : Value} {zs : List Int} (h : w.ownsInts B e q v zs) (hb : Below w.heap.size w w') : w'.ownsInts B e q v zs := ⟨ownsRow_below h.1 hb, h.2⟩
theorem groups_below {H : Type} {w w' : World} {P : Program} {k : TypeId} {base : Nat} {e : TypeId} {q : IntKind} {b n : Nat} {D : DataW H} (h : w.ownsGroups P k base e q b n D) (hb : Below w.heap.size w w') : w'.ownsGroups P k base e q b n D := by
  obtain ⟨es, clock, h1, F, hs, rfl, hbb, hlen, hap⟩ := h
  obtain ⟨F2, hm, _⟩ := F.stay (R' := rowElem w' base e q) (fun x hx z hz => by
    obtain ⟨zs, ho, rfl⟩ := rowElem_inv hz
    exact rowElem_mk (ownsInts_below ho hb))
  refine ⟨es, clock, (hb.block b (Array.getElem?_eq_some_iff.1 h1).1).trans h1, F2, hs, by rw [hm], hbb, fun x hx zs ho => ?_, hap⟩
  obtain ⟨y, hy⟩ := F.reads x hx
  obtain ⟨z, hz, _⟩ := rd_val hy
  obtain ⟨ys, ho', _⟩ := rowElem_inv hz
  rw [ho.unique (ownsInts_below ho' hb)]
  exact hlen x hx ys ho'
structure GD (D : DataW Unit) (f : Int -> List Int) : Prop where
  map : IsMap D
  has : ∀ x : Int, Maps.has D (.int .i64 x) = decide (x ≠ 0 /\ f x ≠ [])
  at_ : ∀ x : Int, x ≠ 0 -> f x ≠ [] -> ∀ zd, D.atKey (.int .i64 x) zd = .slice (lits .i64 (f x)) []
theorem lits_inj {q : IntKind} {a b : List Int} (h : (lits q a : List (DataW Unit)) = lits q b) : a = b := by
  unfold lits at h
  exact (List.map_inj_right (fun x y hxy => by cases hxy; rfl)).1 h
theorem GD.zs {D : DataW Unit} {f : Int -> List Int} (h : GD D f) {w : World} {B : Nat} {u : Value} {zs : List Int} {x : Int} (hx : x ≠ 0) (hat : D.atKey (.int .i64 x) .nil = rowDatum .i64 u zs) (ho : w.ownsInts B 3 .i64 u zs) : zs = f x := by
  by_cases hf : f x = []
  · rw [atKey_of_not_has (by rw [h.has x, decide_eq_false (fun a => a.2 hf)])] at hat
    rcases ho.datum (H := Unit) with ⟨_, e⟩ | e
    · rw [e, hf]
    · rw [e] at hat; cases hat
  · rw [h.at_ x hx hf] at hat
    rcases ho.datum (H := Unit) with ⟨e, _⟩ | e
    · rw [e] at hat; cases hat
    · rw [e] at hat
      exact (lits_inj (by simpa using hat)).symm
theorem key_ne {x v : Int} (h : x ≠ v) : (Lit.int .i64 x) ≠ Lit.int .i64 v := fun e => h (by cases e; rfl)
theorem GD.put {D : DataW Unit} {f g : Int -> List Int} (h : GD D f) {v : Int} (hv : v ≠ 0) (hg : g v ≠ []) (hk : WideAt.IsKeyLit (.int .i64 v)) (he : ∀ x, x ≠ 0 -> x ≠ v -> g x = f x) : GD (D.put (.int .i64 v) (.slice (lits .i64 (g v)) [])) g where
  map := h.map.put _ _
  has x := by
    by_cases e : x = v
    · rw [e, has_put_same h.map hk, decide_eq_true ⟨hv, hg⟩]
    · rw [has_put_other (key_ne e), h.has x]
      by_cases z : x = 0
      · rw [decide_eq_false (fun a => a.1 z), decide_eq_false (fun a => a.1 z)]
      · rw [he x z e]
  at_ x hx hf zd := by
    by_cases e : x = v
    · rw [e, atKey_put_same h.map hk]
    · rw [atKey_put_other (key_ne e), he x hx e]
      exact h.at_ x hx (by rw [<- he x hx e]; exact hf) zd
theorem GD.congr {D : DataW Unit} {f g : Int -> List Int} (h : GD D f) (he : ∀ x, x ≠ 0 -> g x = f x) : GD D g where
  map := h.map
  has x := by
    rw [h.has x]
    by_cases z : x = 0
    · rw [decide_eq_false (fun a => a.1 z), decide_eq_false (fun a => a.1 z)]
    · rw [he x z]
  at_ x hx hf zd := by rw [he x hx]; exact h.at_ x hx (by rw [<- he x hx]; exact hf) zd
theorem gd_empty : GD (.map []) (fun _ => []) where
  map := isMap_empty
  has x := by rw [decide_eq_false (fun a => a.2 rfl)]; rfl
  at_ x _ hf := absurd rfl hf
def pv (P Q : Nat -> Int) (i k : Nat) (x : Int) : List Int := dl (hbv P Q x) i ++ (if (0 < k /\ P i = x) \/ (1 < k /\ Q i = x) then [(i : Int)] else [])
theorem pv_0 (P Q : Nat -> Int) (i : Nat) (x : Int) : pv P Q i 0 x = dl (hbv P Q x) i := by
  unfold pv
  rw [if_neg (by omega), List.append_nil]
theorem pv_2 (P Q : Nat -> Int) (i : Nat) (x : Int) : pv P Q i 2 x = dl (hbv P Q x) (i + 1) := by
  unfold pv
  rw [dl]
  by_cases h : P i = x \/ Q i = x
  · rw [if_pos (show hbv P Q x i = true from decide_eq_true h), if_pos (by rcases h with h | h; exact .inl ⟨by omega, h⟩; exact .inr ⟨by omega, h⟩)]
  · rw [if_neg (show ¬ hbv P Q x i = true from fun g => h (of_decide_eq_true g)), if_neg (by rintro (⟨_, g⟩ | ⟨_, g⟩); exact h (.inl g); exact h (.inr g)), List.append_nil]
theorem pv_same {P Q : Nat -> Int} {i k : Nat} (hk : k < 2) {v : Int} (hv : v = if k = 0 then P i else Q i) (h0 : v ≠ 0) (hd : Q i = 0 \/ Q i ≠ P i) : pv P Q i (k + 1) v = pv P Q i k v ++ [(i : Int)] := by
  unfold pv
  rcases (show k = 0 \/ k = 1 by omega) with rfl | rfl
  · rw [if_pos rfl] at hv
    rw [if_pos (.inl ⟨by omega, hv.symm⟩), if_neg (by omega), List.append_nil]
  · rw [if_neg (by omega)] at hv
    rw [if_pos (.inr ⟨by omega, hv.symm⟩), if_neg (by rintro (⟨_, g⟩ | ⟨g, _⟩); (rcases hd with e | e; omega; omega); omega), List.append_nil]
theorem pv_other {P Q : Nat -> Int} {i k : Nat} (hk : k < 2) {v x : Int} (hv : v = if k = 0 then P i else Q i) (h0 : x ≠ v) : pv P Q i (k + 1) x = pv P Q i k x := by
  unfold pv
  rcases (show k = 0 \/ k = 1 by omega) with rfl | rfl
  · rw [if_pos rfl] at hv
    rw [if_neg (by omega), if_neg (by omega)]
  · rw [if_neg (by omega)] at hv
    by_cases e : P i = x
    · rw [if_pos (.inl ⟨by omega, e⟩), if_pos (.inl ⟨by omega, e⟩)]
    · rw [if_neg (by omega), if_neg (by omega)]
set_option maxRecDepth 100000 in
theorem idh0 (w : World) (x0 x1 : Value) : (Instr.index 234 (.agg #[x0, x1]) (.int .i64 0)).run Tryz.prog w = .ok x0 w := rfl
set_option maxRecDepth 100000 in
theorem idh1 (w : World) (x0 x1 : Value) : (Instr.index 234 (.agg #[x0, x1]) (.int .i64 1)).run Tryz.prog w = .ok x1 w := rfl
set_option maxHeartbeats 4000000 in
set_option maxRecDepth 100000 in
theorem holders_any {B : Nat} (w : World) (a : Option Addr) (n cap : Nat) (P Q : Nat -> Int) (h : Hol B w a n cap P Q) (hn : n <= 16) (hP : ∀ i, i < n -> 0 <= P i /\ P i <= 1073741824) (hQ : ∀ i, i < n -> 0 <= Q i /\ Q i <= 1073741824) (hd : ∀ i, i < n -> Q i = 0 \/ Q i ≠ P i) :
    Calls Tryz.prog 141 #[.slice a n cap] w fun e w' => ∃ (D : DataW Unit) (m : Nat), e = .returned (.map (some w.heap.size)) /\ w'.ownsGroups Tryz.prog 3 (w.heap.size + 1) 3 .i64 w.heap.size m D /\ m <= 32 /\ GD D (dv P Q n) /\ Below w.heap.size w w' := by
  have hmm := @run_makeMap Tryz.prog
  obtain ⟨i0, hi, hz0, hz1, hz2⟩ := info_parts info3
  have HH : Hid (Hol B w a n cap P Q) := h
  have HP : Hid (∀ i, i < n -> 0 <= P i /\ P i <= 1073741824) := hP
  have HQ : Hid (∀ i, i < n -> 0 <= Q i /\ Q i <= 1073741824) := hQ
  have HD : Hid (∀ i, i < n -> Q i = 0 \/ Q i ≠ P i) := hd
  clear h hP hQ hd
  go_enter Tryz.func141, Tryz.ntmps141
  go_wp2
  go_loopw [11] (fun y wr => ∃ (i m : Nat) (D : DataW Unit), i <= n /\ y = .int .i64 (i : Int) /\ Hid (wr.ownsGroups Tryz.prog 3 (w.heap.size + 1) 3 .i64 w.heap.size m D) /\ Hid (GD D (dv P Q i)) /\ m <= 2 * i /\ Hid (Below w.heap.size w wr) /\ w.heap.size + 1 <= wr.heap.size) (fun y _ => n - (intOf y).toNat)
  case atStart => exact ⟨0, 0, .map [], Nat.zero_le _, rfl, World.ownsGroups_made _ _ _ _ _, gd_empty, Nat.le_refl _, below_alloc _ _, by simp⟩
  case round =>
    obtain ⟨i, m, D, hin, rfl, hown, hgd, hm, hbw, hws⟩ := hrel
    by_cases hlt : i < n
    · obtain ⟨g, rfl, _, _⟩ := HH.out.at_ (by omega)
      have c0 : wr.cell? ⟨g, i * 2, none⟩ = some (.int .i64 (P i)) := held (HH.out.c0 hlt) hbw.out
      have c1 : wr.cell? ⟨g, i * 2 + 1, none⟩ = some (.int .i64 (Q i)) := held (HH.out.c1 hlt) hbw.out
      have i1 : (0 : Int) <= (i : Int) := by omega
      have i2 : (i : Int) < (n : Int) := by omega
      obtain ⟨wd, hwd⟩ : ∃ wd, wd = wr.alloc (.cells #[.int .i64 (P i), .int .i64 (Q i)] 234) := ⟨_, rfl⟩
      have BD : Hid (Below wr.heap.size wr wd) := by show Below _ _ _; rw [hwd]; exact below_alloc _ _
      go_wp2_with fail
      rw [<- hwd]
      clear hwd c0 c1
      go_loopw [17] (fun y wr => ∃ (k m : Nat) (D : DataW Unit), k <= 2 /\ y = .int .i64 (k : Int) /\ Hid (wr.ownsGroups Tryz.prog 3 (w.heap.size + 1) 3 .i64 w.heap.size m D) /\ Hid (GD D (pv P Q i k)) /\ m <= 2 * i + k /\ Hid (Below w.heap.size w wr) /\ w.heap.size + 1 <= wr.heap.size) (fun y _ => 2 - (intOf y).toNat)
      case atStart =>
        refine ⟨0, m, D, Nat.zero_le _, rfl, groups_below hown.out BD.out, ?_, by omega, below_then hbw.out BD.out, Nat.le_trans hws BD.out.size⟩
        exact hgd.out.congr fun x _ => pv_0 P Q i x
      case round =>
        obtain ⟨k, m2, D2, hk2, rfl, hown2, hgd2, hm2, hbw2, hws2⟩ := hrel
        by_cases hk : k < 2
        · obtain ⟨v, hv⟩ : ∃ v, v = (if k = 0 then P i else Q i) := ⟨_, rfl⟩
          have hix : ∀ u, (Instr.index 234 (.agg #[.int .i64 (P i), .int .i64 (Q i)]) (.int .i64 (k : Int))).run Tryz.prog u = .ok (.int .i64 v) u := fun u => by
            rcases (show k = 0 \/ k = 1 by omega) with rfl | rfl
            · rw [hv]; exact idh0 u _ _
            · rw [hv]; exact idh1 u _ _
          have hvb : 0 <= v /\ v <= 1073741824 := by rw [hv]; split; exact HP.out i hlt; exact HQ.out i hlt
          have HV : Hid (v = if k = 0 then P i else Q i) := hv
          have k1 : (k : Int) < 2 := by omega
          clear hv
          by_cases hv0 : v = 0
          · have hvn : (v != 0) = false := by simp [hv0]
            go_wp2_with fail
            go_roundw
            case rel =>
              refine ⟨k + 1, m2, D2, by omega, by go_num, hown2.out, ?_, by omega, hbw2.out, hws2⟩
              exact hgd2.out.congr fun x hx => pv_other hk HV.out (by omega)
            case measure => simp [intOf]; omega
          · have hvn : (v != 0) = true := by simpa using hv0
            have hkey := keyOf_int_mk Tryz.underlying3 (WalkArith.wf_i64 (n := v) (by omega))
            have hown := hown2.out
            go_wp2_with (first
              | (at_lookup; refine wpList_lookup_groups _ rfl _ _ 219 rfl 3 33 3 .i64 law3 Tryz.underlying219 (zero33 _) (w.heap.size + 1) w.heap.size m2 _ rfl hown (by unfold maxLen; omega) _ _ rfl hkey ?_; intro u zs hat hoi hzl hback)
              | (at_builtin; refine wpList_append_own_at _ rfl _ _ 33 rfl (w.heap.size + 1) 3 i0 (.int .i64 0) 1 8 Tryz.underlying33 hi hz0 hz1 hz2 rfl (by decide) _ _ _ rfl (hoi.1.alloc _) ⟨wr.heap.size, 0, none⟩ 1 1 [.int .i64 i] rfl rfl (cell_one_new _ _ _) (ints_oneCell .i64 [(i : Int)]) (by unfold maxLen; omega) (by omega) (by simp; omega) ?_; intro v' w1 hown' hgrow hnil hloc)
              | (at_mapUpdate; refine wpList_mapUpdate_back _ rfl _ _ _ 219 rfl hback rfl rfl rfl ((World.grownBy_alloc _ _ _).trans hgrow) (hoi.appended hown' (WalkArith.wf_i64 (by omega))) (by simp; omega) (hloc.imp id (fun h => ⟨_, h, by simp⟩)) ?_; intro w2 hown3 hgrow2)
              | go_in)
            have hzs := hgd2.out.zs hv0 hat hoi
            have hall := (World.grownBy_alloc wr _ _).trans hgrow
            go_roundw
            case rel =>
              refine ⟨k + 1, m2 + 1, D2.put (.int .i64 v) (.slice (lits .i64 (zs ++ [(i : Int)])) []), by omega, by go_num, ?_, ?_, by omega, hbw2.out.groups hoi hall hgrow2 hbw2.out.size (Nat.le_succ _) (Nat.le_refl _), Nat.le_trans hws2 (Nat.le_trans hall.size hgrow2.size)⟩
              · rw [<- (hoi.appended hown' (WalkArith.wf_i64 (by omega))).datum_pos (by simp)]
                exact hown3
              rw [hzs, <- pv_same hk HV.out hv0 (HD.out i hlt)]
              exact hgd2.out.put hv0 (by rw [pv_same hk HV.out hv0 (HD.out i hlt)]; simp) (law3.key hkey) (fun x _ hx => pv_other hk HV.out hx)
            case measure => simp [intOf]; omega
        · obtain rfl : k = 2 := by omega
          go_wp2_with fail
          go_roundw
          case rel =>
            refine ⟨i + 1, m2, D2, by omega, by go_num, hown2.out, ?_, by omega, hbw2.out, hws2⟩
            exact hgd2.out.congr fun x _ => (pv_2 P Q i x).symm
          case measure => simp [intOf]; omega
    · obtain rfl : i = n := by omega
      go_wp2_with fail
      go_ret
      exact ⟨D, m, rfl, hown.out, by omega, hgd.out, hbw.out⟩
end Go.Proofs.YtngcdlodcdgcaaaGreat.Cn
namespace Go.Proofs.YtngcdlodcdgcaaaGreat.Cn
open Go.Shelf
def sortT_ren : Go.Shelf.Ren := ⟨fun | 6 => 153 | 15 => 32 | 14 => 166 | 28 => 55 | 29 => 56 | 20 => 174 | 21 => 175 | 22 => 176 | 23 => 177 | 24 => 178 | 25 => 179 | 26 => 180 | 27 => 181 | 46 => 193 | 47 => 83 | 48 => 84 | 49 => 194 | 50 => 195 | 57 => 200 | n => n, fun | 22 => 202 | 24 => 206 | 25 => 237 | 3 => 3 | 39 => 73 | 0 => 0 | 53 => 108 | 55 => 110 | 4 => 4 | 46 => 100 | 45 => 99 | 50 => 105 | 5 => 5 | 9 => 9 | 66 => 145 | 70 => 149 | 76 => 180 | 77 => 181 | n => n, fun | n => n⟩
theorem sortT : Go.Proofs.SlLaysF0.n6 Tryz.prog sortT_ren := {
  mixed := by kernel_rfl
  f6 := ⟨Tryz.f153.name, by decide, Tryz.func153.trans (congrArg some (by kernel_rfl))⟩
  f14 := ⟨Tryz.f166.name, by decide, Tryz.func166.trans (congrArg some (by kernel_rfl))⟩
  f15 := Tryz.func32.trans (congrArg some (by kernel_rfl))
  f20 := ⟨Tryz.f174.name, by decide, Tryz.func174.trans (congrArg some (by kernel_rfl))⟩
  f21 := ⟨Tryz.f175.name, by decide, Tryz.func175.trans (congrArg some (by kernel_rfl))⟩
  f22 := ⟨Tryz.f176.name, by decide, Tryz.func176.trans (congrArg some (by kernel_rfl))⟩
  f23 := ⟨Tryz.f177.name, by decide, Tryz.func177.trans (congrArg some (by kernel_rfl))⟩
  f24 := ⟨Tryz.f178.name, by decide, Tryz.func178.trans (congrArg some (by kernel_rfl))⟩
  f25 := ⟨Tryz.f179.name, by decide, Tryz.func179.trans (congrArg some (by kernel_rfl))⟩
  f26 := ⟨Tryz.f180.name, by decide, Tryz.func180.trans (congrArg some (by kernel_rfl))⟩
  f27 := ⟨Tryz.f181.name, by decide, Tryz.func181.trans (congrArg some (by kernel_rfl))⟩
  f28 := Tryz.func55.trans (congrArg some (by kernel_rfl))
  f29 := Tryz.func56.trans (congrArg some (by kernel_rfl))
  f46 := ⟨Tryz.f193.name, by decide, Tryz.func193.trans (congrArg some (by kernel_rfl))⟩
  f47 := Tryz.func83.trans (congrArg some (by kernel_rfl))
  f48 := Tryz.func84.trans (congrArg some (by kernel_rfl))
  f49 := ⟨Tryz.f194.name, by decide, Tryz.func194.trans (congrArg some (by kernel_rfl))⟩
  f50 := ⟨Tryz.f195.name, by decide, Tryz.func195.trans (congrArg some (by kernel_rfl))⟩
  f57 := ⟨Tryz.f200.name, by decide, Tryz.func200.trans (congrArg some (by kernel_rfl))⟩
  t0 := Tryz.underlying0
  a0 := Tryz.isAgg0
  z0 := Tryz.sizeOf0
  v0 := Tryz.zeroValue0
  t3 := Tryz.underlying3
  a3 := Tryz.isAgg3
  z3 := Tryz.sizeOf3
  v3 := Tryz.zeroValue3
  t4 := Tryz.underlying4
  a4 := Tryz.isAgg4
  z4 := Tryz.sizeOf4
  v4 := Tryz.zeroValue4
  t5 := Tryz.underlying5
  a5 := Tryz.isAgg5
  z5 := Tryz.sizeOf5
  v5 := Tryz.zeroValue5
  t9 := Tryz.underlying9
  a9 := Tryz.isAgg9
  z9 := Tryz.sizeOf9
  v9 := Tryz.zeroValue9
  t22 := Tryz.underlying202
  a22 := Tryz.isAgg202
  z22 := Tryz.sizeOf202
  v22 := Tryz.zeroValue202
  t25 := Tryz.underlying237
  a25 := Tryz.isAgg237
  z25 := Tryz.sizeOf237
  v25 := Tryz.zeroValue237
  t39 := Tryz.underlying73
  a39 := Tryz.isAgg73
  z39 := Tryz.sizeOf73
  v39 := Tryz.zeroValue73
  t45 := Tryz.underlying99
  a45 := Tryz.isAgg99
  z45 := Tryz.sizeOf99
  v45 := Tryz.zeroValue99
  t46 := Tryz.underlying100
  a46 := Tryz.isAgg100
  z46 := Tryz.sizeOf100
  v46 := Tryz.zeroValue100
  t50 := Tryz.underlying105
  a50 := Tryz.isAgg105
  z50 := Tryz.sizeOf105
  v50 := Tryz.zeroValue105
  t53 := Tryz.underlying108
  a53 := Tryz.isAgg108
  z53 := Tryz.sizeOf108
  v53 := Tryz.zeroValue108
  t55 := Tryz.underlying110
  a55 := Tryz.isAgg110
  z55 := Tryz.sizeOf110
  v55 := Tryz.zeroValue110
  t66 := Tryz.underlying145
  a66 := Tryz.isAgg145
  z66 := Tryz.sizeOf145
  v66 := Tryz.zeroValue145
  t70 := Tryz.underlying149
  a70 := Tryz.isAgg149
  z70 := Tryz.sizeOf149
  v70 := Tryz.zeroValue149
  t76 := Tryz.underlying180
  a76 := Tryz.isAgg180
  z76 := Tryz.sizeOf180
  v76 := Tryz.zeroValue180
  t77 := Tryz.underlying181
  a77 := Tryz.isAgg181
  z77 := Tryz.sizeOf181
  v77 := Tryz.zeroValue181  }
end Go.Proofs.YtngcdlodcdgcaaaGreat.Cn
namespace Go.Proofs.YtngcdlodcdgcaaaGreat.Cn
open Go.RowKit Go.Maps Go.ChangeShapes Go.Sort Go.Shelf
open Go.WideElems (Fit rg pl rd_val rd_key rg_of rd_mk)
abbrev Tly := Int × Option Addr × Nat × Nat
def sv (c : Option Addr × Nat × Nat) : Value := .slice c.1 c.2.1 c.2.2
def encT (t : Tly) : List Value := [.int .i64 t.1, .slice t.2.1 t.2.2.1 t.2.2.2]
def tF : List Tly -> List Value
  | [] => []
  | t :: l => .int .i64 t.1 :: .slice t.2.1 t.2.2.1 t.2.2.2 :: tF l
theorem tF_length : ∀ l : List Tly, (tF l).length = l.length * 2
  | [] => rfl
  | t :: l => by rw [tF]; simp [tF_length l]; omega
theorem tF_append : ∀ l m : List Tly, tF (l ++ m) = tF l ++ tF m
  | [], _ => rfl
  | t :: l, m => by rw [List.cons_append, tF, tF, tF_append l m]; rfl
theorem tF_get : ∀ (l : List Tly) (j : Nat), j < l.length * 2 -> (tF l)[j]? = some ((encT l[j / 2]!)[j % 2]!)
  | [], j, h => absurd h (by simp)
  | t :: l, 0, _ => rfl
  | t :: l, 1, _ => rfl
  | t :: l, j + 2, h => by
    have ih := tF_get l j (by simp at h; omega)
    rw [tF, List.getElem?_cons_succ, List.getElem?_cons_succ, ih, show (j + 2) / 2 = j / 2 + 1 by omega, show (j + 2) % 2 = j % 2 by omega]
    simp
theorem tF_0 {l : List Tly} {i : Nat} {t : Tly} (h : l[i]? = some t) : (tF l)[i * 2]? = some (.int .i64 t.1) := by
  have hi := (List.getElem?_eq_some_iff.1 h).1
  rw [tF_get l _ (by omega), show i * 2 / 2 = i by omega, show i * 2 % 2 = 0 by omega, List.getElem!_of_getElem? h]; rfl
theorem tF_1 {l : List Tly} {i : Nat} {t : Tly} (h : l[i]? = some t) : (tF l)[i * 2 + 1]? = some (.slice t.2.1 t.2.2.1 t.2.2.2) := by
  have hi := (List.getElem?_eq_some_iff.1 h).1
  rw [tF_get l _ (by omega), show (i * 2 + 1) / 2 = i by omega, show (i * 2 + 1) % 2 = 1 by omega, List.getElem!_of_getElem? h]; rfl
theorem tF_flat (d : Array Tly) : (flatK encT 2 d).toList = tF d.toList := by
  apply List.ext_getElem?
  intro j
  by_cases hj : j < d.size * 2
  · rw [tF_get _ _ (by simpa using hj)]
    have h1 := get_flatK encT 2 d j hj
    rw [Array.getElem?_toList, Array.getElem?_eq_getElem (by simpa using hj), <- getElem!_pos (flatK encT 2 d) j (by simpa using hj), h1, show d.toList[j / 2]! = d[j / 2]! from by first | exact Array.getElem!_toList | exact Array.getElem!_toList.symm | simp]
  · rw [List.getElem?_eq_none (by simp; omega), List.getElem?_eq_none (by rw [tF_length]; simp; omega)]
theorem own_holdsK {B : Nat} {w : World} {g n cap : Nat} {ts : List Tly} (h : w.ownsRow B 206 2 (.slice (some ⟨g, 0, none⟩) n cap) n (tF ts)) (hn : n = ts.length) : HoldsK encT 2 w g 0 ts.toArray := by
  intro j hj
  have hj' : j < n * 2 := by simp at hj; omega
  refine ⟨?_, ?_⟩
  · rw [Nat.zero_add, World.ownsRow.cellAt h j hj', <- tF_flat ts.toArray, Array.getElem?_toList, Array.getElem?_eq_getElem hj, <- getElem!_pos (flatK encT 2 ts.toArray) j hj]; rfl
  · rw [Nat.zero_add]; exact World.ownsRow.frozenAt h j
theorem sorted_row {B : Nat} {w : World} {g n cap m : Nat} {ts : List Tly} {d : Array Tly} {os : Array Obj} (h : w.ownsRow B 206 2 (.slice (some ⟨g, 0, none⟩) n cap) n (tF ts)) (hd : d.size = n) :
    (sortWorldK encT 2 w g 0 m d os).ownsRow B 206 2 (.slice (some ⟨g, 0, none⟩) n cap) n (tF d.toList) /\ Only (fun b => b = g) w (sortWorldK encT 2 w g 0 m d os) := by
  have hlt : g < w.heap.size := (World.ownsRow.lt h g rfl).2
  constructor
  · rcases h.2 with ⟨h', _⟩ | ⟨g', cap', cur, h', hb, hg, hnc, hcm, hcs, htake⟩
    · simp at h'
    · simp only [Value.slice.injEq, Option.some.injEq, Addr.mk.injEq, and_true, true_and] at h'
      obtain ⟨rfl, rfl⟩ := h'
      refine ⟨by rw [tF_length]; simp [hd], .inr ⟨g, cap, putCells id 0 (flatK encT 2 d) cur, rfl, hb, ?_, hnc, hcm, by simp [putCells, hcs], ?_⟩⟩
      · unfold sortWorldK grow putRowK putRow mapBlock
        show (((Sort.ahead w m).heap.modify g _) ++ os)[g]? = _
        rw [Array.getElem?_append_left (by simpa [Sort.ahead] using hlt), Array.getElem?_modify, if_pos rfl]
        show Option.map _ w.heap[g]? = _
        rw [hg]; rfl
      · rw [<- tF_flat]
        apply List.ext_getElem?
        intro j
        have hs : (flatK encT 2 d).size = n * 2 := by simp [hd]
        by_cases hj : j < n * 2
        · have hjc : j < cur.size := by omega
          rw [List.getElem?_take_of_lt hj, Array.getElem?_toList, Array.getElem?_toList]
          simp only [putCells, Array.getElem?_mapIdx, Array.getElem?_eq_getElem hjc, Option.map_some, Nat.zero_add, hs]
          rw [if_pos ⟨Nat.zero_le _, hj⟩, Array.getElem?_eq_getElem (by omega), Nat.sub_zero, getElem!_pos _ _ (by omega)]
          rfl
        · rw [List.getElem?_eq_none (by simp; omega), List.getElem?_eq_none (by simp; omega)]
  · refine ⟨rfl, rfl, rfl, ?_, fun b hb hne => ?_⟩
    · unfold sortWorldK grow putRowK putRow mapBlock Sort.ahead
      simp
    · unfold sortWorldK grow putRowK putRow mapBlock
      show (((Sort.ahead w m).heap.modify g _) ++ os)[b]? = _
      rw [Array.getElem?_append_left (by simpa [Sort.ahead] using hb), Array.getElem?_modify, if_neg (fun e => hne e.symm)]
      rfl
def tagE : Value -> Option (DataW Value × List MemPlace)
  | .slice (some a) n c => some (.held (.slice (some a) n c), [])
  | _ => none
theorem tagE_inv {v : Value} {y : DataW Value × List MemPlace} (h : tagE v = some y) : ∃ c : Option Addr × Nat × Nat, v = sv c /\ y = (.held v, []) := by
  unfold tagE at h
  split at h
  · cases h; exact ⟨(_, _, _), rfl, rfl⟩
  · cases h
theorem ints_form {w : World} {B : Nat} {v : Value} {zs : List Int} (h : w.ownsInts B 3 .i64 v zs) (hz : zs ≠ []) : ∃ g cap, v = .slice (some ⟨g, 0, none⟩) zs.length cap /\ B <= g /\ g < w.heap.size := by
  rcases h.1.2 with ⟨_, h2⟩ | ⟨g, cp, cur, h2, h3, h4, _⟩
  · exact absurd (List.length_eq_zero_iff.1 h2) hz
  · exact ⟨g, cp, h2, h3, (Array.getElem?_eq_some_iff.1 h4).1⟩
theorem groups_tag {w : World} {base b m : Nat} {D : DataW Unit} {f : Int -> List Int} (h : w.ownsGroups Tryz.prog 3 base 3 .i64 b m D) (hg : GD D f) (hf : ∀ x, f x ≠ [] -> 0 <= x /\ x <= 1073741824) :
    ∃ (D' : DataW Value) (V : Int -> Option Addr × Nat × Nat), w.ownsMap Tryz.prog 3 tagE b m D' /\ (∀ x : Int, Maps.has D' (.int .i64 x) = true -> x ≠ 0 /\ f x ≠ []) /\
      (∀ x : Int, x ≠ 0 -> f x ≠ [] -> (∀ zd, D'.atKey (.int .i64 x) zd = .held (sv (V x))) /\ w.ownsInts base 3 .i64 (sv (V x)) (f x)) /\
      (∀ x y : Int, x ≠ 0 -> y ≠ 0 -> f x ≠ [] -> f y ≠ [] -> x ≠ y -> (sv (V x)).ownBlock ≠ (sv (V y)).ownBlock) := by
  obtain ⟨es, clock, hb, F, hs, rfl, hbb, hlen, hap⟩ := h
  have key : ∀ x ∈ es.toList, ∃ (v : Int), x.key = .int .i64 v /\ (Lit.int .i64 v).wf = true /\ v ≠ 0 /\ f v ≠ [] /\ w.ownsInts base 3 .i64 x.val (f v) := by
    intro x hx
    obtain ⟨y, hy⟩ := F.reads x hx
    obtain ⟨z, hz, he⟩ := rd_val hy
    obtain ⟨zs, ho, rfl⟩ := rowElem_inv hz
    obtain ⟨v, hk1, hk2, hwf⟩ := Maps.keyOf_int_inv Tryz.underlying3 (rd_key hy)
    have hat := (WideShapes.atKey_sorted (es.toList.map (rg Tryz.prog 3 (rowElem (H := Unit) w base 3 .i64))) (fit_rising law3 F) (.int .i64 v) (law3.key (keyOf_int_mk Tryz.underlying3 hwf))).2 (rg Tryz.prog 3 (rowElem w base 3 .i64) x) (List.mem_map.2 ⟨x, hx, rfl⟩) (by rw [rg_of hy]; exact hk2)
    rw [rg_of hy, he] at hat
    have hh := hg.has v
    rw [has_true_of_atKey hat] at hh
    obtain ⟨h0, h1⟩ := of_decide_eq_true hh.symm
    refine ⟨v, hk1, hwf, h0, h1, ?_⟩
    rw [<- hg.zs h0 (hat .nil) ho]
    exact ho
  have F2 : Fit Tryz.prog 3 tagE es clock := ⟨F.size, F.stamped, fun x hx => by
    obtain ⟨v, h1, h2, _, h4, h5⟩ := key x hx
    obtain ⟨g, cap, h6, _⟩ := ints_form h5 h4
    refine ⟨(.int .i64 v, .held x.val), ?_⟩
    unfold Go.WideElems.rd
    rw [h1, keyOf_int_mk Tryz.underlying3 h2, h6]
    rfl⟩
  have hat2 : ∀ x ∈ es.toList, ∀ v, x.key = .int .i64 v -> ∀ zd, (DataW.map ((es.toList.map (rg Tryz.prog 3 tagE)).foldr DataW.insert [])).atKey (.int .i64 v) zd = .held x.val := by
    intro x hx v hv
    obtain ⟨v', h1, h2, _, h4, h5⟩ := key x hx
    rw [h1] at hv
    obtain rfl : v' = v := by cases hv; rfl
    obtain ⟨g, cap, h6, _⟩ := ints_form h5 h4
    have hr : Go.WideElems.rd Tryz.prog 3 tagE x = some (.int .i64 v', .held x.val) := by
      unfold Go.WideElems.rd
      rw [h1, keyOf_int_mk Tryz.underlying3 h2, h6]
      rfl
    have := (WideShapes.atKey_sorted (es.toList.map (rg Tryz.prog 3 tagE)) (fit_rising law3 F2) (.int .i64 v') (law3.key (keyOf_int_mk Tryz.underlying3 h2))).2 (rg Tryz.prog 3 tagE x) (List.mem_map.2 ⟨x, hx, rfl⟩) (by rw [rg_of hr])
    rw [rg_of hr] at this
    exact this
  have ent : ∀ v : Int, v ≠ 0 -> f v ≠ [] -> ∃ x ∈ es.toList, x.key = .int .i64 v := by
    intro v h0 h1
    have hwf : (Lit.int .i64 v).wf = true := WalkArith.wf_i64 (by have := hf v h1; omega)
    rcases Maps.fit_look false law3 Tryz.underlying219 (zero33 w) hb F (keyOf_int_mk Tryz.underlying3 hwf) with ⟨_, _, hat⟩ | ⟨e0, y, hm0, h3, _⟩
    · have hh := hg.has v
      rw [has_false_of_atKey hat] at hh
      exact absurd ⟨h0, h1⟩ (of_decide_eq_false hh.symm)
    · exact ⟨e0, hm0, h3⟩
  have pick : ∀ v : Int, ∃ c : Option Addr × Nat × Nat, v ≠ 0 -> f v ≠ [] -> ∃ x ∈ es.toList, x.key = .int .i64 v /\ x.val = sv c := by
    intro v
    by_cases h0 : v ≠ 0 /\ f v ≠ []
    · obtain ⟨x, hx, hk⟩ := ent v h0.1 h0.2
      obtain ⟨v', h1, h2, _, h4, h5⟩ := key x hx
      obtain ⟨g, cap, h6, _⟩ := ints_form h5 h4
      exact ⟨(_, _, _), fun _ _ => ⟨x, hx, hk, h6⟩⟩
    · exact ⟨(none, 0, 0), fun a b => absurd ⟨a, b⟩ h0⟩
  obtain ⟨V, hV⟩ := Classical.skolem.1 pick
  refine ⟨_, V, ⟨es, clock, hb, F2, hs, rfl⟩, fun x hx => ?_, fun x h0 h1 => ?_, fun x y x0 y0 x1 y1 hne => ?_⟩
  · rw [Maps.has_eq, List.any_eq_true] at hx
    obtain ⟨p, hp, hsame⟩ := hx
    have hp' := (WideShapes.sorted_perm (es.toList.map (rg Tryz.prog 3 tagE))).subset hp
    obtain ⟨e0, he0, rfl⟩ := List.mem_map.1 hp'
    obtain ⟨v', h1, h2, h3, h4, h5⟩ := key e0 he0
    obtain ⟨g, cap, h6, _⟩ := ints_form h5 h4
    have hr : Go.WideElems.rd Tryz.prog 3 tagE e0 = some (.int .i64 v', .held e0.val) := by
      unfold Go.WideElems.rd
      rw [h1, keyOf_int_mk Tryz.underlying3 h2, h6]
      rfl
    rw [rg_of hr] at hsame
    by_cases e : v' = x
    · rw [<- e]; exact ⟨h3, h4⟩
    · rw [sameKey_ne (key_ne e)] at hsame; cases hsame
  · obtain ⟨e0, he0, hk, hval⟩ := hV x h0 h1
    obtain ⟨v', h1', h2, h3, h4, h5⟩ := key e0 he0
    rw [hk] at h1'
    obtain rfl : x = v' := by cases h1'; rfl
    rw [<- hval]
    exact ⟨hat2 e0 he0 x hk, h5⟩
  · obtain ⟨e0, he0, hk, hval⟩ := hV x x0 x1
    obtain ⟨e1, he1, hk1, hval1⟩ := hV y y0 y1
    obtain ⟨v', h1', _, _, h4, h5⟩ := key e0 he0
    obtain ⟨g, cap, h6, _⟩ := ints_form h5 h4
    rw [<- hval, <- hval1]
    rcases hap e0 he0 e1 he1 (by rw [hk, hk1]; intro e; cases e; exact hne rfl) with h | h
    · rw [h6] at h; cases h
    · exact h
theorem owns_few {w : World} {b m : Nat} {D : DataW Value} (h : w.ownsMap Tryz.prog 3 tagE b m D) : Maps.size D <= m := by
  obtain ⟨es, clock, _, _, hs, rfl⟩ := h
  rw [Maps.size_eq, length_sorted]
  simpa using hs
end Go.Proofs.YtngcdlodcdgcaaaGreat.Cn
