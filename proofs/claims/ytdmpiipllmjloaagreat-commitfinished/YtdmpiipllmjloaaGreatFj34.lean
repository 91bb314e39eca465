/- CnD: what is needed of them. -/
import Derived.Maps.OwnRows
import Derived.Maps.Views
import Derived.Test.YtdmpiipllmjloaaGreatFj33
namespace Go.Proofs.YtdmpiipllmjloaaGreat.Cn
open Go.RowKit Go.Maps Go.ChangeShapes
open Go.WideElems (Fit rd rg pl rd_val)
theorem law3 : Keyed Tryz.prog 3 := int_keyed Tryz.underlying3
theorem zero33 (w : World) : (zeroValue 38).run Tryz.prog w = .ok (.slice none 0 0) w := by kernel_rfl
theorem ownsRow_below {w w' : World} {B : Nat} {e : TypeId} {sz n : Nat} {v : Value} {xs : List Value} (h : w.ownsRow B e sz v n xs) (hb : Below w.heap.size w w') : w'.ownsRow B e sz v n xs := by
  rcases h with ⟨h1, h2 | ⟨g, cp, cur, h2, h3, h4, h5⟩⟩
  · exact ⟨h1, .inl h2⟩
  · exact ⟨h1, .inr ⟨g, cp, cur, h2, h3, (hb.block g (Array.getElem?_eq_some_iff.1 h4).1).trans h4, h5⟩⟩
theorem ownsInts_below {w w' : World} {B : Nat} {e : TypeId} {q : IntKind} {v : Value} {zs : List Int} (h : w.ownsInts B e q v zs) (hb : Below w.heap.size w w') : w'.ownsInts B e q v zs := ⟨ownsRow_below h.1 hb, h.2⟩
theorem groups_below {H : Type} {w w' : World} {P : Program} {k : TypeId} {base : Nat} {e : TypeId} {q : IntKind} {b n : Nat} {D : DataW H} (h : w.ownsGroups P k base e q b n D) (hb : Below w.heap.size w w') : w'.ownsGroups P k base e q b n D := by
  obtain ⟨es, clock, h1, F, hs, rfl, hbb, hlen, hap⟩ := h
  obtain ⟨F2, hm, _⟩ := F.stay (R' := rowElem w' base e q) (fun x hx z hz => by
    obtain ⟨zs, ho, rfl⟩ := rowElem_inv hz
    exact rowElem_mk (ownsInts_below ho hb))
  refine ⟨es, clock, (hb.block b (Array.getElem?_eq_some_iff.1 h1).1).trans h1, F2, hs, by rw [hm], hbb, fun x hx zs ho => ?_, hap⟩
  obtain ⟨y, hy⟩ := F.reads x hx
  obtain ⟨z, hz, _⟩ := rd_val hy
  obtain ⟨ys, ho', _⟩ := rowElem_inv hz
  rw [ho.unique (ownsInts_below ho' hb)]
  exact hlen x hx ys ho'
/-- A map that holds f x at each x. -/
structure GD (D : DataW Unit) (f : Int → List Int) : Prop where
  map : IsMap D
  has : ∀ x : Int, Maps.has D (.int .i64 x) = decide (x ≠ 0 ∧ f x ≠ [])
  at_ : ∀ x : Int, x ≠ 0 → f x ≠ [] → ∀ zd, D.atKey (.int .i64 x) zd = .slice (lits .i64 (f x)) []
theorem lits_inj {q : IntKind} {a b : List Int} (h : (lits q a : List (DataW Unit)) = lits q b) : a = b := by
  unfold lits at h
  exact (List.map_inj_right (fun x y hxy => by cases hxy; rfl)).1 h
theorem GD.zs {D : DataW Unit} {f : Int → List Int} (h : GD D f) {w : World} {B : Nat} {u : Value} {zs : List Int} {x : Int} (hx : x ≠ 0) (hat : D.atKey (.int .i64 x) .nil = rowDatum .i64 u zs) (ho : w.ownsInts B 3 .i64 u zs) : zs = f x := by
  by_cases hf : f x = []
  · rw [atKey_of_not_has (by rw [h.has x, decide_eq_false (fun a => a.2 hf)])] at hat
    rcases ho.datum (H := Unit) with ⟨_, e⟩ | e
    · rw [e, hf]
    · rw [e] at hat; cases hat
  · rw [h.at_ x hx hf] at hat
    rcases ho.datum (H := Unit) with ⟨e, _⟩ | e
    · rw [e] at hat; cases hat
    · rw [e] at hat
      exact (lits_inj (by simpa using hat)).symm
theorem key_ne {x v : Int} (h : x ≠ v) : (Lit.int .i64 x) ≠ Lit.int .i64 v := fun e => h (by cases e; rfl)
theorem GD.put {D : DataW Unit} {f g : Int → List Int} (h : GD D f) {v : Int} (hv : v ≠ 0) (hg : g v ≠ []) (hk : WideAt.IsKeyLit (.int .i64 v)) (he : ∀ x, x ≠ 0 → x ≠ v → g x = f x) : GD (D.put (.int .i64 v) (.slice (lits .i64 (g v)) [])) g where
  map := h.map.put _ _
  has x := by
    by_cases e : x = v
    · rw [e, has_put_same h.map hk, decide_eq_true ⟨hv, hg⟩]
    · rw [has_put_other (key_ne e), h.has x]
      by_cases z : x = 0
      · rw [decide_eq_false (fun a => a.1 z), decide_eq_false (fun a => a.1 z)]
      · rw [he x z e]
  at_ x hx hf zd := by
    by_cases e : x = v
    · rw [e, atKey_put_same h.map hk]
    · rw [atKey_put_other (key_ne e), he x hx e]
      exact h.at_ x hx (by rw [← he x hx e]; exact hf) zd
theorem GD.congr {D : DataW Unit} {f g : Int → List Int} (h : GD D f) (he : ∀ x, x ≠ 0 → g x = f x) : GD D g where
  map := h.map
  has x := by
    rw [h.has x]
    by_cases z : x = 0
    · rw [decide_eq_false (fun a => a.1 z), decide_eq_false (fun a => a.1 z)]
    · rw [he x z]
  at_ x hx hf zd := by rw [he x hx]; exact h.at_ x hx (by rw [← he x hx]; exact hf) zd
theorem gd_empty : GD (.map []) (fun _ => []) where
  map := isMap_empty
  has x := by rw [decide_eq_false (fun a => a.2 rfl)]; rfl
  at_ x _ hf := absurd rfl hf
/-- Which drives hold x, while the slot k of the drive i is looked at. -/
def pv (P Q : Nat → Int) (i k : Nat) (x : Int) : List Int := dl (hbv P Q x) i ++ (if (0 < k ∧ P i = x) ∨ (1 < k ∧ Q i = x) then [(i : Int)] else [])
theorem pv_0 (P Q : Nat → Int) (i : Nat) (x : Int) : pv P Q i 0 x = dl (hbv P Q x) i := by
  unfold pv
  rw [if_neg (by omega), List.append_nil]
theorem pv_2 (P Q : Nat → Int) (i : Nat) (x : Int) : pv P Q i 2 x = dl (hbv P Q x) (i + 1) := by
  unfold pv
  rw [dl]
  by_cases h : P i = x ∨ Q i = x
  · rw [if_pos (show hbv P Q x i = true from decide_eq_true h), if_pos (by rcases h with h | h; exact .inl ⟨by omega, h⟩; exact .inr ⟨by omega, h⟩)]
  · rw [if_neg (show ¬ hbv P Q x i = true from fun g => h (of_decide_eq_true g)), if_neg (by rintro (⟨_, g⟩ | ⟨_, g⟩); exact h (.inl g); exact h (.inr g)), List.append_nil]
theorem pv_same {P Q : Nat → Int} {i k : Nat} (hk : k < 2) {v : Int} (hv : v = if k = 0 then P i else Q i) (h0 : v ≠ 0) (hd : Q i = 0 ∨ Q i ≠ P i) : pv P Q i (k + 1) v = pv P Q i k v ++ [(i : Int)] := by
  unfold pv
  rcases (show k = 0 ∨ k = 1 by omega) with rfl | rfl
  · rw [if_pos rfl] at hv
    rw [if_pos (.inl ⟨by omega, hv.symm⟩), if_neg (by omega), List.append_nil]
  · rw [if_neg (by omega)] at hv
    rw [if_pos (.inr ⟨by omega, hv.symm⟩), if_neg (by rintro (⟨_, g⟩ | ⟨g, _⟩); (rcases hd with e | e; omega; omega); omega), List.append_nil]
theorem pv_other {P Q : Nat → Int} {i k : Nat} (hk : k < 2) {v x : Int} (hv : v = if k = 0 then P i else Q i) (h0 : x ≠ v) : pv P Q i (k + 1) x = pv P Q i k x := by
  unfold pv
  rcases (show k = 0 ∨ k = 1 by omega) with rfl | rfl
  · rw [if_pos rfl] at hv
    rw [if_neg (by omega), if_neg (by omega)]
  · rw [if_neg (by omega)] at hv
    by_cases e : P i = x
    · rw [if_pos (.inl ⟨by omega, e⟩), if_pos (.inl ⟨by omega, e⟩)]
    · rw [if_neg (by omega), if_neg (by omega)]
set_option maxRecDepth 100000 in
theorem idh0 (w : World) (x0 x1 : Value) : (Instr.index 72 (.agg #[x0, x1]) (.int .i64 0)).run Tryz.prog w = .ok x0 w := rfl
set_option maxRecDepth 100000 in
theorem idh1 (w : World) (x0 x1 : Value) : (Instr.index 72 (.agg #[x0, x1]) (.int .i64 1)).run Tryz.prog w = .ok x1 w := rfl
set_option maxHeartbeats 4000000 in
set_option maxRecDepth 100000 in
theorem holders_any {B : Nat} (w : World) (a : Option Addr) (n cap : Nat) (P Q : Nat → Int) (h : Hol B w a n cap P Q) (hn : n ≤ 16) (hP : ∀ i, i < n → 0 ≤ P i ∧ P i ≤ 1073741824) (hQ : ∀ i, i < n → 0 ≤ Q i ∧ Q i ≤ 1073741824) (hd : ∀ i, i < n → Q i = 0 ∨ Q i ≠ P i) :
    Calls Tryz.prog 121 #[.slice a n cap] w fun e w' => ∃ (D : DataW Unit) (m : Nat), e = .returned (.map (some w.heap.size)) ∧ w'.ownsGroups Tryz.prog 3 (w.heap.size + 1) 3 .i64 w.heap.size m D ∧ m ≤ 32 ∧ GD D (dv P Q n) ∧ Below w.heap.size w w' := by
  have hmm := @run_makeMap Tryz.prog
  obtain ⟨i0, hi, hz0, hz1, hz2⟩ := info_parts info3
  have HH : Hid (Hol B w a n cap P Q) := h
  have HP : Hid (∀ i, i < n → 0 ≤ P i ∧ P i ≤ 1073741824) := hP
  have HQ : Hid (∀ i, i < n → 0 ≤ Q i ∧ Q i ≤ 1073741824) := hQ
  have HD : Hid (∀ i, i < n → Q i = 0 ∨ Q i ≠ P i) := hd
  clear h hP hQ hd
  go_enter Tryz.func121, Tryz.ntmps121
  go_wp2
  go_loopw [11] (fun y wr => ∃ (i m : Nat) (D : DataW Unit), i ≤ n ∧ y = .int .i64 (i : Int) ∧ Hid (wr.ownsGroups Tryz.prog 3 (w.heap.size + 1) 3 .i64 w.heap.size m D) ∧ Hid (GD D (dv P Q i)) ∧ m ≤ 2 * i ∧ Hid (Below w.heap.size w wr) ∧ w.heap.size + 1 ≤ wr.heap.size) (fun y _ => n - (intOf y).toNat)
  case atStart => exact ⟨0, 0, .map [], Nat.zero_le _, rfl, World.ownsGroups_made _ _ _ _ _, gd_empty, Nat.le_refl _, below_alloc _ _, by simp⟩
  case round =>
    obtain ⟨i, m, D, hin, rfl, hown, hgd, hm, hbw, hws⟩ := hrel
    by_cases hlt : i < n
    · obtain ⟨g, rfl, _, _⟩ := HH.out.at_ (by omega)
      have c0 : wr.cell? ⟨g, i * 2, none⟩ = some (.int .i64 (P i)) := held (HH.out.c0 hlt) hbw.out
      have c1 : wr.cell? ⟨g, i * 2 + 1, none⟩ = some (.int .i64 (Q i)) := held (HH.out.c1 hlt) hbw.out
      have i1 : (0 : Int) ≤ (i : Int) := by omega
      have i2 : (i : Int) < (n : Int) := by omega
      obtain ⟨wd, hwd⟩ : ∃ wd, wd = wr.alloc (.cells #[.int .i64 (P i), .int .i64 (Q i)] 72) := ⟨_, rfl⟩
      have BD : Hid (Below wr.heap.size wr wd) := by show Below _ _ _; rw [hwd]; exact below_alloc _ _
      go_wp2_with fail
      rw [← hwd]
      clear hwd c0 c1
      go_loopw [17] (fun y wr => ∃ (k m : Nat) (D : DataW Unit), k ≤ 2 ∧ y = .int .i64 (k : Int) ∧ Hid (wr.ownsGroups Tryz.prog 3 (w.heap.size + 1) 3 .i64 w.heap.size m D) ∧ Hid (GD D (pv P Q i k)) ∧ m ≤ 2 * i + k ∧ Hid (Below w.heap.size w wr) ∧ w.heap.size + 1 ≤ wr.heap.size) (fun y _ => 2 - (intOf y).toNat)
      case atStart =>
        refine ⟨0, m, D, Nat.zero_le _, rfl, groups_below hown.out BD.out, ?_, by omega, below_then hbw.out BD.out, Nat.le_trans hws BD.out.size⟩
        exact hgd.out.congr fun x _ => pv_0 P Q i x
      case round =>
        obtain ⟨k, m2, D2, hk2, rfl, hown2, hgd2, hm2, hbw2, hws2⟩ := hrel
        by_cases hk : k < 2
        · obtain ⟨v, hv⟩ : ∃ v, v = (if k = 0 then P i else Q i) := ⟨_, rfl⟩
          have hix : ∀ u, (Instr.index 72 (.agg #[.int .i64 (P i), .int .i64 (Q i)]) (.int .i64 (k : Int))).run Tryz.prog u = .ok (.int .i64 v) u := fun u => by
            rcases (show k = 0 ∨ k = 1 by omega) with rfl | rfl
            · rw [hv]; exact idh0 u _ _
            · rw [hv]; exact idh1 u _ _
          have hvb : 0 ≤ v ∧ v ≤ 1073741824 := by rw [hv]; split; exact HP.out i hlt; exact HQ.out i hlt
          have HV : Hid (v = if k = 0 then P i else Q i) := hv
          have k1 : (k : Int) < 2 := by omega
          clear hv
          by_cases hv0 : v = 0
          · have hvn : (v != 0) = false := by simp [hv0]
            go_wp2_with fail
            go_roundw
            case rel =>
              refine ⟨k + 1, m2, D2, by omega, by go_num, hown2.out, ?_, by omega, hbw2.out, hws2⟩
              exact hgd2.out.congr fun x hx => pv_other hk HV.out (by omega)
            case measure => simp [intOf]; omega
          · have hvn : (v != 0) = true := by simpa using hv0
            have hkey := keyOf_int_mk Tryz.underlying3 (WalkArith.wf_i64 (n := v) (by omega))
            have hown := hown2.out
            go_wp2_with (first
              | (at_lookup; refine wpList_lookup_groups _ rfl _ _ 191 rfl 3 38 3 .i64 law3 Tryz.underlying191 (zero33 _) (w.heap.size + 1) w.heap.size m2 _ rfl hown (by unfold maxLen; omega) _ _ rfl hkey ?_; intro u zs hat hoi hzl hback)
              | (at_builtin; refine wpList_append_own_at _ rfl _ _ 38 rfl (w.heap.size + 1) 3 i0 (.int .i64 0) 1 8 Tryz.underlying38 hi hz0 hz1 hz2 rfl (by decide) _ _ _ rfl (hoi.1.alloc _) ⟨wr.heap.size, 0, none⟩ 1 1 [.int .i64 i] rfl rfl (cell_one_new _ _ _) (ints_oneCell .i64 [(i : Int)]) (by unfold maxLen; omega) (by omega) (by simp; omega) ?_; intro v' w1 hown' hgrow hnil hloc)
              | (at_mapUpdate; refine wpList_mapUpdate_back _ rfl _ _ _ 191 rfl hback rfl rfl rfl ((World.grownBy_alloc _ _ _).trans hgrow) (hoi.appended hown' (WalkArith.wf_i64 (by omega))) (by simp; omega) (hloc.imp id (fun h => ⟨_, h, by simp⟩)) ?_; intro w2 hown3 hgrow2)
              | go_in)
            have hzs := hgd2.out.zs hv0 hat hoi
            have hall := (World.grownBy_alloc wr _ _).trans hgrow
            go_roundw
            case rel =>
              refine ⟨k + 1, m2 + 1, D2.put (.int .i64 v) (.slice (lits .i64 (zs ++ [(i : Int)])) []), by omega, by go_num, ?_, ?_, by omega, hbw2.out.groups hoi hall hgrow2 hbw2.out.size (Nat.le_succ _) (Nat.le_refl _), Nat.le_trans hws2 (Nat.le_trans hall.size hgrow2.size)⟩
              · rw [← (hoi.appended hown' (WalkArith.wf_i64 (by omega))).datum_pos (by simp)]
                exact hown3
              rw [hzs, ← pv_same hk HV.out hv0 (HD.out i hlt)]
              exact hgd2.out.put hv0 (by rw [pv_same hk HV.out hv0 (HD.out i hlt)]; simp) (law3.key hkey) (fun x _ hx => pv_other hk HV.out hx)
            case measure => simp [intOf]; omega
        · obtain rfl : k = 2 := by omega
          go_wp2_with fail
          go_roundw
          case rel =>
            refine ⟨i + 1, m2, D2, by omega, by go_num, hown2.out, ?_, by omega, hbw2.out, hws2⟩
            exact hgd2.out.congr fun x _ => (pv_2 P Q i x).symm
          case measure => simp [intOf]; omega
    · obtain rfl : i = n := by omega
      go_wp2_with fail
      go_ret
      exact ⟨D, m, rfl, hown.out, by omega, hgd.out, hbw.out⟩
end Go.Proofs.YtdmpiipllmjloaaGreat.Cn
