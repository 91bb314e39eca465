import Derived.Test.YtngcdlodcdgcaaaGreatZk44
namespace Go.Proofs.YtngcdlodcdgcaaaGreat.Cn
open Go.RowKit Go.Maps Go.ChangeShapes Go.Sort Go.Shelf
def cmpI (a b : Int) : Int := if a < b then -1 else if b < a then 1 else 0
set_option maxHeartbeats 400000 in
theorem isNaN_any (a : Int) (w : World) : Calls Tryz.prog 87 #[.int .i64 a] w fun e w' => e = .returned (.bool false) /\ w' = w := by
  have h : (a != a) = false := by simp
  go_enter Tryz.func87, Tryz.ntmps87
  go_wp2
  go_ret
  exact ⟨rfl, rfl⟩
set_option maxHeartbeats 1000000 in
theorem Compare_any (a b : Int) (w : World) : Calls Tryz.prog 155 #[.int .i64 a, .int .i64 b] w fun e w' => e = .returned (.int .i64 (cmpI a b)) /\ w' = w := by
  have HN := fun (x : Int) v => isNaN_any x v
  unfold cmpI
  by_cases h : a < b
  · rw [if_pos h]
    go_enter Tryz.func155, Tryz.ntmps155
    go_wp2_with (go_at_call 87; refine (HN _ _).mono ?_; rintro e w' ⟨rfl, hw'⟩; obtain rfl := hw'.symm)
    go_ret
    exact ⟨rfl, rfl⟩
  · rw [if_neg h]
    by_cases g : b < a
    · rw [if_pos g]
      go_enter Tryz.func155, Tryz.ntmps155
      go_wp2_with (go_at_call 87; refine (HN _ _).mono ?_; rintro e w' ⟨rfl, hw'⟩; obtain rfl := hw'.symm)
      go_ret
      exact ⟨rfl, rfl⟩
    · rw [if_neg g]
      go_enter Tryz.func155, Tryz.ntmps155
      go_wp2_with (go_at_call 87; refine (HN _ _).mono ?_; rintro e w' ⟨rfl, hw'⟩; obtain rfl := hw'.symm)
      go_ret
      exact ⟨rfl, rfl⟩
set_option maxHeartbeats 1000000 in
theorem closure38 (x y : Tly) (W : World) : Calls Tryz.prog 154 #[.agg #[.int .i64 x.1, .slice x.2.1 x.2.2.1 x.2.2.2], .agg #[.int .i64 y.1, .slice y.2.1 y.2.2.1 y.2.2.2]] W fun e w' => e = .returned (.int .i64 (cmpI y.1 x.1)) /\ ∃ q os', w' = grow (W.drewN q) os' := by
  have hcon := fun W' => Compare_any y.1 x.1 W'
  generalize cmpI y.1 x.1 = r at hcon ⊢
  go_enter Tryz.func154, Tryz.ntmps154
  go_wp2_with (go_at_call 155; refine (hcon _).mono ?_; rintro e w' ⟨rfl, hw'⟩; obtain rfl := hw'.symm)
  go_ret
  exact ⟨rfl, 0, _, by rw [alloc_eq_grow, alloc_eq_grow, grow_grow]; rfl⟩
theorem ltT (x y : Tly) : ltOf (fun x y : Tly => cmpI y.1 x.1) x y = decide (y.1 < x.1) := by
  unfold ltOf cmpI
  by_cases h1 : y.1 < x.1
  · simp [h1]
  · by_cases h2 : x.1 < y.1 <;> simp [h1, h2]
theorem swoT : SWO (ltOf fun x y : Tly => cmpI y.1 x.1) where
  irrefl x := by rw [ltT]; simp
  trans x y z h1 h2 := by rw [ltT] at *; simp at *; omega
  ntrans x y z h1 h2 := by rw [ltT] at *; simp at *; omega
theorem sort_any (w : World) (B g cap : Nat) (ts : List Tly) (h : w.ownsRow B 206 2 (.slice (some ⟨g, 0, none⟩) ts.length cap) ts.length (tF ts)) (hn : ts.length <= 100) :
    Calls Tryz.prog 153 #[.slice (some ⟨g, 0, none⟩) ts.length cap, .func (.func 154) #[] #[]] w fun e w' => e = .returned (.tuple #[]) /\ ∃ ts', ts'.Perm ts /\ ts'.Pairwise (fun a b => b.1 <= a.1) /\ w'.ownsRow B 206 2 (.slice (some ⟨g, 0, none⟩) ts.length cap) ts.length (tF ts') /\ Only (fun b => b = g) w w' := by
  have eg : ∀ args w, (callFunc 154 args).run Tryz.prog w = .ok (.enter 154 args) w := enters_of Tryz.func154 (by kernel_rfl) rfl
  have hlt := (World.ownsRow.lt h g rfl).2
  have hcon := AnyQ.slices_SortFunc sortT 2 Tryz.isAgg206 Tryz.sizeOf206 encT (fun _ => rfl) (fun x v hv => by simp [encT] at hv; rcases hv with rfl | rfl <;> rfl) (fun x y : Tly => cmpI y.1 x.1) swoT 154 #[] g 0 cap ts.toArray w eg (fun _ _ _ _ x y => closure38 x y _) (own_holdsK h rfl) hlt (by simp; omega)
  change Calls Tryz.prog 153 _ _ _ at hcon
  refine hcon.mono ?_
  rintro e w' ⟨rfl, d', n, os, hp, hs, rfl⟩
  have hsz : d'.size = ts.length := by have := hp.1; simpa using this
  obtain ⟨h1, h2⟩ := sorted_row (m := n) (os := os) h hsz
  refine ⟨rfl, d'.toList, ?_, ?_, h1, h2⟩
  · have := hp.2.2
    rw [show ts.toArray.size = ts.length by simp] at this
    have e1 : d'.extract 0 ts.length = d' := by rw [<- hsz]; simp
    have e2 : ts.toArray.extract 0 ts.length = ts.toArray := by rw [show ts.length = ts.toArray.size by simp]; simp
    rw [e1, e2] at this
    simpa using this
  · rw [List.pairwise_iff_getElem]
    intro i j hi hj hij
    have hi' : i < d'.size := by simpa using hi
    have hj' : j < d'.size := by simpa using hj
    have := hs i j (Nat.zero_le _) hij (by simp; omega)
    rw [ltT, getElem!_pos d' i hi', getElem!_pos d' j hj'] at this
    have h3 := of_decide_eq_false this
    simp only [Array.getElem_toList]
    omega
structure Tal (B : Nat) (w : World) (a : Option Addr) (cap : Nat) (ts : List Tly) (f : Int -> List Int) : Prop where
  row : w.ownsRow B 206 2 (.slice a ts.length cap) ts.length (tF ts)
  cel : ∀ t, t ∈ ts -> w.ownsInts B 3 .i64 (sv t.2) (f t.1)
  far : ts.Pairwise (fun s t => (sv s.2).ownBlock ≠ (sv t.2).ownBlock)
theorem mkcells (w : World) (x y : Value) (t : TypeId) : ∀ j u, [x, y][j]? = some u -> (w.alloc (.cells #[x, y] t)).cell? ((⟨w.heap.size, 0, none⟩ : Addr).add j) = some u := by
  intro j u hj
  match j, hj with
  | 0, hj =>
    simp at hj
    subst hj
    simp [Addr.add]
  | 1, hj =>
    simp at hj
    subst hj
    simp [Addr.add]
theorem info40 : (Tryz.prog.info? 206).map (fun i => (i.zero, i.size, i.bytes)) = some (some (.agg #[.int .i64 0, .slice none 0 0]), 2, 32) := by kernel_rfl
theorem invK3 (key : Value) (kl : Lit) (h : keyOf Tryz.prog 3 key = some kl) : ∃ x, key = Value.int .i64 x := by
  obtain ⟨x, h1, _⟩ := Maps.keyOf_int_inv Tryz.underlying3 h
  exact ⟨x, h1⟩
theorem invVT (v : Value) (y : DataW Value × List MemPlace) (h : tagE v = some y) : ∃ c, v = sv c := by
  obtain ⟨c, h1, _⟩ := tagE_inv h
  exact ⟨c, h1⟩
theorem row_kept {w w' : World} {B r : Nat} {e : TypeId} {sz n : Nat} {v : Value} {xs : List Value} (h : w.ownsRow B e sz v n xs) (hg : w.grownBy w' (some r)) (hr : r < B) : w'.ownsRow B e sz v n xs :=
  h.kept hg (by
    cases hv : v.ownBlock with
    | none => exact .inl rfl
    | some g => exact .inr (fun e => by have := (h.lt g hv).1; cases e; omega))
theorem row_mono {w : World} {B B' : Nat} {e : TypeId} {sz n : Nat} {v : Value} {xs : List Value} (h : w.ownsRow B e sz v n xs) (hb : B' <= B) : w.ownsRow B' e sz v n xs := by
  rcases h with ⟨h1, h2 | ⟨g, cp, cur, h2, h3, h4⟩⟩
  · exact ⟨h1, .inl h2⟩
  · exact ⟨h1, .inr ⟨g, cp, cur, h2, by omega, h4⟩⟩
theorem own_off {w : World} {B r : Nat} {e : TypeId} {sz n : Nat} {v : Value} {xs : List Value} (h : w.ownsRow B e sz v n xs) (hr : r < B) : some r ≠ v.ownBlock := fun e => by
  have := (h.lt r e.symm).1; omega
theorem own_form {w : World} {B : Nat} {e : TypeId} {sz n : Nat} {v : Value} {xs : List Value} (h : w.ownsRow B e sz v n xs) : ∃ a cap, v = .slice a n cap := by
  rcases h.2 with ⟨h2, h3⟩ | ⟨g, cp, cur, h2, _⟩
  · exact ⟨none, 0, by rw [h2, h3]⟩
  · exact ⟨_, cp, h2⟩
set_option maxHeartbeats 4000000 in
set_option maxRecDepth 100000 in
theorem sorted_any (w : World) (base b m : Nat) (D : DataW Unit) (f : Int -> List Int) (h : w.ownsGroups Tryz.prog 3 base 3 .i64 b m D) (hg : GD D f) (hf : ∀ x, f x ≠ [] -> 0 <= x /\ x <= 1073741824) (hm : m <= 32) (hb : base <= w.heap.size) :
    Calls Tryz.prog 140 #[.map (some b)] w fun e w' => ∃ a cap ts, e = .returned (.slice a (ts.length : Nat) cap) /\ Tal base w' a cap ts f /\ (ts.map (fun t => t.1)).Pairwise (fun x y => y < x) /\ (∀ x, x ∈ ts.map (fun t => t.1) ↔ x ≠ 0 /\ f x ≠ []) /\ Below w.heap.size w w' := by
  obtain ⟨D', V, hown, hhas, hat, hfar⟩ := groups_tag h hg hf
  have hfew := owns_few hown
  have hbl := hown.lt
  have HG : Hid (∀ x : Int, x ≠ 0 -> f x ≠ [] -> w.ownsInts base 3 .i64 (sv (V x)) (f x)) := fun x a b => (hat x a b).2
  have HA : Hid (∀ x : Int, x ≠ 0 -> f x ≠ [] -> ∀ zd, D'.atKey (.int .i64 x) zd = .held (sv (V x))) := fun x a b => (hat x a b).1
  have HH : Hid (∀ x : Int, Maps.has D' (.int .i64 x) = true -> x ≠ 0 /\ f x ≠ []) := hhas
  have HF : Hid (∀ x y : Int, x ≠ 0 -> y ≠ 0 -> f x ≠ [] -> f y ≠ [] -> x ≠ y -> (sv (V x)).ownBlock ≠ (sv (V y)).ownBlock) := hfar
  have HFB : Hid (∀ x, f x ≠ [] -> 0 <= x /\ x <= 1073741824) := hf
  clear hat hhas hfar hf h hg
  obtain ⟨i0, hi, hz0, hz1, hz2⟩ := info_parts info40
  go_enter Tryz.func140, Tryz.ntmps140
  go_wp2_with (first
    | (at_range; refine wpList_range_own _ rfl _ 219 rfl 3 33 law3 Tryz.underlying219 _ b m _ rfl hown ?_; intro w0 hrg0 hg0 hs0)
    | go_in)
  go_frame
  clear hs0
  go_loopw [3] (fun y wr => ∃ (left : Lit -> Bool) (cnt : Nat) (a : Option Addr) (cap : Nat) (ts : List Tly), y = .slice a ts.length cap /\ wr.ranges Tryz.prog 3 tagE b w.heap.size m D' left cnt /\ ts.length + cnt <= 32 /\ Hid (wr.ownsRow (w.heap.size + 1) 206 2 (.slice a ts.length cap) ts.length (tF ts)) /\ Hid (∀ t, t ∈ ts -> t.2 = V t.1 /\ t.1 ≠ 0 /\ f t.1 ≠ []) /\ Hid (∀ x : Int, left (.int .i64 x) = true -> Maps.has D' (.int .i64 x) = true) /\ Hid (∀ x : Int, x ∈ ts.map (fun t => t.1) -> left (.int .i64 x) = false) /\ Hid (∀ x : Int, Maps.has D' (.int .i64 x) = true -> left (.int .i64 x) = false -> x ∈ ts.map (fun t => t.1)) /\ Hid ((ts.map (fun t => t.1)).Nodup) /\ Hid (Below w.heap.size w wr)) (fun _ wr => wr.rangeLeft b w.heap.size)
  case atStart =>
    exact ⟨_, _, none, 0, [], rfl, hrg0, by simp; omega, World.ownsRow_nil _ _ _ _, fun t ht => absurd ht (by simp), fun x hx => hx, (fun x hx => absurd hx (by simp)), (fun x hx hl => absurd (hx.symm.trans hl) (by simp)), List.Pairwise.nil, (Below.refl _ w).grown hg0 (Nat.le_refl _) (fun j hj => by cases hj)⟩
  case round =>
    obtain ⟨left, cnt, a, cap, ts, rfl, hrg, hcs, hrow, htv, hlh, htl, hlt', hnd, hbw⟩ := hrel
    go_wp2_with (first
      | (at_next; refine wpList_next_ranges _ rfl _ rfl 3 law3 tagE (Value.int .i64) sv invK3 invVT b w.heap.size m _ _ _ rfl hrg ?_ ?_)
      | go_in)
    · intro hc0 hl0
      have HM : Hid (∀ x : Int, x ∈ ts.map (fun t => t.1) ↔ x ≠ 0 /\ f x ≠ []) := fun x => by
        constructor
        · intro hx
          obtain ⟨t, ht, rfl⟩ := List.mem_map.1 hx
          exact (htv.out t ht).2
        · rintro ⟨x0, x1⟩
          exact hlt'.out x (has_true_of_atKey (HA.out x x0 x1)) (hl0 _)
      by_cases hn : ts = []
      · subst hn
        have hS := AnyF.slices_SortFunc_none sortT a cap (.func (.func 154) #[] #[]) wr
        change Calls Tryz.prog 153 _ _ _ at hS
        have hrw := hrow.out
        clear hown hfew hrg hrg0 hg0
        go_wp2_with (go_at_call 153; refine hS.mono ?_; rintro e w' ⟨rfl, hw'⟩; obtain rfl := hw'.symm)
        go_ret
        exact ⟨a, cap, [], rfl, ⟨row_mono hrw (by omega), fun t ht => absurd ht (by simp), List.Pairwise.nil⟩, List.Pairwise.nil, HM.out, hbw.out⟩
      · have hp : 0 < ts.length := List.length_pos_iff.2 hn
        obtain ⟨g, rfl, hgB⟩ : ∃ g, a = some ⟨g, 0, none⟩ /\ w.heap.size + 1 <= g := by
          rcases hrow.out.2 with ⟨_, h2⟩ | ⟨g, cp, cur, h2, h3, _⟩
          · omega
          · simp only [Value.slice.injEq] at h2
            exact ⟨g, h2.1, h3⟩
        have hS := sort_any wr (w.heap.size + 1) g cap ts hrow.out (by omega)
        have HN : Hid (ts.length = ts.length) := rfl
        clear hown hfew hrg hrg0 hg0
        go_wp2_with (go_at_call 153; refine hS.mono ?_; rintro e w' ⟨rfl, ts', hpm, hso, hr', ho'⟩)
        go_ret
        have hbl' : Below w.heap.size w w' := hbw.out.trans (ho'.below (fun i hi => by omega) hbw.out.size)
        have hmm := hpm.map (fun t : Tly => t.1)
        have hne : ts'.Pairwise (fun s t => s.1 ≠ t.1) := List.pairwise_map.1 (hmm.nodup_iff.2 hnd.out)
        refine ⟨some ⟨g, 0, none⟩, cap, ts', by rw [hpm.length_eq]; rfl, ⟨?_, fun t ht => ?_, ?_⟩, ?_, fun x => ?_, hbl'⟩
        · rw [hpm.length_eq]; exact row_mono hr' (by omega)
        · obtain ⟨h1, h2, h3⟩ := htv.out t (hpm.subset ht)
          rw [h1]
          exact ownsInts_below (HG.out t.1 h2 h3) hbl'
        · refine hne.imp_of_mem ?_
          intro s t hs ht hst
          obtain ⟨h1, h2, h3⟩ := htv.out s (hpm.subset hs)
          obtain ⟨k1, k2, k3⟩ := htv.out t (hpm.subset ht)
          rw [h1, k1]
          exact HF.out s.1 t.1 h2 k2 h3 k3 hst
        · exact List.pairwise_map.2 ((hso.and hne).imp fun {s t} h => by have := h.1; have := h.2; omega)
        · rw [<- HM.out x]; exact hmm.mem_iff
    · intro x ca cn cc kl y1 y2 w1 cnt1 hkey hlx hv hat hrg1 hlt hg1 hs1 hen
      obtain ⟨x', hx1, rfl, hwf⟩ := Maps.keyOf_int_inv Tryz.underlying3 hkey
      obtain rfl : x = x' := by cases hx1; rfl
      obtain ⟨x0, x1⟩ := HH.out x (hlh.out x hlx)
      obtain ⟨c', hc', hy⟩ := tagE_inv hv
      have hcv : sv (ca, cn, cc) = sv (V x) := by
        have h1 := (hat .nil).symm.trans (HA.out x x0 x1 .nil)
        simp only [Prod.mk.injEq] at hy
        rw [hy.1] at h1
        simpa using h1
      have HC : Hid (V x = (ca, cn, cc)) := by
        show V x = _
        unfold sv at hcv
        simp only [Value.slice.injEq] at hcv
        rw [hcv.1, hcv.2.1, hcv.2.2]
      simp only [sv] at hen ⊢
      have hrow1 := row_kept hrow.out hg1 (Nat.lt_succ_self _)
      have HK : Hid (Below w.heap.size w w1) := hbw.out.grown hg1 hbw.out.size (fun j hj => by cases hj; exact Nat.le_refl _)
      have HS1 : Hid (w1.heap.size = wr.heap.size) := hs1
      clear hv hat hkey hcv hx1 hc' hy hs1
      go_wp2_with (first
        | (at_builtin; refine wpList_append_own_at _ rfl _ _ 202 rfl (w.heap.size + 1) 206 i0 (.agg #[.int .i64 0, .slice none 0 0]) 2 32 Tryz.underlying202 hi hz0 hz1 hz2 rfl (by decide) _ _ _ rfl (hrow1.alloc _) ⟨w1.heap.size, 0, none⟩ 1 1 [.int .i64 x, .slice ca cn cc] rfl rfl (mkcells _ _ _ _) (by simp [Value.oneCell']) (by unfold maxLen; omega) (by omega) (by have := hrg1.lt; simp; omega) ?_; intro v' w2 hown2 hgrow hnil hloc)
        | go_in)
      obtain ⟨a2, cap2, rfl⟩ := own_form hown2
      have hrg2 := (hrg1.alloc (.cells #[.int .i64 x, .slice ca cn cc] 206)).kept hgrow (own_off hrow1 (by omega)) (own_off hrow1 (by omega))
      have hxn : ¬ x ∈ ts.map (fun t => t.1) := fun hx => by have := htl.out x hx; rw [hlx] at this; cases this
      have hself : (Lit.int .i64 x).sameKey (Lit.int .i64 x) = true := by simp [Lit.sameKey]
      go_roundw
      case rel =>
        refine ⟨_, cnt1, a2, cap2, ts ++ [(x, ca, cn, cc)], by simp, hrg2, by simp; omega, ?_, fun t ht => ?_, fun z hz => ?_, fun z hz => ?_, fun z hz hl => ?_, ?_, ?_⟩
        · show World.ownsRow _ _ _ _ _ _ _
          rw [List.length_append, tF_append]; exact hown2
        · rcases List.mem_append.1 ht with ht | ht
          · exact htv.out t ht
          · obtain rfl : t = (x, ca, cn, cc) := by simpa using ht
            exact ⟨HC.out.symm, x0, x1⟩
        · simp only [Bool.and_eq_true] at hz
          exact hlh.out z hz.1
        · rw [List.map_append] at hz
          rcases List.mem_append.1 hz with hz | hz
          · show (left _ && _) = false
            rw [htl.out z hz]; rfl
          · obtain rfl : z = x := by simpa using hz
            show (left _ && !_) = false
            rw [hself]; simp
        · rw [List.map_append]
          by_cases e : z = x
          · exact List.mem_append.2 (.inr (by simp [e]))
          · refine List.mem_append.2 (.inl (hlt'.out z hz ?_))
            have : (left (.int .i64 z) && !(Lit.int .i64 z).sameKey (.int .i64 x)) = false := hl
            rw [sameKey_ne (key_ne e)] at this
            simpa using this
        · show (List.map _ _).Nodup
          rw [List.map_append, List.nodup_append]
          refine ⟨hnd.out, by simp, fun p hp q hq => ?_⟩
          obtain rfl : q = x := by simpa using hq
          exact fun e => hxn (e ▸ hp)
        · exact (b_alloc HK.out _).grown hgrow (by simp; have := HK.out.size; omega) (fun j hj => by have := (hrow1.lt j hj).1; omega)
      case measure => rw [hrg2.left_eq, hrg.left_eq]; exact hlt
end Go.Proofs.YtngcdlodcdgcaaaGreat.Cn
