/- The rows that raw writes meet, by the document. -/
import Derived.Test.YtenlfhdchflnjaaImgS
import Derived.Maps.Own
import Derived.Maps.OwnOps
import Derived.Maps.Views
namespace Go.Proofs.Ytenlfhdchflnjaa
open Go.RowKit Go.Maps

def ivs (f : Nat → Int) (m : Nat) : List Value := (List.range m).map fun j => .int .i64 (f j)
theorem ivs_length (f : Nat → Int) (m : Nat) : (ivs f m).length = m := by simp [ivs]
theorem ivs_get (f : Nat → Int) (m j : Nat) (h : j < m) : (ivs f m)[j]? = some (.int .i64 (f j)) := by simp [ivs, h]
theorem ivs_congr {f g : Nat → Int} {m : Nat} (h : ∀ j, j < m → f j = g j) : ivs f m = ivs g m := by
  apply List.ext_getElem?
  intro j
  by_cases hj : j < m
  · rw [ivs_get f m j hj, ivs_get g m j hj, h j hj]
  · rw [List.getElem?_eq_none (by rw [ivs_length]; omega), List.getElem?_eq_none (by rw [ivs_length]; omega)]
theorem ivs_snoc (f : Nat → Int) (m : Nat) (x : Int) : ivs f m ++ [.int .i64 x] = ivs (upd m x f) (m + 1) := by
  apply List.ext_getElem?
  intro j
  by_cases hj : j < m
  · rw [List.getElem?_append_left (by rw [ivs_length]; exact hj), ivs_get f m j hj, ivs_get _ _ j (by omega), upd_ne _ _ (by omega)]
  · by_cases e : j = m
    · subst e; rw [List.getElem?_append_right (by rw [ivs_length]; omega), ivs_length, ivs_get _ _ j (by omega), upd_at]; simp
    · rw [List.getElem?_eq_none (by simp [ivs_length]; omega), List.getElem?_eq_none (by rw [ivs_length]; omega)]
theorem owns_set1 {w : World} {B e g n cap : Nat} {f : Nat → Int} (h : w.ownsRow B e 1 (.slice (some ⟨g, 0, none⟩) n cap) n (ivs f n)) (j : Nat) (x : Int) :
    (w.setCell ⟨g, j, none⟩ (.int .i64 x)).ownsRow B e 1 (.slice (some ⟨g, 0, none⟩) n cap) n (ivs (upd j x f) n) := by
  obtain ⟨hl, h2⟩ := h
  refine ⟨by rw [ivs_length, Nat.mul_one], .inr ?_⟩
  rcases h2 with ⟨h1, _⟩ | ⟨g', cap', cur, h1, h3, h4, h5, h6, h7, h8⟩
  · cases h1
  · cases h1
    refine ⟨g, cap, cur.setIfInBounds j (.int .i64 x), rfl, h3, ?_, h5, h6, by simpa using h7, ?_⟩
    · simp [World.setCell, Array.getElem?_modify, h4]
    · apply List.ext_getElem?
      intro i
      have h9 : ∀ i : Nat, (cur.toList.take (n * 1))[i]? = (ivs f n)[i]? := fun i => by rw [h8]
      by_cases hi : i < n
      · rw [List.getElem?_take_of_lt (by omega), Array.getElem?_toList, Array.getElem?_setIfInBounds, ivs_get _ _ i hi]
        have h10 := h9 i
        rw [List.getElem?_take_of_lt (by omega), Array.getElem?_toList, ivs_get _ _ i hi] at h10
        by_cases e : j = i
        · subst e
          have : j < cur.size := (Array.getElem?_eq_some_iff.1 h10).1
          rw [if_pos rfl, if_pos this, upd_at]
        · rw [if_neg e, upd_ne _ _ (fun h => e h.symm)]; exact h10
      · rw [List.getElem?_eq_none (by simp; omega), List.getElem?_eq_none (by rw [ivs_length]; omega)]
theorem owns_cell1 {w : World} {B e g n cap : Nat} {f : Nat → Int} (h : w.ownsRow B e 1 (.slice (some ⟨g, 0, none⟩) n cap) n (ivs f n)) (j : Nat) (hj : j < n) : w.cell? ⟨g, j, none⟩ = some (.int .i64 (f j)) ∧ w.frozen? ⟨g, j, none⟩ = false := by
  refine ⟨(World.ownsRow.cellAt h j (by omega)).trans (ivs_get f n j hj), ?_⟩
  rcases h.2 with ⟨h1, _⟩ | ⟨g', cap', cur, h1, h3, h4, _⟩
  · cases h1
  · cases h1; simp [World.frozen?, h4]
theorem only_grown {g : Nat} {w w' : World} (h : Only (fun b => b = g) w w') : w.grownBy w' (some g) := ⟨h.os, h.tape, h.output, h.size, fun k hk hne => h.block k hk fun e => hne (by rw [e])⟩
/-- x put into m numbers at the place k. -/
def insF (L : Nat → Int) (x : Int) (k j : Nat) : Int := if j < k then L j else if j = k then x else L (j - 1)
theorem ins_top (L : Nat → Int) (x : Int) (m j : Nat) (h : j < m + 1) : upd m x L j = insF L x m j := by
  unfold upd insF
  by_cases e : j = m
  · subst e; rw [if_pos rfl, if_neg (by omega), if_pos rfl]
  · rw [if_neg e, if_pos (by omega)]
theorem ins_step (L : Nat → Int) (x : Int) (k j : Nat) : upd k x (upd (k + 1) (insF L x (k + 1) k) (insF L x (k + 1))) j = insF L x k j := by
  unfold upd insF
  by_cases e : j = k
  · subst e; rw [if_pos rfl, if_neg (by omega), if_pos rfl]
  · rw [if_neg e]
    by_cases e1 : j = k + 1
    · subst e1; rw [if_pos rfl, if_pos (by omega), if_neg (by omega), if_neg (by omega)]; rfl
    · rw [if_neg e1]
      by_cases g : j < k
      · rw [if_pos (by omega), if_pos g]
      · rw [if_neg (by omega), if_neg e1, if_neg g, if_neg e]
def IncF (L : Nat → Int) (m : Nat) : Prop := ∀ i j, i < j → j < m → L i < L j
theorem ins_inc {L : Nat → Int} {x : Int} {m k : Nat} (h : IncF L m) (hk : k ≤ m) (h1 : ∀ j, k ≤ j → j < m → x < L j) (h2 : ∀ j, j < k → L j < x) : IncF (insF L x k) (m + 1) := fun i j hij hj => by
  unfold insF
  by_cases a : i < k
  · rw [if_pos a]
    by_cases b : j < k
    · rw [if_pos b]; exact h i j hij (by omega)
    · rw [if_neg b]
      by_cases e : j = k
      · rw [if_pos e]; exact h2 i a
      · rw [if_neg e]
        have c1 := h2 i a
        have c2 := h1 (j - 1) (by omega) (by omega)
        omega
  · rw [if_neg a]
    by_cases e : i = k
    · rw [if_pos e, if_neg (by omega), if_neg (by omega)]
      exact h1 (j - 1) (by omega) (by omega)
    · rw [if_neg e, if_neg (by omega), if_neg (by omega)]
      exact h (i - 1) (j - 1) (by omega) (by omega)
theorem ins_mem {L : Nat → Int} {x : Int} {m k : Nat} (hk : k ≤ m) (y : Int) : (∃ j, j < m + 1 ∧ insF L x k j = y) ↔ (∃ j, j < m ∧ L j = y) ∨ x = y := by
  constructor
  · rintro ⟨j, hj, e⟩
    unfold insF at e
    by_cases a : j < k
    · rw [if_pos a] at e; exact .inl ⟨j, by omega, e⟩
    · rw [if_neg a] at e
      by_cases b : j = k
      · rw [if_pos b] at e; exact .inr e
      · rw [if_neg b] at e; exact .inl ⟨j - 1, by omega, e⟩
  · rintro (⟨j, hj, e⟩ | e)
    · by_cases a : j < k
      · exact ⟨j, by omega, by unfold insF; rw [if_pos a]; exact e⟩
      · exact ⟨j + 1, by omega, by unfold insF; rw [if_neg (by omega), if_neg (by omega), Nat.add_sub_cancel]; exact e⟩
    · exact ⟨k, by omega, by unfold insF; rw [if_neg (by omega), if_pos rfl]; exact e⟩
/-- The map tells which rows are in the list. -/
def Mtl (Dm : DataW Unit) (L : Nat → Int) (m : Nat) : Prop := ∀ y : Int, ((∃ j, j < m ∧ L j = y) → Dm.atKey (.int .i64 y) (.lit (.int .i64 0)) = .lit (.int .i64 1)) ∧ (¬ (∃ j, j < m ∧ L j = y) → Dm.atKey (.int .i64 y) (.lit (.int .i64 0)) = .lit (.int .i64 0))
theorem law3 : Keyed Try.prog 3 := int_keyed Try.underlying3
theorem zero3 (w : World) : (zeroValue 3).run Try.prog w = .ok (.int .i64 0) w := by kernel_rfl
theorem lit_inj {a b : Int} (h : (DataW.lit (.int .i64 a) : DataW Unit) = .lit (.int .i64 b)) : a = b := by cases h; rfl
theorem list_of {L : Nat → Int} {m : Nat} {D : Nat → Pt} {ln : Nat} (h : IncF L m) (hm : ∀ y, (∃ j, j < m ∧ L j = y) ↔ ∃ t, t < ln ∧ (D t).r = y) : (List.range m).map L = mts D ln := by
  refine inc_unique _ _ ?_ (mts_spec D ln).1 fun x => ?_
  · unfold Inc
    rw [List.pairwise_iff_getElem]
    intro i j hi hj hij
    simp at hi hj ⊢
    exact h i j hij hj
  · rw [(mts_spec D ln).2, ← hm]
    simp
set_option maxHeartbeats 4000000 in
set_option maxRecDepth 100000 in
theorem RefRows_any (D : Nat → Pt) (ln : Nat) (hln : ln ≤ 65536) (po : Option Addr) (pc : Nat) (B : Nat → Option Addr) (K : Nat → Nat) {Z : Nat → Prop} (w : World) (hp : Pts w Z po ln D B K) (hwf : ∀ i, i < ln → (Lit.int .i64 (D i).r).wf = true) :
    Calls Try.prog 36 #[.slice po ln pc] w fun e w' => ∃ ao cap, e = .returned (.tuple #[.slice ao (mts D ln).length cap, .int .i64 0]) ∧ RdI w' ao (mts D ln) ∧ Below w.heap.size w w' := by
  have HP : Hid (Pts w Z po ln D B K) := hp
  have HWF : Hid (∀ i, i < ln → (Lit.int .i64 (D i).r).wf = true) := hwf
  have hl2 : ¬ (65536 : Int) < (ln : Int) := by omega
  have hmm := @run_makeMap Try.prog
  obtain ⟨i0, hinf, hy0, hy1, hy2⟩ := info_parts info3
  obtain ⟨w0, hw0⟩ : ∃ w0, w0 = w.alloc (.map #[] 0) := ⟨_, rfl⟩
  have HB0 : Hid (Below w.heap.size w w0) := by rw [hw0]; exact below_alloc _ _
  have HM0 : Hid (w0.ownsMap Try.prog 3 (plainElem (H := Unit) Try.prog 3) w.heap.size 0 (.map [])) := by rw [hw0]; exact World.ownsMap_made _ _ _ _
  have z0 : w.heap.size + 1 ≤ w0.heap.size := by rw [hw0]; simp
  clear hp hwf
  go_enter Try.func36, Try.ntmps36
  go_wp2_with fail
  rw [← hw0]
  clear hw0
  go_loopw [5, 6, 7, 8] (fun u y _ _ wr => ∃ (i m : Nat) (L : Nat → Int) (ao : Option Addr) (cap : Nat), i ≤ ln ∧ m ≤ i ∧ y = .int .i64 i ∧ u = .slice ao m cap ∧ Hid (wr.ownsRow (w.heap.size + 1) 3 1 (.slice ao m cap) m (ivs L m)) ∧ Hid (IncF L m ∧ ∀ y, (∃ j, j < m ∧ L j = y) ↔ ∃ t, t < i ∧ (D t).r = y) ∧ Hid (∃ Dm, wr.ownsMap Try.prog 3 (plainElem (H := Unit) Try.prog 3) w.heap.size i Dm ∧ Mtl Dm L m) ∧ Hid (Below w.heap.size w wr) ∧ Hid (w.heap.size + 1 ≤ wr.heap.size)) (fun _ y _ _ _ => ln - (intOf y).toNat)
  case atStart => exact ⟨0, 0, fun _ => 0, none, 0, Nat.zero_le _, Nat.le_refl _, rfl, rfl, World.ownsRow_nil _ _ _ _, ⟨fun i j _ h => absurd h (Nat.not_lt_zero j), fun y => ⟨fun ⟨j, h, _⟩ => absurd h (Nat.not_lt_zero j), fun ⟨j, h, _⟩ => absurd h (Nat.not_lt_zero j)⟩⟩, ⟨_, HM0.out, fun y => ⟨fun ⟨j, h, _⟩ => absurd h (Nat.not_lt_zero j), fun _ => rfl⟩⟩, HB0.out, z0⟩
  case round =>
    obtain ⟨i, m, L, ao, cap, hi, hmi, rfl, rfl, ho, hL, hD, hb, hz⟩ := hrel
    by_cases hlt : i < ln
    · obtain ⟨b, off, rfl, hc⟩ := (HP.out.below hb.out).at_ (by omega)
      obtain ⟨_, k1, _, _⟩ := hc i hlt
      have hbb : b < w.heap.size := by
        obtain ⟨b', off', e', hc'⟩ := HP.out.at_ (by omega)
        cases e'
        exact World.block_lt_of_cell? w _ (hc' i hlt).1
      obtain ⟨x, hx⟩ : ∃ x, x = (D i).r := ⟨_, rfl⟩
      have HX : Hid (x = (D i).r) := hx
      have hwx := HWF.out i hlt
      rw [← hx] at k1 hwx
      have hkey : keyOf Try.prog 3 (.int .i64 x) = some (.int .i64 x) := keyOf_int_mk Try.underlying3 hwx
      have i1 : (0 : Int) ≤ (i : Int) := by omega
      have i2 : (i : Int) < (ln : Int) := by omega
      obtain ⟨Dm, hown, hmt⟩ := hD.out
      have HOW : Hid (wr.ownsMap Try.prog 3 (plainElem (H := Unit) Try.prog 3) w.heap.size i Dm) := hown
      have HMT : Hid (Mtl Dm L m) := hmt
      clear hc hx hown hmt hD
      by_cases hin : ∃ j, j < m ∧ L j = x
      · have HIN : Hid (∃ j, j < m ∧ L j = x) := hin
        clear hin
        go_wp2_with ((at_lookup; refine wpList_lookup_own_int _ rfl _ _ 84 rfl 3 3 .i64 law3 Try.underlying84 Try.underlying3 (zero3 _) w.heap.size i _ rfl HOW.out _ _ rfl hkey ?_; intro c hat hwc; obtain rfl : c = 1 := (by rw [(HMT.out x).1 HIN.out] at hat; exact (lit_inj hat).symm); clear hat hwc))
        go_roundw
        case rel =>
          refine ⟨i + 1, m, L, ao, cap, by omega, by omega, by go_num, rfl, ho.out, ⟨hL.out.1, fun y => (hL.out.2 y).trans ?_⟩, ⟨Dm, HOW.out.mono (by omega), HMT.out⟩, hb.out, hz.out⟩
          constructor
          · rintro ⟨t, ht, e⟩; exact ⟨t, by omega, e⟩
          · rintro ⟨t, ht, e⟩
            rcases Nat.lt_succ_iff_lt_or_eq.1 ht with g | rfl
            · exact ⟨t, g, e⟩
            · rw [← HX.out] at e
              subst e
              exact (hL.out.2 x).1 HIN.out
        case measure => simp [intOf]; omega
      · have HIN : Hid (¬ ∃ j, j < m ∧ L j = x) := hin
        clear hin
        have k1a := fun (v : World) (h : Below w.heap.size w v) => (show v.cell? ⟨b, off + i * 4 + 1, none⟩ = some (.int .i64 x) by obtain ⟨b', off', e', hc'⟩ := (HP.out.below h).at_ (by omega); cases e'; have := (hc' i hlt).2.1; rw [← HX.out] at this; exact this)
        have HK : Hid (∀ (v : World), Below w.heap.size w v → v.cell? ⟨b, off + i * 4 + 1, none⟩ = some (.int .i64 x)) := k1a
        clear k1a
        obtain ⟨XS, hXS⟩ : ∃ XS, XS = ivs L m := ⟨_, rfl⟩
        have HXS : Hid (XS = ivs L m) := hXS
        clear hXS
        go_wp2_with (first
          | (at_lookup; refine wpList_lookup_own_int _ rfl _ _ 84 rfl 3 3 .i64 law3 Try.underlying84 Try.underlying3 (zero3 _) w.heap.size i _ rfl HOW.out _ _ rfl hkey ?_; intro c hat hwc; obtain rfl : c = 0 := (by rw [(HMT.out x).2 HIN.out] at hat; exact (lit_inj hat).symm); clear hat hwc)
          | (at_mapUpdate; refine wpList_mapUpdate_own _ rfl _ _ _ 84 rfl 3 3 law3 Try.underlying84 _ w.heap.size i _ rfl HOW.out (by unfold maxLen; omega) _ _ _ rfl rfl hkey _ [] (plainElem_int Try.underlying3 (by decide)) ?_; intro w1 hown1 hgrow1; have HO1 : Hid (w1.ownsMap Try.prog 3 (plainElem (H := Unit) Try.prog 3) w.heap.size (i + 1) (Dm.put (.int .i64 x) (.lit (.int .i64 1)))) := hown1; have HB1 : Hid (Below w.heap.size w w1) := hb.out.grown hgrow1 hb.out.size (fun j hj => by cases hj; exact Nat.le_refl _); have HR1 : Hid (∀ o, (w1.alloc o).ownsRow (w.heap.size + 1) 3 1 (.slice ao m cap) m XS) := fun o => (by rw [HXS.out]; exact World.ownsRow.alloc (owns_stay ho.out fun g hg hl => hgrow1.block g hl fun e => by cases e; omega) o); have hz1 : w.heap.size + 1 ≤ w1.heap.size := Nat.le_trans hz.out hgrow1.size; have k1 := HK.out w1 HB1.out; clear hown1 hgrow1)
          | (at_builtin; refine wpList_append_lies _ (by rfl) (.tmp 33) (.tmp 39) 36 (by rfl) (w.heap.size + 1) 3 i0 (.int .i64 0) 1 8 Try.underlying36 hinf hy0 hy1 hy2 (by rfl) (by decide) (.slice ao m cap) m XS (by rfl) (HR1.out _) ⟨w1.heap.size, 0, none⟩ 1 1 [.int .i64 x] (by rfl) (by rfl) (World.news_of_block (heap_alloc_new w1 _)) (by simp [Value.oneCell']) (by decide) (by unfold maxLen; omega) (by omega) (by simp; omega) (w1.heap.size + 1) (by simp) ?_; intro g cap2 w2 hown2 hgrow2 _ hg2; have HO2 : Hid (w2.ownsRow (w.heap.size + 1) 3 1 (.slice (some ⟨g, 0, none⟩) (m + 1) cap2) (m + 1) (ivs (insF L x m) (m + 1))) := (by rw [HXS.out, ivs_snoc, ivs_congr (ins_top L x m)] at hown2; exact hown2); have hgV : w.heap.size + 1 ≤ g := (HO2.out.lt g rfl).1; have HM2 : Hid (w2.ownsMap Try.prog 3 (plainElem (H := Unit) Try.prog 3) w.heap.size (i + 1) (Dm.put (.int .i64 x) (.lit (.int .i64 1)))) := (HO1.out.alloc _).kept hgrow2 (fun e => by have := ((HR1.out (.cells #[] 3)).lt w.heap.size e.symm).1; omega); have HB2 : Hid (Below w.heap.size w w2) := (HB1.out.alloc HB1.out.size _).grown hgrow2 (by simp; omega) (fun r hr => by have := ((HR1.out (.cells #[] 3)).lt r hr).1; omega); have hz2 : w.heap.size + 1 ≤ w2.heap.size := Nat.le_trans (Nat.le_trans hz1 (by simp)) hgrow2.size; clear hown2 hgrow2))
        go_loopw [7, 8] (fun y _ wr => ∃ k : Nat, k ≤ m ∧ y = .int .i64 k ∧ Hid (wr.ownsRow (w.heap.size + 1) 3 1 (.slice (some ⟨g, 0, none⟩) (m + 1) cap2) (m + 1) (ivs (insF L x k) (m + 1))) ∧ Hid (∀ j, k ≤ j → j < m → x < L j) ∧ Hid (Only (fun b => b = g) w2 wr)) (fun y _ _ => (intOf y).toNat)
        case atStart => exact ⟨m, Nat.le_refl _, by go_num, HO2.out, fun j h1 h2 => by omega, Only.refl _ _⟩
        case round =>
          obtain ⟨k, hk, rfl, hk1, hk2, hk3⟩ := hrel
          have HEND : Hid ((∀ j, j < k → L j < x) → ∀ q, ∃ (m' : Nat) (L' : Nat → Int) (ao' : Option Addr) (cap' : Nat), m' ≤ i + 1 ∧ Value.slice (some ⟨g, 0, none⟩) (m + 1) cap2 = .slice ao' m' cap' ∧ Hid ((wr.drewN q).ownsRow (w.heap.size + 1) 3 1 (.slice ao' m' cap') m' (ivs L' m')) ∧ Hid (IncF L' m' ∧ ∀ y, (∃ j, j < m' ∧ L' j = y) ↔ ∃ t, t < i + 1 ∧ (D t).r = y) ∧ Hid (∃ Dm, (wr.drewN q).ownsMap Try.prog 3 (plainElem (H := Unit) Try.prog 3) w.heap.size (i + 1) Dm ∧ Mtl Dm L' m') ∧ Hid (Below w.heap.size w (wr.drewN q)) ∧ Hid (w.heap.size + 1 ≤ (wr.drewN q).heap.size)) := fun hlow q => by
            have hkq : Only (fun b => b = g) w2 (wr.drewN q) := hk3.out.then (below_q rfl)
            refine ⟨m + 1, insF L x k, some ⟨g, 0, none⟩, cap2, by omega, rfl, hk1.out, ⟨ins_inc hL.out.1 hk hk2.out hlow, fun y => (ins_mem hk y).trans ?_⟩, ⟨_, HM2.out.kept (only_grown hkq) (fun e => by have := Option.some.inj e; omega), fun y => ⟨fun h => ?_, fun h => ?_⟩⟩, HB2.out.trans (hkq.below (fun b h => by omega) HB2.out.size), Nat.le_trans hz2 hkq.size⟩
            · rw [hL.out.2 y]
              constructor
              · rintro (⟨t, ht, e⟩ | e)
                · exact ⟨t, by omega, e⟩
                · exact ⟨i, by omega, by rw [← HX.out]; exact e⟩
              · rintro ⟨t, ht, e⟩
                rcases Nat.lt_succ_iff_lt_or_eq.1 ht with g | rfl
                · exact .inl ⟨t, g, e⟩
                · exact .inr (by rw [HX.out]; exact e)
            · by_cases e : y = x
              · subst e; exact atKey_put_same (k := .int .i64 y) HOW.out.isMap (show WideAt.IsKeyLit (.int .i64 y) from trivial) _ _
              · rw [atKey_put_other (fun h => e (by cases h; rfl))]
                rcases (ins_mem hk y).1 h with g | g
                · exact (HMT.out y).1 g
                · exact absurd g.symm e
            · have e : y ≠ x := fun e => h ((ins_mem hk y).2 (.inr e.symm))
              rw [atKey_put_other (fun h => e (by cases h; rfl))]
              exact (HMT.out y).2 fun g => h ((ins_mem hk y).2 (.inl g))
          have hbk : k ≤ 65536 := by omega
          by_cases hk0 : k = 0
          · subst hk0
            have e0 : ¬ (0 : Int) < ((0 : Nat) : Int) := by omega
            go_wp2_with fail
            go_quiet (fail)
            go_wp2
            go_roundw
            case rel =>
              obtain ⟨m', L', ao', cap', r1, r2, r3, r4, r5, r6, r7⟩ := HEND.out (fun j hj => absurd hj (Nat.not_lt_zero j)) nq
              exact ⟨i + 1, m', L', ao', cap', by omega, r1, by go_num, r2, r3, r4, r5, r6, r7⟩
            case measure => simp [intOf]; omega
          · obtain ⟨k', rfl⟩ : ∃ k', k = k' + 1 := ⟨k - 1, by omega⟩
            have e0 : (0 : Int) < ((k' + 1 : Nat) : Int) := by omega
            obtain ⟨c1, f1⟩ := owns_cell1 hk1.out (k' + 1) (by omega)
            obtain ⟨c2, f2⟩ := owns_cell1 hk1.out k' (by omega)
            rw [show insF L x (k' + 1) (k' + 1) = x by unfold insF; rw [if_neg (by omega), if_pos rfl]] at c1
            rw [show insF L x (k' + 1) k' = L k' by unfold insF; rw [if_pos (by omega)]] at c2
            have q1 : (0 : Int) ≤ (k' : Int) + 1 := by omega
            have q2 : (k' : Int) + 1 < (m : Int) + 1 := by omega
            have q3 : IntKind.i64.wrap ((k' : Int) + 1 - 1) = (k' : Int) := by rw [IntKind.wrap_i64]; omega
            have q4 : (k' : Int) + 1 - 1 = (k' : Int) := by omega
            have q5 : (k' : Int) < (m : Int) + 1 := by omega
            have q6 : (0 : Int) ≤ (k' : Int) := by omega
            have q7 : (0 : Int) < (k' : Int) + 1 := by omega
            by_cases hxl : x < L k'
            · have HXL : Hid (x < L k') := hxl
              go_wp2_with fail
              go_quiet (fail)
              obtain ⟨wy, hwy⟩ : ∃ wy, wy = wr.drewN nq := ⟨_, rfl⟩
              rw [← hwy]
              have d1 : wy.cell? ⟨g, k' + 1, none⟩ = some (.int .i64 x) := by rw [hwy]; exact c1
              have d2 : wy.cell? ⟨g, k', none⟩ = some (.int .i64 (L k')) := by rw [hwy]; exact c2
              have d3 : wy.frozen? ⟨g, k' + 1, none⟩ = false := by rw [hwy]; exact f1
              have d4 : wy.frozen? ⟨g, k', none⟩ = false := by rw [hwy]; exact f2
              have HOY : Hid (wy.ownsRow (w.heap.size + 1) 3 1 (.slice (some ⟨g, 0, none⟩) (m + 1) cap2) (m + 1) (ivs (insF L x (k' + 1)) (m + 1))) := by rw [hwy]; exact hk1.out
              have HYO : Hid (Only (fun b => b = g) w2 wy) := by rw [hwy]; exact hk3.out.then (below_q rfl)
              clear hwy c1 c2 f1 f2
              go_wp2_with fail
              go_roundw
              case rel =>
                refine ⟨k', by omega, by go_num, ?_, fun j h1 h2 => ?_, (HYO.out.setCell (p := ⟨g, k' + 1, none⟩) rfl _).setCell (p := ⟨g, k', none⟩) rfl _⟩
                · have h := owns_set1 (owns_set1 HOY.out (k' + 1) (L k')) k' x
                  rw [ivs_congr (g := insF L x k') (fun j _ => by rw [← ins_step L x k' j, show insF L x (k' + 1) k' = L k' by unfold insF; rw [if_pos (by omega)]])] at h
                  exact h
                · by_cases e : j = k'
                  · subst e; exact HXL.out
                  · exact hk2.out j (by omega) h2
              case measure => simp [intOf]
            · have HLOW : Hid (∀ j, j < k' + 1 → L j < x) := fun j hj => by
                have e1 : L k' ≠ x := fun e => HIN.out ⟨k', by omega, e⟩
                by_cases e : j = k'
                · subst e; omega
                · have := hL.out.1 j k' (by omega) (by omega); omega
              go_wp2_with fail
              go_quiet (fail)
              go_wp2
              go_roundw
              case rel =>
                obtain ⟨m', L', ao', cap', r1, r2, r3, r4, r5, r6, r7⟩ := HEND.out HLOW.out nq
                exact ⟨i + 1, m', L', ao', cap', by omega, r1, by go_num, r2, r3, r4, r5, r6, r7⟩
              case measure => simp [intOf]; omega
    · obtain rfl : i = ln := by omega
      have HLI : Hid ((List.range m).map L = mts D i) := list_of hL.out.1 hL.out.2
      go_wp2_with fail
      go_ret2
      rw [← HLI.out]
      refine ⟨ao, cap, by simp, fun hne => ?_, hb.out⟩
      have hm0 : 0 < m := Nat.pos_of_ne_zero fun e => hne (by rw [e]; rfl)
      obtain ⟨g, rfl⟩ : ∃ g, ao = some ⟨g, 0, none⟩ := by
        rcases ho.out.2 with ⟨h1, h0⟩ | ⟨g, _, _, h1, _⟩
        · omega
        · cases h1; exact ⟨g, rfl⟩
      refine ⟨g, 0, rfl, fun j hj => ?_⟩
      have hj2 : j < m := by simpa using hj
      rw [Nat.zero_add, (owns_cell1 ho.out j hj2).1]
      simp
set_option maxHeartbeats 1000000 in
set_option maxRecDepth 100000 in
theorem SameInts_any (L : List Int) (ao bo : Option Addr) (c1 c2 : Nat) (hn : L.length ≤ 1000000) (w : World) (h1 : RdI w ao L) (h2 : RdI w bo L) :
    Calls Try.prog 37 #[.slice ao L.length c1, .slice bo L.length c2] w fun e w' => e = .returned (.bool true) ∧ Below w.heap.size w w' := by
  have HT1 : Hid (RdI w ao L) := h1
  have HT2 : Hid (RdI w bo L) := h2
  obtain ⟨n, hln⟩ : ∃ n, n = L.length := ⟨_, rfl⟩
  have HLN : Hid (n = L.length) := hln
  rw [← hln] at hn ⊢
  have e6 : ((n : Int) != (n : Int)) = false := by simp
  clear h1 h2 hln
  go_enter Try.func37, Try.ntmps37
  go_wp2_with fail
  go_loopw [5] (fun y wr => ∃ i : Nat, i ≤ n ∧ y = .int .i64 i ∧ Hid (∃ q, wr = w.drewN q)) (fun y _ => n - (intOf y).toNat)
  case atStart => exact ⟨0, Nat.zero_le _, rfl, 0, rfl⟩
  case round =>
    obtain ⟨i, hi, rfl, hq⟩ := hrel
    by_cases hlt : i < n
    · have hdr : ∀ a, wr.cell? a = w.cell? a := by obtain ⟨q, rfl⟩ := hq.out; exact fun _ => rfl
      have hiL : i < L.length := by rw [← HLN.out]; exact hlt
      obtain ⟨b1, o1, rfl, hc1⟩ := HT1.out (fun e => by rw [e] at hiL; simp at hiL)
      obtain ⟨b2, o2, rfl, hc2⟩ := HT2.out (fun e => by rw [e] at hiL; simp at hiL)
      have d1 : wr.cell? ⟨b1, o1 + i, none⟩ = some (.int .i64 L[i]) := by rw [hdr]; exact hc1 i hiL
      have d2 : wr.cell? ⟨b2, o2 + i, none⟩ = some (.int .i64 L[i]) := by rw [hdr]; exact hc2 i hiL
      generalize L[i] = lv at d1 d2
      have ev : (lv != lv) = false := by simp
      have i1 : (0 : Int) ≤ (i : Int) := by omega
      have i2 : (i : Int) < (n : Int) := by omega
      clear hdr hc1 hc2 hiL
      go_wp2_with fail
      go_quiet (fail)
      go_wp2
      go_roundw
      case rel =>
        obtain ⟨q, hq2⟩ := hq.out
        exact ⟨i + 1, by omega, by go_num, q + nq, by rw [hq2]; simp [World.drewN, Nat.add_assoc]⟩
      case measure => simp [intOf]; omega
    · obtain rfl : i = n := by omega
      go_wp2
      go_ret
      obtain ⟨q, rfl⟩ := hq.out
      exact ⟨rfl, below_q rfl⟩
set_option maxHeartbeats 2000000 in
set_option maxRecDepth 100000 in
theorem Meets_any (po : Option Addr) (ln pc : Nat) (D : Nat → Pt) (B : Nat → Option Addr) (K : Nat → Nat) {Z : Nat → Prop} (w : World) (hp : Pts w Z po ln D B K) (hwf : ∀ i, i < ln → (Lit.int .i64 (D i).r).wf = true) :
    Calls Try.prog 6 #[.slice po ln pc] w fun e w' => e = .returned (.bool true) ∧ Below w.heap.size w w' := by
  have HAL := alive_any w
  have HP : Hid (Pts w Z po ln D B K) := hp
  have HWF : Hid (∀ i, i < ln → (Lit.int .i64 (D i).r).wf = true) := hwf
  clear hp hwf
  by_cases hl : 2000 < ln
  · have hl2 : (2000 : Int) < (ln : Int) := by omega
    go_enter Try.func6, Try.ntmps6
    go_wp2_with fail
    refine HAL.mono ?_
    rintro e w1 ⟨rfl, h1⟩
    go_wp2_with fail
    go_ret
    exact ⟨rfl, h1⟩
  · have hl2 : ¬ (2000 : Int) < (ln : Int) := by omega
    have HML : Hid _ := mts_le D ln
    go_enter Try.func6, Try.ntmps6
    go_wp2_with fail
    refine HAL.mono ?_
    rintro e w1 ⟨rfl, h1⟩
    go_wp2_with fail
    refine (Rows_img (x := 0) (L := mts D ln) (.inl ⟨by omega, rfl, rfl⟩) po pc B K w1 (HP.out.below h1)).mono ?_
    rintro e w2 ⟨a1, c1, rfl, hr1, h2⟩
    have HR1 : Hid (RdI w2 a1 (mts D ln)) := hr1
    clear hr1
    go_wp2_with fail
    refine (RefRows_any D ln (by omega) po pc B K w2 (HP.out.below (below_then h1 h2)) HWF.out).mono ?_
    rintro e w3 ⟨a2, c2, rfl, hr2, h3⟩
    have HS := SameInts_any (mts D ln) a1 a2 c1 c2 (by have := HML.out; omega) w3 (HR1.out.below h3) hr2
    obtain ⟨q, hq⟩ : ∃ q, q = (mts D ln).length := ⟨_, rfl⟩
    rw [← hq] at HS ⊢
    clear hr2 hq
    go_wp2_with (go_at_call 37; refine HS.mono ?_; rintro e w4 ⟨rfl, h4⟩)
    go_ret
    exact ⟨rfl, below_then h1 (below_then h2 (below_then h3 h4))⟩
end Go.Proofs.Ytenlfhdchflnjaa
