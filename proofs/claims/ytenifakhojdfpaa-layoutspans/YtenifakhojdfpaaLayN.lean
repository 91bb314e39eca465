/- The parts of a range, byte by byte, as the document keeps them. -/
import Derived.Test.YtenifakhojdfpaaLayM
namespace Go.Proofs.Ytenifakhojdfpaa
open Go.RowKit

theorem sp_new {o b c n k : Nat} (hc : 0 < c) (h : End o b c n) (hn : b = o ∨ b % c = 0) :
    spOf (stp o c k) (cel o c k) (frm o c) (til o (b + 1) c) (n + 1) = spOf (stp o c k) (cel o c k) (frm o c) (til o b c) n ++ [.int .i64 ((b / c / k : Nat) : Int), .int .i64 ((b / c % k : Nat) : Int), .int .i64 ((b % c : Nat) : Int), .int .i64 ((b % c + 1 : Nat) : Int)] := by
  have h1 := (end_new hc h hn).2
  rw [spOf, spOf_congr (T' := til o b c) (fun i hi => by have := til_less (o := o) (b := b) (c := c) (i := i) (by omega); rw [this.1, this.2]), til_last hc h1, frm_new h hn]
  unfold stp cel
  rw [h1]
theorem sp_same {o b c n k : Nat} (hc : 0 < c) (h : End o b c (n + 1)) (hn : b ≠ o) (h0 : b % c ≠ 0) :
    spOf (stp o c k) (cel o c k) (frm o c) (til o (b + 1) c) (n + 1) = spOf (stp o c k) (cel o c k) (frm o c) (til o b c) n ++ [.int .i64 (stp o c k n : Int), .int .i64 (cel o c k n : Int), .int .i64 (frm o c n : Int), .int .i64 ((b % c + 1 : Nat) : Int)] := by
  have h1 := (end_same hc h hn h0).2.2
  rw [Nat.add_sub_cancel] at h1
  rw [spOf, spOf_congr (T' := til o b c) (fun i hi => by have := til_less (o := o) (b := b) (c := c) (i := i) (by omega); rw [this.1, this.2]), til_last hc h1]
/-- The last cell of a row of its own is written. -/
theorem owns_last {w : World} {B e g n cap : Nat} {xs : List Value} {x0 x1 x2 x3 : Value} (h : w.ownsRow B e 4 (.slice (some ⟨g, 0, none⟩) (n + 1) cap) (n + 1) (xs ++ [x0, x1, x2, x3])) (v : Value) :
    (w.setCell ⟨g, n * 4 + 3, none⟩ v).ownsRow B e 4 (.slice (some ⟨g, 0, none⟩) (n + 1) cap) (n + 1) (xs ++ [x0, x1, x2, v]) := by
  obtain ⟨hl, h2⟩ := h
  have hxl : xs.length = n * 4 := by rw [List.length_append] at hl; simp at hl; omega
  refine ⟨by rw [List.length_append] at hl ⊢; simpa using hl, .inr ?_⟩
  rcases h2 with ⟨h1, _⟩ | ⟨g', cap', cur, h1, h3, h4, h5, h6, h7, h8⟩
  · cases h1
  · cases h1
    refine ⟨g, cap, cur.setIfInBounds (n * 4 + 3) v, rfl, h3, ?_, h5, h6, by simpa using h7, ?_⟩
    · simp [World.setCell, Array.getElem?_modify, h4]
    · apply List.ext_getElem?
      intro i
      have h9 : ∀ i : Nat, (cur.toList.take ((n + 1) * 4))[i]? = (xs ++ [x0, x1, x2, x3])[i]? := fun i => by rw [h8]
      by_cases hi : i < (n + 1) * 4
      · rw [List.getElem?_take_of_lt hi, Array.getElem?_toList, Array.getElem?_setIfInBounds]
        have h10 := h9 i
        rw [List.getElem?_take_of_lt hi, Array.getElem?_toList] at h10
        by_cases he : n * 4 + 3 = i
        · subst he
          rw [if_pos rfl, if_pos (by omega), List.getElem?_append_right (by omega), hxl, show n * 4 + 3 - n * 4 = 3 by omega]; rfl
        · rw [if_neg he, h10]
          by_cases h11 : i < n * 4
          · rw [List.getElem?_append_left (by omega), List.getElem?_append_left (by omega)]
          · rw [List.getElem?_append_right (by omega), List.getElem?_append_right (by omega), hxl]
            obtain ⟨j, hj⟩ : ∃ j, i = n * 4 + j := ⟨i - n * 4, by omega⟩
            subst hj
            rw [show n * 4 + j - n * 4 = j by omega]
            have : j = 0 ∨ j = 1 ∨ j = 2 := by omega
            rcases this with rfl | rfl | rfl <;> rfl
      · rw [List.getElem?_eq_none (by simp; omega), List.getElem?_eq_none (by simp; omega)]
theorem owns_free {w : World} {B e size g n m cap : Nat} {xs : List Value} (h : w.ownsRow B e size (.slice (some ⟨g, 0, none⟩) n cap) m xs) (i : Nat) : w.frozen? ⟨g, i, none⟩ = false := by
  rcases h.2 with ⟨h1, _⟩ | ⟨g', cap', cur, h1, _, h4, _⟩
  · cases h1
  · cases h1
    unfold World.frozen?
    rw [h4]
    simp
set_option maxHeartbeats 2000000 in
set_option maxRecDepth 100000 in
theorem rspans_good {k r c q : Nat} {N W : Nat} (h : Par (k : Int) (r : Int) (c : Int) (q : Int) N W 0) (o nn : Nat) (w : World) (hon : o + nn ≤ mst W) (hk : 1 ≤ k) (hk2 : k ≤ 12) (hc1 : 8 ≤ c) (hc2 : c ≤ 64) (hm : may k r c q = true) :
    Calls Try.prog 30 #[.agg #[.int .i64 (k : Int), .int .i64 (r : Int), .int .i64 (c : Int), .int .i64 (q : Int)], .int .i64 (o : Int), .int .i64 (nn : Int)] w fun e' w' => ∃ n ao cap, e' = .returned (.tuple #[.slice ao n cap, .int .i64 0]) ∧ End o (o + nn) c n ∧ w'.ownsRow w.heap.size 36 4 (.slice ao n cap) n (spOf (stp o c k) (cel o c k) (frm o c) (til o (o + nn) c) n) ∧ Below w.heap.size w w' := by
  have HM := fun w => May_any k r c q w
  obtain ⟨g1, g2, g3, _, hkc⟩ := h.good hm
  have HMM := fun w => M_good k r c q w W g1 g2 g3
  have gm := mst_le W
  rw [hm] at HM
  clear h hm g1 hkc
  generalize mst W = z at *
  obtain ⟨i0, hi0, hz0, hz1, hz2⟩ := info_parts info36
  obtain ⟨w0, hw0⟩ : ∃ w0, w0 = w.alloc (.cells #[.int .i64 (k : Int), .int .i64 (r : Int), .int .i64 (c : Int), .int .i64 (q : Int)] 23) := ⟨_, rfl⟩
  have b0 : Below w.heap.size w w0 := by rw [hw0]; exact below_alloc _ _
  go_enter Try.func30, Try.ntmps30
  go_wp2_with fail
  rw [← hw0]
  refine (HM _).mono ?_
  rintro e wa ⟨rfl, ha⟩
  obtain ⟨s0, s1, s2, s3⟩ := par_held hw0 ha
  go_wp2_with fail
  refine (HMM _).mono ?_
  rintro e x0 ⟨rfl, y0⟩
  have z0 := below_then ha y0
  clear s0 s1 s2 s3
  obtain ⟨s0, s1, s2, s3⟩ := par_held hw0 z0
  go_wp2_with fail
  refine (HMM _).mono ?_
  rintro e x1 ⟨rfl, y1⟩
  have z1 := below_then z0 y1
  clear s0 s1 s2 s3
  obtain ⟨s0, s1, s2, s3⟩ := par_held hw0 z1
  go_wp2_with fail
  refine (HMM _).mono ?_
  rintro e x2 ⟨rfl, y2⟩
  have z2 := below_then z1 y2
  clear s0 s1 s2 s3
  obtain ⟨s0, s1, s2, s3⟩ := par_held hw0 z2
  have HB := below_then b0 z2
  clear hw0 b0 z0 z1 y0 y1 y2 ha z2 HM HMM
  have hx2 := HB.size
  have S0 : Hid (x2.cell? ⟨w.heap.size, 0, none⟩ = some (.int .i64 (k : Int))) := s0
  have S2 : Hid (x2.cell? ⟨w.heap.size, 2, none⟩ = some (.int .i64 (c : Int))) := s2
  have HBX : Hid (Below w.heap.size w x2) := HB
  clear HB s0 s1 s2 s3
  go_wp2_with fail
  simp only [decide_eq_false (show ¬ z < o by omega), decide_eq_false (show ¬ z < nn by omega), decide_eq_false (show ¬ (z : Int) < (o : Int) + (nn : Int) by omega), decide_eq_false (show ¬ (o : Int) < 0 by omega), decide_eq_false (show ¬ (nn : Int) < 0 by omega), Bool.or_false]
  go_loopw [8, 9] (fun v x wr => ∃ b n : Nat, o ≤ b ∧ b ≤ o + nn ∧ x = .int .i64 (b : Int) ∧ (∃ ao cap, v = .slice ao n cap) ∧ Hid (End o b c n) ∧ Hid (wr.ownsRow x2.heap.size 36 4 v n (spOf (stp o c k) (cel o c k) (frm o c) (til o b c) n)) ∧ Hid (Below x2.heap.size x2 wr)) (fun _ x _ => o + nn - (intOf x).toNat)
  case atStart => exact ⟨o, 0, Nat.le_refl _, by omega, rfl, ⟨none, 0, rfl⟩, .inl ⟨rfl, rfl⟩, World.ownsRow_nil _ _ _ _, Below.refl _ _⟩
  case round =>
    obtain ⟨b, n, hob, hbe, rfl, ⟨ao, cap, rfl⟩, hE, hown, hbel⟩ := hrel
    by_cases hlt : b < o + nn
    · have t0 := held S0.out hbel.out
      have t2 := held S2.out hbel.out
      have hws := hbel.out.size
      have hnb := end_le (by omega) hE.out
      obtain ⟨qv, hqv⟩ : ∃ u, u = b / c := ⟨_, rfl⟩
      obtain ⟨av, hav⟩ : ∃ u, u = b % c := ⟨_, rfl⟩
      obtain ⟨sv, hsv⟩ : ∃ u, u = qv / k := ⟨_, rfl⟩
      obtain ⟨cv, hcv⟩ : ∃ u, u = qv % k := ⟨_, rfl⟩
      have d1 : (b : Int) / (c : Int) = (qv : Int) := by rw [hqv]; rfl
      have d2 : (b : Int).tmod (c : Int) = (av : Int) := by rw [hav]; rfl
      have d3 : (b : Int) % (c : Int) = (av : Int) := by rw [hav]; rfl
      have l1 : av < c := by rw [hav]; exact Nat.mod_lt _ (by omega)
      have l2 : cv < k := by rw [hcv]; exact Nat.mod_lt _ (by omega)
      have l3 : qv ≤ b := by rw [hqv]; exact Nat.div_le_self _ _
      have l4 : sv ≤ qv := by rw [hsv]; exact Nat.div_le_self _ _
      have e1 : IntKind.i64.wrap ((qv : Int) / (k : Int)) = (sv : Int) := by rw [show (qv : Int) / (k : Int) = ((qv / k : Nat) : Int) from rfl, ← hsv, IntKind.wrap_i64]; omega
      have e2 : (qv : Int).tmod (k : Int) = (cv : Int) := by rw [show (qv : Int).tmod (k : Int) = ((qv % k : Nat) : Int) from rfl, ← hcv]
      have y1 : ¬ (c : Int) = 0 := by omega
      have y2 : ¬ (k : Int) = 0 := by omega
      have HQ : Hid (qv = b / c) := hqv
      have HA : Hid (av = b % c) := hav
      have HSV : Hid (sv = qv / k) := hsv
      have HCV : Hid (cv = qv % k) := hcv
      clear hqv hav hsv hcv
      have y3 : ¬ c = 0 := by omega
      have y4 : ¬ k = 0 := by omega
      by_cases hbo : b = o
      · obtain ⟨XS, hXS⟩ : ∃ X, X = spOf (stp o c k) (cel o c k) (frm o c) (til o b c) n := ⟨_, rfl⟩
        have HO : Hid (wr.ownsRow x2.heap.size 36 4 (.slice ao n cap) n XS) := by rw [hXS]; exact hown.out
        have HXS : Hid (spOf (stp o c k) (cel o c k) (frm o c) (til o b c) n = XS) := hXS.symm
        clear hXS hown
        subst hbo
        have HE2 : Hid (End b (b + 1) c (n + 1)) := (end_new (by omega) hE.out (.inl rfl)).1
        have HL : Hid (XS.length = n * 4) := by show _ = _; rw [← HXS.out, spOf_length]
        have HFIN : Hid (spOf (stp b c k) (cel b c k) (frm b c) (til b (b + 1) c) (n + 1) = XS ++ [.int .i64 (sv : Int), .int .i64 (cv : Int), .int .i64 (av : Int), .int .i64 ((av : Int) + 1)]) := by
          show _ = _
          rw [sp_new (by omega) hE.out (.inl rfl), HXS.out, HSV.out, HCV.out, HQ.out]
          rw [HA.out]; rfl
        clear hE
        go_wp2
        go_region_held3 (fun w' => w'.cell? ⟨w.heap.size, 0, none⟩ = some (.int .i64 (k : Int))) (go_keep)
          ((refine Go.step_append_lies _ (by rfl) (.tmp 66) (.tmp 77) 32 (by rfl) x2.heap.size 36 i0 (.agg #[.int .i64 0, .int .i64 0, .int .i64 0, .int .i64 0]) 4 32 Try.underlying32 hi0 hz0 hz1 hz2 (by rfl) (by decide) (.slice ao n cap) n XS (by simp [Act.eval]) (owns_drew (HO.out.alloc _)) ⟨wr.heap.size, 0, none⟩ 1 1 [.int .i64 (sv : Int), .int .i64 (cv : Int), .int .i64 (av : Int), .int .i64 0] (by simp [Act.eval]) (by rfl) (news_drew wr #[.int .i64 (sv : Int), .int .i64 (cv : Int), .int .i64 (av : Int), .int .i64 0] 36) (by simp [Value.oneCell']) (by decide) (by unfold maxLen; omega) (by omega) (by show _ ≤ (wr.alloc _).heap.size; simp; omega) (wr.heap.size + 1) (by show (wr.alloc _).heap.size = _; simp) ?_; intro g2 cap2 w2 hown2 hgrow2 _ _; have HB2 : Hid (Below x2.heap.size x2 w2) := ((hbel.out.alloc (by omega) _).drew).grown hgrow2 (by show _ ≤ (wr.alloc _).heap.size; simp; omega) (fun r hr => (HO.out.lt r hr).1); have q0 := held S0.out HB2.out))
        have HO2 : Hid (w2.ownsRow x2.heap.size 36 4 (.slice (some ⟨g2, 0, none⟩) (n + 1) cap2) (n + 1) (XS ++ [.int .i64 (sv : Int), .int .i64 (cv : Int), .int .i64 (av : Int), .int .i64 0])) := hown2
        have hgl : x2.heap.size ≤ g2 := (HO2.out.lt g2 rfl).1
        have f2 := fun i => owns_free HO2.out i
        have c3 := HO2.out.cells (g := g2) rfl (n * 4 + 3) (.int .i64 0) (by rw [List.getElem?_append_right (by rw [HL.out]; omega), HL.out, show n * 4 + 3 - n * 4 = 3 by omega]; rfl)
        rw [Addr.add_lit, Nat.zero_add] at c3
        clear hown2 hgrow2 q0
        go_wp2_with fail
        go_roundw
        case rel => exact ⟨b + 1, n + 1, by omega, by omega, by go_num, ⟨_, _, rfl⟩, HE2.out, by show World.ownsRow _ _ _ _ _ _ _; rw [HFIN.out]; exact owns_last HO2.out _, HB2.out.setCell hgl _⟩
        case measure => simp [intOf]; omega
      · by_cases ha0 : av = 0
        · obtain ⟨XS, hXS⟩ : ∃ X, X = spOf (stp o c k) (cel o c k) (frm o c) (til o b c) n := ⟨_, rfl⟩
          have HO : Hid (wr.ownsRow x2.heap.size 36 4 (.slice ao n cap) n XS) := by rw [hXS]; exact hown.out
          have HXS : Hid (spOf (stp o c k) (cel o c k) (frm o c) (til o b c) n = XS) := hXS.symm
          clear hXS hown
          subst ha0
          have d4 : (b : Int).tmod (c : Int) = 0 := d2
          have d5 : (b : Int) % (c : Int) = 0 := d3
          have hb0 : b % c = 0 := HA.out.symm
          clear d2 d3
          have HE2 : Hid (End o (b + 1) c (n + 1)) := (end_new (by omega) hE.out (.inr hb0)).1
          have HL : Hid (XS.length = n * 4) := by show _ = _; rw [← HXS.out, spOf_length]
          have HFIN : Hid (spOf (stp o c k) (cel o c k) (frm o c) (til o (b + 1) c) (n + 1) = XS ++ [.int .i64 (sv : Int), .int .i64 (cv : Int), .int .i64 0, .int .i64 1]) := by
            show _ = _
            rw [sp_new (by omega) hE.out (.inr hb0), HXS.out, HSV.out, HCV.out, HQ.out]
            rw [hb0]; rfl
          clear hE
          go_wp2
          go_region_held3 (fun w' => w'.cell? ⟨w.heap.size, 0, none⟩ = some (.int .i64 (k : Int))) (go_keep)
            ((refine Go.step_append_lies _ (by rfl) (.tmp 66) (.tmp 77) 32 (by rfl) x2.heap.size 36 i0 (.agg #[.int .i64 0, .int .i64 0, .int .i64 0, .int .i64 0]) 4 32 Try.underlying32 hi0 hz0 hz1 hz2 (by rfl) (by decide) (.slice ao n cap) n XS (by simp [Act.eval]) (owns_drew (HO.out.alloc _)) ⟨wr.heap.size, 0, none⟩ 1 1 [.int .i64 (sv : Int), .int .i64 (cv : Int), .int .i64 0, .int .i64 0] (by simp [Act.eval]) (by rfl) (news_drew wr #[.int .i64 (sv : Int), .int .i64 (cv : Int), .int .i64 0, .int .i64 0] 36) (by simp [Value.oneCell']) (by decide) (by unfold maxLen; omega) (by omega) (by show _ ≤ (wr.alloc _).heap.size; simp; omega) (wr.heap.size + 1) (by show (wr.alloc _).heap.size = _; simp) ?_; intro g2 cap2 w2 hown2 hgrow2 _ _; have HB2 : Hid (Below x2.heap.size x2 w2) := ((hbel.out.alloc (by omega) _).drew).grown hgrow2 (by show _ ≤ (wr.alloc _).heap.size; simp; omega) (fun r hr => (HO.out.lt r hr).1); have q0 := held S0.out HB2.out))
          have HO2 : Hid (w2.ownsRow x2.heap.size 36 4 (.slice (some ⟨g2, 0, none⟩) (n + 1) cap2) (n + 1) (XS ++ [.int .i64 (sv : Int), .int .i64 (cv : Int), .int .i64 0, .int .i64 0])) := hown2
          have hgl : x2.heap.size ≤ g2 := (HO2.out.lt g2 rfl).1
          have f2 := fun i => owns_free HO2.out i
          have c3 := HO2.out.cells (g := g2) rfl (n * 4 + 3) (.int .i64 0) (by rw [List.getElem?_append_right (by rw [HL.out]; omega), HL.out, show n * 4 + 3 - n * 4 = 3 by omega]; rfl)
          rw [Addr.add_lit, Nat.zero_add] at c3
          clear hown2 hgrow2 q0
          go_wp2_with fail
          go_roundw
          case rel => exact ⟨b + 1, n + 1, by omega, by omega, by go_num, ⟨_, _, rfl⟩, HE2.out, by show World.ownsRow _ _ _ _ _ _ _; rw [HFIN.out]; exact owns_last HO2.out _, HB2.out.setCell hgl _⟩
          case measure => simp [intOf]; omega
        · have ha1 : b % c ≠ 0 := by rw [← HA.out]; exact ha0
          obtain ⟨hE2, hn1, _⟩ := end_same (by omega) hE.out hbo ha1
          obtain ⟨n', rfl⟩ : ∃ n', n = n' + 1 := ⟨n - 1, by omega⟩
          obtain ⟨g, rfl⟩ : ∃ g, ao = some ⟨g, 0, none⟩ := by
            rcases hown.out.2 with ⟨h1, _⟩ | ⟨g, cap', cur, h1, _⟩
            · cases h1
            · cases h1; exact ⟨g, rfl⟩
          have HO2 : Hid (wr.ownsRow x2.heap.size 36 4 (.slice (some ⟨g, 0, none⟩) (n' + 1) cap) (n' + 1) (spOf (stp o c k) (cel o c k) (frm o c) (til o b c) n' ++ [.int .i64 (stp o c k n' : Int), .int .i64 (cel o c k n' : Int), .int .i64 (frm o c n' : Int), .int .i64 (til o b c n' : Int)])) := hown.out
          have HE2 : Hid (End o (b + 1) c (n' + 1)) := hE2
          have HFIN : Hid (spOf (stp o c k) (cel o c k) (frm o c) (til o (b + 1) c) (n' + 1) = spOf (stp o c k) (cel o c k) (frm o c) (til o b c) n' ++ [.int .i64 (stp o c k n' : Int), .int .i64 (cel o c k n' : Int), .int .i64 (frm o c n' : Int), .int .i64 ((av : Int) + 1)]) := by
            show _ = _
            rw [sp_same (by omega) hE.out hbo ha1, HA.out]; rfl
          have hgl : x2.heap.size ≤ g := (HO2.out.lt g rfl).1
          have f2 := fun i => owns_free HO2.out i
          have c3 := HO2.out.cells (g := g) rfl (n' * 4 + 3) (.int .i64 (til o b c n' : Int)) (by rw [List.getElem?_append_right (by rw [spOf_length]; omega), spOf_length, show n' * 4 + 3 - n' * 4 = 3 by omega]; rfl)
          rw [Addr.add_lit, Nat.zero_add] at c3
          clear hE hE2 hown ha1
          have hq1 : ((b : Int) == (o : Int)) = false := beq_eq_false_iff_ne.2 (by omega)
          have hq2 : ((av : Int) == 0) = false := beq_eq_false_iff_ne.2 (by omega)
          go_wp2_with fail
          go_roundw
          case rel => exact ⟨b + 1, n' + 1, by omega, by omega, by go_num, ⟨_, _, rfl⟩, HE2.out, by show World.ownsRow _ _ _ _ _ _ _; rw [HFIN.out]; exact owns_last HO2.out _, hbel.out.setCell hgl _⟩
          case measure => simp [intOf]; omega
    · obtain rfl : b = o + nn := by omega
      go_wp2_with fail
      go_ret2
      exact ⟨n, ao, cap, rfl, hE.out, owns_base hown.out hx2, below_step HBX.out hbel.out hx2⟩
end Go.Proofs.Ytenifakhojdfpaa
