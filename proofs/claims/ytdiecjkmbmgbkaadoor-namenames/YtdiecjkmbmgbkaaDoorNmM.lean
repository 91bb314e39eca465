/- The document's Sort. -/
import Derived.Test.YtdiecjkmbmgbkaaDoorNmL
namespace Go.Proofs.YtdiecjkmbmgbkaaDoor
open Go.RowKit

theorem srt_take (L : List Nm) (i : Nat) (h : i < L.length) : srt (L.take (i + 1)) = ins (L[i]'h) (srt (L.take i)) := by
  rw [List.take_succ_eq_append_getElem h, srt_snoc]
/-- The place of a name in a row. -/
def Plc (R : List Nm) (x : Nm) (i : Nat) : Prop := i ≤ R.length ∧ (∀ j (hj : j < R.length), j < i → R[j]'hj < x) ∧ (∀ j (hj : j < R.length), i ≤ j → ¬ R[j]'hj < x)
theorem Plc.there {R : List Nm} {x : Nm} {i : Nat} (h : Plc R x i) (hi : i < R.length) (e : R[i] = x) : ins x R = R := by
  rw [ins_at x R i h.1 h.2.1 h.2.2, if_pos (by rw [List.getElem?_eq_getElem hi, e])]
theorem Plc.not {R : List Nm} {x : Nm} {i : Nat} (h : Plc R x i) (e : R[i]? ≠ some x) : ins x R = R.take i ++ x :: R.drop i := by
  rw [ins_at x R i h.1 h.2.1 h.2.2, if_neg e]
set_option maxHeartbeats 4000000 in
set_option maxRecDepth 100000 in
theorem RSort_any (L : List Nm) (hn : L.length ≤ 10000) (ao : Option Addr) (cap : Nat) (w : World) (hr : RdS w ao L) : Calls Tryd.prog 22 #[.slice ao L.length cap] w fun r w' => AnsS w L r w' := by
  have HR : Hid (RdS w ao L) := hr
  clear hr
  go_enter Tryd.func22, Tryd.ntmps22
  go_wp2_with (fail)
  go_loopw [4, 5] (fun v x wr => ∃ i : Nat, i ≤ L.length ∧ x = .int .i64 (i : Int) ∧ Hid (OwR w.heap.size wr v (srt (L.take i))) ∧ Hid (Below w.heap.size w wr) ∧ Hid (∀ j (hj : j < L.length), j < i → may (L[j]'hj) = true)) (fun _ x _ => L.length - (intOf x).toNat)
  case atStart => exact ⟨0, Nat.zero_le _, rfl, owR_nil _ _, Below.refl _ _, fun j hj h => by omega⟩
  case round =>
    obtain ⟨i, hi, rfl, ho, hb, hm⟩ := hrel
    have i0 : (0 : Int) ≤ (i : Int) := by omega
    by_cases hlt : i < L.length
    · have i1 : (i : Int) < (L.length : Int) := by omega
      obtain ⟨b, off, rfl, hc⟩ := HR.out (by intro e; rw [e] at hlt; simp at hlt)
      have ck := held (hc i hlt) hb.out
      have HCW : Hid (∀ u, Below w.heap.size w u → u.cell? ⟨b, off + i, none⟩ = some (.string ⟨(L[i]'hlt).toArray⟩)) := fun u hu => held (hc i hlt) hu
      have HCL : Hid (∀ u, Below wr.heap.size wr u → u.cell? ⟨b, off + i, none⟩ = some (.string ⟨(L[i]'hlt).toArray⟩)) := fun u hu => held ck hu
      have HC := May_any (L[i]'hlt) wr
      clear hc
      cases hmi : may (L[i]'hlt)
      · have hE := erS_bad (show L.length ≤ 65536 by omega) hlt hmi
        rw [hmi] at HC
        go_wp2_with (fail)
        refine HC.mono ?_
        rintro _ w1 ⟨rfl, rfl⟩
        go_wp2_with (fail)
        go_ret2
        exact ansS_no hE hb.out
      · have hm2 : Hid (∀ j (hj : j < L.length), j < i + 1 → may (L[j]'hj) = true) := fun j hj h => by
          by_cases e : j = i
          · subst e; exact hmi
          · exact hm.out j hj (by omega)
        rw [hmi] at HC
        have hR0 := srt_length (L.take i)
        rw [List.length_take] at hR0
        have hst := srt_take L i hlt
        have hRl : Hid (∀ l ∈ srt (L.take i), l.length ≤ 100000) := fun l hl => by
          obtain ⟨j, hj, e⟩ := List.mem_iff_getElem.1 ((srt_mem _ _).1 hl)
          rw [List.getElem_take] at e
          rw [List.length_take] at hj
          have := ((may_iff _).1 (hm.out j (by omega) (by omega))).2
          rw [e] at this
          omega
        obtain ⟨x, hx⟩ : ∃ x, x = L[i]'hlt := ⟨_, rfl⟩
        obtain ⟨R, hR⟩ : ∃ R, R = srt (L.take i) := ⟨_, rfl⟩
        have HINC : Hid (Inc R) := by rw [hR]; exact srt_inc _
        rw [← hx] at HC ck HCL HCW hst
        rw [← hR] at hst hR0 hRl ho
        have HST : Hid (srt (L.take (i + 1)) = ins x R) := hst
        have hRn : R.length ≤ i := by omega
        clear hm hx hR hst hR0 hmi
        obtain ⟨oo, oc, rfl, hoc, hown⟩ := ho.out.own
        have HOW : Hid (OwN w.heap.size wr oo R) := hown
        clear hown
        go_wp2_with (fail)
        refine HC.mono ?_
        rintro _ w1 ⟨rfl, rfl⟩
        clear HC
        go_wp2_with (fail)
        go_loopw [6, 7] (fun y z wq => ∃ lo hi : Nat, lo ≤ hi ∧ hi ≤ R.length ∧ y = .int .i64 (lo : Int) ∧ z = .int .i64 (hi : Int) ∧ Hid (∀ j (hj : j < R.length), j < lo → R[j]'hj < x) ∧ Hid (∀ j (hj : j < R.length), hi ≤ j → ¬ R[j]'hj < x) ∧ Hid (∃ q, wq = w1.drewN q)) (fun y z _ => (intOf z).toNat - (intOf y).toNat)
        case atStart => exact ⟨0, R.length, Nat.zero_le _, Nat.le_refl _, rfl, rfl, fun j hj h => by omega, fun j hj h => by omega, 0, rfl⟩
        case round =>
          obtain ⟨lo, hi2, hlh, hhR, rfl, rfl, hlo, hhi, hdr⟩ := hrel
          have hbel : Below w1.heap.size w1 wr := by obtain ⟨q, rfl⟩ := hdr.out; exact below_drewN _ _ _
          have j0 : (0 : Int) ≤ (lo : Int) := by omega
          by_cases hll : lo < hi2
          · obtain ⟨m, hm1⟩ : ∃ m : Nat, m = (lo + hi2) / 2 := ⟨_, rfl⟩
            have hmR : m < R.length := by omega
            have hm2' : ((lo : Int) + (hi2 : Int)) / 2 = (m : Int) := by omega
            have hml : lo ≤ m := by omega
            have hmh : m < hi2 := by omega
            have m0 : (0 : Int) ≤ (m : Int) := by omega
            have m1 : (m : Int) < (R.length : Int) := by omega
            obtain ⟨g, rfl, hg1, hg2, hcr⟩ := (HOW.out.below hbel) (by intro e; rw [e] at hmR; simp at hmR)
            have cr := (hcr m hmR).1
            have cl := held ck hbel
            have HLS : Hid (∀ w, Calls Tryd.prog 21 #[.string ⟨(R[m]'hmR).toArray⟩, .string ⟨x.toArray⟩] w _) := fun w => RLess_any (R[m]'hmR) x w (hRl.out _ (List.getElem_mem hmR))
            have HLO : Hid (R[m]'hmR < x → ∀ j (hj : j < R.length), j < m + 1 → R[j]'hj < x) := fun h j hj hjm => by
              by_cases e : j = m
              · subst e; exact h
              · exact nlt_trans (List.pairwise_iff_getElem.1 HINC.out j m hj hmR (by omega)) h
            have HHI : Hid (¬ R[m]'hmR < x → ∀ j (hj : j < R.length), m ≤ j → ¬ R[j]'hj < x) := fun h j hj hjm => by
              by_cases e : j = m
              · subst e; exact h
              · exact fun g => h (nlt_trans (List.pairwise_iff_getElem.1 HINC.out m j hmR hj (by omega)) g)
            obtain ⟨y, hy⟩ : ∃ y, y = R[m]'hmR := ⟨_, rfl⟩
            rw [← hy] at cr HLS HLO HHI
            clear hcr hm1 hy hbel
            by_cases hyx : y < x
            · rw [decide_eq_true hyx] at HLS
              go_wp2_with (fail)
              go_quiet ((go_at_call 21; exact Calls.quiet_of (HLS.out _)))
              go_wp2_with (fail)
              go_roundw
              case rel =>
                obtain ⟨q, hq⟩ := hdr.out
                exact ⟨m + 1, hi2, by omega, hhR, by go_num, rfl, HLO.out hyx, hhi, q + nq, by rw [hq]; exact drewN_add _ _ _⟩
              case measure => simp [intOf]; omega
            · rw [decide_eq_false hyx] at HLS
              go_wp2_with (fail)
              go_quiet ((go_at_call 21; exact Calls.quiet_of (HLS.out _)))
              go_wp2_with (fail)
              go_roundw
              case rel =>
                obtain ⟨q, hq⟩ := hdr.out
                exact ⟨lo, m, by omega, by omega, rfl, by rw [hm2'], hlo, HHI.out hyx, q + nq, by rw [hq]; exact drewN_add _ _ _⟩
              case measure => simp [intOf]; omega
          · obtain rfl : lo = hi2 := by omega
            have HP : Hid (Plc R x lo) := ⟨hhR, hlo.out, hhi.out⟩
            clear hlo hhi
            have HB1 : Hid (Below w1.heap.size w1 wr) := hbel
            have cl := held ck hbel
            by_cases hthere : R[lo]? = some x
            · obtain ⟨hloR, hex⟩ := List.getElem?_eq_some_iff.1 hthere
              obtain ⟨g, rfl, hg1, hg2, hcr⟩ := (HOW.out.below hbel) (by intro e; rw [e] at hloR; simp at hloR)
              have cr := (hcr lo hloR).1
              rw [hex] at cr
              have HI : Hid (srt (L.take (i + 1)) = R) := HST.out.trans (HP.out.there hloR hex)
              have m1 : (lo : Int) < (R.length : Int) := by omega
              clear hcr hthere hbel
              go_wp2_with (fail)
              go_quiet (fail)
              go_wp2_with (fail)
              go_roundw
              case rel =>
                obtain ⟨q, hq⟩ := hdr.out
                have hbq : Below w1.heap.size w1 (wr.drewN nq) := HB1.out.trans (below_drewN _ _ _)
                exact ⟨i + 1, by omega, by go_num, by rw [HI.out]; exact ho.out.below hbq, below_then hb.out hbq, hm2⟩
              case measure => simp [intOf]; omega
            · have HI : Hid (srt (L.take (i + 1)) = R.take lo ++ x :: R.drop lo) := HST.out.trans (HP.out.not hthere)
              by_cases hloR : lo < R.length
              · obtain ⟨g, rfl, hg1, hg2, hcr⟩ := (HOW.out.below hbel) (by intro e; rw [e] at hloR; simp at hloR)
                have cr := (hcr lo hloR).1
                have hyx : ((R[lo]'hloR) == x) = false := beq_eq_false_iff_ne.2 fun e => hthere (by rw [List.getElem?_eq_getElem hloR, e])
                obtain ⟨y, hy⟩ : ∃ y, y = R[lo]'hloR := ⟨_, rfl⟩
                rw [← hy] at cr hyx
                have m1 : (lo : Int) < (R.length : Int) := by omega
                clear hcr hthere hbel hy
                go_wp2_with (fail)
                go_quiet (fail)
                obtain ⟨W, hW⟩ : ∃ W, W = wr.drewN nq := ⟨_, rfl⟩
                have HBW1 : Hid (Below w1.heap.size w1 W) := by rw [hW]; exact HB1.out.trans (below_drewN _ _ _)
                rw [← hW]
                have HBW : Hid (Below w.heap.size w (W.alloc (.cells #[.string ⟨#[]⟩] 9))) := below_then (below_then hb.out HBW1.out) (below_alloc _ _)
                have HOWR : Hid (OwR w.heap.size (W.alloc (.cells #[.string ⟨#[]⟩] 9)) (.slice (some ⟨g, 0, none⟩) R.length oc) R) := (ho.out.below HBW1.out).below (below_alloc _ _)
                have hcy : (W.alloc (.cells #[.string ⟨#[]⟩] 9)).cell? ⟨W.heap.size, 0, none⟩ = some (sx []) := by rw [Lib.cell_of_heap (heap_alloc_new W _)]; rfl
                have hszW := HBW.out.size
                clear hW
                go_wp2_with (at_builtin; refine app_name (by rfl) (.tmp 62) (.tmp 63) (by rfl) w.heap.size (.slice (some ⟨g, 0, none⟩) R.length oc) R [] W.heap.size 1 (by rfl) (by rfl) HOWR.out hcy (by omega) hszW ?_; intro v' w3 HO3 HB3)
                obtain ⟨g', cap', C, rfl, hBg, hg', hc1, hc2, hCl, hCt⟩ := owR_snoc HO3.out
                have HB03 : Hid (Below w.heap.size w w3) := HBW.out.trans HB3.out
                have HBK : Hid (∀ j v, (ens (R.drop lo))[j]? = some v → w3.cell? ((⟨g', lo, none⟩ : Addr).add j) = some v) := fun j v hj => by
                  have hj' : j < (R.drop lo).length := by have := (List.getElem?_eq_some_iff.1 hj).1; rwa [ens_length] at this
                  have hjl : lo + j < R.length := by rw [List.length_drop] at hj'; omega
                  have h1 := (block_cell (R := R ++ [[]]) hg' (by rw [List.length_append]; exact hCt) (lo + j) (by rw [List.length_append]; simp; omega)).1
                  rw [Addr.add_lit, h1]
                  rw [ens_get _ j hj'] at hj
                  rw [← hj]
                  simp [List.getElem_append_left hjl]
                have hlen : (ens (R.drop lo)).length = R.length - lo := by rw [ens_length, List.length_drop]
                have HHG : Hid (w3.heap[g']? = some (.cells C.toArray 9 (0, 0))) := hg'
                have j1 : (lo : Int) + 1 ≤ (R.length : Int) + 1 := by omega
                have j2 : (R.length : Int) + 1 ≤ (cap' : Int) := by omega
                have j3 : (0 : Int) ≤ (lo : Int) + 1 := by omega
                have j4 : (lo : Int) ≤ (R.length : Int) + 1 := by omega
                have j5 : IntKind.i64.wrap ((lo : Int) + 1) = (lo : Int) + 1 := by rw [IntKind.wrap_i64]; omega
                have j6 : ((lo : Int) + 1).toNat = lo + 1 := by omega
                have j7 : ¬ cap' = lo := by omega
                have j8 : ¬ cap' = lo + 1 := by omega
                clear hcy hszW HO3 HBW HOWR hg'
                go_region_held3 (fun _ => True) (trivial)
                  ((refine step_copy_splice (by rfl) _ _ _ _ (by rfl) 9 Tryd.underlying32 szStr _ _ _ _ _ _ (by rfl) (by rfl) g' (lo + 1) C 9 HHG.out (ens (R.drop lo)) (by rw [hlen]; show _ = min _ _; omega) (fun _ => ⟨rfl, ⟨g', lo, none⟩, rfl, HBK.out⟩) (by rw [hlen]; omega) ens_one w.heap.size w (HB03.out.trans (below_drew _ _)) hBg ?_; intro w4 hg4 hb4))
                have HB4 : Hid (Below w.heap.size w w4) := hb4
                have c4 : w4.cell? ⟨g', lo, none⟩ = (splice C (lo + 1) (ens (R.drop lo))).toArray[lo]? := by rw [Lib.cell_of_heap hg4.out]
                have hsp : lo < (splice C (lo + 1) (ens (R.drop lo))).length := by rw [(ins_cells C R x lo hhR hCt (by omega)).2]; omega
                obtain ⟨u4, hu4⟩ : ∃ u, w4.cell? ⟨g', lo, none⟩ = some u := ⟨_, c4.trans (by rw [List.getElem?_toArray]; exact List.getElem?_eq_getElem hsp)⟩
                have f4 : w4.frozen? ⟨g', lo, none⟩ = false := by simp [World.frozen?, hg4.out]
                have cl4 := HCW.out w4 HB4.out
                have j9 : (lo : Int) < (R.length : Int) + 1 := by omega
                have HFIN : Hid (OwR w.heap.size (w4.setCell ⟨g', lo, none⟩ (sx x)) (.slice (some ⟨g', 0, none⟩) (R.length + 1) cap') (srt (L.take (i + 1)))) := by
                  show OwR _ _ _ _
                  rw [HI.out]
                  exact owR_put hBg hg4.out hhR hc1 hc2 hCl hCt
                clear c4 hsp hb4 hCt hCl
                go_wp2_with (fail)
                go_roundw
                case rel => exact ⟨i + 1, by omega, by go_num, HFIN, HB4.out.setCell (p := ⟨g', lo, none⟩) hBg _, hm2⟩
                case measure => simp [intOf]; omega
              · have k1 : (R.length : Int) ≤ (lo : Int) := by omega
                have k2 : (lo : Int) ≤ (R.length : Int) := by omega
                clear hthere hbel
                go_wp2_with (fail)
                go_quiet (fail)
                obtain ⟨W, hW⟩ : ∃ W, W = wr.drewN nq := ⟨_, rfl⟩
                have HBW1 : Hid (Below w1.heap.size w1 W) := by rw [hW]; exact HB1.out.trans (below_drewN _ _ _)
                rw [← hW]
                have HBW : Hid (Below w.heap.size w (W.alloc (.cells #[.string ⟨#[]⟩] 9))) := below_then (below_then hb.out HBW1.out) (below_alloc _ _)
                have HOWR : Hid (OwR w.heap.size (W.alloc (.cells #[.string ⟨#[]⟩] 9)) (.slice (oo) R.length oc) R) := (ho.out.below HBW1.out).below (below_alloc _ _)
                have hcy : (W.alloc (.cells #[.string ⟨#[]⟩] 9)).cell? ⟨W.heap.size, 0, none⟩ = some (sx []) := by rw [Lib.cell_of_heap (heap_alloc_new W _)]; rfl
                have hszW := HBW.out.size
                clear hW
                go_wp2_with (at_builtin; refine app_name (by rfl) (.tmp 62) (.tmp 63) (by rfl) w.heap.size (.slice (oo) R.length oc) R [] W.heap.size 1 (by rfl) (by rfl) HOWR.out hcy (by omega) hszW ?_; intro v' w3 HO3 HB3)
                obtain ⟨g', cap', C, rfl, hBg, hg', hc1, hc2, hCl, hCt⟩ := owR_snoc HO3.out
                have HB03 : Hid (Below w.heap.size w w3) := HBW.out.trans HB3.out
                have HBK : Hid (∀ j v, (ens (R.drop lo))[j]? = some v → w3.cell? ((⟨g', lo, none⟩ : Addr).add j) = some v) := fun j v hj => by
                  have hj' : j < (R.drop lo).length := by have := (List.getElem?_eq_some_iff.1 hj).1; rwa [ens_length] at this
                  have hjl : lo + j < R.length := by rw [List.length_drop] at hj'; omega
                  have h1 := (block_cell (R := R ++ [[]]) hg' (by rw [List.length_append]; exact hCt) (lo + j) (by rw [List.length_append]; simp; omega)).1
                  rw [Addr.add_lit, h1]
                  rw [ens_get _ j hj'] at hj
                  rw [← hj]
                  simp [List.getElem_append_left hjl]
                have hlen : (ens (R.drop lo)).length = R.length - lo := by rw [ens_length, List.length_drop]
                have HHG : Hid (w3.heap[g']? = some (.cells C.toArray 9 (0, 0))) := hg'
                have j1 : (lo : Int) + 1 ≤ (R.length : Int) + 1 := by omega
                have j2 : (R.length : Int) + 1 ≤ (cap' : Int) := by omega
                have j3 : (0 : Int) ≤ (lo : Int) + 1 := by omega
                have j4 : (lo : Int) ≤ (R.length : Int) + 1 := by omega
                have j5 : IntKind.i64.wrap ((lo : Int) + 1) = (lo : Int) + 1 := by rw [IntKind.wrap_i64]; omega
                have j6 : ((lo : Int) + 1).toNat = lo + 1 := by omega
                have j7 : ¬ cap' = lo := by omega
                clear hcy hszW HO3 HBW HOWR hg'
                by_cases j8 : cap' = lo + 1
                · go_region_held3 (fun _ => True) (trivial)
                    ((refine step_copy_splice (by rfl) _ _ _ _ (by rfl) 9 Tryd.underlying32 szStr _ _ _ _ _ _ (by rfl) (by rfl) g' (lo + 1) C 9 HHG.out (ens (R.drop lo)) (by rw [hlen]; show _ = min _ _; omega) (fun h => by rw [hlen] at h; omega) (by rw [hlen]; omega) ens_one w.heap.size w (HB03.out.trans (below_drew _ _)) hBg ?_; intro w4 hg4 hb4))
                  have HB4 : Hid (Below w.heap.size w w4) := hb4
                  have c4 : w4.cell? ⟨g', lo, none⟩ = (splice C (lo + 1) (ens (R.drop lo))).toArray[lo]? := by rw [Lib.cell_of_heap hg4.out]
                  have hsp : lo < (splice C (lo + 1) (ens (R.drop lo))).length := by rw [(ins_cells C R x lo hhR hCt (by omega)).2]; omega
                  obtain ⟨u4, hu4⟩ : ∃ u, w4.cell? ⟨g', lo, none⟩ = some u := ⟨_, c4.trans (by rw [List.getElem?_toArray]; exact List.getElem?_eq_getElem hsp)⟩
                  have f4 : w4.frozen? ⟨g', lo, none⟩ = false := by simp [World.frozen?, hg4.out]
                  have cl4 := HCW.out w4 HB4.out
                  have j9 : (lo : Int) < (R.length : Int) + 1 := by omega
                  have HFIN : Hid (OwR w.heap.size (w4.setCell ⟨g', lo, none⟩ (sx x)) (.slice (some ⟨g', 0, none⟩) (R.length + 1) cap') (srt (L.take (i + 1)))) := by
                    show OwR _ _ _ _
                    rw [HI.out]
                    exact owR_put hBg hg4.out hhR hc1 hc2 hCl hCt
                  clear c4 hsp hb4 hCt hCl
                  go_wp2_with (fail)
                  go_roundw
                  case rel => exact ⟨i + 1, by omega, by go_num, HFIN, HB4.out.setCell (p := ⟨g', lo, none⟩) hBg _, hm2⟩
                  case measure => simp [intOf]; omega
                · go_region_held3 (fun _ => True) (trivial)
                    ((refine step_copy_splice (by rfl) _ _ _ _ (by rfl) 9 Tryd.underlying32 szStr _ _ _ _ _ _ (by rfl) (by rfl) g' (lo + 1) C 9 HHG.out (ens (R.drop lo)) (by rw [hlen]; show _ = min _ _; omega) (fun h => by rw [hlen] at h; omega) (by rw [hlen]; omega) ens_one w.heap.size w (HB03.out.trans (below_drew _ _)) hBg ?_; intro w4 hg4 hb4))
                  have HB4 : Hid (Below w.heap.size w w4) := hb4
                  have c4 : w4.cell? ⟨g', lo, none⟩ = (splice C (lo + 1) (ens (R.drop lo))).toArray[lo]? := by rw [Lib.cell_of_heap hg4.out]
                  have hsp : lo < (splice C (lo + 1) (ens (R.drop lo))).length := by rw [(ins_cells C R x lo hhR hCt (by omega)).2]; omega
                  obtain ⟨u4, hu4⟩ : ∃ u, w4.cell? ⟨g', lo, none⟩ = some u := ⟨_, c4.trans (by rw [List.getElem?_toArray]; exact List.getElem?_eq_getElem hsp)⟩
                  have f4 : w4.frozen? ⟨g', lo, none⟩ = false := by simp [World.frozen?, hg4.out]
                  have cl4 := HCW.out w4 HB4.out
                  have j9 : (lo : Int) < (R.length : Int) + 1 := by omega
                  have HFIN : Hid (OwR w.heap.size (w4.setCell ⟨g', lo, none⟩ (sx x)) (.slice (some ⟨g', 0, none⟩) (R.length + 1) cap') (srt (L.take (i + 1)))) := by
                    show OwR _ _ _ _
                    rw [HI.out]
                    exact owR_put hBg hg4.out hhR hc1 hc2 hCl hCt
                  clear c4 hsp hb4 hCt hCl
                  go_wp2_with (fail)
                  go_roundw
                  case rel => exact ⟨i + 1, by omega, by go_num, HFIN, HB4.out.setCell (p := ⟨g', lo, none⟩) hBg _, hm2⟩
                  case measure => simp [intOf]; omega
    · obtain rfl : i = L.length := by omega
      have hE := erS_good (show L.length ≤ 65536 by omega) (fun j hj => hm.out j hj hj)
      rw [List.take_length] at ho
      obtain ⟨oo, oc, rfl, hoc, hown⟩ := ho.out.own
      clear hm
      go_wp2_with (fail)
      go_ret2
      exact ⟨oo, oc, by rw [hE.1, hE.2]; rfl, by rw [hE.2]; exact hoc, by rw [hE.2]; exact hown, hb.out⟩
end Go.Proofs.YtdiecjkmbmgbkaaDoor
