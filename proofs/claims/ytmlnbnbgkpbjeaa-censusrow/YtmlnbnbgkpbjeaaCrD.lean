/- The document's answer: all tallies of a row. -/
import Derived.Test.YtmlnbnbgkpbjeaaCrC
namespace Go.Proofs.Ytmlnbnbgkpbjeaa
open Go.RowKit Go.Maps Go.ChangeShapes

theorem ints_set {w : World} {B : Nat} {v : Value} {zs : List Int} {g i : Nat} {u : Value} (h : w.ownsInts B 3 .i64 v zs) (hg : g < B) : (w.setCell ⟨g, i, none⟩ u).ownsInts B 3 .i64 v zs := by
  refine ⟨?_, h.2⟩
  rcases h.1 with ⟨h1, h2 | ⟨g1, cp, cur, h2, h3, h4, h5⟩⟩
  · exact ⟨h1, .inl h2⟩
  · exact ⟨h1, .inr ⟨g1, cp, cur, h2, h3, (heap_setCell_other w ⟨g, i, none⟩ g1 u (fun e => by simp only at e; omega)).trans h4, h5⟩⟩
set_option maxHeartbeats 40000000 in
set_option maxRecDepth 100000 in
theorem All_any {k r c q : Int} {N W : Nat} (h : Par k r c q N W 0) (w : World) (ro : Option Addr) (rc : Nat) (A : Nat → Option Addr) (L C : Nat → Nat) (F : Nat → Nat → UInt8) (hr : Rw w ro N A L C F) (hL : ∀ j, j < 2 * N → L j ≤ 1000) :
    Calls Try.prog 26 #[.agg #[.int .i64 k, .int .i64 r, .int .i64 c, .int .i64 q], .slice ro N rc] w fun e w' => ∃ a cap ts, e = .returned (.slice a (ts.length : Nat) cap) ∧ Tal w.heap.size w' a cap ts (dv (hP N c L F) (hQ N c L F) N) ∧ ts.map (fun t => t.1) = tvL (hP N c L F) (hQ N c L F) N ∧ Below w.heap.size w w' := by
  have hle := h.le
  have hNp : 1 ≤ N := h.some rfl
  have HJ0 : Hid (∀ v j, Below w.heap.size w v → j < 2 * N → Calls Try.prog 42 #[.agg #[.int .i64 k, .int .i64 r, .int .i64 c, .int .i64 q], .slice (A j) (L j) (C j), .int .i64 ((j / 2 : Nat) : Int)] v fun e w' => e = .returned (.int .i64 (hjs N c L F j)) ∧ Below v.heap.size v w') := fun v j hv hj => held_any h v _ _ _ _ ((hr.bec j hj).below hv) (by have := hL j hj; omega) (j / 2) _ rfl
  have HHO : Hid (∀ v b off d x, Below w.heap.size w v → ro = some ⟨b, off, none⟩ → d < N → x ≠ 0 → Calls Try.prog 32 #[.agg #[.int .i64 k, .int .i64 r, .int .i64 c, .int .i64 q], .slice (some ⟨b, off, none⟩) N rc, .int .i64 (d : Int), .int .i64 x] v fun e w' => e = .returned (.bool (hbv (hP N c L F) (hQ N c L F) x d)) ∧ Below v.heap.size v w') := fun v b off d x hv hro hd hx => by
    obtain ⟨b', off', e, hcc⟩ := hr.at_ (by omega)
    rw [hro] at e
    simp only [Option.some.injEq, Addr.mk.injEq, and_true] at e
    obtain ⟨rfl, rfl⟩ := e
    have := holds_two h v b off N rc d hd _ _ _ (F (2 * d)) _ _ _ (F (2 * d + 1)) (held (hcc d hd).1 hv) (held (hcc d hd).2 hv) ((hr.bec (2 * d) (by omega)).below hv) ((hr.bec (2 * d + 1) (by omega)).below hv) (hL _ (by omega)) (hL _ (by omega)) x _ _ rfl rfl
    rw [show hbv (hP N c L F) (hQ N c L F) x d = decide (hs N c d (L (2 * d)) (F (2 * d)) = x ∨ hs N c d (L (2 * d + 1)) (F (2 * d + 1)) = x) from decide_eq_decide.2 (hQ_or N c L F d hx)]
    exact this
  have HBJ : Hid (∀ j, 0 ≤ hjs N c L F j ∧ hjs N c L F j ≤ 1073741824) := fun j => ⟨hs_nn _ _ _ _ _, hs_top _ _ _ _ _⟩
  have HMEM : Hid (∀ v, v ∈ tvL (hP N c L F) (hQ N c L F) N ↔ v ≠ 0 ∧ ∃ j, j < 2 * N ∧ hjs N c L F j = v) := fun v => hjs_mem
  have HPOS : Hid (∀ v, v ∈ tvL (hP N c L F) (hQ N c L F) N → 1 ≤ v ∧ v ≤ 1073741824) := fun v hv => by
    obtain ⟨h0, j, _, h2⟩ := hjs_mem.1 hv
    have h3 : 0 ≤ hjs N c L F j ∧ hjs N c L F j ≤ 1073741824 := ⟨hs_nn _ _ _ _ _, hs_top _ _ _ _ _⟩
    omega
  obtain ⟨b, off, rfl, hcc⟩ := hr.at_ (by omega)
  have HCC : Hid (∀ i, i < N → w.cell? ⟨b, off + i * 2, none⟩ = some (.slice (A (2 * i)) (L (2 * i)) (C (2 * i))) ∧ w.cell? ⟨b, off + i * 2 + 1, none⟩ = some (.slice (A (2 * i + 1)) (L (2 * i + 1)) (C (2 * i + 1)))) := hcc
  obtain ⟨w0, hw0⟩ : ∃ w0, w0 = w.alloc (.cells #[.int .i64 k, .int .i64 r, .int .i64 c, .int .i64 q] 23) := ⟨_, rfl⟩
  have B0 : Hid (Below w.heap.size w w0) := by show Below _ _ _; rw [hw0]; exact below_alloc _ _
  have HC : Hid (∀ v, Below w0.heap.size w0 v → v.cell? ⟨w.heap.size, 0, none⟩ = some (.int .i64 k) ∧ v.cell? ⟨w.heap.size, 1, none⟩ = some (.int .i64 r) ∧ v.cell? ⟨w.heap.size, 2, none⟩ = some (.int .i64 c) ∧ v.cell? ⟨w.heap.size, 3, none⟩ = some (.int .i64 q)) := fun v hv => by
    have pq := (at_made (Below.refl _ w) hw0).below hv
    exact ⟨pq.cell (i := 0) rfl, pq.cell (i := 1) rfl, pq.cell (i := 2) rfl, pq.cell (i := 3) rfl⟩
  obtain ⟨tv, htv⟩ : ∃ tv, tv = tvL (hP N c L F) (hQ N c L F) N := ⟨_, rfl⟩
  have HFALL : Hid (tv.Pairwise (fun a b => b < a)) := by show List.Pairwise _ _; rw [htv]; exact tvL_fall _ _ _
  have hfew : tv.length ≤ 32 := by rw [htv]; have := tvL_few (hP N c L F) (hQ N c L F) N; omega
  rw [← htv] at HMEM HPOS ⊢
  have HTV : Hid (tv = tvL (hP N c L F) (hQ N c L F) N) := htv
  obtain ⟨i0, hi0, ha0, ha1, ha2⟩ := info_parts info3
  obtain ⟨j0, hj0, hb0, hb1, hb2⟩ := info_parts info40
  clear htv hr h hL hcc
  generalize hP N c L F = P at *
  generalize hQ N c L F = Q at *
  generalize hjs N c L F = hj at *
  go_enter Try.func26, Try.ntmps26
  go_wp2_with fail
  rw [← hw0]
  clear hw0
  go_loopw [5, 6] (fun l t wr => ∃ (m : Nat) (a : Option Addr) (cap : Nat) (ts : List Tly) (top : Int), l = .slice a m cap ∧ t = .int .i64 top ∧ m ≤ tv.length ∧ Hid (m = ts.length) ∧ Hid (ts.map (fun t => t.1) = tv.take m) ∧ Hid (Top tv m top) ∧ Hid (Tal w0.heap.size wr a cap ts (dv P Q N)) ∧ Hid (Below w0.heap.size w0 wr)) (fun l _ _ => 40 - slLen l)
  case atStart =>
    refine ⟨0, none, 0, [], 1073741825, rfl, rfl, Nat.zero_le _, rfl, rfl, fun i v hv => ?_, tal_nil _ _ _, Below.refl _ _⟩
    have := (HPOS.out v (List.mem_of_getElem? hv)).2
    constructor
    · intro _; exact Nat.zero_le _
    · intro _; omega
  case round =>
    obtain ⟨m, a, cap, ts, top, rfl, rfl, hm, hmt, hmap, htop, htal, hbw⟩ := hrel
    obtain ⟨wm, rfl⟩ : ∃ x, x = wr := ⟨wr, rfl⟩
    go_wp2_with fail
    go_loopw [7, 8] (fun bv y wr => ∃ (i : Nat) (best : Int), i ≤ N ∧ y = .int .i64 (i : Int) ∧ bv = .int .i64 best ∧ Hid (Bst hj top (2 * i) best) ∧ Hid (Below wm.heap.size wm wr)) (fun _ y _ => N - (intOf y).toNat)
    case atStart => exact ⟨0, 0, Nat.zero_le _, rfl, rfl, bst_0 _ _, Below.refl _ _⟩
    case round =>
      obtain ⟨i, best, hi, rfl, rfl, hbst, hbi⟩ := hrel
      by_cases hlt : i < N
      · have i1 : (0 : Int) ≤ (i : Int) := by omega
        have i2 : (i : Int) < (N : Int) := by omega
        go_wp2_with fail
        go_loopw [7, 9] (fun bv y wr => ∃ (s : Nat) (best : Int), s ≤ 2 ∧ y = .int .i64 (s : Int) ∧ bv = .int .i64 best ∧ Hid (Bst hj top (2 * i + s) best) ∧ Hid (Below wm.heap.size wm wr)) (fun _ y _ => 2 - (intOf y).toNat)
        case atStart => exact ⟨0, best, Nat.zero_le _, rfl, rfl, hbst.out, hbi.out⟩
        case round =>
          obtain ⟨s, bes, hs2, rfl, rfl, hbs', hbs⟩ := hrel
          by_cases hs : s < 2
          · have HWR : Hid (Below w0.heap.size w0 wr) := below_then hbw.out hbs.out
            have hce : w.cell? ⟨b, off + i * 2 + s, none⟩ = some (.slice (A (2 * i + s)) (L (2 * i + s)) (C (2 * i + s))) := by
              rcases (show s = 0 ∨ s = 1 by omega) with e | e
              · rw [e]; exact (HCC.out i hlt).1
              · rw [e]; exact (HCC.out i hlt).2
            have hJ := fun v hv => HJ0.out v (2 * i + s) hv (by omega)
            rw [show (2 * i + s) / 2 = i by omega] at hJ
            obtain ⟨aj, haj⟩ : ∃ aj, A (2 * i + s) = aj := ⟨_, rfl⟩
            obtain ⟨nj, hnj⟩ : ∃ nj, L (2 * i + s) = nj := ⟨_, rfl⟩
            obtain ⟨cj, hcj⟩ : ∃ cj, C (2 * i + s) = cj := ⟨_, rfl⟩
            obtain ⟨u, hu⟩ : ∃ u, hj (2 * i + s) = u := ⟨_, rfl⟩
            rw [haj, hnj, hcj] at hce hJ
            rw [hu] at hJ
            have HU : Hid (hj (2 * i + s) = u) := hu
            have HJ : Hid (∀ v, Below wr.heap.size wr v → Calls Try.prog 42 #[.agg #[.int .i64 k, .int .i64 r, .int .i64 c, .int .i64 q], .slice aj nj cj, .int .i64 (i : Int)] v fun e w' => e = .returned (.int .i64 u) ∧ Below v.heap.size v w') := fun v hv => hJ v (below_then B0.out (below_then HWR.out hv))
            have CH : Hid (∀ v, Below wr.heap.size wr v → v.cell? ⟨w.heap.size, 0, none⟩ = some (.int .i64 k) ∧ v.cell? ⟨w.heap.size, 1, none⟩ = some (.int .i64 r) ∧ v.cell? ⟨w.heap.size, 2, none⟩ = some (.int .i64 c) ∧ v.cell? ⟨w.heap.size, 3, none⟩ = some (.int .i64 q) ∧ v.cell? ⟨b, off + i * 2 + s, none⟩ = some (.slice aj nj cj)) := fun v hv => by
              obtain ⟨g0, g1, g2, g3⟩ := HC.out v (below_then HWR.out hv)
              exact ⟨g0, g1, g2, g3, held hce (below_then B0.out (below_then HWR.out hv))⟩
            obtain ⟨d0, d1, d2, d3, d4⟩ := CH.out wr (Below.refl _ _)
            have k1 : (0 : Int) ≤ (s : Int) := by omega
            have k2 : (s : Int) < 2 := by omega
            clear haj hnj hcj hu hJ hce
            by_cases h1 : u < top
            · have h1d : decide (u < top) = true := decide_eq_true h1
              by_cases h2 : bes < u
              · have h2d : decide (bes < u) = true := decide_eq_true h2
                have HB : Hid (Bst hj top (2 * i + (s + 1)) u) := by
                  have := hbs'.out.take (by rw [HU.out]; exact h1) (by rw [HU.out]; exact h2)
                  rw [HU.out] at this; exact this
                go_wp2_with fail
                go_region_held3 (fun v => v.cell? ⟨w.heap.size, 0, none⟩ = some (.int .i64 k) ∧ v.cell? ⟨w.heap.size, 1, none⟩ = some (.int .i64 r) ∧ v.cell? ⟨w.heap.size, 2, none⟩ = some (.int .i64 c) ∧ v.cell? ⟨w.heap.size, 3, none⟩ = some (.int .i64 q) ∧ v.cell? ⟨b, off + i * 2 + s, none⟩ = some (.slice aj nj cj)) (go_keep) ((go_at_call 42; refine (HJ.out _ (by first | exact below_drew _ _ | exact Below.refl _ _)).mono ?_; rintro e wf ⟨rfl, hf⟩; have HF2 : Hid (Below wr.heap.size wr wf) := (by first | exact of_drew' hf | exact hf); obtain ⟨f0, f1, f2, f3, f4⟩ := CH.out wf HF2.out; clear hf))
                all_goals (
                  go_wp2_with fail
                  go_roundw
                  case rel => exact ⟨s + 1, u, by omega, by go_num, rfl, HB.out, below_then hbs.out HF2.out⟩
                  case measure => simp [intOf]; omega)
              · have h2d : decide (bes < u) = false := decide_eq_false h2
                have HB : Hid (Bst hj top (2 * i + (s + 1)) bes) := hbs'.out.pass (fun _ => by rw [HU.out]; omega)
                go_wp2_with fail
                go_region_held3 (fun v => v.cell? ⟨w.heap.size, 0, none⟩ = some (.int .i64 k) ∧ v.cell? ⟨w.heap.size, 1, none⟩ = some (.int .i64 r) ∧ v.cell? ⟨w.heap.size, 2, none⟩ = some (.int .i64 c) ∧ v.cell? ⟨w.heap.size, 3, none⟩ = some (.int .i64 q) ∧ v.cell? ⟨b, off + i * 2 + s, none⟩ = some (.slice aj nj cj)) (go_keep) ((go_at_call 42; refine (HJ.out _ (by first | exact below_drew _ _ | exact Below.refl _ _)).mono ?_; rintro e wf ⟨rfl, hf⟩; have HF2 : Hid (Below wr.heap.size wr wf) := (by first | exact of_drew' hf | exact hf); obtain ⟨f0, f1, f2, f3, f4⟩ := CH.out wf HF2.out; clear hf))
                all_goals (
                  go_wp2_with fail
                  go_roundw
                  case rel => exact ⟨s + 1, bes, by omega, by go_num, rfl, HB.out, below_then hbs.out HF2.out⟩
                  case measure => simp [intOf]; omega)
            · have h1d : decide (u < top) = false := decide_eq_false h1
              have HB : Hid (Bst hj top (2 * i + (s + 1)) bes) := hbs'.out.pass (fun g => by rw [HU.out] at g; exact absurd g h1)
              go_wp2_with fail
              go_region_held3 (fun v => v.cell? ⟨w.heap.size, 0, none⟩ = some (.int .i64 k) ∧ v.cell? ⟨w.heap.size, 1, none⟩ = some (.int .i64 r) ∧ v.cell? ⟨w.heap.size, 2, none⟩ = some (.int .i64 c) ∧ v.cell? ⟨w.heap.size, 3, none⟩ = some (.int .i64 q) ∧ v.cell? ⟨b, off + i * 2 + s, none⟩ = some (.slice aj nj cj)) (go_keep) ((go_at_call 42; refine (HJ.out _ (by first | exact below_drew _ _ | exact Below.refl _ _)).mono ?_; rintro e wf ⟨rfl, hf⟩; have HF2 : Hid (Below wr.heap.size wr wf) := (by first | exact of_drew' hf | exact hf); obtain ⟨f0, f1, f2, f3, f4⟩ := CH.out wf HF2.out; clear hf))
              all_goals (
                go_wp2_with fail
                go_roundw
                case rel => exact ⟨s + 1, bes, by omega, by go_num, rfl, HB.out, below_then hbs.out HF2.out⟩
                case measure => simp [intOf]; omega)
          · have k2 : ¬ (s : Int) < 2 := by omega
            have HB : Hid (Bst hj top (2 * (i + 1)) bes) := by
              have := hbs'.out
              rw [show s = 2 by omega] at this; exact this
            go_wp2_with fail
            go_roundw
            case rel => exact ⟨i + 1, bes, by omega, by go_num, rfl, HB.out, hbs.out⟩
            case measure => simp [intOf]; omega
      · have i2 : ¬ (i : Int) < (N : Int) := by omega
        have hbt := best_is HFALL.out HMEM.out (fun v hv => (HPOS.out v hv).1) htop.out (by have := hbst.out; rw [show i = N by omega] at this; exact this)
        have HWR : Hid (Below w0.heap.size w0 wr) := below_then hbw.out hbi.out
        have HTW : Hid (Tal w0.heap.size wr a cap ts (dv P Q N)) := htal.out.below hbi.out
        obtain ⟨wq, rfl⟩ : ∃ x, x = wr := ⟨wr, rfl⟩
        by_cases hz : best = 0
        · have hzz : (best == 0) = true := by simpa using hz
          have hml := hbt.1 hz
          clear hbt hz
          go_wp2_with fail
          go_ret
          refine ⟨a, cap, ts, by rw [← hmt.out]; rfl, ?_, ?_, below_then B0.out HWR.out⟩
          · exact HTW.out.mono B0.out.size
          · rw [hmap.out, List.take_of_length_le hml]
        · have hzz : (best == 0) = false := by simpa using hz
          have hv0 := hbt.2 hz
          have HV0 : Hid (tv[m]? = some best) := hv0
          have hpo := HPOS.out best (List.mem_of_getElem? hv0)
          have hml : m < tv.length := (List.getElem?_eq_some_iff.1 hv0).1
          have HNE : Hid (dl (hbv P Q best) N ≠ []) := by
            have := HTV.out ▸ List.mem_of_getElem? hv0
            exact (mem_tv.1 this).2
          clear hbt hv0
          obtain ⟨wt, hwt⟩ : ∃ wt, wt = wq.alloc (.cells #[.int .i64 best, .slice none 0 0] 40) := ⟨_, rfl⟩
          have hts : wt.heap.size = wq.heap.size + 1 := by rw [hwt]; simp
          have HTS : Hid (wt.heap.size = wq.heap.size + 1) := hts
          have HA0 : Hid (At wq wt wq.heap.size #[.int .i64 best, .slice none 0 0] 40) := at_made (Below.refl _ _) hwt
          have BT : Hid (Below wq.heap.size wq wt) := by show Below _ _ _; rw [hwt]; exact below_alloc _ _
          clear hts
          go_wp2_with fail
          rw [← hwt]
          clear hwt
          go_loopw [12] (fun y wx => ∃ (i : Nat) (ac : Option Addr) (nc cc : Nat), i ≤ N ∧ y = .int .i64 (i : Int) ∧ nc ≤ i ∧ Hid (At wq wx wq.heap.size #[.int .i64 best, .slice ac nc cc] 40) ∧ Hid (wx.ownsInts wt.heap.size 3 .i64 (.slice ac nc cc) (dl (hbv P Q best) i)) ∧ Hid (Below wq.heap.size wq wx)) (fun y _ => N - (intOf y).toNat)
          case atStart => exact ⟨0, none, 0, 0, Nat.zero_le _, rfl, Nat.le_refl _, HA0.out, World.ownsInts_nil _ _ _ _, BT.out⟩
          case round =>
            obtain ⟨n, ac, nc, cc, hen, rfl, hnc, hat, hoi, hbx⟩ := hrel
            have HX0 : Hid (Below w0.heap.size w0 wr) := below_then HWR.out hbx.out
            by_cases hel : n < N
            · have e1 : (0 : Int) ≤ (n : Int) := by omega
              have e2 : (n : Int) < (N : Int) := by omega
              obtain ⟨s0, s1, s2, s3⟩ := HC.out wr HX0.out
              have HHX := HHO.out wr b off n best (below_then B0.out HX0.out) (by trivial) hel (by omega)
              cases hb : hbv P Q best n
              · rw [hb] at HHX
                go_wp2_with fail
                refine HHX.mono ?_
                rintro e wy ⟨rfl, hy⟩
                have BY : Hid (Below wr.heap.size wr wy) := hy
                clear hy HHX s0 s1 s2 s3
                go_wp2_with fail
                go_roundw
                case rel =>
                  refine ⟨n + 1, ac, nc, cc, by omega, by go_num, by omega, hat.out.below BY.out, ?_, below_then hbx.out BY.out⟩
                  show World.ownsInts _ _ _ _ _ _
                  rw [dl, hb, if_neg (by decide)]; exact ownsInts_below hoi.out BY.out
                case measure => simp [intOf]; omega
              · rw [hb] at HHX
                go_wp2_with fail
                refine HHX.mono ?_
                rintro e wy ⟨rfl, hy⟩
                have BY : Hid (Below wr.heap.size wr wy) := hy
                have AY := hat.out.below hy
                have OY := ownsInts_below hoi.out hy
                have d1 := AY.cell (i := 1) rfl
                have hl2 := dl_few (hbv P Q best) n
                have BQY : Hid (Below wq.heap.size wq wy) := below_then hbx.out hy
                clear hy HHX s0 s1 s2 s3
                go_wp2_with (first
                  | (at_builtin; refine wpList_append_own_at _ rfl _ _ 33 rfl wt.heap.size 3 i0 (.int .i64 0) 1 8 Try.underlying33 hi0 ha0 ha1 ha2 rfl (by decide) _ _ _ rfl (OY.1.alloc _) ⟨wy.heap.size, 0, none⟩ 1 1 [.int .i64 (n : Int)] rfl rfl (cell_one_new _ _ _) (ints_oneCell .i64 [(n : Int)]) (by unfold maxLen; omega) (by omega) (by have := BY.out.size; have := hat.out.lt; have := HTS.out; simp; omega) ?_; intro v' w2 hown2 hgrow hnil hloc; obtain ⟨a3, cap3, rfl⟩ := own_form hown2; have A2 : At wq w2 wq.heap.size #[.int .i64 best, .slice ac nc cc] 40 := ⟨AY.1, (hgrow.block _ (AY.alloc _).lt (own_off OY.1 (by have := HTS.out; omega))).trans (AY.alloc _).2⟩; have m1 := A2.cell (i := 1) rfl; have mf := A2.free)
                  | go_in)
                have hap := OY.appended hown2 (WalkArith.wf_i64 (by omega))
                go_roundw
                case rel =>
                  refine ⟨n + 1, a3, (dl (hbv P Q best) n).length + 1, cap3, by omega, by go_num, by omega, ?_, ?_, ?_⟩
                  · exact A2.set 1 _
                  · show World.ownsInts _ _ _ _ _ _
                    rw [dl, hb, if_pos rfl]; exact ints_set hap (by have := HTS.out; omega)
                  · exact b_at ((b_alloc BQY.out _).grown hgrow (by have := BQY.out.size; simp; omega) (fun j hj => by have := (OY.1.lt j hj).1; have := HTS.out; omega)) (Nat.le_refl _) _
                case measure => simp [intOf]; omega
            · have e2 : ¬ (n : Int) < (N : Int) := by omega
              have hnN : n = N := by omega
              have HOI : Hid (wr.ownsInts wt.heap.size 3 .i64 (.slice ac nc cc) (dl (hbv P Q best) N)) := by rw [hnN] at hoi; exact hoi.out
              have d0 := hat.out.cell (i := 0) rfl
              have d1 := hat.out.cell (i := 1) rfl
              have HTX : Hid (Tal w0.heap.size wr a cap ts (dv P Q N)) := HTW.out.below hbx.out
              have hrowx := HTX.out.row
              rw [← hmt.out] at hrowx
              clear hnN
              go_wp2_with (first
                | (at_builtin; refine wpList_append_own_at _ rfl _ _ 27 rfl w0.heap.size 40 j0 (.agg #[.int .i64 0, .slice none 0 0]) 2 32 Try.underlying27 hj0 hb0 hb1 hb2 rfl (by decide) _ _ _ rfl (hrowx.alloc _) ⟨wr.heap.size, 0, none⟩ 1 1 [.int .i64 best, .slice ac nc cc] rfl rfl (mkcells _ _ _ _) (by simp [Value.oneCell']) (by unfold maxLen; omega) (by omega) (by have := HX0.out.size; simp; omega) ?_; intro v' w2 hown2 hgrow hnil hloc; obtain ⟨a3, cap3, rfl⟩ := own_form hown2)
                | go_in)
              go_roundw
              case rel =>
                refine ⟨m + 1, a3, cap3, ts ++ [(best, ac, nc, cc)], best, rfl, rfl, by omega, ?_, ?_, top_next HFALL.out HV0.out, ?_, ?_⟩
                · show _ = _
                  rw [List.length_append, ← hmt.out]; rfl
                · show _ = _
                  rw [List.map_append, hmap.out, List.take_add_one, HV0.out]; rfl
                · refine ⟨?_, fun t ht => ?_, ?_⟩
                  · rw [List.length_append, ← hmt.out, tF_append]; exact hown2
                  · rcases List.mem_append.1 ht with ht | ht
                    · exact (HTX.out.cel t ht).alloc _ |>.kept hgrow (rows_apart hrowx (HTX.out.cel t ht).1)
                    · obtain rfl : t = (best, ac, nc, cc) := by simpa using ht
                      exact ints_mono ((HOI.out.alloc _).kept hgrow (rows_apart hrowx HOI.out.1)) (by have := HWR.out.size; have := HTS.out; omega)
                  · refine List.pairwise_append.2 ⟨HTX.out.far, List.pairwise_singleton _ _, fun s hs t ht => ?_⟩
                    obtain rfl : t = (best, ac, nc, cc) := by simpa using ht
                    obtain ⟨gg, cg, hg1, hg2, hg3⟩ := ints_form HOI.out HNE.out
                    show (sv s.2).ownBlock ≠ (Value.slice ac nc cc).ownBlock
                    rw [hg1]
                    intro hee
                    have := ((HTW.out.cel s hs).1.lt gg hee).2
                    have := HTS.out
                    omega
                · exact (b_alloc HX0.out _).grown hgrow (by have := HX0.out.size; simp; omega) (fun j hj => (hrowx.lt j hj).1)
              case measure => simp [slLen]; omega
end Go.Proofs.Ytmlnbnbgkpbjeaa
