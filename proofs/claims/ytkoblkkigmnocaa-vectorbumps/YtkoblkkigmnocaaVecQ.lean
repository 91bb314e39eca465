/- VectorBumps: a bumped vector is unlike the old one in just the cells that were named. -/
import Derived.Test.YtkoblkkigmnocaaVecN
namespace Go.Proofs.Ytkoblkkigmnocaa
open Go.RowKit

set_option maxHeartbeats 20000000 in
set_option maxRecDepth 100000 in
theorem bumps_good {k r c' q : Int} {n W : Nat} (h : Par k r c' q n W 0) (w : World) (ao bo co : Option Addr) (ca l cb m cc : Nat) (V X C : Nat → Int) (hv : Vec w ao n ca V) (hx : Vec w bo l cb X) (hc : Vec w co m cc C)
    (eV : erV 0 n n V = 0) (M : Int) (hM : mx V n = M) (hM1 : M < 1073741824) (hmn : m ≤ n) (hcel : ∀ j, j < m → 0 ≤ C j ∧ C j < (n : Int)) (hl : l ≤ 200) :
    Calls Try.prog 7 #[.agg #[.int .i64 k, .int .i64 r, .int .i64 c', .int .i64 q], .slice ao n ca, .slice bo l cb, .slice co m cc] w fun e w' => e = .returned (.bool true) ∧ Below w.heap.size w w' := by
  obtain ⟨F, hF⟩ : ∃ F, F = bmp C (M + 1) V m := ⟨_, rfl⟩
  have hle : ∀ i, i < n → V i ≤ M := fun i hi => by rw [← hM]; exact mx_le i hi
  have hM0 : 0 ≤ M := by rw [← hM]; exact mx_nonneg V n
  have eF : erV 0 n n F = 0 := by rw [hF]; exact bmp_er eV (by omega) (by omega)
  have pF : leB n V F = true := by rw [hF]; exact bmp_le hle
  have hdm : ∀ i, i < n → dif V F i = mb C m i := fun i hi => by rw [hF]; exact dif_mb hle i hi
  obtain ⟨L, hL⟩ : ∃ L, cnt (mb C m) n = L := ⟨_, rfl⟩
  obtain ⟨U, hU⟩ : ∃ U, sel (mb C m) n = U := ⟨_, rfl⟩
  have hL' : cnt (dif V F) n = L := by rw [cnt_congr hdm]; exact hL
  have hU' : sel (dif V F) n = U := by rw [sel_congr hdm]; exact hU
  obtain ⟨y, hy⟩ : ∃ y, mx F n = y := ⟨_, rfl⟩
  have hyc : (m = 0 ∧ y = M) ∨ (0 < m ∧ y = M + 1) := by
    by_cases hm0 : m = 0
    · subst hm0; left; refine ⟨rfl, ?_⟩; rw [← hy, hF, ← hM]; rfl
    · right; refine ⟨by omega, ?_⟩; rw [← hy, hF, ← hM]; exact bmp_last (by omega) hcel
  have hn := h.few
  have hn1 := h.some rfl
  obtain ⟨E3, hE3⟩ : ∃ E, er2 0 n n V l X = E := ⟨_, rfl⟩
  have CL1 := fun w (hv : Vec w ao n ca V) => toldI (Last_any h w ao n ca V hv (by omega) 0 eV) hM
  have CBp := fun w (hv : Vec w ao n ca V) (hc : Vec w co m cc C) => got (Bump_any h w ao co n ca m cc V C (M + 1) hv hc (by omega) (by omega) 0 (erB_ok eV hmn hcel ⟨by omega, by omega⟩)) rfl
  rw [← hF] at CBp
  have CU := fun w go gc (hv : Vec w ao n ca V) (hb : Vec w go n gc F) => got (Unlike_any h w ao go n ca n gc V F hv hb (by omega) (by omega) 0 (er2_ok eV eF)) hL'
  rw [hU'] at CU
  have CL2 := fun w go gc (hb : Vec w go n gc F) => toldI (Last_any h w go n gc F hb (by omega) 0 eF) hy
  have CBl := fun w go gc (hv : Vec w ao n ca V) (hb : Vec w go n gc F) => toldB (Below_any h w ao go n ca n gc V F hv hb (by omega) (by omega) 0 (er2_ok eV eF)) pF
  have CD := fun w (hv : Vec w ao n ca V) (hx : Vec w bo l cb X) => Unlike_any h w ao bo n ca l cb V X hv hx (by omega) (by omega) E3 hE3
  have CN : Hid (∀ (eX : erV 0 n n X = 0) w no nc qo (D : Nat → Int) t (c : Nat), c < n → D t = (c : Int) → Vec w no n nc (upd D V X t) → Vec w qo 1 1 (fun _ => (c : Int)) → Calls Try.prog 12 #[.agg #[.int .i64 k, .int .i64 r, .int .i64 c', .int .i64 q], .slice no n nc, .slice qo 1 1, .int .i64 (X c)] w (Got w n (upd D V X (t + 1)))) := fun eX w no nc qo D t c hcn hD hv hq => by
    have hb := (erV_of eX).2.2 c hcn
    refine (got (Bump_any h w no qo n nc 1 1 (upd D V X t) (fun _ => (c : Int)) (X c) hv hq (by omega) (by omega) 0 (erB_ok (upd_er eV eX) hn1 (fun _ _ => ⟨by omega, by omega⟩) hb)) rfl).mono fun e w' ⟨o1, o2, h1, h2, h3⟩ => ?_
    exact ⟨o1, o2, h1, h2.congr fun i _ => upd_step hD i, h3⟩
  unfold Got at CBp CU
  unfold Ans at CD
  have HPS : Hid (∀ i, i < n → mb C m i = true → cnt (mb C m) i < L ∧ U (cnt (mb C m) i) = (i : Int)) := fun i hi hp => by rw [← hL, ← hU]; exact sel_at (mb C m) n i hi hp
  have HPN : Hid (cnt (mb C m) n = L) := hL
  have HEV : Hid (erV 0 n n V = 0) := eV
  have HE3 : Hid (er2 0 n n V l X = E3) := hE3
  have HCEL : Hid (∀ j, j < m → 0 ≤ C j ∧ C j < (n : Int)) := hcel
  have lL : L ≤ n := by rw [← hL]; exact cnt_le _ _
  have hMQ : (M == 1073741824) = false := by simp; omega
  have hm := run_make_row' (P := Try.prog) 43 4 (.bool false) 1 Try.underlying43 info4 rfl .i64 .i64 n (by omega) (by omega)
  have HMK : Hid (∀ w, (Instr.makeSlice 43 (.int .i64 (n : Int)) (.int .i64 (n : Int))).run Try.prog w = .ok (.slice (some ⟨w.heap.size, 0, none⟩) n n) (w.alloc (.cells (madeCells #[.bool false] n) 4))) := hm
  have HV0 : Hid (Vec w ao n ca V) := hv
  have HX0 : Hid (Vec w bo l cb X) := hx
  have HC0 : Hid (Vec w co m cc C) := hc
  have hwM1 : M + 1 ≤ 1073741824 := by omega
  clear hm hL hU hL' hU' hdm hle pF eF hF hy hM hE3 eV hcel hv hx hc h
  obtain ⟨ld, hld0⟩ : ∃ ld, lenE E3 (cnt (dif V X) n) = ld := ⟨_, rfl⟩
  rw [hld0] at CD
  have HLD : Hid (lenE E3 (cnt (dif V X) n) = ld) := hld0
  clear hld0
  obtain ⟨w0, hw0⟩ : ∃ w0, w0 = w.alloc (.cells #[.int .i64 k, .int .i64 r, .int .i64 c', .int .i64 q] 24) := ⟨_, rfl⟩
  have b0 : Below w.heap.size w w0 := by rw [hw0]; exact below_alloc _ _
  have i1 : (n : Int) ≤ 200 := by omega
  have i2 : (l : Int) ≤ 200 := by omega
  have i3 : (m : Int) ≤ 200 := by omega
  have HMB : Hid (∀ o, mb C m o = true ∨ mb C m o = false) := fun o => by cases mb C m o; exact .inr rfl; exact .inl rfl
  rcases hyc with ⟨hm0, hyv⟩ | ⟨hm0, hyv⟩
  · have d1 : ¬ (0 : Int) < (m : Int) := by omega
    have d2 : ((m : Int) == 0) = true := by simp; omega
    have d3 : (y != M) = false := by simpa using hyv
    clear hm0 hyv
    go_enter Try.func7, Try.ntmps7
    go_wp2_with fail
    rw [← hw0]
    refine (alive_any _).mono ?_
    rintro e vb ⟨rfl, g0⟩
    have B0b : Hid (Below w0.heap.size w0 vb) := g0
    have HWB : Hid (Below w.heap.size w vb) := below_then b0 g0
    have HV : Hid (Vec vb ao n ca V) := HV0.out.below HWB.out
    have HX : Hid (Vec vb bo l cb X) := HX0.out.below HWB.out
    have HC : Hid (Vec vb co m cc C) := HC0.out.below HWB.out
    have KB : Hid (Below vb.heap.size vb vb) := Below.refl _ _
    clear g0 HV0 HX0 HC0 b0
    obtain ⟨s0, s1, s2, s3⟩ := par_held hw0 (below_then B0b.out KB.out)
    go_wp2_with fail
    refine (CL1 _ ?_).mono ?_
    · exact HV.out.below KB.out
    rintro e v0 ⟨rfl, gg⟩
    have z1 : vb.heap.size ≤ v0.heap.size := gg.size
    have KB2 := below_then KB.out gg
    clear KB s0 s1 s2 s3
    have KB : Hid (Below vb.heap.size vb v0) := KB2
    clear KB2 gg
    obtain ⟨s0, s1, s2, s3⟩ := par_held hw0 (below_then B0b.out KB.out)
    go_wp2_with fail
    refine (CBp _ ?_ ?_).mono ?_
    · exact HV.out.below KB.out
    · exact HC.out.below KB.out
    rintro e v1 ⟨fo, fc, rfl, ho, gg⟩
    have z2 : v0.heap.size ≤ v1.heap.size := gg.size
    have OF : Hid (Own v0.heap.size v1 fo n fc (F)) := ho
    have TOF : Hid (∀ g, fo = some ⟨g, 0, none⟩ → v0.heap.size ≤ g ∧ g < v1.heap.size) := Own.lt_any ho
    clear ho
    have KB2 := below_then KB.out gg
    clear KB s0 s1 s2 s3
    have KB : Hid (Below vb.heap.size vb v1) := KB2
    clear KB2 gg
    obtain ⟨s0, s1, s2, s3⟩ := par_held hw0 (below_then B0b.out KB.out)
    go_wp2_with fail
    refine (CU _ _ _ ?_ ?_).mono ?_
    · exact HV.out.below KB.out
    · exact OF.out.vec
    rintro e v2 ⟨uo, uc, rfl, ho, gg⟩
    have z3 : v1.heap.size ≤ v2.heap.size := gg.size
    replace OF : Hid (Own v0.heap.size v2 fo n fc (F)) := OF.out.below gg
    have OU : Hid (Own v1.heap.size v2 uo L uc (U)) := ho
    have TOU : Hid (∀ g, uo = some ⟨g, 0, none⟩ → v1.heap.size ≤ g ∧ g < v2.heap.size) := Own.lt_any ho
    clear ho
    have KB2 := below_then KB.out gg
    clear KB s0 s1 s2 s3
    have KB : Hid (Below vb.heap.size vb v2) := KB2
    clear KB2 gg
    obtain ⟨s0, s1, s2, s3⟩ := par_held hw0 (below_then B0b.out KB.out)
    go_wp2_with fail
    refine (CL2 _ _ _ ?_).mono ?_
    · exact OF.out.vec
    rintro e v3 ⟨rfl, gg⟩
    have z4 : v2.heap.size ≤ v3.heap.size := gg.size
    replace OF : Hid (Own v0.heap.size v3 fo n fc (F)) := OF.out.below gg
    replace OU : Hid (Own v1.heap.size v3 uo L uc (U)) := OU.out.below gg
    have KB2 := below_then KB.out gg
    clear KB s0 s1 s2 s3
    have KB : Hid (Below vb.heap.size vb v3) := KB2
    clear KB2 gg
    obtain ⟨s0, s1, s2, s3⟩ := par_held hw0 (below_then B0b.out KB.out)
    go_wp2_with fail
    refine (CBl _ _ _ ?_ ?_).mono ?_
    · exact HV.out.below KB.out
    · exact OF.out.vec
    rintro e v4 ⟨rfl, gg⟩
    have z5 : v3.heap.size ≤ v4.heap.size := gg.size
    replace OF : Hid (Own v0.heap.size v4 fo n fc (F)) := OF.out.below gg
    replace OU : Hid (Own v1.heap.size v4 uo L uc (U)) := OU.out.below gg
    have KB2 := below_then KB.out gg
    clear KB s0 s1 s2 s3
    have KB : Hid (Below vb.heap.size vb v4) := KB2
    clear KB2 gg
    obtain ⟨s0, s1, s2, s3⟩ := par_held hw0 (below_then B0b.out KB.out)
    obtain ⟨wm, hwm⟩ : ∃ wm, wm = v4.alloc (.cells (madeCells #[.bool false] n) 4) := ⟨_, rfl⟩
    have hmk := HMK.out v4
    rw [← hwm] at hmk
    have HMR : Hid (wm.rowIs v4.heap.size 4 n (fun i => .bool (mb C 0 i))) := by rw [hwm]; exact World.rowIs_made v4 _ n 4
    have HMB2 : Hid (Below v4.heap.size v4 wm) := by rw [hwm]; exact below_alloc _ _
    clear hwm HMK
    clear s0 s1 s2 s3
    go_wp2_with fail
    try simp only [decide_eq_false (show ¬ (200 : Int) < (n : Int) by omega)]
    try simp only [decide_eq_false (show ¬ (200 : Int) < (l : Int) by omega)]
    try simp only [decide_eq_false (show ¬ (200 : Int) < (m : Int) by omega)]
    go_loopw [20] (fun x wr => ∃ j : Nat, j ≤ m ∧ x = .int .i64 (j : Int) ∧ Hid (wr.rowIs v4.heap.size 4 n (fun i => .bool (mb C j i))) ∧ Hid (Below v4.heap.size v4 wr)) (fun x _ => m - (intOf x).toNat)
    case atStart => exact ⟨0, Nat.zero_le _, rfl, HMR.out, HMB2.out⟩
    case round =>
      obtain ⟨j, hj, rfl, hrow, hbel⟩ := hrel
      by_cases hlt : j < m
      · exfalso; omega
      · obtain rfl : j = m := by omega
        have HROW : Hid (wr.rowIs v4.heap.size 4 n (fun i => .bool (mb C j i))) := hrow
        have HWR : Hid (Below v4.heap.size v4 wr) := hbel
        clear hrow hbel
        obtain ⟨wn, rfl⟩ : ∃ x, x = wr := ⟨wr, rfl⟩
        go_wp2
        go_loop [21, 22] (fun kv x => ∃ i : Nat, i ≤ n ∧ x = .int .i64 (i : Int) ∧ ∃ t : Nat, kv = .int .i64 (t : Int) ∧ t ≤ i ∧ Hid (t = cnt (mb C j) i)) (fun _ x => n - (intOf x).toNat)
        case atStart => exact ⟨0, Nat.zero_le _, rfl, 0, rfl, Nat.le_refl _, rfl⟩
        case round =>
          obtain ⟨i, hi, rfl, t, rfl, hti, ht⟩ := hrel
          by_cases hlt2 : i < n
          · have ck := HROW.out.cell hlt2
            have j1 : (0 : Int) ≤ (i : Int) := by omega
            have j2 : (i : Int) < (n : Int) := by omega
            rcases HMB.out i with hp | hp
            · simp only [hp] at ck
              obtain ⟨hk1, hk2⟩ := HPS.out i hlt2 hp
              rw [← ht.out] at hk1 hk2
              obtain ⟨b, off, hbo, hcc⟩ := (OU.out.below HWR.out).vec.rd (by omega)
              have cu := hcc t hk1
              rw [hk2] at cu
              have hbn : ((i : Int) != (i : Int)) = false := by simp
              have t1 : (0 : Int) ≤ (t : Int) := by omega
              have t2 : (t : Int) < (L : Int) := by omega
              have t3 : ¬ (L : Int) ≤ (t : Int) := by omega
              have HT2 : Hid (t + 1 = cnt (mb C j) (i + 1)) := by show _ = _; rw [cnt_yes hp, ht.out]
              clear hcc hp hk2
              subst hbo
              go_wp2
              go_round
              case rel => exact ⟨i + 1, by omega, by go_num, t + 1, by go_num, by omega, HT2.out⟩
              case measure => simp [intOf]; omega
            · simp only [hp] at ck
              have HT2 : Hid (t = cnt (mb C j) (i + 1)) := by show _ = _; rw [cnt_no hp]; exact ht.out
              clear hp
              go_wp2
              go_round
              case rel => exact ⟨i + 1, by omega, by go_num, t, by go_num, by omega, HT2.out⟩
              case measure => simp [intOf]; omega
          · obtain rfl : i = n := by omega
            obtain rfl : t = L := by rw [ht.out]; exact HPN.out
            have hbn : ((t : Int) != (t : Int)) = false := by simp
            have KB3 : Hid (Below vb.heap.size vb wn) := below_then KB.out HWR.out
            obtain ⟨s0, s1, s2, s3⟩ := par_held hw0 (below_then B0b.out KB3.out)
            go_wp2_with fail
            refine (CD _ (HV.out.below KB3.out) (HX.out.below KB3.out)).mono ?_
            rintro e vd ⟨do_, dc, rfl, hod, gd⟩
            have KD : Hid (Below vb.heap.size vb vd) := below_then KB3.out gd
            have HOD0 : Hid (Own wn.heap.size vd do_ ld dc (sel (dif V X) i)) := hod
            clear s0 s1 s2 s3 hod gd
            by_cases he : E3 = 0
            · subst he
              obtain ⟨_, eX⟩ := er2_of HE3.out
              obtain ⟨_, hln, _⟩ := erV_of eX
              subst hln
              have HEX : Hid (erV 0 l l X = 0) := eX
              have hld2 : ld = cnt (dif V X) l := by rw [← HLD.out]; exact lenE_zero _
              obtain ⟨D, hD⟩ : ∃ D, D = sel (dif V X) l := ⟨_, rfl⟩
              have HDS : Hid (∀ t, t < ld → ∃ cx : Nat, cx < l ∧ D t = (cx : Int)) := fun t ht => by
                rw [hld2] at ht
                obtain ⟨cx, h1, h2, _⟩ := sel_spec (dif V X) l t ht
                exact ⟨cx, h1, by rw [hD]; exact h2⟩
              have HEND : Hid (sameB l l (upd D V X ld) X = true) := by
                show _ = _
                rw [hD, hld2]; exact upd_end V X l
              have HOD : Hid (Own wn.heap.size vd do_ ld dc D) := by rw [hD]; exact HOD0.out
              have hldl : ld ≤ l := by rw [hld2]; exact cnt_le _ _
              clear hld2 hD HOD0 eX
              have SP : Hid (∀ w', Below vd.heap.size vd w' → w'.cell? ⟨w.heap.size, 0, none⟩ = some (.int .i64 k) ∧ w'.cell? ⟨w.heap.size, 1, none⟩ = some (.int .i64 r) ∧ w'.cell? ⟨w.heap.size, 2, none⟩ = some (.int .i64 c') ∧ w'.cell? ⟨w.heap.size, 3, none⟩ = some (.int .i64 q)) := fun w' hb => par_held hw0 (below_then B0b.out (below_then KD.out hb))
              go_wp2_with fail
              go_loopw [24, 25] (fun nv x wr => ∃ t : Nat, t ≤ ld ∧ x = .int .i64 (t : Int) ∧ (∃ no nc, nv = .slice no l nc ∧ Hid (Vec wr no l nc (upd D V X t))) ∧ Hid (Below vd.heap.size vd wr)) (fun _ x _ => ld - (intOf x).toNat)
              case atStart => exact ⟨0, Nat.zero_le _, rfl, ⟨ao, ca, rfl, HV.out.below KD.out⟩, Below.refl _ _⟩
              case round =>
                obtain ⟨t, htl, rfl, ⟨no, nc, rfl, hnow⟩, hbel⟩ := hrel
                by_cases hlt3 : t < ld
                · obtain ⟨bd, offd, hbd, hcd⟩ := (HOD.out.below hbel.out).vec.rd (by omega)
                  obtain ⟨cx, hcx, hDt⟩ := HDS.out t hlt3
                  have cd := hcd t hlt3
                  rw [hDt] at cd
                  obtain ⟨bx, offx, hbx, hcxx⟩ := (HX.out.below (below_then KD.out hbel.out)).rd (by omega)
                  have cxx := hcxx cx hcx
                  have HDT : Hid (D t = (cx : Int)) := hDt
                  have HCD : Hid (wr.cell? ⟨bd, offd + t, none⟩ = some (.int .i64 (cx : Int))) := cd
                  have HCX : Hid (wr.cell? ⟨bx, offx + cx, none⟩ = some (.int .i64 (X cx))) := cxx
                  subst hbd hbx
                  obtain ⟨s0, s1, s2, s3⟩ := SP.out _ hbel.out
                  have j1 : (0 : Int) ≤ (t : Int) := by omega
                  have j2 : (t : Int) < (ld : Int) := by omega
                  have j3 : (0 : Int) ≤ (cx : Int) := by omega
                  have j4 : (cx : Int) < (l : Int) := by omega
                  have HB1 : Hid (∀ o, Below wr.heap.size wr ((wr.alloc o).drew)) := fun o => below_then (below_alloc _ _) (below_drew _ _)
                  have HQ1 : Hid (Vec ((wr.alloc (.cells #[.int .i64 (cx : Int)] 3)).drew) (some ⟨wr.heap.size, 0, none⟩) 1 1 (fun _ => (cx : Int))) := (vec_one (cx : Int)).below (below_drew _ _)
                  clear hcd hcxx hDt
                  go_wp2_with fail
                  go_region_held3 (fun w' => w'.cell? ⟨w.heap.size, 0, none⟩ = some (.int .i64 k) ∧ w'.cell? ⟨w.heap.size, 1, none⟩ = some (.int .i64 r) ∧ w'.cell? ⟨w.heap.size, 2, none⟩ = some (.int .i64 c') ∧ w'.cell? ⟨w.heap.size, 3, none⟩ = some (.int .i64 q) ∧ w'.cell? ⟨bd, offd + t, none⟩ = some (.int .i64 (cx : Int)) ∧ w'.cell? ⟨bx, offx + cx, none⟩ = some (.int .i64 (X cx))) (go_keep)
                    ((first | (go_at_call 12; refine (CN.out HEX.out _ _ _ _ D t cx hcx HDT.out (hnow.out.below (HB1.out _)) HQ1.out).mono ?_; rintro e x1 ⟨no2, nc2, rfl, ho2, g2⟩; have G2 : Hid (Below wr.heap.size wr x1) := below_then (HB1.out _) g2; obtain ⟨u0, u1, u2, u3⟩ := SP.out _ (below_then hbel.out G2.out); have u4 := held HCD.out G2.out; have u5 := held HCX.out G2.out)))
                  have HN2 : Hid (Vec x1 no2 l nc2 (upd D V X (t + 1))) := ho2.vec
                  have HB2 : Hid (Below vd.heap.size vd x1) := below_then hbel.out G2.out
                  clear ho2 g2 u0 u1 u2 u3 u4 u5 G2 s0 s1 s2 s3 cd cxx HQ1 HB1 hnow
                  go_wp2
                  go_roundw
                  case rel => exact ⟨t + 1, by omega, by go_num, ⟨no2, nc2, rfl, HN2.out⟩, HB2.out⟩
                  case measure => simp [intOf]; omega
                · obtain rfl : t = ld := by omega
                  obtain ⟨wf, rfl⟩ : ∃ x, x = wr := ⟨wr, rfl⟩
                  go_wp2_with fail
                  refine (isB (Same_any _ no bo l nc l cb (upd D V X t) X (hnow.out).rd (HX.out.below (below_then KD.out hbel.out)).rd (by omega) (by omega)) HEND.out).mono ?_
                  rintro e vf ⟨rfl, hq⟩
                  have gf := below_q hq
                  clear hq
                  go_wp2_with fail
                  go_ret
                  exact ⟨rfl, below_then HWB.out (below_then KD.out (below_then hbel.out gf))⟩
            · have hne : (E3 != 0) = true := by simpa using he
              clear he
              go_wp2_with fail
              go_ret
              exact ⟨rfl, below_then HWB.out KD.out⟩

  · have d1 : (0 : Int) < (m : Int) := by omega
    have d2 : ((m : Int) == 0) = false := by simp; omega
    have d3 : (y != M + 1) = false := by simpa using hyv
    clear hm0 hyv
    go_enter Try.func7, Try.ntmps7
    go_wp2_with fail
    rw [← hw0]
    refine (alive_any _).mono ?_
    rintro e vb ⟨rfl, g0⟩
    have B0b : Hid (Below w0.heap.size w0 vb) := g0
    have HWB : Hid (Below w.heap.size w vb) := below_then b0 g0
    have HV : Hid (Vec vb ao n ca V) := HV0.out.below HWB.out
    have HX : Hid (Vec vb bo l cb X) := HX0.out.below HWB.out
    have HC : Hid (Vec vb co m cc C) := HC0.out.below HWB.out
    have KB : Hid (Below vb.heap.size vb vb) := Below.refl _ _
    clear g0 HV0 HX0 HC0 b0
    obtain ⟨s0, s1, s2, s3⟩ := par_held hw0 (below_then B0b.out KB.out)
    go_wp2_with fail
    refine (CL1 _ ?_).mono ?_
    · exact HV.out.below KB.out
    rintro e v0 ⟨rfl, gg⟩
    have z1 : vb.heap.size ≤ v0.heap.size := gg.size
    have KB2 := below_then KB.out gg
    clear KB s0 s1 s2 s3
    have KB : Hid (Below vb.heap.size vb v0) := KB2
    clear KB2 gg
    obtain ⟨s0, s1, s2, s3⟩ := par_held hw0 (below_then B0b.out KB.out)
    go_wp2_with fail
    refine (CBp _ ?_ ?_).mono ?_
    · exact HV.out.below KB.out
    · exact HC.out.below KB.out
    rintro e v1 ⟨fo, fc, rfl, ho, gg⟩
    have z2 : v0.heap.size ≤ v1.heap.size := gg.size
    have OF : Hid (Own v0.heap.size v1 fo n fc (F)) := ho
    have TOF : Hid (∀ g, fo = some ⟨g, 0, none⟩ → v0.heap.size ≤ g ∧ g < v1.heap.size) := Own.lt_any ho
    clear ho
    have KB2 := below_then KB.out gg
    clear KB s0 s1 s2 s3
    have KB : Hid (Below vb.heap.size vb v1) := KB2
    clear KB2 gg
    obtain ⟨s0, s1, s2, s3⟩ := par_held hw0 (below_then B0b.out KB.out)
    go_wp2_with fail
    refine (CU _ _ _ ?_ ?_).mono ?_
    · exact HV.out.below KB.out
    · exact OF.out.vec
    rintro e v2 ⟨uo, uc, rfl, ho, gg⟩
    have z3 : v1.heap.size ≤ v2.heap.size := gg.size
    replace OF : Hid (Own v0.heap.size v2 fo n fc (F)) := OF.out.below gg
    have OU : Hid (Own v1.heap.size v2 uo L uc (U)) := ho
    have TOU : Hid (∀ g, uo = some ⟨g, 0, none⟩ → v1.heap.size ≤ g ∧ g < v2.heap.size) := Own.lt_any ho
    clear ho
    have KB2 := below_then KB.out gg
    clear KB s0 s1 s2 s3
    have KB : Hid (Below vb.heap.size vb v2) := KB2
    clear KB2 gg
    obtain ⟨s0, s1, s2, s3⟩ := par_held hw0 (below_then B0b.out KB.out)
    go_wp2_with fail
    refine (CL2 _ _ _ ?_).mono ?_
    · exact OF.out.vec
    rintro e v3 ⟨rfl, gg⟩
    have z4 : v2.heap.size ≤ v3.heap.size := gg.size
    replace OF : Hid (Own v0.heap.size v3 fo n fc (F)) := OF.out.below gg
    replace OU : Hid (Own v1.heap.size v3 uo L uc (U)) := OU.out.below gg
    have KB2 := below_then KB.out gg
    clear KB s0 s1 s2 s3
    have KB : Hid (Below vb.heap.size vb v3) := KB2
    clear KB2 gg
    obtain ⟨s0, s1, s2, s3⟩ := par_held hw0 (below_then B0b.out KB.out)
    go_wp2_with fail
    refine (CBl _ _ _ ?_ ?_).mono ?_
    · exact HV.out.below KB.out
    · exact OF.out.vec
    rintro e v4 ⟨rfl, gg⟩
    have z5 : v3.heap.size ≤ v4.heap.size := gg.size
    replace OF : Hid (Own v0.heap.size v4 fo n fc (F)) := OF.out.below gg
    replace OU : Hid (Own v1.heap.size v4 uo L uc (U)) := OU.out.below gg
    have KB2 := below_then KB.out gg
    clear KB s0 s1 s2 s3
    have KB : Hid (Below vb.heap.size vb v4) := KB2
    clear KB2 gg
    obtain ⟨s0, s1, s2, s3⟩ := par_held hw0 (below_then B0b.out KB.out)
    obtain ⟨wm, hwm⟩ : ∃ wm, wm = v4.alloc (.cells (madeCells #[.bool false] n) 4) := ⟨_, rfl⟩
    have hmk := HMK.out v4
    rw [← hwm] at hmk
    have HMR : Hid (wm.rowIs v4.heap.size 4 n (fun i => .bool (mb C 0 i))) := by rw [hwm]; exact World.rowIs_made v4 _ n 4
    have HMB2 : Hid (Below v4.heap.size v4 wm) := by rw [hwm]; exact below_alloc _ _
    clear hwm HMK
    clear s0 s1 s2 s3
    go_wp2_with fail
    try simp only [decide_eq_false (show ¬ (200 : Int) < (n : Int) by omega)]
    try simp only [decide_eq_false (show ¬ (200 : Int) < (l : Int) by omega)]
    try simp only [decide_eq_false (show ¬ (200 : Int) < (m : Int) by omega)]
    go_loopw [20] (fun x wr => ∃ j : Nat, j ≤ m ∧ x = .int .i64 (j : Int) ∧ Hid (wr.rowIs v4.heap.size 4 n (fun i => .bool (mb C j i))) ∧ Hid (Below v4.heap.size v4 wr)) (fun x _ => m - (intOf x).toNat)
    case atStart => exact ⟨0, Nat.zero_le _, rfl, HMR.out, HMB2.out⟩
    case round =>
      obtain ⟨j, hj, rfl, hrow, hbel⟩ := hrel
      by_cases hlt : j < m
      · obtain ⟨b, off, rfl, hcc⟩ := (HC.out.below (below_then KB.out hbel.out)).rd (by omega)
        have ck := hcc j hlt
        obtain ⟨hc0, hc1⟩ := HCEL.out j hlt
        obtain ⟨cj, hcj⟩ := Int.eq_ofNat_of_zero_le hc0
        have HCJ : Hid (C j = (cj : Int)) := hcj
        rw [hcj] at ck hc1
        have j1 : (0 : Int) ≤ (j : Int) := by omega
        have j2 : (j : Int) < (m : Int) := by omega
        have j3 : (0 : Int) ≤ (cj : Int) := by omega
        have hcn : cj < n := by omega
        have d1 := hrow.out.cell hcn
        have z1 := hrow.out.frozen cj
        have HO2 : Hid ((wr.setCell ⟨v4.heap.size, cj, none⟩ (.bool true)).rowIs v4.heap.size 4 n (fun i => .bool (mb C (j + 1) i))) := (hrow.out.set cj (.bool true)).congr (fun i _ => mb_step HCJ.out i)
        have HB2 : Hid (Below v4.heap.size v4 (wr.setCell ⟨v4.heap.size, cj, none⟩ (.bool true))) := hbel.out.setCell (Nat.le_refl _) _
        clear hcc hcj hc0
        go_wp2
        go_roundw
        case rel => exact ⟨j + 1, by omega, by go_num, HO2.out, HB2.out⟩
        case measure => simp [intOf]; omega
      · obtain rfl : j = m := by omega
        have HROW : Hid (wr.rowIs v4.heap.size 4 n (fun i => .bool (mb C j i))) := hrow
        have HWR : Hid (Below v4.heap.size v4 wr) := hbel
        clear hrow hbel
        obtain ⟨wn, rfl⟩ : ∃ x, x = wr := ⟨wr, rfl⟩
        go_wp2
        go_loop [21, 22] (fun kv x => ∃ i : Nat, i ≤ n ∧ x = .int .i64 (i : Int) ∧ ∃ t : Nat, kv = .int .i64 (t : Int) ∧ t ≤ i ∧ Hid (t = cnt (mb C j) i)) (fun _ x => n - (intOf x).toNat)
        case atStart => exact ⟨0, Nat.zero_le _, rfl, 0, rfl, Nat.le_refl _, rfl⟩
        case round =>
          obtain ⟨i, hi, rfl, t, rfl, hti, ht⟩ := hrel
          by_cases hlt2 : i < n
          · have ck := HROW.out.cell hlt2
            have j1 : (0 : Int) ≤ (i : Int) := by omega
            have j2 : (i : Int) < (n : Int) := by omega
            rcases HMB.out i with hp | hp
            · simp only [hp] at ck
              obtain ⟨hk1, hk2⟩ := HPS.out i hlt2 hp
              rw [← ht.out] at hk1 hk2
              obtain ⟨b, off, hbo, hcc⟩ := (OU.out.below HWR.out).vec.rd (by omega)
              have cu := hcc t hk1
              rw [hk2] at cu
              have hbn : ((i : Int) != (i : Int)) = false := by simp
              have t1 : (0 : Int) ≤ (t : Int) := by omega
              have t2 : (t : Int) < (L : Int) := by omega
              have t3 : ¬ (L : Int) ≤ (t : Int) := by omega
              have HT2 : Hid (t + 1 = cnt (mb C j) (i + 1)) := by show _ = _; rw [cnt_yes hp, ht.out]
              clear hcc hp hk2
              subst hbo
              go_wp2
              go_round
              case rel => exact ⟨i + 1, by omega, by go_num, t + 1, by go_num, by omega, HT2.out⟩
              case measure => simp [intOf]; omega
            · simp only [hp] at ck
              have HT2 : Hid (t = cnt (mb C j) (i + 1)) := by show _ = _; rw [cnt_no hp]; exact ht.out
              clear hp
              go_wp2
              go_round
              case rel => exact ⟨i + 1, by omega, by go_num, t, by go_num, by omega, HT2.out⟩
              case measure => simp [intOf]; omega
          · obtain rfl : i = n := by omega
            obtain rfl : t = L := by rw [ht.out]; exact HPN.out
            have hbn : ((t : Int) != (t : Int)) = false := by simp
            have KB3 : Hid (Below vb.heap.size vb wn) := below_then KB.out HWR.out
            obtain ⟨s0, s1, s2, s3⟩ := par_held hw0 (below_then B0b.out KB3.out)
            go_wp2_with fail
            refine (CD _ (HV.out.below KB3.out) (HX.out.below KB3.out)).mono ?_
            rintro e vd ⟨do_, dc, rfl, hod, gd⟩
            have KD : Hid (Below vb.heap.size vb vd) := below_then KB3.out gd
            have HOD0 : Hid (Own wn.heap.size vd do_ ld dc (sel (dif V X) i)) := hod
            clear s0 s1 s2 s3 hod gd
            by_cases he : E3 = 0
            · subst he
              obtain ⟨_, eX⟩ := er2_of HE3.out
              obtain ⟨_, hln, _⟩ := erV_of eX
              subst hln
              have HEX : Hid (erV 0 l l X = 0) := eX
              have hld2 : ld = cnt (dif V X) l := by rw [← HLD.out]; exact lenE_zero _
              obtain ⟨D, hD⟩ : ∃ D, D = sel (dif V X) l := ⟨_, rfl⟩
              have HDS : Hid (∀ t, t < ld → ∃ cx : Nat, cx < l ∧ D t = (cx : Int)) := fun t ht => by
                rw [hld2] at ht
                obtain ⟨cx, h1, h2, _⟩ := sel_spec (dif V X) l t ht
                exact ⟨cx, h1, by rw [hD]; exact h2⟩
              have HEND : Hid (sameB l l (upd D V X ld) X = true) := by
                show _ = _
                rw [hD, hld2]; exact upd_end V X l
              have HOD : Hid (Own wn.heap.size vd do_ ld dc D) := by rw [hD]; exact HOD0.out
              have hldl : ld ≤ l := by rw [hld2]; exact cnt_le _ _
              clear hld2 hD HOD0 eX
              have SP : Hid (∀ w', Below vd.heap.size vd w' → w'.cell? ⟨w.heap.size, 0, none⟩ = some (.int .i64 k) ∧ w'.cell? ⟨w.heap.size, 1, none⟩ = some (.int .i64 r) ∧ w'.cell? ⟨w.heap.size, 2, none⟩ = some (.int .i64 c') ∧ w'.cell? ⟨w.heap.size, 3, none⟩ = some (.int .i64 q)) := fun w' hb => par_held hw0 (below_then B0b.out (below_then KD.out hb))
              go_wp2_with fail
              go_loopw [24, 25] (fun nv x wr => ∃ t : Nat, t ≤ ld ∧ x = .int .i64 (t : Int) ∧ (∃ no nc, nv = .slice no l nc ∧ Hid (Vec wr no l nc (upd D V X t))) ∧ Hid (Below vd.heap.size vd wr)) (fun _ x _ => ld - (intOf x).toNat)
              case atStart => exact ⟨0, Nat.zero_le _, rfl, ⟨ao, ca, rfl, HV.out.below KD.out⟩, Below.refl _ _⟩
              case round =>
                obtain ⟨t, htl, rfl, ⟨no, nc, rfl, hnow⟩, hbel⟩ := hrel
                by_cases hlt3 : t < ld
                · obtain ⟨bd, offd, hbd, hcd⟩ := (HOD.out.below hbel.out).vec.rd (by omega)
                  obtain ⟨cx, hcx, hDt⟩ := HDS.out t hlt3
                  have cd := hcd t hlt3
                  rw [hDt] at cd
                  obtain ⟨bx, offx, hbx, hcxx⟩ := (HX.out.below (below_then KD.out hbel.out)).rd (by omega)
                  have cxx := hcxx cx hcx
                  have HDT : Hid (D t = (cx : Int)) := hDt
                  have HCD : Hid (wr.cell? ⟨bd, offd + t, none⟩ = some (.int .i64 (cx : Int))) := cd
                  have HCX : Hid (wr.cell? ⟨bx, offx + cx, none⟩ = some (.int .i64 (X cx))) := cxx
                  subst hbd hbx
                  obtain ⟨s0, s1, s2, s3⟩ := SP.out _ hbel.out
                  have j1 : (0 : Int) ≤ (t : Int) := by omega
                  have j2 : (t : Int) < (ld : Int) := by omega
                  have j3 : (0 : Int) ≤ (cx : Int) := by omega
                  have j4 : (cx : Int) < (l : Int) := by omega
                  have HB1 : Hid (∀ o, Below wr.heap.size wr ((wr.alloc o).drew)) := fun o => below_then (below_alloc _ _) (below_drew _ _)
                  have HQ1 : Hid (Vec ((wr.alloc (.cells #[.int .i64 (cx : Int)] 3)).drew) (some ⟨wr.heap.size, 0, none⟩) 1 1 (fun _ => (cx : Int))) := (vec_one (cx : Int)).below (below_drew _ _)
                  clear hcd hcxx hDt
                  go_wp2_with fail
                  go_region_held3 (fun w' => w'.cell? ⟨w.heap.size, 0, none⟩ = some (.int .i64 k) ∧ w'.cell? ⟨w.heap.size, 1, none⟩ = some (.int .i64 r) ∧ w'.cell? ⟨w.heap.size, 2, none⟩ = some (.int .i64 c') ∧ w'.cell? ⟨w.heap.size, 3, none⟩ = some (.int .i64 q) ∧ w'.cell? ⟨bd, offd + t, none⟩ = some (.int .i64 (cx : Int)) ∧ w'.cell? ⟨bx, offx + cx, none⟩ = some (.int .i64 (X cx))) (go_keep)
                    ((first | (go_at_call 12; refine (CN.out HEX.out _ _ _ _ D t cx hcx HDT.out (hnow.out.below (HB1.out _)) HQ1.out).mono ?_; rintro e x1 ⟨no2, nc2, rfl, ho2, g2⟩; have G2 : Hid (Below wr.heap.size wr x1) := below_then (HB1.out _) g2; obtain ⟨u0, u1, u2, u3⟩ := SP.out _ (below_then hbel.out G2.out); have u4 := held HCD.out G2.out; have u5 := held HCX.out G2.out)))
                  have HN2 : Hid (Vec x1 no2 l nc2 (upd D V X (t + 1))) := ho2.vec
                  have HB2 : Hid (Below vd.heap.size vd x1) := below_then hbel.out G2.out
                  clear ho2 g2 u0 u1 u2 u3 u4 u5 G2 s0 s1 s2 s3 cd cxx HQ1 HB1 hnow
                  go_wp2
                  go_roundw
                  case rel => exact ⟨t + 1, by omega, by go_num, ⟨no2, nc2, rfl, HN2.out⟩, HB2.out⟩
                  case measure => simp [intOf]; omega
                · obtain rfl : t = ld := by omega
                  obtain ⟨wf, rfl⟩ : ∃ x, x = wr := ⟨wr, rfl⟩
                  go_wp2_with fail
                  refine (isB (Same_any _ no bo l nc l cb (upd D V X t) X (hnow.out).rd (HX.out.below (below_then KD.out hbel.out)).rd (by omega) (by omega)) HEND.out).mono ?_
                  rintro e vf ⟨rfl, hq⟩
                  have gf := below_q hq
                  clear hq
                  go_wp2_with fail
                  go_ret
                  exact ⟨rfl, below_then HWB.out (below_then KD.out (below_then hbel.out gf))⟩
            · have hne : (E3 != 0) = true := by simpa using he
              clear he
              go_wp2_with fail
              go_ret
              exact ⟨rfl, below_then HWB.out KD.out⟩

end Go.Proofs.Ytkoblkkigmnocaa
