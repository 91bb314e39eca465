/- UpdateMeets, for whatever comes in. -/
import Derived.Test.YtdnflninbnjdhaaUpG
namespace Go.Proofs.Ytdnflninbnjdhaa
open Go.RowKit

theorem below_drewN (B : Nat) (w : World) (n : Nat) : Below B w (w.drewN n) := ⟨rfl, rfl, rfl, Nat.le_refl _, fun _ _ => rfl⟩
theorem Chs.bec {B : Nat} {w : World} {ao : Option Addr} {n cap : Nat} {D : Nat → Int} {T : Nat → Option Addr} {L U : Nat → Nat} {H : Nat → Nat → UInt8} (h : Chs B w ao n cap D T L U H) {i : Nat} (hi : i < n) : Bec w (T i) (L i) (U i) (H i) := (h.row i hi).bec
theorem step_copy_run {ops : Array Oper} {o : Oper} {a : Act} {w : World} {K : Act → World → Prop} {Q : Exit → Act → World → Prop} {E : Prop} (hgd : o.guard = none) (d s : Operand) (ho : o.op = .call { callee := .builtin .copy, args := #[d, s], argTypes := #[24, 24] }) (hty : o.type = 3) (dv sv : Value) (hd : a.eval d = dv) (hs : a.eval s = sv) (x : Value) (w' : World) (hrun : (Builtin.copy_ #[24, 24] 3 #[dv, sv]).run Try.prog w = .ok x w') (h : K (a.put o.dst x) w') :
    if Region.wanted o (yielded ops a.tmps) = true then Oper.wp Try.prog o a w K Q else E := by
  have hw : Region.wanted o (yielded ops a.tmps) = true := by simp [Region.wanted, hgd]
  rw [if_pos hw]
  unfold Oper.wp
  simp [execOp, ho, hty, resolve, invoke, builtin, hd, hs, hrun, Result.andThen]
  exact h
set_option maxHeartbeats 4000000 in
set_option maxRecDepth 100000 in
theorem meets_bad {k r c q : Int} (w : World) (oo : Option Addr) (on oc : Nat) (a : Int) (mo : Option Addr) (mn mc : Nat) (E : Int) (h0 : ¬ E = 0)
    (HC : ∀ u, Below w.heap.size w u → Calls Try.prog 6 #[.agg #[.int .i64 k, .int .i64 r, .int .i64 c, .int .i64 q], .slice oo on oc, .int .i64 a, .slice mo mn mc] u fun e w' => e = .returned (.tuple #[.slice none 0 0, .int .i64 E]) ∧ Below u.heap.size u w') :
    Calls Try.prog 4 #[.agg #[.int .i64 k, .int .i64 r, .int .i64 c, .int .i64 q], .slice oo on oc, .int .i64 a, .slice mo mn mc] w fun e w' => e = .returned (.bool true) ∧ Below w.heap.size w w' := by
  have HC : Hid _ := And.intro trivial HC
  obtain ⟨w0, hw0⟩ : ∃ w0, w0 = w.alloc (.cells #[.int .i64 k, .int .i64 r, .int .i64 c, .int .i64 q] 23) := ⟨_, rfl⟩
  have b0 : Below w.heap.size w w0 := by rw [hw0]; exact below_alloc _ _
  have q1 : (E != 0) = true := by simp [h0]
  go_enter Try.func4, Try.ntmps4
  go_wp2_with fail
  rw [← hw0]
  refine (awake_any _).mono ?_
  rintro e wa ⟨rfl, ha⟩
  obtain ⟨s0, s1, s2, s3⟩ := par_held hw0 ha
  have HA : Hid (Below w.heap.size w wa) := below_then b0 ha
  clear hw0 b0 ha
  go_wp2_with fail
  refine (HC.out.2 _ HA.out).mono ?_
  rintro e wl ⟨rfl, hl⟩
  go_wp2_with fail
  go_ret
  exact ⟨rfl, below_then HA.out hl⟩
set_option maxHeartbeats 16000000 in
set_option maxRecDepth 100000 in
theorem meets_good {K R m q : Nat} (w : World) (oo : Option Addr) (on oc : Nat) (O : Nat → UInt8) (hO : Bec w oo on oc O) (o : Nat) (mo : Option Addr) (mn mc : Nat) (M : Nat → UInt8) (hM : Bec w mo mn mc M) (hon : on = K * m) (ho : o + mn ≤ on) (hK : K ≤ 12) (hc1 : 8 ≤ m) (hc2 : m ≤ 64)
    (HC : ∀ u, Below w.heap.size w u → Calls Try.prog 6 #[.agg #[.int .i64 (K : Int), .int .i64 (R : Int), .int .i64 (m : Int), .int .i64 (q : Int)], .slice oo on oc, .int .i64 (o : Int), .slice mo mn mc] u fun e w' => ∃ lo lc T U, e = .returned (.tuple #[.slice lo (nCh o mn m) lc, .int .i64 0]) ∧ Chs u.heap.size w' lo (nCh o mn m) lc (fun i => ((o / m + i : Nat) : Int)) T (fun _ => m) U (chB O M o mn m) ∧ Below u.heap.size u w')
    (HU : ∀ u b1 c1 F1 b2 c2 F2, Bec u b1 on c1 F1 → Bec u b2 on c2 F2 → Calls Try.prog 8 #[.agg #[.int .i64 (K : Int), .int .i64 (R : Int), .int .i64 (m : Int), .int .i64 (q : Int)], .slice b1 on c1, .slice b2 on c2] u fun e w' => ∃ lo lc T U, e = .returned (.tuple #[.slice lo (cU (dfB m F1 F2) K) lc, .int .i64 0]) ∧ Chs u.heap.size w' lo (cU (dfB m F1 F2) K) lc (fun i => ((sU (dfB m F1 F2) K i : Nat) : Int)) T (fun _ => m) U (fun i b => F2 (sU (dfB m F1 F2) K i * m + b)) ∧ Below u.heap.size u w') :
    Calls Try.prog 4 #[.agg #[.int .i64 (K : Int), .int .i64 (R : Int), .int .i64 (m : Int), .int .i64 (q : Int)], .slice oo on oc, .int .i64 (o : Int), .slice mo mn mc] w fun e w' => e = .returned (.bool true) ∧ Below w.heap.size w w' := by
  have HC : Hid _ := And.intro trivial HC
  have HU : Hid _ := And.intro trivial HU
  have hm0 : 0 < m := by omega
  have hn768 : on ≤ 768 := by rw [hon]; exact Nat.le_trans (Nat.mul_le_mul hK hc2) (by decide)
  obtain ⟨w0, hw0⟩ : ∃ w0, w0 = w.alloc (.cells #[.int .i64 (K : Int), .int .i64 (R : Int), .int .i64 (m : Int), .int .i64 (q : Int)] 23) := ⟨_, rfl⟩
  have HPAR : Hid (∀ v, Below w0.heap.size w0 v → v.cell? ⟨w.heap.size, 0, none⟩ = some (.int .i64 (K : Int)) ∧ v.cell? ⟨w.heap.size, 1, none⟩ = some (.int .i64 (R : Int)) ∧ v.cell? ⟨w.heap.size, 2, none⟩ = some (.int .i64 (m : Int)) ∧ v.cell? ⟨w.heap.size, 3, none⟩ = some (.int .i64 (q : Int))) := fun v hv => par_held hw0 hv
  have b0 : Below w.heap.size w w0 := by rw [hw0]; exact below_alloc _ _
  have B0 : Hid (Below w.heap.size w w0 ∧ w.heap.size < w0.heap.size) := ⟨b0, by rw [hw0]; simp⟩
  have HO : Hid (∀ v, Below w.heap.size w v → Bec v oo on oc O) := fun v hv => hO.below hv
  have HM : Hid (∀ v, Below w.heap.size w v → Bec v mo mn mc M) := fun v hv => hM.below hv
  have HON : Hid (on = K * m) := hon
  have HCELL : Hid (∀ i, i < nCh o mn m → o / m + i < K) := fun i hi => by
    have hmn : ¬ mn = 0 := fun e => by unfold nCh at hi; rw [if_pos e] at hi; omega
    have h1 : (o + mn - 1) / m < K := (Nat.div_lt_iff_lt_mul hm0).2 (by rw [← hon]; omega)
    unfold nCh at hi
    rw [if_neg hmn] at hi
    omega
  have hn16 : nCh o mn m ≤ 12 := by
    by_cases e : nCh o mn m = 0
    · omega
    · have h1 := HCELL.out (nCh o mn m - 1) (by omega)
      have h2 : nCh o mn m - 1 < K := Nat.lt_of_le_of_lt (Nat.le_add_left _ _) h1
      omega
  obtain ⟨n, hn⟩ : ∃ n, n = nCh o mn m := ⟨_, rfl⟩
  obtain ⟨Wt, hWt⟩ : ∃ Wt, Wt = upR O o mn M := ⟨_, rfl⟩
  obtain ⟨P, hP⟩ : ∃ P, P = dfB m O Wt := ⟨_, rfl⟩
  have HGI : Hid (∀ j, gI m O Wt (o / m) n j = Wt j) := by rw [hWt, hn]; exact fun j => gI_all
  have HAI : Hid (∀ j, j < on → aI P m O Wt (cU P K) j = Wt j) := by rw [hP, hon]; exact fun j hj => aI_all hm0 hj
  have HMET : Hid (∀ x, P x = true → o / m ≤ x ∧ x < o / m + n) := by rw [hP, hWt, hn]; exact fun x hx => df_met hm0 hx
  have HPE : Hid (P = dfB m O Wt) := hP
  have HNE : Hid (n = nCh o mn m) := hn
  have HCB : Hid (∀ i b, chB O M o mn m i b = Wt ((o / m + i) * m + b)) := by rw [hWt]; exact fun i b => rfl
  have HWT : Hid (Wt = upR O o mn M) := hWt
  have hcn : cU P K ≤ n := (cU_in HMET.out K).2
  rw [← hn] at HC HCELL hn16
  have q0 : ¬ (n : Int) < ((cU P K : Nat) : Int) := by omega
  have hck := cU_le P K
  clear hO hM hon hn hWt hP b0
  go_enter Try.func4, Try.ntmps4
  go_wp2_with fail
  rw [← hw0]
  clear hw0
  refine (awake_any _).mono ?_
  rintro e wa ⟨rfl, ha⟩
  obtain ⟨s0, s1, s2, s3⟩ := HPAR.out wa ha
  have HA : Hid (Below w0.heap.size w0 wa) := ha
  clear ha
  go_wp2_with fail
  refine (HC.out.2 _ (below_then B0.out.1 HA.out)).mono ?_
  rintro e wl ⟨lo, lc, T, U, rfl, hch, hl⟩
  have HL0 : Hid (Below w0.heap.size w0 wl) := below_then HA.out hl
  have BL : Hid (Below w.heap.size w wl) := below_then B0.out.1 HL0.out
  have v1 := conv_any (HO.out wl BL.out)
  obtain ⟨w1, cc, hrun1, hz1, hcc, hb1, hs1⟩ := conv_newz wl on O
  clear hl s0 s1 s2 s3 HC
  obtain ⟨dst, hdst⟩ : ∃ dst : Value, dst = if cc = o then .slice (some ⟨wl.heap.size, 0, none⟩) 0 0 else .slice (some ⟨wl.heap.size, o, none⟩) (on - o) (cc - o) := ⟨_, rfl⟩
  have hcopy : ∃ w2, (Builtin.copy_ #[24, 24] 3 #[dst, .slice mo mn mc]).run Try.prog w1 = .ok (goInt mn) w2 ∧ Bz w2 wl.heap.size on Wt ∧ Only (fun b => b = wl.heap.size) w1 w2 := by
    rw [HWT.out, hdst]
    by_cases e : cc = o
    · rw [if_pos e]; exact run_copy_zero hz1 (by omega)
    · rw [if_neg e]; exact run_copy_any hz1 ((HM.out wl BL.out).below hb1) (by omega) (by omega)
  obtain ⟨w2, hrun2, hz2, ho2⟩ := hcopy
  have hb12 : Below wl.heap.size wl w2 := hb1.trans (ho2.below (fun _ e => by rw [e]; exact Nat.le_refl _) hb1.size)
  have v2 := conv_any ((HO.out wl BL.out).below hb12)
  obtain ⟨w3, cc3, hrun3, hz3, hcc3, hb3, hs3⟩ := conv_newz w2 on O
  have hs2 := ho2.size
  have HL3 : Hid (Below wl.heap.size wl w3) := below_then hb12 hb3
  have HZ3 : Hid (Bz w3 w2.heap.size on O) := hz3
  have HZW : Hid (Bz w3 wl.heap.size on Wt) := hz2.below hb3
  have HSZ : Hid (wl.heap.size < w2.heap.size ∧ w2.heap.size < w3.heap.size) := ⟨by omega, hs3⟩
  have HCH : Hid (Chs wa.heap.size w3 lo n lc (fun i => ((o / m + i : Nat) : Int)) T (fun _ => m) U (chB O M o mn m)) := hch.below HL3.out
  have HLT : Hid (∀ i, i < n → ∀ a, T i = some a → a.block < wl.heap.size) := chs_lt hch
  have HGL : Hid (∀ g, lo = some ⟨g, 0, none⟩ → g < wl.heap.size) := fun g e => (owns_at hch.out e).2.1
  have i1 : (0 : Int) ≤ (o : Int) := by omega
  have i2 : (o : Int) ≤ (on : Int) := by omega
  have i3 : (o : Int) ≤ (cc : Int) := by omega
  clear hz1 hz2 hz3 ho2 hb1 hb3 hb12 hs1 hs2 hs3 hch
  by_cases hco : cc = o
  · have hmn0 : mn = 0 := by omega
    have hn0 : n ≤ 0 := by rw [HNE.out, hmn0]; exact Nat.le_refl 0
    have hc0 : cU P K ≤ 0 := by omega
    rw [if_pos hco] at hdst
    have hco3 : on = o := by omega
    have hco2 : o = cc := hco.symm
    clear hco
    subst hmn0
    subst hco2
    subst hco3
    subst hdst
    clear i1 i2 i3 hn768 ho hcc
    have hcc : on ≤ on := Nat.le_refl _
    go_wp2_with fail
    clear hrun1 hrun2 hrun3 v1 v2
    go_loopw [14] (fun y wr => ∃ i : Nat, i ≤ n ∧ y = .int .i64 (i : Int) ∧ Hid (Bz wr w2.heap.size on (gI m O Wt (on / m) i)) ∧ Hid (Only (fun b => b = w2.heap.size) w3 wr)) (fun y _ => n - (intOf y).toNat)
    case atStart => exact ⟨0, Nat.zero_le _, rfl, HZ3.out.congr fun j _ => gI_zero.symm, Only.refl _ _⟩
    case round =>
      obtain ⟨i, hi, rfl, hz, hon1⟩ := hrel
      by_cases hlt : i < n
      · exact absurd hlt (by omega)
      · obtain rfl : i = n := by omega
        obtain ⟨wm, rfl⟩ : ∃ x, x = wr := ⟨wr, rfl⟩
        have HGOT : Hid (Bz wm w2.heap.size on Wt) := hz.out.congr fun j _ => HGI.out j
        have hsz := HSZ.out
        have hon0 := hon1.out
        have HWANT : Hid (Bz wm wl.heap.size on Wt) := HZW.out.stay (hon0.block _ (by omega) (by omega))
        have HR3 : Hid (Below wl.heap.size wl wm) := HL3.out.trans (hon0.below (fun _ e => by omega) HL3.out.size)
        have BWR : Hid (Below w.heap.size w wm) := below_then BL.out HR3.out
        have HL0R : Hid (Below w0.heap.size w0 wm) := below_then HL0.out HR3.out
        have HCHR : Hid (Chs wa.heap.size wm lo i lc (fun i => ((on / m + i : Nat) : Int)) T (fun _ => m) U (chB O M on 0 m)) := by
          refine ⟨owns_blocks HCH.out.out fun a ha => ?_, fun j hj => owns_blocks (HCH.out.row j hj) fun a ha => ?_, HCH.out.apart⟩
          · have h1 := (owns_at HCH.out.out ha).2.1
            obtain ⟨ab, ao, rfl⟩ : ∃ ab ao, a = ⟨ab, ao, none⟩ := by
              rcases HCH.out.out.2 with ⟨e, _⟩ | ⟨g, c', cur, e, _⟩
              · cases e; cases ha
              · cases e; cases ha; exact ⟨g, 0, rfl⟩
            refine hon0.block _ h1 ?_
            rcases HCH.out.out.2 with ⟨e, _⟩ | ⟨g, c', cur, e, _⟩
            · cases e; cases ha
            · cases e; cases ha
              have := HGL.out ab rfl
              show ab ≠ _
              omega
          · have h1 := (owns_at (HCH.out.row j hj) ha).2.1
            have := HLT.out j hj a ha
            exact hon0.block _ h1 (by omega)
        obtain ⟨a0, a1, a2, a3⟩ := HPAR.out wm HL0R.out
        have hUN := HU.out.2 wm oo oc O (some ⟨wl.heap.size, 0, none⟩) on Wt (HO.out wm BWR.out) (HWANT.out.bec hcc)
        rw [← HPE.out] at hUN
        clear hz hon0 hon1 HCH
        go_wp2_with fail
        refine hUN.mono ?_
        rintro e wu ⟨mo2, mc2, T2, U2, rfl, hch2, hu⟩
        clear hUN a0 a1 a2 a3
        have HCH2 : Hid (Chs wm.heap.size wu mo2 (cU P K) mc2 (fun t => ((sU P K t : Nat) : Int)) T2 (fun _ => m) U2 (fun t b => Wt (sU P K t * m + b))) := hch2
        have HRU : Hid (Below wm.heap.size wm wu) := hu
        have BWU : Hid (Below w.heap.size w wu) := below_then BWR.out hu
        have y1 := conv_any ((HGOT.out.bec hcc3).below hu)
        have y2 := conv_any ((HWANT.out.bec hcc).below hu)
        have y3 := conv_any (HO.out wu BWU.out)
        obtain ⟨wv, cv, hrunv, hzv, hcv, hbv, hsv⟩ := conv_newz wu on O
        have HZV : Hid (Bz wv wu.heap.size on O) := hzv
        have HRV : Hid (Below wm.heap.size wm wv) := below_then hu hbv
        have HC2V : Hid (Chs wm.heap.size wv mo2 (cU P K) mc2 (fun t => ((sU P K t : Nat) : Int)) T2 (fun _ => m) U2 (fun t b => Wt (sU P K t * m + b))) := hch2.below hbv
        have HLT2 : Hid (∀ t, t < cU P K → ∀ a, T2 t = some a → a.block < wu.heap.size) := chs_lt hch2
        have HGL2 : Hid (∀ g, mo2 = some ⟨g, 0, none⟩ → g < wu.heap.size) := fun g e => (owns_at hch2.out e).2.1
        have HSV : Hid (wu.heap.size < wv.heap.size) := hsv
        clear hch2 hu hzv hbv hsv
        go_wp2_with fail
        clear y1 y2 y3 hrunv
        go_loopw [18] (fun y wr => ∃ t : Nat, t ≤ cU P K ∧ y = .int .i64 (t : Int) ∧ Hid (Bz wr wu.heap.size on (aI P m O Wt t)) ∧ Hid (Only (fun b => b = wu.heap.size) wv wr)) (fun y _ => cU P K - (intOf y).toNat)
        case atStart => exact ⟨0, Nat.zero_le _, rfl, HZV.out.congr fun j _ => aI_zero.symm, Only.refl _ _⟩
        case round =>
          obtain ⟨t, ht, rfl, hz, hon2⟩ := hrel
          by_cases htl : t < cU P K
          · exact absurd htl (by omega)
          · obtain rfl : t = cU P K := by omega
            have hon0 := hon2.out
            have hsv := HSV.out
            have hsr := HRU.out.size
            have HFIN : Hid (Bz wr wu.heap.size on Wt) := hz.out.congr fun j hj => HAI.out j hj
            have HRS : Hid (Below wm.heap.size wm wr) := HRV.out.trans (hon0.below (fun _ e => by omega) HRV.out.size)
            obtain ⟨a0, a1, a2, a3⟩ := HPAR.out wr (below_then HL0R.out HRS.out)
            have hUN := HU.out.2 wr (some ⟨wl.heap.size, 0, none⟩) on Wt (some ⟨wl.heap.size, 0, none⟩) on Wt ((HWANT.out.below HRS.out).bec hcc) ((HWANT.out.below HRS.out).bec hcc)
            rw [df_self] at hUN
            clear hz hon0 hon2
            go_wp2_with fail
            refine hUN.mono ?_
            rintro e wz ⟨no, nc, T3, U3, rfl, _, hz⟩
            clear hUN a0 a1 a2 a3
            have y1 := conv_any ((HFIN.out.bec hcv).below hz)
            have y2 := conv_any (((HWANT.out.below HRS.out).bec hcc).below hz)
            go_wp2_with fail
            go_ret
            exact ⟨rfl, below_then BWR.out (below_then HRS.out hz)⟩
  · rw [if_neg hco] at hdst
    subst hdst
    go_wp2_with fail
    clear hrun1 hrun2 hrun3 v1 v2
    go_loopw [14] (fun y wr => ∃ i : Nat, i ≤ n ∧ y = .int .i64 (i : Int) ∧ Hid (Bz wr w2.heap.size on (gI m O Wt (o / m) i)) ∧ Hid (Only (fun b => b = w2.heap.size) w3 wr)) (fun y _ => n - (intOf y).toNat)
    case atStart => exact ⟨0, Nat.zero_le _, rfl, HZ3.out.congr fun j _ => gI_zero.symm, Only.refl _ _⟩
    case round =>
      obtain ⟨i, hi, rfl, hz, hon1⟩ := hrel
      by_cases hlt : i < n
      · obtain ⟨gl, rfl, _, _, _, hcs⟩ := HCH.out.cells (by omega)
        have hgl := HGL.out gl rfl
        have hsz := HSZ.out
        have hgn : gl ≠ w2.heap.size := by omega
        obtain ⟨p0, p1, p2, p3⟩ := HPAR.out w3 (below_then HL0.out HL3.out)
        have hwn : w.heap.size ≠ w2.heap.size := by have := B0.out.2; have := HL0.out.size; omega
        have a0 : wr.cell? ⟨w.heap.size, 0, none⟩ = some (.int .i64 (K : Int)) := hon1.out.cell p0 hwn
        have a2 : wr.cell? ⟨w.heap.size, 2, none⟩ = some (.int .i64 (m : Int)) := hon1.out.cell p2 hwn
        obtain ⟨ci, hci⟩ : ∃ ci, ci = o / m + i := ⟨_, rfl⟩
        have hck2 : ci < K := by rw [hci]; exact HCELL.out i hlt
        have c0 : wr.cell? ⟨gl, i * 2, none⟩ = some (.int .i64 (ci : Int)) := by rw [hci]; exact hon1.out.cell (hcs i hlt).1 hgn
        have c1 : wr.cell? ⟨gl, i * 2 + 1, none⟩ = some (.slice (T i) m (U i)) := hon1.out.cell (hcs i hlt).2 hgn
        have hbec : Bec wr (T i) m (U i) (fun b => Wt (ci * m + b)) := by rw [hci]; exact ((HCH.out.bec hlt).only hon1.out fun a ha => by have := HLT.out i hlt a ha; omega).congr fun b _ => HCB.out i b
        obtain ⟨p, hp⟩ : ∃ p, p = ci * m := ⟨_, rfl⟩
        have hp1 : p + m ≤ on := by rw [HON.out, hp, ← Nat.succ_mul]; exact Nat.mul_le_mul_right m hck2
        have HSTEP : Hid (∀ j, upR (gI m O Wt (o / m) i) p m (fun b => Wt (ci * m + b)) j = gI m O Wt (o / m) (i + 1) j) := by rw [hp, hci]; exact fun j => gI_step hm0
        have HCI : Hid (ci = o / m + i) := hci
        obtain ⟨x1, x2⟩ := val_mul hp (by omega)
        have t1 : ¬ (ci : Int) < 0 := by omega
        have t2 : ¬ (K : Int) ≤ (ci : Int) := by omega
        have t3 : ((m : Int) != (m : Int)) = false := by simp
        have i4 : (0 : Int) ≤ (i : Int) := by omega
        have i5 : (i : Int) < (n : Int) := by omega
        have HZ : Hid (Bz wr w2.heap.size on (gI m O Wt (o / m) i)) := hz.out
        have HBC : Hid (Bec wr (T i) m (U i) (fun b => Wt (ci * m + b))) := hbec
        have HON1 : Hid (Only (fun b => b = w2.heap.size) w3 wr) := hon1.out
        have HGC : Hid (∀ j, j < n → wr.cell? ⟨gl, j * 2, none⟩ = some (.int .i64 ((o / m + j : Nat) : Int))) := fun j hj => hon1.out.cell (hcs j hj).1 hgn
        clear p0 p1 p2 p3 hci hp hbec hz hon1 hcs
        by_cases hi0 : i = 0
        · have t6 : decide ((0 : Int) < (i : Int)) = false := decide_eq_false (by omega)
          have t7 : decide (0 < i) = false := decide_eq_false (by omega)
          have t8 : decide ((ci : Int) < 0) = false := decide_eq_false t1
          have t9 : decide ((K : Int) ≤ (ci : Int)) = false := decide_eq_false t2
          have t10 : decide (K ≤ ci) = false := decide_eq_false (by omega)
          clear hi0
          go_wp2_with fail
          go_big_quiet (fail)
          clear t6 t7 t8 t9 t10
          obtain ⟨wd, hwd⟩ : ∃ wd, wd = wr.drewN nq := ⟨_, rfl⟩
          rw [← hwd]
          have bd : Below wr.heap.size wr wd := by rw [hwd]; exact below_drewN _ _ _
          have bd2 : Below wr.heap.size wr wd.drew := below_then bd (below_drew _ _)
          obtain ⟨w5, hrun5, hz5, ho5⟩ := run_copy_any (w := wd.drew) (off := p) (dl := on - p) (dC := cc3 - p) (HZ.out.below bd2) (HBC.out.below bd2) (by omega) (by omega)
          have b0' : wd.cell? ⟨gl, i * 2, none⟩ = some (.int .i64 (ci : Int)) := held c0 bd
          have b1' : wd.cell? ⟨gl, i * 2 + 1, none⟩ = some (.slice (T i) m (U i)) := held c1 bd
          have b2' : wd.cell? ⟨w.heap.size, 2, none⟩ = some (.int .i64 (m : Int)) := held a2 bd
          have HZ5 : Hid (Bz w5 w2.heap.size on (gI m O Wt (o / m) (i + 1))) := hz5.congr fun j _ => HSTEP.out j
          have HO5 : Hid (Only (fun b => b = w2.heap.size) w3 w5) := (HON1.out.then bd2).trans ho5
          have i6 : (0 : Int) ≤ (p : Int) := by omega
          have i7 : (p : Int) ≤ (on : Int) := by omega
          have i8 : (on : Int) ≤ (cc3 : Int) := by omega
          have i9 : ¬ cc3 = p := by omega
          have i10 : (p : Int) ≤ (cc3 : Int) := by omega
          clear hwd bd bd2 hz5 ho5 c0 c1 a0 a2 t1 t2
          go_wp2_with fail
          go_region
          clear hrun5 b0' b1' b2'
          go_wp2_with fail
          go_roundw
          case rel => exact ⟨i + 1, by omega, by go_num, HZ5.out, HO5.out⟩
          case measure => simp [intOf]; omega
        · obtain ⟨j, hj⟩ : ∃ j, j + 1 = i := ⟨i - 1, by omega⟩
          obtain ⟨cj, hcj⟩ : ∃ cj, cj = o / m + j := ⟨_, rfl⟩
          have d0 : wr.cell? ⟨gl, j * 2, none⟩ = some (.int .i64 (cj : Int)) := by rw [hcj]; exact HGC.out j (by omega)
          have t4 : ¬ (ci : Int) ≤ (cj : Int) := by have := HCI.out; omega
          have t5 : IntKind.i64.wrap ((i : Int) - 1) = (j : Int) := by rw [wrapI ⟨by omega, by omega⟩]; omega
          have t6 : (0 : Int) < (i : Int) := by omega
          have t7 : (0 : Int) ≤ (j : Int) := by omega
          have t9 : 0 < i := by omega
          have t10 : decide ((0 : Int) < (i : Int)) = true := decide_eq_true t6
          have t8 : (j : Int) < (n : Int) := by omega
          have t11 : decide ((ci : Int) < 0) = false := decide_eq_false t1
          have t12 : decide ((K : Int) ≤ (ci : Int)) = false := decide_eq_false t2
          have t13 : decide (K ≤ ci) = false := decide_eq_false (by omega)
          have t14 : decide (0 < i) = true := decide_eq_true t9
          have t15 : decide ((ci : Int) ≤ (cj : Int)) = false := decide_eq_false t4
          have t16 : decide (ci ≤ cj) = false := decide_eq_false (by omega)
          clear hj hcj
          go_wp2_with fail
          go_big_quiet (fail)
          clear t11 t12 t13 t14 t15 t16
          clear d0 t5 t7 t8
          obtain ⟨wd, hwd⟩ : ∃ wd, wd = wr.drewN nq := ⟨_, rfl⟩
          rw [← hwd]
          have bd : Below wr.heap.size wr wd := by rw [hwd]; exact below_drewN _ _ _
          have bd2 : Below wr.heap.size wr wd.drew := below_then bd (below_drew _ _)
          obtain ⟨w5, hrun5, hz5, ho5⟩ := run_copy_any (w := wd.drew) (off := p) (dl := on - p) (dC := cc3 - p) (HZ.out.below bd2) (HBC.out.below bd2) (by omega) (by omega)
          have b0' : wd.cell? ⟨gl, i * 2, none⟩ = some (.int .i64 (ci : Int)) := held c0 bd
          have b1' : wd.cell? ⟨gl, i * 2 + 1, none⟩ = some (.slice (T i) m (U i)) := held c1 bd
          have b2' : wd.cell? ⟨w.heap.size, 2, none⟩ = some (.int .i64 (m : Int)) := held a2 bd
          have HZ5 : Hid (Bz w5 w2.heap.size on (gI m O Wt (o / m) (i + 1))) := hz5.congr fun j _ => HSTEP.out j
          have HO5 : Hid (Only (fun b => b = w2.heap.size) w3 w5) := (HON1.out.then bd2).trans ho5
          have i6 : (0 : Int) ≤ (p : Int) := by omega
          have i7 : (p : Int) ≤ (on : Int) := by omega
          have i8 : (on : Int) ≤ (cc3 : Int) := by omega
          have i9 : ¬ cc3 = p := by omega
          have i10 : (p : Int) ≤ (cc3 : Int) := by omega
          clear hwd bd bd2 hz5 ho5 c0 c1 a0 a2 t1 t2
          go_wp2_with fail
          go_region
          clear hrun5 b0' b1' b2'
          go_wp2_with fail
          go_roundw
          case rel => exact ⟨i + 1, by omega, by go_num, HZ5.out, HO5.out⟩
          case measure => simp [intOf]; omega
      · obtain rfl : i = n := by omega
        obtain ⟨wm, rfl⟩ : ∃ x, x = wr := ⟨wr, rfl⟩
        have HGOT : Hid (Bz wm w2.heap.size on Wt) := hz.out.congr fun j _ => HGI.out j
        have hsz := HSZ.out
        have hon0 := hon1.out
        have HWANT : Hid (Bz wm wl.heap.size on Wt) := HZW.out.stay (hon0.block _ (by omega) (by omega))
        have HR3 : Hid (Below wl.heap.size wl wm) := HL3.out.trans (hon0.below (fun _ e => by omega) HL3.out.size)
        have BWR : Hid (Below w.heap.size w wm) := below_then BL.out HR3.out
        have HL0R : Hid (Below w0.heap.size w0 wm) := below_then HL0.out HR3.out
        have HCHR : Hid (Chs wa.heap.size wm lo i lc (fun i => ((o / m + i : Nat) : Int)) T (fun _ => m) U (chB O M o mn m)) := by
          refine ⟨owns_blocks HCH.out.out fun a ha => ?_, fun j hj => owns_blocks (HCH.out.row j hj) fun a ha => ?_, HCH.out.apart⟩
          · have h1 := (owns_at HCH.out.out ha).2.1
            obtain ⟨ab, ao, rfl⟩ : ∃ ab ao, a = ⟨ab, ao, none⟩ := by
              rcases HCH.out.out.2 with ⟨e, _⟩ | ⟨g, c', cur, e, _⟩
              · cases e; cases ha
              · cases e; cases ha; exact ⟨g, 0, rfl⟩
            refine hon0.block _ h1 ?_
            rcases HCH.out.out.2 with ⟨e, _⟩ | ⟨g, c', cur, e, _⟩
            · cases e; cases ha
            · cases e; cases ha
              have := HGL.out ab rfl
              show ab ≠ _
              omega
          · have h1 := (owns_at (HCH.out.row j hj) ha).2.1
            have := HLT.out j hj a ha
            exact hon0.block _ h1 (by omega)
        obtain ⟨a0, a1, a2, a3⟩ := HPAR.out wm HL0R.out
        have hUN := HU.out.2 wm oo oc O (some ⟨wl.heap.size, 0, none⟩) cc Wt (HO.out wm BWR.out) (HWANT.out.bec hcc)
        rw [← HPE.out] at hUN
        clear hz hon0 hon1 HCH
        go_wp2_with fail
        refine hUN.mono ?_
        rintro e wu ⟨mo2, mc2, T2, U2, rfl, hch2, hu⟩
        clear hUN a0 a1 a2 a3
        have HCH2 : Hid (Chs wm.heap.size wu mo2 (cU P K) mc2 (fun t => ((sU P K t : Nat) : Int)) T2 (fun _ => m) U2 (fun t b => Wt (sU P K t * m + b))) := hch2
        have HRU : Hid (Below wm.heap.size wm wu) := hu
        have BWU : Hid (Below w.heap.size w wu) := below_then BWR.out hu
        have y1 := conv_any ((HGOT.out.bec hcc3).below hu)
        have y2 := conv_any ((HWANT.out.bec hcc).below hu)
        have y3 := conv_any (HO.out wu BWU.out)
        obtain ⟨wv, cv, hrunv, hzv, hcv, hbv, hsv⟩ := conv_newz wu on O
        have HZV : Hid (Bz wv wu.heap.size on O) := hzv
        have HRV : Hid (Below wm.heap.size wm wv) := below_then hu hbv
        have HC2V : Hid (Chs wm.heap.size wv mo2 (cU P K) mc2 (fun t => ((sU P K t : Nat) : Int)) T2 (fun _ => m) U2 (fun t b => Wt (sU P K t * m + b))) := hch2.below hbv
        have HLT2 : Hid (∀ t, t < cU P K → ∀ a, T2 t = some a → a.block < wu.heap.size) := chs_lt hch2
        have HGL2 : Hid (∀ g, mo2 = some ⟨g, 0, none⟩ → g < wu.heap.size) := fun g e => (owns_at hch2.out e).2.1
        have HSV : Hid (wu.heap.size < wv.heap.size) := hsv
        clear hch2 hu hzv hbv hsv
        go_wp2_with fail
        clear y1 y2 y3 hrunv
        go_loopw [18] (fun y wr => ∃ t : Nat, t ≤ cU P K ∧ y = .int .i64 (t : Int) ∧ Hid (Bz wr wu.heap.size on (aI P m O Wt t)) ∧ Hid (Only (fun b => b = wu.heap.size) wv wr)) (fun y _ => cU P K - (intOf y).toNat)
        case atStart => exact ⟨0, Nat.zero_le _, rfl, HZV.out.congr fun j _ => aI_zero.symm, Only.refl _ _⟩
        case round =>
          obtain ⟨t, ht, rfl, hz, hon2⟩ := hrel
          by_cases htl : t < cU P K
          · have hsv := HSV.out
            have hsr := HRU.out.size
            obtain ⟨gm, rfl, _, _, _, hcs⟩ := HC2V.out.cells (by omega)
            have hgm := HGL2.out gm rfl
            have hgn : gm ≠ wu.heap.size := by omega
            obtain ⟨c, hc⟩ : ∃ c, c = sU P K t := ⟨_, rfl⟩
            have hcK : c < K := by rw [hc]; exact (sU_is P K t htl).1
            have hmet : o / m ≤ c ∧ c < o / m + i := by rw [hc]; exact HMET.out _ (sU_is P K t htl).2
            obtain ⟨av, hav⟩ : ∃ av, av = o / m := ⟨_, rfl⟩
            rw [← hav] at hmet
            have BV : Below wm.heap.size wm wr := HRV.out.trans (hon2.out.below (fun _ e => by omega) HRV.out.size)
            obtain ⟨gl, rfl, _, _, _, hcl⟩ := HCHR.out.cells (by omega)
            have HLC : Hid (∀ v, Below wr.heap.size wr v → ∀ k, k < i → v.cell? ⟨gl, k * 2, none⟩ = some (.int .i64 ((av + k : Nat) : Int))) := fun v hv k hk => by rw [hav]; exact held (hcl k hk).1 (below_then BV hv)
            have c0 : wr.cell? ⟨gm, t * 2, none⟩ = some (.int .i64 (c : Int)) := by rw [hc]; exact hon2.out.cell (hcs t htl).1 hgn
            have c1 : wr.cell? ⟨gm, t * 2 + 1, none⟩ = some (.slice (T2 t) m (U2 t)) := hon2.out.cell (hcs t htl).2 hgn
            have HBC : Hid (Bec wr (T2 t) m (U2 t) (fun b => Wt (c * m + b))) := by rw [hc]; exact (HC2V.out.bec htl).only hon2.out fun a ha => by have := HLT2.out t htl a ha; omega
            obtain ⟨p0, p1, p2, p3⟩ := HPAR.out wr (below_then HL0R.out BV)
            have HM0 : Hid (∀ v, Below wr.heap.size wr v → v.cell? ⟨gm, t * 2, none⟩ = some (.int .i64 (c : Int)) ∧ v.cell? ⟨gm, t * 2 + 1, none⟩ = some (.slice (T2 t) m (U2 t)) ∧ v.cell? ⟨w.heap.size, 2, none⟩ = some (.int .i64 (m : Int))) := fun v hv => ⟨held c0 hv, held c1 hv, held p2 hv⟩
            obtain ⟨p, hp⟩ : ∃ p, p = c * m := ⟨_, rfl⟩
            have hp1 : p + m ≤ on := by rw [HON.out, hp, ← Nat.succ_mul]; exact Nat.mul_le_mul_right m hcK
            have HSTEP : Hid (∀ j, upR (aI P m O Wt t) p m (fun b => Wt (c * m + b)) j = aI P m O Wt (t + 1) j) := by rw [hp, hc]; exact fun j => aI_step hm0 htl
            obtain ⟨x1, x2⟩ := val_mul hp (by omega)
            have HZ : Hid (Bz wr wu.heap.size on (aI P m O Wt t)) := hz.out
            have HO2 : Hid (Only (fun b => b = wu.heap.size) wv wr) := hon2.out
            have HMET2 : Hid (av ≤ c ∧ c < av + i) := hmet
            have i4 : (0 : Int) ≤ (t : Int) := by omega
            have i5 : (t : Int) < ((cU P K : Nat) : Int) := by omega
            clear hc hav hcl hcs hz hon2 c0 c1 p0 p1 p2 p3 hp BV hmet
            obtain ⟨wn, rfl⟩ : ∃ x, x = wr := ⟨wr, rfl⟩
            go_wp2_with fail
            go_loopw [19, 20] (fun am y wx => ∃ k : Nat, k ≤ i ∧ y = .int .i64 (k : Int) ∧ am = .bool (decide (c < av + k)) ∧ Hid (Below wn.heap.size wn wx)) (fun _ y _ => i - (intOf y).toNat)
            case atStart => exact ⟨0, Nat.zero_le _, rfl, by rw [decide_eq_false (by have := HMET2.out; omega)], Below.refl _ _⟩
            case round =>
              obtain ⟨k, hk, rfl, ham, hb⟩ := hrel
              by_cases hkl : k < i
              · obtain ⟨ak, hak⟩ : ∃ ak, ak = av + k := ⟨_, rfl⟩
                have d0 : wr.cell? ⟨gl, k * 2, none⟩ = some (.int .i64 (ak : Int)) := by rw [hak]; exact HLC.out _ hb.out k hkl
                obtain ⟨d1, _, _⟩ := HM0.out _ hb.out
                have k1 : (0 : Int) ≤ (k : Int) := by omega
                have k2 : (k : Int) < (i : Int) := by omega
                by_cases hca : c < av + k
                · rw [decide_eq_true hca] at ham
                  subst ham
                  have HR : Hid (decide (c < av + (k + 1)) = true) := decide_eq_true (by omega)
                  clear hak hca
                  go_wp2_with fail
                  go_big_quiet (fail)
                  obtain ⟨wd, hwd⟩ : ∃ wd, wd = wr.drewN nq := ⟨_, rfl⟩
                  have HD : Hid (Below wn.heap.size wn wd) := by show Below _ _ _; rw [hwd]; exact below_then hb.out (below_drewN _ _ _)
                  rw [← hwd]
                  clear hwd d0 d1
                  go_wp2_with fail
                  go_roundw
                  case rel => exact ⟨k + 1, by omega, by go_num, by rw [HR.out], HD.out⟩
                  case measure => simp [intOf]; omega
                · rw [decide_eq_false hca] at ham
                  subst ham
                  by_cases hce : ak = c
                  · have q7 : ((ak : Int) == (c : Int)) = true := by simp [hce]
                    have HR : Hid (decide (c < av + (k + 1)) = true) := decide_eq_true (by omega)
                    clear hak hca hce
                    go_wp2_with fail
                    go_big_quiet (fail)
                    obtain ⟨wd, hwd⟩ : ∃ wd, wd = wr.drewN nq := ⟨_, rfl⟩
                    have HD : Hid (Below wn.heap.size wn wd) := by show Below _ _ _; rw [hwd]; exact below_then hb.out (below_drewN _ _ _)
                    rw [← hwd]
                    clear hwd d0 d1
                    go_wp2_with fail
                    go_roundw
                    case rel => exact ⟨k + 1, by omega, by go_num, by rw [HR.out], HD.out⟩
                    case measure => simp [intOf]; omega
                  · have q7 : ((ak : Int) == (c : Int)) = false := by simp; omega
                    have HR : Hid (decide (c < av + (k + 1)) = false) := decide_eq_false (by omega)
                    clear hak hca hce
                    go_wp2_with fail
                    go_big_quiet (fail)
                    obtain ⟨wd, hwd⟩ : ∃ wd, wd = wr.drewN nq := ⟨_, rfl⟩
                    have HD : Hid (Below wn.heap.size wn wd) := by show Below _ _ _; rw [hwd]; exact below_then hb.out (below_drewN _ _ _)
                    rw [← hwd]
                    clear hwd d0 d1
                    go_wp2_with fail
                    go_roundw
                    case rel => exact ⟨k + 1, by omega, by go_num, by rw [HR.out], HD.out⟩
                    case measure => simp [intOf]; omega
              · obtain rfl : k = i := by omega
                rw [decide_eq_true HMET2.out.2] at ham
                subst ham
                obtain ⟨c0, c1, a2⟩ := HM0.out _ hb.out
                have t3 : ((m : Int) != (m : Int)) = false := by simp
                have HBB : Hid (Below wn.heap.size wn wr) := hb.out
                go_wp2_with fail
                go_big_quiet (fail)
                obtain ⟨wd, hwd⟩ : ∃ wd, wd = wr.drewN nq := ⟨_, rfl⟩
                rw [← hwd]
                have bd : Below wn.heap.size wn wd := by rw [hwd]; exact below_then HBB.out (below_drewN _ _ _)
                have bd2 : Below wn.heap.size wn wd.drew := below_then bd (below_drew _ _)
                obtain ⟨w5, hrun5, hz5, ho5⟩ := run_copy_any (w := wd.drew) (off := p) (dl := on - p) (dC := cv - p) (HZ.out.below bd2) (HBC.out.below bd2) (by omega) (by omega)
                clear c0 c1 a2
                obtain ⟨c0, c1, a2⟩ := HM0.out _ bd
                have HZ5 : Hid (Bz w5 wu.heap.size on (aI P m O Wt (t + 1))) := hz5.congr fun j _ => HSTEP.out j
                have HO5 : Hid (Only (fun b => b = wu.heap.size) wv w5) := (HO2.out.then bd2).trans ho5
                have i6 : (0 : Int) ≤ (p : Int) := by omega
                have i7 : (p : Int) ≤ (on : Int) := by omega
                have i8 : (on : Int) ≤ (cv : Int) := by omega
                have i9 : ¬ cv = p := by omega
                have i10 : (p : Int) ≤ (cv : Int) := by omega
                clear hwd bd bd2 hz5 ho5
                go_wp2_with fail
                go_region
                clear hrun5 c0 c1 a2
                go_wp2_with fail
                go_roundw
                case rel => exact ⟨t + 1, by omega, by go_num, HZ5.out, HO5.out⟩
                case measure => simp [intOf]; omega
          · obtain rfl : t = cU P K := by omega
            have hon0 := hon2.out
            have hsv := HSV.out
            have hsr := HRU.out.size
            have HFIN : Hid (Bz wr wu.heap.size on Wt) := hz.out.congr fun j hj => HAI.out j hj
            have HRS : Hid (Below wm.heap.size wm wr) := HRV.out.trans (hon0.below (fun _ e => by omega) HRV.out.size)
            obtain ⟨a0, a1, a2, a3⟩ := HPAR.out wr (below_then HL0R.out HRS.out)
            have hUN := HU.out.2 wr (some ⟨wl.heap.size, 0, none⟩) cc Wt (some ⟨wl.heap.size, 0, none⟩) cc Wt ((HWANT.out.below HRS.out).bec hcc) ((HWANT.out.below HRS.out).bec hcc)
            rw [df_self] at hUN
            clear hz hon0 hon2
            go_wp2_with fail
            refine hUN.mono ?_
            rintro e wz ⟨no, nc, T3, U3, rfl, _, hz⟩
            clear hUN a0 a1 a2 a3
            have y1 := conv_any ((HFIN.out.bec hcv).below hz)
            have y2 := conv_any (((HWANT.out.below HRS.out).bec hcc).below hz)
            go_wp2_with fail
            go_ret
            exact ⟨rfl, below_then BWR.out (below_then HRS.out hz)⟩
end Go.Proofs.Ytdnflninbnjdhaa
