/- Parity that was brought up to date by delta: the walk. -/
import Derived.Test.YtfhefbbhlmdjkaaGreatPlJ
import Derived.Test.YtfhefbbhlmdjkaaGreatUpE
namespace Go.Proofs.YtfhefbbhlmdjkaaGreat
open Go.RowKit

theorem long_any (w : World) (lo : Option Addr) (n lc : Nat) (b : Bool) (hb : decide (40 < n) = b) :
    Calls Tryz.prog 6 #[.slice lo n lc] w fun e w' => e = .returned (.bool b) ∧ w' = w := by
  subst hb
  by_cases h : 40 < n
  · have h2 : (40 : Int) < (n : Int) := by omega
    rw [decide_eq_true h]
    go_enter Tryz.func6, Tryz.ntmps6
    go_wp2_with fail
    go_ret
    exact ⟨rfl, rfl⟩
  · have h2 : ¬ (40 : Int) < (n : Int) := by omega
    rw [decide_eq_false h]
    go_enter Tryz.func6, Tryz.ntmps6
    go_wp2_with fail
    go_ret
    exact ⟨rfl, rfl⟩
set_option maxHeartbeats 4000000 in
set_option maxRecDepth 100000 in
theorem par_law {k r c q : Int} {N W : Nat} {x : Int} (h : Par k r c q N W x) (w : World) (ro : Option Addr) (rn rc : Nat) (A : Nat → Option Addr) (L C : Nat → Nat) (F : Nat → Nat → UInt8) (hr : Rw w ro rn A L C F) (fr tv : Int) (lo : Option Addr) (n lc : Nat) (D : Nat → Int) (AA : Nat → Option Addr) (LL CC : Nat → Nat) (H : Nat → Nat → UInt8) (hl : Chl w lo n lc D AA LL CC H) :
    Calls Tryz.prog 4 #[.agg #[.int .i64 k, .int .i64 r, .int .i64 c, .int .i64 q], .slice ro rn rc, .int .i64 fr, .int .i64 tv, .slice lo n lc] w fun e w' => e = .returned (.bool true) ∧ Below w.heap.size w w' := by
  obtain ⟨w0, hw0⟩ : ∃ w0, w0 = w.alloc (.cells #[.int .i64 k, .int .i64 r, .int .i64 c, .int .i64 q] 23) := ⟨_, rfl⟩
  have B0 : Hid (Below w.heap.size w w0) := by show Below _ _ _; rw [hw0]; exact below_alloc _ _
  have HPAR : Hid (∀ v, Below w0.heap.size w0 v → v.cell? ⟨w.heap.size, 0, none⟩ = some (.int .i64 k) ∧ v.cell? ⟨w.heap.size, 1, none⟩ = some (.int .i64 r) ∧ v.cell? ⟨w.heap.size, 2, none⟩ = some (.int .i64 c) ∧ v.cell? ⟨w.heap.size, 3, none⟩ = some (.int .i64 q)) := fun v hv => par_held hw0 hv
  by_cases hn : 40 < n
  · have HLO := fun v => long_any v lo n lc true (decide_eq_true hn)
    clear h hr hl HPAR
    go_enter Tryz.func4, Tryz.ntmps4
    go_wp2_with fail
    rw [← hw0]
    clear hw0
    refine (awake_any _).mono ?_
    rintro e wa ⟨rfl, ha⟩
    go_wp2_with fail
    refine (HLO _).mono ?_
    rintro e wl ⟨rfl, rfl⟩
    go_wp2_with fail
    go_ret
    exact ⟨rfl, below_then B0.out ha⟩
  have HLO : Hid (∀ v, Calls Tryz.prog 6 #[.slice lo n lc] v fun e w' => e = .returned (.bool false) ∧ w' = v) := fun v => long_any v lo n lc false (decide_eq_false hn)
  by_cases he : ¬ erK x N c rn L 1 fr = 0
  · obtain ⟨E, hE⟩ : ∃ E, erK x N c rn L 1 fr = E := ⟨_, rfl⟩
    rw [hE] at he
    have HP : Hid (∀ v, Below w.heap.size w v → Calls Tryz.prog 7 #[.agg #[.int .i64 k, .int .i64 r, .int .i64 c, .int .i64 q], .slice ro rn rc, .int .i64 0, .int .i64 fr, .int .i64 tv, .slice lo n lc] v fun e w' => e = .returned (.tuple #[.slice none 0 0, .int .i64 E]) ∧ Below v.heap.size v w') := fun v hv => plan_no h v ro rn rc A L C F (hr.below hv) 0 fr tv lo n lc E hE he
    have e1 : (E != 0) = true := by simp [he]
    have e2 : (E == 0) = false := by simp [he]
    clear h hr hl hE
    go_enter Tryz.func4, Tryz.ntmps4
    go_wp2_with fail
    rw [← hw0]
    clear hw0
    refine (awake_any _).mono ?_
    rintro e wa ⟨rfl, ha⟩
    obtain ⟨a0, a1, a2, a3⟩ := HPAR.out wa ha
    go_wp2_with fail
    refine (HLO.out _).mono ?_
    rintro e wl ⟨rfl, rfl⟩
    go_wp2_with fail
    refine (HP.out _ (below_then B0.out ha)).mono ?_
    rintro e wp ⟨rfl, hp⟩
    go_wp2_with fail
    go_ret
    exact ⟨rfl, below_then (below_then B0.out ha) hp⟩
  have he := Classical.not_not.1 he
  obtain ⟨hR0, _, hfr⟩ := erK_zero he
  obtain ⟨rfl, rfl, hL⟩ := erR_zero hR0
  clear he hR0
  have hp : ∃ K R m : Nat, k = (K : Int) ∧ r = (R : Int) ∧ c = (m : Int) ∧ (1 ≤ K ∧ K ≤ 12 ∧ R ≤ 4 ∧ 8 ≤ m ∧ m ≤ 64) ∧ rn = K + R := by
    rcases h with ⟨h1, _, h0, _⟩ | ⟨_, _, _, h0⟩
    · obtain ⟨h1, h2, h3, h4, h5, h6, h7, h8, h9⟩ := may_true h1
      exact ⟨k.toNat, r.toNat, c.toNat, by omega, by omega, by omega, by omega, by omega⟩
    · exact absurd h0 (by decide)
  obtain ⟨K, R, m, rfl, rfl, rfl, ⟨hK, hK2, hR, hm, hm2⟩, rfl⟩ := hp
  obtain ⟨t, ht⟩ : ∃ t, tS (yy (K + R) (m : Int) L F) 1 fr (2 * (K + R)) = t := ⟨_, rfl⟩
  obtain ⟨z, hz⟩ : ∃ z, zv (K + R) (m : Int) L F 1 fr = z := ⟨_, rfl⟩
  have HP := fun v (hv : Below w.heap.size w v) => plan_yes h v ro rc A L C F (hr.below hv) hL 0 fr tv hfr lo n lc D AA LL CC H (hl.below hv) (by omega) t ht z hz
  have HP : Hid _ := HP
  have HF : Hid (∀ v, Below w.heap.size w v → Calls Tryz.prog 9 #[.agg #[.int .i64 (K : Int), .int .i64 (R : Int), .int .i64 (m : Int), .int .i64 q], .slice ro (K + R) rc, .int .i64 tv] v (AnsFi v (K + R) (m : Int) L F tv)) := fun v hv => fit_any h v ro rc A L C F (hr.below hv) hL tv
  unfold AnsFi at HF
  have HRR : Hid (∀ v, Below w.heap.size w v → Rw v ro (K + R) A L C F) := fun v hv => hr.below hv
  have HH : Hid (Par (K : Int) (R : Int) (m : Int) q (K + R) W 0) := h
  have HL : Hid (∀ j, j < 2 * (K + R) → L j = 0 ∨ L j = sz (K + R) (m : Int)) := hL
  have HT : Hid (tS (yy (K + R) (m : Int) L F) 1 fr (2 * (K + R)) = t ∧ zv (K + R) (m : Int) L F 1 fr = z) := ⟨ht, hz⟩
  clear h hr hl hL ht hz
  go_enter Tryz.func4, Tryz.ntmps4
  go_wp2_with fail
  rw [← hw0]
  clear hw0
  refine (awake_any _).mono ?_
  rintro e wa ⟨rfl, ha⟩
  obtain ⟨a0, a1, a2, a3⟩ := HPAR.out wa ha
  have HBA : Hid (Below w0.heap.size w0 wa) := ha
  clear ha
  go_wp2_with fail
  refine (HLO.out _).mono ?_
  rintro e wl ⟨rfl, rfl⟩
  go_wp2_with fail
  refine (HP.out _ (below_then B0.out HBA.out)).mono ?_
  rintro e wp (⟨E, hE, rfl, hb⟩ | ⟨i1, i2, i3, i4, i5, i6, _, i8, po, pc, T, U, rfl, hpl, hb⟩)
  · have e1 : (E != 0) = true := by simp [hE]
    have e2 : (E == 0) = false := by simp [hE]
    go_wp2_with fail
    go_ret
    exact ⟨rfl, below_then (below_then B0.out HBA.out) hb⟩
  have HBP : Hid (Below w0.heap.size w0 wp) := below_then HBA.out hb
  have BWP : Hid (Below w.heap.size w wp) := below_then B0.out HBP.out
  clear a0 a1 a2 a3 hb HP
  obtain ⟨a0, a1, a2, a3⟩ := HPAR.out wp HBP.out
  obtain ⟨os, hos⟩ : ∃ os, ol (K + R) (m : Int) L F t.V = os := ⟨_, rfl⟩
  have hos2 : ∀ i, os i < 2 := fun i => by rw [← hos]; exact oN_lt _ _ _ _
  have hri := dq_ris (R := R) i4
  have htt := told_of HT.out.1 (by rw [HT.out.2]; exact i6) hK
  obtain ⟨htc, hvn, hVr⟩ := htt
  have hnK := gd_len i4
  have hren : Ren (K + R) t.V (n + R) (Cod.cat n D (fun i => ((K + i : Nat) : Int))) (dq K n D) tv := ⟨fun i hi => by have := hVr i hi; omega, by omega, fun j hj => ⟨dq_D i4 j, hri.lt j hj⟩, by omega, by omega⟩
  rw [hos] at hpl
  obtain ⟨G, hG⟩ : ∃ G : Nat → Nat → UInt8, G = fun i => enc (slC 1 (K + R) (bmp (Cod.cat n D (fun i => ((K + i : Nat) : Int))) tv t.V (n + R)) m (pH K (K + R) n z D H (Cod.cnt (Lw (dq K n D) (n + R)) i)) i) := ⟨_, rfl⟩
  rw [← hG] at hpl
  obtain ⟨Lc, hLc⟩ : ∃ Lc, Lw (dq K n D) (n + R) = Lc := ⟨_, rfl⟩
  rw [hLc] at hpl
  have hcn : Cod.cnt Lc (K + R) = n + R := by rw [← hLc]; exact hri.all
  obtain ⟨L2, hL2⟩ : ∃ L2, bP Lc os (K + R) L (fun _ => sz (K + R) (m : Int)) (n + R) = L2 := ⟨_, rfl⟩
  obtain ⟨F2, hF2⟩ : ∃ F2, bP Lc os (K + R) F G (n + R) = F2 := ⟨_, rfl⟩
  have HBEH : Hid (∀ v, Below wp.heap.size wp v → Calls Tryz.prog 11 #[.slice ro (K + R) rc, .slice po (n + R) pc, .int .i64 ((n : Int) + (R : Int))] v fun e w' => ∃ g c' A2 C2, e = .returned (.slice (some ⟨g, 0, none⟩) (K + R) c') ∧ Rw w' (some ⟨g, 0, none⟩) (K + R) A2 L2 C2 F2 ∧ Below v.heap.size v w') := fun v hv => by
    have := behind_any v ro (K + R) rc A L C F (HRR.out v (below_then BWP.out hv)) (by omega) (by omega) _ po pc Lc os 0 (sz (K + R) (m : Int)) T U G (by rw [hcn]; exact hpl.below hv) hos2 (n + R) (by rw [hcn]; exact Nat.le_refl _)
    rw [hcn, Int.natCast_add] at this
    refine this.mono ?_
    rintro e w' ⟨g, c', rfl, h1, h2⟩
    have h3 := h1.rw
    rw [hL2, hF2] at h3
    exact ⟨g, c', _, _, rfl, h3, h2⟩
  have HCE : Hid (abB (K + R) (m : Int) L F tv = true → ∃ z2, ∀ v g c' A2 C2, Rw v (some ⟨g, 0, none⟩) (K + R) A2 L2 C2 F2 → Calls Tryz.prog 12 #[.agg #[.int .i64 (K : Int), .int .i64 (R : Int), .int .i64 (m : Int), .int .i64 q], .slice (some ⟨g, 0, none⟩) (K + R) c', .int .u8 1, .int .i64 tv] v fun e w' => ∃ co cc T U, e = .returned (.tuple #[.slice co (K + R) cc, .int .i64 0]) ∧ Cls v.heap.size w' co (K + R) cc m T U (cH K z2 (K + R)) ∧ Below v.heap.size v w') := fun hab => by
    refine ⟨zv (K + R) (m : Int) L2 F2 1 tv, fun v g c' A2 C2 hrw => ?_⟩
    have hL3 : ∀ j, j < 2 * (K + R) → L2 j = 0 ∨ L2 j = sz (K + R) (m : Int) := by rw [← hL2]; exact row_n Lc HL.out (n + R)
    have hst : ∀ j, j < 2 * (K + R) → (yy (K + R) (m : Int) L F j).st < tv := fun j hj => above_st hab (by omega) hj
    have hupd := upd_row (M := pH K (K + R) n z D H) (m := m) (L := L) (F := F) (by omega) hren hri hos2 hst
    rw [hLc, hL2] at hupd
    rw [hLc] at hG
    rw [← hG, hF2] at hupd
    have hread := upd_read (K := K) (by omega) (by omega) (yy_ok (K + R) (m : Int) L2 F2) htc hupd (by
      have := i6
      rw [← HT.out.2] at this
      unfold zv at this
      rw [HT.out.1] at this
      exact this)
    have hc := Cells_any HH.out v (some ⟨g, 0, none⟩) (K + R) c' A2 L2 C2 F2 hrw 1 tv 0 (by
      rw [erK_ok hL3 (.inl rfl) ⟨by omega, i2⟩, Int.toNat_natCast]
      unfold erV2
      rw [if_pos rfl]
      exact hread)
    rw [Int.toNat_natCast, Int.toNat_natCast] at hc
    exact hc
  have HPB : Hid (fr < tv) := i1
  clear hpl hG hLc hL2 hF2 hren hri hos hos2 htc hvn hVr hcn i1 i3 i4 i5 i6 i8
  go_wp2_with fail
  refine (HF.out _ BWP.out).mono ?_
  rintro e wf ⟨y, rfl, hy, hbf⟩
  cases y
  · go_wp2_with fail
    go_ret
    exact ⟨rfl, below_then BWP.out hbf⟩
  obtain ⟨z2, hz2⟩ := HCE.out (hy rfl).1
  have HC2 : Hid _ := hz2
  have HBF : Hid (Below wp.heap.size wp wf) := hbf
  clear hz2 HCE hbf hy a0 a1 a2 a3
  obtain ⟨a0, a1, a2, a3⟩ := HPAR.out wf (below_then HBP.out HBF.out)
  go_wp2_with fail
  go_region_held3 (fun v => v.cell? ⟨w.heap.size, 0, none⟩ = some (.int .i64 (K : Int)) ∧ v.cell? ⟨w.heap.size, 1, none⟩ = some (.int .i64 (R : Int)) ∧ v.cell? ⟨w.heap.size, 2, none⟩ = some (.int .i64 (m : Int)) ∧ v.cell? ⟨w.heap.size, 3, none⟩ = some (.int .i64 q)) (go_keep)
    ((first
      | (go_at_call 11; refine (HBEH.out _ (below_then HBF.out (below_drew _ _))).mono ?_; rintro e wb ⟨g, gc, A2, C2, rfl, hrw, hbb⟩
         have HRW : Hid (Rw wb (some ⟨g, 0, none⟩) (K + R) A2 L2 C2 F2 ∧ Below wf.heap.size wf wb) := ⟨hrw, below_then (below_drew _ _) hbb⟩
         have f0 := held (w := wf.drew) a0 hbb; have f1 := held (w := wf.drew) a1 hbb; have f2 := held (w := wf.drew) a2 hbb; have f3 := held (w := wf.drew) a3 hbb)
      | (go_at_call 12; refine (HC2.out _ g gc A2 C2 HRW.out.1).mono ?_; rintro e wc ⟨co, cc, CT, CU, rfl, hcl, hcb⟩
         have u0 := held f0 hcb; have u1 := held f1 hcb; have u2 := held f2 hcb; have u3 := held f3 hcb)))
  have BWC : Hid (Below w.heap.size w wc) := below_then BWP.out (below_then HBF.out (below_then HRW.out.2 hcb))
  have HVE : Hid (Calls Tryz.prog 13 #[.int .i64 (K : Int), .int .i64 (R : Int), .slice co (K + R) cc] wc fun e w' => e = .returned (.tuple #[.bool true, .int .i64 0]) ∧ Below wc.heap.size wc w') := verify_good wc _ co cc CT CU hcl hK hK2 hR (by omega) hm2
  clear hcl hcb
  go_wp2_with fail
  refine HVE.out.mono ?_
  rintro e wz ⟨rfl, hzz⟩
  go_wp2_with fail
  go_ret
  exact ⟨rfl, below_then BWC.out hzz⟩
end Go.Proofs.YtfhefbbhlmdjkaaGreat
