/- DirAdds' walk. -/
import Derived.Test.YtfbfiecamaginaaDrX
namespace Go.Proofs.Ytfbfiecamaginaa
open Go.RowKit Go.Sort

theorem erA_zero {E : Int} {M : Nat} {q : Int} {l : List En} {x : En} (h : erA E M q l x = 0) : E = 0 ∧ oneE q x = true ∧ isE l x.1 = false ∧ szE (insE l x) ≤ M := by
  unfold erA at h
  split at h
  · next h0 =>
    split at h
    · next h1 =>
      split at h
      · cases h
      · next h2 =>
        split at h
        · cases h
        · next h3 => exact ⟨h0, h1, by simpa using h2, by omega⟩
    · cases h
  · next h0 => exact absurd h h0
theorem erA_good {M : Nat} {q : Int} {l : List En} {x : En} (h1 : oneE q x = true) (h2 : isE l x.1 = false) (h3 : szE (insE l x) ≤ M) : erA 0 M q l x = 0 := by rw [erA_sz h1 h2, if_neg (by omega)]
theorem one_name {q : Int} {x : En} (h : oneE q x = true) : mayN x.1 = true := by
  unfold oneE at h
  rw [Bool.and_eq_true] at h
  exact h.1
theorem add_a {e : Int} {M : Nat} {q : Int} {l : List En} {x : En} (h : erA (erC e M q l) M q l x = 0) : erC e M q l = 0 ∧ erC e M q (insE l x) = 0 ∧ Ri l ∧ Ri (insE l x) ∧ isE l x.1 = false ∧ mayN x.1 = true ∧ (∀ y ∈ insE l x, mayN y.1 = true) := by
  obtain ⟨h0, h1, h2, h3⟩ := erA_zero h
  obtain ⟨g1, g2, g3⟩ := erC_zero h0
  have g4 := mayE_ins g2 h1 h2
  exact ⟨h0, erC_good g1 g4 h3, ri_of g2, ri_of g4, h2, one_name h1, fun y hy => one_name (one_of g4 y hy)⟩
/-- What stands in a list is found. -/
theorem find_in {e : Int} {M : Nat} {q : Int} {l : List En} (h : erC e M q l = 0) {y : En} (hy : y ∈ l) : erN (erC e M q l) y.1 = 0 ∧ asI 0 l y.1 = true ∧ fiR 0 l y.1 = y.2 := by
  obtain ⟨g1, g2, g3⟩ := erC_zero h
  obtain ⟨f1, f2, f3⟩ := found_mem (ri_of g2) hy
  have hi : asI 0 l y.1 = true := by unfold asI; rw [f1]; rfl
  refine ⟨?_, hi, ?_⟩
  · unfold erN
    rw [h, if_pos rfl, one_name (one_of g2 y hy), if_pos rfl]
  · unfold fiR
    rw [hi, if_pos rfl, f3]
theorem add_rem {e : Int} {M : Nat} {q : Int} {l : List En} {x : En} (h : erA (erC e M q l) M q l x = 0) : erR (erN (erC e M q (insE l x)) x.1) (insE l x) x.1 = 0 ∧ remE (insE l x) x.1 = l ∧ erN (erC e M q l) x.1 = 0 ∧ asI 0 l x.1 = false := by
  obtain ⟨h0, h1, h2, h3, h4, h5, h6⟩ := add_a h
  have hf := find_in h1 ((ins_mem l x x).2 (.inl rfl))
  have hm := ins_mid l x h3
  refine ⟨?_, hm.2.2.1, ?_, ?_⟩
  · rw [hf.1]
    exact erR_yes hm.2.1
  · unfold erN; rw [h0, if_pos rfl, h5, if_pos rfl]
  · unfold asI; rw [h4]; rfl
theorem add_two {e : Int} {M : Nat} {q : Int} {l : List En} {x y : En} (h : erA (erC e M q l) M q l x = 0) (g : erA (erC e M q (insE l x)) M q (insE l x) y = 0) :
    erA (erC e M q l) M q l y = 0 ∧ erA (erC e M q (insE l y)) M q (insE l y) x = 0 ∧ insE (insE l y) x = insE (insE l x) y := by
  obtain ⟨h0, h1, h2, h3⟩ := erA_zero h
  obtain ⟨k0, k1, k2, k3⟩ := erA_zero g
  obtain ⟨a1, a2, a3⟩ := ins_comm (ri_of (erC_zero h0).2.1) h2 k2
  have s1 : szE (insE l y) ≤ M := by rw [sz_ins]; rw [sz_ins, sz_ins] at k3; omega
  have s2 : szE (insE (insE l y) x) ≤ M := by rw [a3]; exact k3
  obtain ⟨c1, c2, c3⟩ := erC_zero h0
  have hc : erC e M q (insE l y) = 0 := erC_good c1 (mayE_ins c2 k1 a1) s1
  refine ⟨by rw [h0]; exact erA_good k1 a1 s1, by rw [hc]; exact erA_good h1 a2 s2, a3⟩
set_option maxHeartbeats 8000000 in
set_option maxRecDepth 100000 in
theorem adds_law {k r c q : Int} {M : Nat} {e : Int} (hp : PP k r c q M e) (w : World) (ao : Option Addr) (l : List En) (ca : Nat) (hv : Ren w ao l ca) (N : Nm) (R : Int) (hN : N.length ≤ 140737488355328) (N2 : Nm) (R2 : Int) (hN2 : N2.length ≤ 140737488355328) :
    Calls Try.prog 7 #[.agg #[.int .i64 k, .int .i64 r, .int .i64 c, .int .i64 q], .slice ao l.length ca, .agg #[.string ⟨N.toArray⟩, .int .i64 R], .agg #[.string ⟨N2.toArray⟩, .int .i64 R2]] w fun e' w' => e' = .returned (.bool true) ∧ RowKit.Below w.heap.size w w' := by
  obtain ⟨w0, hw0⟩ : ∃ w0, w0 = w.alloc (.cells #[.int .i64 k, .int .i64 r, .int .i64 c, .int .i64 q] 24) := ⟨_, rfl⟩
  have b0 : RowKit.Below w.heap.size w w0 := by rw [hw0]; exact below_alloc _ _
  obtain ⟨wx, hwx⟩ : ∃ wx, wx = w0.alloc (.cells #[.string ⟨N.toArray⟩, .int .i64 R] 34) := ⟨_, rfl⟩
  have bx : RowKit.Below w0.heap.size w0 wx := by rw [hwx]; exact below_alloc _ _
  obtain ⟨v0, hv0⟩ : ∃ v0, v0 = wx.alloc (.cells #[.string ⟨N2.toArray⟩, .int .i64 R2] 34) := ⟨_, rfl⟩
  have by0 : RowKit.Below wx.heap.size wx v0 := by rw [hv0]; exact below_alloc _ _
  have HPAR : Hid (∀ v, RowKit.Below v0.heap.size v0 v → v.cell? ⟨w.heap.size, 0, none⟩ = some (.int .i64 k) ∧ v.cell? ⟨w.heap.size, 1, none⟩ = some (.int .i64 r) ∧ v.cell? ⟨w.heap.size, 2, none⟩ = some (.int .i64 c) ∧ v.cell? ⟨w.heap.size, 3, none⟩ = some (.int .i64 q)) := fun v hv => par_held hw0 (below_then bx (below_then by0 hv))
  have hs0 : w0.heap.size = w.heap.size + 1 := by rw [hw0]; simp
  have hsx : wx.heap.size = w.heap.size + 1 + 1 := by rw [hwx, ← hs0]; simp
  have HEN : Hid (∀ v, RowKit.Below v0.heap.size v0 v → v.cell? ⟨w.heap.size + 1, 0, none⟩ = some (.string ⟨N.toArray⟩) ∧ v.cell? ⟨w.heap.size + 1, 1, none⟩ = some (.int .i64 R)) := fun v hv => by rw [← hs0]; exact ent_held hwx (below_then by0 hv)
  have HEY : Hid (∀ v, RowKit.Below v0.heap.size v0 v → v.cell? ⟨w.heap.size + 1 + 1, 0, none⟩ = some (.string ⟨N2.toArray⟩) ∧ v.cell? ⟨w.heap.size + 1 + 1, 1, none⟩ = some (.int .i64 R2)) := fun v hv => by rw [← hsx]; exact ent_held hv0 hv
  have HB0 : Hid (RowKit.Below w.heap.size w v0) := below_then (below_then b0 bx) by0
  have HV : Hid (∀ v, RowKit.Below v0.heap.size v0 v → Ren v ao l ca) := fun v h => hv.below (below_then HB0.out h)
  have HP : Hid (PP k r c q M e) := hp
  have HAL := alive_any v0
  rw [hwx, hw0] at hv0
  have HW : Hid (((w.alloc (.cells #[.int .i64 k, .int .i64 r, .int .i64 c, .int .i64 q] 24)).alloc (.cells #[.string ⟨N.toArray⟩, .int .i64 R] 34)).alloc (.cells #[.string ⟨N2.toArray⟩, .int .i64 R2] 34) = v0) := hv0.symm
  have hsN := str_size N
  have hsN2 := str_size N2
  have hwr : IntKind.i64.wrap ((N.length : Int) + (N2.length : Int)) = (N.length : Int) + (N2.length : Int) := by rw [IntKind.wrap_i64]; omega
  clear hv b0 bx by0 hp hw0 hwx hv0 hs0 hsx
  go_enter Try.func7, Try.ntmps7
  go_wp2_with fail
  rw [HW.out]
  clear HW
  refine HAL.mono ?_
  rintro _ w1 ⟨rfl, h1⟩
  have HB1 : Hid (RowKit.Below v0.heap.size v0 w1) := h1
  have hMU := much_any w1 ao l ca (HV.out w1 h1)
  clear HAL h1
  cases hm : muE l
  · rw [hm] at hMU
    by_cases hlen : N.length + N2.length ≤ 2000
    · have d1 : ¬ (2000 : Int) < (N.length : Int) + (N2.length : Int) := by omega
      have HM : Hid (muE l = false) := hm
      have HN : Hid (N.length ≤ 2000 ∧ N2.length ≤ 2000) := ⟨by omega, by omega⟩
      clear hm hlen
      go_wp2_with fail
      refine hMU.mono ?_
      rintro _ w2 ⟨rfl, h2⟩
      have HB2 : Hid (RowKit.Below v0.heap.size v0 w2) := below_then HB1.out h2
      obtain ⟨x0, x1, x2, x3⟩ := HPAR.out w2 HB2.out
      obtain ⟨y0, y1⟩ := HEN.out w2 HB2.out
      obtain ⟨z0, z1⟩ := HEY.out w2 HB2.out
      have hC := Add_any HP.out w2 ao l ca (HV.out w2 HB2.out) (few_mu HM.out) N R (few_ins HM.out HN.out.1)
      clear h2 hMU
      go_wp2_with fail
      refine hC.mono ?_
      rintro _ w3 ⟨E1, so, sc, A, hE1, hA, rfl, ho1, h3⟩
      have HB3 : Hid (RowKit.Below v0.heap.size v0 w3) := below_then HB2.out h3
      clear hC x0 x1 x2 x3 y0 y1 z0 z1
      by_cases e1 : E1 = 0
      · subst e1
        rw [if_pos rfl] at hA
        have HE1 : Hid (erA (erC e M q l) M q l (N, R) = 0) := hE1.symm
        have HA : Hid (A = insE l (N, R)) := hA
        have HOA : Hid (∀ v, RowKit.Below w3.heap.size w3 v → Ren v so A sc) := fun v h => ho1.ren.below h
        have HAL : Hid (A.length = l.length + 1) := by show _ = _; rw [hA, ins_length]
        have hAL2 : (A.length : Int) = (l.length : Int) + 1 := by have := HAL.out; omega
        have hll : (l.length : Int) ≤ 2000 := by have := (mu_few HM.out).1; omega
        have HFA : Hid (Few A) := by show Few A; rw [hA]; exact few_ins HM.out HN.out.1
        have HIN : Hid (∀ y ∈ A, erN (erC e M q A) y.1 = 0 ∧ asI 0 A y.1 = true ∧ fiR 0 A y.1 = y.2) := fun y hy => find_in (by rw [hA]; exact (add_a HE1.out).2.1) hy
        obtain ⟨f1, f2, f3⟩ := HIN.out (N, R) (by rw [hA]; exact (ins_mem l (N, R) (N, R)).2 (.inl rfl))
        obtain ⟨x0, x1, x2, x3⟩ := HPAR.out w3 HB3.out
        obtain ⟨y0, y1⟩ := HEN.out w3 HB3.out
        have hC := Find_any HP.out w3 so A sc ho1.ren HFA.out N
        rw [f1] at hC
        clear hE1 hA ho1 h3 f1
        go_wp2_with fail
        refine hC.mono ?_
        rintro _ w4 ⟨E, hE, rfl, h4⟩
        subst hE
        rw [f2, f3]
        have HB34 : Hid (RowKit.Below w3.heap.size w3 w4) := h4
        have HB4 : Hid (RowKit.Below v0.heap.size v0 w4) := below_then HB3.out h4
        clear hC x0 x1 x2 x3 y0 y1 h4 f2 f3
        obtain ⟨y0, y1⟩ := HEN.out w4 HB4.out
        go_wp2_with fail
        go_loopw [14] (fun x wr => ∃ i : Nat, i ≤ l.length ∧ i ≤ 100 ∧ x = .int .i64 (i : Int) ∧ Hid (RowKit.Below w3.heap.size w3 wr)) (fun x _ => l.length - (intOf x).toNat)
        case atStart => exact ⟨0, Nat.zero_le _, by omega, rfl, HB34⟩
        case round =>
          obtain ⟨i, hi, hi100, rfl, hbel⟩ := hrel
          have HBR : Hid (RowKit.Below v0.heap.size v0 wr) := below_then HB3.out hbel.out
          have i1 : (0 : Int) ≤ (i : Int) := by omega
          by_cases hend : i < l.length ∧ i < 100
          · obtain ⟨hlt, hlt2⟩ := hend
            obtain ⟨b, off, rfl, hc⟩ := (HV.out wr HBR.out).at_ (by omega)
            obtain ⟨c0, c1⟩ := hc i hlt
            obtain ⟨f1, f2, f3⟩ := HIN.out (gN l i, gR l i) (by rw [HA.out, ins_mem]; right; rw [gN_eq hlt, gR_eq hlt]; exact List.getElem_mem hlt)
            obtain ⟨K1, hK1⟩ : ∃ K1, K1 = gN l i := ⟨_, rfl⟩
            obtain ⟨S1, hS1⟩ : ∃ S1, S1 = gR l i := ⟨_, rfl⟩
            simp only [← hK1, ← hS1] at f1 f2 f3 c0 c1
            have hFI := fun d os => Find_any HP.out (grow (redrawn wr d) os) so A sc (HOA.out _ (below_then hbel.out (below_regrown wr d os))) HFA.out K1
            have cF := fun d os => Calls.regrown_of (d := d) (os := os) ((hFI d os).mono fun e' w' h => (show e' = .returned (.tuple #[.int .i64 S1, .bool true, .int .i64 0]) ∧ RowKit.Below (grow (redrawn wr d) os).heap.size (grow (redrawn wr d) os) w' by
              obtain ⟨E, hE, he, hb⟩ := h
              rw [f1] at hE
              subst hE
              rw [f2, f3] at he
              exact ⟨he, hb⟩))
            have HC1 : Hid (∀ v, RowKit.Below wr.heap.size wr v → v.cell? ⟨b, off + i * 2 + 1, none⟩ = some (.int .i64 S1)) := fun v h => held c1 h
            obtain ⟨x0, x1, x2, x3⟩ := HPAR.out wr HBR.out
            have k0 := cell_regrown x0
            have k1 := cell_regrown x1
            have k2 := cell_regrown x2
            have k3 := cell_regrown x3
            have k4 := cell_regrown c0
            have j1 : (i : Int) < (l.length : Int) := by omega
            have j2 : (i : Int) < 100 := by omega
            clear hc f1 f2 f3 hK1 hS1 c0 c1 x0 x1 x2 x3 hFI
            go_wp2_with fail
            refine wp_region_quiet_below (by kernel_rfl) (by kernel_rfl) ?_
            repeat (go_big_quiet_step (exact cF _ _))
            refine wpQuiet_nil ?_
            intro _ hw'
            obtain ⟨⟨dq, osq⟩, hw''⟩ := hw'
            have hb9 := below_regrown wr dq osq
            rw [← hw''] at hb9
            clear hw''
            have c2 := HC1.out _ hb9
            go_wp2
            go_roundw
            case rel => exact ⟨i + 1, by omega, by omega, by go_num, below_then hbel.out hb9⟩
            case measure => simp [intOf]; omega
          · have hS : Hid (RowKit.Below w3.heap.size w3 wr) := hbel
            obtain ⟨x0, x1, x2, x3⟩ := HPAR.out wr HBR.out
            obtain ⟨y0, y1⟩ := HEN.out wr HBR.out
            have hC := Remove_any HP.out wr so A sc (HOA.out wr hbel.out) HFA.out N
            obtain ⟨p1, p2, p3, p4⟩ := add_rem HE1.out
            rw [← HA.out] at p1 p2
            rw [p1, p2] at hC
            have HP34 : Hid (erN (erC e M q l) N = 0 ∧ asI 0 l N = false) := ⟨p3, p4⟩
            have hcond : (i : Int) < (l.length : Int) → ¬ (i : Int) < 100 := fun h h2 => hend ⟨by omega, by omega⟩
            clear p1 p2 p3 p4 hend
            by_cases hlt : (i : Int) < (l.length : Int)
            case' pos =>
              have hge := hcond hlt
              clear hcond
              go_wp2_with fail
            case' neg =>
              clear hcond
              go_wp2_with fail
            all_goals (
              refine hC.mono ?_
              rintro _ w5 ⟨E, ro, rc, D, hE, hD, rfl, ho5, h5⟩
              subst hE
              rw [if_pos rfl] at hD
              have hD2 := hD.symm
              subst hD2
              have HB5 : Hid (RowKit.Below v0.heap.size v0 w5) := below_then HBR.out h5
              have HB35 : Hid (RowKit.Below w3.heap.size w3 w5) := below_then hbel.out h5
              have HOR : Hid (∀ v, RowKit.Below w5.heap.size w5 v → Ren v ro l rc) := fun v h => ho5.ren.below h
              have hS := Same_any w5 ro ao l l rc ca ho5.ren (HV.out w5 HB5.out) (by omega)
              rw [decide_eq_true rfl] at hS
              clear hC x0 x1 x2 x3 y0 y1 hD ho5 h5
              go_wp2_with fail
              refine hS.mono ?_
              rintro _ w6 ⟨rfl, h6⟩
              have HB6 : Hid (RowKit.Below v0.heap.size v0 w6) := below_then HB5.out h6
              have HB36 : Hid (RowKit.Below w3.heap.size w3 w6) := below_then HB35.out h6
              have hC := Find_any HP.out w6 ro l rc (HOR.out w6 h6) (few_mu HM.out) N
              rw [HP34.out.1] at hC
              obtain ⟨x0, x1, x2, x3⟩ := HPAR.out w6 HB6.out
              obtain ⟨y0, y1⟩ := HEN.out w6 HB6.out
              clear hS h6
              go_wp2_with fail
              refine hC.mono ?_
              rintro _ w7 ⟨E, hE, rfl, h7⟩
              subst hE
              rw [HP34.out.2]
              have HB7 : Hid (RowKit.Below v0.heap.size v0 w7) := below_then HB6.out h7
              have HB37 : Hid (RowKit.Below w3.heap.size w3 w7) := below_then HB36.out h7
              clear hC x0 x1 x2 x3 y0 y1 h7
              have hC := Add_any HP.out w7 so A sc (HOA.out w7 HB37.out) HFA.out N2 R2 (by rw [HA.out]; exact few_ins2 HM.out HN.out.1 HN.out.2)
              obtain ⟨x0, x1, x2, x3⟩ := HPAR.out w7 HB7.out
              obtain ⟨z0, z1⟩ := HEY.out w7 HB7.out
              go_wp2_with fail
              refine hC.mono ?_
              rintro _ w8 ⟨E2, uo, uc, U, hE2, hU, rfl, ho8, h8⟩
              have HB8 : Hid (RowKit.Below v0.heap.size v0 w8) := below_then HB7.out h8
              clear hC x0 x1 x2 x3 z0 z1
              by_cases e2 : E2 = 0
              · subst e2
                rw [if_pos rfl] at hU
                have hE3 := hE2.symm
                rw [HA.out] at hE3
                obtain ⟨p1, p2, p3⟩ := add_two HE1.out hE3
                have HU : Hid (insE (insE l (N2, R2)) (N, R) = U) := by show _ = _; rw [p3, ← HA.out]; exact hU.symm
                have HP2 : Hid (erA (erC e M q (insE l (N2, R2))) M q (insE l (N2, R2)) (N, R) = 0) := p2
                have HOU : Hid (∀ v, RowKit.Below w8.heap.size w8 v → Ren v uo U uc) := fun v h => ho8.ren.below h
                have hC := Add_any HP.out w8 ao l ca (HV.out w8 HB8.out) (few_mu HM.out) N2 R2 (few_ins HM.out HN.out.2)
                rw [p1] at hC
                obtain ⟨x0, x1, x2, x3⟩ := HPAR.out w8 HB8.out
                obtain ⟨z0, z1⟩ := HEY.out w8 HB8.out
                clear hE2 hE3 hU p1 p2 p3 ho8 h8
                go_wp2_with fail
                refine hC.mono ?_
                rintro _ w9 ⟨E, to, tc, C1, hE, hC1, rfl, ho9, h9⟩
                subst hE
                rw [if_pos rfl] at hC1
                have HB9 : Hid (RowKit.Below v0.heap.size v0 w9) := below_then HB8.out h9
                have HB89 : Hid (RowKit.Below w8.heap.size w8 w9) := h9
                clear hC x0 x1 x2 x3 z0 z1 h9
                have HCC : Hid (C1 = insE l (N2, R2)) := hC1
                have hC := Add_any HP.out w9 to C1 tc ho9.ren (by rw [hC1]; exact few_ins HM.out HN.out.2) N R (by rw [hC1]; exact few_ins2 HM.out HN.out.2 HN.out.1)
                rw [show erA (erC e M q C1) M q C1 (N, R) = 0 by rw [HCC.out]; exact HP2.out, show insE C1 (N, R) = U by rw [HCC.out]; exact HU.out] at hC
                obtain ⟨x0, x1, x2, x3⟩ := HPAR.out w9 HB9.out
                obtain ⟨y0, y1⟩ := HEN.out w9 HB9.out
                clear hC1 ho9
                go_wp2_with fail
                refine hC.mono ?_
                rintro _ w10 ⟨E, vo, vc, D1, hE, hD1, rfl, ho10, h10⟩
                subst hE
                rw [if_pos rfl] at hD1
                have hD2 := hD1.symm
                subst hD2
                have HB10 : Hid (RowKit.Below v0.heap.size v0 w10) := below_then HB9.out h10
                have hfu : U.length ≤ 1000000000 := by
                  have hh := few_ins2 (x := (N2, R2)) (y := (N, R)) HM.out HN.out.2 HN.out.1
                  rw [HU.out] at hh
                  have := hh.1
                  omega
                have hS := Same_any w10 uo vo U U uc vc (HOU.out w10 (below_then HB89.out h10)) ho10.ren hfu
                rw [decide_eq_true rfl] at hS
                clear hC x0 x1 x2 x3 y0 y1 hD1 ho10 h10
                go_wp2_with fail
                refine hS.mono ?_
                rintro _ w11 ⟨rfl, h11⟩
                go_wp2
                go_ret
                exact ⟨rfl, below_then HB0.out (below_then HB10.out h11)⟩
              · have e2z : (E2 != 0) = true := by simpa using e2
                clear hE2 hU ho8 h8 e2
                go_wp2
                go_ret
                exact ⟨rfl, below_then HB0.out HB8.out⟩)
      · rw [if_neg e1] at hA
        subst hA
        have e1z : (E1 != 0) = true := by simpa using e1
        clear hE1 ho1 h3 e1
        go_wp2
        go_ret
        exact ⟨rfl, below_then HB0.out HB3.out⟩
    · have d1 : (2000 : Int) < (N.length : Int) + (N2.length : Int) := by omega
      obtain ⟨y0, y1⟩ := HEN.out w1 HB1.out
      obtain ⟨z0, z1⟩ := HEY.out w1 HB1.out
      clear hm hlen
      go_wp2_with fail
      refine hMU.mono ?_
      rintro _ w2 ⟨rfl, h2⟩
      have y2 := held y0 h2
      have z2 := held z0 h2
      clear y0 y1 z0 z1
      go_wp2
      go_ret
      exact ⟨rfl, below_then (below_then HB0.out HB1.out) h2⟩
  · rw [hm] at hMU
    clear hm
    go_wp2_with fail
    refine hMU.mono ?_
    rintro _ w2 ⟨rfl, h2⟩
    go_wp2
    go_ret
    exact ⟨rfl, below_then (below_then HB0.out HB1.out) h2⟩
end Go.Proofs.Ytfbfiecamaginaa
